/- look: every square that is seen is shown, one behind the other · What is kept while squares are told; the sort; the functions that are told · strikers: who strikes a square is told, one behind the other · sees, Strikes, By, Struck. -/
import Derived.Test.YtkebpchhpidogaaGreatDoorPkA08
import Derived.Test.YtkebpchhpidogaaGreatDoorShelf
import Derived.Laws.EntriesVeiled
import Derived.Sort.OwnSortedInts
namespace Go.Proofs.YtkebpchhpidogaaGreatDoor
open Go.RowKit
set_option linter.unusedVariables false
set_option linter.unusedSimpArgs false

/-- Along a way: what was shown, and where one stands. -/
def SeeMid (ans : Int → Nat → Nat → Bool) (B : List Int) (s : Int) (n : Nat) (l : List Int) (t : Int) (on : Bool) (D : List (Int × Nat × Nat)) : Prop :=
  RayMid s (wayF n) (wayR n) l t on ∧ seeL ans B n 1 (rayW s n) = D ++ seeL ans B n (l.length + 1) ((rayW s n).drop l.length)
theorem SeeMid.start {ans : Int → Nat → Nat → Bool} {B : List Int} {s t : Int} {n : Nat} {on : Bool} (h : RayMid s (wayF n) (wayR n) [] t on) : SeeMid ans B s n [] t on [] := ⟨h, rfl⟩
theorem RayMid.drop_on {s f r t : Int} {l : List Int} (h : RayMid s f r l t true) : (rayL s f r).drop l.length = t :: (rayL s f r).drop (l.length + 1) := by
  rcases h with ⟨_, _, n, _, e⟩ | ⟨h, _⟩
  · rw [e, List.drop_left, List.drop_append, List.drop_of_length_le (show l.length ≤ l.length + 1 by omega)]
    simp
  · cases h
theorem RayMid.at_on {s t : Int} {n : Nat} {l : List Int} (h : RayMid s (wayF n) (wayR n) l t true) : (rayW s n)[l.length]? = some t := by
  have e := h.drop_on
  have : ((rayL s (wayF n) (wayR n)).drop l.length)[0]? = some t := by rw [e]; rfl
  rw [List.getElem?_drop] at this
  unfold rayW
  simpa using this
theorem SeeMid.next {ans : Int → Nat → Nat → Bool} {B : List Int} {s t u : Int} {n : Nat} {l : List Int} {on : Bool} {D : List (Int × Nat × Nat)} (h : SeeMid ans B s n l t true D)
    (ha : ans t n (l.length + 1) = true) (hb : bAt B t = 0) (h' : RayMid s (wayF n) (wayR n) (l ++ [t]) u on) : SeeMid ans B s n (l ++ [t]) u on (D ++ [(t, n, l.length + 1)]) := by
  refine ⟨h', ?_⟩
  have e : (rayW s n).drop l.length = t :: (rayW s n).drop (l.length + 1) := h.1.drop_on
  rw [h.2, e, seeL, ha, hb, List.length_append, List.length_singleton]
  simp
theorem SeeMid.stop {ans : Int → Nat → Nat → Bool} {B : List Int} {s t : Int} {n : Nat} {l : List Int} {D : List (Int × Nat × Nat)} (h : SeeMid ans B s n l t true D)
    (ha : ans t n (l.length + 1) = false ∨ bAt B t ≠ 0) : seeL ans B n 1 (rayW s n) = D ++ [(t, n, l.length + 1)] := by
  have e : (rayW s n).drop l.length = t :: (rayW s n).drop (l.length + 1) := h.1.drop_on
  rw [h.2, e, seeL, if_neg (by rw [Bool.and_eq_true, beq_iff_eq]; rintro ⟨a, b⟩; rcases ha with h | h; rw [h] at a; cases a; exact h b)]
theorem SeeMid.off {ans : Int → Nat → Nat → Bool} {B : List Int} {s t : Int} {n : Nat} {l : List Int} {D : List (Int × Nat × Nat)} (h : SeeMid ans B s n l t false D) : seeL ans B n 1 (rayW s n) = D := by
  have e : rayW s n = l := h.1.done
  rw [h.2, e, List.drop_length, seeL, List.append_nil]
theorem board_cell {w : World} {gb : Nat} {B : List Int} (hB : Brd B) (h : w.heap[gb]? = some (.cells (cl B).toArray 24 (0, 0))) (k : Nat) (hk : k < 64) :
    w.cell? ⟨gb, k, none⟩ = some (.int .i8 (B.getD k 0)) := by
  rw [cell_of_row _ _ k _ _ (0, 0) h]
  simpa using cl_get B k (by rw [hB.1]; exact hk)
theorem see_len (ans : Int → Nat → Nat → Bool) (B : List Int) (way : Nat) : ∀ (R : List Int) (f0 : Nat), (seeL ans B way f0 R).length ≤ R.length
  | [], f0 => by simp [seeL]
  | z :: R, f0 => by
    unfold seeL
    split
    · have := see_len ans B way R (f0 + 1)
      simp; omega
    · simp
theorem lookN_len (ans : Int → Nat → Nat → Bool) (B : List Int) (s : Int) : ∀ n, (lookN ans B s n).length ≤ 8 * n
  | 0 => by simp [lookN]
  | n + 1 => by
    have h1 := lookN_len ans B s n
    have h2 := see_len ans B n (rayW s n) 1
    have h3 := rayL_len s (wayF n) (wayR n)
    rw [lookN_succ, List.length_append]
    unfold rayW at h2 ⊢
    omega
theorem SeeMid.len {ans : Int → Nat → Nat → Bool} {B : List Int} {s t : Int} {n : Nat} {l : List Int} {on : Bool} {D : List (Int × Nat × Nat)} (h : SeeMid ans B s n l t on D) (hn : n < 16) : (lookN ans B s n ++ D).length ≤ 200 := by
  have h1 := lookN_len ans B s n
  have h2 := see_len ans B n (rayW s n) 1
  have h3 : (rayW s n).length ≤ 8 := rayL_len s (wayF n) (wayR n)
  have h4 := congrArg List.length h.2
  rw [List.length_append] at h4 ⊢
  omega
theorem fun_enters {f : FuncId} {fn : Func} {c : Code} (hf : Tryz.prog.funcs[f]? = some fn) (hname : (fn.name == "runtime.NumGoroutine") = false) (hb : fn.body = some c) (args : Array Value) (w : World) :
    (callFunc f args).run Tryz.prog w = .ok (.enter f args) w := by
  have h1 : fn.name ≠ "runtime.NumGoroutine" := by simpa using hname
  simp [callFunc, hf, h1, hb]
/-- What is said of a function that is shown squares. -/
structure Sees (B : List Int) (s : Int) (gb k : Nat) (caps : Array Value) (ans : Int → Nat → Nat → Bool) (Inv : List (Int × Nat × Nat) → World → Prop) : Prop where
  ent : ∀ args w, (callFunc k args).run Tryz.prog w = .ok (.enter k args) w
  keep : ∀ l w w', Inv l w → Kept w w' → Inv l w'
  st : ∀ l w, Inv l w → Steps w
  bd : ∀ l w, Inv l w → w.heap[gb]? = some (.cells (cl B).toArray 24 (0, 0))
  see : ∀ (l : List (Int × Nat × Nat)) (t way far : Nat) (w : World), Inv l w → l.length ≤ 200 → t < 64 → way < 16 → 1 ≤ far → far ≤ 8 → (rayW s way)[far - 1]? = some (t : Int) →
    Calls Tryz.prog k (#[.int .i64 (t : Int), .int .i64 (way : Int), .int .i64 (far : Int)] ++ caps) w fun e w' => e = .returned (.bool (ans (t : Int) way far)) ∧ Inv (l ++ [((t : Int), way, far)]) w'
set_option maxHeartbeats 2000000 in
theorem look_is (B : List Int) (hB : Brd B) (gb : Nat) (s : Int) (k : Nat) (caps : Array Value) (ans : Int → Nat → Nat → Bool) (Inv : List (Int × Nat × Nat) → World → Prop) (hS : Sees B s gb k caps ans Inv) (w : World) (hI : Inv [] w) :
    Calls Tryz.prog 89 #[.pointer (some ⟨gb, 0, none⟩), .int .i64 s, .func (.func k) #[] caps] w fun e w' => e = .returned (.tuple #[]) ∧ Inv (lookL ans B s) w' := by
  have HB := Lib.hid hB
  have HS := Lib.hid hS
  have hent := hS.ent
  have HI := Lib.hid hI
  clear hB hS hI
  go_enter Tryz.func89, Tryz.ntmps89
  go_wp2
  go_loopw [12] (fun t12 wr => ∃ n : Nat, n ≤ 16 ∧ t12 = .int .i64 n ∧ Inv (lookN ans B s n) wr) (fun t12 _ => 16 - (intOf t12).toNat)
  case atStart => exact ⟨0, by omega, rfl, HI.out⟩
  case round =>
    obtain ⟨n, hn, rfl, hI⟩ := hrel
    have HI := Lib.hid hI
    clear hI
    by_cases hlt : n < 16
    · have hlt' : (n : Int) < 16 := by omega
      have HNx := Lib.hid (lookN_succ ans B s n)
      have HP := Lib.hid (step_any · (wayF n) (wayR n) · (wayF_wf n hlt).1 (wayF_wf n hlt).2)
      have H0 := Lib.hid (back_way hlt).2.2.2.2.2
      go_wp2_with fail
      refine (wstep_is n hlt _ (HS.out.st _ _ HI.out)).mono ?_
      rintro e w1 ⟨rfl, k1⟩
      have HI1 := Lib.hid (HS.out.keep _ _ _ HI.out k1)
      clear k1
      go_wp2_with fail
      refine (HP.out _ _).mono ?_
      rintro e w' ⟨⟨t, on, rfl, ht⟩, rfl⟩
      have HM := Lib.hid (SeeMid.start (ans := ans) (B := B) (RayMid.first H0.out ht))
      clear ht
      go_wp2
      go_loopw [9, 10, 11] (fun t9 t10 t11 wr => ∃ (l : List Int) (D : List (Int × Nat × Nat)) (t : Int) (on : Bool) (far : Nat), t9 = .int .i64 t ∧ t10 = .bool on ∧ t11 = .int .i64 far ∧ far = l.length + 1 ∧ SeeMid ans B s n l t on D ∧ Inv (lookN ans B s n ++ D) wr) (fun _ _ t11 _ => 9 - (intOf t11).toNat)
      case atStart => exact ⟨[], [], t, on, 1, rfl, rfl, rfl, rfl, HM.out, by rw [List.append_nil]; exact HI1.out⟩
      case round =>
        obtain ⟨l, D, t, on, far, rfl, rfl, rfl, hfar, hm, hI2⟩ := hrel
        have HM := Lib.hid hm
        have HI2 := Lib.hid hI2
        have HF := Lib.hid hfar
        clear hm hI2 hfar
        cases on
        · have HN2 := Lib.hid (show Inv (lookN ans B s (n + 1)) _ by rw [HNx.out, HM.out.off]; exact HI2.out)
          go_wp2
          go_roundw
          case rel => exact ⟨n + 1, by omega, by go_num, HN2.out⟩
          case measure => simp [intOf]; omega
        · obtain ⟨t0, t1, hlen⟩ := HM.out.1.far H0.out
          obtain ⟨tn, rfl⟩ := Int.eq_ofNat_of_zero_le t0
          have ht64 : tn < 64 := by omega
          have hfar8 : far ≤ 8 := by have := HF.out; omega
          have hsee := HS.out.see _ tn n far _ HI2.out (HM.out.len hlt) ht64 hlt (by have := HF.out; omega) hfar8 (by rw [HF.out, Nat.add_sub_cancel]; exact HM.out.1.at_on)
          obtain ⟨a, ha⟩ : ∃ a, ans (tn : Int) n far = a := ⟨_, rfl⟩
          rw [ha] at hsee
          have HA := Lib.hid ha
          have HSee := Lib.hid hsee
          clear ha hsee
          cases a
          · have HStop := Lib.hid (HM.out.stop (.inl (by rw [← HF.out]; exact HA.out)))
            go_wp2_with fail
            refine HSee.out.mono ?_
            rintro e w3 ⟨rfl, hI3⟩
            have HN2 := Lib.hid (show Inv (lookN ans B s (n + 1)) w3 by rw [HNx.out, HStop.out, ← HF.out, ← List.append_assoc]; exact hI3)
            clear hI3
            go_wp2
            go_roundw
            case rel => exact ⟨n + 1, by omega, by go_num, HN2.out⟩
            case measure => simp [intOf]; omega
          · obtain ⟨x, hx⟩ : ∃ x, bAt B (tn : Int) = x := ⟨_, rfl⟩
            have hx' : B.getD tn 0 = x := by rw [← hx]; rfl
            have HX := Lib.hid hx
            by_cases h0 : x = 0
            · have b0 : (x == 0) = true := by simpa using h0
              have H00 := Lib.hid h0
              clear h0 hx
              go_wp2_with fail
              refine HSee.out.mono ?_
              rintro e w3 ⟨rfl, hI3⟩
              have hc := board_cell HB.out (HS.out.bd _ _ hI3) tn ht64
              rw [hx'] at hc
              have HI3 := Lib.hid hI3
              clear hI3 hx'
              go_wp2_with fail
              refine (HP.out _ _).mono ?_
              rintro e w' ⟨⟨u, on, rfl, hu⟩, rfl⟩
              have HU := Lib.hid (HM.out.1.next H0.out hu)
              clear hu
              have HM2 := Lib.hid (HM.out.next (by rw [← HF.out]; exact HA.out) (by rw [HX.out]; exact H00.out) HU.out)
              go_wp2
              go_roundw
              case rel => exact ⟨l ++ [(tn : Int)], D ++ [((tn : Int), n, l.length + 1)], u, on, far + 1, rfl, rfl, by go_num, by rw [HF.out]; simp, HM2.out, by rw [← List.append_assoc, ← HF.out]; exact HI3.out⟩
              case measure => simp [intOf]; omega
            · have b0 : (x == 0) = false := by simpa using h0
              have HStop := Lib.hid (HM.out.stop (.inr (by rw [hx]; exact h0)))
              clear h0 hx
              go_wp2_with fail
              refine HSee.out.mono ?_
              rintro e w3 ⟨rfl, hI3⟩
              have hc := board_cell HB.out (HS.out.bd _ _ hI3) tn ht64
              rw [hx'] at hc
              have HN2 := Lib.hid (show Inv (lookN ans B s (n + 1)) w3 by rw [HNx.out, HStop.out, ← HF.out, ← List.append_assoc]; exact hI3)
              clear hI3 hx'
              go_wp2
              go_roundw
              case rel => exact ⟨n + 1, by omega, by go_num, HN2.out⟩
              case measure => simp [intOf]; omega
    · have hlt' : ¬ (n : Int) < 16 := by omega
      have HE := Lib.hid (show Inv (lookL ans B s) _ by unfold lookL; rw [show 16 = n by omega]; exact HI.out)
      go_wp2
      refine bodyPost_end (results_none rfl _ _ _) rfl ?_
      exact ⟨rfl, HE.out⟩
end Go.Proofs.YtkebpchhpidogaaGreatDoor
namespace Go.Proofs.YtkebpchhpidogaaGreatDoor
open Go.RowKit
set_option linter.unusedVariables false
set_option linter.unusedSimpArgs false

/-- All that was there is as it was, but for block g. -/
structure KB (W : World) (g : Nat) (w : World) : Prop where
  os : w.os = W.os
  output : w.output = W.output
  size : W.heap.size ≤ w.heap.size
  block : ∀ k, k < W.heap.size → k ≠ g → w.heap[k]? = W.heap[k]?
theorem KB.refl (W : World) (g : Nat) : KB W g W := ⟨rfl, rfl, Nat.le_refl _, fun _ _ _ => rfl⟩
theorem KB.kept {W w w' : World} {g : Nat} (h : KB W g w) (k : Kept w w') : KB W g w' :=
  ⟨k.os.trans h.os, k.output.trans h.output, Nat.le_trans h.size k.size, fun i hi hne => (k.block i (Nat.lt_of_lt_of_le hi h.size)).trans (h.block i hi hne)⟩
theorem KB.heap {W w : World} {g k : Nat} {o : Obj} (h : KB W g w) (hne : k ≠ g) (hk : W.heap[k]? = some o) : w.heap[k]? = some o :=
  (h.block k (lt_of_heap hk) hne).trans hk
theorem KB.cell {W w : World} {g : Nat} {a : Addr} {v : Value} (h : KB W g w) (hne : a.block ≠ g) (hk : W.cell? a = some v) : w.cell? a = some v :=
  (World.cell?_of_block (h.block a.block (World.block_lt_of_cell? W a hk) hne)).trans hk
theorem KB.steps {W w : World} {g : Nat} (h : KB W g w) (hne : 8 ≠ g) (hk : Steps W) : Steps w :=
  fun i hi => ⟨h.cell hne (hk i hi).1, h.cell hne (hk i hi).2⟩
/-- From a world below: the block is new. -/
theorem KB.below {V W w : World} {g : Nat} (h : KB W g w) (k : Kept V W) (hg : V.heap.size ≤ g) : Kept V w :=
  ⟨h.os.trans k.os, h.output.trans k.output, Nat.le_trans k.size h.size, fun i hi => (h.block i (Nat.lt_of_lt_of_le hi k.size) (by omega)).trans (k.block i hi)⟩
/-- The box of a slice that grows. -/
structure OutBox (W : World) (go : Nat) (l : List Int) (w : World) : Prop where
  kb : KB W go w
  low : go < W.heap.size
  box : ∃ v, w.heap[go]? = some (.cells #[v] 93 (0, 0)) ∧ OwnZ w W.heap.size v l
theorem OutBox.kept {W w w' : World} {go : Nat} {l : List Int} (h : OutBox W go l w) (k : Kept w w') : OutBox W go l w' := by
  obtain ⟨v, h1, h2⟩ := h.box
  exact ⟨h.kb.kept k, h.low, v, k.heap h1, h2.kept k⟩
theorem OutBox.start {W : World} {go : Nat} (h : W.heap[go]? = some (.cells #[.slice none 0 0] 93 (0, 0))) : OutBox W go [] W :=
  ⟨KB.refl _ _, lt_of_heap h, _, h, OwnZ.nil _ _⟩
theorem cell_box {w : World} {g : Nat} {v : Value} {e : TypeId} (h : w.heap[g]? = some (.cells #[v] e (0, 0))) : w.cell? ⟨g, 0, none⟩ = some v := by
  rw [cell_of_row _ _ 0 _ _ (0, 0) h]; rfl
theorem frozen_box {w : World} {g : Nat} {v : Value} {e : TypeId} (h : w.heap[g]? = some (.cells #[v] e (0, 0))) : w.frozen? ⟨g, 0, none⟩ = false := by
  simp [World.frozen?, h]
theorem OwnZ.other {w w' : World} {base : Nat} {v : Value} {l : List Int} (h : OwnZ w base v l) (hb : ∀ k, base ≤ k → k < w.heap.size → w'.heap[k]? = w.heap[k]?) : OwnZ w' base v l := by
  obtain ⟨h1, h2⟩ := h
  refine ⟨h1, ?_⟩
  rcases h2 with h2 | ⟨b, cap, cur, e1, e2, e3, e4⟩
  · exact .inl h2
  · exact .inr ⟨b, cap, cur, e1, e2, (hb b e2 (lt_of_heap e3)).trans e3, e4⟩
/-- One is put behind, and the box holds it. -/
theorem OutBox.push {W w w1 w2 : World} {go : Nat} {l l' : List Int} {v v' : Value} (h : OutBox W go l w) (k : Kept w w1) (hv : OwnZ w1 W.heap.size v l) (hg : w1.grownBy w2 v.ownBlock)
    (hown : OwnZ w2 W.heap.size v' l') : OutBox W go l' (w2.setCell ⟨go, 0, none⟩ v') := by
  obtain ⟨v0, h1, h2⟩ := h.box
  have hlo : ∀ g, v.ownBlock = some g → W.heap.size ≤ g := fun g hg' => (World.ownsRow.lt hv g hg').1
  have k1 := h.kb.kept k
  have hlow := h.low
  have hgo : w2.heap[go]? = some (.cells #[v0] 93 (0, 0)) :=
    (hg.block go (Nat.lt_of_lt_of_le h.low k1.size) (fun e => by have := hlo go e.symm; omega)).trans (k.heap h1)
  refine ⟨⟨hg.os.trans k1.os, hg.output.trans k1.output, ?_, fun i hi hne => ?_⟩, h.low, v', ?_, ?_⟩
  · have := hg.size; have := k1.size; simp [World.setCell]; omega
  · rw [heap_setCell_other _ _ _ _ (by simpa using hne), hg.block i (Nat.lt_of_lt_of_le hi k1.size) (fun e => by have := hlo i e.symm; omega)]
    exact k1.block i hi hne
  · rw [heap_setCell_same _ _ _ _ _ _ hgo]; rfl
  · exact hown.other fun b hb _ => heap_setCell_other _ _ _ _ (by simp; omega)
/-- Another slice of the call's own is put into the box. -/
theorem OutBox.put {W w w2 : World} {go : Nat} {l l' : List Int} {v' : Value} (h : OutBox W go l w) (k : Kept w w2) (hown : OwnZ w2 w.heap.size v' l') : OutBox W go l' (w2.setCell ⟨go, 0, none⟩ v') := by
  obtain ⟨v0, h1, h2⟩ := h.box
  have k1 := h.kb.kept k
  have hlow := h.low
  have hsz := h.kb.size
  refine ⟨⟨k1.os, k1.output, ?_, fun i hi hne => ?_⟩, h.low, v', ?_, ?_⟩
  · have := k1.size; simpa [World.setCell] using this
  · rw [heap_setCell_other _ _ _ _ (by simpa using hne)]; exact k1.block i hi hne
  · rw [heap_setCell_same _ _ _ _ _ _ (k.heap h1)]; rfl
  · exact (hown.low hsz).other fun b hb _ => heap_setCell_other _ _ _ _ (by simp; omega)
def srt (l : List Int) : List Int := l.mergeSort fun x y => decide (x ≤ y)
theorem srt_len (l : List Int) : (srt l).length = l.length := (List.mergeSort_perm l _).length_eq
theorem sort_own (w : World) (base : Nat) (v : Value) (l : List Int) (h : OwnZ w base v l) (hl : l.length ≤ 1000) :
    Calls Tryz.prog 92 #[v] w fun e w' => e = .returned (.tuple #[]) ∧ OwnZ w' base v (srt l) ∧ w.grownBy w' v.ownBlock := by
  rcases h.2 with ⟨rfl, h0⟩ | ⟨g, cap, cur, rfl, hb, hh, h1, h2, h3, h4⟩
  · refine (Tryz.slices_Sort_int_none none 0 w).mono ?_
    rintro e w' ⟨rfl, rfl⟩
    have : l = [] := List.eq_nil_of_length_eq_zero h0
    subst this
    exact ⟨rfl, by simpa [srt] using h, rfl, rfl, rfl, Nat.le_refl _, fun _ _ _ => rfl⟩
  · have hH := holds_of_blockI (ss := l) hh (by rw [Nat.mul_one] at h4; exact h4)
    refine (Tryz.slices_Sort_int g 0 cap l w hH (lt_of_heap hh) (by omega)).mono ?_
    rintro e w' ⟨rfl, n, os, rfl⟩
    refine ⟨rfl, ?_, grownBy_sortedI _⟩
    have := ownsRow_sortedI (n := n) (os := os) (ss := l) (ts := srt l) (base := base) (srt_len l) hb hh h1 h2 h3
    unfold OwnZ zl
    rw [srt_len]
    exact this
/-- The box behind the sort. -/
theorem OutBox.sorted {W w w' : World} {go : Nat} {l : List Int} {v : Value} (h : OutBox W go l w) (h1 : w.heap[go]? = some (.cells #[v] 93 (0, 0))) (h2 : OwnZ w W.heap.size v l) (hs : OwnZ w' W.heap.size v (srt l)) (hg : w.grownBy w' v.ownBlock) :
    w'.heap[go]? = some (.cells #[v] 93 (0, 0)) ∧ KB W go w' := by
  have hlo : ∀ g, v.ownBlock = some g → W.heap.size ≤ g := fun g hg' => (World.ownsRow.lt h2 g hg').1
  have hsz := h.kb.size
  have hlow := h.low
  refine ⟨(hg.block go (by omega) (fun e => by have := hlo go e.symm; omega)).trans h1, hg.os.trans h.kb.os, hg.output.trans h.kb.output, Nat.le_trans h.kb.size hg.size, fun i hi hne => ?_⟩
  rw [hg.block i (by omega) (fun e => by have := hlo i e.symm; omega)]
  exact h.kb.block i hi hne
set_option maxHeartbeats 1000000 in
/-- A square that is struck is put behind. -/
theorem strikes1_is (W : World) (go gm : Nat) (m : Int) (l : List Int) (t way far : Nat) (w : World) (hO : OutBox W go l w) (hl : l.length ≤ 1000) (hm : w.cell? ⟨gm, 0, none⟩ = some (.int .i64 m)) (hS : Steps w) (hw : way < 16) (hf : 1 ≤ far) (hf8 : far ≤ 8) :
    Calls Tryz.prog 90 #[.int .i64 (t : Int), .int .i64 (way : Int), .int .i64 (far : Int), .pointer (some ⟨gm, 0, none⟩), .pointer (some ⟨go, 0, none⟩)] w fun e w' =>
      e = .returned (.bool (reachB m way far)) ∧ OutBox W go (if reachB m way far = true then l ++ [(t : Int)] else l) w' := by
  have HR := Lib.hid (wreach_is m way far hw hf (by omega) w hS)
  have HO := Lib.hid hO
  clear hO hS
  generalize reachB m way far = b at *
  cases b
  · go_enter Tryz.func90, Tryz.ntmps90
    go_wp2_with fail
    refine HR.out.mono ?_
    rintro e w1 ⟨rfl, k1⟩
    have HO1 := Lib.hid (HO.out.kept k1)
    clear k1
    go_wp2
    go_ret
    exact ⟨rfl, HO1.out⟩
  · go_enter Tryz.func90, Tryz.ntmps90
    go_wp2_with fail
    refine HR.out.mono ?_
    rintro e w1 ⟨rfl, k1⟩
    have hO1 := HO.out.kept k1
    obtain ⟨v, h1, h2⟩ := hO1.box
    have hc := cell_box h1
    have HO1 := Lib.hid hO1
    have H2 := Lib.hid h2
    have hsz := Lib.hid hO1.kb.size
    clear k1 hO1 h1 h2 hm
    obtain ⟨a, cap, rfl⟩ := H2.out.slice
    have KA := Lib.hid ((Kept.refl w1).alloc (.cells #[.int .i64 (t : Int)] 3))
    have HA := Lib.hid (H2.out.kept KA.out)
    go_wp2_with (at_builtin; refine wpList_append_z rfl _ _ rfl W.heap.size w1.heap.size _ _ l [(t : Int)] rfl rfl HA.out (LsZ.lit _ [(t : Int)] (by simp)) ?c1 ?c2 ?_)
    case c1 => simp; omega
    case c2 => have := hsz.out; simp; omega
    intro v' w2 hown hg
    have hP := HO1.out.push KA.out HA.out hg hown
    have hgo := Lib.hid hP
    have hq : w2.frozen? ⟨go, 0, none⟩ = false := by
      have hlow := HO1.out.low
      have := (World.ownsRow.lt HA.out)
      obtain ⟨v0, q1, q2⟩ := (HO1.out.kept KA.out).box
      have hb := hg.block go (by have := hsz.out; simp; omega) (fun e => by have := (this go e.symm).1; omega)
      exact frozen_box (hb.trans q1)
    have hq2 : ∃ u, w2.cell? ⟨go, 0, none⟩ = some u := by
      have hlow := HO1.out.low
      have := (World.ownsRow.lt HA.out)
      obtain ⟨v0, q1, q2⟩ := (HO1.out.kept KA.out).box
      have hb := hg.block go (by have := hsz.out; simp; omega) (fun e => by have := (this go e.symm).1; omega)
      exact ⟨v0, cell_box (hb.trans q1)⟩
    obtain ⟨u, hq2⟩ := hq2
    obtain ⟨a', cap', rfl⟩ := hown.slice
    clear hown hg hP
    go_wp2
    go_ret
    exact ⟨rfl, by have h := hgo.out; rw [List.length_append, List.length_singleton] at h; exact h⟩
end Go.Proofs.YtkebpchhpidogaaGreatDoor
namespace Go.Proofs.YtkebpchhpidogaaGreatDoor
open Go.RowKit
set_option linter.unusedVariables false
set_option linter.unusedSimpArgs false

/-- What is said of a function that is told strikers; it turns nothing but block go, and what it lays itself. -/
structure Tells (s : Int) (go k : Nat) (caps : Array Value) (Inv : World → List (Int × Nat × Nat) → World → Prop) : Prop where
  ent : ∀ args w, (callFunc k args).run Tryz.prog w = .ok (.enter k args) w
  keep : ∀ W l w w', Inv W l w → Kept w w' → Inv W l w'
  kb : ∀ W l w, Inv W l w → KB W go w
  tell : ∀ (W : World) (l : List (Int × Nat × Nat)) (t way far : Nat) (w : World), Inv W l w → l.length ≤ 200 → t < 64 → way < 16 → 1 ≤ far → far ≤ 8 → (rayW s way)[far - 1]? = some (t : Int) →
    Calls Tryz.prog k (#[.int .i64 (t : Int), .int .i64 (way : Int), .int .i64 (far : Int)] ++ caps) w fun e w' => e = .returned (.tuple #[]) ∧ Inv W (l ++ [((t : Int), way, far)]) w'
theorem filter_snoc {α : Type} (p : α → Bool) (l : List α) (x : α) : (l ++ [x]).filter p = l.filter p ++ if p x then [x] else [] := by
  rw [List.filter_append]; congr 1; by_cases h : p x <;> simp [h]
set_option maxHeartbeats 2000000 in
theorem strikers1_is (B : List Int) (hB : Brd B) (s side : Int) (gb go k n : Nat) (caps : Array Value) (Inv : World → List (Int × Nat × Nat) → World → Prop) (hT : Tells s go k caps Inv) (W : World)
    (hgb : W.heap[gb]? = some (.cells (cl B).toArray 24 (0, 0))) (h1 : W.cell? ⟨n, 0, none⟩ = some (.pointer (some ⟨gb, 0, none⟩))) (h2 : W.cell? ⟨n + 1, 0, none⟩ = some (.int .i64 side)) (h3 : W.cell? ⟨n + 1 + 1, 0, none⟩ = some (.func (.func k) #[] caps))
    (hS : Steps W) (g0 : 8 ≠ go) (g1 : gb ≠ go) (g2 : go < n)
    (l : List (Int × Nat × Nat)) (t way far : Nat) (w : World) (hI : Inv W (l.filter (toldW B side)) w) (hl : l.length ≤ 200) (ht : t < 64) (hw : way < 16) (hf : 1 ≤ far) (hf8 : far ≤ 8) (hr : (rayW s way)[far - 1]? = some (t : Int)) :
    Calls Tryz.prog 109 #[.int .i64 (t : Int), .int .i64 (way : Int), .int .i64 (far : Int), .pointer (some ⟨n, 0, none⟩), .pointer (some ⟨n + 1, 0, none⟩), .pointer (some ⟨n + 1 + 1, 0, none⟩)] w fun e w' =>
      e = .returned (.bool (ansW (t : Int) way far)) ∧ Inv W ((l ++ [((t : Int), way, far)]).filter (toldW B side)) w' := by
  have hkb := hT.kb _ _ _ hI
  have c1 := hkb.cell (by simp; omega) h1
  have c2 := hkb.cell (by simp; omega) h2
  have c3 := hkb.cell (by simp; omega) h3
  have c4 := board_cell hB (hkb.heap g1 hgb) t ht
  have HSt := Lib.hid (hkb.steps g0 hS)
  have hent := hT.ent
  obtain ⟨hb1, hb2⟩ := hB.2 t ht
  have HTell := Lib.hid (fun w' (h : Kept w w') => hT.tell W _ t way far w' (hT.keep _ _ _ _ hI h) (Nat.le_trans (List.length_filter_le _ _) hl) ht hw hf hf8 hr)
  have HKeep := Lib.hid (fun w' (h : Kept w w') => hT.keep _ _ _ _ hI h)
  have hbk := Lib.hid (wback_is way hw)
  have hans : ansW (t : Int) way far = decide ((way : Int) < 8) := by unfold ansW; simp; omega
  have HFil := Lib.hid (filter_snoc (toldW B side) l ((t : Int), way, far))
  obtain ⟨x, hx⟩ : ∃ x, B.getD t 0 = x := ⟨_, rfl⟩
  have hp : toldW B side ((t : Int), way, far) = ((sideI x == side) && reachB x (backW way) far) := by unfold toldW; simp only [bAt, Int.toNat_natCast, hx]
  rw [hx] at c4 hb1 hb2
  rw [hp] at HFil
  have HR := Lib.hid (fun n => quiet_more (wreach_q x (backW way) far (back_way hw).1 hf (by omega) (w.drewN n) (HSt.out.drew n)))
  rw [hans]
  clear hkb hB hT hI h1 h2 h3 hS hgb hp hx hans hr
  generalize reachB x (backW way) far = b at *
  have hW8 : ((way : Int) < 8) ∨ ¬ ((way : Int) < 8) := by omega
  by_cases hsd : (sideI x == side) = true
  · rw [hsd, Bool.true_and] at HFil
    cases b
    · go_enter Tryz.func109, Tryz.ntmps109
      go_wp2
      go_quiet (first | (go_at_call 30; exact quiet_same (mside_any x _)) | (go_at_call 110; exact quiet_same (hbk.out _)) | (go_at_call 91; exact HR.out _))
      go_wp2
      go_ret
      exact ⟨rfl, by rw [HFil.out]; simp only [Bool.false_eq_true, if_false, List.append_nil]; exact HKeep.out _ ((Kept.refl w).drewN _)⟩
    · go_enter Tryz.func109, Tryz.ntmps109
      go_wp2
      go_quiet (first | (go_at_call 30; exact quiet_same (mside_any x _)) | (go_at_call 110; exact quiet_same (hbk.out _)) | (go_at_call 91; exact HR.out _))
      go_wp2_with fail
      refine (HTell.out _ ((Kept.refl w).drewN _)).mono ?_
      rintro e w3 ⟨rfl, hI3⟩
      have HI3 := Lib.hid hI3
      clear hI3
      go_wp2
      go_ret
      exact ⟨rfl, by rw [HFil.out]; exact HI3.out⟩
  · have hsd' : (sideI x == side) = false := by simpa using hsd
    rw [hsd', Bool.false_and] at HFil
    clear hsd
    go_enter Tryz.func109, Tryz.ntmps109
    go_wp2
    go_quiet (first | (go_at_call 30; exact quiet_same (mside_any x _)))
    go_wp2
    go_ret
    exact ⟨rfl, by rw [HFil.out]; simp only [Bool.false_eq_true, if_false, List.append_nil]; exact HKeep.out _ ((Kept.refl w).drewN _)⟩
set_option maxHeartbeats 1000000 in
theorem strikers_is (B : List Int) (hB : Brd B) (s side : Int) (gb go k : Nat) (caps : Array Value) (Inv : World → List (Int × Nat × Nat) → World → Prop) (hT : Tells s go k caps Inv) (w : World)
    (hgb : w.heap[gb]? = some (.cells (cl B).toArray 24 (0, 0))) (hS : Steps w) (g0 : 8 ≠ go) (g1 : gb ≠ go) (g2 : go < w.heap.size) (hstart : ∀ w1, Kept w w1 → Inv w1 [] w1) :
    Calls Tryz.prog 101 #[.pointer (some ⟨gb, 0, none⟩), .int .i64 s, .int .i64 side, .func (.func k) #[] caps] w fun e w' => e = .returned (.tuple #[]) ∧ ∃ W, Kept w W ∧ Inv W (tellL B s side) w' := by
  obtain ⟨W, eW⟩ : ∃ W, W = ((w.alloc (.cells #[.pointer (some ⟨gb, 0, none⟩)] 121)).alloc (.cells #[.int .i64 side] 3)).alloc (.cells #[.func (.func k) #[] caps] 132) := ⟨_, rfl⟩
  have HW := Lib.hid eW
  have hK : Kept w W := by rw [eW]; exact (((Kept.refl w).alloc _).alloc _).alloc _
  have e1 : W.heap[w.heap.size]? = some (.cells #[.pointer (some ⟨gb, 0, none⟩)] 121 (0, 0)) := by
    rw [eW]; exact (((Kept.refl _).alloc _).alloc _).heap (heap_alloc_new w _)
  have e2 : W.heap[w.heap.size + 1]? = some (.cells #[.int .i64 side] 3 (0, 0)) := by
    rw [eW]
    have := ((Kept.refl _).alloc (.cells #[.func (.func k) #[] caps] 132)).heap (heap_alloc_new (w.alloc (.cells #[.pointer (some ⟨gb, 0, none⟩)] 121)) (.cells #[.int .i64 side] 3))
    simpa using this
  have e3 : W.heap[w.heap.size + 1 + 1]? = some (.cells #[.func (.func k) #[] caps] 132 (0, 0)) := by
    rw [eW]
    have := heap_alloc_new ((w.alloc (.cells #[.pointer (some ⟨gb, 0, none⟩)] 121)).alloc (.cells #[.int .i64 side] 3)) (.cells #[.func (.func k) #[] caps] 132)
    simpa using this
  have HC := Lib.hid (cell_box e1)
  have hSees : Sees B s gb 109 #[.pointer (some ⟨w.heap.size, 0, none⟩), .pointer (some ⟨w.heap.size + 1, 0, none⟩), .pointer (some ⟨w.heap.size + 1 + 1, 0, none⟩)] ansW (fun l w' => Inv W (l.filter (toldW B side)) w') := by
    refine ⟨fun args w => fun_enters Tryz.func109 (by kernel_rfl) rfl args w, fun l w w' h k => hT.keep _ _ _ _ h k, fun l w' h => (hT.kb _ _ _ h).steps g0 (hS.kept hK), fun l w' h => (hT.kb _ _ _ h).heap g1 (hK.heap hgb), ?_⟩
    intro l t way far w' hI hl ht hw hf hf8 hr
    exact strikers1_is B hB s side gb go k w.heap.size caps Inv hT W (hK.heap hgb) (cell_box e1) (cell_box e2) (cell_box e3) (hS.kept hK) g0 g1 g2 l t way far w' hI hl ht hw hf hf8 hr
  have HL := Lib.hid (look_is B hB gb s 109 _ ansW _ hSees W (hstart W hK))
  have HK := Lib.hid hK
  clear eW hSees hT hgb hS hstart hK e1 e2 e3
  go_enter Tryz.func101, Tryz.ntmps101
  go_wp2_with fail
  rw [← HW.out]
  refine HL.out.mono ?_
  rintro e w3 ⟨rfl, hI3⟩
  have HI3 := Lib.hid hI3
  clear hI3
  go_wp2
  refine bodyPost_end (results_none rfl _ _ _) rfl ?_
  exact ⟨rfl, W, HK.out, HI3.out⟩
end Go.Proofs.YtkebpchhpidogaaGreatDoor
namespace Go.Proofs.YtkebpchhpidogaaGreatDoor
open Go.RowKit
set_option linter.unusedVariables false
set_option linter.unusedSimpArgs false

theorem okS_yes {s : Int} (h0 : 0 ≤ s) (h1 : s < 64) : okS s = true := by unfold okS; simp [h0, h1]
theorem okS_no {s : Int} (h : s < 0 ∨ 64 ≤ s) : okS s = false := by unfold okS; simp; omega
theorem okS_iff {s : Int} : okS s = true ↔ 0 ≤ s ∧ s < 64 := by unfold okS; simp
theorem Steps.low {w : World} (h : Steps w) : 8 < w.heap.size := World.block_lt_of_cell? w _ (h 0 (by omega)).1
theorem sees_is (a : Addr) (B : List Int) (hB : Brd B) (s : Int) (w : World) :
    Calls Tryz.prog 88 #[.pointer (some a), .agg (cl B).toArray, .int .i64 s] w fun e w' => e = .returned (.bool (okS s && rightB B)) ∧ Kept w w' := by
  have hz := Lib.hid (size_cl hB.1)
  have hbl := Lib.hid (heap_alloc_new w (.cells (cl B).toArray 24))
  have HB := Lib.hid hB
  clear hB
  by_cases hs : s < 0 ∨ 64 ≤ s
  · rw [okS_no hs, Bool.false_and]
    have HS := Lib.hid hs
    clear hs
    go_enter Tryz.func88, Tryz.ntmps88
    go_wp2_with fail
    refine (right_no _ _ HS.out).mono ?_
    rintro e w' ⟨rfl, rfl⟩
    go_wp2
    go_ret
    exact ⟨rfl, (Kept.refl _).alloc _⟩
  · rw [okS_yes (by omega) (by omega), Bool.true_and]
    go_enter Tryz.func88, Tryz.ntmps88
    go_wp2_with fail
    refine (right_yes _ _ (by omega) (by omega)).mono ?_
    rintro e w' ⟨rfl, rfl⟩
    go_wp2_with (refine wpList_load_w (by rfl) _ rfl _ rfl _ (hbl.out) hz.out ?_)
    refine (bright_is B HB.out _).mono ?_
    rintro e w1 ⟨rfl, k1⟩
    have HK := Lib.hid (((Kept.refl w).alloc _).trans k1)
    clear k1
    go_wp2
    go_ret
    exact ⟨rfl, HK.out⟩
theorem sees_nil (B : List Int) (s : Int) (w : World) :
    Calls Tryz.prog 88 #[.pointer none, .agg (cl B).toArray, .int .i64 s] w fun e w' => e = .returned (.bool false) ∧ Kept w w' := by
  go_enter Tryz.func88, Tryz.ntmps88
  go_wp2
  go_ret
  exact ⟨rfl, (Kept.refl _).alloc _⟩
theorem told_snoc (m : Int) (l : List (Int × Nat × Nat)) (t : Int) (way far : Nat) :
    ((l ++ [(t, way, far)]).filter (toldM m)).map (·.1) = if reachB m way far = true then (l.filter (toldM m)).map (·.1) ++ [t] else (l.filter (toldM m)).map (·.1) := by
  rw [filter_snoc]
  show ((l.filter (toldM m)) ++ if reachB m way far = true then [(t, way, far)] else []).map (·.1) = _
  split <;> simp
set_option maxHeartbeats 2000000 in
set_option maxRecDepth 100000 in
theorem strikes_is (a : Addr) (B : List Int) (hB : Brd B) (s : Int) (w : World) (hS : Steps w) :
    Calls Tryz.prog 69 #[.pointer (some a), .agg (cl B).toArray, .int .i64 s] w (NewZ w (if okS s && rightB B then zn (strikesN B s) else [])) := by
  have hz := Lib.hid (size_cl hB.1)
  have hbl := Lib.hid (heap_alloc_new w (.cells (cl B).toArray 24))
  have HB := Lib.hid hB
  have HSt := Lib.hid hS
  have hSee := Lib.hid (sees_is a B hB s)
  clear hS
  cases hc : okS s && rightB B
  · rw [hc] at hSee
    clear hB hc
    rw [if_neg (by simp)]
    go_enter Tryz.func69, Tryz.ntmps69
    go_wp2_with (refine wpList_load_w (by rfl) _ rfl _ rfl _ (hbl.out) hz.out ?_)
    refine (hSee.out _).mono ?_
    rintro e w1 ⟨rfl, k1⟩
    have HK := Lib.hid (((Kept.refl w).alloc _).trans k1)
    clear k1
    go_wp2
    go_ret
    exact ⟨_, rfl, OwnZ.nil _ _, HK.out⟩
  · rw [hc] at hSee
    rw [if_pos rfl]
    obtain ⟨h0, h1⟩ := okS_iff.1 (Bool.and_eq_true _ _ ▸ hc).1
    obtain ⟨n, rfl⟩ := Int.eq_ofNat_of_zero_le h0
    have hn : n < 64 := by omega
    obtain ⟨hb1, hb2⟩ := hB.2 n hn
    have hOut := Lib.hid (sort_outM B (n : Int) h0 h1)
    have hx : bAt B (n : Int) = B.getD n 0 := rfl
    have hlen : (outM B (n : Int)).length ≤ 1000 := by
      unfold outM lookL
      have h1 := List.length_filter_le (toldM (bAt B (n : Int))) (lookN (ansM (bAt B (n : Int))) B n 16)
      have h2 := lookN_len (ansM (bAt B (n : Int))) B n 16
      rw [List.length_map]
      omega
    have HLen := Lib.hid hlen
    have HLk := Lib.hid (show ∀ (k : Nat) (caps : Array Value) (Inv : List (Int × Nat × Nat) → World → Prop) (hS : Sees B (n : Int) w.heap.size k caps (ansM (bAt B (n : Int))) Inv) (W : World) (hI : Inv [] W), _ from fun k caps Inv hS W hI => look_is B hB w.heap.size (n : Int) k caps _ Inv hS W hI)
    have HO : Hid (((lookL (ansM (bAt B (n : Int))) B (n : Int)).filter (toldM (bAt B (n : Int)))).map (·.1) = outM B (n : Int)) := rfl
    rw [hx] at HLk HO
    clear hB hc hx hlen
    generalize hxx : B.getD n 0 = x at *
    go_enter Tryz.func69, Tryz.ntmps69
    go_wp2_with (refine wpList_load_w (by rfl) _ rfl _ rfl _ (hbl.out) hz.out ?_)
    refine (hSee.out _).mono ?_
    rintro e w1 ⟨rfl, k1⟩
    have hb1' := k1.heap hbl.out
    have hcell := board_cell HB.out hb1' n hn
    rw [hxx] at hcell
    replace hcell := kept_cell ((Kept.refl w1).alloc (.cells #[.slice none 0 0] 93)) hcell
    have hwlt : w.heap.size < w1.heap.size := lt_of_heap hb1'
    obtain ⟨W, eW⟩ : ∃ W, W = (w1.alloc (.cells #[.slice none 0 0] 93)).alloc (.cells #[.int .i64 x] 3) := ⟨_, rfl⟩
    have HW := Lib.hid eW
    have hKW : Kept w1 W := by rw [eW]; exact ((Kept.refl _).alloc _).alloc _
    have hgo : W.heap[w1.heap.size]? = some (.cells #[.slice none 0 0] 93 (0, 0)) := by rw [eW]; exact ((Kept.refl _).alloc _).heap (heap_alloc_new w1 _)
    have hgm : W.heap[w1.heap.size + 1]? = some (.cells #[.int .i64 x] 3 (0, 0)) := by
      rw [eW]
      have := heap_alloc_new (w1.alloc (.cells #[.slice none 0 0] 93)) (.cells #[.int .i64 x] 3)
      simpa using this
    have hKw : Kept w W := ((Kept.refl w).alloc _).trans (k1.trans hKW)
    have hStW := HSt.out.kept hKw
    have hlowG := HSt.out.low
    have hSees : Sees B (n : Int) w.heap.size 90 #[.pointer (some ⟨w1.heap.size + 1, 0, none⟩), .pointer (some ⟨w1.heap.size, 0, none⟩)] (ansM x) (fun l w' => OutBox W w1.heap.size ((l.filter (toldM x)).map (·.1)) w') := by
      refine ⟨fun args w => fun_enters Tryz.func90 (by kernel_rfl) rfl args w, fun l w w' h k => h.kept k, fun l w' h => h.kb.steps (by omega) hStW, fun l w' h => h.kb.heap (by omega) (hKW.heap hb1'), ?_⟩
      intro l t way far w' hI hl ht hw hf hf8 hr
      rw [told_snoc]
      exact strikes1_is W w1.heap.size (w1.heap.size + 1) x _ t way far w' hI (by rw [List.length_map]; have := List.length_filter_le (toldM x) l; omega) (hI.kb.cell (by simp) (cell_box hgm)) (hI.kb.steps (by omega) hStW) hw hf hf8
    have HLook := Lib.hid (HLk.out _ _ _ hSees W (OutBox.start hgo))
    have HKw := Lib.hid hKw
    have Hlt := Lib.hid (Nat.le_of_lt hwlt)
    clear hSees hStW hKw hgo hgm hKW eW k1 hb1' hxx hwlt hlowG
    go_wp2_with fail
    rw [← HW.out]
    refine HLook.out.mono ?_
    rintro e w3 ⟨rfl, hI3⟩
    rw [HO.out] at hI3
    obtain ⟨v, q1, q2⟩ := hI3.box
    have c3 := cell_box q1
    have HI3 := Lib.hid hI3
    have Q1 := Lib.hid q1
    have Q2 := Lib.hid q2
    clear hI3 q1 q2 hcell
    go_wp2_with fail
    refine (sort_own w3 W.heap.size v _ Q2.out HLen.out).mono ?_
    rintro e w4 ⟨rfl, ho4, hg4⟩
    obtain ⟨q4, kb4⟩ := HI3.out.sorted Q1.out Q2.out ho4 hg4
    have c4 := cell_box q4
    have HO4 := Lib.hid ho4
    have HK4 := Lib.hid (kb4.below HKw.out Hlt.out)
    clear ho4 hg4 q4 kb4
    go_wp2
    go_ret
    exact ⟨_, rfl, by rw [← hOut.out]; exact HO4.out.low HKw.out.size, HK4.out⟩
theorem strikes_nil (B : List Int) (hB : Brd B) (s : Int) (w : World) :
    Calls Tryz.prog 69 #[.pointer none, .agg (cl B).toArray, .int .i64 s] w (NewZ w []) := by
  have hz := Lib.hid (size_cl hB.1)
  have hbl := Lib.hid (heap_alloc_new w (.cells (cl B).toArray 24))
  clear hB
  go_enter Tryz.func69, Tryz.ntmps69
  go_wp2_with (refine wpList_load_w (by rfl) _ rfl _ rfl _ (hbl.out) hz.out ?_)
  refine (sees_nil B s _).mono ?_
  rintro e w1 ⟨rfl, k1⟩
  have HK := Lib.hid (((Kept.refl w).alloc _).trans k1)
  clear k1
  go_wp2
  go_ret
  exact ⟨_, rfl, OwnZ.nil _ _, HK.out⟩
end Go.Proofs.YtkebpchhpidogaaGreatDoor
