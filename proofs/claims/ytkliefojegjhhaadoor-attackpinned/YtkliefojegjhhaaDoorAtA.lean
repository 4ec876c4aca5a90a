/- look: every square that is seen is shown, one behind the other. -/
import Derived.Test.YtkliefojegjhhaaDoorWaA
import Derived.Laws.EntriesVeiled
namespace Go.Proofs.YtkliefojegjhhaaDoor
open Go.RowKit
set_option linter.unusedVariables false
set_option linter.unusedSimpArgs false

/-- Along a way: what was shown, and where one stands. -/
def SeeMid (ans : Int → Nat → Nat → Bool) (B : List Int) (s : Int) (n : Nat) (l : List Int) (t : Int) (on : Bool) (D : List (Int × Nat × Nat)) : Prop :=
  RayMid s (wayF n) (wayR n) l t on ∧ seeL ans B n 1 (rayW s n) = D ++ seeL ans B n (l.length + 1) ((rayW s n).drop l.length)
theorem SeeMid.start {ans : Int → Nat → Nat → Bool} {B : List Int} {s t : Int} {n : Nat} {on : Bool} (h : RayMid s (wayF n) (wayR n) [] t on) : SeeMid ans B s n [] t on [] := ⟨h, rfl⟩
theorem RayMid.drop_on {s f r t : Int} {l : List Int} (h : RayMid s f r l t true) : (rayL s f r).drop l.length = t :: (rayL s f r).drop (l.length + 1) := by
  rcases h with ⟨_, _, n, _, e⟩ | ⟨h, _⟩
  · rw [e, List.drop_left, List.drop_append, List.drop_of_length_le (show l.length ≤ l.length + 1 by omega)]
    simp
  · cases h
theorem RayMid.at_on {s t : Int} {n : Nat} {l : List Int} (h : RayMid s (wayF n) (wayR n) l t true) : (rayW s n)[l.length]? = some t := by
  have e := h.drop_on
  have : ((rayL s (wayF n) (wayR n)).drop l.length)[0]? = some t := by rw [e]; rfl
  rw [List.getElem?_drop] at this
  unfold rayW
  simpa using this
theorem SeeMid.next {ans : Int → Nat → Nat → Bool} {B : List Int} {s t u : Int} {n : Nat} {l : List Int} {on : Bool} {D : List (Int × Nat × Nat)} (h : SeeMid ans B s n l t true D)
    (ha : ans t n (l.length + 1) = true) (hb : bAt B t = 0) (h' : RayMid s (wayF n) (wayR n) (l ++ [t]) u on) : SeeMid ans B s n (l ++ [t]) u on (D ++ [(t, n, l.length + 1)]) := by
  refine ⟨h', ?_⟩
  have e : (rayW s n).drop l.length = t :: (rayW s n).drop (l.length + 1) := h.1.drop_on
  rw [h.2, e, seeL, ha, hb, List.length_append, List.length_singleton]
  simp
theorem SeeMid.stop {ans : Int → Nat → Nat → Bool} {B : List Int} {s t : Int} {n : Nat} {l : List Int} {D : List (Int × Nat × Nat)} (h : SeeMid ans B s n l t true D)
    (ha : ans t n (l.length + 1) = false ∨ bAt B t ≠ 0) : seeL ans B n 1 (rayW s n) = D ++ [(t, n, l.length + 1)] := by
  have e : (rayW s n).drop l.length = t :: (rayW s n).drop (l.length + 1) := h.1.drop_on
  rw [h.2, e, seeL, if_neg (by rw [Bool.and_eq_true, beq_iff_eq]; rintro ⟨a, b⟩; rcases ha with h | h; rw [h] at a; cases a; exact h b)]
theorem SeeMid.off {ans : Int → Nat → Nat → Bool} {B : List Int} {s t : Int} {n : Nat} {l : List Int} {D : List (Int × Nat × Nat)} (h : SeeMid ans B s n l t false D) : seeL ans B n 1 (rayW s n) = D := by
  have e : rayW s n = l := h.1.done
  rw [h.2, e, List.drop_length, seeL, List.append_nil]
theorem board_cell {w : World} {gb : Nat} {B : List Int} (hB : Brd B) (h : w.heap[gb]? = some (.cells (cl B).toArray 40 (0, 0))) (k : Nat) (hk : k < 64) :
    w.cell? ⟨gb, k, none⟩ = some (.int .i8 (B.getD k 0)) := by
  rw [cell_of_row _ _ k _ _ (0, 0) h]
  simpa using cl_get B k (by rw [hB.1]; exact hk)
theorem see_len (ans : Int → Nat → Nat → Bool) (B : List Int) (way : Nat) : ∀ (R : List Int) (f0 : Nat), (seeL ans B way f0 R).length ≤ R.length
  | [], f0 => by simp [seeL]
  | z :: R, f0 => by
    unfold seeL
    split
    · have := see_len ans B way R (f0 + 1)
      simp; omega
    · simp
theorem lookN_len (ans : Int → Nat → Nat → Bool) (B : List Int) (s : Int) : ∀ n, (lookN ans B s n).length ≤ 8 * n
  | 0 => by simp [lookN]
  | n + 1 => by
    have h1 := lookN_len ans B s n
    have h2 := see_len ans B n (rayW s n) 1
    have h3 := rayL_len s (wayF n) (wayR n)
    rw [lookN_succ, List.length_append]
    unfold rayW at h2 ⊢
    omega
theorem SeeMid.len {ans : Int → Nat → Nat → Bool} {B : List Int} {s t : Int} {n : Nat} {l : List Int} {on : Bool} {D : List (Int × Nat × Nat)} (h : SeeMid ans B s n l t on D) (hn : n < 16) : (lookN ans B s n ++ D).length ≤ 200 := by
  have h1 := lookN_len ans B s n
  have h2 := see_len ans B n (rayW s n) 1
  have h3 : (rayW s n).length ≤ 8 := rayL_len s (wayF n) (wayR n)
  have h4 := congrArg List.length h.2
  rw [List.length_append] at h4 ⊢
  omega
theorem fun_enters {f : FuncId} {fn : Func} {c : Code} (hf : Tryd.prog.funcs[f]? = some fn) (hname : (fn.name == "runtime.NumGoroutine") = false) (hb : fn.body = some c) (args : Array Value) (w : World) :
    (callFunc f args).run Tryd.prog w = .ok (.enter f args) w := by
  have h1 : fn.name ≠ "runtime.NumGoroutine" := by simpa using hname
  simp [callFunc, hf, h1, hb]
/-- What is said of a function that is shown squares. -/
structure Sees (B : List Int) (s : Int) (gb k : Nat) (caps : Array Value) (ans : Int → Nat → Nat → Bool) (Inv : List (Int × Nat × Nat) → World → Prop) : Prop where
  ent : ∀ args w, (callFunc k args).run Tryd.prog w = .ok (.enter k args) w
  keep : ∀ l w w', Inv l w → Kept w w' → Inv l w'
  st : ∀ l w, Inv l w → Steps w
  bd : ∀ l w, Inv l w → w.heap[gb]? = some (.cells (cl B).toArray 40 (0, 0))
  see : ∀ (l : List (Int × Nat × Nat)) (t way far : Nat) (w : World), Inv l w → l.length ≤ 200 → t < 64 → way < 16 → 1 ≤ far → far ≤ 8 → (rayW s way)[far - 1]? = some (t : Int) →
    Calls Tryd.prog k (#[.int .i64 (t : Int), .int .i64 (way : Int), .int .i64 (far : Int)] ++ caps) w fun e w' => e = .returned (.bool (ans (t : Int) way far)) ∧ Inv (l ++ [((t : Int), way, far)]) w'
set_option maxHeartbeats 2000000 in
theorem look_is (B : List Int) (hB : Brd B) (gb : Nat) (s : Int) (k : Nat) (caps : Array Value) (ans : Int → Nat → Nat → Bool) (Inv : List (Int × Nat × Nat) → World → Prop) (hS : Sees B s gb k caps ans Inv) (w : World) (hI : Inv [] w) :
    Calls Tryd.prog 47 #[.pointer (some ⟨gb, 0, none⟩), .int .i64 s, .func (.func k) #[] caps] w fun e w' => e = .returned (.tuple #[]) ∧ Inv (lookL ans B s) w' := by
  have HB := Lib.hid hB
  have HS := Lib.hid hS
  have hent := hS.ent
  have HI := Lib.hid hI
  clear hB hS hI
  go_enter Tryd.func47, Tryd.ntmps47
  go_wp2
  go_loopw [12] (fun t12 wr => ∃ n : Nat, n ≤ 16 ∧ t12 = .int .i64 n ∧ Inv (lookN ans B s n) wr) (fun t12 _ => 16 - (intOf t12).toNat)
  case atStart => exact ⟨0, by omega, rfl, HI.out⟩
  case round =>
    obtain ⟨n, hn, rfl, hI⟩ := hrel
    have HI := Lib.hid hI
    clear hI
    by_cases hlt : n < 16
    · have hlt' : (n : Int) < 16 := by omega
      have HNx := Lib.hid (lookN_succ ans B s n)
      have HP := Lib.hid (step_any · (wayF n) (wayR n) · (wayF_wf n hlt).1 (wayF_wf n hlt).2)
      have H0 := Lib.hid (back_way hlt).2.2.2.2.2
      go_wp2_with fail
      refine (wstep_is n hlt _ (HS.out.st _ _ HI.out)).mono ?_
      rintro e w1 ⟨rfl, k1⟩
      have HI1 := Lib.hid (HS.out.keep _ _ _ HI.out k1)
      clear k1
      go_wp2_with fail
      refine (HP.out _ _).mono ?_
      rintro e w' ⟨⟨t, on, rfl, ht⟩, rfl⟩
      have HM := Lib.hid (SeeMid.start (ans := ans) (B := B) (RayMid.first H0.out ht))
      clear ht
      go_wp2
      go_loopw [9, 10, 11] (fun t9 t10 t11 wr => ∃ (l : List Int) (D : List (Int × Nat × Nat)) (t : Int) (on : Bool) (far : Nat), t9 = .int .i64 t ∧ t10 = .bool on ∧ t11 = .int .i64 far ∧ far = l.length + 1 ∧ SeeMid ans B s n l t on D ∧ Inv (lookN ans B s n ++ D) wr) (fun _ _ t11 _ => 9 - (intOf t11).toNat)
      case atStart => exact ⟨[], [], t, on, 1, rfl, rfl, rfl, rfl, HM.out, by rw [List.append_nil]; exact HI1.out⟩
      case round =>
        obtain ⟨l, D, t, on, far, rfl, rfl, rfl, hfar, hm, hI2⟩ := hrel
        have HM := Lib.hid hm
        have HI2 := Lib.hid hI2
        have HF := Lib.hid hfar
        clear hm hI2 hfar
        cases on
        · have HN2 := Lib.hid (show Inv (lookN ans B s (n + 1)) _ by rw [HNx.out, HM.out.off]; exact HI2.out)
          go_wp2
          go_roundw
          case rel => exact ⟨n + 1, by omega, by go_num, HN2.out⟩
          case measure => simp [intOf]; omega
        · obtain ⟨t0, t1, hlen⟩ := HM.out.1.far H0.out
          obtain ⟨tn, rfl⟩ := Int.eq_ofNat_of_zero_le t0
          have ht64 : tn < 64 := by omega
          have hfar8 : far ≤ 8 := by have := HF.out; omega
          have hsee := HS.out.see _ tn n far _ HI2.out (HM.out.len hlt) ht64 hlt (by have := HF.out; omega) hfar8 (by rw [HF.out, Nat.add_sub_cancel]; exact HM.out.1.at_on)
          obtain ⟨a, ha⟩ : ∃ a, ans (tn : Int) n far = a := ⟨_, rfl⟩
          rw [ha] at hsee
          have HA := Lib.hid ha
          have HSee := Lib.hid hsee
          clear ha hsee
          cases a
          · have HStop := Lib.hid (HM.out.stop (.inl (by rw [← HF.out]; exact HA.out)))
            go_wp2_with fail
            refine HSee.out.mono ?_
            rintro e w3 ⟨rfl, hI3⟩
            have HN2 := Lib.hid (show Inv (lookN ans B s (n + 1)) w3 by rw [HNx.out, HStop.out, ← HF.out, ← List.append_assoc]; exact hI3)
            clear hI3
            go_wp2
            go_roundw
            case rel => exact ⟨n + 1, by omega, by go_num, HN2.out⟩
            case measure => simp [intOf]; omega
          · obtain ⟨x, hx⟩ : ∃ x, bAt B (tn : Int) = x := ⟨_, rfl⟩
            have hx' : B.getD tn 0 = x := by rw [← hx]; rfl
            have HX := Lib.hid hx
            by_cases h0 : x = 0
            · have b0 : (x == 0) = true := by simpa using h0
              have H00 := Lib.hid h0
              clear h0 hx
              go_wp2_with fail
              refine HSee.out.mono ?_
              rintro e w3 ⟨rfl, hI3⟩
              have hc := board_cell HB.out (HS.out.bd _ _ hI3) tn ht64
              rw [hx'] at hc
              have HI3 := Lib.hid hI3
              clear hI3 hx'
              go_wp2_with fail
              refine (HP.out _ _).mono ?_
              rintro e w' ⟨⟨u, on, rfl, hu⟩, rfl⟩
              have HU := Lib.hid (HM.out.1.next H0.out hu)
              clear hu
              have HM2 := Lib.hid (HM.out.next (by rw [← HF.out]; exact HA.out) (by rw [HX.out]; exact H00.out) HU.out)
              go_wp2
              go_roundw
              case rel => exact ⟨l ++ [(tn : Int)], D ++ [((tn : Int), n, l.length + 1)], u, on, far + 1, rfl, rfl, by go_num, by rw [HF.out]; simp, HM2.out, by rw [← List.append_assoc, ← HF.out]; exact HI3.out⟩
              case measure => simp [intOf]; omega
            · have b0 : (x == 0) = false := by simpa using h0
              have HStop := Lib.hid (HM.out.stop (.inr (by rw [hx]; exact h0)))
              clear h0 hx
              go_wp2_with fail
              refine HSee.out.mono ?_
              rintro e w3 ⟨rfl, hI3⟩
              have hc := board_cell HB.out (HS.out.bd _ _ hI3) tn ht64
              rw [hx'] at hc
              have HN2 := Lib.hid (show Inv (lookN ans B s (n + 1)) w3 by rw [HNx.out, HStop.out, ← HF.out, ← List.append_assoc]; exact hI3)
              clear hI3 hx'
              go_wp2
              go_roundw
              case rel => exact ⟨n + 1, by omega, by go_num, HN2.out⟩
              case measure => simp [intOf]; omega
    · have hlt' : ¬ (n : Int) < 16 := by omega
      have HE := Lib.hid (show Inv (lookL ans B s) _ by unfold lookL; rw [show 16 = n by omega]; exact HI.out)
      go_wp2
      refine bodyPost_end (results_none rfl _ _ _) rfl ?_
      exact ⟨rfl, HE.out⟩
end Go.Proofs.YtkliefojegjhhaaDoor
