/- strikers: who strikes a square is told, one behind the other. -/
import Derived.Test.YtkliefojegjhhaaDoorAtB
namespace Go.Proofs.YtkliefojegjhhaaDoor
open Go.RowKit
set_option linter.unusedVariables false
set_option linter.unusedSimpArgs false

/-- What is said of a function that is told strikers; it turns nothing but block go, and what it lays itself. -/
structure Tells (s : Int) (go k : Nat) (caps : Array Value) (Inv : World → List (Int × Nat × Nat) → World → Prop) : Prop where
  ent : ∀ args w, (callFunc k args).run Tryd.prog w = .ok (.enter k args) w
  keep : ∀ W l w w', Inv W l w → Kept w w' → Inv W l w'
  kb : ∀ W l w, Inv W l w → KB W go w
  tell : ∀ (W : World) (l : List (Int × Nat × Nat)) (t way far : Nat) (w : World), Inv W l w → l.length ≤ 200 → t < 64 → way < 16 → 1 ≤ far → far ≤ 8 → (rayW s way)[far - 1]? = some (t : Int) →
    Calls Tryd.prog k (#[.int .i64 (t : Int), .int .i64 (way : Int), .int .i64 (far : Int)] ++ caps) w fun e w' => e = .returned (.tuple #[]) ∧ Inv W (l ++ [((t : Int), way, far)]) w'
theorem filter_snoc {α : Type} (p : α → Bool) (l : List α) (x : α) : (l ++ [x]).filter p = l.filter p ++ if p x then [x] else [] := by
  rw [List.filter_append]; congr 1; by_cases h : p x <;> simp [h]
set_option maxHeartbeats 2000000 in
theorem strikers1_is (B : List Int) (hB : Brd B) (s side : Int) (gb go k n : Nat) (caps : Array Value) (Inv : World → List (Int × Nat × Nat) → World → Prop) (hT : Tells s go k caps Inv) (W : World)
    (hgb : W.heap[gb]? = some (.cells (cl B).toArray 40 (0, 0))) (h1 : W.cell? ⟨n, 0, none⟩ = some (.pointer (some ⟨gb, 0, none⟩))) (h2 : W.cell? ⟨n + 1, 0, none⟩ = some (.int .i64 side)) (h3 : W.cell? ⟨n + 1 + 1, 0, none⟩ = some (.func (.func k) #[] caps))
    (hS : Steps W) (g0 : 0 ≠ go) (g1 : gb ≠ go) (g2 : go < n)
    (l : List (Int × Nat × Nat)) (t way far : Nat) (w : World) (hI : Inv W (l.filter (toldW B side)) w) (hl : l.length ≤ 200) (ht : t < 64) (hw : way < 16) (hf : 1 ≤ far) (hf8 : far ≤ 8) (hr : (rayW s way)[far - 1]? = some (t : Int)) :
    Calls Tryd.prog 73 #[.int .i64 (t : Int), .int .i64 (way : Int), .int .i64 (far : Int), .pointer (some ⟨n, 0, none⟩), .pointer (some ⟨n + 1, 0, none⟩), .pointer (some ⟨n + 1 + 1, 0, none⟩)] w fun e w' =>
      e = .returned (.bool (ansW (t : Int) way far)) ∧ Inv W ((l ++ [((t : Int), way, far)]).filter (toldW B side)) w' := by
  have hkb := hT.kb _ _ _ hI
  have c1 := hkb.cell (by simp; omega) h1
  have c2 := hkb.cell (by simp; omega) h2
  have c3 := hkb.cell (by simp; omega) h3
  have c4 := board_cell hB (hkb.heap g1 hgb) t ht
  have HSt := Lib.hid (hkb.steps g0 hS)
  have hent := hT.ent
  obtain ⟨hb1, hb2⟩ := hB.2 t ht
  have HTell := Lib.hid (fun w' (h : Kept w w') => hT.tell W _ t way far w' (hT.keep _ _ _ _ hI h) (Nat.le_trans (List.length_filter_le _ _) hl) ht hw hf hf8 hr)
  have HKeep := Lib.hid (fun w' (h : Kept w w') => hT.keep _ _ _ _ hI h)
  have hbk := Lib.hid (wback_is way hw)
  have hans : ansW (t : Int) way far = decide ((way : Int) < 8) := by unfold ansW; simp; omega
  have HFil := Lib.hid (filter_snoc (toldW B side) l ((t : Int), way, far))
  obtain ⟨x, hx⟩ : ∃ x, B.getD t 0 = x := ⟨_, rfl⟩
  have hp : toldW B side ((t : Int), way, far) = ((sideI x == side) && reachB x (backW way) far) := by unfold toldW; simp only [bAt, Int.toNat_natCast, hx]
  rw [hx] at c4 hb1 hb2
  rw [hp] at HFil
  have HR := Lib.hid (fun n => quiet_more (wreach_q x (backW way) far (back_way hw).1 hf (by omega) (w.drewN n) (HSt.out.drew n)))
  rw [hans]
  clear hkb hB hT hI h1 h2 h3 hS hgb hp hx hans hr
  generalize reachB x (backW way) far = b at *
  have hW8 : ((way : Int) < 8) ∨ ¬ ((way : Int) < 8) := by omega
  by_cases hsd : (sideI x == side) = true
  · rw [hsd, Bool.true_and] at HFil
    cases b
    · go_enter Tryd.func73, Tryd.ntmps73
      go_wp2
      go_quiet (first | (go_at_call 57; exact quiet_same (mside_any x _)) | (go_at_call 74; exact quiet_same (hbk.out _)) | (go_at_call 35; exact HR.out _))
      go_wp2
      go_ret
      exact ⟨rfl, by rw [HFil.out]; simp only [Bool.false_eq_true, if_false, List.append_nil]; exact HKeep.out _ ((Kept.refl w).drewN _)⟩
    · go_enter Tryd.func73, Tryd.ntmps73
      go_wp2
      go_quiet (first | (go_at_call 57; exact quiet_same (mside_any x _)) | (go_at_call 74; exact quiet_same (hbk.out _)) | (go_at_call 35; exact HR.out _))
      go_wp2_with fail
      refine (HTell.out _ ((Kept.refl w).drewN _)).mono ?_
      rintro e w3 ⟨rfl, hI3⟩
      have HI3 := Lib.hid hI3
      clear hI3
      go_wp2
      go_ret
      exact ⟨rfl, by rw [HFil.out]; exact HI3.out⟩
  · have hsd' : (sideI x == side) = false := by simpa using hsd
    rw [hsd', Bool.false_and] at HFil
    clear hsd
    go_enter Tryd.func73, Tryd.ntmps73
    go_wp2
    go_quiet (first | (go_at_call 57; exact quiet_same (mside_any x _)))
    go_wp2
    go_ret
    exact ⟨rfl, by rw [HFil.out]; simp only [Bool.false_eq_true, if_false, List.append_nil]; exact HKeep.out _ ((Kept.refl w).drewN _)⟩
set_option maxHeartbeats 1000000 in
theorem strikers_is (B : List Int) (hB : Brd B) (s side : Int) (gb go k : Nat) (caps : Array Value) (Inv : World → List (Int × Nat × Nat) → World → Prop) (hT : Tells s go k caps Inv) (w : World)
    (hgb : w.heap[gb]? = some (.cells (cl B).toArray 40 (0, 0))) (hS : Steps w) (g0 : 0 ≠ go) (g1 : gb ≠ go) (g2 : go < w.heap.size) (hstart : ∀ w1, Kept w w1 → Inv w1 [] w1) :
    Calls Tryd.prog 50 #[.pointer (some ⟨gb, 0, none⟩), .int .i64 s, .int .i64 side, .func (.func k) #[] caps] w fun e w' => e = .returned (.tuple #[]) ∧ ∃ W, Kept w W ∧ Inv W (tellL B s side) w' := by
  obtain ⟨W, eW⟩ : ∃ W, W = ((w.alloc (.cells #[.pointer (some ⟨gb, 0, none⟩)] 66)).alloc (.cells #[.int .i64 side] 3)).alloc (.cells #[.func (.func k) #[] caps] 69) := ⟨_, rfl⟩
  have HW := Lib.hid eW
  have hK : Kept w W := by rw [eW]; exact (((Kept.refl w).alloc _).alloc _).alloc _
  have e1 : W.heap[w.heap.size]? = some (.cells #[.pointer (some ⟨gb, 0, none⟩)] 66 (0, 0)) := by
    rw [eW]; exact (((Kept.refl _).alloc _).alloc _).heap (heap_alloc_new w _)
  have e2 : W.heap[w.heap.size + 1]? = some (.cells #[.int .i64 side] 3 (0, 0)) := by
    rw [eW]
    have := ((Kept.refl _).alloc (.cells #[.func (.func k) #[] caps] 69)).heap (heap_alloc_new (w.alloc (.cells #[.pointer (some ⟨gb, 0, none⟩)] 66)) (.cells #[.int .i64 side] 3))
    simpa using this
  have e3 : W.heap[w.heap.size + 1 + 1]? = some (.cells #[.func (.func k) #[] caps] 69 (0, 0)) := by
    rw [eW]
    have := heap_alloc_new ((w.alloc (.cells #[.pointer (some ⟨gb, 0, none⟩)] 66)).alloc (.cells #[.int .i64 side] 3)) (.cells #[.func (.func k) #[] caps] 69)
    simpa using this
  have HC := Lib.hid (cell_box e1)
  have hSees : Sees B s gb 73 #[.pointer (some ⟨w.heap.size, 0, none⟩), .pointer (some ⟨w.heap.size + 1, 0, none⟩), .pointer (some ⟨w.heap.size + 1 + 1, 0, none⟩)] ansW (fun l w' => Inv W (l.filter (toldW B side)) w') := by
    refine ⟨fun args w => fun_enters Tryd.func73 (by kernel_rfl) rfl args w, fun l w w' h k => hT.keep _ _ _ _ h k, fun l w' h => (hT.kb _ _ _ h).steps g0 (hS.kept hK), fun l w' h => (hT.kb _ _ _ h).heap g1 (hK.heap hgb), ?_⟩
    intro l t way far w' hI hl ht hw hf hf8 hr
    exact strikers1_is B hB s side gb go k w.heap.size caps Inv hT W (hK.heap hgb) (cell_box e1) (cell_box e2) (cell_box e3) (hS.kept hK) g0 g1 g2 l t way far w' hI hl ht hw hf hf8 hr
  have HL := Lib.hid (look_is B hB gb s 73 _ ansW _ hSees W (hstart W hK))
  have HK := Lib.hid hK
  clear eW hSees hT hgb hS hstart hK e1 e2 e3
  go_enter Tryd.func50, Tryd.ntmps50
  go_wp2_with fail
  rw [← HW.out]
  refine HL.out.mono ?_
  rintro e w3 ⟨rfl, hI3⟩
  have HI3 := Lib.hid hI3
  clear hI3
  go_wp2
  refine bodyPost_end (results_none rfl _ _ _) rfl ?_
  exact ⟨rfl, W, HK.out, HI3.out⟩
end Go.Proofs.YtkliefojegjhhaaDoor
