/- Index and King. -/
import Derived.Test.YtkliefojegjhhaaDoorBoE
namespace Go.Proofs.YtkliefojegjhhaaDoor
open Go.RowKit
set_option linter.unusedVariables false

/-- The first of a list of squares; -1 of none. -/
def headI : List Nat → Int
  | [] => -1
  | a :: _ => a
theorem sel_none {p : Nat → Bool} {n : Nat} (h : ∀ i, i < n → p i = false) : sel p n = [] := by
  unfold sel
  rw [List.filter_eq_nil_iff]
  intro i hi
  rw [h i (by simpa using hi)]
  decide
theorem sel_first {p : Nat → Bool} {k : Nat} (h1 : p k = true) (h2 : ∀ i, i < k → p i = false) (n : Nat) (hn : k < n) : ∃ t, sel p n = k :: t := by
  induction n with
  | zero => omega
  | succ n ih =>
    by_cases hk : k < n
    · obtain ⟨t, ht⟩ := ih hk
      cases hp : p n
      · exact ⟨t, by rw [sel_no hp, ht]⟩
      · exact ⟨t ++ [n], by rw [sel_yes hp, ht]; rfl⟩
    · have : k = n := by omega
      subst this
      exact ⟨[], by rw [sel_yes h1, sel_none h2]; rfl⟩
theorem index_no (B : List Int) (hB : Brd B) (x : Int) (g c : Nat) (t : TypeId) (w : World) (hg : w.heap[g]? = some (.cells (cl B).toArray t (0, 0))) (hn : ∀ i, i < 64 → (B.getD i 0 == x) = false) :
    Calls Tryd.prog 76 #[.slice (some ⟨g, 0, none⟩) 64 c, .int .i8 x] w fun e w' => e = .returned (.int .i64 (-1)) ∧ w = w' := by
  have H := Lib.hid hB
  have HG := Lib.hid hg
  have HN := Lib.hid hn
  clear hB hg hn
  go_enter Tryd.func76, Tryd.ntmps76
  go_wp2
  go_loop [8] (fun i => ∃ k : Nat, k ≤ 64 ∧ i = .int .i64 k) (fun i => 64 - (intOf i).toNat)
  case atStart => exact ⟨0, by omega, rfl⟩
  case round =>
    obtain ⟨k, hk, rfl⟩ := hrel
    by_cases hlt : k < 64
    · have hc : w.cell? ⟨g, k, none⟩ = some (.int .i8 (B.getD k 0)) := by
        rw [cell_of_row _ _ k _ _ (0, 0) HG.out]
        simpa using cl_get B k (by rw [H.out.1]; exact hlt)
      have hne : (x == B.getD k 0) = false := by
        have := HN.out k hlt
        rw [beq_eq_false_iff_ne] at this ⊢
        exact fun e => this e.symm
      generalize B.getD k 0 = y at *
      go_wp2
      go_round
      case rel => exact ⟨k + 1, by omega, by go_num⟩
      case measure => simp [intOf]; omega
    · go_wp2
      go_ret
      exact ⟨rfl, rfl⟩
theorem index_yes (B : List Int) (hB : Brd B) (x : Int) (g c n : Nat) (t : TypeId) (w : World) (hg : w.heap[g]? = some (.cells (cl B).toArray t (0, 0))) (hl : n < 64) (hx : B.getD n 0 = x) (hn : ∀ i, i < n → (B.getD i 0 == x) = false) :
    Calls Tryd.prog 76 #[.slice (some ⟨g, 0, none⟩) 64 c, .int .i8 x] w fun e w' => e = .returned (.int .i64 n) ∧ w = w' := by
  have H := Lib.hid hB
  have HG := Lib.hid hg
  have HN := Lib.hid hn
  have HX := Lib.hid hx
  clear hB hg hn hx
  go_enter Tryd.func76, Tryd.ntmps76
  go_wp2
  go_loop [8] (fun i => ∃ k : Nat, k ≤ n ∧ i = .int .i64 k) (fun i => 64 - (intOf i).toNat)
  case atStart => exact ⟨0, by omega, rfl⟩
  case round =>
    obtain ⟨k, hk, rfl⟩ := hrel
    have hlt : k < 64 := by omega
    have hc : w.cell? ⟨g, k, none⟩ = some (.int .i8 (B.getD k 0)) := by
      rw [cell_of_row _ _ k _ _ (0, 0) HG.out]
      simpa using cl_get B k (by rw [H.out.1]; exact hlt)
    by_cases he : k = n
    · subst he
      rw [HX.out] at hc
      go_wp2
      go_ret
      exact ⟨rfl, rfl⟩
    · have hne : (x == B.getD k 0) = false := by
        have := HN.out k (by omega)
        rw [beq_eq_false_iff_ne] at this ⊢
        exact fun e => this e.symm
      generalize B.getD k 0 = y at *
      have hkn : k < n := by omega
      clear he
      go_wp2
      go_round
      case rel => exact ⟨k + 1, by omega, by go_num⟩
      case measure => simp [intOf]; omega
theorem index_is (B : List Int) (hB : Brd B) (x : Int) (g c : Nat) (t : TypeId) (w : World) (hg : w.heap[g]? = some (.cells (cl B).toArray t (0, 0))) :
    Calls Tryd.prog 76 #[.slice (some ⟨g, 0, none⟩) 64 c, .int .i8 x] w fun e w' => e = .returned (.int .i64 (headI (whereL B x))) ∧ w = w' := by
  rcases first_or (fun i => B.getD i 0 == x) 64 with h | ⟨k, hk, h1, h2⟩
  · have e : whereL B x = [] := sel_none h
    rw [e]
    exact index_no B hB x g c t w hg h
  · obtain ⟨r, hr⟩ := sel_first h1 h2 64 hk
    have e : whereL B x = k :: r := hr
    rw [e]
    exact index_yes B hB x g c k t w hg hk (by simpa using h1) h2
theorem headI_bd (B : List Int) (x : Int) : -1 ≤ headI (whereL B x) ∧ headI (whereL B x) < 64 := by
  cases h : whereL B x with
  | nil => exact ⟨by decide, by decide⟩
  | cons a t =>
    have : a ∈ whereL B x := by rw [h]; simp
    simp [whereL, sel] at this
    show -1 ≤ (a : Int) ∧ (a : Int) < 64
    omega
theorem king_no (B : List Int) (side : Int) (h0 : side ≠ 0) (h1 : side ≠ 1) (w : World) :
    Calls Tryd.prog 53 #[.agg (cl B).toArray, .int .i64 side] w fun e w' => e = .returned (.int .i64 (-1)) ∧ Kept w w' := by
  go_enter Tryd.func53, Tryd.ntmps53
  go_wp2_with fail
  refine (make_noside _ _ _ (by omega) (by omega) h0 h1).mono ?_
  rintro e w' ⟨rfl, rfl⟩
  go_wp2
  go_ret
  exact ⟨rfl, (Kept.refl _).alloc _⟩
theorem king_w (B : List Int) (hB : Brd B) (w : World) :
    Calls Tryd.prog 53 #[.agg (cl B).toArray, .int .i64 0] w fun e w' => e = .returned (.int .i64 (headI (whereL B 6))) ∧ Kept w w' := by
  go_enter Tryd.func53, Tryd.ntmps53
  go_wp2_with fail
  refine (make_w _ _ (by omega) (by omega)).mono ?_
  rintro e w' ⟨rfl, rfl⟩
  go_wp2_with fail
  refine (index_is B hB 6 _ _ _ _ (heap_alloc_new w _)).mono ?_
  rintro e w' ⟨rfl, rfl⟩
  go_wp2
  go_ret
  exact ⟨rfl, (Kept.refl _).alloc _⟩
theorem king_b (B : List Int) (hB : Brd B) (w : World) :
    Calls Tryd.prog 53 #[.agg (cl B).toArray, .int .i64 1] w fun e w' => e = .returned (.int .i64 (headI (whereL B (-6)))) ∧ Kept w w' := by
  go_enter Tryd.func53, Tryd.ntmps53
  go_wp2_with fail
  refine (make_b _ _ (by omega) (by omega)).mono ?_
  rintro e w' ⟨rfl, rfl⟩
  go_wp2_with fail
  refine (index_is B hB (-6) _ _ _ _ (heap_alloc_new w _)).mono ?_
  rintro e w' ⟨rfl, rfl⟩
  go_wp2
  go_ret
  exact ⟨rfl, (Kept.refl _).alloc _⟩
end Go.Proofs.YtkliefojegjhhaaDoor
