/- Counting and seeking on boards: Many, Where, the document's Right and Where. -/
import Derived.Test.YtkliefojegjhhaaDoorBoA
namespace Go.Proofs.YtkliefojegjhhaaDoor
open Go.RowKit
set_option linter.unusedVariables false

/-- The numbers below n that p holds for, rising. -/
def sel (p : Nat → Bool) (n : Nat) : List Nat := (List.range n).filter p
theorem sel_yes {p : Nat → Bool} {n : Nat} (h : p n = true) : sel p (n + 1) = sel p n ++ [n] := by
  simp [sel, List.range_succ, List.filter_append, h]
theorem sel_no {p : Nat → Bool} {n : Nat} (h : p n = false) : sel p (n + 1) = sel p n := by
  simp [sel, List.range_succ, List.filter_append, h]
theorem sel_le (p : Nat → Bool) (n : Nat) : (sel p n).length ≤ n := by
  have := List.length_filter_le p (List.range n)
  simpa [sel] using this
/-- How many of them there are. -/
def cnt (p : Nat → Bool) (n : Nat) : Nat := (sel p n).length
theorem cnt_yes {p : Nat → Bool} {n : Nat} (h : p n = true) : cnt p (n + 1) = cnt p n + 1 := by simp [cnt, sel_yes h]
theorem cnt_no {p : Nat → Bool} {n : Nat} (h : p n = false) : cnt p (n + 1) = cnt p n := by simp [cnt, sel_no h]
theorem cnt_le (p : Nat → Bool) (n : Nat) : cnt p n ≤ n := sel_le p n
/-- Is it a man of that kind (0: any) and side? -/
def hit (kind side x : Int) : Bool := manB x && (sideI x == side) && (kind == 0 || kindI x == kind)
def many (B : List Int) (kind side : Int) : Nat := cnt (fun i => hit kind side (B.getD i 0)) 64
/-- May a number stand on a board? May all of them? -/
def okB (x : Int) : Bool := x == 0 || manB x
def rightB (B : List Int) : Bool := B.all okB
theorem rright_yes' (B : List Int) (hB : Brd B) (h : ∀ i, i < 64 → okB (B.getD i 0) = true) (w : World) :
    Calls Tryd.prog 43 #[.agg (cl B).toArray] w fun e w' => e = .returned (.bool true) ∧ Kept w w' := by
  have H := Lib.hid hB
  have HK := Lib.hid h
  clear hB h
  go_enter Tryd.func43, Tryd.ntmps43
  go_wp2
  go_loop [3] (fun i => ∃ k : Nat, k ≤ 64 ∧ i = .int .i64 k) (fun i => 64 - (intOf i).toNat)
  case atStart => exact ⟨0, by omega, rfl⟩
  case round =>
    obtain ⟨k, hk, rfl⟩ := hrel
    by_cases hlt : k < 64
    · have hc : (w.alloc (.cells (cl B).toArray 40)).cell? ⟨w.heap.size, k, none⟩ = some (.int .i8 (B.getD k 0)) := by
        rw [cell_of_row _ _ k _ _ (0, 0) (heap_alloc_new w _)]
        simpa using cl_get B k (by rw [H.out.1]; exact hlt)
      obtain ⟨hb1, hb2⟩ := H.out.2 k hlt
      have ho := HK.out k hlt
      generalize B.getD k 0 = x at *
      by_cases h0 : (x == 0) = true
      · have h0' : (x != 0) = false := by simpa using h0
        clear h0 ho
        go_wp2
        go_round
        case rel => exact ⟨k + 1, by omega, by go_num⟩
        case measure => simp [intOf]; omega
      · have h0' : (x != 0) = true := by simpa using h0
        have hm : manB x = true := by
          unfold okB at ho
          simpa [h0] using ho
        have hk0 : (kindI x == 0) = false := by
          have := (manB_iff x).1 hm
          rw [beq_eq_false_iff_ne]
          unfold kindI
          rw [if_pos hm]
          split <;> omega
        clear h0 ho hm
        go_wp2_with fail
        refine (rkind_any _ _).mono ?_
        rintro e w' ⟨rfl, rfl⟩
        go_wp2
        go_round
        case rel => exact ⟨k + 1, by omega, by go_num⟩
        case measure => simp [intOf]; omega
    · go_wp2
      go_ret
      exact ⟨rfl, (Kept.refl _).alloc _⟩
theorem rright_no' (B : List Int) (hB : Brd B) (n : Nat) (hn : n < 64) (h : okB (B.getD n 0) = false) (hf : ∀ i, i < n → okB (B.getD i 0) = true) (w : World) :
    Calls Tryd.prog 43 #[.agg (cl B).toArray] w fun e w' => e = .returned (.bool false) ∧ Kept w w' := by
  have H := Lib.hid hB
  have HK := Lib.hid hf
  have HN := Lib.hid h
  clear hB h hf
  go_enter Tryd.func43, Tryd.ntmps43
  go_wp2
  go_loop [3] (fun i => ∃ k : Nat, k ≤ n ∧ i = .int .i64 k) (fun i => 64 - (intOf i).toNat)
  case atStart => exact ⟨0, by omega, rfl⟩
  case round =>
    obtain ⟨k, hk, rfl⟩ := hrel
    have hlt : k < 64 := by omega
    have hc : (w.alloc (.cells (cl B).toArray 40)).cell? ⟨w.heap.size, k, none⟩ = some (.int .i8 (B.getD k 0)) := by
      rw [cell_of_row _ _ k _ _ (0, 0) (heap_alloc_new w _)]
      simpa using cl_get B k (by rw [H.out.1]; exact hlt)
    obtain ⟨hb1, hb2⟩ := H.out.2 k hlt
    by_cases he : k = n
    · subst he
      have ho := HN.out
      generalize B.getD k 0 = x at *
      unfold okB at ho
      rw [Bool.or_eq_false_iff] at ho
      have h0' : (x != 0) = true := by have := ho.1; simpa using this
      have hk0 : (kindI x == 0) = true := by
        rw [beq_iff_eq]
        unfold kindI
        rw [if_neg (by rw [ho.2]; decide)]
      clear ho
      go_wp2_with fail
      refine (rkind_any _ _).mono ?_
      rintro e w' ⟨rfl, rfl⟩
      go_wp2
      go_ret
      exact ⟨rfl, (Kept.refl _).alloc _⟩
    · have ho := HK.out k (by omega)
      have hkn : k < n := by omega
      clear he
      generalize B.getD k 0 = x at *
      by_cases h0 : (x == 0) = true
      · have h0' : (x != 0) = false := by simpa using h0
        clear h0 ho
        go_wp2
        go_round
        case rel => exact ⟨k + 1, by omega, by go_num⟩
        case measure => simp [intOf]; omega
      · have h0' : (x != 0) = true := by simpa using h0
        have hm : manB x = true := by
          unfold okB at ho
          simpa [h0] using ho
        have hk0 : (kindI x == 0) = false := by
          have := (manB_iff x).1 hm
          rw [beq_eq_false_iff_ne]
          unfold kindI
          rw [if_pos hm]
          split <;> omega
        clear h0 ho hm
        go_wp2_with fail
        refine (rkind_any _ _).mono ?_
        rintro e w' ⟨rfl, rfl⟩
        go_wp2
        go_round
        case rel => exact ⟨k + 1, by omega, by go_num⟩
        case measure => simp [intOf]; omega
/-- The first number below n that p holds for, or none. -/
theorem first_or (p : Nat → Bool) (n : Nat) : (∀ i, i < n → p i = false) ∨ ∃ k, k < n ∧ p k = true ∧ ∀ i, i < k → p i = false := by
  induction n with
  | zero => exact .inl (fun i hi => by omega)
  | succ n ih =>
    rcases ih with h | ⟨k, hk, h1, h2⟩
    · by_cases hp : p n = true
      · exact .inr ⟨n, by omega, hp, h⟩
      · refine .inl (fun i hi => ?_)
        by_cases he : i = n
        · subst he; simpa using hp
        · exact h i (by omega)
    · exact .inr ⟨k, by omega, h1, h2⟩
theorem getD_at (B : List Int) (i : Nat) (h : i < B.length) : B.getD i 0 = B[i] := by simp [List.getD, List.getElem?_eq_getElem h]
theorem rightB_iff (B : List Int) (hB : B.length = 64) : rightB B = true ↔ ∀ i, i < 64 → okB (B.getD i 0) = true := by
  unfold rightB
  rw [List.all_eq_true]
  constructor
  · intro h i hi
    have : i < B.length := by omega
    rw [getD_at _ _ this]
    exact h _ (List.getElem_mem this)
  · intro h x hx
    obtain ⟨i, hi, rfl⟩ := List.getElem_of_mem hx
    have := h i (by omega)
    rwa [getD_at _ _ hi] at this
theorem rright_is (B : List Int) (hB : Brd B) (w : World) :
    Calls Tryd.prog 43 #[.agg (cl B).toArray] w fun e w' => e = .returned (.bool (rightB B)) ∧ Kept w w' := by
  rcases first_or (fun i => !okB (B.getD i 0)) 64 with h | ⟨k, hk, h1, h2⟩
  · have h' : ∀ i, i < 64 → okB (B.getD i 0) = true := fun i hi => by simpa using h i hi
    rw [(rightB_iff B hB.1).2 h']
    exact rright_yes' B hB h' w
  · have h1' : okB (B.getD k 0) = false := by simpa using h1
    have : rightB B = false := by
      rw [← Bool.not_eq_true, rightB_iff B hB.1]
      intro h
      rw [h k hk] at h1'
      cases h1'
    rw [this]
    exact rright_no' B hB k hk h1' (fun i hi => by simpa using h2 i hi) w
def edgeB (B : List Int) : Bool := (List.range 64).any (edge B)
end Go.Proofs.YtkliefojegjhhaaDoor
