/- Boards: how they lie in memory, and the contracts of the small questions on them. -/
import Derived.Test.YtebjglgajkpldaaSqB
import Derived.Test.YtebjglgajkpldaaMeA
import Derived.Test.YtebjglgajkpldaaKp
import Derived.Deep.WholeRow
import Derived.Deep.MidRow
import Derived.Deep.RegionHeld3
import Derived.Deep.AppendLies
import Derived.OwnWalk
import Derived.ChangeKeysEq
namespace Go.Proofs.Ytebjglgajkpldaa
open Go.RowKit
set_option linter.unusedVariables false

/-- A board's numbers as the cells of its array. -/
def cl (B : List Int) : List Value := B.map (Value.int .i8)
theorem cl_length (B : List Int) : (cl B).length = B.length := by simp [cl]
theorem cl_get (B : List Int) (i : Nat) (h : i < B.length) : (cl B)[i]? = some (.int .i8 (B.getD i 0)) := by
  simp [cl, List.getD, List.getElem?_eq_getElem h]
theorem cl_set (B : List Int) (i : Nat) (x : Int) : (cl B).set i (.int .i8 x) = cl (B.set i x) := by
  simp [cl, List.map_set]
theorem cl_inj {A B : List Int} (h : cl A = cl B) : A = B := by
  unfold cl at h
  exact (List.map_inj_right (fun _ _ h => by injection h)).1 h
/-- Sixty-four numbers of eight bits. -/
def Brd (B : List Int) : Prop := B.length = 64 ∧ ∀ i, i < 64 → -128 ≤ B.getD i 0 ∧ B.getD i 0 ≤ 127
theorem size24 : (Try.prog.info? 24).map (·.size) = some 64 := by kernel_rfl
theorem info22 : (Try.prog.info? 22).map (fun i => (i.zero, i.size)) = some (some (.int .i8 0), 1) := by kernel_rfl
theorem cells22 : Try.prog.cellsOf 22 = 1 := by kernel_rfl
theorem cells24 : Try.prog.cellsOf 24 = 64 := by kernel_rfl
/-- One number of a board that is at hand as a value. -/
theorem run_index_cl (B : List Int) (hB : B.length = 64) (k : Nat) (hk : k < 64) (w : World) :
    (Instr.index 24 (.agg (cl B).toArray) (.int .i64 k)).run Try.prog w = .ok (.int .i8 (B.getD k 0)) w := by
  have h1 : (0 : Int) ≤ (k : Int) ∧ (k : Int) < ((64 : Nat) : Int) := by omega
  have h2 := cl_get B k (by omega)
  have hs : (sizeOf 22).run Try.prog w = .ok 1 w := by
    cases hq : Try.prog.info? 22 with
    | none => have := info22; simp [hq] at this
    | some i => have := info22; simp [hq] at this; simp [sizeOf, typeInfo, hq, this.2]
  simp only [Instr.index, asIntOf, Sem.run_bind, Sem.run_pure, Result.andThen_ok, run_underlying Try.underlying24, if_pos h1, hs]
  simp [part, isAgg, run_underlying Try.underlying22, h2]
theorem size_cl {B : List Int} (hB : B.length = 64) : (Try.prog.info? 24).map (·.size) = some (cl B).toArray.size := by rw [size24]; simp [cl_length, hB]
/-- The load of a whole board, in a region in the text's order, guarded or not. -/
theorem wpList_load_w {ops : Array Oper} {rest : List Oper} {o : Oper} {a : Act} {w : World} {Q : Exit → Act → World → Prop} (hw : Region.wanted o (yielded ops a.tmps) = true) (x : Operand) (ho : o.op = .load 24 x)
    (g : Nat) (hx : a.eval x = .pointer (some ⟨g, 0, none⟩)) (B : List Int) (hg : w.heap[g]? = some (.cells (cl B).toArray 24 (0, 0)))
    (hi : (Try.prog.info? 24).map (·.size) = some (cl B).toArray.size)
    (h : wpList Try.prog ops Q rest (a.put o.dst (.agg (cl B).toArray)) w) : wpList Try.prog ops Q (o :: rest) a w :=
  wpList_step fun _ hK => by
    rw [if_pos hw]
    exact wp_load_row 24 x ho g hx _ _ (0, 0) _ hg Try.underlying24 rfl hi (hK _ _ h)
theorem run_load_cl {w : World} {g : Nat} {B : List Int} {t : TypeId} (hB : B.length = 64) (hg : w.heap[g]? = some (.cells (cl B).toArray t (0, 0))) :
    (loadVar 24 ⟨g, 0, none⟩).run Try.prog w = .ok (.agg (cl B).toArray) w :=
  run_loadVar_row w g t _ (cl B).toArray (0, 0) _ hg Try.underlying24 rfl (by rw [size24]; simp [cl_length, hB])
theorem man_yes (B : List Int) (hB : Brd B) (k : Nat) (hk : k < 64) (w : World) :
    Calls Try.prog 13 #[.agg (cl B).toArray, .int .i64 k] w fun e w' => e = .returned (.int .i64 (B.getD k 0)) ∧ Kept w w' := by
  have hc : (w.alloc (.cells (cl B).toArray 24)).cell? ⟨w.heap.size, k, none⟩ = some (.int .i8 (B.getD k 0)) := by
    rw [cell_of_row _ _ k _ _ (0, 0) (heap_alloc_new w _)]
    simpa using cl_get B k (by rw [hB.1]; exact hk)
  obtain ⟨hb1, hb2⟩ := hB.2 k hk
  clear hB
  generalize B.getD k 0 = x at *
  go_enter Try.func13, Try.ntmps13
  go_wp2_with fail
  refine (right_yes _ _ (by omega) (by omega)).mono ?_
  rintro e w' ⟨rfl, rfl⟩
  go_wp2
  go_ret
  exact ⟨rfl, (Kept.refl _).alloc _⟩
theorem man_no (B : List Int) (s : Int) (h : s < 0 ∨ 64 ≤ s) (w : World) :
    Calls Try.prog 13 #[.agg (cl B).toArray, .int .i64 s] w fun e w' => e = .returned (.int .i64 0) ∧ Kept w w' := by
  go_enter Try.func13, Try.ntmps13
  go_wp2_with fail
  refine (right_no _ _ h).mono ?_
  rintro e w' ⟨rfl, rfl⟩
  go_wp2
  go_ret
  exact ⟨rfl, (Kept.refl _).alloc _⟩
/-- Is it a man? Of which kind and side? -/
def manB (x : Int) : Bool := x != 0 && decide (-6 ≤ x) && decide (x ≤ 6)
def kindI (x : Int) : Int := if manB x then (if 0 < x then x else -x) else 0
def sideI (x : Int) : Int := if manB x then (if 0 < x then 0 else 1) else -1
theorem manB_iff (x : Int) : manB x = true ↔ x ≠ 0 ∧ -6 ≤ x ∧ x ≤ 6 := by simp [manB, and_assoc]
theorem manB_not (x : Int) : manB x = false ↔ x < -6 ∨ x = 0 ∨ 6 < x := by
  rw [← Bool.not_eq_true, manB_iff]; omega
theorem mright_any (m : Int) (w : World) :
    Calls Try.prog 30 #[.int .i64 m] w fun e w' => e = .returned (.bool (manB m)) ∧ w = w' := by
  by_cases h : manB m = true
  · have := (manB_iff m).1 h
    rw [h]; exact mright_yes m w this.1 this.2.1 this.2.2
  · have h' : manB m = false := by simpa using h
    rw [h']; exact mright_no m w ((manB_not m).1 h')
theorem mkind_any (m : Int) (w : World) :
    Calls Try.prog 32 #[.int .i64 m] w fun e w' => e = .returned (.int .i64 (kindI m)) ∧ w = w' := by
  unfold kindI
  by_cases h : manB m = true
  · have := (manB_iff m).1 h
    rw [if_pos h]
    by_cases h0 : 0 < m
    · rw [if_pos h0]; exact mkind_w m w h0 this.2.2
    · rw [if_neg h0]; exact mkind_b m w (by omega) this.2.1
  · rw [if_neg h]; exact mkind_no m w ((manB_not m).1 (by simpa using h))
theorem mside_any (m : Int) (w : World) :
    Calls Try.prog 31 #[.int .i64 m] w fun e w' => e = .returned (.int .i64 (sideI m)) ∧ w = w' := by
  unfold sideI
  by_cases h : manB m = true
  · have := (manB_iff m).1 h
    rw [if_pos h]
    by_cases h0 : 0 < m
    · rw [if_pos h0]; exact mside_w m w h0 this.2.2
    · rw [if_neg h0]; exact mside_b m w (by omega) this.2.1
  · rw [if_neg h]; exact mside_no m w ((manB_not m).1 (by simpa using h))
theorem rkind_any (m : Int) (w : World) :
    Calls Try.prog 21 #[.int .i64 m] w fun e w' => e = .returned (.int .i64 (kindI m)) ∧ w = w' := by
  unfold kindI
  by_cases h : manB m = true
  · have := (manB_iff m).1 h
    rw [if_pos h]
    by_cases h0 : 0 < m
    · rw [if_pos h0]; exact rkind_yes m m w (.inl rfl) (by omega) this.2.2
    · rw [if_neg h0]; exact rkind_yes m (-m) w (.inr (by omega)) (by omega) (by omega)
  · rw [if_neg h]; exact rkind_no m w ((manB_not m).1 (by simpa using h))
theorem kindI_bd (x : Int) : 0 ≤ kindI x ∧ kindI x ≤ 6 := by
  unfold kindI
  by_cases h : manB x = true
  · have := (manB_iff x).1 h
    rw [if_pos h]; split <;> omega
  · rw [if_neg h]; omega
theorem kindI_one (x : Int) : (kindI x == 1) = (x == 1 || x == -1) := by
  rw [Bool.eq_iff_iff]
  simp only [beq_iff_eq, Bool.or_eq_true]
  unfold kindI
  by_cases h : manB x = true
  · rw [if_pos h]; split <;> omega
  · rw [if_neg h]; have := (manB_not x).1 (by simpa using h); omega
/-- Does a pawn stand on the first or the last rank? -/
def edge (B : List Int) (i : Nat) : Bool := (kindI (B.getD i 0) == 1) && (((i : Int) / 8 == 0) || ((i : Int) / 8 == 7))
theorem pawnAtEdge_no (B : List Int) (hB : Brd B) (he : ∀ i, i < 64 → edge B i = false) (w : World) :
    Calls Try.prog 26 #[.agg (cl B).toArray] w fun e w' => e = .returned (.bool false) ∧ Kept w w' := by
  have H := Lib.hid hB
  have HE := Lib.hid he
  have hz := Lib.hid (size_cl hB.1)
  clear hB he
  go_enter Try.func26, Try.ntmps26
  go_wp2_with (refine wpList_load_w (by rfl) _ rfl _ rfl _ (heap_alloc_new w _) hz.out ?_)
  go_loop [7] (fun t => ∃ k : Nat, k ≤ 64 ∧ t = .int .i64 k) (fun t => 64 - (intOf t).toNat)
  case atStart => exact ⟨0, by omega, rfl⟩
  case round =>
    obtain ⟨k, hk, rfl⟩ := hrel
    by_cases hlt : k < 64
    · have hx := run_index_cl B H.out.1 k hlt
      obtain ⟨hb1, hb2⟩ := H.out.2 k hlt
      have he := HE.out k hlt
      unfold edge at he
      generalize B.getD k 0 = x at *
      by_cases hp : (kindI x == 1) = true
      · rw [hp, Bool.true_and, Bool.or_eq_false_iff] at he
        obtain ⟨e1, e2⟩ := he
        go_wp2_with fail
        refine (rank_yes _ _ (by omega) (by omega)).mono ?_
        rintro e w' ⟨rfl, rfl⟩
        go_wp2_with fail
        refine (mkind_any _ _).mono ?_
        rintro e w' ⟨rfl, rfl⟩
        go_wp2
        go_round
        case rel => exact ⟨k + 1, by omega, by go_num⟩
        case measure => simp [intOf]; omega
      · have hp' : (kindI x == 1) = false := by simpa using hp
        clear he hp
        go_wp2_with fail
        refine (rank_yes _ _ (by omega) (by omega)).mono ?_
        rintro e w' ⟨rfl, rfl⟩
        go_wp2_with fail
        refine (mkind_any _ _).mono ?_
        rintro e w' ⟨rfl, rfl⟩
        go_wp2
        go_round
        case rel => exact ⟨k + 1, by omega, by go_num⟩
        case measure => simp [intOf]; omega
    · go_wp2
      go_ret
      exact ⟨rfl, (Kept.refl _).alloc _⟩
theorem pawnAtEdge_yes (B : List Int) (hB : Brd B) (n : Nat) (hn : n < 64) (he : edge B n = true) (hf : ∀ i, i < n → edge B i = false) (w : World) :
    Calls Try.prog 26 #[.agg (cl B).toArray] w fun e w' => e = .returned (.bool true) ∧ Kept w w' := by
  have H := Lib.hid hB
  have HF := Lib.hid hf
  have HE := Lib.hid he
  have hz := Lib.hid (size_cl hB.1)
  clear hB he hf
  go_enter Try.func26, Try.ntmps26
  go_wp2_with (refine wpList_load_w (by rfl) _ rfl _ rfl _ (heap_alloc_new w _) hz.out ?_)
  go_loop [7] (fun t => ∃ k : Nat, k ≤ n ∧ t = .int .i64 k) (fun t => 64 - (intOf t).toNat)
  case atStart => exact ⟨0, by omega, rfl⟩
  case round =>
    obtain ⟨k, hk, rfl⟩ := hrel
    have hlt : k < 64 := by omega
    have hx := run_index_cl B H.out.1 k hlt
    obtain ⟨hb1, hb2⟩ := H.out.2 k hlt
    by_cases hkn : k = n
    · subst hkn
      have he := HE.out
      unfold edge at he
      generalize B.getD k 0 = x at *
      rw [Bool.and_eq_true] at he
      obtain ⟨hp, he⟩ := he
      by_cases h0 : ((k : Int) / 8 == 0) = true
      · clear he
        go_wp2_with fail
        refine (rank_yes _ _ (by omega) (by omega)).mono ?_
        rintro e w' ⟨rfl, rfl⟩
        go_wp2_with fail
        refine (mkind_any _ _).mono ?_
        rintro e w' ⟨rfl, rfl⟩
        go_wp2
        go_ret
        exact ⟨rfl, (Kept.refl _).alloc _⟩
      · have h0' : ((k : Int) / 8 == 0) = false := by simpa using h0
        rw [h0', Bool.false_or] at he
        clear h0
        go_wp2_with fail
        refine (rank_yes _ _ (by omega) (by omega)).mono ?_
        rintro e w' ⟨rfl, rfl⟩
        go_wp2_with fail
        refine (mkind_any _ _).mono ?_
        rintro e w' ⟨rfl, rfl⟩
        go_wp2
        go_ret
        exact ⟨rfl, (Kept.refl _).alloc _⟩
    · have he := HF.out k (by omega)
      have hkn' : k < n := by omega
      clear hkn
      unfold edge at he
      generalize B.getD k 0 = x at *
      by_cases hp : (kindI x == 1) = true
      · rw [hp, Bool.true_and, Bool.or_eq_false_iff] at he
        obtain ⟨e1, e2⟩ := he
        go_wp2_with fail
        refine (rank_yes _ _ (by omega) (by omega)).mono ?_
        rintro e w' ⟨rfl, rfl⟩
        go_wp2_with fail
        refine (mkind_any _ _).mono ?_
        rintro e w' ⟨rfl, rfl⟩
        go_wp2
        go_round
        case rel => exact ⟨k + 1, by omega, by go_num⟩
        case measure => simp [intOf]; omega
      · have hp' : (kindI x == 1) = false := by simpa using hp
        clear he hp
        go_wp2_with fail
        refine (rank_yes _ _ (by omega) (by omega)).mono ?_
        rintro e w' ⟨rfl, rfl⟩
        go_wp2_with fail
        refine (mkind_any _ _).mono ?_
        rintro e w' ⟨rfl, rfl⟩
        go_wp2
        go_round
        case rel => exact ⟨k + 1, by omega, by go_num⟩
        case measure => simp [intOf]; omega
end Go.Proofs.Ytebjglgajkpldaa
