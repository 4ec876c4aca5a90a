/- menAlone, Right, Put. -/
import Derived.Test.YtkliefojegjhhaaDoorBoH
namespace Go.Proofs.YtkliefojegjhhaaDoor
open Go.RowKit
set_option linter.unusedVariables false
set_option linter.unusedSimpArgs false

/-- A man stays, what is none goes. -/
def al (x : Int) : Int := if manB x then x else 0
/-- b with nothing where a number stands that is no man. -/
def aloneL (B : List Int) : List Int := tab fun i => al (B.getD i 0)
def mid (f : Int → Int) (B : List Int) (k : Nat) : Nat → Int := fun i => if i < k then f (B.getD i 0) else B.getD i 0
theorem mid_zero (f : Int → Int) (B : List Int) (h : B.length = 64) : tab (mid f B 0) = B := by
  exact (tab_ext fun i hi => by simp [mid]).trans (tab_of B h)
theorem mid_same {f : Int → Int} {B : List Int} {k : Nat} (h : f (B.getD k 0) = B.getD k 0) : tab (mid f B (k + 1)) = tab (mid f B k) := by
  refine tab_ext fun i hi => ?_
  unfold mid
  by_cases e : i = k
  · subst e; rw [if_pos (by omega), if_neg (by omega), h]
  · by_cases l : i < k
    · rw [if_pos (by omega), if_pos l]
    · rw [if_neg (by omega), if_neg l]
theorem mid_set {f : Int → Int} {B : List Int} {k : Nat} {y : Int} (h : f (B.getD k 0) = y) : (tab (mid f B k)).set k y = tab (mid f B (k + 1)) := by
  rw [tab_set]
  refine tab_ext fun i hi => ?_
  unfold mid
  by_cases e : i = k
  · subst e; rw [if_pos rfl, if_pos (by omega), h]
  · rw [if_neg e]
    by_cases l : i < k
    · rw [if_pos l, if_pos (by omega)]
    · rw [if_neg l, if_neg (by omega)]
theorem mid_end (f : Int → Int) (B : List Int) (k : Nat) (h : ¬ k < 64) : tab (mid f B k) = tab (fun i => f (B.getD i 0)) :=
  tab_ext fun i hi => by unfold mid; rw [if_pos (by omega)]
/-- Behind a call that gives a board. -/
def RetB (w : World) (A : List Int) (e : Ending) (w' : World) : Prop := e = .returned (.agg (cl A).toArray) ∧ Kept w w'
set_option maxRecDepth 100000 in
theorem menAlone_is (B : List Int) (hB : Brd B) (w : World) :
    Calls Tryd.prog 80 #[.agg (cl B).toArray] w (RetB w (aloneL B)) := by
  have H := Lib.hid hB
  have hz := Lib.hid (size_cl hB.1)
  have h00 := Lib.hid (heap_alloc2_old w (.cells (cl B).toArray 40) (.cells (cl Zb).toArray 40))
  have h01 := Lib.hid (heap_alloc2_new w (.cells (cl B).toArray 40) (.cells (cl Zb).toArray 40))
  clear hB
  go_enter Tryd.func80, Tryd.ntmps80
  go_wp2_with (first
    | (with_reducible refine wpList_new_b rfl rfl ?_)
    | (with_reducible refine wpList_load_row rfl 40 _ rfl _ rfl _ _ _ _ h00.out Tryd.underlying40 rfl hz.out ?_))
  go_loopw [6] (fun i wr => ∃ k : Nat, k ≤ 64 ∧ i = .int .i64 k ∧ Hid (wr.heap[w.heap.size]? = some (.cells (cl (tab (mid al B k))).toArray 40 (0, 0))) ∧ Hid (wr.heap[w.heap.size + 1]? = some (.cells (cl Zb).toArray 40 (0, 0))) ∧ Kept w wr) (fun i _ => 64 - (intOf i).toNat)
  case atStart => exact ⟨0, by omega, rfl, by rw [mid_zero _ _ H.out.1]; exact h00, h01, ((Kept.refl _).alloc _).alloc _⟩
  case round =>
    obtain ⟨k, hk, rfl, g0, g1, hK⟩ := hrel
    by_cases hlt : k < 64
    · have hx := run_index_cl B H.out.1 k hlt
      obtain ⟨hb1, hb2⟩ := H.out.2 k hlt
      obtain ⟨x, ex⟩ : ∃ x, x = B.getD k 0 := ⟨_, rfl⟩
      rw [← ex] at hx hb1 hb2
      have EX := Lib.hid ex
      clear ex
      by_cases hm : manB x = true
      · have HS : Hid (al (B.getD k 0) = B.getD k 0) := by rw [← EX.out]; exact if_pos hm
        go_wp2_with fail
        refine (mright_any _ _).mono ?_
        rintro e w' ⟨rfl, rfl⟩
        go_wp2
        go_roundw
        case rel => exact ⟨k + 1, by omega, by go_num, by rw [mid_same HS.out]; exact g0, g1, hK⟩
        case measure => simp [intOf]; omega
      · have hm' : manB x = false := by simpa using hm
        have HS : Hid (al (B.getD k 0) = 0) := by rw [← EX.out]; exact if_neg hm
        clear hm
        have hc := cell_cl (tab_length _) g0.out k hlt
        have hf := frozen_of_row wr w.heap.size k _ _ g0.out
        have hg : Hid _ := heap_set_cl (k := k) 0 g0.out
        have hg' : Hid _ := (heap_setCell_other wr ⟨w.heap.size, k, none⟩ (w.heap.size + 1) (.int .i8 0) (by simp)).trans g1.out
        have hK' := hK.setCell (p := ⟨w.heap.size, k, none⟩) (Nat.le_refl _) (.int .i8 0)
        generalize (tab (mid al B k)).getD k 0 = y at hc
        go_wp2_with fail
        refine (mright_any _ _).mono ?_
        rintro e w' ⟨rfl, rfl⟩
        go_wp2
        go_roundw
        case rel => exact ⟨k + 1, by omega, by go_num, by rw [← mid_set HS.out]; exact hg, hg', hK'⟩
        case measure => simp [intOf]; omega
    · have hz' := Lib.hid (size_cl (tab_length (mid al B k)))
      go_wp2_with (first
        | (with_reducible refine wpList_load_row rfl 40 _ rfl _ rfl _ _ _ _ g0.out Tryd.underlying40 rfl hz'.out ?_)
        | (refine wpList_store_row rfl 40 _ _ rfl (w.heap.size + 1) (cl (tab (mid al B k))).toArray rfl rfl 40 _ g1.out hz'.out (by rw [cl_size _ Zb_brd.1, cl_size _ (tab_length _)]) (cl_one _) ?_))
      refine bodyPost_ret (v := .agg (cl (tab (mid al B k))).toArray) ?_ rfl ⟨?_, ?_⟩
      · exact results_cell_row rfl _ _ (w.heap.size + 1) 40 _ (0, 0) _ rfl (setRow_heap _ _ _ _ _ _ g1.out) Tryd.underlying40 rfl hz'.out
      · rw [mid_end _ _ _ hlt]; rfl
      · exact hK.setRow (by omega) _
theorem alone_eq (B : List Int) (hB : Brd B) : beqB B (aloneL B) = rightB B := by
  unfold aloneL
  rw [Bool.eq_iff_iff, beqB_iff hB.1 (tab_length _), rightB_iff B hB.1]
  have hal : ∀ x, al x = x ↔ okB x = true := by
    intro x
    unfold al okB
    by_cases h : manB x = true
    · simp [h]
    · rw [if_neg h, Bool.or_eq_true, beq_iff_eq]
      exact ⟨fun e => .inl e.symm, fun e => e.elim (fun e => e.symm) (fun e => absurd e h)⟩
  constructor
  · intro h i hi
    have : B.getD i 0 = al (B.getD i 0) := by
      have := congrArg (fun l : List Int => l.getD i 0) h
      simpa only [tab_get _ i hi] using this
    exact (hal _).1 this.symm
  · intro h
    rw [← tab_of B hB.1]
    refine (tab_ext fun i hi => ?_)
    rw [tab_of B hB.1]
    exact ((hal _).2 (h i hi)).symm
theorem al_brd (B : List Int) (hB : Brd B) : Brd (aloneL B) :=
  tab_brd fun i hi => by have := hB.2 i hi; unfold al; split <;> omega
/-- In a region that draws its order: the load of a board whose block is there in every world of S. -/
theorem take_load {ops : Array Oper} {S : World → Prop} {op : Oper} {a : Act} (hw : Region.wanted op (yielded ops a.tmps) = true) (x : Operand) (ho : op.op = .load 40 x)
    (g : Nat) (hx : a.eval x = .pointer (some ⟨g, 0, none⟩)) (B : List Int) (hB : B.length = 64) (hS : ∀ w, S w → w.heap[g]? = some (.cells (cl B).toArray 40 (0, 0))) :
    YieldsIf Tryd.prog ops S op (.agg (cl B).toArray) a :=
  yieldsIf_load_mid hw 40 x ho g 0 hx (cl B) _ (fun w h j v hv => by rw [cell_of_row _ _ _ _ _ (0, 0) (hS w h)]; simpa using hv) Tryd.underlying40 rfl (by rw [size24, cl_length, hB])
theorem take_eql {ops : Array Oper} {S : World → Prop} {op : Oper} {a : Act} {b : Bool} (hw : Region.wanted op (yielded ops a.tmps) = true) (x y : Operand) (ty : TypeId) (ho : op.op = .binOp .eql 40 x y ty)
    (A B : List Int) (hx : a.eval x = .agg (cl A).toArray) (hy : a.eval y = .agg (cl B).toArray) (h : A.length = 64 ∧ B.length = 64 ∧ beqB A B = b) : YieldsIf Tryd.prog ops S op (.bool b) a :=
  .inl ⟨hw, fun w _ => by
    unfold execOp
    simp only [ho, hx, hy, Sem.run_bind, run_eqGuard_cl, run_eql_cl A B h.1 h.2.1, Result.andThen_ok, Sem.run_pure, h.2.2]⟩
theorem take_neq {ops : Array Oper} {S : World → Prop} {op : Oper} {a : Act} {b : Bool} (hw : Region.wanted op (yielded ops a.tmps) = true) (x y : Operand) (ty : TypeId) (ho : op.op = .binOp .neq 40 x y ty)
    (A B : List Int) (hx : a.eval x = .agg (cl A).toArray) (hy : a.eval y = .agg (cl B).toArray) (h : A.length = 64 ∧ B.length = 64 ∧ (!beqB A B) = b) : YieldsIf Tryd.prog ops S op (.bool b) a :=
  .inl ⟨hw, fun w _ => by
    unfold execOp
    simp only [ho, hx, hy, Sem.run_bind, run_eqGuard_cl, run_neq_cl A B h.1 h.2.1, Result.andThen_ok, Sem.run_pure, h.2.2]⟩
/-- Take number i first, its slot given. -/
theorem bright_is (B : List Int) (hB : Brd B) (w : World) :
    Calls Tryd.prog 70 #[.agg (cl B).toArray] w fun e w' => e = .returned (.bool (rightB B)) ∧ Kept w w' := by
  have hbl := Lib.hid (heap_alloc_new w (.cells (cl B).toArray 40))
  have HB := Lib.hid hB
  clear hB
  go_enter Tryd.func70, Tryd.ntmps70
  go_wp2
  refine wp_region_held_drew (S := Kept _) (by kernel_rfl) (Kept.refl _).drew (fun hHeld => ?_)
  refine rg_take (i := 0) (some 3) rfl rfl (by kernel_rfl) (by kernel_rfl) (by kernel_rfl) (fun _ _ _ h => h) (take_load (by rfl) _ rfl _ rfl B HB.out.1 (fun _ h => h.heap (hbl.out))) hHeld ?_
  simp only [Act.put, List.setIfInBounds_toArray, List.set_cons_zero, List.set_cons_succ]
  refine rg_take (i := 1) (some 4) rfl rfl (by kernel_rfl) (by kernel_rfl) (by kernel_rfl) (fun _ _ _ h => h) (take_load (by rfl) _ rfl _ rfl B HB.out.1 (fun _ h => h.heap (hbl.out))) hHeld ?_
  simp only [Act.put, List.setIfInBounds_toArray, List.set_cons_zero, List.set_cons_succ]
  refine wpAnyH_ready (rs := [2]) (by kernel_rfl) (by simp) ?_
  refine AllReadyH.cons rfl (fun K hK => ?_) AllReadyH.nil
  go_simp
  refine (menAlone_is B HB.out _).mono ?_
  rintro e w1 ⟨rfl, gw1⟩
  refine hK.out _ _ (hHeld.trans gw1) (fun _ => ?_)
  replace hHeld := hHeld.trans gw1
  clear hK K
  refine rg_take (i := 3) (some 6) rfl rfl (by kernel_rfl) (by kernel_rfl) (by kernel_rfl) (fun _ _ _ h => h) (take_eql (by rfl) _ _ _ rfl B (aloneL B) rfl rfl (⟨HB.out.1, (al_brd B HB.out).1, alone_eq B HB.out⟩)) hHeld ?_
  simp only [Act.put, List.setIfInBounds_toArray, List.set_cons_zero, List.set_cons_succ]
  refine rg_take (i := 4) (v := (.bool (rightB B))) (some 2) rfl rfl (by kernel_rfl) (by kernel_rfl) (by kernel_rfl) (fun _ _ _ h => h) (Or.inl ⟨by rfl, fun _ _ => by go_simp⟩) hHeld ?_
  simp only [Act.put, List.setIfInBounds_toArray, List.set_cons_zero, List.set_cons_succ]
  refine wpAnyH_done (by kernel_rfl) ?_ _
  go_wp2
  go_ret
  exact ⟨rfl, ((Kept.refl _).alloc _).trans hHeld⟩
end Go.Proofs.YtkliefojegjhhaaDoor
