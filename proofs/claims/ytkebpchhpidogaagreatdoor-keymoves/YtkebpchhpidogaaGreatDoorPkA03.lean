/- Boards by a function of the square; First; menAlone and Right · menAlone, Right, Put · Wrong: the board's and the document's; the examples; the walk of BoardWrong · The document's Wrong; the examples; the walk of BoardWrong. -/
import Derived.Test.YtkebpchhpidogaaGreatDoorPkA02
namespace Go.Proofs.YtkebpchhpidogaaGreatDoor
open Go.RowKit
set_option linter.unusedVariables false
set_option linter.unusedSimpArgs false
set_option maxRecDepth 100000

/-- The board that has f i on the square i. -/
def tab (f : Nat → Int) : List Int := (List.range 64).map f
theorem tab_length (f : Nat → Int) : (tab f).length = 64 := by simp [tab]
theorem tab_get (f : Nat → Int) (i : Nat) (h : i < 64) : (tab f).getD i 0 = f i := by simp [tab, List.getD, h]
theorem tab_ext {f g : Nat → Int} (h : ∀ i, i < 64 → f i = g i) : tab f = tab g := by
  unfold tab
  exact List.map_congr_left fun i hi => h i (by simpa using hi)
theorem tab_of (B : List Int) (h : B.length = 64) : tab (fun i => B.getD i 0) = B := by
  refine List.ext_getElem (by rw [tab_length, h]) fun i h1 h2 => ?_
  rw [← getD_at _ _ h1, ← getD_at _ _ h2, tab_get _ i (by omega)]
theorem tab_set (f : Nat → Int) (k : Nat) (x : Int) : (tab f).set k x = tab (fun i => if i = k then x else f i) := by
  refine List.ext_getElem (by simp [tab_length]) fun i h1 h2 => ?_
  have h3 : i < 64 := by simpa [tab_length] using h1
  rw [List.getElem_set]
  by_cases e : k = i
  · subst e
    simp [tab]
  · have e' : ¬ i = k := fun h => e h.symm
    simp [tab, e, e']
theorem tab_brd {f : Nat → Int} (h : ∀ i, i < 64 → -128 ≤ f i ∧ f i ≤ 127) : Brd (tab f) :=
  ⟨tab_length f, fun i hi => by rw [tab_get f i hi]; exact h i hi⟩
theorem cl_one (B : List Int) : (cl B).toArray.all (·.oneCell') = true := by
  rw [Array.all_eq_true_iff_forall_mem]
  intro v hv
  simp only [List.mem_toArray, cl, List.mem_map] at hv
  obtain ⟨x, _, rfl⟩ := hv
  rfl
theorem cl_set_arr (B : List Int) (i : Nat) (x : Int) : (cl B).toArray.setIfInBounds i (.int .i8 x) = (cl (B.set i x)).toArray := by
  rw [← cl_set]; simp
theorem cl_size (B : List Int) (h : B.length = 64) : (cl B).toArray.size = 64 := by simp [cl_length, h]
/-- A store of one number into a board's block. -/
theorem heap_set_cl {w : World} {g k : Nat} {B : List Int} {t : TypeId} (x : Int) (hg : w.heap[g]? = some (.cells (cl B).toArray t (0, 0))) :
    (w.setCell ⟨g, k, none⟩ (.int .i8 x)).heap[g]? = some (.cells (cl (B.set k x)).toArray t (0, 0)) := by
  rw [heap_setCell_same w g k _ t _ hg, cl_set_arr]
theorem cell_cl {w : World} {g : Nat} {B : List Int} {t : TypeId} (hB : B.length = 64) (hg : w.heap[g]? = some (.cells (cl B).toArray t (0, 0))) (k : Nat) (hk : k < 64) :
    w.cell? ⟨g, k, none⟩ = some (.int .i8 (B.getD k 0)) := by
  rw [cell_of_row _ _ k _ _ (0, 0) hg]
  simpa using cl_get B k (by omega)
/-- The board on which a game begins. -/
def Fb : List Int := [4, 2, 3, 5, 6, 3, 2, 4, 1, 1, 1, 1, 1, 1, 1, 1, 0, 0, 0, 0, 0, 0, 0, 0, 0, 0, 0, 0, 0, 0, 0, 0, 0, 0, 0, 0, 0, 0, 0, 0, 0, 0, 0, 0, 0, 0, 0, 0, -1, -1, -1, -1, -1, -1, -1, -1, -4, -2, -3, -5, -6, -3, -2, -4]
theorem Fb_brd : Brd Fb := by
  refine ⟨rfl, ?_⟩
  have : ∀ i : Fin 64, -128 ≤ Fb.getD i.val 0 ∧ Fb.getD i.val 0 ≤ 127 := by decide +kernel
  exact fun i hi => this ⟨i, hi⟩
theorem first_is (w : World) : Calls Tryz.prog 27 #[] w fun e w' => e = .returned (.agg (cl Fb).toArray) ∧ Kept w w' := by
  have hz := Lib.hid (size_cl Fb_brd.1)
  have hbl := heap_alloc_new w (.cells (cl Zb).toArray 24)
  have HB := Lib.hid hbl
  clear hbl
  go_enter Tryz.func27, Tryz.ntmps27
  go_wp2_with (first
    | (with_reducible refine wpList_new_b rfl rfl ?_)
    | (refine wpList_built rfl 24 _ rfl (cl Fb).toArray (by kernel_rfl) ?_)
    | (refine wpList_store_row rfl 24 _ _ rfl w.heap.size (cl Fb).toArray rfl rfl 24 _ HB.out hz.out (by rw [cl_size _ Zb_brd.1, cl_size _ Fb_brd.1]) (cl_one _) ?_))
  refine bodyPost_ret (v := .agg (cl Fb).toArray) ?_ rfl ⟨rfl, ?_⟩
  · exact results_cell_row rfl _ _ w.heap.size 24 _ (0, 0) _ rfl (setRow_heap _ _ _ _ _ _ HB.out) Tryz.underlying24 rfl hz.out
  · exact ((Kept.refl _).alloc _).setRow (Nat.le_refl _) _
end Go.Proofs.YtkebpchhpidogaaGreatDoor
namespace Go.Proofs.YtkebpchhpidogaaGreatDoor
open Go.RowKit
set_option linter.unusedVariables false
set_option linter.unusedSimpArgs false
set_option maxRecDepth 100000

/-- A man stays, what is none goes. -/
def al (x : Int) : Int := if manB x then x else 0
/-- b with nothing where a number stands that is no man. -/
def aloneL (B : List Int) : List Int := tab fun i => al (B.getD i 0)
def mid (f : Int → Int) (B : List Int) (k : Nat) : Nat → Int := fun i => if i < k then f (B.getD i 0) else B.getD i 0
theorem mid_zero (f : Int → Int) (B : List Int) (h : B.length = 64) : tab (mid f B 0) = B := by
  exact (tab_ext fun i hi => by simp [mid]).trans (tab_of B h)
theorem mid_same {f : Int → Int} {B : List Int} {k : Nat} (h : f (B.getD k 0) = B.getD k 0) : tab (mid f B (k + 1)) = tab (mid f B k) := by
  refine tab_ext fun i hi => ?_
  unfold mid
  by_cases e : i = k
  · subst e; rw [if_pos (by omega), if_neg (by omega), h]
  · by_cases l : i < k
    · rw [if_pos (by omega), if_pos l]
    · rw [if_neg (by omega), if_neg l]
theorem mid_set {f : Int → Int} {B : List Int} {k : Nat} {y : Int} (h : f (B.getD k 0) = y) : (tab (mid f B k)).set k y = tab (mid f B (k + 1)) := by
  rw [tab_set]
  refine tab_ext fun i hi => ?_
  unfold mid
  by_cases e : i = k
  · subst e; rw [if_pos rfl, if_pos (by omega), h]
  · rw [if_neg e]
    by_cases l : i < k
    · rw [if_pos l, if_pos (by omega)]
    · rw [if_neg l, if_neg (by omega)]
theorem mid_end (f : Int → Int) (B : List Int) (k : Nat) (h : ¬ k < 64) : tab (mid f B k) = tab (fun i => f (B.getD i 0)) :=
  tab_ext fun i hi => by unfold mid; rw [if_pos (by omega)]
/-- Behind a call that gives a board. -/
def RetB (w : World) (A : List Int) (e : Ending) (w' : World) : Prop := e = .returned (.agg (cl A).toArray) ∧ Kept w w'
set_option maxRecDepth 100000 in
theorem menAlone_is (B : List Int) (hB : Brd B) (w : World) :
    Calls Tryz.prog 85 #[.agg (cl B).toArray] w (RetB w (aloneL B)) := by
  have H := Lib.hid hB
  have hz := Lib.hid (size_cl hB.1)
  have h00 := Lib.hid (heap_alloc2_old w (.cells (cl B).toArray 24) (.cells (cl Zb).toArray 24))
  have h01 := Lib.hid (heap_alloc2_new w (.cells (cl B).toArray 24) (.cells (cl Zb).toArray 24))
  clear hB
  go_enter Tryz.func85, Tryz.ntmps85
  go_wp2_with (first
    | (with_reducible refine wpList_new_b rfl rfl ?_)
    | (with_reducible refine wpList_load_row rfl 24 _ rfl _ rfl _ _ _ _ h00.out Tryz.underlying24 rfl hz.out ?_))
  go_loopw [6] (fun i wr => ∃ k : Nat, k ≤ 64 ∧ i = .int .i64 k ∧ Hid (wr.heap[w.heap.size]? = some (.cells (cl (tab (mid al B k))).toArray 24 (0, 0))) ∧ Hid (wr.heap[w.heap.size + 1]? = some (.cells (cl Zb).toArray 24 (0, 0))) ∧ Kept w wr) (fun i _ => 64 - (intOf i).toNat)
  case atStart => exact ⟨0, by omega, rfl, by rw [mid_zero _ _ H.out.1]; exact h00, h01, ((Kept.refl _).alloc _).alloc _⟩
  case round =>
    obtain ⟨k, hk, rfl, g0, g1, hK⟩ := hrel
    by_cases hlt : k < 64
    · have hx := run_index_cl B H.out.1 k hlt
      obtain ⟨hb1, hb2⟩ := H.out.2 k hlt
      obtain ⟨x, ex⟩ : ∃ x, x = B.getD k 0 := ⟨_, rfl⟩
      rw [← ex] at hx hb1 hb2
      have EX := Lib.hid ex
      clear ex
      by_cases hm : manB x = true
      · have HS : Hid (al (B.getD k 0) = B.getD k 0) := by rw [← EX.out]; exact if_pos hm
        go_wp2_with fail
        refine (mright_any _ _).mono ?_
        rintro e w' ⟨rfl, rfl⟩
        go_wp2
        go_roundw
        case rel => exact ⟨k + 1, by omega, by go_num, by rw [mid_same HS.out]; exact g0, g1, hK⟩
        case measure => simp [intOf]; omega
      · have hm' : manB x = false := by simpa using hm
        have HS : Hid (al (B.getD k 0) = 0) := by rw [← EX.out]; exact if_neg hm
        clear hm
        have hc := cell_cl (tab_length _) g0.out k hlt
        have hf := frozen_of_row wr w.heap.size k _ _ g0.out
        have hg : Hid _ := heap_set_cl (k := k) 0 g0.out
        have hg' : Hid _ := (heap_setCell_other wr ⟨w.heap.size, k, none⟩ (w.heap.size + 1) (.int .i8 0) (by simp)).trans g1.out
        have hK' := hK.setCell (p := ⟨w.heap.size, k, none⟩) (Nat.le_refl _) (.int .i8 0)
        generalize (tab (mid al B k)).getD k 0 = y at hc
        go_wp2_with fail
        refine (mright_any _ _).mono ?_
        rintro e w' ⟨rfl, rfl⟩
        go_wp2
        go_roundw
        case rel => exact ⟨k + 1, by omega, by go_num, by rw [← mid_set HS.out]; exact hg, hg', hK'⟩
        case measure => simp [intOf]; omega
    · have hz' := Lib.hid (size_cl (tab_length (mid al B k)))
      go_wp2_with (first
        | (with_reducible refine wpList_load_row rfl 24 _ rfl _ rfl _ _ _ _ g0.out Tryz.underlying24 rfl hz'.out ?_)
        | (refine wpList_store_row rfl 24 _ _ rfl (w.heap.size + 1) (cl (tab (mid al B k))).toArray rfl rfl 24 _ g1.out hz'.out (by rw [cl_size _ Zb_brd.1, cl_size _ (tab_length _)]) (cl_one _) ?_))
      refine bodyPost_ret (v := .agg (cl (tab (mid al B k))).toArray) ?_ rfl ⟨?_, ?_⟩
      · exact results_cell_row rfl _ _ (w.heap.size + 1) 24 _ (0, 0) _ rfl (setRow_heap _ _ _ _ _ _ g1.out) Tryz.underlying24 rfl hz'.out
      · rw [mid_end _ _ _ hlt]; rfl
      · exact hK.setRow (by omega) _
theorem alone_eq (B : List Int) (hB : Brd B) : beqB B (aloneL B) = rightB B := by
  unfold aloneL
  rw [Bool.eq_iff_iff, beqB_iff hB.1 (tab_length _), rightB_iff B hB.1]
  have hal : ∀ x, al x = x ↔ okB x = true := by
    intro x
    unfold al okB
    by_cases h : manB x = true
    · simp [h]
    · rw [if_neg h, Bool.or_eq_true, beq_iff_eq]
      exact ⟨fun e => .inl e.symm, fun e => e.elim (fun e => e.symm) (fun e => absurd e h)⟩
  constructor
  · intro h i hi
    have : B.getD i 0 = al (B.getD i 0) := by
      have := congrArg (fun l : List Int => l.getD i 0) h
      simpa only [tab_get _ i hi] using this
    exact (hal _).1 this.symm
  · intro h
    rw [← tab_of B hB.1]
    refine (tab_ext fun i hi => ?_)
    rw [tab_of B hB.1]
    exact ((hal _).2 (h i hi)).symm
theorem al_brd (B : List Int) (hB : Brd B) : Brd (aloneL B) :=
  tab_brd fun i hi => by have := hB.2 i hi; unfold al; split <;> omega
/-- In a region that draws its order: the load of a board whose block is there in every world of S. -/
theorem take_load {ops : Array Oper} {S : World → Prop} {op : Oper} {a : Act} (hw : Region.wanted op (yielded ops a.tmps) = true) (x : Operand) (ho : op.op = .load 24 x)
    (g : Nat) (hx : a.eval x = .pointer (some ⟨g, 0, none⟩)) (B : List Int) (hB : B.length = 64) (hS : ∀ w, S w → w.heap[g]? = some (.cells (cl B).toArray 24 (0, 0))) :
    YieldsIf Tryz.prog ops S op (.agg (cl B).toArray) a :=
  yieldsIf_load_mid hw 24 x ho g 0 hx (cl B) _ (fun w h j v hv => by rw [cell_of_row _ _ _ _ _ (0, 0) (hS w h)]; simpa using hv) Tryz.underlying24 rfl (by rw [size24, cl_length, hB])
theorem take_eql {ops : Array Oper} {S : World → Prop} {op : Oper} {a : Act} {b : Bool} (hw : Region.wanted op (yielded ops a.tmps) = true) (x y : Operand) (ty : TypeId) (ho : op.op = .binOp .eql 24 x y ty)
    (A B : List Int) (hx : a.eval x = .agg (cl A).toArray) (hy : a.eval y = .agg (cl B).toArray) (h : A.length = 64 ∧ B.length = 64 ∧ beqB A B = b) : YieldsIf Tryz.prog ops S op (.bool b) a :=
  .inl ⟨hw, fun w _ => by
    unfold execOp
    simp only [ho, hx, hy, Sem.run_bind, run_eqGuard_cl, run_eql_cl A B h.1 h.2.1, Result.andThen_ok, Sem.run_pure, h.2.2]⟩
theorem take_neq {ops : Array Oper} {S : World → Prop} {op : Oper} {a : Act} {b : Bool} (hw : Region.wanted op (yielded ops a.tmps) = true) (x y : Operand) (ty : TypeId) (ho : op.op = .binOp .neq 24 x y ty)
    (A B : List Int) (hx : a.eval x = .agg (cl A).toArray) (hy : a.eval y = .agg (cl B).toArray) (h : A.length = 64 ∧ B.length = 64 ∧ (!beqB A B) = b) : YieldsIf Tryz.prog ops S op (.bool b) a :=
  .inl ⟨hw, fun w _ => by
    unfold execOp
    simp only [ho, hx, hy, Sem.run_bind, run_eqGuard_cl, run_neq_cl A B h.1 h.2.1, Result.andThen_ok, Sem.run_pure, h.2.2]⟩
/-- Take number i first, its slot given. -/
theorem bright_is (B : List Int) (hB : Brd B) (w : World) :
    Calls Tryz.prog 58 #[.agg (cl B).toArray] w fun e w' => e = .returned (.bool (rightB B)) ∧ Kept w w' := by
  have hbl := Lib.hid (heap_alloc_new w (.cells (cl B).toArray 24))
  have HB := Lib.hid hB
  clear hB
  go_enter Tryz.func58, Tryz.ntmps58
  go_wp2
  refine wp_region_held_drew (S := Kept _) (by kernel_rfl) (Kept.refl _).drew (fun hHeld => ?_)
  refine rY 0 3 rfl rfl (take_load (by rfl) _ rfl _ rfl B HB.out.1 (fun _ h => h.heap (hbl.out))) hHeld ?_
  simp only [pA, pN, sZ, sU]
  refine rY 1 4 rfl rfl (take_load (by rfl) _ rfl _ rfl B HB.out.1 (fun _ h => h.heap (hbl.out))) hHeld ?_
  simp only [pA, pN, sZ, sU]
  refine rR 2 rfl (fun K hK => ?_)
  go_simp
  refine (menAlone_is B HB.out _).mono ?_
  rintro e w1 ⟨rfl, gw1⟩
  refine hK.out _ _ (hHeld.trans gw1) (fun _ => ?_)
  replace hHeld := hHeld.trans gw1
  clear hK K
  refine rY 3 6 rfl rfl (take_eql (by rfl) _ _ _ rfl B (aloneL B) rfl rfl (⟨HB.out.1, (al_brd B HB.out).1, alone_eq B HB.out⟩)) hHeld ?_
  simp only [pA, pN, sZ, sU]
  refine rT 4 2 (.bool (rightB B)) rfl rfl hHeld ?_
  simp only [pA, pN, sZ, sU]
  refine wpAnyH_done (by kernel_rfl) ?_ _
  go_wp2
  go_ret
  exact ⟨rfl, ((Kept.refl _).alloc _).trans hHeld⟩
end Go.Proofs.YtkebpchhpidogaaGreatDoor
namespace Go.Proofs.YtkebpchhpidogaaGreatDoor
open Go.RowKit
set_option linter.unusedVariables false
set_option linter.unusedSimpArgs false
set_option maxRecDepth 100000

def manyI (B : List Int) (kind side : Int) : Int := (many B kind side : Nat)
theorem manyI_bd (B : List Int) (kind side : Int) : 0 ≤ manyI B kind side ∧ manyI B kind side ≤ 64 := by
  unfold manyI
  have := cnt_le (fun i => hit kind side (B.getD i 0)) 64
  have : many B kind side ≤ 64 := this
  omega
theorem many_i (B : List Int) (hB : Brd B) (kind side : Int) (w : World) :
    Calls Tryz.prog 59 #[.agg (cl B).toArray, .int .i64 kind, .int .i64 side] w fun e w' => e = .returned (.int .i64 (manyI B kind side)) ∧ Kept w w' := many_is B hB kind side w
/-- What a board lacks. -/
def wrongI (B : List Int) : Int :=
  if rightB B = false then 5 else if manyI B 6 0 ≠ 1 ∨ manyI B 6 1 ≠ 1 then 6 else if edgeB B = true then 7 else if 16 < manyI B 0 0 ∨ 16 < manyI B 0 1 then 8 else 0
theorem wrong_is (B : List Int) (hB : Brd B) (w : World) :
    Calls Tryz.prog 35 #[.agg (cl B).toArray] w fun e w' => e = .returned (.int .i64 (wrongI B)) ∧ Kept w w' := by
  have hbl := Lib.hid (heap_alloc_new w (.cells (cl B).toArray 24))
  have hk0 := (Kept.refl w).alloc (.cells (cl B).toArray 24)
  have hz := Lib.hid (size_cl hB.1)
  have HB := Lib.hid hB
  clear hB
  by_cases h1 : rightB B = true
  · by_cases h2 : (manyI B 6 0 != 1) = true
    · have HW : Hid (6 = wrongI B) := by
        unfold wrongI; rw [if_neg (by rw [h1]; decide), if_pos (.inl (bne_iff_ne.1 h2))]; rfl
      go_enter Tryz.func35, Tryz.ntmps35
      go_wp2_with (refine wpList_load_w (by rfl) _ rfl _ rfl _ (hbl.out) hz.out ?_)
      refine (bright_is B HB.out _).mono ?_
      rintro e w1 ⟨rfl, g1⟩
      go_wp2_with (refine wpList_load_w (by rfl) _ rfl _ rfl _ (g1.heap hbl.out) hz.out ?_)
      refine (many_i B HB.out 6 0 _).mono ?_
      rintro e w2 ⟨rfl, g2⟩
      go_wp2
      go_ret
      exact ⟨ret_int HW.out, (hk0.trans g1).trans g2⟩
    · have h2' : (manyI B 6 0 != 1) = false := by simpa using h2
      by_cases h3 : (manyI B 6 1 != 1) = true
      · have HW : Hid (6 = wrongI B) := by
          unfold wrongI; rw [if_neg (by rw [h1]; decide), if_pos (.inr (bne_iff_ne.1 h3))]; rfl
        clear h2
        go_enter Tryz.func35, Tryz.ntmps35
        go_wp2_with (refine wpList_load_w (by rfl) _ rfl _ rfl _ (hbl.out) hz.out ?_)
        refine (bright_is B HB.out _).mono ?_
        rintro e w1 ⟨rfl, g1⟩
        go_wp2_with (refine wpList_load_w (by rfl) _ rfl _ rfl _ (g1.heap hbl.out) hz.out ?_)
        refine (many_i B HB.out 6 0 _).mono ?_
        rintro e w2 ⟨rfl, g2⟩
        go_wp2_with (refine wpList_load_w (by rfl) _ rfl _ rfl _ ((g1.trans g2).heap hbl.out) hz.out ?_)
        refine (many_i B HB.out 6 1 _).mono ?_
        rintro e w3 ⟨rfl, g3⟩
        go_wp2
        go_ret
        exact ⟨ret_int HW.out, ((hk0.trans g1).trans g2).trans g3⟩
      · have h3' : (manyI B 6 1 != 1) = false := by simpa using h3
        have hkings : Hid (¬ (manyI B 6 0 ≠ 1 ∨ manyI B 6 1 ≠ 1)) := by
          have a1 : manyI B 6 0 = 1 := by simpa using h2'
          have a2 : manyI B 6 1 = 1 := by simpa using h3'
          show ¬ _
          omega
        clear h2 h3
        by_cases h4 : edgeB B = true
        · have HW : Hid (7 = wrongI B) := by
            unfold wrongI; rw [if_neg (by rw [h1]; decide), if_neg hkings.out, if_pos h4]; rfl
          go_enter Tryz.func35, Tryz.ntmps35
          go_wp2_with (refine wpList_load_w (by rfl) _ rfl _ rfl _ (hbl.out) hz.out ?_)
          refine (bright_is B HB.out _).mono ?_
          rintro e w1 ⟨rfl, g1⟩
          go_wp2_with (refine wpList_load_w (by rfl) _ rfl _ rfl _ (g1.heap hbl.out) hz.out ?_)
          refine (many_i B HB.out 6 0 _).mono ?_
          rintro e w2 ⟨rfl, g2⟩
          go_wp2_with (refine wpList_load_w (by rfl) _ rfl _ rfl _ ((g1.trans g2).heap hbl.out) hz.out ?_)
          refine (many_i B HB.out 6 1 _).mono ?_
          rintro e w3 ⟨rfl, g3⟩
          go_wp2_with (refine wpList_load_w (by rfl) _ rfl _ rfl _ (((g1.trans g2).trans g3).heap hbl.out) hz.out ?_)
          refine (pawnAtEdge_is B HB.out _).mono ?_
          rintro e w4 ⟨rfl, g4⟩
          go_wp2
          go_ret
          exact ⟨ret_int HW.out, (((hk0.trans g1).trans g2).trans g3).trans g4⟩
        · have h4' : edgeB B = false := by simpa using h4
          clear h4
          by_cases h5 : 16 < manyI B 0 0
          · have HW : Hid (8 = wrongI B) := by
              unfold wrongI; rw [if_neg (by rw [h1]; decide), if_neg hkings.out, if_neg (by rw [h4']; decide), if_pos (.inl h5)]; rfl
            go_enter Tryz.func35, Tryz.ntmps35
            go_wp2_with (refine wpList_load_w (by rfl) _ rfl _ rfl _ (hbl.out) hz.out ?_)
            refine (bright_is B HB.out _).mono ?_
            rintro e w1 ⟨rfl, g1⟩
            go_wp2_with (refine wpList_load_w (by rfl) _ rfl _ rfl _ (g1.heap hbl.out) hz.out ?_)
            refine (many_i B HB.out 6 0 _).mono ?_
            rintro e w2 ⟨rfl, g2⟩
            go_wp2_with (refine wpList_load_w (by rfl) _ rfl _ rfl _ ((g1.trans g2).heap hbl.out) hz.out ?_)
            refine (many_i B HB.out 6 1 _).mono ?_
            rintro e w3 ⟨rfl, g3⟩
            go_wp2_with (refine wpList_load_w (by rfl) _ rfl _ rfl _ (((g1.trans g2).trans g3).heap hbl.out) hz.out ?_)
            refine (pawnAtEdge_is B HB.out _).mono ?_
            rintro e w4 ⟨rfl, g4⟩
            go_wp2_with (refine wpList_load_w (by rfl) _ rfl _ rfl _ ((((g1.trans g2).trans g3).trans g4).heap hbl.out) hz.out ?_)
            refine (many_i B HB.out 0 0 _).mono ?_
            rintro e w5 ⟨rfl, g5⟩
            go_wp2
            go_ret
            exact ⟨ret_int HW.out, ((((hk0.trans g1).trans g2).trans g3).trans g4).trans g5⟩
          · have h5' : decide (16 < manyI B 0 0) = false := by simpa using h5
            by_cases h6 : 16 < manyI B 0 1
            all_goals
              have h6' : decide (16 < manyI B 0 1) = decide (16 < manyI B 0 1) := rfl
            · have HW : Hid (8 = wrongI B) := by
                unfold wrongI; rw [if_neg (by rw [h1]; decide), if_neg hkings.out, if_neg (by rw [h4']; decide), if_pos (.inr h6)]; rfl
              clear h6'
              go_enter Tryz.func35, Tryz.ntmps35
              go_wp2_with (refine wpList_load_w (by rfl) _ rfl _ rfl _ (hbl.out) hz.out ?_)
              refine (bright_is B HB.out _).mono ?_
              rintro e w1 ⟨rfl, g1⟩
              go_wp2_with (refine wpList_load_w (by rfl) _ rfl _ rfl _ (g1.heap hbl.out) hz.out ?_)
              refine (many_i B HB.out 6 0 _).mono ?_
              rintro e w2 ⟨rfl, g2⟩
              go_wp2_with (refine wpList_load_w (by rfl) _ rfl _ rfl _ ((g1.trans g2).heap hbl.out) hz.out ?_)
              refine (many_i B HB.out 6 1 _).mono ?_
              rintro e w3 ⟨rfl, g3⟩
              go_wp2_with (refine wpList_load_w (by rfl) _ rfl _ rfl _ (((g1.trans g2).trans g3).heap hbl.out) hz.out ?_)
              refine (pawnAtEdge_is B HB.out _).mono ?_
              rintro e w4 ⟨rfl, g4⟩
              go_wp2_with (refine wpList_load_w (by rfl) _ rfl _ rfl _ ((((g1.trans g2).trans g3).trans g4).heap hbl.out) hz.out ?_)
              refine (many_i B HB.out 0 0 _).mono ?_
              rintro e w5 ⟨rfl, g5⟩
              go_wp2_with (refine wpList_load_w (by rfl) _ rfl _ rfl _ (((((g1.trans g2).trans g3).trans g4).trans g5).heap hbl.out) hz.out ?_)
              refine (many_i B HB.out 0 1 _).mono ?_
              rintro e w6 ⟨rfl, g6⟩
              go_wp2
              go_ret
              exact ⟨ret_int HW.out, (((((hk0.trans g1).trans g2).trans g3).trans g4).trans g5).trans g6⟩
            · have HW : Hid (0 = wrongI B) := by
                unfold wrongI; rw [if_neg (by rw [h1]; decide), if_neg hkings.out, if_neg (by rw [h4']; decide), if_neg (by omega)]; rfl
              clear h6'
              have h6' : decide (16 < manyI B 0 1) = false := by simpa using h6
              go_enter Tryz.func35, Tryz.ntmps35
              go_wp2_with (refine wpList_load_w (by rfl) _ rfl _ rfl _ (hbl.out) hz.out ?_)
              refine (bright_is B HB.out _).mono ?_
              rintro e w1 ⟨rfl, g1⟩
              go_wp2_with (refine wpList_load_w (by rfl) _ rfl _ rfl _ (g1.heap hbl.out) hz.out ?_)
              refine (many_i B HB.out 6 0 _).mono ?_
              rintro e w2 ⟨rfl, g2⟩
              go_wp2_with (refine wpList_load_w (by rfl) _ rfl _ rfl _ ((g1.trans g2).heap hbl.out) hz.out ?_)
              refine (many_i B HB.out 6 1 _).mono ?_
              rintro e w3 ⟨rfl, g3⟩
              go_wp2_with (refine wpList_load_w (by rfl) _ rfl _ rfl _ (((g1.trans g2).trans g3).heap hbl.out) hz.out ?_)
              refine (pawnAtEdge_is B HB.out _).mono ?_
              rintro e w4 ⟨rfl, g4⟩
              go_wp2_with (refine wpList_load_w (by rfl) _ rfl _ rfl _ ((((g1.trans g2).trans g3).trans g4).heap hbl.out) hz.out ?_)
              refine (many_i B HB.out 0 0 _).mono ?_
              rintro e w5 ⟨rfl, g5⟩
              go_wp2_with (refine wpList_load_w (by rfl) _ rfl _ rfl _ (((((g1.trans g2).trans g3).trans g4).trans g5).heap hbl.out) hz.out ?_)
              refine (many_i B HB.out 0 1 _).mono ?_
              rintro e w6 ⟨rfl, g6⟩
              go_wp2
              go_ret
              exact ⟨ret_int HW.out, (((((hk0.trans g1).trans g2).trans g3).trans g4).trans g5).trans g6⟩
  · have h1' : rightB B = false := by simpa using h1
    clear h1
    have HW : Hid (5 = wrongI B) := by
      unfold wrongI; rw [if_pos h1']; rfl
    go_enter Tryz.func35, Tryz.ntmps35
    go_wp2_with (refine wpList_load_w (by rfl) _ rfl _ rfl _ (hbl.out) hz.out ?_)
    refine (bright_is B HB.out _).mono ?_
    rintro e w1 ⟨rfl, g1⟩
    go_wp2
    go_ret
    exact ⟨ret_int HW.out, hk0.trans g1⟩
end Go.Proofs.YtkebpchhpidogaaGreatDoor
namespace Go.Proofs.YtkebpchhpidogaaGreatDoor
open Go.RowKit
set_option linter.unusedVariables false
set_option linter.unusedSimpArgs false
set_option maxRecDepth 100000

theorem hit_w (x : Int) : hit 6 0 x = (x == 6) := by
  rw [Bool.eq_iff_iff, beq_iff_eq]
  unfold hit sideI kindI
  by_cases h : manB x = true
  · have := (manB_iff x).1 h
    by_cases h0 : 0 < x
    · simp [h, h0]
    · simp [h, h0]; omega
  · have := (manB_not x).1 (by simpa using h)
    simp [h]; omega
theorem hit_b (x : Int) : hit 6 1 x = (x == -6) := by
  rw [Bool.eq_iff_iff, beq_iff_eq]
  unfold hit sideI kindI
  by_cases h : manB x = true
  · have := (manB_iff x).1 h
    by_cases h0 : 0 < x
    · simp [h, h0]; omega
    · simp [h, h0]; omega
  · have := (manB_not x).1 (by simpa using h)
    simp [h]; omega
theorem kings_w (B : List Int) : ((whereL B 6).length : Int) = manyI B 6 0 := by
  unfold manyI many whereL cnt
  simp only [hit_w]
theorem kings_b (B : List Int) : ((whereL B (-6)).length : Int) = manyI B 6 1 := by
  unfold manyI many whereL cnt
  simp only [hit_b]
/-- Does the document find a pawn on that file's first or last square? -/
def rEdge (B : List Int) (f : Nat) : Bool := B.getD f 0 == 1 || B.getD f 0 == -1 || B.getD (56 + f) 0 == 1 || B.getD (56 + f) 0 == -1
theorem edge_low (B : List Int) (f : Nat) (h : f < 8) : edge B f = (B.getD f 0 == 1 || B.getD f 0 == -1) := by
  unfold edge
  have e : (((f : Int) / 8 == 0)) = true := by rw [beq_iff_eq]; omega
  rw [e, kindI_one]; simp
theorem edge_high (B : List Int) (f : Nat) (h : f < 8) : edge B (56 + f) = (B.getD (56 + f) 0 == 1 || B.getD (56 + f) 0 == -1) := by
  unfold edge
  have e : ((((56 + f : Nat) : Int) / 8 == 7)) = true := by rw [beq_iff_eq]; omega
  rw [e, kindI_one]; simp
theorem edge_mid (B : List Int) (i : Nat) (h0 : 8 ≤ i) (h1 : i < 56) : edge B i = false := by
  unfold edge
  have e1 : (((i : Int) / 8 == 0)) = false := by rw [beq_eq_false_iff_ne]; omega
  have e2 : (((i : Int) / 8 == 7)) = false := by rw [beq_eq_false_iff_ne]; omega
  rw [e1, e2]; simp
theorem rEdge_edge (B : List Int) (f : Nat) (h : f < 8) : rEdge B f = (edge B f || edge B (56 + f)) := by
  rw [edge_low B f h, edge_high B f h]
  unfold rEdge
  simp only [Bool.or_assoc]
theorem edgeB_false (B : List Int) (h : ∀ f, f < 8 → rEdge B f = false) : edgeB B = false := by
  unfold edgeB
  rw [List.any_eq_false]
  intro i hi
  have hi : i < 64 := by simpa using hi
  by_cases h0 : i < 8
  · have := h i h0
    rw [rEdge_edge B i h0, Bool.or_eq_false_iff] at this
    rw [this.1]; decide
  · by_cases h1 : i < 56
    · rw [edge_mid B i (by omega) h1]; decide
    · have := h (i - 56) (by omega)
      rw [rEdge_edge B _ (by omega), Bool.or_eq_false_iff, show 56 + (i - 56) = i by omega] at this
      rw [this.2]; decide
theorem edgeB_true (B : List Int) (f : Nat) (hf : f < 8) (h : rEdge B f = true) : edgeB B = true := by
  unfold edgeB
  rw [List.any_eq_true]
  rw [rEdge_edge B f hf, Bool.or_eq_true] at h
  rcases h with h | h
  · exact ⟨f, by simp; omega, h⟩
  · exact ⟨56 + f, by simp; omega, h⟩
end Go.Proofs.YtkebpchhpidogaaGreatDoor
