/- Boards by a function of the square; First; menAlone and Right. -/
import Derived.Test.YtkebpchhpidogaaBoG
namespace Go.Proofs.Ytkebpchhpidogaa
open Go.RowKit
set_option linter.unusedVariables false
set_option linter.unusedSimpArgs false
set_option maxRecDepth 100000

/-- The board that has f i on the square i. -/
def tab (f : Nat → Int) : List Int := (List.range 64).map f
theorem tab_length (f : Nat → Int) : (tab f).length = 64 := by simp [tab]
theorem tab_get (f : Nat → Int) (i : Nat) (h : i < 64) : (tab f).getD i 0 = f i := by simp [tab, List.getD, h]
theorem tab_ext {f g : Nat → Int} (h : ∀ i, i < 64 → f i = g i) : tab f = tab g := by
  unfold tab
  exact List.map_congr_left fun i hi => h i (by simpa using hi)
theorem tab_of (B : List Int) (h : B.length = 64) : tab (fun i => B.getD i 0) = B := by
  refine List.ext_getElem (by rw [tab_length, h]) fun i h1 h2 => ?_
  rw [← getD_at _ _ h1, ← getD_at _ _ h2, tab_get _ i (by omega)]
theorem tab_set (f : Nat → Int) (k : Nat) (x : Int) : (tab f).set k x = tab (fun i => if i = k then x else f i) := by
  refine List.ext_getElem (by simp [tab_length]) fun i h1 h2 => ?_
  have h3 : i < 64 := by simpa [tab_length] using h1
  rw [List.getElem_set]
  by_cases e : k = i
  · subst e
    simp [tab]
  · have e' : ¬ i = k := fun h => e h.symm
    simp [tab, e, e']
theorem tab_brd {f : Nat → Int} (h : ∀ i, i < 64 → -128 ≤ f i ∧ f i ≤ 127) : Brd (tab f) :=
  ⟨tab_length f, fun i hi => by rw [tab_get f i hi]; exact h i hi⟩
theorem cl_one (B : List Int) : (cl B).toArray.all (·.oneCell') = true := by
  rw [Array.all_eq_true_iff_forall_mem]
  intro v hv
  simp only [List.mem_toArray, cl, List.mem_map] at hv
  obtain ⟨x, _, rfl⟩ := hv
  rfl
theorem cl_set_arr (B : List Int) (i : Nat) (x : Int) : (cl B).toArray.setIfInBounds i (.int .i8 x) = (cl (B.set i x)).toArray := by
  rw [← cl_set]; simp
theorem cl_size (B : List Int) (h : B.length = 64) : (cl B).toArray.size = 64 := by simp [cl_length, h]
/-- A store of one number into a board's block. -/
theorem heap_set_cl {w : World} {g k : Nat} {B : List Int} {t : TypeId} (x : Int) (hg : w.heap[g]? = some (.cells (cl B).toArray t (0, 0))) :
    (w.setCell ⟨g, k, none⟩ (.int .i8 x)).heap[g]? = some (.cells (cl (B.set k x)).toArray t (0, 0)) := by
  rw [heap_setCell_same w g k _ t _ hg, cl_set_arr]
theorem cell_cl {w : World} {g : Nat} {B : List Int} {t : TypeId} (hB : B.length = 64) (hg : w.heap[g]? = some (.cells (cl B).toArray t (0, 0))) (k : Nat) (hk : k < 64) :
    w.cell? ⟨g, k, none⟩ = some (.int .i8 (B.getD k 0)) := by
  rw [cell_of_row _ _ k _ _ (0, 0) hg]
  simpa using cl_get B k (by omega)
/-- The board on which a game begins. -/
def Fb : List Int := [4, 2, 3, 5, 6, 3, 2, 4, 1, 1, 1, 1, 1, 1, 1, 1, 0, 0, 0, 0, 0, 0, 0, 0, 0, 0, 0, 0, 0, 0, 0, 0, 0, 0, 0, 0, 0, 0, 0, 0, 0, 0, 0, 0, 0, 0, 0, 0, -1, -1, -1, -1, -1, -1, -1, -1, -4, -2, -3, -5, -6, -3, -2, -4]
theorem Fb_brd : Brd Fb := by
  refine ⟨rfl, ?_⟩
  have : ∀ i : Fin 64, -128 ≤ Fb.getD i.val 0 ∧ Fb.getD i.val 0 ≤ 127 := by decide +kernel
  exact fun i hi => this ⟨i, hi⟩
theorem first_is (w : World) : Calls Try.prog 16 #[] w fun e w' => e = .returned (.agg (cl Fb).toArray) ∧ Kept w w' := by
  have hz := Lib.hid (size_cl Fb_brd.1)
  have hbl := heap_alloc_new w (.cells (cl Zb).toArray 28)
  have HB := Lib.hid hbl
  clear hbl
  go_enter Try.func16, Try.ntmps16
  go_wp2_with (first
    | (with_reducible refine wpList_new_b rfl rfl ?_)
    | (refine wpList_built rfl 28 _ rfl (cl Fb).toArray (by kernel_rfl) ?_)
    | (refine wpList_store_row rfl 28 _ _ rfl w.heap.size (cl Fb).toArray rfl rfl 28 _ HB.out hz.out (by rw [cl_size _ Zb_brd.1, cl_size _ Fb_brd.1]) (cl_one _) ?_))
  refine bodyPost_ret (v := .agg (cl Fb).toArray) ?_ rfl ⟨rfl, ?_⟩
  · exact results_cell_row rfl _ _ w.heap.size 28 _ (0, 0) _ rfl (setRow_heap _ _ _ _ _ _ HB.out) Try.underlying28 rfl hz.out
  · exact ((Kept.refl _).alloc _).setRow (Nat.le_refl _) _
end Go.Proofs.Ytkebpchhpidogaa
