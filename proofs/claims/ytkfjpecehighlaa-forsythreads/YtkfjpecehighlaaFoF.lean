/- The document's Says. -/
import Derived.Test.YtkfjpecehighlaaFoE
namespace Go.Proofs.Ytkfjpecehighlaa
open Go.RowKit
set_option linter.unusedVariables false
set_option linter.unusedSimpArgs false

/-- Numbers as the cells of a slice. -/
def il (l : List Int) : List Value := l.map (Value.int .i64)
theorem il_snoc (l : List Int) (k : Int) : il (l ++ [k]) = il l ++ [.int .i64 k] := by simp [il]
/-- A slice of numbers of the call's own. -/
def OwnsI (w : World) (base : Nat) (v : Value) (l : List Int) : Prop := w.ownsRow base 3 1 v l.length (il l)
theorem OwnsI.low {w : World} {base b : Nat} {v : Value} {l : List Int} (h : OwnsI w base v l) (hb : b ≤ base) : OwnsI w b v l := by
  obtain ⟨h1, h2⟩ := h
  refine ⟨h1, ?_⟩
  rcases h2 with h2 | ⟨g, cap, cur, e1, e2, e3⟩
  · exact .inl h2
  · exact .inr ⟨g, cap, cur, e1, by omega, e3⟩
theorem OwnsI.slice {w : World} {base : Nat} {v : Value} {l : List Int} (h : OwnsI w base v l) : ∃ a cap, v = .slice a l.length cap := by
  rcases h.2 with ⟨e, h0⟩ | ⟨g, cap, cur, e, _⟩
  · exact ⟨none, 0, by rw [e, h0]⟩
  · exact ⟨_, _, e⟩
theorem OwnsI.keptB {w w' : World} {base g : Nat} {v : Value} {l : List Int} (h : OwnsI w base v l) (k : KeptB g w w') (hg : g < base) : OwnsI w' base v l := by
  obtain ⟨h1, h2⟩ := h
  refine ⟨h1, ?_⟩
  rcases h2 with h2 | ⟨b, cap, cur, e1, e2, e3, e4⟩
  · exact .inl h2
  · exact .inr ⟨b, cap, cur, e1, e2, k.heap (by omega) e3, e4⟩
theorem OwnsI.kept {w w' : World} {base : Nat} {v : Value} {l : List Int} (h : OwnsI w base v l) (k : Kept w w') : OwnsI w' base v l := by
  obtain ⟨h1, h2⟩ := h
  refine ⟨h1, ?_⟩
  rcases h2 with h2 | ⟨b, cap, cur, e1, e2, e3, e4⟩
  · exact .inl h2
  · exact .inr ⟨b, cap, cur, e1, e2, k.heap e3, e4⟩
theorem OwnsI.at_ {w : World} {base : Nat} {a : Option Addr} {n cap : Nat} {l : List Int} (h : OwnsI w base (.slice a n cap) l) (j : Nat) (hj : j < l.length) :
    ∃ g, a = some ⟨g, 0, none⟩ ∧ base ≤ g ∧ w.cell? ⟨g, j, none⟩ = some (.int .i64 (l.getD j 0)) := by
  rcases h.2 with ⟨e, h0⟩ | ⟨g, cap', cur, e, hb, hh, hnc, _, hcs, ht⟩
  · omega
  · injection e with e1 e2 e3
    refine ⟨g, e1, hb, ?_⟩
    rw [cell_of_row w g j cur _ (0, 0) hh]
    have h2 : (cur.toList.take (l.length * 1))[j]? = (il l)[j]? := by rw [ht]
    rw [List.getElem?_take, if_pos (by omega)] at h2
    simp only [Array.getElem?_toList] at h2
    rw [h2]
    simp [il, List.getD, List.getElem?_eq_getElem hj]
/-- What Says holds, as cells. -/
def sx (v : Value) (a b : Int) (c : Bool) : Array Value := #[v, .int .i64 a, .int .i64 b, .bool c]
def sx0 : Array Value := sx (.slice none 0 0) 0 0 false
/-- What stands while Says works: its x, the squares, its result, not yet told. -/
structure Sx (w wr : World) (v : Value) (S : List Int) (rows row : Int) : Prop where
  x : wr.heap[w.heap.size + 1]? = some (.cells (sx v rows row true) 37 (0, 0))
  own : OwnsI wr (w.heap.size + 1 + 1) v S
  res : wr.heap[w.heap.size]? = some (.cells sx0 37 (0, 0))
  kept : Kept w wr
theorem Sx.start (w : World) : Sx w ((w.alloc (.cells sx0 37)).alloc (.cells (sx (.slice none 0 0) 0 0 true) 37)) (.slice none 0 0) [] 0 0 :=
  ⟨heap_alloc2_new _ _ _, World.ownsRow_nil _ _ _ _, heap_alloc2_old _ _ _, ((Kept.refl w).alloc _).alloc _⟩
theorem Sx.cell {w wr : World} {v : Value} {S : List Int} {rows row : Int} (h : Sx w wr v S rows row) (k : Nat) : wr.cell? ⟨w.heap.size + 1, k, none⟩ = (sx v rows row true)[k]? := by
  rw [cell_of_row _ _ k _ _ (0, 0) h.x]
theorem Sx.c0 {w wr : World} {v : Value} {S : List Int} {rows row : Int} (h : Sx w wr v S rows row) : wr.cell? ⟨w.heap.size + 1, 0, none⟩ = some v := by rw [h.cell]; rfl
theorem Sx.c1 {w wr : World} {v : Value} {S : List Int} {rows row : Int} (h : Sx w wr v S rows row) : wr.cell? ⟨w.heap.size + 1, 1, none⟩ = some (.int .i64 rows) := by rw [h.cell]; rfl
theorem Sx.c2 {w wr : World} {v : Value} {S : List Int} {rows row : Int} (h : Sx w wr v S rows row) : wr.cell? ⟨w.heap.size + 1, 2, none⟩ = some (.int .i64 row) := by rw [h.cell]; rfl
theorem Sx.f {w wr : World} {v : Value} {S : List Int} {rows row : Int} (h : Sx w wr v S rows row) (k : Nat) : wr.frozen? ⟨w.heap.size + 1, k, none⟩ = false := frozen_of_row _ _ _ _ _ h.x
theorem Sx.set1 {w wr : World} {v : Value} {S : List Int} {rows row : Int} (h : Sx w wr v S rows row) (y : Int) : Sx w (wr.setCell ⟨w.heap.size + 1, 1, none⟩ (.int .i64 y)) v S y row := by
  have k := (KeptB.refl (w.heap.size + 1) wr).setCell 1 (.int .i64 y)
  exact ⟨by rw [heap_setCell_same _ _ _ _ _ _ h.x]; rfl, h.own.keptB k (by omega), k.heap (by omega) h.res, k.kept h.kept (by omega)⟩
theorem Sx.set2 {w wr : World} {v : Value} {S : List Int} {rows row : Int} (h : Sx w wr v S rows row) (y : Int) : Sx w (wr.setCell ⟨w.heap.size + 1, 2, none⟩ (.int .i64 y)) v S rows y := by
  have k := (KeptB.refl (w.heap.size + 1) wr).setCell 2 (.int .i64 y)
  exact ⟨by rw [heap_setCell_same _ _ _ _ _ _ h.x]; rfl, h.own.keptB k (by omega), k.heap (by omega) h.res, k.kept h.kept (by omega)⟩
theorem Sx.on {w wr w2 : World} {v : Value} {S : List Int} {rows row : Int} (h : Sx w wr v S rows row) (k : Kept wr w2) : Sx w w2 v S rows row :=
  ⟨k.heap h.x, h.own.kept k, k.heap h.res, h.kept.trans k⟩
/-- One square more, behind the others. -/
theorem Sx.app {w wr w1 : World} {v v' : Value} {S : List Int} {rows row m : Int} {o : Obj} (h : Sx w wr v S rows row)
    {N : Nat} (hown' : w1.ownsRow (w.heap.size + 1 + 1) 3 1 v' N (il S ++ [.int .i64 m])) (hN : N = S.length + 1) (hg : (wr.alloc o).grownBy w1 v.ownBlock) :
    Sx w (w1.setCell ⟨w.heap.size + 1, 0, none⟩ v') v' (S ++ [m]) rows row ∧ w1.cell? ⟨w.heap.size + 1, 0, none⟩ = some v ∧ w1.frozen? ⟨w.heap.size + 1, 0, none⟩ = false := by
  have hne : ∀ k, k ≤ w.heap.size + 1 → some k ≠ v.ownBlock := fun k hk e => by have := (World.ownsRow.lt h.own k e.symm).1; omega
  have ho : ∀ k, k < wr.heap.size → (wr.alloc o).heap[k]? = wr.heap[k]? := fun k hk => Below.heap_alloc _ _ _ hk
  have hblk : ∀ k, k ≤ w.heap.size + 1 → k < wr.heap.size → w1.heap[k]? = wr.heap[k]? := fun k hk hk' => (hg.block k (by simp; omega) (hne k hk)).trans (ho k hk')
  have hx : w1.heap[w.heap.size + 1]? = some (.cells (sx v rows row true) 37 (0, 0)) := (hblk _ (by omega) (lt_of_heap h.x)).trans h.x
  have hr : w1.heap[w.heap.size]? = some (.cells sx0 37 (0, 0)) := (hblk _ (by omega) (lt_of_heap h.res)).trans h.res
  have hK : Kept w w1 := (h.kept.alloc o).grownBy hg (fun g hgv => by have := (World.ownsRow.lt h.own g hgv).1; omega)
  have k := (KeptB.refl (w.heap.size + 1) w1).setCell 0 v'
  refine ⟨⟨by rw [heap_setCell_same _ _ _ _ _ _ hx]; rfl, ?_, k.heap (by omega) hr, k.kept hK (by omega)⟩, by rw [cell_of_row _ _ _ _ _ (0, 0) hx]; rfl, frozen_of_row _ _ _ _ _ hx⟩
  have : OwnsI w1 (w.heap.size + 1 + 1) v' (S ++ [m]) := by
    unfold OwnsI
    rw [il_snoc]
    rw [hN] at hown'
    simpa using hown'
  exact this.keptB k (by omega)
theorem size_said : (Try.prog.info? 37).map (·.size) = some 4 := by kernel_rfl
theorem results_said {fn : Func} {p : Tmp} (h : fn.results = #[.cell p 37]) (tmps : Array Value) (w : World) (g : Nat) (v : Value) (a b : Int) (c : Bool)
    (hp : tmps.getD p undef = .pointer (some ⟨g, 0, none⟩)) (hg : w.heap[g]? = some (.cells (sx v a b c) 37 (0, 0))) :
    (results fn tmps).run Try.prog w = .ok (.agg (sx v a b c)) w := by
  have hp' : tmps[p]?.getD undef = .pointer (some ⟨g, 0, none⟩) := by simpa using hp
  have hl : (loadVar 37 ⟨g, 0, none⟩).run Try.prog w = .ok (.agg (sx v a b c)) w :=
    run_loadVar_row w g _ _ (sx v a b c) (0, 0) _ hg Try.underlying37 rfl (by rw [size_said]; rfl)
  simp [results, h, hp', asAddr, hl]
/-- What Says answers for the first n bytes. -/
def SaysPost (l : List UInt8) (w : World) (e : Ending) (w' : World) : Prop :=
  Kept w w' ∧ ((says l = none ∧ e = .returned (.agg sx0)) ∨ ∃ s v, says l = some s ∧ e = .returned (.agg (sx v s.2.1 s.2.2 true)) ∧ OwnsI w' w.heap.size v s.1)
end Go.Proofs.Ytkfjpecehighlaa
