/- Where: the board's and the document's; slices of squares; Same. -/
import Derived.Test.YtkebpchhpidogaaBoB
namespace Go.Proofs.Ytkebpchhpidogaa
set_option maxRecDepth 100000
open Go.RowKit
set_option linter.unusedVariables false

/-- Squares as the cells of a slice. -/
def nl (l : List Nat) : List Value := l.map fun (i : Nat) => Value.int .i64 (i : Int)
theorem nl_length (l : List Nat) : (nl l).length = l.length := by simp [nl]
theorem nl_snoc (l : List Nat) (k : Nat) : nl (l ++ [k]) = nl l ++ [.int .i64 (k : Int)] := by simp [nl]
theorem infoInt : (Try.prog.info? 3).map (fun i => (i.zero, i.size, i.bytes)) = some (some (.int .i64 0), 1, 8) := by kernel_rfl
/-- A slice of squares of the call's own. -/
def Owns (w : World) (base : Nat) (v : Value) (l : List Nat) : Prop := w.ownsRow base 3 1 v l.length (nl l)
theorem Owns.low {w : World} {base b : Nat} {v : Value} {l : List Nat} (h : Owns w base v l) (hb : b ≤ base) : Owns w b v l := by
  obtain ⟨h1, h2⟩ := h
  refine ⟨h1, ?_⟩
  rcases h2 with h2 | ⟨g, cap, cur, e1, e2, e3⟩
  · exact .inl h2
  · exact .inr ⟨g, cap, cur, e1, by omega, e3⟩
theorem Owns.slice {w : World} {base : Nat} {v : Value} {l : List Nat} (h : Owns w base v l) : ∃ a cap, v = .slice a l.length cap := by
  rcases h.2 with ⟨e, h0⟩ | ⟨g, cap, cur, e, _⟩
  · exact ⟨none, 0, by rw [e, h0]⟩
  · exact ⟨_, _, e⟩
theorem Owns.kept {w w' : World} {base : Nat} {v : Value} {l : List Nat} (h : Owns w base v l) (k : Kept w w') : Owns w' base v l := by
  obtain ⟨h1, h2⟩ := h
  refine ⟨h1, ?_⟩
  rcases h2 with h2 | ⟨g, cap, cur, e1, e2, e3, e4⟩
  · exact .inl h2
  · exact .inr ⟨g, cap, cur, e1, e2, k.heap e3, e4⟩
theorem Owns.at_ {w : World} {base : Nat} {a : Option Addr} {n cap : Nat} {l : List Nat} (h : Owns w base (.slice a n cap) l) (j : Nat) (hj : j < l.length) :
    ∃ g, a = some ⟨g, 0, none⟩ ∧ w.cell? ⟨g, j, none⟩ = some (.int .i64 (l.getD j 0 : Nat)) := by
  rcases h.2 with ⟨e, h0⟩ | ⟨g, cap', cur, e, _, hh, hnc, _, hcs, ht⟩
  · omega
  · injection e with e1 e2 e3
    refine ⟨g, e1, ?_⟩
    rw [cell_of_row w g j cur _ (0, 0) hh]
    have h2 : (cur.toList.take (l.length * 1))[j]? = (nl l)[j]? := by rw [ht]
    rw [List.getElem?_take, if_pos (by omega)] at h2
    simp only [Array.getElem?_toList] at h2
    rw [h2]
    simp [nl, List.getD, List.getElem?_eq_getElem hj]
theorem owns_none (w : World) (b : Nat) (p : Nat → Bool) : Owns w b (.slice none 0 0) (sel p 0) := by
  have : sel p 0 = [] := by simp [sel]
  rw [this]; exact World.ownsRow_nil _ _ _ _
/-- What a search for squares gives. -/
def Gives (w : World) (l : List Nat) (e : Ending) (w' : World) : Prop := ∃ v, e = .returned v ∧ Owns w' w.heap.size v l ∧ Kept w w'
def whereL (B : List Int) (m : Int) : List Nat := sel (fun i => B.getD i 0 == m) 64
theorem where_step {w W wr w1 : World} {v v' : Value} {p : Nat → Bool} {k : Nat} {o : Obj} (hp : p k = true) (hW : W.heap.size = w.heap.size + 1) (hK : Kept W wr)
    (hown : Owns wr (w.heap.size + 1) v (sel p k)) (hown' : w1.ownsRow (w.heap.size + 1) 3 1 v' ((sel p k).length + 1) (nl (sel p k) ++ [.int .i64 (k : Int)])) (hg : (wr.alloc o).grownBy w1 v.ownBlock) :
    Owns w1 (w.heap.size + 1) v' (sel p (k + 1)) ∧ Kept W w1 := by
  refine ⟨?_, ?_⟩
  · unfold Owns
    rw [sel_yes hp, nl_snoc]
    simpa using hown'
  · exact (hK.alloc o).grownBy hg (fun g hgv => by have := (World.ownsRow.lt hown g hgv).1; omega)
end Go.Proofs.Ytkebpchhpidogaa
