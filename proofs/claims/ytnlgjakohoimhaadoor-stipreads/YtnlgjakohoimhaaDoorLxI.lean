/- Slices of texts that come in; the document's begins and Apart. -/
import Derived.Test.YtnlgjakohoimhaaDoorLxC
import Derived.Deep.Slices
import Derived.ChangeSame
import Derived.DataShut
import Derived.OwnWalk
namespace Go.Proofs.YtnlgjakohoimhaaDoor
open Go.RowKit
set_option linter.unusedVariables false
set_option linter.unusedSimpArgs false
set_option maxRecDepth 100000
set_option maxHeartbeats 4000000

/-- A slice that reads as these texts. -/
def LsT (w : World) (v : Value) (l : List ByteArray) : Prop :=
  (v = .slice none 0 0 ∧ l = []) ∨ ∃ g off cap, v = .slice (some ⟨g, off, none⟩) l.length cap ∧ g < w.heap.size ∧ l.length ≤ cap ∧ ∀ j x, l[j]? = some x → w.cell? ⟨g, off + j, none⟩ = some (.string x)
theorem LsT.kept {w w' : World} {v : Value} {l : List ByteArray} (h : LsT w v l) (k : Kept w w') : LsT w' v l := by
  rcases h with h | ⟨g, off, cap, e, h1, h2, h3⟩
  · exact .inl h
  · exact .inr ⟨g, off, cap, e, Nat.lt_of_lt_of_le h1 k.size, h2, fun j x hx => kept_cell k (h3 j x hx)⟩
theorem LsT.slice {w : World} {v : Value} {l : List ByteArray} (h : LsT w v l) : ∃ a cap, v = .slice a l.length cap := by
  rcases h with ⟨rfl, rfl⟩ | ⟨g, off, cap, rfl, _⟩
  · exact ⟨_, _, rfl⟩
  · exact ⟨_, _, rfl⟩
/-- What the texts hold, one by one. -/
theorem LsT.at_ {w : World} {v : Value} {l : List ByteArray} (h : LsT w v l) (hl : 0 < l.length) :
    ∃ g off cap, v = .slice (some ⟨g, off, none⟩) l.length cap ∧ g < w.heap.size ∧ l.length ≤ cap ∧ ∀ j x, l[j]? = some x → w.cell? ⟨g, off + j, none⟩ = some (.string x) := by
  rcases h with ⟨rfl, rfl⟩ | h
  · simp at hl
  · exact h
/-! ### begins -/
def pf (h t : ByteArray) : Bool := (bs h).isPrefixOf (bs t)
theorem pf_iff (h t : ByteArray) : pf h t = true ↔ bs h <+: bs t := List.isPrefixOf_iff_prefix
theorem pf_no (h t : ByteArray) : pf h t = false ↔ ¬ bs h <+: bs t := by rw [← pf_iff, Bool.not_eq_true]
theorem pf_cut (h t : ByteArray) (hz : h.size ≤ t.size) : ((t.extract 0 h.size).toList == h.toList) = pf h t := by
  have e1 : (t.extract 0 h.size).toList = (bs t).take h.size := by rw [ByteArray.toList_eq]; show bs _ = _; rw [bs_extract, List.drop_zero]
  have e2 : h.toList = bs h := ByteArray.toList_eq h
  rw [e1, e2, Bool.eq_iff_iff, beq_iff_eq, pf_iff, List.prefix_iff_eq_take, bs_len]
  exact eq_comm
theorem run_head (t : ByteArray) (n : Nat) (hn : n ≤ t.size) (s : ByteArray) (hs : t.extract 0 n = s) (w : World) :
    (Instr.slice 9 (.string t) none (some (.int .i64 n)) none).run Tryd.prog w = .ok (.string s) w := by
  rw [run_slice_string_to_if (h := Tryd.underlying9), if_pos (by omega), ← hs]
  rfl
def OkTo (ws : List ByteArray) (i : Nat) : Prop := ∀ j, j < i → ∀ a, ws[j]? = some a → bs a ≠ [] ∧ ∀ k b, k ≠ j → ws[k]? = some b → ¬ bs a <+: bs b
theorem apart_all {ws : List ByteArray} (h0 : ws ≠ []) (h : OkTo ws ws.length) : Apart ws := by
  refine ⟨h0, fun x hx => ?_, ?_⟩
  · obtain ⟨j, hj, rfl⟩ := List.getElem_of_mem hx
    exact (h j hj _ (List.getElem?_eq_getElem hj)).1
  · rw [List.pairwise_iff_getElem]
    intro i k hi hk hik
    exact ⟨(h i hi _ (List.getElem?_eq_getElem hi)).2 k _ (by omega) (List.getElem?_eq_getElem hk), (h k hk _ (List.getElem?_eq_getElem hk)).2 i _ (by omega) (List.getElem?_eq_getElem hi)⟩
end Go.Proofs.YtnlgjakohoimhaaDoor
