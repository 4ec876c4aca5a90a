/- Line, and the document's. -/
import Derived.Test.YtnlgjakohoimhaaDoorLxE
import Derived.Test.YtnlgjakohoimhaaDoorShelf
import Derived.Laws.Strings2
namespace Go.Proofs.YtnlgjakohoimhaaDoor
open Go.RowKit
set_option linter.unusedVariables false
set_option linter.unusedSimpArgs false
set_option maxRecDepth 100000
set_option maxHeartbeats 4000000

theorem Below.toKept {w w' : World} (h : Below w.heap.size w w') : Kept w w' := ⟨h.os, h.output, h.size, h.block⟩
theorem run_cut (t : ByteArray) (m n : Nat) (i j : Int) (hi : i = m) (hj : j = n) (hmn : m ≤ n) (hn : n ≤ t.size) (s : ByteArray) (hs : t.extract m n = s) (w : World) :
    (Instr.slice 9 (.string t) (some (.int .i64 i)) (some (.int .i64 j)) none).run Tryd.prog w = .ok (.string s) w := by
  subst hi hj
  have := run_slice_string (P := Tryd.prog) (w := w) 9 t .i64 .i64 (m : Int) (n : Int) Tryd.underlying9 (by omega) (by omega) (by omega)
  rw [this, ← hs]
  rfl
theorem results_str_sp {fn : Func} {u s : Tmp} (h : fn.results = #[.tmp u, .cell s 27]) (tmps : Array Value) {w : World} {g : Nat} {m : Sp}
    (hp : tmps.getD s undef = .pointer (some ⟨g, 0, none⟩)) (hg : SAt w g m) : (results fn tmps).run Tryd.prog w = .ok (.tuple #[tmps.getD u undef, sv m]) w := by
  have hp' : tmps[s]?.getD undef = .pointer (some ⟨g, 0, none⟩) := by simpa using hp
  have hl : (loadVar 27 ⟨g, 0, none⟩).run Tryd.prog w = .ok (sv m) w := run_loadVar_row w g _ _ (sl m).toArray (0, 0) _ hg.at_ Tryd.underlying27 rfl (sl_sz m)
  simp [results, h, hp', asAddr, hl]
theorem ret_str {fn : Func} {u s : Tmp} (h : fn.results = #[.tmp u, .cell s 27]) {tmps : Array Value} {w : World} {g : Nat} {j m : Sp} (hg : SAt w g j)
    (hp : tmps.getD s undef = .pointer (some ⟨g, 0, none⟩)) : (results fn tmps).run Tryd.prog (w.setRow g (sl m).toArray) = .ok (.tuple #[tmps.getD u undef, sv m]) (w.setRow g (sl m).toArray) := results_str_sp h tmps hp (hg.row m)
/-- What Line answers. -/
theorem ln_at {t s : ByteArray} {m p : Nat} {b : UInt8} (hm : m ≤ t.size) (hbs : bs s = (bs t).drop m) (h : (bs s)[p]? = some b) (hb : b = 10) (ha : ∀ k, k < p → (bs s)[k]? ≠ some 10) :
    lnT t m = t.extract m (m + p) ∧ lnS t m = ⟨(m : Int) + p + 1, 0, 0⟩ := by
  have hin : inB t (m : Int) = true := by simp [inB]; omega
  have hf := lnF_at h hb ha
  have hl := (List.getElem?_eq_some_iff.1 h).1
  unfold lnT lnS
  rw [if_pos hin, if_pos hin]
  simp only [Int.toNat_natCast]
  rw [← hbs, hf, if_pos hl]
  exact ⟨rfl, rfl⟩
theorem ln_none {t s : ByteArray} {m : Nat} (hm : m ≤ t.size) (hbs : bs s = (bs t).drop m) (ha : ∀ k, k < s.size → (bs s)[k]? ≠ some 10) :
    lnT t m = t.extract m t.size ∧ lnS t m = ⟨t.size, 0, 1⟩ := by
  have hin : inB t (m : Int) = true := by simp [inB]; omega
  have hz : s.size = t.size - m := by rw [← bs_len, hbs, List.length_drop, bs_len]
  have hf := lnF_none (M := bs s) (by rw [bs_len]; exact ha)
  unfold lnT lnS
  rw [if_pos hin, if_pos hin]
  simp only [Int.toNat_natCast]
  rw [← hbs, hf, if_neg (by omega), bs_len, hz, show m + (t.size - m) = t.size by omega]
  exact ⟨rfl, rfl⟩
def ll (x : ByteArray) (y : Sp) : List Value := [.string x, .int .i64 y.a, .int .i64 y.n, .int .i64 y.e]
theorem ll_one (x : ByteArray) (y : Sp) : (ll x y).toArray.all (·.oneCell') = true := by
  rw [Array.all_eq_true_iff_forall_mem]
  intro v hv
  simp only [List.mem_toArray, ll, List.mem_cons, List.not_mem_nil, or_false] at hv
  rcases hv with rfl | rfl | rfl | rfl <;> rfl
end Go.Proofs.YtnlgjakohoimhaaDoor
