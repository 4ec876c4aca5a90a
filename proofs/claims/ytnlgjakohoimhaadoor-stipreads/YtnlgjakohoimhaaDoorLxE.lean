/- Square: sign by sign. -/
import Derived.Test.YtnlgjakohoimhaaDoorLxD
namespace Go.Proofs.YtnlgjakohoimhaaDoor
open Go.RowKit
set_option linter.unusedVariables false
set_option linter.unusedSimpArgs false
set_option maxRecDepth 100000
set_option maxHeartbeats 4000000

theorem run_rest (t : ByteArray) (m : Nat) (hm : m ≤ t.size) (s : ByteArray) (hs : t.extract m t.size = s) (w : World) :
    (Instr.slice 9 (.string t) (some (.int .i64 m)) none none).run Tryd.prog w = .ok (.string s) w := by
  rw [run_slice_string_from_if (h := Tryd.underlying9), if_pos (by omega), ← hs]
  rfl
theorem rest_facts {t s : ByteArray} {m : Nat} (hm : m ≤ t.size) (hs : t.extract m t.size = s) : s.size = t.size - m ∧ bs s = (bs t).drop m := by
  subst hs
  exact ⟨by rw [ByteArray.size_extract]; omega, bs_rest t m⟩
end Go.Proofs.YtnlgjakohoimhaaDoor
