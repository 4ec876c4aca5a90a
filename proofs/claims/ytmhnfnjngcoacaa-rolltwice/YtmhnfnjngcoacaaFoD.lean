/- The reader takes any sign; Read. -/
import Derived.Test.YtmhnfnjngcoacaaFoC
namespace Go.Proofs.Ytmhnfnjngcoacaa
open Go.RowKit
set_option linter.unusedVariables false
set_option linter.unusedSimpArgs false

theorem rc_size (B : List Int) (h : B.length = 64) (f r : Int) : (rc B f r).toArray.size = 66 := by simp [rc, cl_length, h]
theorem rc_one (B : List Int) (f r : Int) : (rc B f r).toArray.all (·.oneCell') = true := by
  refine all_oneCell_toArray fun v hv => ?_
  unfold rc at hv
  rcases List.mem_append.1 hv with hv | hv
  · unfold cl at hv
    obtain ⟨x, _, rfl⟩ := List.mem_map.1 hv
    rfl
  · simp at hv
    rcases hv with rfl | rfl <;> rfl
end Go.Proofs.Ytmhnfnjngcoacaa
