/- along. -/
import Derived.Test.YtkliefojegjhhaaDoorWaA
namespace Go.Proofs.YtkliefojegjhhaaDoor
open Go.RowKit
set_option linter.unusedVariables false
set_option linter.unusedSimpArgs false

theorem ray_any (s f r : Int) (wf : (Lit.int .i64 f).wf = true ∧ (Lit.int .i64 r).wf = true) (w W : World) (k : Kept W w) :
    Calls Tryd.prog 17 #[.int .i64 s, .int .i64 f, .int .i64 r] w fun e w' => ∃ v, e = .returned v ∧ OwnZ w' W.heap.size v (rayL s f r) ∧ Kept w w' :=
  (ray_is s f r wf.1 wf.2 w).mono fun _ _ ⟨v, h1, h2, h3⟩ => ⟨v, h1, h2.low k.size, h3⟩
/-- A slice that reads so, in memory of its own, is told. -/
def NewL (w : World) (l : List Int) (e : Ending) (w' : World) : Prop := ∃ v g, e = .returned v ∧ LsZ w' g v l ∧ (0 < l.length → w.heap.size ≤ g) ∧ Kept w w'
theorem along_is (way s : Nat) (h : way < 16) (w : World) (hS : Steps w) :
    Calls Tryd.prog 33 #[.int .i64 way, .int .i64 s] w (NewL w (alongL way (s : Int))) := by
  have HS := Lib.hid (wstep_is way h w hS)
  have HR := Lib.hid (ray_any (s : Int) _ _ (wayF_wf way h))
  have e : alongL way (s : Int) = if 8 ≤ way then (rayL s (wayF way) (wayR way)).take 1 else rayL s (wayF way) (wayR way) := rfl
  generalize alongL way (s : Int) = A at *
  have HE := Lib.hid e
  clear e
  generalize rayL s (wayF way) (wayR way) = L at *
  generalize wayF way = x at *
  generalize wayR way = y at *
  clear hS
  go_enter Tryd.func33, Tryd.ntmps33
  go_wp2_with fail
  refine HS.out.mono ?_
  rintro e w1 ⟨rfl, k1⟩
  have K1 := Lib.hid k1
  clear k1
  go_wp2_with fail
  refine (HR.out _ w K1.out).mono ?_
  rintro e w2 ⟨v, rfl, hown, k2⟩
  obtain ⟨a, cap, rfl⟩ := hown.slice
  obtain ⟨g, hls, hlow⟩ := hown.ls
  have HLow := Lib.hid (show 0 < L.length → w.heap.size ≤ g from fun h => (hlow h).1)
  have HL := Lib.hid hls
  have HH := Lib.hid (K1.out.trans k2)
  clear hown hls hlow k2
  generalize hn : L.length = n at *
  by_cases h8 : 8 ≤ way
  · have h8' : (8 : Int) ≤ (way : Int) := by omega
    go_wp2_with fail
    refine (nearest_is g _ L _ HL.out).mono ?_
    rintro e w2 ⟨⟨v, rfl, hv⟩, rfl⟩
    have HV := Lib.hid hv
    clear hv
    go_wp2
    go_ret
    exact ⟨_, g, rfl, by rw [HE.out, if_pos h8]; exact HV.out, fun hl => HLow.out (by rw [HE.out, if_pos h8, List.length_take] at hl; omega), HH.out⟩
  · have h8' : ¬ (8 : Int) ≤ (way : Int) := by omega
    go_wp2
    go_ret
    exact ⟨_, g, rfl, by rw [HE.out, if_neg h8]; exact HL.out, fun hl => HLow.out (by rw [HE.out, if_neg h8] at hl; omega), HH.out⟩
end Go.Proofs.YtkliefojegjhhaaDoor
