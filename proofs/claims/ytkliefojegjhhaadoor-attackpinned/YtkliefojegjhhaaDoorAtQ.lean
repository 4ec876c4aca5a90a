/- Pinned. -/
import Derived.Test.YtkliefojegjhhaaDoorAtP
namespace Go.Proofs.YtkliefojegjhhaaDoor
open Go.RowKit
set_option linter.unusedVariables false
set_option linter.unusedSimpArgs false

theorem contains_is (g : Nat) (v : Value) (l : List Int) (x : Int) (w : World) (h : LsZ w g v l) :
    Calls Tryd.prog 60 #[v, .int .i64 x] w fun e w' => e = .returned (.bool (hasB l x)) ∧ w = w' := by
  have HI := Lib.hid (indexZ_is g v l x w h)
  clear h
  cases hc : hasB l x
  · have HN := Lib.hid (idxI_none (l := l) (x := x) hc)
    rw [HN.out] at HI
    clear hc
    go_enter Tryd.func60, Tryd.ntmps60
    go_wp2_with fail
    refine (HI.out).mono ?_
    rintro e w' ⟨rfl, rfl⟩
    go_wp2
    go_ret
    exact ⟨rfl, rfl⟩
  · have hp : 0 ≤ idxI l x := by unfold idxI; rw [if_pos (show l.contains x = true from hc)]; omega
    generalize idxI l x = q at *
    clear hc
    go_enter Tryd.func60, Tryd.ntmps60
    go_wp2_with fail
    refine (HI.out).mono ?_
    rintro e w' ⟨rfl, rfl⟩
    go_wp2
    go_ret
    exact ⟨rfl, rfl⟩
theorem OwnZ.full {w : World} {base : Nat} {v : Value} {l : List Int} (h : OwnZ w base v l) (hl : 0 < l.length) : ∃ g cap, v = .slice (some ⟨g, 0, none⟩) l.length cap ∧ l.length ≤ cap ∧ cap ≤ maxLen := by
  rcases h.2 with ⟨_, h0⟩ | ⟨g, cap, cur, e, _, _, h1, h2, _⟩
  · omega
  · exact ⟨g, cap, e, h1, h2⟩
set_option maxHeartbeats 1000000 in
/-- A line that holds the man's square is kept. -/
theorem pinned1_is (W : World) (go g8 gs : Nat) (k s : Int) (l : List Int) (t way far : Nat) (w : World) (hO : OutBox W go l w) (hk : w.cell? ⟨g8, 0, none⟩ = some (.int .i64 k)) (hs : w.cell? ⟨gs, 0, none⟩ = some (.int .i64 s)) (hS : Steps w)
    (n8 : g8 ≠ go) (ns : gs ≠ go) (hw : way < 16) (hf : 1 ≤ far) (hf8 : far ≤ 8) (hr : (rayW k way)[far - 1]? = some (t : Int)) :
    Calls Tryd.prog 58 #[.int .i64 (t : Int), .int .i64 (way : Int), .int .i64 (far : Int), .pointer (some ⟨g8, 0, none⟩), .pointer (some ⟨gs, 0, none⟩), .pointer (some ⟨go, 0, none⟩)] w fun e w' =>
      e = .returned (.tuple #[]) ∧ OutBox W go (if pinB k s ((t : Int), way, far) = true then lineW k ((t : Int), way, far) else l) w' := by
  have HSt := Lib.hid (wstep_is way hw w hS)
  have HR := Lib.hid (fun w => ray_is k (wayF way) (wayR way) (wayF_wf way hw).1 (wayF_wf way hw).2 w)
  have HO := Lib.hid hO
  have hlen : far ≤ (rayW k way).length := by
    obtain ⟨h1, _⟩ := List.getElem?_eq_some_iff.1 hr
    omega
  have hray : rayL k (wayF way) (wayR way) = rayW k way := rfl
  have hp : pinB k s ((t : Int), way, far) = hasB ((rayW k way).take far) s := rfl
  have hlw : lineW k ((t : Int), way, far) = (rayW k way).take far := rfl
  rw [hray] at HR
  rw [hp, hlw]
  clear hO hS hr hray hp hlw
  generalize wayF way = x at *
  generalize wayR way = y at *
  generalize rayW k way = R at *
  generalize hZ : (if hasB (R.take far) s = true then R.take far else l) = Z
  have HZ := Lib.hid hZ
  clear hZ
  go_enter Tryd.func58, Tryd.ntmps58
  go_wp2_with fail
  refine HSt.out.mono ?_
  rintro e w1 ⟨rfl, k1⟩
  have hk1 := kept_cell k1 hk
  have hs1 := kept_cell k1 hs
  have HO1 := Lib.hid (HO.out.kept k1)
  clear k1 hk hs
  go_wp2_with fail
  refine (HR.out _).mono ?_
  rintro e w2 ⟨v, rfl, hown, k2⟩
  obtain ⟨gA, cap, rfl, hc1, hc2⟩ := hown.full (by omega)
  have hs2 := kept_cell k2 hs1
  have hrun := run_head gA 0 R.length cap far (by omega)
  have hOt := hown.take far hlen
  obtain ⟨gL, hLs, _⟩ := hOt.ls
  have HLs := Lib.hid hLs
  have HOt := Lib.hid hOt
  have HK2 := Lib.hid k2
  have hPut := Lib.hid (HO1.out.put k2 hOt)
  have hbx := (HO1.out.kept k2).box
  clear k2 hown hk1 hs1 hOt hLs
  unfold maxLen at hc2
  generalize hM : R.length = M at *
  cases hb : hasB (R.take far) s
  · have HC := Lib.hid (contains_is gL _ (R.take far) s w2 HLs.out)
    rw [hb] at HC
    have HZ2 := Lib.hid (show l = Z by rw [← HZ.out, hb]; rfl)
    clear hb hbx hM
    go_wp2_with fail
    refine (HC.out).mono ?_
    rintro e w' ⟨rfl, rfl⟩
    go_wp2
    refine bodyPost_end (results_none rfl _ _ _) rfl ?_
    exact ⟨rfl, by rw [← HZ2.out]; exact HO1.out.kept HK2.out⟩
  · have HC := Lib.hid (contains_is gL _ (R.take far) s w2 HLs.out)
    rw [hb] at HC
    obtain ⟨u, q1, _⟩ := hbx
    have qc := cell_box q1
    have qf := frozen_box q1
    have HZ2 := Lib.hid (show R.take far = Z by rw [← HZ.out, hb]; rfl)
    clear hb q1 hM
    go_wp2_with fail
    refine (HC.out).mono ?_
    rintro e w' ⟨rfl, rfl⟩
    go_wp2
    refine bodyPost_end (results_none rfl _ _ _) rfl ?_
    exact ⟨rfl, by rw [← HZ2.out]; exact hPut.out⟩
/-- What is told to Pinned. -/
def PinInv (k s : Int) (go g8 gs : Nat) (W : World) (l : List (Int × Nat × Nat)) (w : World) : Prop :=
  OutBox W go (pinL k s l) w ∧ W.cell? ⟨g8, 0, none⟩ = some (.int .i64 k) ∧ W.cell? ⟨gs, 0, none⟩ = some (.int .i64 s) ∧ Steps W
theorem tells_pin (k s : Int) (go g8 gs : Nat) (n0 : 0 ≠ go) (n8 : g8 ≠ go) (ns : gs ≠ go) :
    Tells k go 58 #[.pointer (some ⟨g8, 0, none⟩), .pointer (some ⟨gs, 0, none⟩), .pointer (some ⟨go, 0, none⟩)] (PinInv k s go g8 gs) := by
  refine ⟨fun args w => fun_enters Tryd.func58 (by kernel_rfl) rfl args w, fun W l w w' h k => ⟨h.1.kept k, h.2⟩, fun W l w h => h.1.kb, ?_⟩
  intro W l t way far w hI hl ht hw hf hf8 hr
  obtain ⟨hO, h1, h2, h3⟩ := hI
  refine (pinned1_is W go g8 gs k s _ t way far w hO (hO.kb.cell n8 h1) (hO.kb.cell ns h2) (hO.kb.steps n0 h3) n8 ns hw hf hf8 hr).mono ?_
  rintro e w' ⟨rfl, h⟩
  refine ⟨rfl, ?_, h1, h2, h3⟩
  rw [pinL_snoc]
  exact h
theorem KB.on {V W w : World} {g : Nat} (h : KB W g w) (k : Kept V W) : KB V g w :=
  ⟨h.os.trans k.os, h.output.trans k.output, Nat.le_trans k.size h.size, fun i hi hne => (h.block i (Nat.lt_of_lt_of_le hi k.size) hne).trans (k.block i hi)⟩
end Go.Proofs.YtkliefojegjhhaaDoor
