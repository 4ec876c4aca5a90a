/- The document's Where and Many; Same; King. -/
import Derived.Test.YtkliefojegjhhaaDoorBoC
namespace Go.Proofs.YtkliefojegjhhaaDoor
open Go.RowKit
set_option linter.unusedVariables false

set_option maxRecDepth 100000 in
theorem rwhere_is (B : List Int) (hB : Brd B) (m : Int) (w : World) :
    Calls Tryd.prog 77 #[.agg (cl B).toArray, .int .i64 m] w (Gives w (whereL B m)) := by
  have H := Lib.hid hB
  clear hB
  obtain ⟨p, hp⟩ : ∃ p : Nat → Bool, p = fun i => B.getD i 0 == m := ⟨_, rfl⟩
  have HM : Hid (whereL B m = sel p 64) := by rw [hp]; rfl
  have HP := Lib.hid hp
  clear hp
  obtain ⟨i0, hi, hz0, hz1, hz2⟩ := info_parts infoInt
  obtain ⟨W, eW⟩ : ∃ W, W = w.alloc (.cells (cl B).toArray 40) := ⟨_, rfl⟩
  have HW := Lib.hid eW
  have hsz := Lib.hid (show W.heap.size = w.heap.size + 1 by rw [eW]; simp)
  have hbl := Lib.hid (show W.heap[w.heap.size]? = some (.cells (cl B).toArray 40 (0, 0)) by rw [eW]; exact heap_alloc_new w _)
  clear eW
  go_enter Tryd.func77, Tryd.ntmps77
  go_wp2
  go_loopw [5, 6] (fun v i wr => ∃ k : Nat, k ≤ 64 ∧ i = .int .i64 k ∧ Owns wr (w.heap.size + 1) v (sel p k) ∧ Kept W wr) (fun _ i _ => 64 - (intOf i).toNat)
  case atStart => exact ⟨0, by omega, rfl, owns_none _ _ _, by rw [HW.out]; exact Kept.refl _⟩
  case round =>
    obtain ⟨k, hk, rfl, hown, hK⟩ := hrel
    have hsl := sel_le p k
    by_cases hlt : k < 64
    · have hc : wr.cell? ⟨w.heap.size, k, none⟩ = some (.int .i8 (B.getD k 0)) := by
        rw [cell_of_row _ _ k _ _ (0, 0) (hK.heap hbl.out)]
        simpa using cl_get B k (by rw [H.out.1]; exact hlt)
      obtain ⟨hb1, hb2⟩ := H.out.2 k hlt
      obtain ⟨x, ex⟩ : ∃ x, x = B.getD k 0 := ⟨_, rfl⟩
      rw [← ex] at hc hb1 hb2
      have hq : Hid (p k = (x == m)) := by rw [ex, HP.out]; rfl
      clear ex
      by_cases h1 : (x == m) = true
      · have HQ : Hid (p k = true) := by rw [hq.out]; exact h1
        go_wp2_with (at_builtin; refine wpList_append_own _ rfl _ _ 30 rfl (w.heap.size + 1) 3 i0 (.int .i64 0) 1 8 Tryd.underlying30 hi hz0 hz1 hz2 rfl (by decide) _ _ _ rfl (World.ownsRow.alloc hown _) ⟨wr.heap.size, 0, none⟩ 1 1 [.int .i64 (k : Int)] rfl rfl ?c1 ?c2 ?c3 ?c4 ?c5 ?_)
        case c1 =>
          intro j u hj
          match j, hj with
          | 0, hj => simp at hj; subst hj; simp [Addr.add]
        case c2 => intro u hu; simp at hu; subst hu; rfl
        case c3 => unfold maxLen; omega
        case c4 => omega
        case c5 => have := hK.size; have := hsz.out; simp; omega
        intro v' w1 hown' hgrow _
        have R := where_step HQ.out hsz.out hK hown hown' hgrow
        clear hown' hgrow hown hK hc
        go_wp2
        go_roundw
        case rel => exact ⟨k + 1, by omega, by go_num, R.1, R.2⟩
        case measure => simp [intOf]; omega
      · have h1' : (x == m) = false := by simpa using h1
        clear h1
        have HQ : Hid (p k = false) := by rw [hq.out]; exact h1'
        go_wp2
        go_roundw
        case rel => exact ⟨k + 1, by omega, by go_num, by rw [sel_no HQ.out]; exact hown, hK⟩
        case measure => simp [intOf]; omega
    · go_wp2
      go_ret
      refine ⟨_, rfl, ?_, ?_⟩
      · rw [HM.out, show 64 = k by omega]; exact hown.low (by omega)
      · refine Kept.trans ?_ hK
        rw [HW.out]; exact (Kept.refl _).alloc _
/-- Two slices of the same squares. -/
theorem same_yes (l : List Nat) (hl : l.length ≤ 1000000) (a b : Value) (ba bb : Nat) (w : World) (ha : Owns w ba a l) (hb : Owns w bb b l) :
    Calls Tryd.prog 16 #[a, b] w fun e w' => e = .returned (.bool true) ∧ ∃ n, w' = w.drewN n := by
  obtain ⟨aa, ca, rfl⟩ := ha.slice
  obtain ⟨ab, cb, rfl⟩ := hb.slice
  have HA := Lib.hid ha
  have HB := Lib.hid hb
  clear ha hb
  have hne : ((l.length : Int) != (l.length : Int)) = false := by simp
  go_enter Tryd.func16, Tryd.ntmps16
  go_wp2
  go_loopw [5] (fun i wr => ∃ k n : Nat, k ≤ l.length ∧ i = .int .i64 k ∧ wr = w.drewN n) (fun i _ => l.length - (intOf i).toNat)
  case atStart => exact ⟨0, 0, by omega, rfl, rfl⟩
  case round =>
    obtain ⟨k, n, hk, rfl, rfl⟩ := hrel
    by_cases hlt : k < l.length
    · obtain ⟨ga, rfl, hca⟩ := HA.out.at_ k hlt
      obtain ⟨gb, rfl, hcb⟩ := HB.out.at_ k hlt
      obtain ⟨y, ey⟩ : ∃ y, y = l.getD k 0 := ⟨_, rfl⟩
      rw [← ey] at hca hcb
      clear ey
      have hyy : ((y : Int) != (y : Int)) = false := by simp
      have hlt' : (k : Int) < (l.length : Int) := by omega
      have hk0 : (0 : Int) ≤ (k : Int) := by omega
      go_wp2
      go_quiet (fail)
      go_wp2
      go_roundw
      case rel => exact ⟨k + 1, _, by omega, by go_num, rfl⟩
      case measure => simp [intOf]; omega
    · go_wp2
      go_ret
      exact ⟨rfl, n, rfl⟩
end Go.Proofs.YtkliefojegjhhaaDoor
