/- Stipulations: openings, words, goesOn. -/
import Derived.Test.YtnlgjakohoimhaaDoorSiL
namespace Go.Proofs.YtnlgjakohoimhaaDoor
open Go.RowKit
set_option linter.unusedVariables false
set_option linter.unusedSimpArgs false
set_option maxRecDepth 100000
set_option maxHeartbeats 4000000

/-! ### openings -/
theorem hd_next (i j : Nat) (hi : i < 7) (hj : j < 2) : hdS.take (2 * i + (j + 1)) = hdS.take (2 * i + j) ++ [⟨1 + (i : Int), 1 + (j : Int), 0, false⟩] := by
  have a : i = 0 ∨ i = 1 ∨ i = 2 ∨ i = 3 ∨ i = 4 ∨ i = 5 ∨ i = 6 := by omega
  have b : j = 0 ∨ j = 1 := by omega
  rcases a with rfl | rfl | rfl | rfl | rfl | rfl | rfl <;> rcases b with rfl | rfl <;> rfl
theorem hd_len {n : Nat} (h : n ≤ 14) : (hdS.take n).length = n := by
  rw [List.length_take]
  have : hdS.length = 15 := rfl
  omega
theorem hd_last : hdS.take 14 ++ [⟨8, 0, 0, false⟩] = hdS := rfl
theorem openings_is (w : World) : Calls Tryd.prog 18 #[] w fun e w' => ∃ v, e = .returned v ∧ OwnQ w' w.heap.size v hdS ∧ Kept w w' := by
  obtain ⟨W, eW⟩ : ∃ W, W = w := ⟨_, rfl⟩
  have HW := Lib.hid eW
  have HK0 : Hid (Kept W w) := Lib.hid (by rw [eW]; exact Kept.refl _)
  clear eW
  go_enter Tryd.func18, Tryd.ntmps18
  go_wp2
  go_loopw [1, 4] (fun t1 t4 wr => ∃ i : Nat, t4 = .int .i64 i ∧ i ≤ 7 ∧ OwnQ wr W.heap.size t1 (hdS.take (2 * i)) ∧ Kept W wr) (fun _ t4 _ => 7 - (intOf t4).toNat)
  case atStart => exact ⟨0, rfl, by omega, OwnQ.nil _ _, HK0.out⟩
  case round =>
    obtain ⟨i, rfl, hi, hown, hK⟩ := hrel
    have HO := Lib.hid hown
    have HK := Lib.hid hK
    clear hown hK
    by_cases hlt : i < 7
    · have hlt' : (i : Int) < 7 := by omega
      go_wp2
      generalize wr = X at *
      go_loopw [1, 7] (fun t1 t7 wr => ∃ j : Nat, t7 = .int .i64 j ∧ j ≤ 2 ∧ OwnQ wr W.heap.size t1 (hdS.take (2 * i + j)) ∧ Kept W wr) (fun _ t7 _ => 2 - (intOf t7).toNat)
      case atStart => exact ⟨0, rfl, by omega, HO.out, HK.out⟩
      case round =>
        obtain ⟨j, rfl, hj, hown2, hK2⟩ := hrel
        have HO2 := Lib.hid hown2
        have HK2 := Lib.hid hK2
        clear hown2 hK2
        by_cases hjt : j < 2
        · have HA : Hid (OwnQ (wr.alloc (.cells (ql ⟨1 + (i : Int), 1 + (j : Int), 0, false⟩).toArray 24)) W.heap.size _ _) := Lib.hid (HO2.out.kept ((Kept.refl _).alloc _))
          have HKA := Lib.hid (HK2.out.alloc (.cells (ql ⟨1 + (i : Int), 1 + (j : Int), 0, false⟩).toArray 24))
          have HL := Lib.hid (LsQ.lit wr ⟨1 + (i : Int), 1 + (j : Int), 0, false⟩)
          have HN := Lib.hid (hd_next i j hlt hjt)
          have HLen := Lib.hid (hd_len (n := 2 * i + j) (by omega))
          go_wp2_with (first | (refine wpList_bt_q2 rfl _ _ rfl (1 + (i : Int)) (1 + (j : Int)) rfl rfl ?_) | (refine wpList_bslice_q rfl _ rfl ⟨1 + (i : Int), 1 + (j : Int), 0, false⟩ rfl ?_) | (at_builtin; refine wpList_append_q rfl _ _ rfl W.heap.size wr.heap.size _ _ (hdS.take (2 * i + j)) [⟨1 + (i : Int), 1 + (j : Int), 0, false⟩] rfl rfl HA.out HL.out ?c1 ?c2 ?_))
          case c1 => rw [HLen.out]; show 2 * i + j + 1 ≤ 100000; omega
          case c2 => have := HK2.out.size; simp; omega
          intro v' w3 ho hg
          have HO3 : Hid (OwnQ w3 W.heap.size v' (hdS.take (2 * i + (j + 1)))) := Lib.hid (by rw [HN.out]; exact ho)
          have HK3 := Lib.hid (HA.out.grown HKA.out (Nat.le_refl _) hg)
          clear ho hg
          go_wp2
          go_roundw
          case rel => exact ⟨j + 1, by go_num, by omega, HO3.out, HK3.out⟩
          case measure => simp [intOf]; omega
        · have ej : j = 2 := by omega
          subst ej
          have HO3 : Hid (OwnQ wr W.heap.size _ (hdS.take (2 * (i + 1)))) := HO2
          go_wp2
          go_roundw
          case rel => exact ⟨i + 1, by go_num, by omega, HO3.out, HK2.out⟩
          case measure => simp [intOf]; omega
    · have ei : i = 7 := by omega
      subst ei
      have HA : Hid (OwnQ (wr.alloc (.cells (ql ⟨8, 0, 0, false⟩).toArray 24)) W.heap.size _ _) := Lib.hid (HO.out.kept ((Kept.refl _).alloc _))
      have HKA := Lib.hid (HK.out.alloc (.cells (ql ⟨8, 0, 0, false⟩).toArray 24))
      have HL := Lib.hid (LsQ.lit wr ⟨8, 0, 0, false⟩)
      go_wp2_with (first | (refine wpList_bt_q1 rfl _ rfl 8 rfl ?_) | (refine wpList_bslice_q rfl _ rfl ⟨8, 0, 0, false⟩ rfl ?_) | (at_builtin; refine wpList_append_q rfl _ _ rfl W.heap.size wr.heap.size _ _ (hdS.take 14) [⟨8, 0, 0, false⟩] rfl rfl HA.out HL.out ?c1 ?c2 ?_))
      case c1 => decide
      case c2 => have := HK.out.size; simp; omega
      intro v' w3 ho hg
      have HO3 : Hid (OwnQ w3 W.heap.size v' hdS) := Lib.hid ho
      have HK3 := Lib.hid (HA.out.grown HKA.out (Nat.le_refl _) hg)
      clear ho hg
      go_wp2
      go_ret
      exact ⟨v', rfl, by rw [← HW.out]; exact HO3.out, by rw [← HW.out]; exact HK3.out⟩
end Go.Proofs.YtnlgjakohoimhaaDoor
