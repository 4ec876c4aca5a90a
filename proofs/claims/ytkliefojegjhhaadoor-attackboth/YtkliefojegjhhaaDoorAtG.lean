/- The document's Strikes, By, King and Check; the program's Check. -/
import Derived.Test.YtkliefojegjhhaaDoorAtF
import Derived.Test.YtkliefojegjhhaaDoorMeO
namespace Go.Proofs.YtkliefojegjhhaaDoor
open Go.RowKit
set_option linter.unusedVariables false
set_option linter.unusedSimpArgs false

theorem zn_yes {p : Nat → Bool} {k : Nat} (h : p k = true) : zn (sel p (k + 1)) = zn (sel p k) ++ [(k : Int)] := by unfold zn; rw [sel_yes h]; simp
theorem zn_no {p : Nat → Bool} {k : Nat} (h : p k = false) : zn (sel p (k + 1)) = zn (sel p k) := by rw [sel_no h]
theorem zn_len (p : Nat → Bool) (k : Nat) : (zn (sel p k)).length ≤ k := by unfold zn; rw [List.length_map]; exact sel_le p k
set_option maxRecDepth 100000 in
set_option maxHeartbeats 2000000 in
theorem rstrikes_is (B : List Int) (hB : Brd B) (s : Int) (w : World) :
    Calls Tryd.prog 26 #[.agg (cl B).toArray, .int .i64 s] w (NewZ w (if okS s && rightB B then zn (strikesN B s) else [])) := by
  have hz := Lib.hid (size_cl hB.1)
  have hbl := Lib.hid (heap_alloc_new w (.cells (cl B).toArray 40))
  have HB := Lib.hid hB
  have hRt := Lib.hid (rright_is B hB)
  clear hB
  by_cases hs : s < 0 ∨ 64 ≤ s
  · rw [okS_no hs, Bool.false_and, if_neg (by simp)]
    rcases hs with hs | hs
    · go_enter Tryd.func26, Tryd.ntmps26
      go_wp2
      go_ret
      exact ⟨_, rfl, OwnZ.nil _ _, (Kept.refl _).alloc _⟩
    · have hs' : ¬ s < 0 := by omega
      have hs2 : 63 < s := by omega
      go_enter Tryd.func26, Tryd.ntmps26
      go_wp2
      go_ret
      exact ⟨_, rfl, OwnZ.nil _ _, (Kept.refl _).alloc _⟩
  · obtain ⟨n, rfl⟩ := Int.eq_ofNat_of_zero_le (show 0 ≤ s by omega)
    have hn : n < 64 := by omega
    have hs' : ¬ (n : Int) < 0 := by omega
    have hs2 : ¬ 63 < (n : Int) := by omega
    rw [okS_yes (by omega) (by omega), Bool.true_and]
    cases hr : rightB B
    · rw [hr] at hRt
      rw [if_neg (by simp)]
      clear hr hs
      go_enter Tryd.func26, Tryd.ntmps26
      go_wp2_with (refine wpList_load_w (by rfl) _ rfl _ rfl _ (hbl.out) hz.out ?_)
      refine (hRt.out _).mono ?_
      rintro e w1 ⟨rfl, k1⟩
      have HK := Lib.hid (((Kept.refl w).alloc _).trans k1)
      clear k1
      go_wp2
      go_ret
      exact ⟨_, rfl, OwnZ.nil _ _, HK.out⟩
    · rw [hr] at hRt
      rw [if_pos rfl]
      have HHit := Lib.hid (hits_is B HB.out n hn)
      obtain ⟨p, hp⟩ : ∃ p : Nat → Bool, p = fun (k : Nat) => hitB B (n : Int) (k : Int) := ⟨_, rfl⟩
      have HM : Hid (zn (strikesN B (n : Int)) = zn (sel p 64)) := by rw [hp]; rfl
      have HP := Lib.hid (fun k => congrFun hp k)
      clear hr hs hp
      go_enter Tryd.func26, Tryd.ntmps26
      go_wp2_with (refine wpList_load_w (by rfl) _ rfl _ rfl _ (hbl.out) hz.out ?_)
      refine (hRt.out _).mono ?_
      rintro e W ⟨rfl, k1⟩
      have HBW := Lib.hid (k1.heap hbl.out)
      have HKW := Lib.hid (((Kept.refl w).alloc _).trans k1)
      clear k1
      go_wp2
      go_loopw [5, 6] (fun t5 t6 wr => ∃ k : Nat, k ≤ 64 ∧ t6 = .int .i64 k ∧ OwnZ wr W.heap.size t5 (zn (sel p k)) ∧ Kept W wr) (fun _ t6 _ => 64 - (intOf t6).toNat)
      case atStart => exact ⟨0, by omega, rfl, OwnZ.nil _ _, Kept.refl _⟩
      case round =>
        obtain ⟨k, hk, rfl, hown, hK⟩ := hrel
        obtain ⟨a, cap, rfl⟩ := hown.slice
        have hlen := zn_len p k
        have HO := Lib.hid hown
        have HK := Lib.hid hK
        clear hown hK
        by_cases hlt : k < 64
        · have hlt' : (k : Int) < 64 := by omega
          cases hpk : p k
          · have HE := Lib.hid (zn_no hpk)
            have hh := HHit.out (k : Int)
            rw [show hitB B (n : Int) (k : Int) = false by rw [← hpk]; exact (HP.out k).symm] at hh
            have Hh := Lib.hid hh
            clear hh hpk
            generalize (zn (sel p k)).length = N at *
            go_wp2_with (refine wpList_load_w (by rfl) _ rfl _ rfl _ (HK.out.heap HBW.out) hz.out ?_)
            refine (Hh.out _).mono ?_
            rintro e w2 ⟨rfl, k2⟩
            have HO2 := Lib.hid (HO.out.kept k2)
            have HK2 := Lib.hid (HK.out.trans k2)
            clear k2
            go_wp2
            go_roundw
            case rel => exact ⟨k + 1, by omega, by go_num, by rw [HE.out]; exact HO2.out, HK2.out⟩
            case measure => simp [intOf]; omega
          · have HE := Lib.hid (zn_yes hpk)
            have hh := HHit.out (k : Int)
            rw [show hitB B (n : Int) (k : Int) = true by rw [← hpk]; exact (HP.out k).symm] at hh
            have Hh := Lib.hid hh
            have HLen := Lib.hid hlen
            clear hh hpk
            generalize hN : (zn (sel p k)).length = N at *
            go_wp2_with (refine wpList_load_w (by rfl) _ rfl _ rfl _ (HK.out.heap HBW.out) hz.out ?_)
            refine (Hh.out _).mono ?_
            rintro e w2 ⟨rfl, k2⟩
            have HK2 := Lib.hid (HK.out.trans k2)
            have HA := Lib.hid (HK2.out.alloc (.cells #[.int .i64 (k : Int)] 3))
            have HOA := Lib.hid (HO.out.kept (k2.alloc (.cells #[.int .i64 (k : Int)] 3)))
            clear k2
            go_wp2_with (at_builtin; refine wpList_append_z rfl _ _ rfl W.heap.size w2.heap.size _ _ (zn (sel p k)) [(k : Int)] rfl rfl HOA.out (LsZ.lit _ [(k : Int)] (by simp)) ?c1 ?c2 ?_)
            case c1 => simp; omega
            case c2 => exact HA.out.size
            intro v' w3 hown' hg
            have HK3 := Lib.hid (HOA.out.grown HA.out (Nat.le_refl _) hg)
            obtain ⟨a', cap', rfl⟩ := hown'.slice
            have HO3 := Lib.hid hown'
            clear hown' hg hN
            generalize (zn (sel p k) ++ [(k : Int)]).length = N2 at *
            go_wp2
            go_roundw
            case rel => exact ⟨k + 1, by omega, by go_num, by rw [HE.out]; exact HO3.out, HK3.out⟩
            case measure => simp [intOf]; omega
        · have hlt' : ¬ (k : Int) < 64 := by omega
          have HE := Lib.hid (show zn (strikesN B (n : Int)) = zn (sel p k) by rw [HM.out, show 64 = k by omega])
          generalize (zn (sel p k)).length = N at *
          go_wp2
          go_ret
          exact ⟨_, rfl, by rw [HE.out]; exact HO.out.low HKW.out.size, HKW.out.trans HK.out⟩
set_option maxRecDepth 100000 in
set_option maxHeartbeats 2000000 in
theorem rby_is (B : List Int) (hB : Brd B) (s side : Int) (w : World) :
    Calls Tryd.prog 24 #[.agg (cl B).toArray, .int .i64 s, .int .i64 side] w (NewZ w (if okS s && rightB B then zn (byN B s side) else [])) := by
  have hz := Lib.hid (size_cl hB.1)
  have hbl := Lib.hid (heap_alloc_new w (.cells (cl B).toArray 40))
  have HB := Lib.hid hB
  have hRt := Lib.hid (rright_is B hB)
  clear hB
  by_cases hs : s < 0 ∨ 64 ≤ s
  · rw [okS_no hs, Bool.false_and, if_neg (by simp)]
    rcases hs with hs | hs
    · go_enter Tryd.func24, Tryd.ntmps24
      go_wp2
      go_ret
      exact ⟨_, rfl, OwnZ.nil _ _, (Kept.refl _).alloc _⟩
    · have hs' : ¬ s < 0 := by omega
      have hs2 : 63 < s := by omega
      go_enter Tryd.func24, Tryd.ntmps24
      go_wp2
      go_ret
      exact ⟨_, rfl, OwnZ.nil _ _, (Kept.refl _).alloc _⟩
  · have hs' : ¬ s < 0 := by omega
    have hs2 : ¬ 63 < s := by omega
    rw [okS_yes (by omega) (by omega), Bool.true_and]
    cases hr : rightB B
    · rw [hr] at hRt
      rw [if_neg (by simp)]
      clear hr hs
      go_enter Tryd.func24, Tryd.ntmps24
      go_wp2_with (refine wpList_load_w (by rfl) _ rfl _ rfl _ (hbl.out) hz.out ?_)
      refine (hRt.out _).mono ?_
      rintro e w1 ⟨rfl, k1⟩
      have HK := Lib.hid (((Kept.refl w).alloc _).trans k1)
      clear k1
      go_wp2
      go_ret
      exact ⟨_, rfl, OwnZ.nil _ _, HK.out⟩
    · rw [hr] at hRt
      rw [if_pos rfl]
      have HHit := Lib.hid (fun (k : Nat) (hk : k < 64) => hits_is B HB.out k hk s)
      obtain ⟨p, hp⟩ : ∃ p : Nat → Bool, p = fun (k : Nat) => (sideI (B.getD k 0) == side) && hitB B (k : Int) s := ⟨_, rfl⟩
      have HM : Hid (zn (byN B s side) = zn (sel p 64)) := by rw [hp]; rfl
      have HP := Lib.hid (fun k => congrFun hp k)
      clear hr hs hp
      go_enter Tryd.func24, Tryd.ntmps24
      go_wp2_with (refine wpList_load_w (by rfl) _ rfl _ rfl _ (hbl.out) hz.out ?_)
      refine (hRt.out _).mono ?_
      rintro e W ⟨rfl, k1⟩
      have HBW := Lib.hid (k1.heap hbl.out)
      have HKW := Lib.hid (((Kept.refl w).alloc _).trans k1)
      clear k1
      go_wp2
      go_loopw [7, 8] (fun t7 t8 wr => ∃ k : Nat, k ≤ 64 ∧ t8 = .int .i64 k ∧ OwnZ wr W.heap.size t7 (zn (sel p k)) ∧ Kept W wr) (fun _ t8 _ => 64 - (intOf t8).toNat)
      case atStart => exact ⟨0, by omega, rfl, OwnZ.nil _ _, Kept.refl _⟩
      case round =>
        obtain ⟨k, hk, rfl, hown, hK⟩ := hrel
        obtain ⟨a, cap, rfl⟩ := hown.slice
        have hlen := zn_len p k
        have HO := Lib.hid hown
        have HK := Lib.hid hK
        clear hown hK
        by_cases hlt : k < 64
        · have hlt' : (k : Int) < 64 := by omega
          have hc0 := board_cell HB.out (HK.out.heap HBW.out) k hlt
          obtain ⟨hb1, hb2⟩ := HB.out.2 k hlt
          have hh := HHit.out k hlt
          have hpk := HP.out k
          generalize hitB B (k : Int) s = hb at *
          generalize B.getD k 0 = x at *
          cases hsd : (sideI x == side)
          · rw [hsd, Bool.false_and] at hpk
            have HE := Lib.hid (zn_no hpk)
            clear hh hpk
            generalize (zn (sel p k)).length = N at *
            go_wp2_with fail
            refine (rside_any x _).mono ?_
            rintro e w' ⟨rfl, rfl⟩
            go_wp2
            go_roundw
            case rel => exact ⟨k + 1, by omega, by go_num, by rw [HE.out]; exact HO.out, HK.out⟩
            case measure => simp [intOf]; omega
          · rw [hsd, Bool.true_and] at hpk
            have Hh := Lib.hid hh
            have hsz0 := HBW.out
            clear hh
            cases hb
            · have HE := Lib.hid (zn_no hpk)
              clear hpk
              generalize (zn (sel p k)).length = N at *
              go_wp2_with fail
              refine (rside_any x _).mono ?_
              rintro e w' ⟨rfl, rfl⟩
              go_wp2_with (refine wpList_load_w (by rfl) _ rfl _ rfl _ (HK.out.heap HBW.out) hz.out ?_)
              refine (Hh.out _).mono ?_
              rintro e w2 ⟨rfl, k2⟩
              have HO2 := Lib.hid (HO.out.kept k2)
              have HK2 := Lib.hid (HK.out.trans k2)
              clear k2 hc0
              go_wp2
              go_roundw
              case rel => exact ⟨k + 1, by omega, by go_num, by rw [HE.out]; exact HO2.out, HK2.out⟩
              case measure => simp [intOf]; omega
            · have HE := Lib.hid (zn_yes hpk)
              clear hpk
              generalize hN : (zn (sel p k)).length = N at *
              go_wp2_with fail
              refine (rside_any x _).mono ?_
              rintro e w' ⟨rfl, rfl⟩
              go_wp2_with (refine wpList_load_w (by rfl) _ rfl _ rfl _ (HK.out.heap HBW.out) hz.out ?_)
              refine (Hh.out _).mono ?_
              rintro e w2 ⟨rfl, k2⟩
              have HK2 := Lib.hid (HK.out.trans k2)
              have HA := Lib.hid (HK2.out.alloc (.cells #[.int .i64 (k : Int)] 3))
              have HOA := Lib.hid (HO.out.kept (k2.alloc (.cells #[.int .i64 (k : Int)] 3)))
              clear k2 hc0
              go_wp2_with (at_builtin; refine wpList_append_z rfl _ _ rfl W.heap.size w2.heap.size _ _ (zn (sel p k)) [(k : Int)] rfl rfl HOA.out (LsZ.lit _ [(k : Int)] (by simp)) ?c1 ?c2 ?_)
              case c1 => simp; omega
              case c2 => exact HA.out.size
              intro v' w3 hown' hg
              have HK3 := Lib.hid (HOA.out.grown HA.out (Nat.le_refl _) hg)
              obtain ⟨a', cap', rfl⟩ := hown'.slice
              have HO3 := Lib.hid hown'
              clear hown' hg hN
              generalize (zn (sel p k) ++ [(k : Int)]).length = N2 at *
              go_wp2
              go_roundw
              case rel => exact ⟨k + 1, by omega, by go_num, by rw [HE.out]; exact HO3.out, HK3.out⟩
              case measure => simp [intOf]; omega
        · have hlt' : ¬ (k : Int) < 64 := by omega
          have HE := Lib.hid (show zn (byN B s side) = zn (sel p k) by rw [HM.out, show 64 = k by omega])
          generalize (zn (sel p k)).length = N at *
          go_wp2
          go_ret
          exact ⟨_, rfl, by rw [HE.out]; exact HO.out.low HKW.out.size, HKW.out.trans HK.out⟩
end Go.Proofs.YtkliefojegjhhaaDoor
