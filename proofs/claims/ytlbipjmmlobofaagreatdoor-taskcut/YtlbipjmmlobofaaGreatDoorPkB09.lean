/- The document's Strikes, By, King and Check; the program's Check · King and Check, the program's and the document's · The example; walks of AttackStrikes and AttackCheck · The tables of positions; Backed. -/
import Derived.Test.YtlbipjmmlobofaaGreatDoorPkA15
import Derived.Test.YtlbipjmmlobofaaGreatDoorPkB00
import Derived.Test.YtlbipjmmlobofaaGreatDoorPkB08
namespace Go.Proofs.YtlbipjmmlobofaaGreatDoor
open Go.RowKit
set_option linter.unusedVariables false
set_option linter.unusedSimpArgs false

theorem zn_yes {p : Nat → Bool} {k : Nat} (h : p k = true) : zn (sel p (k + 1)) = zn (sel p k) ++ [(k : Int)] := by unfold zn; rw [sel_yes h]; simp
theorem zn_no {p : Nat → Bool} {k : Nat} (h : p k = false) : zn (sel p (k + 1)) = zn (sel p k) := by rw [sel_no h]
theorem zn_len (p : Nat → Bool) (k : Nat) : (zn (sel p k)).length ≤ k := by unfold zn; rw [List.length_map]; exact sel_le p k
set_option maxRecDepth 100000 in
set_option maxHeartbeats 2000000 in
theorem rby_is (B : List Int) (hB : Brd B) (s side : Int) (w : World) :
    Calls Tryz.prog 68 #[.agg (cl B).toArray, .int .i64 s, .int .i64 side] w (NewZ w (if okS s && rightB B then zn (byN B s side) else [])) := by
  have hz := Lib.hid (size_cl hB.1)
  have hbl := Lib.hid (heap_alloc_new w (.cells (cl B).toArray 24))
  have HB := Lib.hid hB
  have hRt := Lib.hid (rright_is B hB)
  clear hB
  by_cases hs : s < 0 ∨ 64 ≤ s
  · rw [okS_no hs, Bool.false_and, if_neg (by simp)]
    rcases hs with hs | hs
    · go_enter Tryz.func68, Tryz.ntmps68
      go_wp2
      go_ret
      exact ⟨_, rfl, OwnZ.nil _ _, (Kept.refl _).alloc _⟩
    · have hs' : ¬ s < 0 := by omega
      have hs2 : 63 < s := by omega
      go_enter Tryz.func68, Tryz.ntmps68
      go_wp2
      go_ret
      exact ⟨_, rfl, OwnZ.nil _ _, (Kept.refl _).alloc _⟩
  · have hs' : ¬ s < 0 := by omega
    have hs2 : ¬ 63 < s := by omega
    rw [okS_yes (by omega) (by omega), Bool.true_and]
    cases hr : rightB B
    · rw [hr] at hRt
      rw [if_neg (by simp)]
      clear hr hs
      go_enter Tryz.func68, Tryz.ntmps68
      go_wp2_with (refine wpList_load_w (by rfl) _ rfl _ rfl _ (hbl.out) hz.out ?_)
      refine (hRt.out _).mono ?_
      rintro e w1 ⟨rfl, k1⟩
      have HK := Lib.hid (((Kept.refl w).alloc _).trans k1)
      clear k1
      go_wp2
      go_ret
      exact ⟨_, rfl, OwnZ.nil _ _, HK.out⟩
    · rw [hr] at hRt
      rw [if_pos rfl]
      have HHit := Lib.hid (fun (k : Nat) (hk : k < 64) => hits_is B HB.out k hk s)
      obtain ⟨p, hp⟩ : ∃ p : Nat → Bool, p = fun (k : Nat) => (sideI (B.getD k 0) == side) && hitB B (k : Int) s := ⟨_, rfl⟩
      have HM : Hid (zn (byN B s side) = zn (sel p 64)) := by rw [hp]; rfl
      have HP := Lib.hid (fun k => congrFun hp k)
      clear hr hs hp
      go_enter Tryz.func68, Tryz.ntmps68
      go_wp2_with (refine wpList_load_w (by rfl) _ rfl _ rfl _ (hbl.out) hz.out ?_)
      refine (hRt.out _).mono ?_
      rintro e W ⟨rfl, k1⟩
      have HBW := Lib.hid (k1.heap hbl.out)
      have HKW := Lib.hid (((Kept.refl w).alloc _).trans k1)
      clear k1
      go_wp2
      go_loopw [7, 8] (fun t7 t8 wr => ∃ k : Nat, k ≤ 64 ∧ t8 = .int .i64 k ∧ OwnZ wr W.heap.size t7 (zn (sel p k)) ∧ Kept W wr) (fun _ t8 _ => 64 - (intOf t8).toNat)
      case atStart => exact ⟨0, by omega, rfl, OwnZ.nil _ _, Kept.refl _⟩
      case round =>
        obtain ⟨k, hk, rfl, hown, hK⟩ := hrel
        obtain ⟨a, cap, rfl⟩ := hown.slice
        have hlen := zn_len p k
        have HO := Lib.hid hown
        have HK := Lib.hid hK
        clear hown hK
        by_cases hlt : k < 64
        · have hlt' : (k : Int) < 64 := by omega
          have hc0 := board_cell HB.out (HK.out.heap HBW.out) k hlt
          obtain ⟨hb1, hb2⟩ := HB.out.2 k hlt
          have hh := HHit.out k hlt
          have hpk := HP.out k
          generalize hitB B (k : Int) s = hb at *
          generalize B.getD k 0 = x at *
          cases hsd : (sideI x == side)
          · rw [hsd, Bool.false_and] at hpk
            have HE := Lib.hid (zn_no hpk)
            clear hh hpk
            generalize (zn (sel p k)).length = N at *
            go_wp2_with fail
            refine (rside_any x _).mono ?_
            rintro e w' ⟨rfl, rfl⟩
            go_wp2
            go_roundw
            case rel => exact ⟨k + 1, by omega, by go_num, by rw [HE.out]; exact HO.out, HK.out⟩
            case measure => simp [intOf]; omega
          · rw [hsd, Bool.true_and] at hpk
            have Hh := Lib.hid hh
            have hsz0 := HBW.out
            clear hh
            cases hb
            · have HE := Lib.hid (zn_no hpk)
              clear hpk
              generalize (zn (sel p k)).length = N at *
              go_wp2_with fail
              refine (rside_any x _).mono ?_
              rintro e w' ⟨rfl, rfl⟩
              go_wp2_with (refine wpList_load_w (by rfl) _ rfl _ rfl _ (HK.out.heap HBW.out) hz.out ?_)
              refine (Hh.out _).mono ?_
              rintro e w2 ⟨rfl, k2⟩
              have HO2 := Lib.hid (HO.out.kept k2)
              have HK2 := Lib.hid (HK.out.trans k2)
              clear k2 hc0
              go_wp2
              go_roundw
              case rel => exact ⟨k + 1, by omega, by go_num, by rw [HE.out]; exact HO2.out, HK2.out⟩
              case measure => simp [intOf]; omega
            · have HE := Lib.hid (zn_yes hpk)
              clear hpk
              generalize hN : (zn (sel p k)).length = N at *
              go_wp2_with fail
              refine (rside_any x _).mono ?_
              rintro e w' ⟨rfl, rfl⟩
              go_wp2_with (refine wpList_load_w (by rfl) _ rfl _ rfl _ (HK.out.heap HBW.out) hz.out ?_)
              refine (Hh.out _).mono ?_
              rintro e w2 ⟨rfl, k2⟩
              have HK2 := Lib.hid (HK.out.trans k2)
              have HA := Lib.hid (HK2.out.alloc (.cells #[.int .i64 (k : Int)] 3))
              have HOA := Lib.hid (HO.out.kept (k2.alloc (.cells #[.int .i64 (k : Int)] 3)))
              clear k2 hc0
              go_wp2_with (at_builtin; refine wpList_append_z rfl _ _ rfl W.heap.size w2.heap.size _ _ (zn (sel p k)) [(k : Int)] rfl rfl HOA.out (LsZ.lit _ [(k : Int)] (by simp)) ?c1 ?c2 ?_)
              case c1 => simp; omega
              case c2 => exact HA.out.size
              intro v' w3 hown' hg
              have HK3 := Lib.hid (HOA.out.grown HA.out (Nat.le_refl _) hg)
              obtain ⟨a', cap', rfl⟩ := hown'.slice
              have HO3 := Lib.hid hown'
              clear hown' hg hN
              generalize (zn (sel p k) ++ [(k : Int)]).length = N2 at *
              go_wp2
              go_roundw
              case rel => exact ⟨k + 1, by omega, by go_num, by rw [HE.out]; exact HO3.out, HK3.out⟩
              case measure => simp [intOf]; omega
        · have hlt' : ¬ (k : Int) < 64 := by omega
          have HE := Lib.hid (show zn (byN B s side) = zn (sel p k) by rw [HM.out, show 64 = k by omega])
          generalize (zn (sel p k)).length = N at *
          go_wp2
          go_ret
          exact ⟨_, rfl, by rw [HE.out]; exact HO.out.low HKW.out.size, HKW.out.trans HK.out⟩
end Go.Proofs.YtlbipjmmlobofaaGreatDoor
namespace Go.Proofs.YtlbipjmmlobofaaGreatDoor
open Go.RowKit
set_option linter.unusedVariables false
set_option linter.unusedSimpArgs false

/-- Where a side's king stands; -1: nowhere. -/
def kingI (B : List Int) (side : Int) : Int := if side = 0 then headI (whereL B 6) else if side = 1 then headI (whereL B (-6)) else -1
theorem kingI_bd (B : List Int) (side : Int) : -1 ≤ kingI B side ∧ kingI B side < 64 := by
  unfold kingI
  split
  · exact headI_bd B 6
  · split
    · exact headI_bd B (-6)
    · omega
theorem king_any (B : List Int) (hB : Brd B) (side : Int) (w : World) :
    Calls Tryz.prog 97 #[.agg (cl B).toArray, .int .i64 side] w fun e w' => e = .returned (.int .i64 (kingI B side)) ∧ Kept w w' := by
  unfold kingI
  by_cases h0 : side = 0
  · subst h0; rw [if_pos rfl]; exact king_w B hB w
  · rw [if_neg h0]
    by_cases h1 : side = 1
    · subst h1; rw [if_pos rfl]; exact king_b B hB w
    · rw [if_neg h1]; exact king_no B side h0 h1 w
def otherI (side : Int) : Int := if side = 0 then 1 else if side = 1 then 0 else -1
theorem other_any (side : Int) (w : World) : Calls Tryz.prog 46 #[.int .i64 side] w fun e w' => e = .returned (.int .i64 (otherI side)) ∧ Kept w w' := by
  unfold otherI
  by_cases h0 : side = 0
  · subst h0; rw [if_pos rfl]; exact (other_w w).mono fun _ _ ⟨a, b⟩ => ⟨a, b ▸ Kept.refl _⟩
  · rw [if_neg h0]
    by_cases h1 : side = 1
    · subst h1; rw [if_pos rfl]; exact (other_b w).mono fun _ _ ⟨a, b⟩ => ⟨a, b ▸ Kept.refl _⟩
    · rw [if_neg h1]; exact (other_no side w h0 h1).mono fun _ _ ⟨a, b⟩ => ⟨a, b ▸ Kept.refl _⟩
def checkB (B : List Int) (side : Int) : Bool := struckB B (kingI B side) (otherI side)
set_option maxHeartbeats 1000000 in
theorem check_is (a : Addr) (B : List Int) (hB : Brd B) (side : Int) (w : World) (hS : Steps w) :
    Calls Tryz.prog 99 #[.pointer (some a), .agg (cl B).toArray, .int .i64 side] w fun e w' => e = .returned (.bool (checkB B side)) ∧ Kept w w' := by
  have hbl := Lib.hid (heap_alloc_new w (.cells (cl B).toArray 24))
  have HB := Lib.hid hB
  have HSt := Lib.hid (hS.kept ((Kept.refl w).alloc (.cells (cl B).toArray 24)))
  clear hB hS
  unfold checkB
  go_enter Tryz.func99, Tryz.ntmps99
  go_wp2
  refine wp_region_held_drew (S := Kept _) (by kernel_rfl) (Kept.refl _).drew (fun hHeld => ?_)
  refine rT 0 7 (.pointer (some a)) rfl rfl hHeld ?_
  simp only [pA, pN, sZ, sU]
  refine rY 1 8 rfl rfl (take_load (by rfl) _ rfl _ rfl B HB.out.1 (fun _ h => h.heap (hbl.out))) hHeld ?_
  simp only [pA, pN, sZ, sU]
  refine rY 2 9 rfl rfl (take_load (by rfl) _ rfl _ rfl B HB.out.1 (fun _ h => h.heap (hbl.out))) hHeld ?_
  simp only [pA, pN, sZ, sU]
  refine rT 3 10 (.int .i64 side) rfl rfl hHeld ?_
  simp only [pA, pN, sZ, sU]
  refine rT 5 12 (.int .i64 side) rfl rfl hHeld ?_
  simp only [pA, pN, sZ, sU]
  refine rR 4 rfl (fun K hK => ?_)
  go_simp
  refine (king_any B HB.out side _).mono ?_
  rintro e w1 ⟨rfl, gw1⟩
  refine hK.out _ _ (hHeld.trans gw1) (fun _ => ?_)
  replace hHeld := hHeld.trans gw1
  clear hK K
  refine rR 6 rfl (fun K hK => ?_)
  go_simp
  refine (other_any side _).mono ?_
  rintro e w2 ⟨rfl, gw2⟩
  refine hK.out _ _ (hHeld.trans gw2) (fun _ => ?_)
  replace hHeld := hHeld.trans gw2
  clear hK K
  refine rR 7 rfl (fun K hK => ?_)
  go_simp
  refine (struck_is a B HB.out (kingI B side) (otherI side) _ (HSt.out.kept hHeld)).mono ?_
  rintro e w3 ⟨rfl, gw3⟩
  refine hK.out _ _ (hHeld.trans gw3) (fun _ => ?_)
  replace hHeld := hHeld.trans gw3
  clear hK K
  refine rT 8 6 (.bool (struckB B (kingI B side) (otherI side))) rfl rfl hHeld ?_
  simp only [pA, pN, sZ, sU]
  refine wpAnyH_done (by kernel_rfl) ?_ _
  go_wp2
  go_ret
  exact ⟨rfl, ((Kept.refl _).alloc _).trans hHeld⟩
theorem check_nil (B : List Int) (hB : Brd B) (side : Int) (w : World) :
    Calls Tryz.prog 99 #[.pointer none, .agg (cl B).toArray, .int .i64 side] w fun e w' => e = .returned (.bool false) ∧ Kept w w' := by
  have hbl := Lib.hid (heap_alloc_new w (.cells (cl B).toArray 24))
  have HB := Lib.hid hB
  clear hB
  go_enter Tryz.func99, Tryz.ntmps99
  go_wp2
  refine wp_region_held_drew (S := Kept _) (by kernel_rfl) (Kept.refl _).drew (fun hHeld => ?_)
  refine rT 0 7 (.pointer none) rfl rfl hHeld ?_
  simp only [pA, pN, sZ, sU]
  refine rY 1 8 rfl rfl (take_load (by rfl) _ rfl _ rfl B HB.out.1 (fun _ h => h.heap (hbl.out))) hHeld ?_
  simp only [pA, pN, sZ, sU]
  refine rY 2 9 rfl rfl (take_load (by rfl) _ rfl _ rfl B HB.out.1 (fun _ h => h.heap (hbl.out))) hHeld ?_
  simp only [pA, pN, sZ, sU]
  refine rT 3 10 (.int .i64 side) rfl rfl hHeld ?_
  simp only [pA, pN, sZ, sU]
  refine rT 5 12 (.int .i64 side) rfl rfl hHeld ?_
  simp only [pA, pN, sZ, sU]
  refine rR 4 rfl (fun K hK => ?_)
  go_simp
  refine (king_any B HB.out side _).mono ?_
  rintro e w1 ⟨rfl, gw1⟩
  refine hK.out _ _ (hHeld.trans gw1) (fun _ => ?_)
  replace hHeld := hHeld.trans gw1
  clear hK K
  refine rR 6 rfl (fun K hK => ?_)
  go_simp
  refine (other_any side _).mono ?_
  rintro e w2 ⟨rfl, gw2⟩
  refine hK.out _ _ (hHeld.trans gw2) (fun _ => ?_)
  replace hHeld := hHeld.trans gw2
  clear hK K
  refine rR 7 rfl (fun K hK => ?_)
  go_simp
  refine (struck_nil B HB.out (kingI B side) (otherI side) _).mono ?_
  rintro e w3 ⟨rfl, gw3⟩
  refine hK.out _ _ (hHeld.trans gw3) (fun _ => ?_)
  replace hHeld := hHeld.trans gw3
  clear hK K
  refine rT 8 6 (.bool false) rfl rfl hHeld ?_
  simp only [pA, pN, sZ, sU]
  refine wpAnyH_done (by kernel_rfl) ?_ _
  go_wp2
  go_ret
  exact ⟨rfl, ((Kept.refl _).alloc _).trans hHeld⟩
theorem headI_none {l : List Nat} (h : l.length = 0) : headI l = -1 := by rw [List.eq_nil_of_length_eq_zero h]; rfl
theorem headI_some {l : List Nat} (h : 0 < l.length) : headI l = (l.getD 0 0 : Nat) := by
  cases l with
  | nil => simp at h
  | cons a l => rfl
set_option maxRecDepth 100000 in
set_option maxHeartbeats 1000000 in
theorem rking_is (B : List Int) (hB : Brd B) (side : Int) (w : World) :
    Calls Tryz.prog 29 #[.agg (cl B).toArray, .int .i64 side] w fun e w' => e = .returned (.int .i64 (kingI B side)) ∧ Kept w w' := by
  have hz := Lib.hid (size_cl hB.1)
  have hbl := Lib.hid (heap_alloc_new w (.cells (cl B).toArray 24))
  have HW := Lib.hid (rwhere_is B hB)
  have HLen := Lib.hid (fun m => (show (whereL B m).length ≤ 64 from sel_le _ 64))
  clear hB
  have hcase : side = 1 ∨ side = 0 ∨ side < 0 ∨ 1 < side := by omega
  by_cases h1 : side = 1
  · subst h1
    have hk : kingI B 1 = headI (whereL B (-6)) := rfl
    rw [hk]
    by_cases hl : 0 < (whereL B (-6)).length
    · rw [headI_some hl]
      have HLn := Lib.hid (HLen.out (-6))
      have HWm := Lib.hid (HW.out (-6))
      generalize whereL B (-6) = Lw at *
      obtain ⟨y, hy⟩ : ∃ y, Lw.getD 0 0 = y := ⟨_, rfl⟩
      rw [hy]
      go_enter Tryz.func29, Tryz.ntmps29
      go_wp2_with (refine wpList_load_w (by rfl) _ rfl _ rfl _ (hbl.out) hz.out ?_)
      refine (HWm.out _).mono ?_
      rintro e w1 ⟨v, rfl, hown, k1⟩
      obtain ⟨a, cap, rfl⟩ := hown.slice
      obtain ⟨g, rfl, hc⟩ := hown.at_ 0 hl
      rw [hy] at hc
      have HK := Lib.hid (((Kept.refl w).alloc _).trans k1)
      skip
      have hl2 : ((Lw.length : Int) == 0) = false := by rw [beq_eq_false_iff_ne]; omega
      clear hown k1 hy
      generalize Lw.length = N at *
      go_wp2
      go_ret
      exact ⟨rfl, HK.out⟩
    · rw [headI_none (by omega)]
      have hl0 : (whereL B (-6)).length = 0 := by omega
      go_enter Tryz.func29, Tryz.ntmps29
      go_wp2_with (refine wpList_load_w (by rfl) _ rfl _ rfl _ (hbl.out) hz.out ?_)
      refine (HW.out (-6) _).mono ?_
      rintro e w1 ⟨v, rfl, hown, k1⟩
      obtain ⟨a, cap, rfl⟩ := hown.slice
      have HK := Lib.hid (((Kept.refl w).alloc _).trans k1)
      clear hown k1
      rw [hl0]
      clear hl0 hl
      go_wp2
      go_ret
      exact ⟨rfl, HK.out⟩
  · have h1' : (side == 1) = false := by simpa using h1
    by_cases h0 : side = 0
    · subst h0
      have hk : kingI B 0 = headI (whereL B 6) := rfl
      rw [hk]
      by_cases hl : 0 < (whereL B 6).length
      · rw [headI_some hl]
        have HLn := Lib.hid (HLen.out 6)
        have HWm := Lib.hid (HW.out 6)
        generalize whereL B 6 = Lw at *
        obtain ⟨y, hy⟩ : ∃ y, Lw.getD 0 0 = y := ⟨_, rfl⟩
        rw [hy]
        go_enter Tryz.func29, Tryz.ntmps29
        go_wp2_with (refine wpList_load_w (by rfl) _ rfl _ rfl _ (hbl.out) hz.out ?_)
        refine (HWm.out _).mono ?_
        rintro e w1 ⟨v, rfl, hown, k1⟩
        obtain ⟨a, cap, rfl⟩ := hown.slice
        obtain ⟨g, rfl, hc⟩ := hown.at_ 0 hl
        rw [hy] at hc
        have HK := Lib.hid (((Kept.refl w).alloc _).trans k1)
        have hl2 : ((Lw.length : Int) == 0) = false := by rw [beq_eq_false_iff_ne]; omega
        clear hown k1 hy
        generalize Lw.length = N at *
        go_wp2
        go_ret
        exact ⟨rfl, HK.out⟩
      · rw [headI_none (by omega)]
        have hl0 : (whereL B 6).length = 0 := by omega
        go_enter Tryz.func29, Tryz.ntmps29
        go_wp2_with (refine wpList_load_w (by rfl) _ rfl _ rfl _ (hbl.out) hz.out ?_)
        refine (HW.out 6 _).mono ?_
        rintro e w1 ⟨v, rfl, hown, k1⟩
        obtain ⟨a, cap, rfl⟩ := hown.slice
        have HK := Lib.hid (((Kept.refl w).alloc _).trans k1)
        clear hown k1
        rw [hl0]
        clear hl0 hl
        go_wp2
        go_ret
        exact ⟨rfl, HK.out⟩
    · have hk : kingI B side = -1 := by unfold kingI; rw [if_neg h0, if_neg h1]
      rw [hk]
      have HLn := Lib.hid (HLen.out 6)
      go_enter Tryz.func29, Tryz.ntmps29
      go_wp2_with (refine wpList_load_w (by rfl) _ rfl _ rfl _ (hbl.out) hz.out ?_)
      refine (HW.out 6 _).mono ?_
      rintro e w1 ⟨v, rfl, hown, k1⟩
      obtain ⟨a, cap, rfl⟩ := hown.slice
      have HK := Lib.hid (((Kept.refl w).alloc _).trans k1)
      clear hown k1 hk
      generalize (whereL B 6).length = N at *
      by_cases hN : N = 0
      · subst hN
        go_wp2
        go_ret
        exact ⟨rfl, HK.out⟩
      · have hN' : ((N : Int) == 0) = false := by simp; omega
        by_cases hs : side < 0
        · go_wp2
          go_ret
          exact ⟨rfl, HK.out⟩
        · have hs2 : 1 < side := by omega
          go_wp2
          go_ret
          exact ⟨rfl, HK.out⟩
theorem struck_by (B : List Int) (k side : Int) : decide (0 < (if okS k && rightB B then zn (byN B k side) else ([] : List Int)).length) = struckB B k side := by
  unfold struckB
  cases h : okS k && rightB B
  · simp
  · obtain ⟨h0, h1⟩ := okS_iff.1 (Bool.and_eq_true _ _ ▸ h).1
    have e := tell_by B k side h0 h1
    rw [if_pos rfl, Bool.true_and]
    unfold zn
    rw [List.length_map, ← e]
    cases tellL B k side <;> simp
set_option maxRecDepth 100000 in
set_option maxHeartbeats 1000000 in
theorem rcheck_is (B : List Int) (hB : Brd B) (side : Int) (hs : side = 0 ∨ side = 1) (w : World) :
    Calls Tryz.prog 30 #[.agg (cl B).toArray, .int .i64 side] w fun e w' => e = .returned (.bool (checkB B side)) ∧ Kept w w' := by
  have hz := Lib.hid (size_cl hB.1)
  have hbl := Lib.hid (heap_alloc_new w (.cells (cl B).toArray 24))
  have HKg := Lib.hid (rking_is B hB side)
  have ho : otherI side = 1 - side := by rcases hs with rfl | rfl <;> rfl
  have HBy := Lib.hid (rby_is B hB (kingI B side) (1 - side))
  have HE := Lib.hid (struck_by B (kingI B side) (1 - side))
  have hlen : (if okS (kingI B side) && rightB B then zn (byN B (kingI B side) (1 - side)) else ([] : List Int)).length ≤ 64 := by
    split
    · exact zn_len _ 64
    · simp
  unfold checkB
  rw [ho]
  have hno : kingI B side < 0 → struckB B (kingI B side) (1 - side) = false := by
    intro h
    unfold struckB
    rw [okS_no (.inl h)]
    rfl
  obtain ⟨kb1, kb2⟩ := kingI_bd B side
  generalize struckB B (kingI B side) (1 - side) = sb at *
  generalize (if okS (kingI B side) && rightB B then zn (byN B (kingI B side) (1 - side)) else ([] : List Int)) = Z at *
  generalize kingI B side = k at *
  clear hB ho
  by_cases hk : k < 0
  · have HN := Lib.hid (hno hk)
    have hk' : ¬ 0 ≤ k := by omega
    clear hno HE HBy
    go_enter Tryz.func30, Tryz.ntmps30
    go_wp2_with (refine wpList_load_w (by rfl) _ rfl _ rfl _ (hbl.out) hz.out ?_)
    refine (HKg.out _).mono ?_
    rintro e w1 ⟨rfl, k1⟩
    have HK := Lib.hid (((Kept.refl w).alloc _).trans k1)
    clear k1
    go_wp2
    go_ret
    exact ⟨by rw [HN.out]; rfl, HK.out⟩
  · have hk' : 0 ≤ k := by omega
    clear hno
    go_enter Tryz.func30, Tryz.ntmps30
    go_wp2_with (refine wpList_load_w (by rfl) _ rfl _ rfl _ (hbl.out) hz.out ?_)
    refine (HKg.out _).mono ?_
    rintro e w1 ⟨rfl, k1⟩
    have HK := Lib.hid (((Kept.refl w).alloc _).trans k1)
    have hb1 := Lib.hid (k1.heap hbl.out)
    clear k1
    go_wp2_with (refine wpList_load_w (by rfl) _ rfl _ rfl _ (hb1.out) hz.out ?_)
    refine (HBy.out _).mono ?_
    rintro e w2 ⟨v, rfl, hown, k2⟩
    obtain ⟨a, cap, rfl⟩ := hown.slice
    have HK2 := Lib.hid (HK.out.trans k2)
    clear hown k2
    generalize Z.length = N at *
    go_wp2
    go_ret
    exact ⟨by rw [← HE.out]; simp, HK2.out⟩
end Go.Proofs.YtlbipjmmlobofaaGreatDoor
namespace Go.Proofs.YtlbipjmmlobofaaGreatDoor
open Go.RowKit
set_option linter.unusedVariables false
set_option linter.unusedSimpArgs false

theorem new_is (w : World) : Calls Tryz.prog 98 #[] w fun e w' => (∃ a, e = .returned (.pointer (some a))) ∧ Kept w w' := by
  go_enter Tryz.func98, Tryz.ntmps98
  go_wp2
  go_ret
  exact ⟨⟨_, rfl⟩, (Kept.refl _).alloc _⟩
/-- A rook on a1 alone. -/
def Rb : List Int := 4 :: List.replicate 63 0
theorem Rb_brd : Brd Rb := by
  refine ⟨rfl, ?_⟩
  have : ∀ i : Fin 64, -128 ≤ Rb.getD i.val 0 ∧ Rb.getD i.val 0 ≤ 127 := by decide +kernel
  exact fun i hi => this ⟨i, hi⟩
theorem Rb_len : (if okS 0 && rightB Rb then zn (strikesN Rb 0) else ([] : List Int)).length = 14 := by decide +kernel
end Go.Proofs.YtlbipjmmlobofaaGreatDoor
namespace Go.Proofs.YtlbipjmmlobofaaGreatDoor
open Go.RowKit
set_option linter.unusedVariables false
set_option linter.unusedSimpArgs false

def hmL : List Int := [1, 0, 4, 7, 2, 0, 4, 0, 4, 1, 60, 63, 8, 1, 60, 56]
def hmV : List Value := hmL.map (Value.int .i64)
def vwL : List Int := [5, 1, 2, -1]
def Homes (w : World) : Prop := ∀ i, i < 16 → w.cell? ⟨2, i, none⟩ = some (.int .i64 (hmL.getD i 0))
def Views (w : World) : Prop := ∀ i, i < 4 → w.cell? ⟨3, i, none⟩ = some (.int .i64 (vwL.getD i 0))
/-- The tables hold what the text lays. -/
structure Tabs (w : World) : Prop where
  steps : Steps w
  homes : Homes w
  views : Views w
theorem Tabs.kept {w w' : World} (h : Tabs w) (k : Kept w w') : Tabs w' :=
  ⟨h.steps.kept k, fun i hi => kept_cell k (h.homes i hi), fun i hi => kept_cell k (h.views i hi)⟩
theorem Homes.range {w : World} (h : Homes w) : w.rangeAt 2 0 hmV := by
  intro j v hv
  have hj : j < hmV.length := (List.getElem?_eq_some_iff.1 hv).1
  have hj' : j < 16 := by simpa [hmV, hmL] using hj
  rw [Nat.zero_add, h j hj']
  unfold hmV at hv
  rw [List.getElem?_map] at hv
  have h2 : j < hmL.length := by simpa [hmL] using hj'
  rw [List.getElem?_eq_getElem h2] at hv
  simp only [Option.map_some, Option.some.injEq] at hv
  rw [← hv, getD_at _ _ h2]
theorem size_homes : (Tryz.prog.info? 119).map (·.size) = some hmV.length := by kernel_rfl
/-- A right, its side, its king's and its rook's square. -/
def hR (k : Nat) : Int := [1, 2, 4, 8].getD k 0
def hS (k : Nat) : Int := [0, 0, 1, 1].getD k 0
def hKg (k : Nat) : Nat := [4, 4, 60, 60].getD k 0
def hRk (k : Nat) : Nat := [7, 0, 63, 56].getD k 0
def hAt (k : Nat) : Array Value := #[.int .i64 (hR k), .int .i64 (hS k), .int .i64 (hKg k), .int .i64 (hRk k)]
theorem sizeHome : (Tryz.prog.info? 118).map (·.size) = some 4 := by kernel_rfl
theorem run_index_hm (k : Nat) (hk : k < 4) (w : World) : (Instr.index 119 (.agg hmV.toArray) (.int .i64 k)).run Tryz.prog w = .ok (.agg (hAt k)) w := by
  have h1 : (0 : Int) ≤ (k : Int) ∧ (k : Int) < ((4 : Nat) : Int) := by omega
  have hs : (sizeOf 118).run Tryz.prog w = .ok 4 w := by
    cases hq : Tryz.prog.info? 118 with
    | none => have := sizeHome; simp [hq] at this
    | some i => have := sizeHome; simp [hq] at this; simp [sizeOf, typeInfo, hq, this]
  simp only [Instr.index, asIntOf, Sem.run_bind, Sem.run_pure, Result.andThen_ok, run_underlying Tryz.underlying119, if_pos h1, hs]
  simp only [part, isAgg, Sem.run_bind, Sem.run_pure, Result.andThen_ok, run_underlying Tryz.underlying118, if_true, hs, Int.toNat_natCast]
  have : k = 0 ∨ k = 1 ∨ k = 2 ∨ k = 3 := by omega
  rcases this with rfl | rfl | rfl | rfl <;> rfl
/-- Is a right backed? -/
def backB (B : List Int) (r : Int) : Bool :=
  if r = 1 then (B.getD 4 0 == 6) && (B.getD 7 0 == 4) else if r = 2 then (B.getD 4 0 == 6) && (B.getD 0 0 == 4)
  else if r = 4 then (B.getD 60 0 == -6) && (B.getD 63 0 == -4) else if r = 8 then (B.getD 60 0 == -6) && (B.getD 56 0 == -4) else false
/-- The man of a kind and side. -/
def mkI (k s : Int) : Int := if s = 0 then k else -k
theorem back_at (B : List Int) (k : Nat) (hk : k < 4) : backB B (hR k) = ((B.getD (hKg k) 0 == mkI 6 (hS k)) && (B.getD (hRk k) 0 == mkI 4 (hS k))) := by
  have : k = 0 ∨ k = 1 ∨ k = 2 ∨ k = 3 := by omega
  rcases this with rfl | rfl | rfl | rfl <;> rfl
theorem back_no (B : List Int) (r : Int) (h : ∀ j, j < 4 → hR j ≠ r) : backB B r = false := by
  have h0 := h 0 (by omega)
  have h1 := h 1 (by omega)
  have h2 := h 2 (by omega)
  have h3 := h 3 (by omega)
  simp only [hR, List.getD_cons_zero, List.getD_cons_succ] at h0 h1 h2 h3
  unfold backB
  rw [if_neg (by omega), if_neg (by omega), if_neg (by omega), if_neg (by omega)]
theorem hS_01 (k : Nat) (hk : k < 4) : hS k = 0 ∨ hS k = 1 := by
  have : k = 0 ∨ k = 1 ∨ k = 2 ∨ k = 3 := by omega
  rcases this with rfl | rfl | rfl | rfl <;> simp [hS]
theorem hKg_lt (k : Nat) : hKg k < 64 := by
  unfold hKg; rcases k with _ | _ | _ | _ | k <;> simp
theorem hRk_lt (k : Nat) : hRk k < 64 := by
  unfold hRk; rcases k with _ | _ | _ | _ | k <;> simp
theorem hR_bd (k : Nat) : 0 ≤ hR k ∧ hR k ≤ 8 := by
  unfold hR; rcases k with _ | _ | _ | _ | k <;> simp
theorem mmake_is (k s : Int) (w : World) (h1 : 1 ≤ k) (h6 : k ≤ 6) (hs : s = 0 ∨ s = 1) : Calls Tryz.prog 136 #[.int .i64 k, .int .i64 s] w fun e w' => e = .returned (.int .i64 (mkI k s)) ∧ Kept w w' := by
  rcases hs with rfl | rfl
  · exact (make_w k w h1 h6).mono fun _ _ ⟨a, b⟩ => ⟨a, b ▸ Kept.refl _⟩
  · exact (make_b k w h1 h6).mono fun _ _ ⟨a, b⟩ => ⟨a, b ▸ Kept.refl _⟩
set_option maxRecDepth 100000 in
set_option maxHeartbeats 2000000 in
theorem backed_is (p : Ps) (hB : Brd p.B) (r : Int) (w : World) (hT : Tabs w) :
    Calls Tryz.prog 100 #[.agg (pl p).toArray, .int .i64 r] w fun e w' => e = .returned (.bool (backB p.B r)) ∧ Kept w w' := by
  have HP := Lib.hid (PAt.new w hB.1)
  have HK0 := Lib.hid ((Kept.refl w).alloc (.cells (pl p).toArray 26))
  have HT := Lib.hid (hT.kept HK0.out)
  have HB := Lib.hid hB
  clear hB hT
  go_enter Tryz.func100, Tryz.ntmps100
  go_wp2_with (refine wpList_load_mid rfl 119 _ rfl 2 0 rfl hmV _ HT.out.homes.range Tryz.underlying119 rfl size_homes ?_)
  go_loopw [8] (fun t8 wr => ∃ k : Nat, k ≤ 4 ∧ t8 = .int .i64 k ∧ (∀ j, j < k → hR j ≠ r) ∧ Kept (w.alloc (.cells (pl p).toArray 26)) wr) (fun t8 _ => 4 - (intOf t8).toNat)
  case atStart => exact ⟨0, by omega, rfl, fun j hj => by omega, Kept.refl _⟩
  case round =>
    obtain ⟨k, hk, rfl, hno, hK⟩ := hrel
    have HNo := Lib.hid hno
    have HK := Lib.hid hK
    clear hno hK
    by_cases hlt : k < 4
    · have hx := run_index_hm k hlt
      have HPk := Lib.hid (HP.out.kept HK.out)
      have HKg := Lib.hid (hKg_lt k)
      have HRk := Lib.hid (hRk_lt k)
      have HS := Lib.hid (hS_01 k hlt)
      have HBk := Lib.hid (back_at p.B k hlt)
      have HR := Lib.hid (hR_bd k)
      unfold hAt at hx
      by_cases he : hR k = r
      · have he' : (hR k == r) = true := beq_iff_eq.2 he
        rw [he] at HBk
        have HM1 := Lib.hid (man_yes p.B HB.out (hKg k) HKg.out)
        have HM2 := Lib.hid (man_yes p.B HB.out (hRk k) HRk.out)
        have HMk1 := Lib.hid (fun w => mmake_is 6 (hS k) w (by omega) (by omega) HS.out)
        have HMk2 := Lib.hid (fun w => mmake_is 4 (hS k) w (by omega) (by omega) HS.out)
        generalize p.B.getD (hKg k) 0 = x1 at *
        generalize p.B.getD (hRk k) 0 = x2 at *
        generalize mkI 6 (hS k) = m1 at *
        generalize mkI 4 (hS k) = m2 at *
        clear he
        go_wp2
        have hnew := heap_alloc_new wr (.cells (hAt k) 118)
        have c1 := Lib.hid (show (wr.alloc (.cells (hAt k) 118)).cell? ⟨wr.heap.size, 1, none⟩ = some (.int .i64 (hS k)) by rw [cell_of_row _ _ 1 _ _ (0, 0) hnew]; rfl)
        have c2 := Lib.hid (show (wr.alloc (.cells (hAt k) 118)).cell? ⟨wr.heap.size, 2, none⟩ = some (.int .i64 (hKg k)) by rw [cell_of_row _ _ 2 _ _ (0, 0) hnew]; rfl)
        have c3 := Lib.hid (show (wr.alloc (.cells (hAt k) 118)).cell? ⟨wr.heap.size, 3, none⟩ = some (.int .i64 (hRk k)) by rw [cell_of_row _ _ 3 _ _ (0, 0) hnew]; rfl)
        have HPA := Lib.hid (HPk.out.kept ((Kept.refl wr).alloc (.cells (hAt k) 118)))
        clear hnew
        cases hb1 : (x1 == m1)
        · skip
          refine wp_region_held_drew (S := Kept _) (by kernel_rfl) (Kept.refl _).drew (fun hHeld => ?_)
          refine rT 0 15 (.pointer (some ⟨w.heap.size, 0, none⟩)) rfl rfl hHeld ?_
          simp only [pA, pN, sZ, sU]
          refine rY 1 16 rfl rfl (take_load_pb (by rfl) _ rfl _ rfl p HB.out.1 (fun _ h => (HPA.out).kept h)) hHeld ?_
          simp only [pA, pN, sZ, sU]
          refine rT 2 17 (.pointer (some ⟨wr.heap.size, 2, none⟩)) rfl rfl hHeld ?_
          simp only [pA, pN, sZ, sU]
          refine rC 3 18 (.int .i64 ↑(hKg k)) rfl rfl (fun _ h => kept_cell h (c2.out)) hHeld ?_
          simp only [pA, pN, sZ, sU]
          refine rT 5 20 (.pointer (some ⟨wr.heap.size, 1, none⟩)) rfl rfl hHeld ?_
          simp only [pA, pN, sZ, sU]
          refine rC 6 21 (.int .i64 (hS k)) rfl rfl (fun _ h => kept_cell h (c1.out)) hHeld ?_
          simp only [pA, pN, sZ, sU]
          refine rR 4 rfl (fun K hK => ?_)
          go_simp
          refine (HM1.out _).mono ?_
          rintro e w1 ⟨rfl, gw1⟩
          refine hK.out _ _ (hHeld.trans gw1) (fun _ => ?_)
          replace hHeld := hHeld.trans gw1
          clear hK K
          refine rR 7 rfl (fun K hK => ?_)
          go_simp
          refine (HMk1.out _).mono ?_
          rintro e w2 ⟨rfl, gw2⟩
          refine hK.out _ _ (hHeld.trans gw2) (fun _ => ?_)
          replace hHeld := hHeld.trans gw2
          clear hK K
          refine rT 8 23 (.bool false) rfl rfl hHeld ?_
          simp only [pA, pN, sZ, sU]
          refine rT 9 24 (.bool false) rfl rfl hHeld ?_
          simp only [pA, pN, sZ, sU]
          refine rN 10 25 rfl rfl hHeld ?_
          simp only [pA, pN, sZ, sU]
          refine rN 11 26 rfl rfl hHeld ?_
          simp only [pA, pN, sZ, sU]
          refine rN 12 27 rfl rfl hHeld ?_
          simp only [pA, pN, sZ, sU]
          refine rN 13 28 rfl rfl hHeld ?_
          simp only [pA, pN, sZ, sU]
          refine rN 14 29 rfl rfl hHeld ?_
          simp only [pA, pN, sZ, sU]
          refine rN 15 30 rfl rfl hHeld ?_
          simp only [pA, pN, sZ, sU]
          refine rN 16 31 rfl rfl hHeld ?_
          simp only [pA, pN, sZ, sU]
          refine rN 17 32 rfl rfl hHeld ?_
          simp only [pA, pN, sZ, sU]
          refine rN 18 33 rfl rfl hHeld ?_
          simp only [pA, pN, sZ, sU]
          refine rT 19 34 (.bool false) rfl rfl hHeld ?_
          simp only [pA, pN, sZ, sU]
          refine rT 20 4 (.bool false) rfl rfl hHeld ?_
          simp only [pA, pN, sZ, sU]
          refine wpAnyH_done (by kernel_rfl) ?_ _
          go_wp2
          go_ret
          exact ⟨by rw [HBk.out, hb1]; rfl, HK0.out.trans ((HK.out.alloc _).trans hHeld)⟩
        · skip
          refine wp_region_held_drew (S := Kept _) (by kernel_rfl) (Kept.refl _).drew (fun hHeld => ?_)
          refine rT 0 15 (.pointer (some ⟨w.heap.size, 0, none⟩)) rfl rfl hHeld ?_
          simp only [pA, pN, sZ, sU]
          refine rY 1 16 rfl rfl (take_load_pb (by rfl) _ rfl _ rfl p HB.out.1 (fun _ h => (HPA.out).kept h)) hHeld ?_
          simp only [pA, pN, sZ, sU]
          refine rT 2 17 (.pointer (some ⟨wr.heap.size, 2, none⟩)) rfl rfl hHeld ?_
          simp only [pA, pN, sZ, sU]
          refine rC 3 18 (.int .i64 ↑(hKg k)) rfl rfl (fun _ h => kept_cell h (c2.out)) hHeld ?_
          simp only [pA, pN, sZ, sU]
          refine rT 5 20 (.pointer (some ⟨wr.heap.size, 1, none⟩)) rfl rfl hHeld ?_
          simp only [pA, pN, sZ, sU]
          refine rC 6 21 (.int .i64 (hS k)) rfl rfl (fun _ h => kept_cell h (c1.out)) hHeld ?_
          simp only [pA, pN, sZ, sU]
          refine rR 4 rfl (fun K hK => ?_)
          go_simp
          refine (HM1.out _).mono ?_
          rintro e w1 ⟨rfl, gw1⟩
          refine hK.out _ _ (hHeld.trans gw1) (fun _ => ?_)
          replace hHeld := hHeld.trans gw1
          clear hK K
          refine rR 7 rfl (fun K hK => ?_)
          go_simp
          refine (HMk1.out _).mono ?_
          rintro e w2 ⟨rfl, gw2⟩
          refine hK.out _ _ (hHeld.trans gw2) (fun _ => ?_)
          replace hHeld := hHeld.trans gw2
          clear hK K
          refine rT 8 23 (.bool true) rfl rfl hHeld ?_
          simp only [pA, pN, sZ, sU]
          refine rT 9 24 (.bool true) rfl rfl hHeld ?_
          simp only [pA, pN, sZ, sU]
          refine rT 10 25 (.pointer (some ⟨w.heap.size, 0, none⟩)) rfl rfl hHeld ?_
          simp only [pA, pN, sZ, sU]
          refine rY 11 26 rfl rfl (take_load_pb (by rfl) _ rfl _ rfl p HB.out.1 (fun _ h => (HPA.out).kept h)) hHeld ?_
          simp only [pA, pN, sZ, sU]
          refine rT 12 27 (.pointer (some ⟨wr.heap.size, 3, none⟩)) rfl rfl hHeld ?_
          simp only [pA, pN, sZ, sU]
          refine rC 13 28 (.int .i64 ↑(hRk k)) rfl rfl (fun _ h => kept_cell h (c3.out)) hHeld ?_
          simp only [pA, pN, sZ, sU]
          refine rT 15 30 (.pointer (some ⟨wr.heap.size, 1, none⟩)) rfl rfl hHeld ?_
          simp only [pA, pN, sZ, sU]
          refine rC 16 31 (.int .i64 (hS k)) rfl rfl (fun _ h => kept_cell h (c1.out)) hHeld ?_
          simp only [pA, pN, sZ, sU]
          refine rR 14 rfl (fun K hK => ?_)
          go_simp
          refine (HM2.out _).mono ?_
          rintro e w3 ⟨rfl, gw3⟩
          refine hK.out _ _ (hHeld.trans gw3) (fun _ => ?_)
          replace hHeld := hHeld.trans gw3
          clear hK K
          refine rR 17 rfl (fun K hK => ?_)
          go_simp
          refine (HMk2.out _).mono ?_
          rintro e w4 ⟨rfl, gw4⟩
          refine hK.out _ _ (hHeld.trans gw4) (fun _ => ?_)
          replace hHeld := hHeld.trans gw4
          clear hK K
          refine rT 18 33 (.bool (x2 == m2)) rfl rfl hHeld ?_
          simp only [pA, pN, sZ, sU]
          refine rT 19 34 (.bool (x2 == m2)) rfl rfl hHeld ?_
          simp only [pA, pN, sZ, sU]
          refine rT 20 4 (.bool (x2 == m2)) rfl rfl hHeld ?_
          simp only [pA, pN, sZ, sU]
          refine wpAnyH_done (by kernel_rfl) ?_ _
          go_wp2
          go_ret
          exact ⟨by rw [HBk.out, hb1]; rfl, HK0.out.trans ((HK.out.alloc _).trans hHeld)⟩
      · have he' : (hR k == r) = false := beq_eq_false_iff_ne.2 he
        have HE := Lib.hid he
        clear he
        go_wp2
        go_roundw
        case rel => exact ⟨k + 1, by omega, by go_num, fun j hj => by rcases Nat.lt_succ_iff_lt_or_eq.1 hj with h | h; exact HNo.out j h; rw [h]; exact HE.out, HK.out.alloc _⟩
        case measure => simp [intOf]; omega
    · have HF := Lib.hid (back_no p.B r (fun j hj => HNo.out j (by omega)))
      go_wp2
      go_ret
      exact ⟨by rw [HF.out]; rfl, HK0.out.trans HK.out⟩
end Go.Proofs.YtlbipjmmlobofaaGreatDoor
