/- Walks of AttackCheck and AttackBoth. -/
import Derived.Test.YtkliefojegjhhaaDoorAtL
namespace Go.Proofs.YtkliefojegjhhaaDoor
open Go.RowKit
set_option linter.unusedVariables false
set_option linter.unusedSimpArgs false

theorem check_no (B : List Int) (side : Int) (h0 : side ≠ 0) (h1 : side ≠ 1) : checkB B side = false := by
  unfold checkB kingI struckB
  rw [if_neg h0, if_neg h1, okS_no (.inl (by omega))]
  rfl
set_option maxRecDepth 100000 in
set_option maxHeartbeats 4000000 in
theorem walkAttackCheck (B : List Int) (hB : Brd B) (w : World) (hS : Steps w) :
    Calls Tryd.prog 8 #[.agg (cl B).toArray] w fun e w' => e = .returned (.bool true) ∧ Kept w w' := by
  have hz := Lib.hid (size_cl hB.1)
  have HB := Lib.hid hB
  have hbl := Lib.hid (heap_alloc_new w (.cells (cl B).toArray 40))
  have HSt := Lib.hid (hS.kept ((Kept.refl w).alloc (.cells (cl B).toArray 40)))
  have HC := Lib.hid (fun a side w hS => check_is a B hB side w hS)
  have HC2 := Lib.hid (fun a w hS => check_no B 2 (by decide) (by decide) ▸ check_is a B hB 2 w hS)
  have HC3 := Lib.hid (fun a w hS => check_no B (-1) (by decide) (by decide) ▸ check_is a B hB (-1) w hS)
  have HRC := Lib.hid (fun side h w => rcheck_is B hB side h w)
  clear hB hS
  go_enter Tryd.func8, Tryd.ntmps8
  go_wp2_with fail
  refine (attack_wake _ HSt.out).mono ?_
  rintro e w1 ⟨rfl, k1⟩
  have HK1 := Lib.hid k1
  clear k1
  go_wp2_with fail
  refine (new_is _).mono ?_
  rintro e W ⟨⟨a, rfl⟩, k2⟩
  have HK2 := Lib.hid (HK1.out.trans k2)
  have hbW := Lib.hid (HK2.out.heap hbl.out)
  have HSW := Lib.hid (HSt.out.kept HK2.out)
  clear k2
  go_wp2
  go_loopw [8] (fun t8 wr => ∃ n : Nat, n ≤ 2 ∧ t8 = .int .i64 n ∧ Kept W wr) (fun t8 _ => 2 - (intOf t8).toNat)
  case atStart => exact ⟨0, by omega, rfl, Kept.refl _⟩
  case round =>
    obtain ⟨n, hn, rfl, hK⟩ := hrel
    have HK := Lib.hid hK
    have hbr := Lib.hid (hK.heap hbW.out)
    have hSr := Lib.hid (HSW.out.kept hK)
    clear hK
    by_cases hlt : n < 2
    · have hlt' : (n : Int) < 2 := by omega
      have hcs := Lib.hid (show (n : Int) = 0 ∨ (n : Int) = 1 by omega)
      have hne : (checkB B (n : Int) != checkB B (n : Int)) = false := by simp
      go_wp2
      refine wp_region_held_drew (S := Kept _) (by kernel_rfl) (Kept.refl _).drew (fun hHeld => ?_)
      refine rg_take (i := 0) (v := (.pointer (some a))) (some 11) rfl rfl (by kernel_rfl) (by kernel_rfl) (by kernel_rfl) (fun _ _ _ h => h) (Or.inl ⟨by rfl, fun _ _ => by go_simp⟩) hHeld ?_
      simp only [Act.put, List.setIfInBounds_toArray, List.set_cons_zero, List.set_cons_succ]
      refine rg_take (i := 1) (some 12) rfl rfl (by kernel_rfl) (by kernel_rfl) (by kernel_rfl) (fun _ _ _ h => h) (take_load (by rfl) _ rfl _ rfl B HB.out.1 (fun _ h => h.heap (hbr.out))) hHeld ?_
      simp only [Act.put, List.setIfInBounds_toArray, List.set_cons_zero, List.set_cons_succ]
      refine rg_take (i := 2) (v := (.int .i64 (n : Int))) (some 13) rfl rfl (by kernel_rfl) (by kernel_rfl) (by kernel_rfl) (fun _ _ _ h => h) (Or.inl ⟨by rfl, fun _ _ => by go_simp⟩) hHeld ?_
      simp only [Act.put, List.setIfInBounds_toArray, List.set_cons_zero, List.set_cons_succ]
      refine rg_take (i := 4) (some 15) rfl rfl (by kernel_rfl) (by kernel_rfl) (by kernel_rfl) (fun _ _ _ h => h) (take_load (by rfl) _ rfl _ rfl B HB.out.1 (fun _ h => h.heap (hbr.out))) hHeld ?_
      simp only [Act.put, List.setIfInBounds_toArray, List.set_cons_zero, List.set_cons_succ]
      refine rg_take (i := 5) (v := (.int .i64 (n : Int))) (some 16) rfl rfl (by kernel_rfl) (by kernel_rfl) (by kernel_rfl) (fun _ _ _ h => h) (Or.inl ⟨by rfl, fun _ _ => by go_simp⟩) hHeld ?_
      simp only [Act.put, List.setIfInBounds_toArray, List.set_cons_zero, List.set_cons_succ]
      refine wpAnyH_ready (rs := [3]) (by kernel_rfl) (by simp) ?_
      refine AllReadyH.cons rfl (fun K hK => ?_) AllReadyH.nil
      go_simp
      refine (HC.out a (n : Int) _ (hSr.out.kept hHeld)).mono ?_
      rintro e x1 ⟨rfl, gx1⟩
      refine hK.out _ _ (hHeld.trans gx1) (fun _ => ?_)
      replace hHeld := hHeld.trans gx1
      clear hK K
      refine wpAnyH_ready (rs := [6]) (by kernel_rfl) (by simp) ?_
      refine AllReadyH.cons rfl (fun K hK => ?_) AllReadyH.nil
      go_simp
      refine (HRC.out (n : Int) hcs.out _).mono ?_
      rintro e x2 ⟨rfl, gx2⟩
      refine hK.out _ _ (hHeld.trans gx2) (fun _ => ?_)
      replace hHeld := hHeld.trans gx2
      clear hK K
      refine rg_take (i := 7) (v := (.bool false)) (some 18) rfl rfl (by kernel_rfl) (by kernel_rfl) (by kernel_rfl) (fun _ _ _ h => h) (Or.inl ⟨by rfl, fun _ _ => by go_simp⟩) hHeld ?_
      simp only [Act.put, List.setIfInBounds_toArray, List.set_cons_zero, List.set_cons_succ]
      refine wpAnyH_done (by kernel_rfl) ?_ _
      have HK3 := Lib.hid (HK.out.trans hHeld)
      clear hHeld
      go_wp2
      go_roundw
      case rel => exact ⟨n + 1, by omega, by go_num, HK3.out⟩
      case measure => simp [intOf]; omega
    · have hlt' : ¬ (n : Int) < 2 := by omega
      go_wp2_with (refine wpList_load_w (by rfl) _ rfl _ rfl _ (hbr.out) hz.out ?_)
      refine (HC2.out a _ hSr.out).mono ?_
      rintro e w3 ⟨rfl, k3⟩
      have hb3 := Lib.hid (k3.heap hbr.out)
      have hS3 := Lib.hid (hSr.out.kept k3)
      have HK3 := Lib.hid (HK.out.trans k3)
      clear k3
      go_wp2_with (refine wpList_load_w (by rfl) _ rfl _ rfl _ (hb3.out) hz.out ?_)
      refine (HC3.out a _ hS3.out).mono ?_
      rintro e w4 ⟨rfl, k4⟩
      have HK4 := Lib.hid (HK3.out.trans k4)
      clear k4
      go_wp2
      go_ret
      exact ⟨rfl, ((Kept.refl _).alloc _).trans (HK2.out.trans HK4.out)⟩
/-- 'append(v, vx...)' of numbers, by itself. -/
theorem wp_append_z {o : Oper} {a : Act} {w : World} {K : Act → World → Prop} {Q : Exit → Act → World → Prop} (s x : Operand)
    (ho : o.op = .call { callee := .builtin .append, args := #[s, x], argTypes := #[30, 30] })
    (base g : Nat) (v vx : Value) (l L : List Int) (hs : a.eval s = v) (hx : a.eval x = vx) (hown : OwnZ w base v l) (hL : LsZ w g vx L) (hlen : l.length + L.length ≤ 100000) (hbase : base ≤ w.heap.size)
    (h : ∀ v' w', OwnZ w' base v' (l ++ L) → w.grownBy w' v.ownBlock → K (a.put o.dst v') w') : o.wp Tryd.prog a w K Q := by
  obtain ⟨i0, hi0, hz0, hz1, hz2⟩ := partsZ infoZ
  rcases hL with ⟨e, h0⟩ | ⟨off, cap, e, hnc, hcm, hcell⟩
  · subst h0
    rw [e] at hx
    have hrun := run_append_owned_none (P := Tryd.prog) (w := w) base 30 o.type 3 i0 1 Tryd.underlying30 hi0 v _ _ hown
    unfold Oper.wp
    simp [execOp, ho, resolve, invoke, builtin, hs, hx, hrun, Result.andThen]
    exact h v w (by simpa using hown) ⟨rfl, rfl, rfl, Nat.le_refl _, fun _ _ _ => rfl⟩
  · rw [e] at hx
    refine wp_append_own w s x 30 ho base 3 i0 (.int .i64 0) 1 8 Tryd.underlying30 hi0 hz0 hz1 hz2 rfl (by decide) v _ _ hs hown ⟨g, off, none⟩ L.length cap (zl L) hx (by simp [zl]) ?_ ?_ ?_ ?_ hbase ?_
    · intro j u hu
      rw [show (⟨g, off, none⟩ : Addr).add j = ⟨g, off + j, none⟩ by unfold Addr.add; split <;> simp_all]
      unfold zl at hu
      rw [List.getElem?_map] at hu
      cases hq : L[j]? with
      | none => rw [hq] at hu; cases hu
      | some y =>
        rw [hq] at hu
        have : u = .int .i64 y := by simpa using hu.symm
        rw [this]
        exact hcell j y hq
    · intro u hu
      unfold zl at hu
      obtain ⟨y, _, rfl⟩ := List.mem_map.1 hu
      rfl
    · unfold maxLen; omega
    · omega
    · intro v' w' h1 h2 _
      refine h v' w' ?_ h2
      unfold OwnZ
      rw [zl_app, List.length_append]
      exact h1
def byL (B : List Int) (s side : Int) : List Int := if okS s && rightB B then zn (byN B s side) else []
def strL (B : List Int) (s : Int) : List Int := if okS s && rightB B then zn (strikesN B s) else []
theorem byL_len (B : List Int) (s side : Int) : (byL B s side).length ≤ 64 := by
  unfold byL
  split
  · exact zn_len _ 64
  · simp
theorem mem_zn {p : Nat → Bool} {x : Int} : x ∈ zn (sel p 64) ↔ ∃ n : Nat, n < 64 ∧ x = (n : Int) ∧ p n = true := by
  unfold zn sel
  simp only [List.mem_map, List.mem_filter, List.mem_range]
  constructor
  · rintro ⟨n, ⟨a, c⟩, b⟩; exact ⟨n, a, b.symm, c⟩
  · rintro ⟨n, a, b, c⟩; exact ⟨n, ⟨a, c⟩, b.symm⟩
theorem sideI_is (x : Int) : manB x = true → sideI x = 0 ∨ sideI x = 1 := by
  intro h
  unfold sideI
  rw [if_pos h]
  split <;> simp
theorem strike_man {B : List Int} {s x : Int} (h : x ∈ strikeL B s) : manB (bAt B s) = true := by
  obtain ⟨way, i, _, hr, _⟩ := (mem_strike B s x).1 h
  cases hm : manB (bAt B s)
  · unfold reachB at hr
    rw [goesB_none ((manB_not _).1 hm), Bool.false_and] at hr
    cases hr
  · rfl
/-- A man strikes just the squares that tell so of it. -/
theorem both_is (B : List Int) (s : Int) (t : Nat) (ht : t < 64) : hasB (byL B (t : Int) 0 ++ byL B (t : Int) 1) s = hasB (strL B s) (t : Int) := by
  unfold hasB
  rw [Bool.eq_iff_iff]
  simp only [List.contains_iff_mem, List.mem_append]
  unfold byL strL
  rw [okS_yes (s := (t : Int)) (by omega) (by omega), Bool.true_and]
  cases hr : rightB B
  · simp
  · rw [if_pos rfl, if_pos rfl, Bool.and_true]
    unfold byN strikesN
    constructor
    · intro h
      have : ∃ n : Nat, n < 64 ∧ s = (n : Int) ∧ hitB B (n : Int) (t : Int) = true := by
        rcases h with h | h
        all_goals
          obtain ⟨n, h1, h2, h3⟩ := mem_zn.1 h
          rw [Bool.and_eq_true] at h3
          exact ⟨n, h1, h2, h3.2⟩
      obtain ⟨n, h1, rfl, h3⟩ := this
      rw [okS_yes (by omega) (by omega), if_pos rfl]
      exact mem_zn.2 ⟨t, ht, rfl, h3⟩
    · intro h
      cases ho : okS s
      · rw [ho] at h; simp at h
      · rw [ho, if_pos rfl] at h
        obtain ⟨h0, h1⟩ := okS_iff.1 ho
        obtain ⟨n, rfl⟩ := Int.eq_ofNat_of_zero_le h0
        obtain ⟨m, _, e, hh⟩ := mem_zn.1 h
        have hm := strike_man ((hitB_iff B _ _).1 hh)
        rw [← e] at hh
        rcases sideI_is _ hm with hs | hs
        · left; exact mem_zn.2 ⟨n, by omega, rfl, by rw [Bool.and_eq_true, beq_iff_eq]; exact ⟨hs, hh⟩⟩
        · right; exact mem_zn.2 ⟨n, by omega, rfl, by rw [Bool.and_eq_true, beq_iff_eq]; exact ⟨hs, hh⟩⟩
set_option maxRecDepth 100000 in
set_option maxHeartbeats 4000000 in
theorem walkAttackBoth (B : List Int) (hB : Brd B) (s : Int) (w1 : (Lit.int .i64 s).wf = true) (w : World) (hS : Steps w) :
    Calls Tryd.prog 10 #[.agg (cl B).toArray, .int .i64 s] w fun e w' => e = .returned (.bool true) ∧ Kept w w' := by
  have hz := Lib.hid (size_cl hB.1)
  have HB := Lib.hid hB
  have hbl := Lib.hid (heap_alloc_new w (.cells (cl B).toArray 40))
  have HSt := Lib.hid (hS.kept ((Kept.refl w).alloc (.cells (cl B).toArray 40)))
  have HStr := Lib.hid (show ∀ a w, Steps w → Calls Tryd.prog _ _ w (NewZ w (strL B s)) from fun a w hS => strikes_is a B hB s w hS)
  have HBy := Lib.hid (show ∀ a (t side : Int) w, Steps w → Calls Tryd.prog _ _ w (NewZ w (byL B t side)) from fun a t side w hS => by_is a B hB t side w hS)
  have HBoth := Lib.hid (both_is B s)
  have HByLen := Lib.hid (byL_len B)
  clear hB hS w1
  generalize strL B s = LS at *
  go_enter Tryd.func10, Tryd.ntmps10
  go_wp2_with fail
  refine (attack_wake _ HSt.out).mono ?_
  rintro e w1 ⟨rfl, k1⟩
  have HK1 := Lib.hid k1
  clear k1
  go_wp2_with fail
  refine (new_is _).mono ?_
  rintro e w2 ⟨⟨a, rfl⟩, k2⟩
  have HK2 := Lib.hid (HK1.out.trans k2)
  have HS2 := Lib.hid (HSt.out.kept HK2.out)
  clear k2
  go_wp2_with (refine wpList_load_w (by rfl) _ rfl _ rfl _ (HK2.out.heap hbl.out) hz.out ?_)
  refine (HStr.out a _ HS2.out).mono ?_
  rintro e W ⟨v3, rfl, ho3, k3⟩
  obtain ⟨a3, c3, rfl⟩ := ho3.slice
  have HO3 := Lib.hid ho3
  have HK3 := Lib.hid (HK2.out.trans k3)
  have hbW := Lib.hid (HK3.out.heap hbl.out)
  have HSW := Lib.hid (HSt.out.kept HK3.out)
  clear ho3 k3
  generalize hNN : LS.length = N at *
  have HNN := Lib.hid hNN
  clear hNN
  go_wp2
  go_loopw [16] (fun t16 wr => ∃ n : Nat, n ≤ 64 ∧ t16 = .int .i64 n ∧ Kept W wr) (fun t16 _ => 64 - (intOf t16).toNat)
  case atStart => exact ⟨0, by omega, rfl, Kept.refl _⟩
  case round =>
    obtain ⟨n, hn, rfl, hK⟩ := hrel
    have HK := Lib.hid hK
    have hbr := Lib.hid (hK.heap hbW.out)
    have hSr := Lib.hid (HSW.out.kept hK)
    clear hK
    by_cases hlt : n < 64
    · have hlt' : (n : Int) < 64 := by omega
      have hB1 := HBoth.out n hlt
      have hl0 := HByLen.out (n : Int) 0
      have hl1 := HByLen.out (n : Int) 1
      have HBy0 := Lib.hid (fun w h => HBy.out a (n : Int) 0 w h)
      have HBy1 := Lib.hid (fun w h => HBy.out a (n : Int) 1 w h)
      generalize byL B (n : Int) 0 = L0 at *
      generalize byL B (n : Int) 1 = L1 at *
      go_wp2
      refine wp_region_held_drew (S := Kept _) (by kernel_rfl) (Kept.refl _).drew (fun hHeld => ?_)
      refine rg_take (i := 0) (v := (.pointer (some a))) (some 19) rfl rfl (by kernel_rfl) (by kernel_rfl) (by kernel_rfl) (fun _ _ _ h => h) (Or.inl ⟨by rfl, fun _ _ => by go_simp⟩) hHeld ?_
      simp only [Act.put, List.setIfInBounds_toArray, List.set_cons_zero, List.set_cons_succ]
      refine rg_take (i := 1) (some 20) rfl rfl (by kernel_rfl) (by kernel_rfl) (by kernel_rfl) (fun _ _ _ h => h) (take_load (by rfl) _ rfl _ rfl B HB.out.1 (fun _ h => h.heap (hbr.out))) hHeld ?_
      simp only [Act.put, List.setIfInBounds_toArray, List.set_cons_zero, List.set_cons_succ]
      refine rg_take (i := 2) (v := (.int .i64 (n : Int))) (some 21) rfl rfl (by kernel_rfl) (by kernel_rfl) (by kernel_rfl) (fun _ _ _ h => h) (Or.inl ⟨by rfl, fun _ _ => by go_simp⟩) hHeld ?_
      simp only [Act.put, List.setIfInBounds_toArray, List.set_cons_zero, List.set_cons_succ]
      refine rg_take (i := 4) (v := (.pointer (some a))) (some 23) rfl rfl (by kernel_rfl) (by kernel_rfl) (by kernel_rfl) (fun _ _ _ h => h) (Or.inl ⟨by rfl, fun _ _ => by go_simp⟩) hHeld ?_
      simp only [Act.put, List.setIfInBounds_toArray, List.set_cons_zero, List.set_cons_succ]
      refine rg_take (i := 5) (some 24) rfl rfl (by kernel_rfl) (by kernel_rfl) (by kernel_rfl) (fun _ _ _ h => h) (take_load (by rfl) _ rfl _ rfl B HB.out.1 (fun _ h => h.heap (hbr.out))) hHeld ?_
      simp only [Act.put, List.setIfInBounds_toArray, List.set_cons_zero, List.set_cons_succ]
      refine rg_take (i := 6) (v := (.int .i64 (n : Int))) (some 25) rfl rfl (by kernel_rfl) (by kernel_rfl) (by kernel_rfl) (fun _ _ _ h => h) (Or.inl ⟨by rfl, fun _ _ => by go_simp⟩) hHeld ?_
      simp only [Act.put, List.setIfInBounds_toArray, List.set_cons_zero, List.set_cons_succ]
      refine wpAnyH_ready (rs := [3]) (by kernel_rfl) (by simp) ?_
      refine AllReadyH.cons rfl (fun K hK => ?_) AllReadyH.nil
      go_simp
      refine (HBy0.out _ (hSr.out.kept hHeld)).mono ?_
      rintro e x1 ⟨vx1, rfl, hox1, gx1⟩
      obtain ⟨ax1, cx1, rfl⟩ := hox1.slice
      have HOx1 := Lib.hid hox1
      clear hox1
      refine hK.out _ _ (hHeld.trans gx1) (fun _ => ?_)
      replace hHeld := hHeld.trans gx1
      clear hK K
      refine wpAnyH_ready (rs := [7]) (by kernel_rfl) (by simp) ?_
      refine AllReadyH.cons rfl (fun K hK => ?_) AllReadyH.nil
      go_simp
      refine (HBy1.out _ (hSr.out.kept hHeld)).mono ?_
      rintro e x2 ⟨vx2, rfl, hox2, gx2⟩
      obtain ⟨ax2, cx2, rfl⟩ := hox2.slice
      have HOx2 := Lib.hid hox2
      clear hox2
      refine hK.out _ _ (hHeld.trans gx2) (fun _ => ?_)
      replace hHeld := hHeld.trans gx2
      clear hK K
      have HOa := Lib.hid ((HOx1.out.kept gx2).low (Kept.drew (Kept.refl wr)).size)
      obtain ⟨gg2, hg2, _⟩ := HOx2.out.ls
      have hsx := hHeld.size
      refine wpAnyH_ready (rs := [8]) (by kernel_rfl) (by simp) ?_
      refine AllReadyH.cons rfl (fun K hK => ?_) AllReadyH.nil
      rw [if_pos (by rfl)]
      refine wp_append_z _ _ rfl wr.heap.size gg2 _ _ L0 L1 rfl rfl HOa.out hg2 (by omega) hsx ?_
      intro v' w5 ho5 hg5
      have hK5 := HOa.out.grown hHeld (Nat.le_refl _) hg5
      obtain ⟨a5, c5, rfl⟩ := ho5.slice
      refine hK.out _ _ hK5 (fun _ => ?_)
      have HO5 := Lib.hid ho5
      replace hHeld := hK5
      clear hK K hg5 ho5 hK5 gx1 gx2 hg2
      simp only [Act.put, List.setIfInBounds_toArray, List.set_cons_zero, List.set_cons_succ]
      generalize hN5 : (L0 ++ L1).length = N5 at *
      refine rg_take (i := 9) (v := (.slice a5 N5 c5)) (some 8) rfl rfl (by kernel_rfl) (by kernel_rfl) (by kernel_rfl) (fun _ _ _ h => h) (Or.inl ⟨by rfl, fun _ _ => by go_simp⟩) hHeld ?_
      simp only [Act.put, List.setIfInBounds_toArray, List.set_cons_zero, List.set_cons_succ]
      refine wpAnyH_done (by kernel_rfl) ?_ _
      obtain ⟨gg5, hg5, _⟩ := HO5.out.ls
      obtain ⟨gg3, hg3, _⟩ := (HO3.out.kept (HK.out.trans hHeld)).ls
      have HG5 := Lib.hid hg5
      have HG3 := Lib.hid hg3
      have HK5 := Lib.hid (HK.out.trans hHeld)
      clear hHeld hg5 hg3 hN5
      go_wp2_with fail
      refine (has_is gg5 _ (L0 ++ L1) s _ HG5.out).mono ?_
      rintro e w' ⟨rfl, rfl⟩
      go_wp2_with fail
      refine (has_is gg3 _ LS (n : Int) _ HG3.out).mono ?_
      rintro e w' ⟨rfl, rfl⟩
      have hne : (hasB LS (n : Int) != hasB LS (n : Int)) = false := by simp
      go_wp2
      go_roundw
      case rel => exact ⟨n + 1, by omega, by go_num, HK5.out⟩
      case measure => simp [intOf]; omega
    · have hlt' : ¬ (n : Int) < 64 := by omega
      go_wp2
      go_ret
      exact ⟨rfl, ((Kept.refl _).alloc _).trans (HK3.out.trans HK.out)⟩
end Go.Proofs.YtkliefojegjhhaaDoor
