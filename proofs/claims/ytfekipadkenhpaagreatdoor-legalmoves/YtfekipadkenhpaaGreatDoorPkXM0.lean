/- MvH · GeM · LeJ · LeM: my texts, in their order. -/
import Derived.Test.YtfekipadkenhpaaGreatDoorPkXMPRFT0
import Derived.Test.YtfekipadkenhpaaGreatDoorPkXMPRF0
import Derived.Test.YtfekipadkenhpaaGreatDoorPkXMFT0
import Derived.Test.YtfekipadkenhpaaGreatDoorPkXMPR0
import Derived.Test.YtfekipadkenhpaaGreatDoorPkXMRT0
import Derived.Test.YtfekipadkenhpaaGreatDoorPkXMF0
import Derived.Test.YtfekipadkenhpaaGreatDoorPkA
import Derived.Test.YtfekipadkenhpaaGreatDoorPkB
import Derived.Test.YtfekipadkenhpaaGreatDoorPkC
import Derived.Test.YtfekipadkenhpaaGreatDoorPkD
import Derived.Test.YtfekipadkenhpaaGreatDoorPkE
import Derived.Test.YtfekipadkenhpaaGreatDoorPkF
import Derived.Test.YtfekipadkenhpaaGreatDoorPkGa
import Derived.Test.YtfekipadkenhpaaGreatDoorPkGb
import Derived.Test.YtfekipadkenhpaaGreatDoorPkGc
import Derived.Test.YtfekipadkenhpaaGreatDoorPkGd
import Derived.Test.YtfekipadkenhpaaGreatDoorPkGe
import Derived.Test.YtfekipadkenhpaaGreatDoorPkGf
import Derived.Test.YtfekipadkenhpaaGreatDoorPkGg
import Derived.Test.YtfekipadkenhpaaGreatDoorPkGh
import Derived.Test.YtfekipadkenhpaaGreatDoorPkGj
import Derived.Test.YtfekipadkenhpaaGreatDoorPkH
import Derived.Test.YtfekipadkenhpaaGreatDoorPkI
import Derived.Test.YtfekipadkenhpaaGreatDoorPkJ
import Derived.Test.YtfekipadkenhpaaGreatDoorPkK
import Derived.Test.YtfekipadkenhpaaGreatDoorPkL
import Derived.Test.YtfekipadkenhpaaGreatDoorPkLa
import Derived.Test.YtfekipadkenhpaaGreatDoorPkLd
import Derived.Test.YtfekipadkenhpaaGreatDoorPkLe
import Derived.Test.YtfekipadkenhpaaGreatDoorPkLf
import Derived.Test.YtfekipadkenhpaaGreatDoorPkLg
import Derived.Test.YtfekipadkenhpaaGreatDoorPkLh
import Derived.Test.YtfekipadkenhpaaGreatDoorPkLk
import Derived.Test.YtfekipadkenhpaaGreatDoorPkLw
import Derived.Test.YtfekipadkenhpaaGreatDoorPkM
import Derived.Test.YtfekipadkenhpaaGreatDoorPkQ
import Derived.Test.YtfekipadkenhpaaGreatDoorPkR
namespace Go.Proofs.YtfekipadkenhpaaGreatDoor
open Go.RowKit
set_option linter.unusedVariables false
set_option linter.unusedSimpArgs false
set_option maxRecDepth 100000
theorem run_neq_mv (a b : Mv) (w : World) : (binOp .neq 36 (.agg (ml a).toArray) (.agg (ml b).toArray)).run Tryz.prog w = .ok (.bool (!beqM a b)) w := by
 simp only [binOp, Sem.run_bind, Op.equal, Op.maxDepth, run_equal_mv, Result.andThen_ok, Sem.run_pure]
theorem take_neq_mv {ops : Array Oper} {S : World → Prop} {op : Oper} {ac : Act} {b : Bool} (hw : Region.wanted op (yielded ops ac.tmps) = true) (x y : Operand) (ty : TypeId) (ho : op.op = .binOp .neq 36 x y ty)
  (p q : Mv) (hx : ac.eval x = .agg (ml p).toArray) (hy : ac.eval y = .agg (ml q).toArray) (h : (!beqM p q) = b) : YieldsIf Tryz.prog ops S op (.bool b) ac :=
 .inl ⟨hw, fun w _ => by
  unfold execOp
  simp only [ho, hx, hy, Sem.run_bind, run_eqGuard_agg w _ _ _ _ _ _ eqGuardM, run_neq_mv, Result.andThen_ok, Sem.run_pure, h]⟩
set_option maxHeartbeats 2000000 in
theorem sameM_yes (g1 g2 : Nat) (v1 v2 : Value) (l : List Mv) (w : World) (h1 : LsM w g1 v1 l) (h2 : LsM w g2 v2 l) :
  Calls Tryz.prog 18 #[v1, v2] w fun e w' => e = .returned (.bool true) ∧ Kept w w' := by
 by_cases hl : 0 < l.length
 ·obtain ⟨o1, c1, rfl, a1, b1, k1⟩ := h1.full hl
  obtain ⟨o2, c2, rfl, a2, b2, k2⟩ := h2.full hl
  have K1 := Lib.hid k1
  have K2 := Lib.hid k2
  generalize hn : l.length = n at *
  have HN := Lib.hid hn
  have hm : n ≤ maxLen := by omega
  unfold maxLen at hm
  clear k1 k2 h1 h2 hn b1 b2
  go_enter Tryz.func18, Tryz.ntmps18
  go_wp2
  go_loopw [5] (fun t5 wr => ∃ k : Nat, k ≤ n ∧ t5 = .int .i64 k ∧ Kept w wr) (fun t5 _ => n - (intOf t5).toNat)
  case atStart => exact ⟨0, Nat.zero_le _, rfl, Kept.refl _⟩
  case round =>
   obtain ⟨k, hk, rfl, hK⟩ := hrel
   have HK := Lib.hid hK
   by_cases hlt : k < n
   ·have hlt' : (k : Int) < (n : Int) := by omega
    obtain ⟨x, hx⟩ : ∃ x, l[k]? = some x := ⟨_, List.getElem?_eq_getElem (by have := HN.out; omega)⟩
    have HR1 := Lib.hid (range_i (range_kept K1.out hK) hx)
    have HR2 := Lib.hid (range_i (range_kept K2.out hK) hx)
    have Hb : Hid ((!beqM x x) = false) := by show _ = _; rw [beqM_refl]; rfl
    clear hx hK
    go_wp2
    refine wp_region_held_drew (S := Kept _) (by kernel_rfl) (Kept.refl _).drew (fun hHeld => ?_)
    refine rT 0 17 (.slice (some ⟨g1, o1, none⟩) n c1) rfl rfl hHeld ?_
    simp only [pA, pN, sZ, sU]
    refine rT 1 18 (.int .i64 (k : Int)) rfl rfl hHeld ?_
    simp only [pA, pN, sZ, sU]
    refine rT 2 19 (.pointer (some ⟨g1, o1 + k * 3, none⟩)) rfl rfl hHeld ?_
    simp only [pA, pN, sZ, sU]
    refine rY 3 20 rfl rfl (take_load_mvi (by rfl) _ rfl g1 (o1 + k * 3) rfl x (fun _ h => range_kept (HR1.out) h)) hHeld ?_
    simp only [pA, pN, sZ, sU]
    refine rT 4 21 (.slice (some ⟨g2, o2, none⟩) n c2) rfl rfl hHeld ?_
    simp only [pA, pN, sZ, sU]
    refine rT 5 22 (.int .i64 (k : Int)) rfl rfl hHeld ?_
    simp only [pA, pN, sZ, sU]
    refine rT 6 23 (.pointer (some ⟨g2, o2 + k * 3, none⟩)) rfl rfl hHeld ?_
    simp only [pA, pN, sZ, sU]
    refine rY 7 24 rfl rfl (take_load_mvi (by rfl) _ rfl g2 (o2 + k * 3) rfl x (fun _ h => range_kept (HR2.out) h)) hHeld ?_
    simp only [pA, pN, sZ, sU]
    refine rY 8 25 rfl rfl (take_neq_mv (by rfl) _ _ _ rfl x x rfl rfl (Hb.out)) hHeld ?_
    simp only [pA, pN, sZ, sU]
    refine wpAnyH_done (by kernel_rfl) ?_ _
    have HK2 := Lib.hid (HK.out.trans hHeld)
    clear hHeld
    go_wp2
    go_roundw
    case rel => exact ⟨k + 1, by omega, by go_num, HK2.out⟩
    case measure => simp [intOf]; omega
   ·clear hK
    go_wp2
    go_ret
    exact ⟨rfl, HK.out⟩
 ·have h0 : l = [] := List.eq_nil_of_length_eq_zero (by omega)
  subst h0
  obtain ⟨a1, c1, rfl⟩ := h1.slice
  obtain ⟨a2, c2, rfl⟩ := h2.slice
  go_enter Tryz.func18, Tryz.ntmps18
  go_wp2
  go_loopw [5] (fun t5 wr => t5 = .int .i64 0 ∧ wr = w) (fun _ _ => 0)
  case atStart => exact ⟨rfl, rfl⟩
  case round =>
   obtain ⟨rfl, rfl⟩ := hrel
   go_wp2
   go_ret
   exact ⟨rfl, Kept.refl _⟩
/-- Who is neither side is never in check. -/
theorem check_off {B : List Int} {s : Int} (h0 : s ≠ 0) (h1 : s ≠ 1) : checkB B s = false := by
 unfold checkB kingI struckB
 rw [if_neg h0, if_neg h1, okS_no (.inl (by decide))]
 rfl
theorem rcheck_off (B : List Int) (hB : Brd B) (s : Int) (h0 : s ≠ 0) (h1 : s ≠ 1) (w : World) :
  Calls Tryz.prog 13 #[.agg (cl B).toArray, .int .i64 s] w fun e w' => e = .returned (.bool false) ∧ Kept w w' := by
 have hz := Lib.hid (size_cl hB.1)
 have hbl := Lib.hid (heap_alloc_new w (.cells (cl B).toArray 24))
 have HKg := Lib.hid (rking_is B hB s)
 have e : kingI B s = -1 := by unfold kingI; rw [if_neg h0, if_neg h1]
 rw [e] at HKg
 clear hB e h0 h1
 go_enter Tryz.func13, Tryz.ntmps13
 go_wp2_with (refine wpList_load_w (by rfl) _ rfl _ rfl _ (hbl.out) hz.out ?_)
 refine (HKg.out _).mono ?_
 rintro e w1 ⟨rfl, k1⟩
 have HK := Lib.hid (((Kept.refl w).alloc _).trans k1)
 clear k1
 go_wp2
 go_ret
 exact ⟨rfl, HK.out⟩
theorem rcheck_any (B : List Int) (hB : Brd B) (s : Int) (w : World) :
  Calls Tryz.prog 13 #[.agg (cl B).toArray, .int .i64 s] w fun e w' => e = .returned (.bool (checkB B s)) ∧ Kept w w' := by
 by_cases h : s = 0 ∨ s = 1
 ·exact rcheck_is B hB s h w
 ·rw [check_off (fun e => h (.inl e)) (fun e => h (.inr e))]
  exact rcheck_off B hB s (fun e => h (.inl e)) (fun e => h (.inr e)) w
set_option maxHeartbeats 4000000 in
theorem legalMoves_not (p : Ps) (hB : Brd p.B) (hr : pwI p ≠ 0) (w : World) (hT : TabG w) :
  Calls Tryz.prog 3 #[.agg (pl p).toArray] w fun e w' => e = .returned (.bool true) ∧ Kept w w' := by
 have HP := Lib.hid (PAt.new w hB.1)
 have HK0 := Lib.hid ((Kept.refl w).alloc (.cells (pl p).toArray 26))
 have HT := Lib.hid (hT.kept HK0.out)
 have hpl : Hid (p.B.length = 64) := hB.1
 have hL : legR p = [] := by unfold legR; rw [if_neg hr]
 have hS : stuckB p = false := by unfold stuckB; rw [show (pwI p == 0) = false from beq_eq_false_iff_ne.2 hr]; rfl
 have HMv := Lib.hid (fun r g a b w hT hR => moves_is r g a b p hB w hT hR)
 have HMt := Lib.hid (fun r g a b w hT hR => mate_is r g a b p hB w hT hR)
 have HSt := Lib.hid (fun r g a b w hT hR => stale_is r g a b p hB w hT hR)
 have HCk := Lib.hid (fun r g a b w hS hR => rchk_is r g a b p hB w hS hR)
 have HRc := Lib.hid (fun w => rcheck_any p.B hB p.t w)
 have HRr := Lib.hid (fun w => rrightP_is p hB w)
 rw [hL] at HMv
 rw [hS, Bool.and_false] at HMt HSt
 rw [show (pwI p == 0) = false from beq_eq_false_iff_ne.2 hr] at HRr
 have hbb : (checkB p.B p.t != checkB p.B p.t) = false := by simp
 generalize checkB p.B p.t = cb at *
 clear hB hT hr hL hS
 go_enter Tryz.func3, Tryz.ntmps3
 go_wp2_with fail
 refine (legal_wake _ HT.out).mono ?_
 rintro e w1 ⟨rfl, k1⟩
 have HK1 := Lib.hid (HK0.out.trans k1)
 have HP1 := Lib.hid (HP.out.kept k1)
 have HT1 := Lib.hid (HT.out.kept k1)
 clear k1
 go_wp2_with fail
 refine (rnew_is _).mono ?_
 rintro e w2 ⟨r, g, a, b, rfl, hR, k2⟩
 have HK2 := Lib.hid (HK1.out.trans k2)
 have HP2 := Lib.hid (HP1.out.kept k2)
 have HT2 := Lib.hid (HT1.out.kept k2)
 have HR2 := Lib.hid hR
 clear k2 hR
 go_wp2_with (first | (refine wpList_load_ps (by rfl) _ rfl _ rfl _ (HP2.out) ?_) | (refine wpList_load_pb (by rfl) _ rfl _ rfl _ (HP2.out) ?_))
 refine (HMv.out r g a b _ HT2.out HR2.out).mono ?_
 rintro e w3 ⟨v, gl, rfl, hls, k3⟩
 obtain ⟨av, cv, rfl⟩ := hls.slice
 have HK3 := Lib.hid (HK2.out.trans k3)
 have HP3 := Lib.hid (HP2.out.kept k3)
 have HT3 := Lib.hid (HT2.out.kept k3)
 have HR3 := Lib.hid (HR2.out.kept k3)
 clear k3 hls
 go_wp2
 refine wp_region_held_drew (S := Kept _) (by kernel_rfl) (Kept.refl _).drew (fun hHeld => ?_)
 refine rT 0 12 (.pointer (some ⟨r, 0, none⟩)) rfl rfl hHeld ?_
 simp only [Act.put, sA, sZ, sU]
 refine rY 1 13 rfl rfl (take_load_ps (by rfl) _ rfl _ rfl p hpl.out (fun _ h => (HP3.out).kept h)) hHeld ?_
 simp only [pA, pN, sZ, sU]
 refine rT 3 15 (.pointer (some ⟨w.heap.size, 0, none⟩)) rfl rfl hHeld ?_
 simp only [pA, pN, sZ, sU]
 refine rY 4 16 rfl rfl (take_load_pb (by rfl) _ rfl _ rfl p hpl.out (fun _ h => (HP3.out).kept h)) hHeld ?_
 simp only [pA, pN, sZ, sU]
 refine rT 5 17 (.pointer (some ⟨w.heap.size, 64, none⟩)) rfl rfl hHeld ?_
 simp only [pA, pN, sZ, sU]
 refine rC 6 18 (.int .i64 p.t) rfl rfl (fun _ h => kept_cell h (HP3.out.turn)) hHeld ?_
 simp only [pA, pN, sZ, sU]
 refine rR 2 rfl (fun K hK => ?_)
 go_simp
 refine (HCk.out r g a b _ (HT3.out.tabm.tabs.steps.kept hHeld) (HR3.out.kept hHeld)).mono ?_
 rintro e x1 ⟨rfl, gx1⟩
 refine hK.out _ _ (hHeld.trans gx1) (fun _ => ?_)
 replace hHeld := hHeld.trans gx1
 clear hK K
 refine rR 7 rfl (fun K hK => ?_)
 go_simp
 refine (HRc.out _).mono ?_
 rintro e x2 ⟨rfl, gx2⟩
 refine hK.out _ _ (hHeld.trans gx2) (fun _ => ?_)
 replace hHeld := hHeld.trans gx2
 clear hK K
 refine rT 8 20 (.bool false) rfl rfl hHeld ?_
 simp only [pA, pN, sZ, sU]
 refine wpAnyH_done (by kernel_rfl) ?_ _
 have HK4 := Lib.hid (HK3.out.trans hHeld)
 have HP4 := Lib.hid (HP3.out.kept hHeld)
 have HT4 := Lib.hid (HT3.out.kept hHeld)
 have HR4 := Lib.hid (HR3.out.kept hHeld)
 clear hHeld gx1 gx2 hbb
 go_wp2_with (first | (refine wpList_load_ps (by rfl) _ rfl _ rfl _ (HP4.out) ?_) | (refine wpList_load_pb (by rfl) _ rfl _ rfl _ (HP4.out) ?_))
 refine (HRr.out _).mono ?_
 rintro e w5 ⟨rfl, k5⟩
 have HK5 := Lib.hid (HK4.out.trans k5)
 have HP5 := Lib.hid (HP4.out.kept k5)
 have HT5 := Lib.hid (HT4.out.kept k5)
 have HR5 := Lib.hid (HR4.out.kept k5)
 clear k5
 go_wp2_with (first | (refine wpList_load_ps (by rfl) _ rfl _ rfl _ (HP5.out) ?_) | (refine wpList_load_pb (by rfl) _ rfl _ rfl _ (HP5.out) ?_))
 refine (HMt.out r g a b _ HT5.out HR5.out).mono ?_
 rintro e w6 ⟨rfl, k6⟩
 have HK6 := Lib.hid (HK5.out.trans k6)
 have HP6 := Lib.hid (HP5.out.kept k6)
 have HT6 := Lib.hid (HT5.out.kept k6)
 have HR6 := Lib.hid (HR5.out.kept k6)
 clear k6
 go_wp2_with (first | (refine wpList_load_ps (by rfl) _ rfl _ rfl _ (HP6.out) ?_) | (refine wpList_load_pb (by rfl) _ rfl _ rfl _ (HP6.out) ?_))
 refine (HSt.out r g a b _ HT6.out HR6.out).mono ?_
 rintro e w7 ⟨rfl, k7⟩
 have HK7 := Lib.hid (HK6.out.trans k7)
 clear k7
 go_wp2
 go_ret
 exact ⟨rfl, HK7.out⟩
set_option maxHeartbeats 8000000 in
theorem legalMoves_true (p : Ps) (hB : Brd p.B) (hr : pwI p = 0) (hc : checkB p.B p.t = true) (w : World) (hT : TabG w) :
  Calls Tryz.prog 3 #[.agg (pl p).toArray] w fun e w' => e = .returned (.bool true) ∧ Kept w w' := by
 have HP := Lib.hid (PAt.new w hB.1)
 have HK0 := Lib.hid ((Kept.refl w).alloc (.cells (pl p).toArray 26))
 have HT := Lib.hid (hT.kept HK0.out)
 have hpl : Hid (p.B.length = 64) := hB.1
 have hL : legR p = legL p := by unfold legR; rw [if_pos hr]
 have hS : stuckB p = (((legL p).length : Int) == 0) := by rw [stuck_len p hr, Bool.eq_iff_iff, beq_iff_eq, beq_iff_eq]; omega
 have HMv := Lib.hid (fun r g a b w hT hR => moves_is r g a b p hB w hT hR)
 have HMt := Lib.hid (fun r g a b w hT hR => mate_is r g a b p hB w hT hR)
 have HSt := Lib.hid (fun r g a b w hT hR => stale_is r g a b p hB w hT hR)
 have HCk := Lib.hid (fun r g a b w hS hR => rchk_is r g a b p hB w hS hR)
 have HRc := Lib.hid (fun w => rcheck_any p.B hB p.t w)
 have HRr := Lib.hid (fun w => rrightP_is p hB w)
 have HRm := Lib.hid (fun w => rmoves_is p hB hr w)
 rw [hL] at HMv
 rw [hc, hS] at HMt HSt
 simp only [Bool.true_and, Bool.false_and, Bool.not_true, Bool.not_false] at HMt HSt
 rw [hc] at HCk HRc
 rw [show (pwI p == 0) = true from beq_iff_eq.2 hr] at HRr
 generalize legL p = L at *
 obtain ⟨N, hN⟩ : ∃ n, L.length = n := ⟨_, rfl⟩
 try rw [hN] at HMt
 try rw [hN] at HSt
 have HN := Lib.hid hN
 clear hB hT hr hL hS hc hN
 go_enter Tryz.func3, Tryz.ntmps3
 go_wp2_with fail
 refine (legal_wake _ HT.out).mono ?_
 rintro e w1 ⟨rfl, k1⟩
 have HK1 := Lib.hid (HK0.out.trans k1)
 have HP1 := Lib.hid (HP.out.kept k1)
 have HT1 := Lib.hid (HT.out.kept k1)
 clear k1
 go_wp2_with fail
 refine (rnew_is _).mono ?_
 rintro e w2 ⟨r, g, a, b, rfl, hR, k2⟩
 have HK2 := Lib.hid (HK1.out.trans k2)
 have HP2 := Lib.hid (HP1.out.kept k2)
 have HT2 := Lib.hid (HT1.out.kept k2)
 have HR2 := Lib.hid hR
 clear k2 hR
 go_wp2_with (first | (refine wpList_load_ps (by rfl) _ rfl _ rfl _ (HP2.out) ?_) | (refine wpList_load_pb (by rfl) _ rfl _ rfl _ (HP2.out) ?_))
 refine (HMv.out r g a b _ HT2.out HR2.out).mono ?_
 rintro e w3 ⟨v, gl, rfl, hls, k3⟩
 obtain ⟨av, cv, rfl⟩ := hls.slice
 have HK3 := Lib.hid (HK2.out.trans k3)
 have HP3 := Lib.hid (HP2.out.kept k3)
 have HT3 := Lib.hid (HT2.out.kept k3)
 have HR3 := Lib.hid (HR2.out.kept k3)
 have HL3 := Lib.hid hls
 clear k3 hls
 rw [HN.out] at HL3 ⊢
 go_wp2
 refine wp_region_held_drew (S := Kept _) (by kernel_rfl) (Kept.refl _).drew (fun hHeld => ?_)
 refine rT 0 12 (.pointer (some ⟨r, 0, none⟩)) rfl rfl hHeld ?_
 simp only [Act.put, sA, sZ, sU]
 refine rY 1 13 rfl rfl (take_load_ps (by rfl) _ rfl _ rfl p hpl.out (fun _ h => (HP3.out).kept h)) hHeld ?_
 simp only [pA, pN, sZ, sU]
 refine rT 3 15 (.pointer (some ⟨w.heap.size, 0, none⟩)) rfl rfl hHeld ?_
 simp only [pA, pN, sZ, sU]
 refine rY 4 16 rfl rfl (take_load_pb (by rfl) _ rfl _ rfl p hpl.out (fun _ h => (HP3.out).kept h)) hHeld ?_
 simp only [pA, pN, sZ, sU]
 refine rT 5 17 (.pointer (some ⟨w.heap.size, 64, none⟩)) rfl rfl hHeld ?_
 simp only [pA, pN, sZ, sU]
 refine rC 6 18 (.int .i64 p.t) rfl rfl (fun _ h => kept_cell h (HP3.out.turn)) hHeld ?_
 simp only [pA, pN, sZ, sU]
 refine rR 2 rfl (fun K hK => ?_)
 go_simp
 refine (HCk.out r g a b _ (HT3.out.tabm.tabs.steps.kept hHeld) (HR3.out.kept hHeld)).mono ?_
 rintro e x1 ⟨rfl, gx1⟩
 refine hK.out _ _ (hHeld.trans gx1) (fun _ => ?_)
 replace hHeld := hHeld.trans gx1
 clear hK K
 refine rR 7 rfl (fun K hK => ?_)
 go_simp
 refine (HRc.out _).mono ?_
 rintro e x2 ⟨rfl, gx2⟩
 refine hK.out _ _ (hHeld.trans gx2) (fun _ => ?_)
 replace hHeld := hHeld.trans gx2
 clear hK K
 refine rT 8 20 (.bool false) rfl rfl hHeld ?_
 simp only [pA, pN, sZ, sU]
 refine wpAnyH_done (by kernel_rfl) ?_ _
 have HK4 := Lib.hid (HK3.out.trans hHeld)
 have HP4 := Lib.hid (HP3.out.kept hHeld)
 have HT4 := Lib.hid (HT3.out.kept hHeld)
 have HR4 := Lib.hid (HR3.out.kept hHeld)
 have HLx := Lib.hid (HL3.out.kept hHeld)
 clear hHeld gx1 gx2
 go_wp2_with (first | (refine wpList_load_ps (by rfl) _ rfl _ rfl _ (HP4.out) ?_) | (refine wpList_load_pb (by rfl) _ rfl _ rfl _ (HP4.out) ?_))
 refine (HRr.out _).mono ?_
 rintro e w5 ⟨rfl, k5⟩
 have HKa := Lib.hid (HK4.out.trans k5)
 have HPa := Lib.hid (HP4.out.kept k5)
 have HTa := Lib.hid (HT4.out.kept k5)
 have HRa := Lib.hid (HR4.out.kept k5)
 have HLa := Lib.hid (HLx.out.kept k5)
 clear k5
 go_wp2_with (first | (refine wpList_load_ps (by rfl) _ rfl _ rfl _ (HPa.out) ?_) | (refine wpList_load_pb (by rfl) _ rfl _ rfl _ (HPa.out) ?_))
 refine (HRm.out _).mono ?_
 rintro e w6 ⟨v4, rfl, hO, k6⟩
 obtain ⟨g4, hl4, _⟩ := hO.ls
 obtain ⟨a4, c4, rfl⟩ := hO.slice
 rw [HN.out] at hl4 ⊢
 have HK5 := Lib.hid (HKa.out.trans k6)
 have HP5 := Lib.hid (HPa.out.kept k6)
 have HT5 := Lib.hid (HTa.out.kept k6)
 have HR5 := Lib.hid (HRa.out.kept k6)
 have HL4 := Lib.hid (HLa.out.kept k6)
 have HO4 := Lib.hid hl4
 have HSm := Lib.hid (fun w h1 h2 => sameM_yes gl g4 _ _ L w (h1 : LsM w gl (.slice av N cv) L) (h2 : LsM w g4 (.slice a4 N c4) L))
 clear k6 hO hl4
 go_wp2
 refine wp_region_held_drew (S := Kept _) (by kernel_rfl) (Kept.refl _).drew (fun hHeld => ?_)
 refine rT 0 49 (.slice av N cv) rfl rfl hHeld ?_
 simp only [Act.put, sA, sZ, sU]
 refine rT 1 50 (.slice a4 N c4) rfl rfl hHeld ?_
 simp only [pA, pN, sZ, sU]
 refine rR 2 rfl (fun K hK => ?_)
 go_simp
 refine (HSm.out _ (HL4.out.kept hHeld) (HO4.out.kept hHeld)).mono ?_
 rintro e y1 ⟨rfl, gy1⟩
 refine hK.out _ _ (hHeld.trans gy1) (fun _ => ?_)
 replace hHeld := hHeld.trans gy1
 clear hK K
 refine rT 3 52 (.bool true) rfl rfl hHeld ?_
 simp only [pA, pN, sZ, sU]
 refine rT 4 53 (.pointer (some ⟨r, 0, none⟩)) rfl rfl hHeld ?_
 simp only [pA, pN, sZ, sU]
 refine rY 5 54 rfl rfl (take_load_ps (by rfl) _ rfl _ rfl p hpl.out (fun _ h => (HP5.out).kept h)) hHeld ?_
 simp only [pA, pN, sZ, sU]
 refine rT 7 56 (.pointer (some ⟨r, 0, none⟩)) rfl rfl hHeld ?_
 simp only [pA, pN, sZ, sU]
 refine rY 8 57 rfl rfl (take_load_ps (by rfl) _ rfl _ rfl p hpl.out (fun _ h => (HP5.out).kept h)) hHeld ?_
 simp only [pA, pN, sZ, sU]
 refine rR 6 rfl (fun K hK => ?_)
 rw [if_pos (by rfl)]
 go_simp
 refine (HMt.out r g a b _ (HT5.out.kept hHeld) (HR5.out.kept hHeld)).mono ?_
 rintro e y2 ⟨rfl, gy2⟩
 refine hK.out _ _ (hHeld.trans gy2) (fun _ => ?_)
 replace hHeld := hHeld.trans gy2
 clear hK K
 refine rR 9 rfl (fun K hK => ?_)
 rw [if_pos (by rfl)]
 go_simp
 refine (HCk.out r g a b _ (HT5.out.tabm.tabs.steps.kept hHeld) (HR5.out.kept hHeld)).mono ?_
 rintro e y3 ⟨rfl, gy3⟩
 refine hK.out _ _ (hHeld.trans gy3) (fun _ => ?_)
 replace hHeld := hHeld.trans gy3
 clear hK K
 refine rT 10 59 (.bool true) rfl rfl hHeld ?_
 simp only [pA, pN, sZ, sU]
 refine rT 11 60 (.slice a4 N c4) rfl rfl hHeld ?_
 simp only [pA, pN, sZ, sU]
 refine rT 12 61 (.int .i64 (N : Int)) rfl rfl hHeld ?_
 simp only [pA, pN, sZ, sU]
 refine rT 13 62 (.bool ((N : Int) == 0)) rfl rfl hHeld ?_
 simp only [pA, pN, sZ, sU]
 refine rT 14 63 (.bool ((N : Int) == 0)) rfl rfl hHeld ?_
 simp only [pA, pN, sZ, sU]
 refine rT 15 64 (.bool true) rfl rfl hHeld ?_
 simp only [pA, pN, sZ, sU]
 refine rT 16 65 (.bool true) rfl rfl hHeld ?_
 simp only [pA, pN, sZ, sU]
 refine rT 17 66 (.bool true) rfl rfl hHeld ?_
 simp only [pA, pN, sZ, sU]
 refine rT 18 67 (.pointer (some ⟨r, 0, none⟩)) rfl rfl hHeld ?_
 simp only [pA, pN, sZ, sU]
 refine rY 19 68 rfl rfl (take_load_ps (by rfl) _ rfl _ rfl p hpl.out (fun _ h => (HP5.out).kept h)) hHeld ?_
 simp only [pA, pN, sZ, sU]
 refine rT 21 70 (.pointer (some ⟨r, 0, none⟩)) rfl rfl hHeld ?_
 simp only [pA, pN, sZ, sU]
 refine rY 22 71 rfl rfl (take_load_ps (by rfl) _ rfl _ rfl p hpl.out (fun _ h => (HP5.out).kept h)) hHeld ?_
 simp only [pA, pN, sZ, sU]
 refine rR 20 rfl (fun K hK => ?_)
 rw [if_pos (by rfl)]
 go_simp
 refine (HSt.out r g a b _ (HT5.out.kept hHeld) (HR5.out.kept hHeld)).mono ?_
 rintro e y4 ⟨rfl, gy4⟩
 refine hK.out _ _ (hHeld.trans gy4) (fun _ => ?_)
 replace hHeld := hHeld.trans gy4
 clear hK K
 refine rR 23 rfl (fun K hK => ?_)
 rw [if_pos (by rfl)]
 go_simp
 refine (HCk.out r g a b _ (HT5.out.tabm.tabs.steps.kept hHeld) (HR5.out.kept hHeld)).mono ?_
 rintro e y5 ⟨rfl, gy5⟩
 refine hK.out _ _ (hHeld.trans gy5) (fun _ => ?_)
 replace hHeld := hHeld.trans gy5
 clear hK K
 refine rT 24 73 (.bool false) rfl rfl hHeld ?_
 simp only [pA, pN, sZ, sU]
 refine rT 25 74 (.bool false) rfl rfl hHeld ?_
 simp only [pA, pN, sZ, sU]
 refine rN 26 75 rfl rfl hHeld ?_
 simp only [pA, pN, sZ, sU]
 refine rN 27 76 rfl rfl hHeld ?_
 simp only [pA, pN, sZ, sU]
 refine rN 28 77 rfl rfl hHeld ?_
 simp only [pA, pN, sZ, sU]
 refine rT 29 78 (.bool false) rfl rfl hHeld ?_
 simp only [pA, pN, sZ, sU]
 refine rT 30 79 (.bool true) rfl rfl hHeld ?_
 simp only [pA, pN, sZ, sU]
 refine rT 31 80 (.bool true) rfl rfl hHeld ?_
 simp only [pA, pN, sZ, sU]
 refine rT 32 2 (.bool true) rfl rfl hHeld ?_
 simp only [pA, pN, sZ, sU]
 refine wpAnyH_done (by kernel_rfl) ?_ _
 have HKe := Lib.hid (HK5.out.trans hHeld)
 clear hHeld
 go_wp2
 go_ret
 exact ⟨rfl, HKe.out⟩
set_option maxHeartbeats 8000000 in
theorem legalMoves_false (p : Ps) (hB : Brd p.B) (hr : pwI p = 0) (hc : checkB p.B p.t = false) (w : World) (hT : TabG w) :
  Calls Tryz.prog 3 #[.agg (pl p).toArray] w fun e w' => e = .returned (.bool true) ∧ Kept w w' := by
 have HP := Lib.hid (PAt.new w hB.1)
 have HK0 := Lib.hid ((Kept.refl w).alloc (.cells (pl p).toArray 26))
 have HT := Lib.hid (hT.kept HK0.out)
 have hpl : Hid (p.B.length = 64) := hB.1
 have hL : legR p = legL p := by unfold legR; rw [if_pos hr]
 have hS : stuckB p = (((legL p).length : Int) == 0) := by rw [stuck_len p hr, Bool.eq_iff_iff, beq_iff_eq, beq_iff_eq]; omega
 have HMv := Lib.hid (fun r g a b w hT hR => moves_is r g a b p hB w hT hR)
 have HMt := Lib.hid (fun r g a b w hT hR => mate_is r g a b p hB w hT hR)
 have HSt := Lib.hid (fun r g a b w hT hR => stale_is r g a b p hB w hT hR)
 have HCk := Lib.hid (fun r g a b w hS hR => rchk_is r g a b p hB w hS hR)
 have HRc := Lib.hid (fun w => rcheck_any p.B hB p.t w)
 have HRr := Lib.hid (fun w => rrightP_is p hB w)
 have HRm := Lib.hid (fun w => rmoves_is p hB hr w)
 rw [hL] at HMv
 rw [hc, hS] at HMt HSt
 simp only [Bool.true_and, Bool.false_and, Bool.not_true, Bool.not_false] at HMt HSt
 rw [hc] at HCk HRc
 rw [show (pwI p == 0) = true from beq_iff_eq.2 hr] at HRr
 generalize legL p = L at *
 obtain ⟨N, hN⟩ : ∃ n, L.length = n := ⟨_, rfl⟩
 try rw [hN] at HMt
 try rw [hN] at HSt
 have HN := Lib.hid hN
 clear hB hT hr hL hS hc hN
 go_enter Tryz.func3, Tryz.ntmps3
 go_wp2_with fail
 refine (legal_wake _ HT.out).mono ?_
 rintro e w1 ⟨rfl, k1⟩
 have HK1 := Lib.hid (HK0.out.trans k1)
 have HP1 := Lib.hid (HP.out.kept k1)
 have HT1 := Lib.hid (HT.out.kept k1)
 clear k1
 go_wp2_with fail
 refine (rnew_is _).mono ?_
 rintro e w2 ⟨r, g, a, b, rfl, hR, k2⟩
 have HK2 := Lib.hid (HK1.out.trans k2)
 have HP2 := Lib.hid (HP1.out.kept k2)
 have HT2 := Lib.hid (HT1.out.kept k2)
 have HR2 := Lib.hid hR
 clear k2 hR
 go_wp2_with (first | (refine wpList_load_ps (by rfl) _ rfl _ rfl _ (HP2.out) ?_) | (refine wpList_load_pb (by rfl) _ rfl _ rfl _ (HP2.out) ?_))
 refine (HMv.out r g a b _ HT2.out HR2.out).mono ?_
 rintro e w3 ⟨v, gl, rfl, hls, k3⟩
 obtain ⟨av, cv, rfl⟩ := hls.slice
 have HK3 := Lib.hid (HK2.out.trans k3)
 have HP3 := Lib.hid (HP2.out.kept k3)
 have HT3 := Lib.hid (HT2.out.kept k3)
 have HR3 := Lib.hid (HR2.out.kept k3)
 have HL3 := Lib.hid hls
 clear k3 hls
 rw [HN.out] at HL3 ⊢
 go_wp2
 refine wp_region_held_drew (S := Kept _) (by kernel_rfl) (Kept.refl _).drew (fun hHeld => ?_)
 refine rT 0 12 (.pointer (some ⟨r, 0, none⟩)) rfl rfl hHeld ?_
 simp only [Act.put, sA, sZ, sU]
 refine rY 1 13 rfl rfl (take_load_ps (by rfl) _ rfl _ rfl p hpl.out (fun _ h => (HP3.out).kept h)) hHeld ?_
 simp only [pA, pN, sZ, sU]
 refine rT 3 15 (.pointer (some ⟨w.heap.size, 0, none⟩)) rfl rfl hHeld ?_
 simp only [pA, pN, sZ, sU]
 refine rY 4 16 rfl rfl (take_load_pb (by rfl) _ rfl _ rfl p hpl.out (fun _ h => (HP3.out).kept h)) hHeld ?_
 simp only [pA, pN, sZ, sU]
 refine rT 5 17 (.pointer (some ⟨w.heap.size, 64, none⟩)) rfl rfl hHeld ?_
 simp only [pA, pN, sZ, sU]
 refine rC 6 18 (.int .i64 p.t) rfl rfl (fun _ h => kept_cell h (HP3.out.turn)) hHeld ?_
 simp only [pA, pN, sZ, sU]
 refine rR 2 rfl (fun K hK => ?_)
 go_simp
 refine (HCk.out r g a b _ (HT3.out.tabm.tabs.steps.kept hHeld) (HR3.out.kept hHeld)).mono ?_
 rintro e x1 ⟨rfl, gx1⟩
 refine hK.out _ _ (hHeld.trans gx1) (fun _ => ?_)
 replace hHeld := hHeld.trans gx1
 clear hK K
 refine rR 7 rfl (fun K hK => ?_)
 go_simp
 refine (HRc.out _).mono ?_
 rintro e x2 ⟨rfl, gx2⟩
 refine hK.out _ _ (hHeld.trans gx2) (fun _ => ?_)
 replace hHeld := hHeld.trans gx2
 clear hK K
 refine rT 8 20 (.bool false) rfl rfl hHeld ?_
 simp only [pA, pN, sZ, sU]
 refine wpAnyH_done (by kernel_rfl) ?_ _
 have HK4 := Lib.hid (HK3.out.trans hHeld)
 have HP4 := Lib.hid (HP3.out.kept hHeld)
 have HT4 := Lib.hid (HT3.out.kept hHeld)
 have HR4 := Lib.hid (HR3.out.kept hHeld)
 have HLx := Lib.hid (HL3.out.kept hHeld)
 clear hHeld gx1 gx2
 go_wp2_with (first | (refine wpList_load_ps (by rfl) _ rfl _ rfl _ (HP4.out) ?_) | (refine wpList_load_pb (by rfl) _ rfl _ rfl _ (HP4.out) ?_))
 refine (HRr.out _).mono ?_
 rintro e w5 ⟨rfl, k5⟩
 have HKa := Lib.hid (HK4.out.trans k5)
 have HPa := Lib.hid (HP4.out.kept k5)
 have HTa := Lib.hid (HT4.out.kept k5)
 have HRa := Lib.hid (HR4.out.kept k5)
 have HLa := Lib.hid (HLx.out.kept k5)
 clear k5
 go_wp2_with (first | (refine wpList_load_ps (by rfl) _ rfl _ rfl _ (HPa.out) ?_) | (refine wpList_load_pb (by rfl) _ rfl _ rfl _ (HPa.out) ?_))
 refine (HRm.out _).mono ?_
 rintro e w6 ⟨v4, rfl, hO, k6⟩
 obtain ⟨g4, hl4, _⟩ := hO.ls
 obtain ⟨a4, c4, rfl⟩ := hO.slice
 rw [HN.out] at hl4 ⊢
 have HK5 := Lib.hid (HKa.out.trans k6)
 have HP5 := Lib.hid (HPa.out.kept k6)
 have HT5 := Lib.hid (HTa.out.kept k6)
 have HR5 := Lib.hid (HRa.out.kept k6)
 have HL4 := Lib.hid (HLa.out.kept k6)
 have HO4 := Lib.hid hl4
 have HSm := Lib.hid (fun w h1 h2 => sameM_yes gl g4 _ _ L w (h1 : LsM w gl (.slice av N cv) L) (h2 : LsM w g4 (.slice a4 N c4) L))
 clear k6 hO hl4
 go_wp2
 refine wp_region_held_drew (S := Kept _) (by kernel_rfl) (Kept.refl _).drew (fun hHeld => ?_)
 refine rT 0 49 (.slice av N cv) rfl rfl hHeld ?_
 simp only [Act.put, sA, sZ, sU]
 refine rT 1 50 (.slice a4 N c4) rfl rfl hHeld ?_
 simp only [pA, pN, sZ, sU]
 refine rR 2 rfl (fun K hK => ?_)
 go_simp
 refine (HSm.out _ (HL4.out.kept hHeld) (HO4.out.kept hHeld)).mono ?_
 rintro e y1 ⟨rfl, gy1⟩
 refine hK.out _ _ (hHeld.trans gy1) (fun _ => ?_)
 replace hHeld := hHeld.trans gy1
 clear hK K
 refine rT 3 52 (.bool true) rfl rfl hHeld ?_
 simp only [pA, pN, sZ, sU]
 refine rT 4 53 (.pointer (some ⟨r, 0, none⟩)) rfl rfl hHeld ?_
 simp only [pA, pN, sZ, sU]
 refine rY 5 54 rfl rfl (take_load_ps (by rfl) _ rfl _ rfl p hpl.out (fun _ h => (HP5.out).kept h)) hHeld ?_
 simp only [pA, pN, sZ, sU]
 refine rT 7 56 (.pointer (some ⟨r, 0, none⟩)) rfl rfl hHeld ?_
 simp only [pA, pN, sZ, sU]
 refine rY 8 57 rfl rfl (take_load_ps (by rfl) _ rfl _ rfl p hpl.out (fun _ h => (HP5.out).kept h)) hHeld ?_
 simp only [pA, pN, sZ, sU]
 refine rR 6 rfl (fun K hK => ?_)
 rw [if_pos (by rfl)]
 go_simp
 refine (HMt.out r g a b _ (HT5.out.kept hHeld) (HR5.out.kept hHeld)).mono ?_
 rintro e y2 ⟨rfl, gy2⟩
 refine hK.out _ _ (hHeld.trans gy2) (fun _ => ?_)
 replace hHeld := hHeld.trans gy2
 clear hK K
 refine rR 9 rfl (fun K hK => ?_)
 rw [if_pos (by rfl)]
 go_simp
 refine (HCk.out r g a b _ (HT5.out.tabm.tabs.steps.kept hHeld) (HR5.out.kept hHeld)).mono ?_
 rintro e y3 ⟨rfl, gy3⟩
 refine hK.out _ _ (hHeld.trans gy3) (fun _ => ?_)
 replace hHeld := hHeld.trans gy3
 clear hK K
 refine rT 10 59 (.bool false) rfl rfl hHeld ?_
 simp only [pA, pN, sZ, sU]
 refine rN 11 60 rfl rfl hHeld ?_
 simp only [pA, pN, sZ, sU]
 refine rN 12 61 rfl rfl hHeld ?_
 simp only [pA, pN, sZ, sU]
 refine rN 13 62 rfl rfl hHeld ?_
 simp only [pA, pN, sZ, sU]
 refine rT 14 63 (.bool false) rfl rfl hHeld ?_
 simp only [pA, pN, sZ, sU]
 refine rT 15 64 (.bool true) rfl rfl hHeld ?_
 simp only [pA, pN, sZ, sU]
 refine rT 16 65 (.bool true) rfl rfl hHeld ?_
 simp only [pA, pN, sZ, sU]
 refine rT 17 66 (.bool true) rfl rfl hHeld ?_
 simp only [pA, pN, sZ, sU]
 refine rT 18 67 (.pointer (some ⟨r, 0, none⟩)) rfl rfl hHeld ?_
 simp only [pA, pN, sZ, sU]
 refine rY 19 68 rfl rfl (take_load_ps (by rfl) _ rfl _ rfl p hpl.out (fun _ h => (HP5.out).kept h)) hHeld ?_
 simp only [pA, pN, sZ, sU]
 refine rT 21 70 (.pointer (some ⟨r, 0, none⟩)) rfl rfl hHeld ?_
 simp only [pA, pN, sZ, sU]
 refine rY 22 71 rfl rfl (take_load_ps (by rfl) _ rfl _ rfl p hpl.out (fun _ h => (HP5.out).kept h)) hHeld ?_
 simp only [pA, pN, sZ, sU]
 refine rR 20 rfl (fun K hK => ?_)
 rw [if_pos (by rfl)]
 go_simp
 refine (HSt.out r g a b _ (HT5.out.kept hHeld) (HR5.out.kept hHeld)).mono ?_
 rintro e y4 ⟨rfl, gy4⟩
 refine hK.out _ _ (hHeld.trans gy4) (fun _ => ?_)
 replace hHeld := hHeld.trans gy4
 clear hK K
 refine rR 23 rfl (fun K hK => ?_)
 rw [if_pos (by rfl)]
 go_simp
 refine (HCk.out r g a b _ (HT5.out.tabm.tabs.steps.kept hHeld) (HR5.out.kept hHeld)).mono ?_
 rintro e y5 ⟨rfl, gy5⟩
 refine hK.out _ _ (hHeld.trans gy5) (fun _ => ?_)
 replace hHeld := hHeld.trans gy5
 clear hK K
 refine rT 24 73 (.bool true) rfl rfl hHeld ?_
 simp only [pA, pN, sZ, sU]
 refine rT 25 74 (.bool true) rfl rfl hHeld ?_
 simp only [pA, pN, sZ, sU]
 refine rT 26 75 (.slice a4 N c4) rfl rfl hHeld ?_
 simp only [pA, pN, sZ, sU]
 refine rT 27 76 (.int .i64 (N : Int)) rfl rfl hHeld ?_
 simp only [pA, pN, sZ, sU]
 refine rT 28 77 (.bool ((N : Int) == 0)) rfl rfl hHeld ?_
 simp only [pA, pN, sZ, sU]
 refine rT 29 78 (.bool ((N : Int) == 0)) rfl rfl hHeld ?_
 simp only [pA, pN, sZ, sU]
 refine rT 30 79 (.bool true) rfl rfl hHeld ?_
 simp only [pA, pN, sZ, sU]
 refine rT 31 80 (.bool true) rfl rfl hHeld ?_
 simp only [pA, pN, sZ, sU]
 refine rT 32 2 (.bool true) rfl rfl hHeld ?_
 simp only [pA, pN, sZ, sU]
 refine wpAnyH_done (by kernel_rfl) ?_ _
 have HKe := Lib.hid (HK5.out.trans hHeld)
 clear hHeld
 go_wp2
 go_ret
 exact ⟨rfl, HKe.out⟩
theorem walkLegalMoves (p : Ps) (hB : Brd p.B) (w : World) (hT : TabG w) :
  Calls Tryz.prog 3 #[.agg (pl p).toArray] w fun e w' => e = .returned (.bool true) ∧ Kept w w' := by
 by_cases hr : pwI p = 0
 ·cases hc : checkB p.B p.t
  ·exact legalMoves_false p hB hr hc w hT
  ·exact legalMoves_true p hB hr hc w hT
 ·exact legalMoves_not p hB hr w hT
end Go.Proofs.YtfekipadkenhpaaGreatDoor
