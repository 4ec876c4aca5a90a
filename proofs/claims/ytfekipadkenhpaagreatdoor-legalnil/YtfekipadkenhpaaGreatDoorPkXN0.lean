/- LeD · LeH · LeI · LeK: my texts, in their order. -/
import Derived.Test.YtfekipadkenhpaaGreatDoorPkXPRN0
import Derived.Test.YtfekipadkenhpaaGreatDoorPkA
import Derived.Test.YtfekipadkenhpaaGreatDoorPkB
import Derived.Test.YtfekipadkenhpaaGreatDoorPkC
import Derived.Test.YtfekipadkenhpaaGreatDoorPkD
import Derived.Test.YtfekipadkenhpaaGreatDoorPkE
import Derived.Test.YtfekipadkenhpaaGreatDoorPkF
import Derived.Test.YtfekipadkenhpaaGreatDoorPkGa
import Derived.Test.YtfekipadkenhpaaGreatDoorPkGb
import Derived.Test.YtfekipadkenhpaaGreatDoorPkGc
import Derived.Test.YtfekipadkenhpaaGreatDoorPkGd
import Derived.Test.YtfekipadkenhpaaGreatDoorPkGe
import Derived.Test.YtfekipadkenhpaaGreatDoorPkGh
import Derived.Test.YtfekipadkenhpaaGreatDoorPkH
import Derived.Test.YtfekipadkenhpaaGreatDoorPkI
import Derived.Test.YtfekipadkenhpaaGreatDoorPkJ
import Derived.Test.YtfekipadkenhpaaGreatDoorPkK
import Derived.Test.YtfekipadkenhpaaGreatDoorPkL
import Derived.Test.YtfekipadkenhpaaGreatDoorPkLa
import Derived.Test.YtfekipadkenhpaaGreatDoorPkLd
import Derived.Test.YtfekipadkenhpaaGreatDoorPkLe
import Derived.Test.YtfekipadkenhpaaGreatDoorPkLf
import Derived.Test.YtfekipadkenhpaaGreatDoorPkLg
import Derived.Test.YtfekipadkenhpaaGreatDoorPkLh
import Derived.Test.YtfekipadkenhpaaGreatDoorPkLk
import Derived.Test.YtfekipadkenhpaaGreatDoorPkLw
import Derived.Test.YtfekipadkenhpaaGreatDoorPkM
import Derived.Test.YtfekipadkenhpaaGreatDoorPkR
namespace Go.Proofs.YtfekipadkenhpaaGreatDoor
open Go.RowKit
set_option linter.unusedVariables false
set_option linter.unusedSimpArgs false
set_option maxRecDepth 100000
theorem rchk_nil (p : Ps) (hB : Brd p.B) (w : World) :
  Calls Tryz.prog 12 #[.pointer none, .agg (pl p).toArray] w fun e w' => e = .returned (.bool false) ∧ Kept w w' := by
 have HK0 := Lib.hid ((Kept.refl w).alloc (.cells (pl p).toArray 26))
 clear hB
 go_enter Tryz.func12, Tryz.ntmps12
 go_wp2
 refine wp_region_held_drew (S := Kept _) (by kernel_rfl) (Kept.refl _).drew (fun hHeld => ?_)
 refine rT 0 5 (.pointer none) rfl rfl hHeld ?_
 simp only [pA, pN, sZ, sU]
 refine rT 1 6 (.bool false) rfl rfl hHeld ?_
 simp only [pA, pN, sZ, sU]
 refine rT 2 7 (.bool false) rfl rfl hHeld ?_
 simp only [pA, pN, sZ, sU]
 refine rN 3 8 rfl rfl hHeld ?_
 simp only [pA, pN, sZ, sU]
 refine rN 4 9 rfl rfl hHeld ?_
 simp only [pA, pN, sZ, sU]
 refine rN 5 10 rfl rfl hHeld ?_
 simp only [pA, pN, sZ, sU]
 refine rN 6 11 rfl rfl hHeld ?_
 simp only [pA, pN, sZ, sU]
 refine rN 7 12 rfl rfl hHeld ?_
 simp only [pA, pN, sZ, sU]
 refine rN 8 13 rfl rfl hHeld ?_
 simp only [pA, pN, sZ, sU]
 refine rN 9 14 rfl rfl hHeld ?_
 simp only [pA, pN, sZ, sU]
 refine rN 10 15 rfl rfl hHeld ?_
 simp only [pA, pN, sZ, sU]
 refine rN 11 16 rfl rfl hHeld ?_
 simp only [pA, pN, sZ, sU]
 refine rT 12 17 (.bool false) rfl rfl hHeld ?_
 simp only [pA, pN, sZ, sU]
 refine rT 13 4 (.bool false) rfl rfl hHeld ?_
 simp only [pA, pN, sZ, sU]
 refine wpAnyH_done (by kernel_rfl) ?_ _
 go_wp2
 go_ret
 exact ⟨rfl, HK0.out.trans hHeld⟩
theorem moves_nil (p : Ps) (hB : Brd p.B) (w : World) :
  Calls Tryz.prog 11 #[.pointer none, .agg (pl p).toArray] w (TellM w []) := by
 have HK0 := Lib.hid ((Kept.refl w).alloc (.cells (pl p).toArray 26))
 clear hB
 go_enter Tryz.func11, Tryz.ntmps11
 go_wp2
 go_ret
 exact ⟨_, 0, rfl, .inl ⟨rfl, rfl⟩, HK0.out⟩
set_option maxHeartbeats 2000000 in
theorem legal_nil (p : Ps) (hB : Brd p.B) (m : Mv) (w : World) :
  Calls Tryz.prog 21 #[.pointer none, .agg (pl p).toArray, .agg (ml m).toArray] w fun e w' => e = .returned (.bool false) ∧ Kept w w' := by
 have HP : Hid (PAt _ _ p) := ⟨hB.1, heap_alloc2_old w (.cells (pl p).toArray 26) (.cells (ml m).toArray 36)⟩
 have HM : Hid (MAt _ _ m) := ⟨heap_alloc2_new w (.cells (pl p).toArray 26) (.cells (ml m).toArray 36)⟩
 have HK0 := Lib.hid (((Kept.refl w).alloc (.cells (pl p).toArray 26)).alloc (.cells (ml m).toArray 36))
 clear hB
 go_enter Tryz.func21, Tryz.ntmps21
 go_wp2
 refine wp_region_held_drew (S := Kept _) (by kernel_rfl) (Kept.refl _).drew (fun hHeld => ?_)
 refine rT 0 7 (.pointer none) rfl rfl hHeld ?_
 simp only [pA, pN, sZ, sU]
 refine rT 1 8 (.bool false) rfl rfl hHeld ?_
 simp only [pA, pN, sZ, sU]
 refine rT 2 9 (.bool false) rfl rfl hHeld ?_
 simp only [pA, pN, sZ, sU]
 refine rN 3 10 rfl rfl hHeld ?_
 simp only [pA, pN, sZ, sU]
 refine rN 4 11 rfl rfl hHeld ?_
 simp only [pA, pN, sZ, sU]
 refine rN 5 12 rfl rfl hHeld ?_
 simp only [pA, pN, sZ, sU]
 refine rN 6 13 rfl rfl hHeld ?_
 simp only [pA, pN, sZ, sU]
 refine rN 7 14 rfl rfl hHeld ?_
 simp only [pA, pN, sZ, sU]
 refine rN 8 15 rfl rfl hHeld ?_
 simp only [pA, pN, sZ, sU]
 refine rN 9 16 rfl rfl hHeld ?_
 simp only [pA, pN, sZ, sU]
 refine rT 10 17 (.bool false) rfl rfl hHeld ?_
 simp only [pA, pN, sZ, sU]
 refine rT 11 18 (.bool false) rfl rfl hHeld ?_
 simp only [pA, pN, sZ, sU]
 refine rN 12 19 rfl rfl hHeld ?_
 simp only [pA, pN, sZ, sU]
 refine rN 13 20 rfl rfl hHeld ?_
 simp only [pA, pN, sZ, sU]
 refine rN 14 21 rfl rfl hHeld ?_
 simp only [pA, pN, sZ, sU]
 refine rN 15 22 rfl rfl hHeld ?_
 simp only [pA, pN, sZ, sU]
 refine rN 16 23 rfl rfl hHeld ?_
 simp only [pA, pN, sZ, sU]
 refine rN 17 24 rfl rfl hHeld ?_
 simp only [pA, pN, sZ, sU]
 refine rT 18 25 (.bool false) rfl rfl hHeld ?_
 simp only [pA, pN, sZ, sU]
 refine rT 19 6 (.bool false) rfl rfl hHeld ?_
 simp only [pA, pN, sZ, sU]
 refine wpAnyH_done (by kernel_rfl) ?_ _
 go_wp2
 go_ret
 exact ⟨rfl, HK0.out.trans hHeld⟩
theorem stuck_nil (p : Ps) (hB : Brd p.B) (w : World) :
  Calls Tryz.prog 37 #[.pointer none, .agg (pl p).toArray] w fun e w' => e = .returned (.bool false) ∧ Kept w w' := by
 have HK0 := Lib.hid ((Kept.refl w).alloc (.cells (pl p).toArray 26))
 clear hB
 go_enter Tryz.func37, Tryz.ntmps37
 go_wp2
 go_ret
 exact ⟨rfl, HK0.out⟩
theorem mate_nil (p : Ps) (hB : Brd p.B) (w : World) :
  Calls Tryz.prog 15 #[.pointer none, .agg (pl p).toArray] w fun e w' => e = .returned (.bool false) ∧ Kept w w' := by
 have HP := Lib.hid (PAt.new w hB.1)
 have HK0 := Lib.hid ((Kept.refl w).alloc (.cells (pl p).toArray 26))
 have HC := Lib.hid (fun w => rchk_nil p hB w)
 clear hB
 go_enter Tryz.func15, Tryz.ntmps15
 go_wp2_with (first | (refine wpList_load_ps (by rfl) _ rfl _ rfl _ (HP.out) ?_) | (refine wpList_load_pb (by rfl) _ rfl _ rfl _ (HP.out) ?_))
 refine (HC.out _).mono ?_
 rintro e w1 ⟨rfl, k1⟩
 have HK1 := Lib.hid (HK0.out.trans k1)
 clear k1
 go_wp2
 go_ret
 exact ⟨rfl, HK1.out⟩
theorem stale_nil (p : Ps) (hB : Brd p.B) (w : World) :
  Calls Tryz.prog 16 #[.pointer none, .agg (pl p).toArray] w fun e w' => e = .returned (.bool false) ∧ Kept w w' := by
 have HP := Lib.hid (PAt.new w hB.1)
 have HK0 := Lib.hid ((Kept.refl w).alloc (.cells (pl p).toArray 26))
 have HC := Lib.hid (fun w => rchk_nil p hB w)
 have HS := Lib.hid (fun w => stuck_nil p hB w)
 clear hB
 go_enter Tryz.func16, Tryz.ntmps16
 go_wp2_with (first | (refine wpList_load_ps (by rfl) _ rfl _ rfl _ (HP.out) ?_) | (refine wpList_load_pb (by rfl) _ rfl _ rfl _ (HP.out) ?_))
 refine (HC.out _).mono ?_
 rintro e w1 ⟨rfl, k1⟩
 have HK1 := Lib.hid (HK0.out.trans k1)
 have HP1 := Lib.hid (HP.out.kept k1)
 clear k1
 go_wp2_with (first | (refine wpList_load_ps (by rfl) _ rfl _ rfl _ (HP1.out) ?_) | (refine wpList_load_pb (by rfl) _ rfl _ rfl _ (HP1.out) ?_))
 refine (HS.out _).mono ?_
 rintro e w2 ⟨rfl, k2⟩
 have HK2 := Lib.hid (HK1.out.trans k2)
 clear k2
 go_wp2
 go_ret
 exact ⟨rfl, HK2.out⟩
theorem flights_nil (p : Ps) (hB : Brd p.B) (w : World) :
  Calls Tryz.prog 25 #[.pointer none, .agg (pl p).toArray] w (NewZ w []) := by
 have HK0 := Lib.hid ((Kept.refl w).alloc (.cells (pl p).toArray 26))
 clear hB
 go_enter Tryz.func25, Tryz.ntmps25
 go_wp2
 go_ret
 exact ⟨_, rfl, OwnZ.nil _ _, HK0.out⟩
set_option maxHeartbeats 2000000 in
theorem play_nil (p : Ps) (hB : Brd p.B) (m : Mv) (w : World) :
  Calls Tryz.prog 19 #[.pointer none, .agg (pl p).toArray, .agg (ml m).toArray] w (RetPE w Zp 14) := by
 have HP : Hid (PAt _ _ p) := ⟨hB.1, heap_alloc2_old w (.cells (pl p).toArray 26) (.cells (ml m).toArray 36)⟩
 have HM : Hid (MAt _ _ m) := ⟨heap_alloc2_new w (.cells (pl p).toArray 26) (.cells (ml m).toArray 36)⟩
 have HK0 := Lib.hid (((Kept.refl w).alloc (.cells (pl p).toArray 26)).alloc (.cells (ml m).toArray 36))
 have HK1 := Lib.hid (HK0.out.alloc (.cells (pl Zp).toArray 26))
 have HR1 : Hid (PAt _ _ Zp) := PAt.new ((w.alloc (.cells (pl p).toArray 26)).alloc (.cells (ml m).toArray 36)) Zp_len
 have hsz : ((w.alloc (.cells (pl p).toArray 26)).alloc (.cells (ml m).toArray 36)).heap.size = w.heap.size + 2 := by simp
 rw [hsz] at HR1
 clear hB HP HM HK0 hsz
 go_enter Tryz.func19, Tryz.ntmps19
 go_wp2_with (first | (with_reducible refine wpList_new_p rfl rfl ?_) | (refine wpList_built_p0 (by rfl) rfl ?_) | (refine wpList_store_ps rfl _ _ rfl (w.heap.size + 2) Zp Zp HR1.out Zp_len rfl rfl ?_))
 refine bodyPost_ret (v := .tuple #[.agg (pl Zp).toArray, .int .i64 14]) ?_ rfl ⟨rfl, HK1.out.setRow (by omega) _⟩
 exact (results_pos_tmp (s := 6) (t := 7) rfl _ rfl (HR1.out.setRow Zp_len)).trans rfl
set_option maxHeartbeats 4000000 in
theorem walkLegalNil (p : Ps) (hB : Brd p.B) (m : Mv) (w : World) (hT : TabG w) :
  Calls Tryz.prog 8 #[.agg (pl p).toArray, .agg (ml m).toArray] w fun e w' => e = .returned (.bool true) ∧ Kept w w' := by
 have HP : Hid (PAt _ _ p) := ⟨hB.1, heap_alloc2_old w (.cells (pl p).toArray 26) (.cells (ml m).toArray 36)⟩
 have HM : Hid (MAt _ _ m) := ⟨heap_alloc2_new w (.cells (pl p).toArray 26) (.cells (ml m).toArray 36)⟩
 have HK0 := Lib.hid (((Kept.refl w).alloc (.cells (pl p).toArray 26)).alloc (.cells (ml m).toArray 36))
 have HT := Lib.hid (hT.kept HK0.out)
 have hpl : Hid (p.B.length = 64) := hB.1
 have HPl := Lib.hid (fun w => play_nil p hB m w)
 have HMv := Lib.hid (fun w => moves_nil p hB w)
 have HFl := Lib.hid (fun w => flights_nil p hB w)
 have HLg := Lib.hid (fun w => legal_nil p hB m w)
 have HCk := Lib.hid (fun w => rchk_nil p hB w)
 have HMt := Lib.hid (fun w => mate_nil p hB w)
 have HSt := Lib.hid (fun w => stale_nil p hB w)
 have hw0 : IntKind.i64.wrap 0 = 0 := by decide
 clear hB hT
 go_enter Tryz.func8, Tryz.ntmps8
 go_wp2_with fail
 refine (legal_wake _ HT.out).mono ?_
 rintro e w1 ⟨rfl, k1⟩
 have HK1 := Lib.hid (HK0.out.trans k1)
 have HP1 := Lib.hid (HP.out.kept k1)
 have HM1 := Lib.hid (MAt.kept HM.out k1)
 clear k1
 go_wp2_with (first | (refine wpList_load_ps (by rfl) _ rfl _ rfl _ (HP1.out) ?_) | (refine wpList_load_pb (by rfl) _ rfl _ rfl _ (HP1.out) ?_) | (refine wpList_load_mv (by rfl) _ rfl _ rfl _ (HM1.out) ?_))
 refine (HPl.out _).mono ?_
 rintro e w2 ⟨rfl, k2⟩
 have KA := Lib.hid (k2.alloc (.cells (pl Zp).toArray 26))
 have HK2 := Lib.hid (HK1.out.trans KA.out)
 have HP2 := Lib.hid (HP1.out.kept KA.out)
 have HM2 := Lib.hid (MAt.kept HM1.out KA.out)
 clear k2 KA
 go_wp2_with (first | (with_reducible refine wpList_new_p rfl rfl ?_) | ((with_reducible refine wpList_store_newp rfl _ _ rfl Zp Zp Zp_len Zp_len ?_ ?_ ?_); exact rfl; exact rfl))
 generalize w2.alloc (.cells (pl Zp).toArray 26) = W2 at *
 generalize w2.heap.size = gq at *
 refine wp_region_held_drew (S := Kept _) (by kernel_rfl) (Kept.refl _).drew (fun hHeld => ?_)
 refine rT 0 17 (.int .i64 14) rfl rfl hHeld ?_
 simp only [Act.put, sA, sZ, sU]
 refine rT 1 18 (.bool true) rfl rfl hHeld ?_
 simp only [pA, pN, sZ, sU]
 refine rT 2 19 (.bool true) rfl rfl hHeld ?_
 simp only [pA, pN, sZ, sU]
 refine rT 3 20 (.pointer none) rfl rfl hHeld ?_
 simp only [pA, pN, sZ, sU]
 refine rY 4 21 rfl rfl (take_load_ps (by rfl) _ rfl _ rfl p hpl.out (fun _ h => (HP2.out).kept h)) hHeld ?_
 simp only [pA, pN, sZ, sU]
 refine rT 7 24 (.pointer none) rfl rfl hHeld ?_
 simp only [pA, pN, sZ, sU]
 refine rY 8 25 rfl rfl (take_load_ps (by rfl) _ rfl _ rfl p hpl.out (fun _ h => (HP2.out).kept h)) hHeld ?_
 simp only [pA, pN, sZ, sU]
 refine rR 5 rfl (fun K hK => ?_)
 rw [if_pos (by rfl)]
 go_simp
 refine (HMv.out _).mono ?_
 rintro e x1 ⟨v1, gv1, rfl, hl1, gx1⟩
 obtain ⟨a1, c1, rfl⟩ := hl1.slice
 refine hK.out _ _ (hHeld.trans gx1) (fun _ => ?_)
 replace hHeld := hHeld.trans gx1
 clear hK K hl1 gx1
 refine rT 6 23 (.int .i64 0) rfl rfl hHeld ?_
 simp only [pA, pN, sZ, sU]
 refine rR 9 rfl (fun K hK => ?_)
 rw [if_pos (by rfl)]
 go_simp
 refine (HFl.out _).mono ?_
 rintro e x2 ⟨v2, rfl, hl2, gx2⟩
 obtain ⟨a2, c2, rfl⟩ := hl2.slice
 refine hK.out _ _ (hHeld.trans gx2) (fun _ => ?_)
 replace hHeld := hHeld.trans gx2
 clear hK K hl2 gx2
 refine rT 10 27 (.int .i64 0) rfl rfl hHeld ?_
 simp only [pA, pN, sZ, sU]
 refine rT 11 28 (.int .i64 0) rfl rfl hHeld ?_
 simp only [pA, pN, sZ, sU]
 refine rT 12 29 (.bool true) rfl rfl hHeld ?_
 simp only [pA, pN, sZ, sU]
 refine rT 13 30 (.bool true) rfl rfl hHeld ?_
 simp only [pA, pN, sZ, sU]
 refine rT 14 31 (.bool true) rfl rfl hHeld ?_
 simp only [pA, pN, sZ, sU]
 refine rT 15 32 (.pointer none) rfl rfl hHeld ?_
 simp only [pA, pN, sZ, sU]
 refine rY 16 33 rfl rfl (take_load_ps (by rfl) _ rfl _ rfl p hpl.out (fun _ h => (HP2.out).kept h)) hHeld ?_
 simp only [pA, pN, sZ, sU]
 refine rY 17 34 rfl rfl (take_load_mv (by rfl) _ rfl _ rfl m (fun _ h => MAt.kept (HM2.out) h)) hHeld ?_
 simp only [pA, pN, sZ, sU]
 refine rR 18 rfl (fun K hK => ?_)
 rw [if_pos (by rfl)]
 go_simp
 refine (HLg.out _).mono ?_
 rintro e x3 ⟨rfl, gx3⟩
 refine hK.out _ _ (hHeld.trans gx3) (fun _ => ?_)
 replace hHeld := hHeld.trans gx3
 clear hK K
 refine rT 19 36 (.bool true) rfl rfl hHeld ?_
 simp only [pA, pN, sZ, sU]
 refine rT 20 37 (.bool true) rfl rfl hHeld ?_
 simp only [pA, pN, sZ, sU]
 refine rT 21 38 (.bool true) rfl rfl hHeld ?_
 simp only [pA, pN, sZ, sU]
 refine rT 22 39 (.pointer none) rfl rfl hHeld ?_
 simp only [pA, pN, sZ, sU]
 refine rY 23 40 rfl rfl (take_load_ps (by rfl) _ rfl _ rfl p hpl.out (fun _ h => (HP2.out).kept h)) hHeld ?_
 simp only [pA, pN, sZ, sU]
 refine rR 24 rfl (fun K hK => ?_)
 rw [if_pos (by rfl)]
 go_simp
 refine (HCk.out _).mono ?_
 rintro e x4 ⟨rfl, gx4⟩
 refine hK.out _ _ (hHeld.trans gx4) (fun _ => ?_)
 replace hHeld := hHeld.trans gx4
 clear hK K
 refine rT 25 42 (.bool true) rfl rfl hHeld ?_
 simp only [pA, pN, sZ, sU]
 refine rT 26 43 (.bool true) rfl rfl hHeld ?_
 simp only [pA, pN, sZ, sU]
 refine rT 27 44 (.bool true) rfl rfl hHeld ?_
 simp only [pA, pN, sZ, sU]
 refine rT 28 45 (.pointer none) rfl rfl hHeld ?_
 simp only [pA, pN, sZ, sU]
 refine rY 29 46 rfl rfl (take_load_ps (by rfl) _ rfl _ rfl p hpl.out (fun _ h => (HP2.out).kept h)) hHeld ?_
 simp only [pA, pN, sZ, sU]
 refine rR 30 rfl (fun K hK => ?_)
 rw [if_pos (by rfl)]
 go_simp
 refine (HMt.out _).mono ?_
 rintro e x5 ⟨rfl, gx5⟩
 refine hK.out _ _ (hHeld.trans gx5) (fun _ => ?_)
 replace hHeld := hHeld.trans gx5
 clear hK K
 refine rT 31 48 (.bool true) rfl rfl hHeld ?_
 simp only [pA, pN, sZ, sU]
 refine rT 32 49 (.bool true) rfl rfl hHeld ?_
 simp only [pA, pN, sZ, sU]
 refine rT 33 50 (.bool true) rfl rfl hHeld ?_
 simp only [pA, pN, sZ, sU]
 refine rT 34 51 (.pointer none) rfl rfl hHeld ?_
 simp only [pA, pN, sZ, sU]
 refine rY 35 52 rfl rfl (take_load_ps (by rfl) _ rfl _ rfl p hpl.out (fun _ h => (HP2.out).kept h)) hHeld ?_
 simp only [pA, pN, sZ, sU]
 refine rR 36 rfl (fun K hK => ?_)
 rw [if_pos (by rfl)]
 go_simp
 refine (HSt.out _).mono ?_
 rintro e x6 ⟨rfl, gx6⟩
 refine hK.out _ _ (hHeld.trans gx6) (fun _ => ?_)
 replace hHeld := hHeld.trans gx6
 clear hK K
 refine rT 37 54 (.bool true) rfl rfl hHeld ?_
 simp only [pA, pN, sZ, sU]
 refine rT 38 55 (.bool true) rfl rfl hHeld ?_
 simp only [pA, pN, sZ, sU]
 refine rT 39 4 (.bool true) rfl rfl hHeld ?_
 simp only [pA, pN, sZ, sU]
 refine wpAnyH_done (by kernel_rfl) ?_ _
 have HKe := Lib.hid (HK2.out.trans hHeld)
 clear hHeld
 go_wp2
 go_ret
 exact ⟨rfl, HKe.out⟩
end Go.Proofs.YtfekipadkenhpaaGreatDoor
