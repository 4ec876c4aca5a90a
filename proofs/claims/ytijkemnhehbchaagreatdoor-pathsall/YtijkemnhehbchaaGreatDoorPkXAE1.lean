/- PoF · PoO · PoL · MvM · MvH · MvI · MvJ: my texts, in their order. -/
import Derived.Test.YtijkemnhehbchaaGreatDoorPkXAE0
import Derived.Test.YtijkemnhehbchaaGreatDoorPkA
import Derived.Test.YtijkemnhehbchaaGreatDoorPkB
import Derived.Test.YtijkemnhehbchaaGreatDoorPkC
import Derived.Test.YtijkemnhehbchaaGreatDoorPkD
import Derived.Test.YtijkemnhehbchaaGreatDoorPkE
import Derived.Test.YtijkemnhehbchaaGreatDoorPkF
import Derived.Test.YtijkemnhehbchaaGreatDoorPkH
import Derived.Test.YtijkemnhehbchaaGreatDoorPkI
import Derived.Test.YtijkemnhehbchaaGreatDoorPkJ
import Derived.Test.YtijkemnhehbchaaGreatDoorPkK
import Derived.Test.YtijkemnhehbchaaGreatDoorPkL
import Derived.Test.YtijkemnhehbchaaGreatDoorPkM
import Derived.Lib.SmallJoins
import Derived.LaidSub
namespace Go.Proofs.YtijkemnhehbchaaGreatDoor
open Go.RowKit
set_option linter.unusedVariables false
set_option linter.unusedSimpArgs false
theorem rpw_board (p:Ps) (hB:Brd p.B) (a0:wrongI p.B≠0) (w:World) :
  Calls Tryz.prog 8 #[.agg (pl p).toArray] w fun e w'=>e=.returned (.int .i64 (pwI p))∧Kept w w':=by
 have HP:=Qh (PAt.new w hB.1)
 have HK0:=Qh ((Kept.refl w).alloc (.cells (pl p).toArray 26))
 have HB:=Qh hB
 have HC0:=Qh (rwrong_is p.B hB)
 have HF:Hid (pwI p=wrongI p.B):=by unfold pwI;rw [if_pos a0];rfl
 have b0:(wrongI p.B != 0)=true:=bne_iff_ne.2 a0
 clear hB a0
 go_enter Tryz.func8,Tryz.ntmps8
 go_wp2_with (first|(refine wpList_load_ps (by rfl) _ rfl _ rfl _ (HP.out) ?_)|(refine wpList_load_pb (by rfl) _ rfl _ rfl _ (HP.out) ?_))
 refine (HC0.out _).mono ?_
 rintro e w1 ⟨rfl,k1⟩
 have HK1:=Qh (HK0.out.trans k1)
 have HP1:=Qh (HP.out.kept k1)
 have ct:=HP1.out.turn
 have cc:=HP1.out.cas
 have ce:=HP1.out.ep
 clear k1
 go_wp2
 go_ret
 exact ⟨by rw [HF.out];rfl,HK1.out⟩
theorem rpw_t0 (p:Ps) (hB:Brd p.B) (a0:wrongI p.B=0) (h:p.t<0) (w:World) :
  Calls Tryz.prog 8 #[.agg (pl p).toArray] w fun e w'=>e=.returned (.int .i64 (pwI p))∧Kept w w':=by
 have HP:=Qh (PAt.new w hB.1)
 have HK0:=Qh ((Kept.refl w).alloc (.cells (pl p).toArray 26))
 have HB:=Qh hB
 have HC0:=Qh (rwrong_is p.B hB)
 have HF:Hid (pwI p=5):=by
  have:withinB p=false:=by rw [← Bool.not_eq_true,within_iff];omega
  unfold pwI;rw [if_neg (by omega),if_pos this];rfl
 rw [a0] at HC0
 clear hB a0
 go_enter Tryz.func8,Tryz.ntmps8
 go_wp2_with (first|(refine wpList_load_ps (by rfl) _ rfl _ rfl _ (HP.out) ?_)|(refine wpList_load_pb (by rfl) _ rfl _ rfl _ (HP.out) ?_))
 refine (HC0.out _).mono ?_
 rintro e w1 ⟨rfl,k1⟩
 have HK1:=Qh (HK0.out.trans k1)
 have HP1:=Qh (HP.out.kept k1)
 have ct:=HP1.out.turn
 have cc:=HP1.out.cas
 have ce:=HP1.out.ep
 clear k1
 go_wp2
 go_ret
 exact ⟨by rw [HF.out];rfl,HK1.out⟩
theorem rpw_t1 (p:Ps) (hB:Brd p.B) (a0:wrongI p.B=0) (h:1<p.t) (w:World) :
  Calls Tryz.prog 8 #[.agg (pl p).toArray] w fun e w'=>e=.returned (.int .i64 (pwI p))∧Kept w w':=by
 have HP:=Qh (PAt.new w hB.1)
 have HK0:=Qh ((Kept.refl w).alloc (.cells (pl p).toArray 26))
 have HB:=Qh hB
 have HC0:=Qh (rwrong_is p.B hB)
 have HF:Hid (pwI p=5):=by
  have:withinB p=false:=by rw [← Bool.not_eq_true,within_iff];omega
  unfold pwI;rw [if_neg (by omega),if_pos this];rfl
 have n0:¬ p.t<0:=by omega
 rw [a0] at HC0
 clear hB a0
 go_enter Tryz.func8,Tryz.ntmps8
 go_wp2_with (first|(refine wpList_load_ps (by rfl) _ rfl _ rfl _ (HP.out) ?_)|(refine wpList_load_pb (by rfl) _ rfl _ rfl _ (HP.out) ?_))
 refine (HC0.out _).mono ?_
 rintro e w1 ⟨rfl,k1⟩
 have HK1:=Qh (HK0.out.trans k1)
 have HP1:=Qh (HP.out.kept k1)
 have ct:=HP1.out.turn
 have cc:=HP1.out.cas
 have ce:=HP1.out.ep
 clear k1
 go_wp2
 go_ret
 exact ⟨by rw [HF.out];rfl,HK1.out⟩
theorem rpw_c0 (p:Ps) (hB:Brd p.B) (a0:wrongI p.B=0) (n0:¬ p.t<0) (n1:¬ 1<p.t) (h:p.c<0) (w:World) :
  Calls Tryz.prog 8 #[.agg (pl p).toArray] w fun e w'=>e=.returned (.int .i64 (pwI p))∧Kept w w':=by
 have HP:=Qh (PAt.new w hB.1)
 have HK0:=Qh ((Kept.refl w).alloc (.cells (pl p).toArray 26))
 have HB:=Qh hB
 have HC0:=Qh (rwrong_is p.B hB)
 have HF:Hid (pwI p=5):=by
  have:withinB p=false:=by rw [← Bool.not_eq_true,within_iff];omega
  unfold pwI;rw [if_neg (by omega),if_pos this];rfl
 rw [a0] at HC0
 clear hB a0
 go_enter Tryz.func8,Tryz.ntmps8
 go_wp2_with (first|(refine wpList_load_ps (by rfl) _ rfl _ rfl _ (HP.out) ?_)|(refine wpList_load_pb (by rfl) _ rfl _ rfl _ (HP.out) ?_))
 refine (HC0.out _).mono ?_
 rintro e w1 ⟨rfl,k1⟩
 have HK1:=Qh (HK0.out.trans k1)
 have HP1:=Qh (HP.out.kept k1)
 have ct:=HP1.out.turn
 have cc:=HP1.out.cas
 have ce:=HP1.out.ep
 clear k1
 go_wp2
 go_ret
 exact ⟨by rw [HF.out];rfl,HK1.out⟩
theorem rpw_c1 (p:Ps) (hB:Brd p.B) (a0:wrongI p.B=0) (n0:¬ p.t<0) (n1:¬ 1<p.t) (h:15<p.c) (w:World) :
  Calls Tryz.prog 8 #[.agg (pl p).toArray] w fun e w'=>e=.returned (.int .i64 (pwI p))∧Kept w w':=by
 have HP:=Qh (PAt.new w hB.1)
 have HK0:=Qh ((Kept.refl w).alloc (.cells (pl p).toArray 26))
 have HB:=Qh hB
 have HC0:=Qh (rwrong_is p.B hB)
 have HF:Hid (pwI p=5):=by
  have:withinB p=false:=by rw [← Bool.not_eq_true,within_iff];omega
  unfold pwI;rw [if_neg (by omega),if_pos this];rfl
 have n2:¬ p.c<0:=by omega
 rw [a0] at HC0
 clear hB a0
 go_enter Tryz.func8,Tryz.ntmps8
 go_wp2_with (first|(refine wpList_load_ps (by rfl) _ rfl _ rfl _ (HP.out) ?_)|(refine wpList_load_pb (by rfl) _ rfl _ rfl _ (HP.out) ?_))
 refine (HC0.out _).mono ?_
 rintro e w1 ⟨rfl,k1⟩
 have HK1:=Qh (HK0.out.trans k1)
 have HP1:=Qh (HP.out.kept k1)
 have ct:=HP1.out.turn
 have cc:=HP1.out.cas
 have ce:=HP1.out.ep
 clear k1
 go_wp2
 go_ret
 exact ⟨by rw [HF.out];rfl,HK1.out⟩
theorem rpw_e0 (p:Ps) (hB:Brd p.B) (a0:wrongI p.B=0) (n0:¬ p.t<0) (n1:¬ 1<p.t) (n2:¬ p.c<0) (n3:¬ 15<p.c) (h:p.e < -1) (w:World) :
  Calls Tryz.prog 8 #[.agg (pl p).toArray] w fun e w'=>e=.returned (.int .i64 (pwI p))∧Kept w w':=by
 have HP:=Qh (PAt.new w hB.1)
 have HK0:=Qh ((Kept.refl w).alloc (.cells (pl p).toArray 26))
 have HB:=Qh hB
 have HC0:=Qh (rwrong_is p.B hB)
 have HF:Hid (pwI p=5):=by
  have:withinB p=false:=by rw [← Bool.not_eq_true,within_iff];omega
  unfold pwI;rw [if_neg (by omega),if_pos this];rfl
 rw [a0] at HC0
 clear hB a0
 go_enter Tryz.func8,Tryz.ntmps8
 go_wp2_with (first|(refine wpList_load_ps (by rfl) _ rfl _ rfl _ (HP.out) ?_)|(refine wpList_load_pb (by rfl) _ rfl _ rfl _ (HP.out) ?_))
 refine (HC0.out _).mono ?_
 rintro e w1 ⟨rfl,k1⟩
 have HK1:=Qh (HK0.out.trans k1)
 have HP1:=Qh (HP.out.kept k1)
 have ct:=HP1.out.turn
 have cc:=HP1.out.cas
 have ce:=HP1.out.ep
 clear k1
 go_wp2
 go_ret
 exact ⟨by rw [HF.out];rfl,HK1.out⟩
theorem rpw_e1 (p:Ps) (hB:Brd p.B) (a0:wrongI p.B=0) (n0:¬ p.t<0) (n1:¬ 1<p.t) (n2:¬ p.c<0) (n3:¬ 15<p.c) (h:63<p.e) (w:World) :
  Calls Tryz.prog 8 #[.agg (pl p).toArray] w fun e w'=>e=.returned (.int .i64 (pwI p))∧Kept w w':=by
 have HP:=Qh (PAt.new w hB.1)
 have HK0:=Qh ((Kept.refl w).alloc (.cells (pl p).toArray 26))
 have HB:=Qh hB
 have HC0:=Qh (rwrong_is p.B hB)
 have HF:Hid (pwI p=5):=by
  have:withinB p=false:=by rw [← Bool.not_eq_true,within_iff];omega
  unfold pwI;rw [if_neg (by omega),if_pos this];rfl
 have n4:¬ p.e < -1:=by omega
 rw [a0] at HC0
 clear hB a0
 go_enter Tryz.func8,Tryz.ntmps8
 go_wp2_with (first|(refine wpList_load_ps (by rfl) _ rfl _ rfl _ (HP.out) ?_)|(refine wpList_load_pb (by rfl) _ rfl _ rfl _ (HP.out) ?_))
 refine (HC0.out _).mono ?_
 rintro e w1 ⟨rfl,k1⟩
 have HK1:=Qh (HK0.out.trans k1)
 have HP1:=Qh (HP.out.kept k1)
 have ct:=HP1.out.turn
 have cc:=HP1.out.cas
 have ce:=HP1.out.ep
 clear k1
 go_wp2
 go_ret
 exact ⟨by rw [HF.out];rfl,HK1.out⟩
set_option maxRecDepth 100000 in
set_option maxHeartbeats 2000000 in
theorem rpw_far (p:Ps) (hB:Brd p.B) (a0:wrongI p.B=0) (a1:withinB p=true) (ha:(farA (kingI p.B 0) (kingI p.B 1) == 1)=true) (w:World) :
  Calls Tryz.prog 8 #[.agg (pl p).toArray] w fun e w'=>e=.returned (.int .i64 (pwI p))∧Kept w w':=by
 have HP:=Qh (PAt.new w hB.1)
 have HK0:=Qh ((Kept.refl w).alloc (.cells (pl p).toArray 26))
 have HB:=Qh hB
 have HC0:=Qh (rwrong_is p.B hB)
 obtain ⟨t01,⟨c0,c1⟩,e0,e1⟩:=(within_iff p).1 a1
 have hwr:IntKind.i64.wrap (1-p.t)=1-p.t:=by rcases t01 with h|h <;> rw [h] <;> decide
 have n0:¬ p.t<0:=by omega
 have n1:¬ 1<p.t:=by omega
 have n2:¬ p.c<0:=by omega
 have n3:¬ 15<p.c:=by omega
 have n4:¬ p.e < -1:=by omega
 have n5:¬ 63<p.e:=by omega
 have HKa:=Qh (rking_is p.B hB 0)
 have HKb:=Qh (rking_is p.B hB 1)
 have HFa:=Qh (rfar_any (kingI p.B 0) (kingI p.B 1))
 have HCk:=Qh (rcheck_is p.B hB (1-p.t) (by omega))
 have HTo:Hid (touchB p=((farA (kingI p.B 0) (kingI p.B 1) == 1) || checkB p.B (1-p.t))):=by
  have:otherI p.t=1-p.t:=by unfold otherI;split <;> first|omega|(split <;> omega)
  unfold touchB;rw [this];rfl
 rw [ha] at HTo
 have HF:Hid (pwI p=9):=by
  unfold pwI;rw [if_neg (by omega),if_neg (by rw [a1];decide),if_pos (by rw [HTo.out];rfl)];rfl
 rw [a0] at HC0
 clear hB a0 a1 HTo
 generalize farA (kingI p.B 0) (kingI p.B 1)=F at *
 generalize checkB p.B (1-p.t)=cb at *
 generalize kingI p.B 0=K0 at *
 generalize kingI p.B 1=K1 at *
 go_enter Tryz.func8,Tryz.ntmps8
 go_wp2_with (first|(refine wpList_load_ps (by rfl) _ rfl _ rfl _ (HP.out) ?_)|(refine wpList_load_pb (by rfl) _ rfl _ rfl _ (HP.out) ?_))
 refine (HC0.out _).mono ?_
 rintro e w1 ⟨rfl,k1⟩
 have HK1:=Qh (HK0.out.trans k1)
 have HP1:=Qh (HP.out.kept k1)
 have ct:=HP1.out.turn
 have cc:=HP1.out.cas
 have ce:=HP1.out.ep
 clear k1
 go_wp2
 refine wp_region_held_drew (S:=Kept _) (by kernel_rfl) (Kept.refl _).drew (fun Qj=>?_)
 refine rT 0 39 (.pointer (some ⟨w.heap.size,0,none⟩)) rfl rfl Qj ?_
 simp only [pA,pN,sZ,sU]
 refine rY 1 40 rfl rfl (take_load_pb (by rfl) _ rfl _ rfl p HB.out.1 (fun _ h=>(HP1.out).kept h)) Qj ?_
 simp only [pA,pN,sZ,sU]
 refine rT 3 42 (.pointer (some ⟨w.heap.size,0,none⟩)) rfl rfl Qj ?_
 simp only [pA,pN,sZ,sU]
 refine rY 4 43 rfl rfl (take_load_pb (by rfl) _ rfl _ rfl p HB.out.1 (fun _ h=>(HP1.out).kept h)) Qj ?_
 simp only [pA,pN,sZ,sU]
 refine rR 2 rfl (fun K hK=>?_)
 go_simp
 refine (HKa.out _).mono ?_
 rintro e x1 ⟨rfl,gx1⟩
 refine hK.out _ _ (Qj.trans gx1) (fun _=>?_)
 replace Qj:=Qj.trans gx1
 clear hK K
 refine rR 5 rfl (fun K hK=>?_)
 go_simp
 refine (HKb.out _).mono ?_
 rintro e x2 ⟨rfl,gx2⟩
 refine hK.out _ _ (Qj.trans gx2) (fun _=>?_)
 replace Qj:=Qj.trans gx2
 clear hK K
 refine rR 6 rfl (fun K hK=>?_)
 go_simp
 refine (HFa.out _).mono ?_
 rintro e x3 ⟨rfl,gx3⟩
 refine hK.out _ _ (Qj.trans gx3) (fun _=>?_)
 replace Qj:=Qj.trans gx3
 clear hK K
 refine rT 7 46 (.bool true) rfl rfl Qj ?_
 simp only [pA,pN,sZ,sU]
 refine rT 8 47 (.bool true) rfl rfl Qj ?_
 simp only [pA,pN,sZ,sU]
 refine rN 9 48 rfl rfl Qj ?_
 simp only [pA,pN,sZ,sU]
 refine rN 10 49 rfl rfl Qj ?_
 simp only [pA,pN,sZ,sU]
 refine rN 11 50 rfl rfl Qj ?_
 simp only [pA,pN,sZ,sU]
 refine rN 12 51 rfl rfl Qj ?_
 simp only [pA,pN,sZ,sU]
 refine rN 13 52 rfl rfl Qj ?_
 simp only [pA,pN,sZ,sU]
 refine rN 14 53 rfl rfl Qj ?_
 simp only [pA,pN,sZ,sU]
 refine rT 15 54 (.bool true) rfl rfl Qj ?_
 simp only [pA,pN,sZ,sU]
 refine wpAnyH_done (by kernel_rfl) ?_ _
 have HA:=Qh Qj
 clear Qj ct cc ce
 go_wp2
 go_ret
 exact ⟨by rw [HF.out];rfl,HK1.out.trans HA.out⟩
set_option maxRecDepth 100000 in
set_option maxHeartbeats 2000000 in
theorem rpw_chk (p:Ps) (hB:Brd p.B) (a0:wrongI p.B=0) (a1:withinB p=true) (ha:(farA (kingI p.B 0) (kingI p.B 1) == 1)=false) (hb:checkB p.B (1-p.t)=true) (w:World) :
  Calls Tryz.prog 8 #[.agg (pl p).toArray] w fun e w'=>e=.returned (.int .i64 (pwI p))∧Kept w w':=by
 have HP:=Qh (PAt.new w hB.1)
 have HK0:=Qh ((Kept.refl w).alloc (.cells (pl p).toArray 26))
 have HB:=Qh hB
 have HC0:=Qh (rwrong_is p.B hB)
 obtain ⟨t01,⟨c0,c1⟩,e0,e1⟩:=(within_iff p).1 a1
 have hwr:IntKind.i64.wrap (1-p.t)=1-p.t:=by rcases t01 with h|h <;> rw [h] <;> decide
 have n0:¬ p.t<0:=by omega
 have n1:¬ 1<p.t:=by omega
 have n2:¬ p.c<0:=by omega
 have n3:¬ 15<p.c:=by omega
 have n4:¬ p.e < -1:=by omega
 have n5:¬ 63<p.e:=by omega
 have HKa:=Qh (rking_is p.B hB 0)
 have HKb:=Qh (rking_is p.B hB 1)
 have HFa:=Qh (rfar_any (kingI p.B 0) (kingI p.B 1))
 have HCk:=Qh (rcheck_is p.B hB (1-p.t) (by omega))
 have HTo:Hid (touchB p=((farA (kingI p.B 0) (kingI p.B 1) == 1) || checkB p.B (1-p.t))):=by
  have:otherI p.t=1-p.t:=by unfold otherI;split <;> first|omega|(split <;> omega)
  unfold touchB;rw [this];rfl
 rw [ha,hb] at HTo
 have HF:Hid (pwI p=9):=by
  unfold pwI;rw [if_neg (by omega),if_neg (by rw [a1];decide),if_pos (by rw [HTo.out];rfl)];rfl
 rw [a0] at HC0
 rw [hb] at HCk
 clear hB a0 a1 HTo hb
 generalize farA (kingI p.B 0) (kingI p.B 1)=F at *
 generalize kingI p.B 0=K0 at *
 generalize kingI p.B 1=K1 at *
 go_enter Tryz.func8,Tryz.ntmps8
 go_wp2_with (first|(refine wpList_load_ps (by rfl) _ rfl _ rfl _ (HP.out) ?_)|(refine wpList_load_pb (by rfl) _ rfl _ rfl _ (HP.out) ?_))
 refine (HC0.out _).mono ?_
 rintro e w1 ⟨rfl,k1⟩
 have HK1:=Qh (HK0.out.trans k1)
 have HP1:=Qh (HP.out.kept k1)
 have ct:=HP1.out.turn
 have cc:=HP1.out.cas
 have ce:=HP1.out.ep
 clear k1
 go_wp2
 refine wp_region_held_drew (S:=Kept _) (by kernel_rfl) (Kept.refl _).drew (fun Qj=>?_)
 refine rT 0 39 (.pointer (some ⟨w.heap.size,0,none⟩)) rfl rfl Qj ?_
 simp only [pA,pN,sZ,sU]
 refine rY 1 40 rfl rfl (take_load_pb (by rfl) _ rfl _ rfl p HB.out.1 (fun _ h=>(HP1.out).kept h)) Qj ?_
 simp only [pA,pN,sZ,sU]
 refine rT 3 42 (.pointer (some ⟨w.heap.size,0,none⟩)) rfl rfl Qj ?_
 simp only [pA,pN,sZ,sU]
 refine rY 4 43 rfl rfl (take_load_pb (by rfl) _ rfl _ rfl p HB.out.1 (fun _ h=>(HP1.out).kept h)) Qj ?_
 simp only [pA,pN,sZ,sU]
 refine rR 2 rfl (fun K hK=>?_)
 go_simp
 refine (HKa.out _).mono ?_
 rintro e x1 ⟨rfl,gx1⟩
 refine hK.out _ _ (Qj.trans gx1) (fun _=>?_)
 replace Qj:=Qj.trans gx1
 clear hK K
 refine rR 5 rfl (fun K hK=>?_)
 go_simp
 refine (HKb.out _).mono ?_
 rintro e x2 ⟨rfl,gx2⟩
 refine hK.out _ _ (Qj.trans gx2) (fun _=>?_)
 replace Qj:=Qj.trans gx2
 clear hK K
 refine rR 6 rfl (fun K hK=>?_)
 go_simp
 refine (HFa.out _).mono ?_
 rintro e x3 ⟨rfl,gx3⟩
 refine hK.out _ _ (Qj.trans gx3) (fun _=>?_)
 replace Qj:=Qj.trans gx3
 clear hK K
 refine rT 7 46 (.bool false) rfl rfl Qj ?_
 simp only [pA,pN,sZ,sU]
 refine rT 8 47 (.bool false) rfl rfl Qj ?_
 simp only [pA,pN,sZ,sU]
 refine rT 9 48 (.pointer (some ⟨w.heap.size,0,none⟩)) rfl rfl Qj ?_
 simp only [pA,pN,sZ,sU]
 refine rY 10 49 rfl rfl (take_load_pb (by rfl) _ rfl _ rfl p HB.out.1 (fun _ h=>(HP1.out).kept h)) Qj ?_
 simp only [pA,pN,sZ,sU]
 refine rT 11 50 (.pointer (some ⟨w.heap.size,64,none⟩)) rfl rfl Qj ?_
 simp only [pA,pN,sZ,sU]
 refine rC 12 51 (.int .i64 p.t) rfl rfl (fun _ h=>kept_cell h (HP1.out.turn)) Qj ?_
 simp only [pA,pN,sZ,sU]
 refine rT 13 52 (.int .i64 (1-p.t)) rfl rfl Qj ?_
 simp only [pA,pN,sZ,sU]
 refine rR 14 rfl (fun K hK=>?_)
 go_simp
 refine (HCk.out _).mono ?_
 rintro e x4 ⟨rfl,gx4⟩
 refine hK.out _ _ (Qj.trans gx4) (fun _=>?_)
 replace Qj:=Qj.trans gx4
 clear hK K
 refine rT 15 54 (.bool true) rfl rfl Qj ?_
 simp only [pA,pN,sZ,sU]
 refine wpAnyH_done (by kernel_rfl) ?_ _
 have HA:=Qh Qj
 clear Qj ct cc ce
 go_wp2
 go_ret
 exact ⟨by rw [HF.out];rfl,HK1.out.trans HA.out⟩
def rg (k:Nat):Int:=[1,2,4,8,16].getD k 0
theorem rg_at {k:Nat} (hk:k<4):rg k=hR k∧1≤rg k∧rg k≤8∧2*rg k=rg (k+1):=by
 have:k=0∨k=1∨k=2∨k=3:=by omega
 rcases this with rfl|rfl|rfl|rfl <;> decide
theorem rg_end {k:Nat} (hk:k≤4) (h:¬ k<4):¬ rg k≤8:=by
 obtain rfl:k=4:=by omega
 decide
set_option maxRecDepth 100000 in
set_option maxHeartbeats 4000000 in
theorem rpw_rest (p:Ps) (hB:Brd p.B) (a0:wrongI p.B=0) (a1:withinB p=true) (a2:touchB p=false) (w:World) :
  Calls Tryz.prog 8 #[.agg (pl p).toArray] w fun e w'=>e=.returned (.int .i64 (pwI p))∧Kept w w':=by
 have HP:=Qh (PAt.new w hB.1)
 have HK0:=Qh ((Kept.refl w).alloc (.cells (pl p).toArray 26))
 have HB:=Qh hB
 have HC0:=Qh (rwrong_is p.B hB)
 obtain ⟨t01,⟨c0,c1⟩,e0,e1⟩:=(within_iff p).1 a1
 have hwr:IntKind.i64.wrap (1-p.t)=1-p.t:=by rcases t01 with h|h <;> rw [h] <;> decide
 have n0:¬ p.t<0:=by omega
 have n1:¬ 1<p.t:=by omega
 have n2:¬ p.c<0:=by omega
 have n3:¬ 15<p.c:=by omega
 have n4:¬ p.e < -1:=by omega
 have n5:¬ 63<p.e:=by omega
 have HKa:=Qh (rking_is p.B hB 0)
 have HKb:=Qh (rking_is p.B hB 1)
 have HFa:=Qh (rfar_any (kingI p.B 0) (kingI p.B 1))
 have HCk:=Qh (rcheck_is p.B hB (1-p.t) (by omega))
 have HTo:Hid (touchB p=((farA (kingI p.B 0) (kingI p.B 1) == 1) || checkB p.B (1-p.t))):=by
  have:otherI p.t=1-p.t:=by unfold otherI;split <;> first|omega|(split <;> omega)
  unfold touchB;rw [this];rfl
 rw [a2] at HTo
 obtain ⟨ha,hb⟩:=Bool.or_eq_false_iff.1 HTo.out.symm
 have HF10:Hid (casB p=false→pwI p=10):=by
  show _→_
  intro h;unfold pwI;rw [if_neg (by omega),if_neg (by rw [a1];decide),if_neg (by rw [a2];decide),if_pos h]
 have HF11:Hid (casB p=true→0≤p.e→passI p<0→pwI p=11):=by
  show _→_
  intro h h1 h2
  have:epB p=false:=by
   unfold epB passB
   rw [show decide (0≤passI p)=false by rw [decide_eq_false_iff_not];omega,show (p.e == -1)=false by rw [beq_eq_false_iff_ne];omega]
   rfl
  unfold pwI;rw [if_neg (by omega),if_neg (by rw [a1];decide),if_neg (by rw [a2];decide),if_neg (by rw [h];decide),if_pos this]
 have HF0:Hid (casB p=true→(p.e<0∨0≤passI p)→pwI p=0):=by
  show _→_
  intro h h1
  have:epB p=true:=by
   unfold epB passB
   rw [Bool.or_eq_true,decide_eq_true_iff,beq_iff_eq]
   omega
  unfold pwI;rw [if_neg (by omega),if_neg (by rw [a1];decide),if_neg (by rw [a2];decide),if_neg (by rw [h];decide),if_neg (by rw [this];decide)]
 have HPs:=Qh (rpassed_is p hB)
 have HBk:=Qh (rbacked_is p.B hB)
 have HHas:=Qh (fun r w h1 h2=>rhas_is p.c r w c0 c1 h1 h2)
 rw [a0] at HC0
 rw [hb] at HCk
 clear hB a0 a1 a2 HTo hb
 generalize farA (kingI p.B 0) (kingI p.B 1)=F at *
 generalize kingI p.B 0=K0 at *
 generalize kingI p.B 1=K1 at *
 go_enter Tryz.func8,Tryz.ntmps8
 go_wp2_with (first|(refine wpList_load_ps (by rfl) _ rfl _ rfl _ (HP.out) ?_)|(refine wpList_load_pb (by rfl) _ rfl _ rfl _ (HP.out) ?_))
 refine (HC0.out _).mono ?_
 rintro e w1 ⟨rfl,k1⟩
 have HK1:=Qh (HK0.out.trans k1)
 have HP1:=Qh (HP.out.kept k1)
 have ct:=HP1.out.turn
 have cc:=HP1.out.cas
 have ce:=HP1.out.ep
 clear k1
 go_wp2
 refine wp_region_held_drew (S:=Kept _) (by kernel_rfl) (Kept.refl _).drew (fun Qj=>?_)
 refine rT 0 39 (.pointer (some ⟨w.heap.size,0,none⟩)) rfl rfl Qj ?_
 simp only [pA,pN,sZ,sU]
 refine rY 1 40 rfl rfl (take_load_pb (by rfl) _ rfl _ rfl p HB.out.1 (fun _ h=>(HP1.out).kept h)) Qj ?_
 simp only [pA,pN,sZ,sU]
 refine rT 3 42 (.pointer (some ⟨w.heap.size,0,none⟩)) rfl rfl Qj ?_
 simp only [pA,pN,sZ,sU]
 refine rY 4 43 rfl rfl (take_load_pb (by rfl) _ rfl _ rfl p HB.out.1 (fun _ h=>(HP1.out).kept h)) Qj ?_
 simp only [pA,pN,sZ,sU]
 refine rR 2 rfl (fun K hK=>?_)
 go_simp
 refine (HKa.out _).mono ?_
 rintro e x1 ⟨rfl,gx1⟩
 refine hK.out _ _ (Qj.trans gx1) (fun _=>?_)
 replace Qj:=Qj.trans gx1
 clear hK K
 refine rR 5 rfl (fun K hK=>?_)
 go_simp
 refine (HKb.out _).mono ?_
 rintro e x2 ⟨rfl,gx2⟩
 refine hK.out _ _ (Qj.trans gx2) (fun _=>?_)
 replace Qj:=Qj.trans gx2
 clear hK K
 refine rR 6 rfl (fun K hK=>?_)
 go_simp
 refine (HFa.out _).mono ?_
 rintro e x3 ⟨rfl,gx3⟩
 refine hK.out _ _ (Qj.trans gx3) (fun _=>?_)
 replace Qj:=Qj.trans gx3
 clear hK K
 refine rT 7 46 (.bool false) rfl rfl Qj ?_
 simp only [pA,pN,sZ,sU]
 refine rT 8 47 (.bool false) rfl rfl Qj ?_
 simp only [pA,pN,sZ,sU]
 refine rT 9 48 (.pointer (some ⟨w.heap.size,0,none⟩)) rfl rfl Qj ?_
 simp only [pA,pN,sZ,sU]
 refine rY 10 49 rfl rfl (take_load_pb (by rfl) _ rfl _ rfl p HB.out.1 (fun _ h=>(HP1.out).kept h)) Qj ?_
 simp only [pA,pN,sZ,sU]
 refine rT 11 50 (.pointer (some ⟨w.heap.size,64,none⟩)) rfl rfl Qj ?_
 simp only [pA,pN,sZ,sU]
 refine rC 12 51 (.int .i64 p.t) rfl rfl (fun _ h=>kept_cell h (HP1.out.turn)) Qj ?_
 simp only [pA,pN,sZ,sU]
 refine rT 13 52 (.int .i64 (1-p.t)) rfl rfl Qj ?_
 simp only [pA,pN,sZ,sU]
 refine rR 14 rfl (fun K hK=>?_)
 go_simp
 refine (HCk.out _).mono ?_
 rintro e x4 ⟨rfl,gx4⟩
 refine hK.out _ _ (Qj.trans gx4) (fun _=>?_)
 replace Qj:=Qj.trans gx4
 clear hK K
 refine rT 15 54 (.bool false) rfl rfl Qj ?_
 simp only [pA,pN,sZ,sU]
 refine wpAnyH_done (by kernel_rfl) ?_ _
 have HK2:=Qh (HK1.out.trans Qj)
 have HP2:=Qh (HP1.out.kept Qj)
 clear Qj ct cc ce gx1 gx2 gx3 gx4
 go_wp2
 go_loopw [4] (fun t4 wr=>∃ k:Nat,k≤4∧t4=.int .i64 (rg k)∧(∀ j,j<k→okC p j=true)∧Kept x4 wr) (fun t4 _=>(16-intOf t4).toNat)
 case atStart=>exact ⟨0,by omega,rfl,fun j hj=>by omega,Kept.refl _⟩
 case round =>
  obtain ⟨k,hk,rfl,hno,hK⟩:=hrel
  have HNo:=Qh hno
  have HK:=Qh (HK2.out.trans hK)
  have HKr:=Qh hK
  have HPr:=Qh (HP2.out.kept hK)
  clear hno hK
  by_cases hlt:k<4
  ·obtain ⟨r1,r2,r3,r4⟩:=rg_at hlt
   have HN:=Qh r4
   have HOk:Hid (okC p k=(!rgtB p.c (rg k) || backB p.B (rg k))):=by rw [r1];rfl
   have HH:=Qh (fun w=>HHas.out (rg k) w r2 r3)
   have HBr:=Qh (HBk.out (rg k))
   have cc:=HPr.out.cas
   clear r1 r4
   generalize backB p.B (rg k)=bb at *
   generalize hrr:rg k=r at *
   have HRR:=Qh hrr
   clear hrr
   cases hh:rgtB p.c r
   ·rw [hh] at HOk HH
    clear hh
    go_wp2_with fail
    refine (HH.out _).mono ?_
    rintro e w3 ⟨rfl,k3⟩
    have HK3:=Qh (HKr.out.trans k3)
    clear k3 cc
    go_wp2
    go_roundw
    case rel=>exact ⟨k+1,by omega,by rw [← HN.out],fun j hj=>by rcases Nat.lt_succ_iff_lt_or_eq.1 hj with h|h;exact HNo.out j h;rw [h,HOk.out];rfl,HK3.out⟩
    case measure=>simp [intOf];omega
   ·rw [hh] at HOk HH
    clear hh
    cases bb
    ·have HF:=Qh (HF10.out (cas_no hlt HOk.out))
     go_wp2_with fail
     refine (HH.out _).mono ?_
     rintro e w3 ⟨rfl,k3⟩
     have HK3:=Qh (HK.out.trans k3)
     have HP3:=Qh (HPr.out.kept k3)
     clear k3 cc
     go_wp2_with (first|(refine wpList_load_ps (by rfl) _ rfl _ rfl _ (HP3.out) ?_)|(refine wpList_load_pb (by rfl) _ rfl _ rfl _ (HP3.out) ?_))
     refine (HBr.out _).mono ?_
     rintro e w4 ⟨rfl,k4⟩
     have HK4:=Qh (HK3.out.trans k4)
     clear k4
     go_wp2
     go_ret
     exact ⟨by rw [HF.out];rfl,HK4.out⟩
    ·skip
     go_wp2_with fail
     refine (HH.out _).mono ?_
     rintro e w3 ⟨rfl,k3⟩
     have HK3:=Qh (HKr.out.trans k3)
     have HP3:=Qh (HPr.out.kept k3)
     clear k3 cc
     go_wp2_with (first|(refine wpList_load_ps (by rfl) _ rfl _ rfl _ (HP3.out) ?_)|(refine wpList_load_pb (by rfl) _ rfl _ rfl _ (HP3.out) ?_))
     refine (HBr.out _).mono ?_
     rintro e w4 ⟨rfl,k4⟩
     have HK4:=Qh (HK3.out.trans k4)
     clear k4
     go_wp2
     go_roundw
     case rel=>exact ⟨k+1,by omega,by rw [← HN.out],fun j hj=>by rcases Nat.lt_succ_iff_lt_or_eq.1 hj with h|h;exact HNo.out j h;rw [h,HOk.out];rfl,HK4.out⟩
     case measure=>simp [intOf];omega
  ·have HCas:=Qh (cas_yes (p:=p) (fun j hj=>HNo.out j (by omega)))
   have hend:=rg_end hk hlt
   have ce:=HPr.out.ep
   generalize rg k=r at *
   by_cases he:0≤p.e
   ·by_cases hp:passI p<0
    ·have HF:=Qh (HF11.out HCas.out he hp)
     generalize passI p=ps at *
     go_wp2_with (first|(refine wpList_load_ps (by rfl) _ rfl _ rfl _ (HPr.out) ?_)|(refine wpList_load_pb (by rfl) _ rfl _ rfl _ (HPr.out) ?_))
     refine (HPs.out _).mono ?_
     rintro e w3 ⟨rfl,k3⟩
     have HK3:=Qh (HK.out.trans k3)
     clear k3 ce
     go_wp2
     go_ret
     exact ⟨by rw [HF.out];rfl,HK3.out⟩
    ·have HF:=Qh (HF0.out HCas.out (by omega))
     have hp':¬ passI p<0:=hp
     generalize passI p=ps at *
     go_wp2_with (first|(refine wpList_load_ps (by rfl) _ rfl _ rfl _ (HPr.out) ?_)|(refine wpList_load_pb (by rfl) _ rfl _ rfl _ (HPr.out) ?_))
     refine (HPs.out _).mono ?_
     rintro e w3 ⟨rfl,k3⟩
     have HK3:=Qh (HK.out.trans k3)
     clear k3 ce
     go_wp2
     go_ret
     exact ⟨by rw [HF.out];rfl,HK3.out⟩
   ·have HF:=Qh (HF0.out HCas.out (by omega))
    go_wp2
    go_ret
    exact ⟨by rw [HF.out];rfl,HK.out⟩
theorem rpwrong_is (p:Ps) (hB:Brd p.B) (w:World) :
  Calls Tryz.prog 8 #[.agg (pl p).toArray] w fun e w'=>e=.returned (.int .i64 (pwI p))∧Kept w w':=by
 by_cases a0:wrongI p.B=0
 ·cases a1:withinB p
  ·have:=mt (within_iff p).2 (by rw [a1];decide)
   by_cases n0:p.t<0
   ·exact rpw_t0 p hB a0 n0 w
   ·by_cases n1:1<p.t
    ·exact rpw_t1 p hB a0 n1 w
    ·by_cases n2:p.c<0
     ·exact rpw_c0 p hB a0 n0 n1 n2 w
     ·by_cases n3:15<p.c
      ·exact rpw_c1 p hB a0 n0 n1 n3 w
      ·by_cases n4:p.e < -1
       ·exact rpw_e0 p hB a0 n0 n1 n2 n3 n4 w
       ·exact rpw_e1 p hB a0 n0 n1 n2 n3 (by omega) w
  ·cases a2:touchB p
   ·exact rpw_rest p hB a0 a1 a2 w
   ·obtain ⟨t01,_⟩:=(within_iff p).1 a1
    have ho:otherI p.t=1-p.t:=by unfold otherI;split <;> first|omega|(split <;> omega)
    unfold touchB at a2
    rw [ho] at a2
    cases ha:(farA (kingI p.B 0) (kingI p.B 1) == 1)
    ·rw [ha,Bool.false_or] at a2
     exact rpw_chk p hB a0 a1 ha a2 w
    ·exact rpw_far p hB a0 a1 ha w
 ·exact rpw_board p hB a0 w
end Go.Proofs.YtijkemnhehbchaaGreatDoor
namespace Go.Proofs.YtijkemnhehbchaaGreatDoor
open Go.ChangeShapes Go.WideShapes Go.ChangeAt Go.RowKit
open Go.Joins
set_option linter.unusedVariables false
set_option maxRecDepth 100000
set_option linter.unusedSimpArgs false
section
variable {H:Type} {enc:TypeId × Value→H}
theorem trod_board {W:World} {base:Nat} {sp:Nat→Bool} {hd:Bool} {fuel:Nat} {l:List Value} {x:DataW H × List MemPlace}
  (hf:DataW.trod enc Tryz.prog W base sp hd fuel 24 l=some x):∃ B,Brd B∧l=cl B∧x=(dB H B,[]):=by
 obtain ⟨d,p⟩:=x
 obtain ⟨xs,m,rfl,hx,hl,hn,hi⟩:=DataW.trod_array Tryz.underlying24 hf
 have hl64:l.length=64:=by simpa [Value.cells,cells24] using hl
 have hall:∀ i (hi64:i<64),∃ n,l[i]'(by omega)=.int .i8 n∧xs[i]?=some (.lit (.int .i8 n),[])∧(Lit.int .i8 n).wf=true:=by
  intro i hi64
  have h1:=hi i hi64
  have hlt:i<xs.length:=by omega
  rw [cells22,List.getElem?_eq_getElem hlt] at h1
  have h2:(l.drop (i*1)).take 1=[l[i]'(by omega)]:=chunk (cs:=l) (by omega)
  rw [h2] at h1
  obtain ⟨n,e1,e2,e3⟩:=DataW.trod_int Tryz.underlying22 h1
  exact ⟨n,by simpa using e1,by rw [List.getElem?_eq_getElem hlt,e2],e3⟩
 have hlen:(l.map intOf).length=64:=by simp [hl64]
 have hget:∀ i (hi64:i<64),(Lit.int .i8 ((l.map intOf).getD i 0)).wf=true∧l[i]'(by omega)=.int .i8 ((l.map intOf).getD i 0)∧xs[i]?=some (.lit (.int .i8 ((l.map intOf).getD i 0)),[]):=by
  intro i hi64
  obtain ⟨n,e1,e2,e3⟩:=hall i hi64
  have:(l.map intOf).getD i 0=n:=by
   have:i<l.length:=by omega
   simp [List.getD,List.getElem?_eq_getElem this,e1,intOf]
  rw [this]
  exact ⟨e3,e1,e2⟩
 simp only [Prod.mk.injEq] at hx
 refine ⟨l.map intOf,⟨hlen,fun i hi64=>(wf_i8 _).1 (hget i hi64).1⟩,?_,?_⟩
 ·refine List.ext_getElem (by rw [cl_length,hlen,hl64]) fun i h1 h2=>?_
  have h3:=cl_get (l.map intOf) i (by omega)
  rw [List.getElem?_eq_getElem h2] at h3
  rw [(hget i (by omega)).2.1]
  exact (Option.some.inj h3).symm
 ·have e:xs.map (·.1)=(l.map intOf).map fun x=>DataW.lit (.int .i8 x):=by
   refine List.ext_getElem (by simp [hn,hl64]) fun i h1 h2=>?_
   have h3:=(hget i (by simpa [hn] using h1)).2.2
   have hlt:i<xs.length:=by simpa using h1
   rw [List.getElem?_eq_getElem hlt] at h3
   have h4:=Option.some.inj h3
   have h5:i<(l.map intOf).length:=by omega
   simp only [List.getElem_map,h4]
   simp [List.getD,List.getElem?_eq_getElem (show i<l.length by omega)]
  have e2:xs.flatMap (·.2)=[]:=by
   rw [List.flatMap_eq_nil_iff]
   intro x hxs
   obtain ⟨i,hlt,rfl⟩:=List.getElem_of_mem hxs
   have h3:=(hget i (by omega)).2.2
   rw [List.getElem?_eq_getElem hlt] at h3
   rw [Option.some.inj h3]
  rw [hx.1,hx.2,e,e2];rfl
set_option maxRecDepth 100000 in
theorem trod_board_mk {W:World} {base:Nat} {sp:Nat→Bool} {hd:Bool} (B:List Int) (hB:Brd B):DataW.trod enc Tryz.prog W base sp hd 2 24 (cl B)=some (dB H B,[]):=by
 obtain ⟨n,hn⟩:=shut_board (enc:=enc) (W:=W) (base:=base) (sp:=sp) (hd:=hd) B hB
 have hc:(Value.agg (cl B).toArray).cells.toList=cl B:=rfl
 rw [hc] at hn
 have step:∀ i ∈ List.range 64,DataW.trod enc Tryz.prog W base sp hd 1 22 (((cl B).drop (i*Tryz.prog.cellsOf 22)).take (Tryz.prog.cellsOf 22))=some ((DataW.lit (.int .i8 (B.getD i 0)),[]):DataW H × List MemPlace):=by
  intro i hi
  have hi64:i<64:=by simpa using hi
  have hlt:i<(cl B).length:=by rw [cl_length,hB.1];exact hi64
  rw [cells22,chunk hlt]
  have h3:=cl_get B i (by rw [hB.1];exact hi64)
  rw [List.getElem?_eq_getElem hlt] at h3
  rw [Option.some.inj h3]
  have hw:=(wf_i8 _).2 (hB.2 i hi64)
  unfold DataW.trod
  rw [Tryz.underlying22]
  simp only [hw,and_self,if_true]
 have hm:=mapM_some_of_forall (f:=fun i=>DataW.trod enc Tryz.prog W base sp hd 1 22 (((cl B).drop (i*Tryz.prog.cellsOf 22)).take (Tryz.prog.cellsOf 22))) (List.range 64) step
 unfold DataW.trod
 rw [Tryz.underlying24]
 simp only [cl_length,hB.1,cells24,if_true,hm,Option.map_some,Option.some.injEq,Prod.mk.injEq]
 refine ⟨?_,?_⟩
 ·unfold dB
  congr 1
  refine List.ext_getElem (by simp [hB.1]) fun i h1 h2=>?_
  have h3:i<B.length:=by simpa using h2
  simp [List.getD,List.getElem?_eq_getElem h3]
 ·rw [List.flatMap_eq_nil_iff]
  intro x hx
  simp only [List.mem_map] at hx
  obtain ⟨i,_,rfl⟩:=hx
  rfl
def dP (H:Type) (p:Ps):DataW H:=.agg [dB H p.B,.lit (.int .i64 p.t),.lit (.int .i64 p.c),.lit (.int .i64 p.e)]
structure PsW (p:Ps):Prop where
 brd:Brd p.B
 t:(Lit.int .i64 p.t).wf=true
 c:(Lit.int .i64 p.c).wf=true
 e:(Lit.int .i64 p.e).wf=true
theorem cells26:Tryz.prog.cellsOf 26=67:=by kernel_rfl
theorem open_pos {W:World} {base:Nat} {r:Reach} {b0:Nat} {sp:Nat→Bool} {hd:Bool} {v:Value} {d:DataW H} {q:List MemPlace}
  (hv:Value.okWide Tryz.prog W r b0 26 v) (h:DataW.Trod enc Tryz.prog W base sp hd 26 v d q) :
  ∃ p,PsW p∧v=.agg (pl p).toArray∧d=dP H p∧q=[]:=by
 obtain ⟨cs,rfl,hsz,_⟩:∃ cs,v=.agg cs∧cs.size=Tryz.prog.cellsOf 26∧Row.okWide Tryz.prog W r b0 26 cs:=by
  simpa [Value.okWide,Tryz.underlying26] using hv
 obtain ⟨l⟩:=cs
 have hl:l.length=67:=by simpa [cells26] using hsz
 obtain ⟨fuel,hf⟩:=h
 obtain ⟨y0,y1,y2,y3,n,hx,hlen,h0,h1,h2,h3⟩:=trod_struct4 Tryz.underlying26 hf
 rw [cells24] at h0
 rw [cellsInt] at h1 h2 h3
 have hc:(Value.agg ⟨l⟩).cells.toList=l:=rfl
 rw [hc] at h0 h1 h2 h3
 obtain ⟨B,hB,e0,rfl⟩:=trod_board h0
 obtain ⟨t,e1,rfl,wt⟩:=DataW.trod_int Tryz.underlying3 h1
 obtain ⟨c,e2,rfl,wc⟩:=DataW.trod_int Tryz.underlying3 h2
 obtain ⟨e,e3,rfl,we⟩:=DataW.trod_int Tryz.underlying3 h3
 refine ⟨⟨B,t,c,e⟩,⟨hB,wt,wc,we⟩,?_,?_,?_⟩
 ·have:l=cl B++[.int .i64 t,.int .i64 c,.int .i64 e]:=by
   have q1:=congrArg (·[0]?) e1
   have q2:=congrArg (·[0]?) e2
   have q3:=congrArg (·[0]?) e3
   simp [List.getElem?_take,List.getElem?_drop] at q1 q2 q3
   refine List.ext_getElem? fun i=>?_
   have hcl:(cl B).length=64:=by rw [cl_length,hB.1]
   by_cases hi:i<64
   ·rw [List.getElem?_append_left (by omega),← e0]
    simp [List.getElem?_take,hi]
   ·rw [List.getElem?_append_right (by omega),hcl]
    by_cases h64:i=64
    ·subst h64;simpa using q1
    ·by_cases h65:i=65
     ·subst h65;simpa using q2
     ·by_cases h66:i=66
      ·subst h66;simpa using q3
      ·rw [List.getElem?_eq_none (by omega),List.getElem?_eq_none (by simp;omega)]
  rw [this];rfl
 ·simp only [Prod.mk.injEq] at hx
  rw [hx.1];rfl
 ·simp only [Prod.mk.injEq] at hx
  rw [hx.2];rfl
theorem shut_pos {W:World} {base:Nat} {sp:Nat→Bool} {hd:Bool} (p:Ps) (h:PsW p):DataW.Trod enc Tryz.prog W base sp hd 26 (.agg (pl p).toArray) (dP H p) []:=by
 refine ⟨3,?_⟩
 have hc:(Value.agg (pl p).toArray).cells.toList=pl p:=rfl
 rw [hc]
 have hcl:(cl p.B).length=64:=by rw [cl_length,h.brd.1]
 have g1:((pl p).drop 64).take 1=[.int .i64 p.t]:=by unfold pl tlP;rw [List.drop_append,hcl,List.drop_eq_nil_of_le (by omega)];rfl
 have g2:((pl p).drop 65).take 1=[.int .i64 p.c]:=by unfold pl tlP;rw [List.drop_append,hcl,List.drop_eq_nil_of_le (by omega)];rfl
 have g3:((pl p).drop 66).take 1=[.int .i64 p.e]:=by unfold pl tlP;rw [List.drop_append,hcl,List.drop_eq_nil_of_le (by omega)];rfl
 have g0:((pl p).drop 0).take 64=cl p.B:=by unfold pl;rw [List.drop_zero,List.take_append,hcl,List.take_of_length_le (by omega)];simp
 have:=trod_struct4_mk (enc:=enc) (w:=W) (base:=base) (spare:=sp) (held:=hd) (n:=2) (cs:=pl p) (y0:=(dB H p.B,[])) (y1:=(.lit (.int .i64 p.t),[])) (y2:=(.lit (.int .i64 p.c),[])) (y3:=(.lit (.int .i64 p.e),[]))
  Tryz.underlying26 (by rw [pl_length h.brd.1,cells26]) (by rw [cells24];show DataW.trod enc Tryz.prog W base sp hd 2 24 (((pl p).drop 0).take 64)=_;rw [g0];exact trod_board_mk p.B h.brd)
  (by rw [cellsInt];show DataW.trod enc Tryz.prog W base sp hd 2 3 (((pl p).drop 64).take 1)=_;rw [g1];exact trod_int_mk h.t) (by rw [cellsInt];show DataW.trod enc Tryz.prog W base sp hd 2 3 (((pl p).drop 65).take 1)=_;rw [g2];exact trod_int_mk h.c) (by rw [cellsInt];show DataW.trod enc Tryz.prog W base sp hd 2 3 (((pl p).drop 66).take 1)=_;rw [g3];exact trod_int_mk h.e)
 exact this
end
end Go.Proofs.YtijkemnhehbchaaGreatDoor
namespace Go.Proofs.YtijkemnhehbchaaGreatDoor
open Go.RowKit
set_option linter.unusedVariables false
set_option maxRecDepth 100000
set_option linter.unusedSimpArgs false
theorem rfile_k (s:Int) (w:World) (h0:0≤s) (h1:s<64):Calls Tryz.prog 47 #[.int .i64 s] w fun e w'=>e=.returned (.int .i64 (s % 8))∧Kept w w' :=
 (rfile_yes s w h0 h1).mono fun _ _ ⟨a,b⟩=>⟨a,b ▸ Kept.refl _⟩
theorem rrank_k (s:Int) (w:World) (h0:0≤s) (h1:s<64):Calls Tryz.prog 48 #[.int .i64 s] w fun e w'=>e=.returned (.int .i64 (s / 8))∧Kept w w' :=
 (rrank_yes s w h0 h1).mono fun _ _ ⟨a,b⟩=>⟨a,b ▸ Kept.refl _⟩
theorem ext_getD {A B:List Int} (ha:A.length=64) (hb:B.length=64) (h:∀ j,j<64→A.getD j 0=B.getD j 0):A=B:=by
 refine List.ext_getElem (by omega) fun i h1 h2=>?_
 have:=h i (by omega)
 rwa [List.getD_eq_getElem?_getD,List.getD_eq_getElem?_getD,List.getElem?_eq_getElem h1,List.getElem?_eq_getElem h2] at this
theorem beqM_refl (a:Mv):beqM a a=true:=by simp [beqM]
theorem rpawn_is (B:List Int) (hB:Brd B) (k:Nat) (hk:k<64) (w:World):Calls Tryz.prog 55 #[.agg (cl B).toArray,.int .i64 (k:Int)] w fun e w'=>e=.returned (.bool (kindI (B.getD k 0) == 1))∧Kept w w':=by
 have c:=cell_cl hB.1 (heap_alloc_new w (.cells (cl B).toArray 24)) k hk
 have HV:=Qh (kindI_one (B.getD k 0))
 generalize B.getD k 0=x at *
 have hkI:(k:Int)<64:=by omega
 clear hB
 cases h1:(x == 1)
 ·rw [h1] at HV
  go_enter Tryz.func55,Tryz.ntmps55
  go_wp2
  go_ret
  exact ⟨by rw [HV.out];rfl,(Kept.refl _).alloc _⟩
 ·rw [h1] at HV
  go_enter Tryz.func55,Tryz.ntmps55
  go_wp2
  go_ret
  exact ⟨by rw [HV.out];rfl,(Kept.refl _).alloc _⟩
theorem free_0 (B:List Int):freeB B 0=((B.getD 5 0 == 0) && (B.getD 6 0 == 0)):=by
 rw [Bool.eq_iff_iff,free_iff]
 simp only [Bool.and_eq_true,beq_iff_eq]
 constructor
 ·intro h;exact ⟨h 5 (by omega) (by decide) (by decide),h 6 (by omega) (by decide) (by decide)⟩
 ·rintro ⟨a,b⟩ s _ h1 h2
  have h1':5≤s:=h1
  have h2':s<7:=h2
  have:s=5∨s=6:=by omega
  rcases this with rfl|rfl <;> assumption
theorem rclear_0 (B:List Int) (hB:Brd B) (w:World):Calls Tryz.prog 81 #[.agg (cl B).toArray,.int .i64 1] w fun e w'=>e=.returned (.bool (freeB B 0))∧Kept w w':=by
 have c5:=cell_cl hB.1 (heap_alloc_new w (.cells (cl B).toArray 24)) 5 (by omega)
 have c6:=cell_cl hB.1 (heap_alloc_new w (.cells (cl B).toArray 24)) 6 (by omega)
 have HV:=Qh (free_0 B)
 clear hB
 generalize B.getD 5 0=x5 at *
 generalize B.getD 6 0=x6 at *
 cases h1:(x5 == 0)
 ·rw [h1] at HV
  go_enter Tryz.func81,Tryz.ntmps81
  go_wp2
  go_ret
  exact ⟨by rw [HV.out];rfl,(Kept.refl _).alloc _⟩
 ·rw [h1] at HV
  go_enter Tryz.func81,Tryz.ntmps81
  go_wp2
  go_ret
  exact ⟨by rw [HV.out];rfl,(Kept.refl _).alloc _⟩
theorem free_1 (B:List Int):freeB B 1=(((B.getD 1 0 == 0) && (B.getD 2 0 == 0)) && (B.getD 3 0 == 0)):=by
 rw [Bool.eq_iff_iff,free_iff]
 simp only [Bool.and_eq_true,beq_iff_eq]
 constructor
 ·intro h;exact ⟨⟨h 1 (by omega) (by decide) (by decide),h 2 (by omega) (by decide) (by decide)⟩,h 3 (by omega) (by decide) (by decide)⟩
 ·rintro ⟨⟨a,b⟩,c⟩ s _ h1 h2
  have h1':1≤s:=h1
  have h2':s<4:=h2
  have:s=1∨s=2∨s=3:=by omega
  rcases this with rfl|rfl|rfl <;> assumption
theorem rclear_1 (B:List Int) (hB:Brd B) (w:World):Calls Tryz.prog 81 #[.agg (cl B).toArray,.int .i64 2] w fun e w'=>e=.returned (.bool (freeB B 1))∧Kept w w':=by
 have c1:=cell_cl hB.1 (heap_alloc_new w (.cells (cl B).toArray 24)) 1 (by omega)
 have c2:=cell_cl hB.1 (heap_alloc_new w (.cells (cl B).toArray 24)) 2 (by omega)
 have c3:=cell_cl hB.1 (heap_alloc_new w (.cells (cl B).toArray 24)) 3 (by omega)
 have HV:=Qh (free_1 B)
 clear hB
 generalize B.getD 1 0=x1 at *
 generalize B.getD 2 0=x2 at *
 generalize B.getD 3 0=x3 at *
 cases h1:(x1 == 0)
 ·rw [h1] at HV
  go_enter Tryz.func81,Tryz.ntmps81
  go_wp2
  go_ret
  exact ⟨by rw [HV.out];rfl,(Kept.refl _).alloc _⟩
 ·rw [h1] at HV
  cases h2:(x2 == 0)
  ·rw [h2] at HV
   go_enter Tryz.func81,Tryz.ntmps81
   go_wp2
   go_ret
   exact ⟨by rw [HV.out];rfl,(Kept.refl _).alloc _⟩
  ·rw [h2] at HV
   go_enter Tryz.func81,Tryz.ntmps81
   go_wp2
   go_ret
   exact ⟨by rw [HV.out];rfl,(Kept.refl _).alloc _⟩
theorem free_2 (B:List Int):freeB B 2=((B.getD 61 0 == 0) && (B.getD 62 0 == 0)):=by
 rw [Bool.eq_iff_iff,free_iff]
 simp only [Bool.and_eq_true,beq_iff_eq]
 constructor
 ·intro h;exact ⟨h 61 (by omega) (by decide) (by decide),h 62 (by omega) (by decide) (by decide)⟩
 ·rintro ⟨a,b⟩ s _ h1 h2
  have h1':61≤s:=h1
  have h2':s<63:=h2
  have:s=61∨s=62:=by omega
  rcases this with rfl|rfl <;> assumption
theorem rclear_2 (B:List Int) (hB:Brd B) (w:World):Calls Tryz.prog 81 #[.agg (cl B).toArray,.int .i64 4] w fun e w'=>e=.returned (.bool (freeB B 2))∧Kept w w':=by
 have c61:=cell_cl hB.1 (heap_alloc_new w (.cells (cl B).toArray 24)) 61 (by omega)
 have c62:=cell_cl hB.1 (heap_alloc_new w (.cells (cl B).toArray 24)) 62 (by omega)
 have HV:=Qh (free_2 B)
 clear hB
 generalize B.getD 61 0=x61 at *
 generalize B.getD 62 0=x62 at *
 cases h1:(x61 == 0)
 ·rw [h1] at HV
  go_enter Tryz.func81,Tryz.ntmps81
  go_wp2
  go_ret
  exact ⟨by rw [HV.out];rfl,(Kept.refl _).alloc _⟩
 ·rw [h1] at HV
  go_enter Tryz.func81,Tryz.ntmps81
  go_wp2
  go_ret
  exact ⟨by rw [HV.out];rfl,(Kept.refl _).alloc _⟩
theorem free_3 (B:List Int):freeB B 3=(((B.getD 57 0 == 0) && (B.getD 58 0 == 0)) && (B.getD 59 0 == 0)):=by
 rw [Bool.eq_iff_iff,free_iff]
 simp only [Bool.and_eq_true,beq_iff_eq]
 constructor
 ·intro h;exact ⟨⟨h 57 (by omega) (by decide) (by decide),h 58 (by omega) (by decide) (by decide)⟩,h 59 (by omega) (by decide) (by decide)⟩
 ·rintro ⟨⟨a,b⟩,c⟩ s _ h1 h2
  have h1':57≤s:=h1
  have h2':s<60:=h2
  have:s=57∨s=58∨s=59:=by omega
  rcases this with rfl|rfl|rfl <;> assumption
theorem rclear_3 (B:List Int) (hB:Brd B) (w:World):Calls Tryz.prog 81 #[.agg (cl B).toArray,.int .i64 8] w fun e w'=>e=.returned (.bool (freeB B 3))∧Kept w w':=by
 have c57:=cell_cl hB.1 (heap_alloc_new w (.cells (cl B).toArray 24)) 57 (by omega)
 have c58:=cell_cl hB.1 (heap_alloc_new w (.cells (cl B).toArray 24)) 58 (by omega)
 have c59:=cell_cl hB.1 (heap_alloc_new w (.cells (cl B).toArray 24)) 59 (by omega)
 have HV:=Qh (free_3 B)
 clear hB
 generalize B.getD 57 0=x57 at *
 generalize B.getD 58 0=x58 at *
 generalize B.getD 59 0=x59 at *
 cases h1:(x57 == 0)
 ·rw [h1] at HV
  go_enter Tryz.func81,Tryz.ntmps81
  go_wp2
  go_ret
  exact ⟨by rw [HV.out];rfl,(Kept.refl _).alloc _⟩
 ·rw [h1] at HV
  cases h2:(x58 == 0)
  ·rw [h2] at HV
   go_enter Tryz.func81,Tryz.ntmps81
   go_wp2
   go_ret
   exact ⟨by rw [HV.out];rfl,(Kept.refl _).alloc _⟩
  ·rw [h2] at HV
   go_enter Tryz.func81,Tryz.ntmps81
   go_wp2
   go_ret
   exact ⟨by rw [HV.out];rfl,(Kept.refl _).alloc _⟩
theorem rclear_is (B:List Int) (hB:Brd B) (k:Nat) (hk:k<4) (w:World):Calls Tryz.prog 81 #[.agg (cl B).toArray,.int .i64 (hR k)] w fun e w'=>e=.returned (.bool (freeB B k))∧Kept w w':=by
 have:k=0∨k=1∨k=2∨k=3:=by omega
 rcases this with rfl|rfl|rfl|rfl
 ·exact rclear_0 B hB w
 ·exact rclear_1 B hB w
 ·exact rclear_2 B hB w
 ·exact rclear_3 B hB w
def lostI (s:Int):Int:=if s=0 then 2 else if s=4 then 3 else if s=7 then 1 else if s=56 then 8 else if s=60 then 12 else if s=63 then 4 else 0
theorem lost_is (s:Int) (w:World):Calls Tryz.prog 54 #[.int .i64 s] w fun e w'=>e=.returned (.int .i64 (lostI s))∧Kept w w':=by
 by_cases h0:s=0
 ·have HV:Hid (lostI s=2):=by show _=_;unfold lostI;rw [if_pos h0]
  have b0:(s == 0)=true:=beq_iff_eq.2 h0
  clear h0
  go_enter Tryz.func54,Tryz.ntmps54
  go_wp2
  go_ret
  exact ⟨by rw [HV.out];rfl,Kept.refl _⟩
 ·have b0:(s == 0)=false:=beq_eq_false_iff_ne.2 h0
  by_cases h1:s=4
  ·have HV:Hid (lostI s=3):=by show _=_;unfold lostI;rw [if_neg h0,if_pos h1]
   have b1:(s == 4)=true:=beq_iff_eq.2 h1
   clear h0 h1
   go_enter Tryz.func54,Tryz.ntmps54
   go_wp2
   go_ret
   exact ⟨by rw [HV.out];rfl,Kept.refl _⟩
  ·have b1:(s == 4)=false:=beq_eq_false_iff_ne.2 h1
   by_cases h2:s=7
   ·have HV:Hid (lostI s=1):=by show _=_;unfold lostI;rw [if_neg h0,if_neg h1,if_pos h2]
    have b2:(s == 7)=true:=beq_iff_eq.2 h2
    clear h0 h1 h2
    go_enter Tryz.func54,Tryz.ntmps54
    go_wp2
    go_ret
    exact ⟨by rw [HV.out];rfl,Kept.refl _⟩
   ·have b2:(s == 7)=false:=beq_eq_false_iff_ne.2 h2
    by_cases h3:s=56
    ·have HV:Hid (lostI s=8):=by show _=_;unfold lostI;rw [if_neg h0,if_neg h1,if_neg h2,if_pos h3]
     have b3:(s == 56)=true:=beq_iff_eq.2 h3
     clear h0 h1 h2 h3
     go_enter Tryz.func54,Tryz.ntmps54
     go_wp2
     go_ret
     exact ⟨by rw [HV.out];rfl,Kept.refl _⟩
    ·have b3:(s == 56)=false:=beq_eq_false_iff_ne.2 h3
     by_cases h4:s=60
     ·have HV:Hid (lostI s=12):=by show _=_;unfold lostI;rw [if_neg h0,if_neg h1,if_neg h2,if_neg h3,if_pos h4]
      have b4:(s == 60)=true:=beq_iff_eq.2 h4
      clear h0 h1 h2 h3 h4
      go_enter Tryz.func54,Tryz.ntmps54
      go_wp2
      go_ret
      exact ⟨by rw [HV.out];rfl,Kept.refl _⟩
     ·have b4:(s == 60)=false:=beq_eq_false_iff_ne.2 h4
      by_cases h5:s=63
      ·have HV:Hid (lostI s=4):=by show _=_;unfold lostI;rw [if_neg h0,if_neg h1,if_neg h2,if_neg h3,if_neg h4,if_pos h5]
       have b5:(s == 63)=true:=beq_iff_eq.2 h5
       clear h0 h1 h2 h3 h4 h5
       go_enter Tryz.func54,Tryz.ntmps54
       go_wp2
       go_ret
       exact ⟨by rw [HV.out];rfl,Kept.refl _⟩
      ·have b5:(s == 63)=false:=beq_eq_false_iff_ne.2 h5
       have HV:Hid (lostI s=0):=by show _=_;unfold lostI;rw [if_neg h0,if_neg h1,if_neg h2,if_neg h3,if_neg h4,if_neg h5]
       clear h0 h1 h2 h3 h4 h5
       go_enter Tryz.func54,Tryz.ntmps54
       go_wp2
       go_ret
       exact ⟨by rw [HV.out];rfl,Kept.refl _⟩
set_option maxHeartbeats 2000000 in
theorem rtakes0 (p:Ps) (hB:Brd p.B) (m:Mv) (f t:Nat) (hf:m.f=f) (ht:m.t=t) (f1:f<64) (t1:t<64) (h0:bAt p.B m.t≠0) (w:World) :
  Calls Tryz.prog 52 #[.agg (pl p).toArray,.agg (ml m).toArray] w fun e w'=>e=.returned (.int .i64 (takeI p m))∧Kept w w':=by
 have HP:Hid (PAt _ _ p):=⟨hB.1,heap_alloc2_old w (.cells (pl p).toArray 26) (.cells (ml m).toArray 54)⟩
 have HM:Hid (MAt _ _ m):=⟨heap_alloc2_new w (.cells (pl p).toArray 26) (.cells (ml m).toArray 54)⟩
 have HK0:=Qh (((Kept.refl w).alloc (.cells (pl p).toArray 26)).alloc (.cells (ml m).toArray 54))
 have hpl:Hid (p.B.length=64):=hB.1
 have xt:=HM.out.t
 rw [ht] at xt
 have hct:=Qh xt
 have xf:=HM.out.f
 rw [hf] at xf
 have hcf:=Qh xf
 clear xf
 have ct:=HP.out.sq t t1
 have eb:bAt p.B m.t=p.B.getD t 0:=by unfold bAt;rw [ht,Int.toNat_natCast]
 have ep:pawnB p m=(kindI (p.B.getD f 0) == 1):=by unfold pawnB bAt;rw [hf,Int.toNat_natCast]
 have HPw:=Qh (rpawn_is p.B hB f f1)
 have HF1:=Qh (fun w=>rfile_k (f:Int) w (by omega) (by omega))
 have HF2:=Qh (fun w=>rfile_k (t:Int) w (by omega) (by omega))
 have HPs:=Qh (rpassed_is p hB)
 have htI:(t:Int)<64:=by omega
 have HV:Hid (takeI p m=t):=by show _=_;unfold takeI;rw [if_pos h0,ht]
 rw [eb] at h0
 have hb:(p.B.getD t 0 != 0)=true:=bne_iff_ne.2 h0
 generalize p.B.getD t 0=x at *
 clear h0 eb ep
 clear hB hf ht
 go_enter Tryz.func52,Tryz.ntmps52
 go_wp2
 go_ret
 exact ⟨by rw [HV.out];rfl,HK0.out⟩
set_option maxHeartbeats 2000000 in
theorem rtakes1 (p:Ps) (hB:Brd p.B) (m:Mv) (f t:Nat) (hf:m.f=f) (ht:m.t=t) (f1:f<64) (t1:t<64) (h0:bAt p.B m.t=0) (h1:pawnB p m=false) (w:World) :
  Calls Tryz.prog 52 #[.agg (pl p).toArray,.agg (ml m).toArray] w fun e w'=>e=.returned (.int .i64 (takeI p m))∧Kept w w':=by
 have HP:Hid (PAt _ _ p):=⟨hB.1,heap_alloc2_old w (.cells (pl p).toArray 26) (.cells (ml m).toArray 54)⟩
 have HM:Hid (MAt _ _ m):=⟨heap_alloc2_new w (.cells (pl p).toArray 26) (.cells (ml m).toArray 54)⟩
 have HK0:=Qh (((Kept.refl w).alloc (.cells (pl p).toArray 26)).alloc (.cells (ml m).toArray 54))
 have hpl:Hid (p.B.length=64):=hB.1
 have xt:=HM.out.t
 rw [ht] at xt
 have hct:=Qh xt
 have xf:=HM.out.f
 rw [hf] at xf
 have hcf:=Qh xf
 clear xf
 have ct:=HP.out.sq t t1
 have eb:bAt p.B m.t=p.B.getD t 0:=by unfold bAt;rw [ht,Int.toNat_natCast]
 have ep:pawnB p m=(kindI (p.B.getD f 0) == 1):=by unfold pawnB bAt;rw [hf,Int.toNat_natCast]
 have HPw:=Qh (rpawn_is p.B hB f f1)
 have HF1:=Qh (fun w=>rfile_k (f:Int) w (by omega) (by omega))
 have HF2:=Qh (fun w=>rfile_k (t:Int) w (by omega) (by omega))
 have HPs:=Qh (rpassed_is p hB)
 have htI:(t:Int)<64:=by omega
 have HV:Hid (takeI p m=-1):=by show _=_;unfold takeI epTake;rw [if_neg (by simpa using h0),if_neg (by simp [h1])]
 rw [eb] at h0
 rw [h0] at ct
 rw [h1] at ep
 rw [← ep] at HPw
 clear h0 eb ep h1
 clear hB hf ht
 go_enter Tryz.func52,Tryz.ntmps52
 go_wp2
 clear ct xt
 generalize (w.alloc (.cells (pl p).toArray 26)).alloc (.cells (ml m).toArray 54)=W at *
 refine wp_region_held_drew (S:=Kept _) (by kernel_rfl) (Kept.refl _).drew (fun Qj=>?_)
 refine rT 0 13 (.pointer (some ⟨w.heap.size,0,none⟩)) rfl rfl Qj ?_
 simp only [pA,pN,sZ,sU]
 refine rY 1 14 rfl rfl (take_load_pb (by rfl) _ rfl _ rfl p hpl.out (fun _ h=>(HP.out).kept h)) Qj ?_
 simp only [pA,pN,sZ,sU]
 refine rT 2 15 (.pointer (some ⟨w.heap.size+1,0,none⟩)) rfl rfl Qj ?_
 simp only [pA,pN,sZ,sU]
 refine rC 3 16 (.int .i64 ↑f) rfl rfl (fun _ h=>kept_cell h (hcf.out)) Qj ?_
 simp only [pA,pN,sZ,sU]
 refine rR 4 rfl (fun K hK=>?_)
 go_simp
 refine (HPw.out _).mono ?_
 rintro e w2 ⟨rfl,gw2⟩
 refine hK.out _ _ (Qj.trans gw2) (fun _=>?_)
 replace Qj:=Qj.trans gw2
 clear hK K
 refine rT 5 18 (.bool false) rfl rfl Qj ?_
 simp only [pA,pN,sZ,sU]
 refine rN 6 19 rfl rfl Qj ?_
 simp only [pA,pN,sZ,sU]
 refine rN 7 20 rfl rfl Qj ?_
 simp only [pA,pN,sZ,sU]
 refine rN 8 21 rfl rfl Qj ?_
 simp only [pA,pN,sZ,sU]
 refine rT 9 22 (.bool false) rfl rfl Qj ?_
 simp only [pA,pN,sZ,sU]
 refine rT 10 23 (.bool false) rfl rfl Qj ?_
 simp only [pA,pN,sZ,sU]
 refine rN 11 24 rfl rfl Qj ?_
 simp only [pA,pN,sZ,sU]
 refine rN 12 25 rfl rfl Qj ?_
 simp only [pA,pN,sZ,sU]
 refine rN 13 26 rfl rfl Qj ?_
 simp only [pA,pN,sZ,sU]
 refine rN 14 27 rfl rfl Qj ?_
 simp only [pA,pN,sZ,sU]
 refine rN 15 28 rfl rfl Qj ?_
 simp only [pA,pN,sZ,sU]
 refine rT 16 29 (.bool false) rfl rfl Qj ?_
 simp only [pA,pN,sZ,sU]
 refine rT 17 30 (.bool false) rfl rfl Qj ?_
 simp only [pA,pN,sZ,sU]
 refine rN 18 31 rfl rfl Qj ?_
 simp only [pA,pN,sZ,sU]
 refine rN 19 32 rfl rfl Qj ?_
 simp only [pA,pN,sZ,sU]
 refine rN 20 33 rfl rfl Qj ?_
 simp only [pA,pN,sZ,sU]
 refine rN 21 34 rfl rfl Qj ?_
 simp only [pA,pN,sZ,sU]
 refine rN 22 35 rfl rfl Qj ?_
 simp only [pA,pN,sZ,sU]
 refine rN 23 36 rfl rfl Qj ?_
 simp only [pA,pN,sZ,sU]
 refine rN 24 37 rfl rfl Qj ?_
 simp only [pA,pN,sZ,sU]
 refine rT 25 38 (.bool false) rfl rfl Qj ?_
 simp only [pA,pN,sZ,sU]
 refine wpAnyH_done (by kernel_rfl) ?_ _
 go_wp2
 go_ret
 exact ⟨by rw [HV.out];rfl,HK0.out.trans Qj⟩
set_option maxHeartbeats 2000000 in
theorem rtakes2 (p:Ps) (hB:Brd p.B) (m:Mv) (f t:Nat) (hf:m.f=f) (ht:m.t=t) (f1:f<64) (t1:t<64) (h0:bAt p.B m.t=0) (h1:pawnB p m=true) (he:¬ 0≤p.e) (w:World) :
  Calls Tryz.prog 52 #[.agg (pl p).toArray,.agg (ml m).toArray] w fun e w'=>e=.returned (.int .i64 (takeI p m))∧Kept w w':=by
 have HP:Hid (PAt _ _ p):=⟨hB.1,heap_alloc2_old w (.cells (pl p).toArray 26) (.cells (ml m).toArray 54)⟩
 have HM:Hid (MAt _ _ m):=⟨heap_alloc2_new w (.cells (pl p).toArray 26) (.cells (ml m).toArray 54)⟩
 have HK0:=Qh (((Kept.refl w).alloc (.cells (pl p).toArray 26)).alloc (.cells (ml m).toArray 54))
 have hpl:Hid (p.B.length=64):=hB.1
 have xt:=HM.out.t
 rw [ht] at xt
 have hct:=Qh xt
 have xf:=HM.out.f
 rw [hf] at xf
 have hcf:=Qh xf
 clear xf
 have ct:=HP.out.sq t t1
 have eb:bAt p.B m.t=p.B.getD t 0:=by unfold bAt;rw [ht,Int.toNat_natCast]
 have ep:pawnB p m=(kindI (p.B.getD f 0) == 1):=by unfold pawnB bAt;rw [hf,Int.toNat_natCast]
 have HPw:=Qh (rpawn_is p.B hB f f1)
 have HF1:=Qh (fun w=>rfile_k (f:Int) w (by omega) (by omega))
 have HF2:=Qh (fun w=>rfile_k (t:Int) w (by omega) (by omega))
 have HPs:=Qh (rpassed_is p hB)
 have htI:(t:Int)<64:=by omega
 have HV:Hid (takeI p m=-1):=by show _=_;unfold takeI epTake;rw [if_neg (by simpa using h0),if_neg (by simp [show (m.t == p.e)=false from beq_eq_false_iff_ne.2 (by omega)])]
 have he':decide ((0:Int)≤p.e)=false:=decide_eq_false he
 rw [eb] at h0
 rw [h0] at ct
 rw [h1] at ep
 rw [← ep] at HPw
 clear h0 eb ep h1
 clear hB hf ht
 go_enter Tryz.func52,Tryz.ntmps52
 go_wp2
 clear ct xt
 generalize (w.alloc (.cells (pl p).toArray 26)).alloc (.cells (ml m).toArray 54)=W at *
 refine wp_region_held_drew (S:=Kept _) (by kernel_rfl) (Kept.refl _).drew (fun Qj=>?_)
 refine rT 0 13 (.pointer (some ⟨w.heap.size,0,none⟩)) rfl rfl Qj ?_
 simp only [pA,pN,sZ,sU]
 refine rY 1 14 rfl rfl (take_load_pb (by rfl) _ rfl _ rfl p hpl.out (fun _ h=>(HP.out).kept h)) Qj ?_
 simp only [pA,pN,sZ,sU]
 refine rT 2 15 (.pointer (some ⟨w.heap.size+1,0,none⟩)) rfl rfl Qj ?_
 simp only [pA,pN,sZ,sU]
 refine rC 3 16 (.int .i64 ↑f) rfl rfl (fun _ h=>kept_cell h (hcf.out)) Qj ?_
 simp only [pA,pN,sZ,sU]
 refine rR 4 rfl (fun K hK=>?_)
 go_simp
 refine (HPw.out _).mono ?_
 rintro e w2 ⟨rfl,gw2⟩
 refine hK.out _ _ (Qj.trans gw2) (fun _=>?_)
 replace Qj:=Qj.trans gw2
 clear hK K
 refine rT 5 18 (.bool true) rfl rfl Qj ?_
 simp only [pA,pN,sZ,sU]
 refine rT 6 19 (.pointer (some ⟨w.heap.size,66,none⟩)) rfl rfl Qj ?_
 simp only [pA,pN,sZ,sU]
 refine rC 7 20 (.int .i64 p.e) rfl rfl (fun _ h=>kept_cell h (HP.out.ep)) Qj ?_
 simp only [pA,pN,sZ,sU]
 refine rT 8 21 (.bool false) rfl rfl Qj ?_
 simp only [pA,pN,sZ,sU]
 refine rT 9 22 (.bool false) rfl rfl Qj ?_
 simp only [pA,pN,sZ,sU]
 refine rT 10 23 (.bool false) rfl rfl Qj ?_
 simp only [pA,pN,sZ,sU]
 refine rN 11 24 rfl rfl Qj ?_
 simp only [pA,pN,sZ,sU]
 refine rN 12 25 rfl rfl Qj ?_
 simp only [pA,pN,sZ,sU]
 refine rN 13 26 rfl rfl Qj ?_
 simp only [pA,pN,sZ,sU]
 refine rN 14 27 rfl rfl Qj ?_
 simp only [pA,pN,sZ,sU]
 refine rN 15 28 rfl rfl Qj ?_
 simp only [pA,pN,sZ,sU]
 refine rT 16 29 (.bool false) rfl rfl Qj ?_
 simp only [pA,pN,sZ,sU]
 refine rT 17 30 (.bool false) rfl rfl Qj ?_
 simp only [pA,pN,sZ,sU]
 refine rN 18 31 rfl rfl Qj ?_
 simp only [pA,pN,sZ,sU]
 refine rN 19 32 rfl rfl Qj ?_
 simp only [pA,pN,sZ,sU]
 refine rN 20 33 rfl rfl Qj ?_
 simp only [pA,pN,sZ,sU]
 refine rN 21 34 rfl rfl Qj ?_
 simp only [pA,pN,sZ,sU]
 refine rN 22 35 rfl rfl Qj ?_
 simp only [pA,pN,sZ,sU]
 refine rN 23 36 rfl rfl Qj ?_
 simp only [pA,pN,sZ,sU]
 refine rN 24 37 rfl rfl Qj ?_
 simp only [pA,pN,sZ,sU]
 refine rT 25 38 (.bool false) rfl rfl Qj ?_
 simp only [pA,pN,sZ,sU]
 refine wpAnyH_done (by kernel_rfl) ?_ _
 go_wp2
 go_ret
 exact ⟨by rw [HV.out];rfl,HK0.out.trans Qj⟩
set_option maxHeartbeats 2000000 in
theorem rtakes3 (p:Ps) (hB:Brd p.B) (m:Mv) (f t:Nat) (hf:m.f=f) (ht:m.t=t) (f1:f<64) (t1:t<64) (h0:bAt p.B m.t=0) (h1:pawnB p m=true) (he:0≤p.e) (h2:(m.t == p.e)=false) (w:World) :
  Calls Tryz.prog 52 #[.agg (pl p).toArray,.agg (ml m).toArray] w fun e w'=>e=.returned (.int .i64 (takeI p m))∧Kept w w':=by
 have HP:Hid (PAt _ _ p):=⟨hB.1,heap_alloc2_old w (.cells (pl p).toArray 26) (.cells (ml m).toArray 54)⟩
 have HM:Hid (MAt _ _ m):=⟨heap_alloc2_new w (.cells (pl p).toArray 26) (.cells (ml m).toArray 54)⟩
 have HK0:=Qh (((Kept.refl w).alloc (.cells (pl p).toArray 26)).alloc (.cells (ml m).toArray 54))
 have hpl:Hid (p.B.length=64):=hB.1
 have xt:=HM.out.t
 rw [ht] at xt
 have hct:=Qh xt
 have xf:=HM.out.f
 rw [hf] at xf
 have hcf:=Qh xf
 clear xf
 have ct:=HP.out.sq t t1
 have eb:bAt p.B m.t=p.B.getD t 0:=by unfold bAt;rw [ht,Int.toNat_natCast]
 have ep:pawnB p m=(kindI (p.B.getD f 0) == 1):=by unfold pawnB bAt;rw [hf,Int.toNat_natCast]
 have HPw:=Qh (rpawn_is p.B hB f f1)
 have HF1:=Qh (fun w=>rfile_k (f:Int) w (by omega) (by omega))
 have HF2:=Qh (fun w=>rfile_k (t:Int) w (by omega) (by omega))
 have HPs:=Qh (rpassed_is p hB)
 have htI:(t:Int)<64:=by omega
 have HV:Hid (takeI p m=-1):=by show _=_;unfold takeI epTake;rw [if_neg (by simpa using h0),if_neg (by simp [h2])]
 have he':decide ((0:Int)≤p.e)=true:=decide_eq_true he
 rw [ht] at h2
 rw [eb] at h0
 rw [h0] at ct
 rw [h1] at ep
 rw [← ep] at HPw
 clear h0 eb ep h1
 clear hB hf ht
 go_enter Tryz.func52,Tryz.ntmps52
 go_wp2
 clear ct xt
 generalize (w.alloc (.cells (pl p).toArray 26)).alloc (.cells (ml m).toArray 54)=W at *
 refine wp_region_held_drew (S:=Kept _) (by kernel_rfl) (Kept.refl _).drew (fun Qj=>?_)
 refine rT 0 13 (.pointer (some ⟨w.heap.size,0,none⟩)) rfl rfl Qj ?_
 simp only [pA,pN,sZ,sU]
 refine rY 1 14 rfl rfl (take_load_pb (by rfl) _ rfl _ rfl p hpl.out (fun _ h=>(HP.out).kept h)) Qj ?_
 simp only [pA,pN,sZ,sU]
 refine rT 2 15 (.pointer (some ⟨w.heap.size+1,0,none⟩)) rfl rfl Qj ?_
 simp only [pA,pN,sZ,sU]
 refine rC 3 16 (.int .i64 ↑f) rfl rfl (fun _ h=>kept_cell h (hcf.out)) Qj ?_
 simp only [pA,pN,sZ,sU]
 refine rR 4 rfl (fun K hK=>?_)
 go_simp
 refine (HPw.out _).mono ?_
 rintro e w2 ⟨rfl,gw2⟩
 refine hK.out _ _ (Qj.trans gw2) (fun _=>?_)
 replace Qj:=Qj.trans gw2
 clear hK K
 refine rT 5 18 (.bool true) rfl rfl Qj ?_
 simp only [pA,pN,sZ,sU]
 refine rT 6 19 (.pointer (some ⟨w.heap.size,66,none⟩)) rfl rfl Qj ?_
 simp only [pA,pN,sZ,sU]
 refine rC 7 20 (.int .i64 p.e) rfl rfl (fun _ h=>kept_cell h (HP.out.ep)) Qj ?_
 simp only [pA,pN,sZ,sU]
 refine rT 8 21 (.bool true) rfl rfl Qj ?_
 simp only [pA,pN,sZ,sU]
 refine rT 9 22 (.bool true) rfl rfl Qj ?_
 simp only [pA,pN,sZ,sU]
 refine rT 10 23 (.bool true) rfl rfl Qj ?_
 simp only [pA,pN,sZ,sU]
 refine rT 11 24 (.pointer (some ⟨w.heap.size+1,1,none⟩)) rfl rfl Qj ?_
 simp only [pA,pN,sZ,sU]
 refine rC 12 25 (.int .i64 ↑t) rfl rfl (fun _ h=>kept_cell h (hct.out)) Qj ?_
 simp only [pA,pN,sZ,sU]
 refine rT 13 26 (.pointer (some ⟨w.heap.size,66,none⟩)) rfl rfl Qj ?_
 simp only [pA,pN,sZ,sU]
 refine rC 14 27 (.int .i64 p.e) rfl rfl (fun _ h=>kept_cell h (HP.out.ep)) Qj ?_
 simp only [pA,pN,sZ,sU]
 refine rT 15 28 (.bool false) rfl rfl Qj ?_
 simp only [pA,pN,sZ,sU]
 refine rT 16 29 (.bool false) rfl rfl Qj ?_
 simp only [pA,pN,sZ,sU]
 refine rT 17 30 (.bool false) rfl rfl Qj ?_
 simp only [pA,pN,sZ,sU]
 refine rN 18 31 rfl rfl Qj ?_
 simp only [pA,pN,sZ,sU]
 refine rN 19 32 rfl rfl Qj ?_
 simp only [pA,pN,sZ,sU]
 refine rN 20 33 rfl rfl Qj ?_
 simp only [pA,pN,sZ,sU]
 refine rN 21 34 rfl rfl Qj ?_
 simp only [pA,pN,sZ,sU]
 refine rN 22 35 rfl rfl Qj ?_
 simp only [pA,pN,sZ,sU]
 refine rN 23 36 rfl rfl Qj ?_
 simp only [pA,pN,sZ,sU]
 refine rN 24 37 rfl rfl Qj ?_
 simp only [pA,pN,sZ,sU]
 refine rT 25 38 (.bool false) rfl rfl Qj ?_
 simp only [pA,pN,sZ,sU]
 refine wpAnyH_done (by kernel_rfl) ?_ _
 go_wp2
 go_ret
 exact ⟨by rw [HV.out];rfl,HK0.out.trans Qj⟩
set_option maxHeartbeats 2000000 in
theorem rtakes4 (p:Ps) (hB:Brd p.B) (m:Mv) (f t:Nat) (hf:m.f=f) (ht:m.t=t) (f1:f<64) (t1:t<64) (h0:bAt p.B m.t=0) (h1:pawnB p m=true) (he:0≤p.e) (h2:(m.t == p.e)=true) (h3:(m.f % 8 != m.t % 8)=false) (w:World) :
  Calls Tryz.prog 52 #[.agg (pl p).toArray,.agg (ml m).toArray] w fun e w'=>e=.returned (.int .i64 (takeI p m))∧Kept w w':=by
 have HP:Hid (PAt _ _ p):=⟨hB.1,heap_alloc2_old w (.cells (pl p).toArray 26) (.cells (ml m).toArray 54)⟩
 have HM:Hid (MAt _ _ m):=⟨heap_alloc2_new w (.cells (pl p).toArray 26) (.cells (ml m).toArray 54)⟩
 have HK0:=Qh (((Kept.refl w).alloc (.cells (pl p).toArray 26)).alloc (.cells (ml m).toArray 54))
 have hpl:Hid (p.B.length=64):=hB.1
 have xt:=HM.out.t
 rw [ht] at xt
 have hct:=Qh xt
 have xf:=HM.out.f
 rw [hf] at xf
 have hcf:=Qh xf
 clear xf
 have ct:=HP.out.sq t t1
 have eb:bAt p.B m.t=p.B.getD t 0:=by unfold bAt;rw [ht,Int.toNat_natCast]
 have ep:pawnB p m=(kindI (p.B.getD f 0) == 1):=by unfold pawnB bAt;rw [hf,Int.toNat_natCast]
 have HPw:=Qh (rpawn_is p.B hB f f1)
 have HF1:=Qh (fun w=>rfile_k (f:Int) w (by omega) (by omega))
 have HF2:=Qh (fun w=>rfile_k (t:Int) w (by omega) (by omega))
 have HPs:=Qh (rpassed_is p hB)
 have htI:(t:Int)<64:=by omega
 have HV:Hid (takeI p m=-1):=by show _=_;unfold takeI epTake;rw [if_neg (by simpa using h0),if_neg (by simp [h3])]
 have he':decide ((0:Int)≤p.e)=true:=decide_eq_true he
 have h3':((t:Int) % 8 != (f:Int) % 8)=false:=by rw [← h3,hf,ht,bne_comm]
 rw [ht] at h2
 clear h3
 rw [eb] at h0
 rw [h0] at ct
 rw [h1] at ep
 rw [← ep] at HPw
 clear h0 eb ep h1
 clear hB hf ht
 go_enter Tryz.func52,Tryz.ntmps52
 go_wp2
 clear ct xt
 generalize (w.alloc (.cells (pl p).toArray 26)).alloc (.cells (ml m).toArray 54)=W at *
 refine wp_region_held_drew (S:=Kept _) (by kernel_rfl) (Kept.refl _).drew (fun Qj=>?_)
 refine rT 0 13 (.pointer (some ⟨w.heap.size,0,none⟩)) rfl rfl Qj ?_
 simp only [pA,pN,sZ,sU]
 refine rY 1 14 rfl rfl (take_load_pb (by rfl) _ rfl _ rfl p hpl.out (fun _ h=>(HP.out).kept h)) Qj ?_
 simp only [pA,pN,sZ,sU]
 refine rT 2 15 (.pointer (some ⟨w.heap.size+1,0,none⟩)) rfl rfl Qj ?_
 simp only [pA,pN,sZ,sU]
 refine rC 3 16 (.int .i64 ↑f) rfl rfl (fun _ h=>kept_cell h (hcf.out)) Qj ?_
 simp only [pA,pN,sZ,sU]
 refine rR 4 rfl (fun K hK=>?_)
 go_simp
 refine (HPw.out _).mono ?_
 rintro e w2 ⟨rfl,gw2⟩
 refine hK.out _ _ (Qj.trans gw2) (fun _=>?_)
 replace Qj:=Qj.trans gw2
 clear hK K
 refine rT 5 18 (.bool true) rfl rfl Qj ?_
 simp only [pA,pN,sZ,sU]
 refine rT 6 19 (.pointer (some ⟨w.heap.size,66,none⟩)) rfl rfl Qj ?_
 simp only [pA,pN,sZ,sU]
 refine rC 7 20 (.int .i64 p.e) rfl rfl (fun _ h=>kept_cell h (HP.out.ep)) Qj ?_
 simp only [pA,pN,sZ,sU]
 refine rT 8 21 (.bool true) rfl rfl Qj ?_
 simp only [pA,pN,sZ,sU]
 refine rT 9 22 (.bool true) rfl rfl Qj ?_
 simp only [pA,pN,sZ,sU]
 refine rT 10 23 (.bool true) rfl rfl Qj ?_
 simp only [pA,pN,sZ,sU]
 refine rT 11 24 (.pointer (some ⟨w.heap.size+1,1,none⟩)) rfl rfl Qj ?_
 simp only [pA,pN,sZ,sU]
 refine rC 12 25 (.int .i64 ↑t) rfl rfl (fun _ h=>kept_cell h (hct.out)) Qj ?_
 simp only [pA,pN,sZ,sU]
 refine rT 13 26 (.pointer (some ⟨w.heap.size,66,none⟩)) rfl rfl Qj ?_
 simp only [pA,pN,sZ,sU]
 refine rC 14 27 (.int .i64 p.e) rfl rfl (fun _ h=>kept_cell h (HP.out.ep)) Qj ?_
 simp only [pA,pN,sZ,sU]
 refine rT 15 28 (.bool true) rfl rfl Qj ?_
 simp only [pA,pN,sZ,sU]
 refine rT 16 29 (.bool true) rfl rfl Qj ?_
 simp only [pA,pN,sZ,sU]
 refine rT 17 30 (.bool true) rfl rfl Qj ?_
 simp only [pA,pN,sZ,sU]
 refine rT 18 31 (.pointer (some ⟨w.heap.size+1,1,none⟩)) rfl rfl Qj ?_
 simp only [pA,pN,sZ,sU]
 refine rC 19 32 (.int .i64 ↑t) rfl rfl (fun _ h=>kept_cell h (hct.out)) Qj ?_
 simp only [pA,pN,sZ,sU]
 refine rT 21 34 (.pointer (some ⟨w.heap.size+1,0,none⟩)) rfl rfl Qj ?_
 simp only [pA,pN,sZ,sU]
 refine rC 22 35 (.int .i64 ↑f) rfl rfl (fun _ h=>kept_cell h (hcf.out)) Qj ?_
 simp only [pA,pN,sZ,sU]
 refine rR 20 rfl (fun K hK=>?_)
 go_simp
 refine (HF2.out _).mono ?_
 rintro e w3 ⟨rfl,gw3⟩
 refine hK.out _ _ (Qj.trans gw3) (fun _=>?_)
 replace Qj:=Qj.trans gw3
 clear hK K
 refine rR 23 rfl (fun K hK=>?_)
 go_simp
 refine (HF1.out _).mono ?_
 rintro e w4 ⟨rfl,gw4⟩
 refine hK.out _ _ (Qj.trans gw4) (fun _=>?_)
 replace Qj:=Qj.trans gw4
 clear hK K
 refine rT 24 37 (.bool false) rfl rfl Qj ?_
 simp only [pA,pN,sZ,sU]
 refine rT 25 38 (.bool false) rfl rfl Qj ?_
 simp only [pA,pN,sZ,sU]
 refine wpAnyH_done (by kernel_rfl) ?_ _
 go_wp2
 go_ret
 exact ⟨by rw [HV.out];rfl,HK0.out.trans Qj⟩
set_option maxHeartbeats 2000000 in
theorem rtakes5 (p:Ps) (hB:Brd p.B) (m:Mv) (f t:Nat) (hf:m.f=f) (ht:m.t=t) (f1:f<64) (t1:t<64) (h0:bAt p.B m.t=0) (h1:pawnB p m=true) (he:0≤p.e) (h2:(m.t == p.e)=true) (h3:(m.f % 8 != m.t % 8)=true) (w:World) :
  Calls Tryz.prog 52 #[.agg (pl p).toArray,.agg (ml m).toArray] w fun e w'=>e=.returned (.int .i64 (takeI p m))∧Kept w w':=by
 have HP:Hid (PAt _ _ p):=⟨hB.1,heap_alloc2_old w (.cells (pl p).toArray 26) (.cells (ml m).toArray 54)⟩
 have HM:Hid (MAt _ _ m):=⟨heap_alloc2_new w (.cells (pl p).toArray 26) (.cells (ml m).toArray 54)⟩
 have HK0:=Qh (((Kept.refl w).alloc (.cells (pl p).toArray 26)).alloc (.cells (ml m).toArray 54))
 have hpl:Hid (p.B.length=64):=hB.1
 have xt:=HM.out.t
 rw [ht] at xt
 have hct:=Qh xt
 have xf:=HM.out.f
 rw [hf] at xf
 have hcf:=Qh xf
 clear xf
 have ct:=HP.out.sq t t1
 have eb:bAt p.B m.t=p.B.getD t 0:=by unfold bAt;rw [ht,Int.toNat_natCast]
 have ep:pawnB p m=(kindI (p.B.getD f 0) == 1):=by unfold pawnB bAt;rw [hf,Int.toNat_natCast]
 have HPw:=Qh (rpawn_is p.B hB f f1)
 have HF1:=Qh (fun w=>rfile_k (f:Int) w (by omega) (by omega))
 have HF2:=Qh (fun w=>rfile_k (t:Int) w (by omega) (by omega))
 have HPs:=Qh (rpassed_is p hB)
 have htI:(t:Int)<64:=by omega
 have HV:Hid (takeI p m=passI p):=by show _=_;unfold takeI epTake;rw [if_neg (by simpa using h0),if_pos (by rw [h1,h2,h3];rfl)]
 have he':decide ((0:Int)≤p.e)=true:=decide_eq_true he
 have h3':((t:Int) % 8 != (f:Int) % 8)=true:=by rw [← h3,hf,ht,bne_comm]
 rw [ht] at h2
 clear h3
 rw [eb] at h0
 rw [h0] at ct
 rw [h1] at ep
 rw [← ep] at HPw
 clear h0 eb ep h1
 clear hB hf ht
 go_enter Tryz.func52,Tryz.ntmps52
 go_wp2
 clear ct xt
 generalize (w.alloc (.cells (pl p).toArray 26)).alloc (.cells (ml m).toArray 54)=W at *
 refine wp_region_held_drew (S:=Kept _) (by kernel_rfl) (Kept.refl _).drew (fun Qj=>?_)
 refine rT 0 13 (.pointer (some ⟨w.heap.size,0,none⟩)) rfl rfl Qj ?_
 simp only [pA,pN,sZ,sU]
 refine rY 1 14 rfl rfl (take_load_pb (by rfl) _ rfl _ rfl p hpl.out (fun _ h=>(HP.out).kept h)) Qj ?_
 simp only [pA,pN,sZ,sU]
 refine rT 2 15 (.pointer (some ⟨w.heap.size+1,0,none⟩)) rfl rfl Qj ?_
 simp only [pA,pN,sZ,sU]
 refine rC 3 16 (.int .i64 ↑f) rfl rfl (fun _ h=>kept_cell h (hcf.out)) Qj ?_
 simp only [pA,pN,sZ,sU]
 refine rR 4 rfl (fun K hK=>?_)
 go_simp
 refine (HPw.out _).mono ?_
 rintro e w2 ⟨rfl,gw2⟩
 refine hK.out _ _ (Qj.trans gw2) (fun _=>?_)
 replace Qj:=Qj.trans gw2
 clear hK K
 refine rT 5 18 (.bool true) rfl rfl Qj ?_
 simp only [pA,pN,sZ,sU]
 refine rT 6 19 (.pointer (some ⟨w.heap.size,66,none⟩)) rfl rfl Qj ?_
 simp only [pA,pN,sZ,sU]
 refine rC 7 20 (.int .i64 p.e) rfl rfl (fun _ h=>kept_cell h (HP.out.ep)) Qj ?_
 simp only [pA,pN,sZ,sU]
 refine rT 8 21 (.bool true) rfl rfl Qj ?_
 simp only [pA,pN,sZ,sU]
 refine rT 9 22 (.bool true) rfl rfl Qj ?_
 simp only [pA,pN,sZ,sU]
 refine rT 10 23 (.bool true) rfl rfl Qj ?_
 simp only [pA,pN,sZ,sU]
 refine rT 11 24 (.pointer (some ⟨w.heap.size+1,1,none⟩)) rfl rfl Qj ?_
 simp only [pA,pN,sZ,sU]
 refine rC 12 25 (.int .i64 ↑t) rfl rfl (fun _ h=>kept_cell h (hct.out)) Qj ?_
 simp only [pA,pN,sZ,sU]
 refine rT 13 26 (.pointer (some ⟨w.heap.size,66,none⟩)) rfl rfl Qj ?_
 simp only [pA,pN,sZ,sU]
 refine rC 14 27 (.int .i64 p.e) rfl rfl (fun _ h=>kept_cell h (HP.out.ep)) Qj ?_
 simp only [pA,pN,sZ,sU]
 refine rT 15 28 (.bool true) rfl rfl Qj ?_
 simp only [pA,pN,sZ,sU]
 refine rT 16 29 (.bool true) rfl rfl Qj ?_
 simp only [pA,pN,sZ,sU]
 refine rT 17 30 (.bool true) rfl rfl Qj ?_
 simp only [pA,pN,sZ,sU]
 refine rT 18 31 (.pointer (some ⟨w.heap.size+1,1,none⟩)) rfl rfl Qj ?_
 simp only [pA,pN,sZ,sU]
 refine rC 19 32 (.int .i64 ↑t) rfl rfl (fun _ h=>kept_cell h (hct.out)) Qj ?_
 simp only [pA,pN,sZ,sU]
 refine rT 21 34 (.pointer (some ⟨w.heap.size+1,0,none⟩)) rfl rfl Qj ?_
 simp only [pA,pN,sZ,sU]
 refine rC 22 35 (.int .i64 ↑f) rfl rfl (fun _ h=>kept_cell h (hcf.out)) Qj ?_
 simp only [pA,pN,sZ,sU]
 refine rR 20 rfl (fun K hK=>?_)
 go_simp
 refine (HF2.out _).mono ?_
 rintro e w3 ⟨rfl,gw3⟩
 refine hK.out _ _ (Qj.trans gw3) (fun _=>?_)
 replace Qj:=Qj.trans gw3
 clear hK K
 refine rR 23 rfl (fun K hK=>?_)
 go_simp
 refine (HF1.out _).mono ?_
 rintro e w4 ⟨rfl,gw4⟩
 refine hK.out _ _ (Qj.trans gw4) (fun _=>?_)
 replace Qj:=Qj.trans gw4
 clear hK K
 refine rT 24 37 (.bool true) rfl rfl Qj ?_
 simp only [pA,pN,sZ,sU]
 refine rT 25 38 (.bool true) rfl rfl Qj ?_
 simp only [pA,pN,sZ,sU]
 refine wpAnyH_done (by kernel_rfl) ?_ _
 have HP4:=Qh (HP.out.kept Qj)
 have HK4:=Qh (HK0.out.trans Qj)
 clear Qj
 go_wp2_with (first|(refine wpList_load_ps (by rfl) _ rfl _ rfl _ (HP4.out) ?_)|(refine wpList_load_pb (by rfl) _ rfl _ rfl _ (HP4.out) ?_))
 refine (HPs.out _).mono ?_
 rintro e w5 ⟨rfl,k5⟩
 have HK5:=Qh (HK4.out.trans k5)
 clear k5
 go_wp2
 go_ret
 exact ⟨by rw [HV.out];rfl,HK5.out⟩
theorem rtakes_is (p:Ps) (hB:Brd p.B) (m:Mv) (ho:On m) (w:World) :
  Calls Tryz.prog 52 #[.agg (pl p).toArray,.agg (ml m).toArray] w fun e w'=>e=.returned (.int .i64 (takeI p m))∧Kept w w':=by
 obtain ⟨f,hf⟩:=Int.eq_ofNat_of_zero_le ho.f0
 obtain ⟨t,ht⟩:=Int.eq_ofNat_of_zero_le ho.t0
 have f1:f<64:=by have:=ho.f1;omega
 have t1:t<64:=by have:=ho.t1;omega
 by_cases h0:bAt p.B m.t=0
 ·cases h1:pawnB p m
  ·exact rtakes1 p hB m f t hf ht f1 t1 h0 h1 w
  ·by_cases he:0≤p.e
   ·cases h2:(m.t == p.e)
    ·exact rtakes3 p hB m f t hf ht f1 t1 h0 h1 he h2 w
    ·cases h3:(m.f % 8 != m.t % 8)
     ·exact rtakes4 p hB m f t hf ht f1 t1 h0 h1 he h2 h3 w
     ·exact rtakes5 p hB m f t hf ht f1 t1 h0 h1 he h2 h3 w
   ·exact rtakes2 p hB m f t hf ht f1 t1 h0 h1 he w
 ·exact rtakes0 p hB m f t hf ht f1 t1 h0 w
theorem rside_k (m:Int) (w:World):Calls Tryz.prog 76 #[.int .i64 m] w fun e w'=>e=.returned (.int .i64 (sideI m))∧Kept w w' :=
 (rside_any m w).mono fun _ _ ⟨a,b⟩=>⟨a,b ▸ Kept.refl _⟩
theorem rright_k (s:Int) (w:World):Calls Tryz.prog 46 #[.int .i64 s] w fun e w'=>e=.returned (.bool (onB s))∧Kept w w':=by
 unfold onB
 by_cases h:0≤s∧s<64
 ·rw [decide_eq_true h];exact (rright_yes s w h.1 h.2).mono fun _ _ ⟨a,b⟩=>⟨a,b ▸ Kept.refl _⟩
 ·rw [decide_eq_false h];exact (rright_no s w (by omega)).mono fun _ _ ⟨a,b⟩=>⟨a,b ▸ Kept.refl _⟩
theorem rformed_f (p:Ps) (hB:Brd p.B) (t01:p.t=0∨p.t=1) (m:Mv) (h:onB m.f=false) (w:World) :
  Calls Tryz.prog 79 #[.agg (pl p).toArray,.agg (ml m).toArray] w fun e w'=>e=.returned (.bool (formB p m))∧Kept w w':=by
 have HP:Hid (PAt _ _ p):=⟨hB.1,heap_alloc2_old w (.cells (pl p).toArray 26) (.cells (ml m).toArray 54)⟩
 have HM:Hid (MAt _ _ m):=⟨heap_alloc2_new w (.cells (pl p).toArray 26) (.cells (ml m).toArray 54)⟩
 have HK0:=Qh (((Kept.refl w).alloc (.cells (pl p).toArray 26)).alloc (.cells (ml m).toArray 54))
 have HV:Hid (formB p m=false):=by
  show _=_
  have:¬ (0≤m.f∧m.f<64):=by simpa [onB] using h
  unfold formB manA
  rw [if_neg this,side_zero,show ((-1:Int) == p.t)=false from beq_eq_false_iff_ne.2 (by omega)]
  rfl
 have HC:=Qh (rright_k m.f)
 rw [h] at HC
 have cf:=HM.out.f
 clear hB t01 h
 go_enter Tryz.func79,Tryz.ntmps79
 go_wp2_with fail
 refine (HC.out _).mono ?_
 rintro e w1 ⟨rfl,k1⟩
 have HK1:=Qh (HK0.out.trans k1)
 clear k1 cf
 go_wp2
 go_ret
 exact ⟨by rw [HV.out];rfl,HK1.out⟩
theorem rformed_t (p:Ps) (hB:Brd p.B) (m:Mv) (hf:onB m.f=true) (h:onB m.t=false) (w:World) :
  Calls Tryz.prog 79 #[.agg (pl p).toArray,.agg (ml m).toArray] w fun e w'=>e=.returned (.bool (formB p m))∧Kept w w':=by
 have HP:Hid (PAt _ _ p):=⟨hB.1,heap_alloc2_old w (.cells (pl p).toArray 26) (.cells (ml m).toArray 54)⟩
 have HM:Hid (MAt _ _ m):=⟨heap_alloc2_new w (.cells (pl p).toArray 26) (.cells (ml m).toArray 54)⟩
 have HK0:=Qh (((Kept.refl w).alloc (.cells (pl p).toArray 26)).alloc (.cells (ml m).toArray 54))
 have HV:Hid (formB p m=false):=by show _=_;unfold formB;rw [h];simp
 have HC:=Qh (rright_k m.f)
 have HC2:=Qh (rright_k m.t)
 rw [hf] at HC
 rw [h] at HC2
 have cf:=HM.out.f
 clear hB h hf
 go_enter Tryz.func79,Tryz.ntmps79
 go_wp2_with fail
 refine (HC.out _).mono ?_
 rintro e w1 ⟨rfl,k1⟩
 have HK1:=Qh (HK0.out.trans k1)
 have HM1:=Qh (MAt.kept HM.out k1)
 have ct:=HM1.out.t
 clear k1 cf
 go_wp2_with fail
 refine (HC2.out _).mono ?_
 rintro e w2 ⟨rfl,k2⟩
 have HK2:=Qh (HK1.out.trans k2)
 clear k2 ct
 go_wp2
 go_ret
 exact ⟨by rw [HV.out];rfl,HK2.out⟩
theorem i8_i64 {B:List Int} (hB:Brd B) {k:Nat} (hk:k<64):IntKind.i64.wrap (B.getD k 0)=B.getD k 0:=by
 have:=hB.2 k hk
 exact IntWalk.i64_in _ (by omega)
set_option maxHeartbeats 2000000 in
theorem rformed1 (p:Ps) (hB:Brd p.B) (m:Mv) (f t:Nat) (hf:m.f=f) (ht:m.t=t) (f1:f<64) (t1:t<64) (h1:(sideI (manA p.B m.f) == p.t)=false) (w:World) :
  Calls Tryz.prog 79 #[.agg (pl p).toArray,.agg (ml m).toArray] w fun e w'=>e=.returned (.bool (formB p m))∧Kept w w':=by
 have HP:Hid (PAt _ _ p):=⟨hB.1,heap_alloc2_old w (.cells (pl p).toArray 26) (.cells (ml m).toArray 54)⟩
 have HM:Hid (MAt _ _ m):=⟨heap_alloc2_new w (.cells (pl p).toArray 26) (.cells (ml m).toArray 54)⟩
 have HK0:=Qh (((Kept.refl w).alloc (.cells (pl p).toArray 26)).alloc (.cells (ml m).toArray 54))
 have hpl:Hid (p.B.length=64):=hB.1
 have hon1:onB m.f=true:=by unfold onB;simp;omega
 have hon2:onB m.t=true:=by unfold onB;simp;omega
 have HC:=Qh (rright_k m.f)
 have HC2:=Qh (rright_k m.t)
 rw [hon1,hf] at HC
 rw [hon2,ht] at HC2
 have em:manA p.B m.f=p.B.getD f 0:=by unfold manA bAt;rw [if_pos (by omega),hf,Int.toNat_natCast]
 have en:manA p.B m.t=p.B.getD t 0:=by unfold manA bAt;rw [if_pos (by omega),ht,Int.toNat_natCast]
 have xf:=HM.out.f
 rw [hf] at xf
 have hcf:=Qh xf
 have xt:=HM.out.t
 rw [ht] at xt
 have hct:=Qh xt
 have HQ1:=Qh (HP.out.sq f f1)
 have HQ2:=Qh (HP.out.sq t t1)
 have w1:=i8_i64 hB f1
 have w2:=i8_i64 hB t1
 have HPw:=Qh (rpawn_is p.B hB f f1)
 have HRk:=Qh (fun w=>rrank_k (t:Int) w (by omega) (by omega))
 have hfI:(f:Int)<64:=by omega
 have htI:(t:Int)<64:=by omega
 rw [em] at h1
 have HV:Hid (formB p m=false):=by show _=_;unfold formB;rw [em,h1];rfl
 have h1':(sideI (p.B.getD f 0) != p.t)=true:=by rw [bne,h1];rfl
 clear hB hon1 hon2 em en hf ht xt
 generalize p.B.getD f 0=x at *
 generalize p.B.getD t 0=y at *
 go_enter Tryz.func79,Tryz.ntmps79
 go_wp2_with fail
 refine (HC.out _).mono ?_
 rintro e v1 ⟨rfl,k1⟩
 have HK1:=Qh (HK0.out.trans k1)
 have hct1:=Qh (kept_cell k1 hct.out)
 have xt:=hct1.out
 have KK1:=Qh k1
 clear k1 xf
 go_wp2_with fail
 refine (HC2.out _).mono ?_
 rintro e v2 ⟨rfl,k2⟩
 have HK2:=Qh (HK1.out.trans k2)
 have KK2:=Qh (KK1.out.trans k2)
 have HP2:=Qh (HP.out.kept KK2.out)
 have HM2:=Qh (MAt.kept HM.out KK2.out)
 have hcf2:=Qh (kept_cell KK2.out hcf.out)
 have hct2:=Qh (kept_cell KK2.out hct.out)
 have HQ12:=Qh (kept_cell KK2.out HQ1.out)
 have HQ22:=Qh (kept_cell KK2.out HQ2.out)
 clear k2 xt
 go_wp2
 refine wp_region_held_drew (S:=Kept _) (by kernel_rfl) (Kept.refl _).drew (fun Qj=>?_)
 refine rT 0 17 (.pointer (some ⟨w.heap.size+1,0,none⟩)) rfl rfl Qj ?_
 simp only [pA,pN,sZ,sU]
 refine rC 1 18 (.int .i64 ↑f) rfl rfl (fun _ h=>kept_cell h (hcf2.out)) Qj ?_
 simp only [pA,pN,sZ,sU]
 refine rT 2 19 (.pointer (some ⟨w.heap.size,0,none⟩)) rfl rfl Qj ?_
 simp only [pA,pN,sZ,sU]
 refine rT 3 20 (.pointer (some ⟨w.heap.size,f,none⟩)) rfl rfl Qj ?_
 simp only [pA,pN,sZ,sU]
 refine rC 4 21 (.int .i8 x) rfl rfl (fun _ h=>kept_cell h (HQ12.out)) Qj ?_
 simp only [pA,pN,sZ,sU]
 refine rT 5 22 (.int .i64 x) rfl rfl Qj ?_
 simp only [pA,pN,sZ,sU]
 refine rT 7 24 (.pointer (some ⟨w.heap.size,64,none⟩)) rfl rfl Qj ?_
 simp only [pA,pN,sZ,sU]
 refine rC 8 25 (.int .i64 p.t) rfl rfl (fun _ h=>kept_cell h (HP2.out.turn)) Qj ?_
 simp only [pA,pN,sZ,sU]
 refine rR 6 rfl (fun K hK=>?_)
 go_simp
 refine (rside_k x _).mono ?_
 rintro e v3 ⟨rfl,gv3⟩
 refine hK.out _ _ (Qj.trans gv3) (fun _=>?_)
 replace Qj:=Qj.trans gv3
 clear hK K
 refine rT 9 26 (.bool true) rfl rfl Qj ?_
 simp only [pA,pN,sZ,sU]
 refine rT 10 27 (.bool true) rfl rfl Qj ?_
 simp only [pA,pN,sZ,sU]
 refine rN 11 28 rfl rfl Qj ?_
 simp only [pA,pN,sZ,sU]
 refine rN 12 29 rfl rfl Qj ?_
 simp only [pA,pN,sZ,sU]
 refine rN 13 30 rfl rfl Qj ?_
 simp only [pA,pN,sZ,sU]
 refine rN 14 31 rfl rfl Qj ?_
 simp only [pA,pN,sZ,sU]
 refine rN 15 32 rfl rfl Qj ?_
 simp only [pA,pN,sZ,sU]
 refine rN 16 33 rfl rfl Qj ?_
 simp only [pA,pN,sZ,sU]
 refine rN 17 34 rfl rfl Qj ?_
 simp only [pA,pN,sZ,sU]
 refine rN 18 35 rfl rfl Qj ?_
 simp only [pA,pN,sZ,sU]
 refine rN 19 36 rfl rfl Qj ?_
 simp only [pA,pN,sZ,sU]
 refine rN 20 37 rfl rfl Qj ?_
 simp only [pA,pN,sZ,sU]
 refine rT 21 38 (.bool true) rfl rfl Qj ?_
 simp only [pA,pN,sZ,sU]
 refine wpAnyH_done (by kernel_rfl) ?_ _
 go_wp2
 go_ret
 exact ⟨by rw [HV.out];rfl,HK2.out.trans Qj⟩
set_option maxHeartbeats 2000000 in
theorem rformed2 (p:Ps) (hB:Brd p.B) (m:Mv) (f t:Nat) (hf:m.f=f) (ht:m.t=t) (f1:f<64) (t1:t<64) (h1:(sideI (manA p.B m.f) == p.t)=true) (h3:(sideI (manA p.B m.t) == p.t)=true) (w:World) :
  Calls Tryz.prog 79 #[.agg (pl p).toArray,.agg (ml m).toArray] w fun e w'=>e=.returned (.bool (formB p m))∧Kept w w':=by
 have HP:Hid (PAt _ _ p):=⟨hB.1,heap_alloc2_old w (.cells (pl p).toArray 26) (.cells (ml m).toArray 54)⟩
 have HM:Hid (MAt _ _ m):=⟨heap_alloc2_new w (.cells (pl p).toArray 26) (.cells (ml m).toArray 54)⟩
 have HK0:=Qh (((Kept.refl w).alloc (.cells (pl p).toArray 26)).alloc (.cells (ml m).toArray 54))
 have hpl:Hid (p.B.length=64):=hB.1
 have hon1:onB m.f=true:=by unfold onB;simp;omega
 have hon2:onB m.t=true:=by unfold onB;simp;omega
 have HC:=Qh (rright_k m.f)
 have HC2:=Qh (rright_k m.t)
 rw [hon1,hf] at HC
 rw [hon2,ht] at HC2
 have em:manA p.B m.f=p.B.getD f 0:=by unfold manA bAt;rw [if_pos (by omega),hf,Int.toNat_natCast]
 have en:manA p.B m.t=p.B.getD t 0:=by unfold manA bAt;rw [if_pos (by omega),ht,Int.toNat_natCast]
 have xf:=HM.out.f
 rw [hf] at xf
 have hcf:=Qh xf
 have xt:=HM.out.t
 rw [ht] at xt
 have hct:=Qh xt
 have HQ1:=Qh (HP.out.sq f f1)
 have HQ2:=Qh (HP.out.sq t t1)
 have w1:=i8_i64 hB f1
 have w2:=i8_i64 hB t1
 have HPw:=Qh (rpawn_is p.B hB f f1)
 have HRk:=Qh (fun w=>rrank_k (t:Int) w (by omega) (by omega))
 have hfI:(f:Int)<64:=by omega
 have htI:(t:Int)<64:=by omega
 rw [em] at h1
 have HV:Hid (formB p m=false):=by show _=_;unfold formB;rw [h3];simp
 rw [en] at h3
 have h1':(sideI (p.B.getD f 0) != p.t)=false:=by rw [bne,h1];rfl
 clear hB hon1 hon2 em en hf ht xt
 generalize p.B.getD f 0=x at *
 generalize p.B.getD t 0=y at *
 go_enter Tryz.func79,Tryz.ntmps79
 go_wp2_with fail
 refine (HC.out _).mono ?_
 rintro e v1 ⟨rfl,k1⟩
 have HK1:=Qh (HK0.out.trans k1)
 have hct1:=Qh (kept_cell k1 hct.out)
 have xt:=hct1.out
 have KK1:=Qh k1
 clear k1 xf
 go_wp2_with fail
 refine (HC2.out _).mono ?_
 rintro e v2 ⟨rfl,k2⟩
 have HK2:=Qh (HK1.out.trans k2)
 have KK2:=Qh (KK1.out.trans k2)
 have HP2:=Qh (HP.out.kept KK2.out)
 have HM2:=Qh (MAt.kept HM.out KK2.out)
 have hcf2:=Qh (kept_cell KK2.out hcf.out)
 have hct2:=Qh (kept_cell KK2.out hct.out)
 have HQ12:=Qh (kept_cell KK2.out HQ1.out)
 have HQ22:=Qh (kept_cell KK2.out HQ2.out)
 clear k2 xt
 go_wp2
 refine wp_region_held_drew (S:=Kept _) (by kernel_rfl) (Kept.refl _).drew (fun Qj=>?_)
 refine rT 0 17 (.pointer (some ⟨w.heap.size+1,0,none⟩)) rfl rfl Qj ?_
 simp only [pA,pN,sZ,sU]
 refine rC 1 18 (.int .i64 ↑f) rfl rfl (fun _ h=>kept_cell h (hcf2.out)) Qj ?_
 simp only [pA,pN,sZ,sU]
 refine rT 2 19 (.pointer (some ⟨w.heap.size,0,none⟩)) rfl rfl Qj ?_
 simp only [pA,pN,sZ,sU]
 refine rT 3 20 (.pointer (some ⟨w.heap.size,f,none⟩)) rfl rfl Qj ?_
 simp only [pA,pN,sZ,sU]
 refine rC 4 21 (.int .i8 x) rfl rfl (fun _ h=>kept_cell h (HQ12.out)) Qj ?_
 simp only [pA,pN,sZ,sU]
 refine rT 5 22 (.int .i64 x) rfl rfl Qj ?_
 simp only [pA,pN,sZ,sU]
 refine rT 7 24 (.pointer (some ⟨w.heap.size,64,none⟩)) rfl rfl Qj ?_
 simp only [pA,pN,sZ,sU]
 refine rC 8 25 (.int .i64 p.t) rfl rfl (fun _ h=>kept_cell h (HP2.out.turn)) Qj ?_
 simp only [pA,pN,sZ,sU]
 refine rR 6 rfl (fun K hK=>?_)
 go_simp
 refine (rside_k x _).mono ?_
 rintro e v3 ⟨rfl,gv3⟩
 refine hK.out _ _ (Qj.trans gv3) (fun _=>?_)
 replace Qj:=Qj.trans gv3
 clear hK K
 refine rT 9 26 (.bool false) rfl rfl Qj ?_
 simp only [pA,pN,sZ,sU]
 refine rT 10 27 (.bool false) rfl rfl Qj ?_
 simp only [pA,pN,sZ,sU]
 refine rT 11 28 (.pointer (some ⟨w.heap.size+1,1,none⟩)) rfl rfl Qj ?_
 simp only [pA,pN,sZ,sU]
 refine rC 12 29 (.int .i64 ↑t) rfl rfl (fun _ h=>kept_cell h (hct2.out)) Qj ?_
 simp only [pA,pN,sZ,sU]
 refine rT 13 30 (.pointer (some ⟨w.heap.size,0,none⟩)) rfl rfl Qj ?_
 simp only [pA,pN,sZ,sU]
 refine rT 14 31 (.pointer (some ⟨w.heap.size,t,none⟩)) rfl rfl Qj ?_
 simp only [pA,pN,sZ,sU]
 refine rC 15 32 (.int .i8 y) rfl rfl (fun _ h=>kept_cell h (HQ22.out)) Qj ?_
 simp only [pA,pN,sZ,sU]
 refine rT 16 33 (.int .i64 y) rfl rfl Qj ?_
 simp only [pA,pN,sZ,sU]
 refine rT 18 35 (.pointer (some ⟨w.heap.size,64,none⟩)) rfl rfl Qj ?_
 simp only [pA,pN,sZ,sU]
 refine rC 19 36 (.int .i64 p.t) rfl rfl (fun _ h=>kept_cell h (HP2.out.turn)) Qj ?_
 simp only [pA,pN,sZ,sU]
 refine rR 17 rfl (fun K hK=>?_)
 go_simp
 refine (rside_k y _).mono ?_
 rintro e v4 ⟨rfl,gv4⟩
 refine hK.out _ _ (Qj.trans gv4) (fun _=>?_)
 replace Qj:=Qj.trans gv4
 clear hK K
 refine rT 20 37 (.bool true) rfl rfl Qj ?_
 simp only [pA,pN,sZ,sU]
 refine rT 21 38 (.bool true) rfl rfl Qj ?_
 simp only [pA,pN,sZ,sU]
 refine wpAnyH_done (by kernel_rfl) ?_ _
 go_wp2
 go_ret
 exact ⟨by rw [HV.out];rfl,HK2.out.trans Qj⟩
set_option maxHeartbeats 2000000 in
theorem rformed3w (p:Ps) (hB:Brd p.B) (m:Mv) (f t:Nat) (hf:m.f=f) (ht:m.t=t) (f1:f<64) (t1:t<64) (h1:(sideI (manA p.B m.f) == p.t)=true) (h3:(sideI (manA p.B m.t) == p.t)=false) (h4:(kindI (manA p.B m.f) == 1)=false) (hT:p.t=0) (w:World) :
  Calls Tryz.prog 79 #[.agg (pl p).toArray,.agg (ml m).toArray] w fun e w'=>e=.returned (.bool (formB p m))∧Kept w w':=by
 have HP:Hid (PAt _ _ p):=⟨hB.1,heap_alloc2_old w (.cells (pl p).toArray 26) (.cells (ml m).toArray 54)⟩
 have HM:Hid (MAt _ _ m):=⟨heap_alloc2_new w (.cells (pl p).toArray 26) (.cells (ml m).toArray 54)⟩
 have HK0:=Qh (((Kept.refl w).alloc (.cells (pl p).toArray 26)).alloc (.cells (ml m).toArray 54))
 have hpl:Hid (p.B.length=64):=hB.1
 have hon1:onB m.f=true:=by unfold onB;simp;omega
 have hon2:onB m.t=true:=by unfold onB;simp;omega
 have HC:=Qh (rright_k m.f)
 have HC2:=Qh (rright_k m.t)
 rw [hon1,hf] at HC
 rw [hon2,ht] at HC2
 have em:manA p.B m.f=p.B.getD f 0:=by unfold manA bAt;rw [if_pos (by omega),hf,Int.toNat_natCast]
 have en:manA p.B m.t=p.B.getD t 0:=by unfold manA bAt;rw [if_pos (by omega),ht,Int.toNat_natCast]
 have xf:=HM.out.f
 rw [hf] at xf
 have hcf:=Qh xf
 have xt:=HM.out.t
 rw [ht] at xt
 have hct:=Qh xt
 have HQ1:=Qh (HP.out.sq f f1)
 have HQ2:=Qh (HP.out.sq t t1)
 have w1:=i8_i64 hB f1
 have w2:=i8_i64 hB t1
 have HPw:=Qh (rpawn_is p.B hB f f1)
 have HRk:=Qh (fun w=>rrank_k (t:Int) w (by omega) (by omega))
 have hfI:(f:Int)<64:=by omega
 have htI:(t:Int)<64:=by omega
 rw [em] at h1 h4
 have HV:Hid (formB p m=(m.p == 0)):=by
  show _=_
  rw [← promo_stay]
  unfold formB turnsB
  rw [em,h1,hon2,h3,h4];rfl
 rw [en] at h3
 have HTv:=Qh hT
 clear hT
 have h1':(sideI (p.B.getD f 0) != p.t)=false:=by rw [bne,h1];rfl
 clear hB hon1 hon2 em en hf ht xt
 generalize p.B.getD f 0=x at *
 generalize p.B.getD t 0=y at *
 go_enter Tryz.func79,Tryz.ntmps79
 go_wp2_with fail
 refine (HC.out _).mono ?_
 rintro e v1 ⟨rfl,k1⟩
 have HK1:=Qh (HK0.out.trans k1)
 have hct1:=Qh (kept_cell k1 hct.out)
 have xt:=hct1.out
 have KK1:=Qh k1
 clear k1 xf
 go_wp2_with fail
 refine (HC2.out _).mono ?_
 rintro e v2 ⟨rfl,k2⟩
 have HK2:=Qh (HK1.out.trans k2)
 have KK2:=Qh (KK1.out.trans k2)
 have HP2:=Qh (HP.out.kept KK2.out)
 have HM2:=Qh (MAt.kept HM.out KK2.out)
 have hcf2:=Qh (kept_cell KK2.out hcf.out)
 have hct2:=Qh (kept_cell KK2.out hct.out)
 have HQ12:=Qh (kept_cell KK2.out HQ1.out)
 have HQ22:=Qh (kept_cell KK2.out HQ2.out)
 clear k2 xt
 go_wp2
 refine wp_region_held_drew (S:=Kept _) (by kernel_rfl) (Kept.refl _).drew (fun Qj=>?_)
 refine rT 0 17 (.pointer (some ⟨w.heap.size+1,0,none⟩)) rfl rfl Qj ?_
 simp only [pA,pN,sZ,sU]
 refine rC 1 18 (.int .i64 ↑f) rfl rfl (fun _ h=>kept_cell h (hcf2.out)) Qj ?_
 simp only [pA,pN,sZ,sU]
 refine rT 2 19 (.pointer (some ⟨w.heap.size,0,none⟩)) rfl rfl Qj ?_
 simp only [pA,pN,sZ,sU]
 refine rT 3 20 (.pointer (some ⟨w.heap.size,f,none⟩)) rfl rfl Qj ?_
 simp only [pA,pN,sZ,sU]
 refine rC 4 21 (.int .i8 x) rfl rfl (fun _ h=>kept_cell h (HQ12.out)) Qj ?_
 simp only [pA,pN,sZ,sU]
 refine rT 5 22 (.int .i64 x) rfl rfl Qj ?_
 simp only [pA,pN,sZ,sU]
 refine rT 7 24 (.pointer (some ⟨w.heap.size,64,none⟩)) rfl rfl Qj ?_
 simp only [pA,pN,sZ,sU]
 refine rC 8 25 (.int .i64 p.t) rfl rfl (fun _ h=>kept_cell h (HP2.out.turn)) Qj ?_
 simp only [pA,pN,sZ,sU]
 refine rR 6 rfl (fun K hK=>?_)
 go_simp
 refine (rside_k x _).mono ?_
 rintro e v3 ⟨rfl,gv3⟩
 refine hK.out _ _ (Qj.trans gv3) (fun _=>?_)
 replace Qj:=Qj.trans gv3
 clear hK K
 refine rT 9 26 (.bool false) rfl rfl Qj ?_
 simp only [pA,pN,sZ,sU]
 refine rT 10 27 (.bool false) rfl rfl Qj ?_
 simp only [pA,pN,sZ,sU]
 refine rT 11 28 (.pointer (some ⟨w.heap.size+1,1,none⟩)) rfl rfl Qj ?_
 simp only [pA,pN,sZ,sU]
 refine rC 12 29 (.int .i64 ↑t) rfl rfl (fun _ h=>kept_cell h (hct2.out)) Qj ?_
 simp only [pA,pN,sZ,sU]
 refine rT 13 30 (.pointer (some ⟨w.heap.size,0,none⟩)) rfl rfl Qj ?_
 simp only [pA,pN,sZ,sU]
 refine rT 14 31 (.pointer (some ⟨w.heap.size,t,none⟩)) rfl rfl Qj ?_
 simp only [pA,pN,sZ,sU]
 refine rC 15 32 (.int .i8 y) rfl rfl (fun _ h=>kept_cell h (HQ22.out)) Qj ?_
 simp only [pA,pN,sZ,sU]
 refine rT 16 33 (.int .i64 y) rfl rfl Qj ?_
 simp only [pA,pN,sZ,sU]
 refine rT 18 35 (.pointer (some ⟨w.heap.size,64,none⟩)) rfl rfl Qj ?_
 simp only [pA,pN,sZ,sU]
 refine rC 19 36 (.int .i64 p.t) rfl rfl (fun _ h=>kept_cell h (HP2.out.turn)) Qj ?_
 simp only [pA,pN,sZ,sU]
 refine rR 17 rfl (fun K hK=>?_)
 go_simp
 refine (rside_k y _).mono ?_
 rintro e v4 ⟨rfl,gv4⟩
 refine hK.out _ _ (Qj.trans gv4) (fun _=>?_)
 replace Qj:=Qj.trans gv4
 clear hK K
 refine rT 20 37 (.bool false) rfl rfl Qj ?_
 simp only [pA,pN,sZ,sU]
 refine rT 21 38 (.bool false) rfl rfl Qj ?_
 simp only [pA,pN,sZ,sU]
 refine wpAnyH_done (by kernel_rfl) ?_ _
 have KK5:=Qh (KK2.out.trans Qj)
 have HP5:=Qh (HP.out.kept KK5.out)
 have HM5:=Qh (MAt.kept HM.out KK5.out)
 have hcf5:=Qh (kept_cell KK5.out hcf.out)
 have HK5:=Qh (HK2.out.trans Qj)
 clear Qj
 have tt:=HP5.out.turn
 have cf5:=hcf5.out
 rw [HTv.out] at tt
 rw [h4] at HPw
 go_wp2_with (first|(refine wpList_load_ps (by rfl) _ rfl _ rfl _ (HP5.out) ?_)|(refine wpList_load_pb (by rfl) _ rfl _ rfl _ (HP5.out) ?_)|(refine wpList_load_mv (by rfl) _ rfl _ rfl _ (HM5.out) ?_))
 refine (HPw.out _).mono ?_
 rintro e v6 ⟨rfl,k6⟩
 have KK6:=Qh (KK5.out.trans k6)
 have HM6:=Qh (MAt.kept HM.out KK6.out)
 have hct6:=Qh (kept_cell KK6.out hct.out)
 have HK6:=Qh (HK5.out.trans k6)
 clear k6 tt cf5
 have cp:=HM6.out.p
 go_wp2
 go_ret
 exact ⟨by rw [HV.out];rfl,HK6.out⟩
set_option maxHeartbeats 2000000 in
theorem rformed4wn (p:Ps) (hB:Brd p.B) (m:Mv) (f t:Nat) (hf:m.f=f) (ht:m.t=t) (f1:f<64) (t1:t<64) (h1:(sideI (manA p.B m.f) == p.t)=true) (h3:(sideI (manA p.B m.t) == p.t)=false) (h4:(kindI (manA p.B m.f) == 1)=true) (hT:p.t=0) (h5:((t:Int) / 8 == 7)=false) (w:World) :
  Calls Tryz.prog 79 #[.agg (pl p).toArray,.agg (ml m).toArray] w fun e w'=>e=.returned (.bool (formB p m))∧Kept w w':=by
 have HP:Hid (PAt _ _ p):=⟨hB.1,heap_alloc2_old w (.cells (pl p).toArray 26) (.cells (ml m).toArray 54)⟩
 have HM:Hid (MAt _ _ m):=⟨heap_alloc2_new w (.cells (pl p).toArray 26) (.cells (ml m).toArray 54)⟩
 have HK0:=Qh (((Kept.refl w).alloc (.cells (pl p).toArray 26)).alloc (.cells (ml m).toArray 54))
 have hpl:Hid (p.B.length=64):=hB.1
 have hon1:onB m.f=true:=by unfold onB;simp;omega
 have hon2:onB m.t=true:=by unfold onB;simp;omega
 have HC:=Qh (rright_k m.f)
 have HC2:=Qh (rright_k m.t)
 rw [hon1,hf] at HC
 rw [hon2,ht] at HC2
 have em:manA p.B m.f=p.B.getD f 0:=by unfold manA bAt;rw [if_pos (by omega),hf,Int.toNat_natCast]
 have en:manA p.B m.t=p.B.getD t 0:=by unfold manA bAt;rw [if_pos (by omega),ht,Int.toNat_natCast]
 have xf:=HM.out.f
 rw [hf] at xf
 have hcf:=Qh xf
 have xt:=HM.out.t
 rw [ht] at xt
 have hct:=Qh xt
 have HQ1:=Qh (HP.out.sq f f1)
 have HQ2:=Qh (HP.out.sq t t1)
 have w1:=i8_i64 hB f1
 have w2:=i8_i64 hB t1
 have HPw:=Qh (rpawn_is p.B hB f f1)
 have HRk:=Qh (fun w=>rrank_k (t:Int) w (by omega) (by omega))
 have hfI:(f:Int)<64:=by omega
 have htI:(t:Int)<64:=by omega
 rw [em] at h1 h4
 have HV:Hid (formB p m=(m.p == 0)):=by
  show _=_
  rw [← promo_stay]
  unfold formB turnsB lastI
  rw [em,h1,hon2,h3,h4,hT,ht]
  simp only [if_true,if_false,show ((1:Int)=0)=False by simp]
  rw [h5];rfl
 rw [en] at h3
 have HTv:=Qh hT
 clear hT
 generalize (t:Int) / 8=rk at *
 have h1':(sideI (p.B.getD f 0) != p.t)=false:=by rw [bne,h1];rfl
 clear hB hon1 hon2 em en hf ht xt
 generalize p.B.getD f 0=x at *
 generalize p.B.getD t 0=y at *
 go_enter Tryz.func79,Tryz.ntmps79
 go_wp2_with fail
 refine (HC.out _).mono ?_
 rintro e v1 ⟨rfl,k1⟩
 have HK1:=Qh (HK0.out.trans k1)
 have hct1:=Qh (kept_cell k1 hct.out)
 have xt:=hct1.out
 have KK1:=Qh k1
 clear k1 xf
 go_wp2_with fail
 refine (HC2.out _).mono ?_
 rintro e v2 ⟨rfl,k2⟩
 have HK2:=Qh (HK1.out.trans k2)
 have KK2:=Qh (KK1.out.trans k2)
 have HP2:=Qh (HP.out.kept KK2.out)
 have HM2:=Qh (MAt.kept HM.out KK2.out)
 have hcf2:=Qh (kept_cell KK2.out hcf.out)
 have hct2:=Qh (kept_cell KK2.out hct.out)
 have HQ12:=Qh (kept_cell KK2.out HQ1.out)
 have HQ22:=Qh (kept_cell KK2.out HQ2.out)
 clear k2 xt
 go_wp2
 refine wp_region_held_drew (S:=Kept _) (by kernel_rfl) (Kept.refl _).drew (fun Qj=>?_)
 refine rT 0 17 (.pointer (some ⟨w.heap.size+1,0,none⟩)) rfl rfl Qj ?_
 simp only [pA,pN,sZ,sU]
 refine rC 1 18 (.int .i64 ↑f) rfl rfl (fun _ h=>kept_cell h (hcf2.out)) Qj ?_
 simp only [pA,pN,sZ,sU]
 refine rT 2 19 (.pointer (some ⟨w.heap.size,0,none⟩)) rfl rfl Qj ?_
 simp only [pA,pN,sZ,sU]
 refine rT 3 20 (.pointer (some ⟨w.heap.size,f,none⟩)) rfl rfl Qj ?_
 simp only [pA,pN,sZ,sU]
 refine rC 4 21 (.int .i8 x) rfl rfl (fun _ h=>kept_cell h (HQ12.out)) Qj ?_
 simp only [pA,pN,sZ,sU]
 refine rT 5 22 (.int .i64 x) rfl rfl Qj ?_
 simp only [pA,pN,sZ,sU]
 refine rT 7 24 (.pointer (some ⟨w.heap.size,64,none⟩)) rfl rfl Qj ?_
 simp only [pA,pN,sZ,sU]
 refine rC 8 25 (.int .i64 p.t) rfl rfl (fun _ h=>kept_cell h (HP2.out.turn)) Qj ?_
 simp only [pA,pN,sZ,sU]
 refine rR 6 rfl (fun K hK=>?_)
 go_simp
 refine (rside_k x _).mono ?_
 rintro e v3 ⟨rfl,gv3⟩
 refine hK.out _ _ (Qj.trans gv3) (fun _=>?_)
 replace Qj:=Qj.trans gv3
 clear hK K
 refine rT 9 26 (.bool false) rfl rfl Qj ?_
 simp only [pA,pN,sZ,sU]
 refine rT 10 27 (.bool false) rfl rfl Qj ?_
 simp only [pA,pN,sZ,sU]
 refine rT 11 28 (.pointer (some ⟨w.heap.size+1,1,none⟩)) rfl rfl Qj ?_
 simp only [pA,pN,sZ,sU]
 refine rC 12 29 (.int .i64 ↑t) rfl rfl (fun _ h=>kept_cell h (hct2.out)) Qj ?_
 simp only [pA,pN,sZ,sU]
 refine rT 13 30 (.pointer (some ⟨w.heap.size,0,none⟩)) rfl rfl Qj ?_
 simp only [pA,pN,sZ,sU]
 refine rT 14 31 (.pointer (some ⟨w.heap.size,t,none⟩)) rfl rfl Qj ?_
 simp only [pA,pN,sZ,sU]
 refine rC 15 32 (.int .i8 y) rfl rfl (fun _ h=>kept_cell h (HQ22.out)) Qj ?_
 simp only [pA,pN,sZ,sU]
 refine rT 16 33 (.int .i64 y) rfl rfl Qj ?_
 simp only [pA,pN,sZ,sU]
 refine rT 18 35 (.pointer (some ⟨w.heap.size,64,none⟩)) rfl rfl Qj ?_
 simp only [pA,pN,sZ,sU]
 refine rC 19 36 (.int .i64 p.t) rfl rfl (fun _ h=>kept_cell h (HP2.out.turn)) Qj ?_
 simp only [pA,pN,sZ,sU]
 refine rR 17 rfl (fun K hK=>?_)
 go_simp
 refine (rside_k y _).mono ?_
 rintro e v4 ⟨rfl,gv4⟩
 refine hK.out _ _ (Qj.trans gv4) (fun _=>?_)
 replace Qj:=Qj.trans gv4
 clear hK K
 refine rT 20 37 (.bool false) rfl rfl Qj ?_
 simp only [pA,pN,sZ,sU]
 refine rT 21 38 (.bool false) rfl rfl Qj ?_
 simp only [pA,pN,sZ,sU]
 refine wpAnyH_done (by kernel_rfl) ?_ _
 have KK5:=Qh (KK2.out.trans Qj)
 have HP5:=Qh (HP.out.kept KK5.out)
 have HM5:=Qh (MAt.kept HM.out KK5.out)
 have hcf5:=Qh (kept_cell KK5.out hcf.out)
 have HK5:=Qh (HK2.out.trans Qj)
 clear Qj
 have tt:=HP5.out.turn
 have cf5:=hcf5.out
 rw [HTv.out] at tt
 rw [h4] at HPw
 go_wp2_with (first|(refine wpList_load_ps (by rfl) _ rfl _ rfl _ (HP5.out) ?_)|(refine wpList_load_pb (by rfl) _ rfl _ rfl _ (HP5.out) ?_)|(refine wpList_load_mv (by rfl) _ rfl _ rfl _ (HM5.out) ?_))
 refine (HPw.out _).mono ?_
 rintro e v6 ⟨rfl,k6⟩
 have KK6:=Qh (KK5.out.trans k6)
 have HM6:=Qh (MAt.kept HM.out KK6.out)
 have hct6:=Qh (kept_cell KK6.out hct.out)
 have HK6:=Qh (HK5.out.trans k6)
 clear k6 tt cf5
 have ct6:=hct6.out
 go_wp2_with fail
 refine (HRk.out _).mono ?_
 rintro e v7 ⟨rfl,k7⟩
 have HM7:=Qh (MAt.kept HM6.out k7)
 have HK7:=Qh (HK6.out.trans k7)
 clear k7 ct6
 have cp:=HM7.out.p
 go_wp2
 go_ret
 exact ⟨by rw [HV.out];rfl,HK7.out⟩
set_option maxHeartbeats 2000000 in
theorem rformed4wy (p:Ps) (hB:Brd p.B) (m:Mv) (f t:Nat) (hf:m.f=f) (ht:m.t=t) (f1:f<64) (t1:t<64) (h1:(sideI (manA p.B m.f) == p.t)=true) (h3:(sideI (manA p.B m.t) == p.t)=false) (h4:(kindI (manA p.B m.f) == 1)=true) (hT:p.t=0) (h5:((t:Int) / 8 == 7)=true) (w:World) :
  Calls Tryz.prog 79 #[.agg (pl p).toArray,.agg (ml m).toArray] w fun e w'=>e=.returned (.bool (formB p m))∧Kept w w':=by
 have HP:Hid (PAt _ _ p):=⟨hB.1,heap_alloc2_old w (.cells (pl p).toArray 26) (.cells (ml m).toArray 54)⟩
 have HM:Hid (MAt _ _ m):=⟨heap_alloc2_new w (.cells (pl p).toArray 26) (.cells (ml m).toArray 54)⟩
 have HK0:=Qh (((Kept.refl w).alloc (.cells (pl p).toArray 26)).alloc (.cells (ml m).toArray 54))
 have hpl:Hid (p.B.length=64):=hB.1
 have hon1:onB m.f=true:=by unfold onB;simp;omega
 have hon2:onB m.t=true:=by unfold onB;simp;omega
 have HC:=Qh (rright_k m.f)
 have HC2:=Qh (rright_k m.t)
 rw [hon1,hf] at HC
 rw [hon2,ht] at HC2
 have em:manA p.B m.f=p.B.getD f 0:=by unfold manA bAt;rw [if_pos (by omega),hf,Int.toNat_natCast]
 have en:manA p.B m.t=p.B.getD t 0:=by unfold manA bAt;rw [if_pos (by omega),ht,Int.toNat_natCast]
 have xf:=HM.out.f
 rw [hf] at xf
 have hcf:=Qh xf
 have xt:=HM.out.t
 rw [ht] at xt
 have hct:=Qh xt
 have HQ1:=Qh (HP.out.sq f f1)
 have HQ2:=Qh (HP.out.sq t t1)
 have w1:=i8_i64 hB f1
 have w2:=i8_i64 hB t1
 have HPw:=Qh (rpawn_is p.B hB f f1)
 have HRk:=Qh (fun w=>rrank_k (t:Int) w (by omega) (by omega))
 have hfI:(f:Int)<64:=by omega
 have htI:(t:Int)<64:=by omega
 rw [em] at h1 h4
 have HV:Hid (formB p m=(decide (2≤m.p) && decide (m.p≤5))):=by
  show _=_
  rw [← promo_turn]
  unfold formB turnsB lastI
  rw [em,h1,hon2,h3,h4,hT,ht]
  simp only [if_true,if_false,show ((1:Int)=0)=False by simp]
  rw [h5];rfl
 rw [en] at h3
 have HTv:=Qh hT
 clear hT
 generalize (t:Int) / 8=rk at *
 have h1':(sideI (p.B.getD f 0) != p.t)=false:=by rw [bne,h1];rfl
 clear hB hon1 hon2 em en hf ht xt
 generalize p.B.getD f 0=x at *
 generalize p.B.getD t 0=y at *
 go_enter Tryz.func79,Tryz.ntmps79
 go_wp2_with fail
 refine (HC.out _).mono ?_
 rintro e v1 ⟨rfl,k1⟩
 have HK1:=Qh (HK0.out.trans k1)
 have hct1:=Qh (kept_cell k1 hct.out)
 have xt:=hct1.out
 have KK1:=Qh k1
 clear k1 xf
 go_wp2_with fail
 refine (HC2.out _).mono ?_
 rintro e v2 ⟨rfl,k2⟩
 have HK2:=Qh (HK1.out.trans k2)
 have KK2:=Qh (KK1.out.trans k2)
 have HP2:=Qh (HP.out.kept KK2.out)
 have HM2:=Qh (MAt.kept HM.out KK2.out)
 have hcf2:=Qh (kept_cell KK2.out hcf.out)
 have hct2:=Qh (kept_cell KK2.out hct.out)
 have HQ12:=Qh (kept_cell KK2.out HQ1.out)
 have HQ22:=Qh (kept_cell KK2.out HQ2.out)
 clear k2 xt
 go_wp2
 refine wp_region_held_drew (S:=Kept _) (by kernel_rfl) (Kept.refl _).drew (fun Qj=>?_)
 refine rT 0 17 (.pointer (some ⟨w.heap.size+1,0,none⟩)) rfl rfl Qj ?_
 simp only [pA,pN,sZ,sU]
 refine rC 1 18 (.int .i64 ↑f) rfl rfl (fun _ h=>kept_cell h (hcf2.out)) Qj ?_
 simp only [pA,pN,sZ,sU]
 refine rT 2 19 (.pointer (some ⟨w.heap.size,0,none⟩)) rfl rfl Qj ?_
 simp only [pA,pN,sZ,sU]
 refine rT 3 20 (.pointer (some ⟨w.heap.size,f,none⟩)) rfl rfl Qj ?_
 simp only [pA,pN,sZ,sU]
 refine rC 4 21 (.int .i8 x) rfl rfl (fun _ h=>kept_cell h (HQ12.out)) Qj ?_
 simp only [pA,pN,sZ,sU]
 refine rT 5 22 (.int .i64 x) rfl rfl Qj ?_
 simp only [pA,pN,sZ,sU]
 refine rT 7 24 (.pointer (some ⟨w.heap.size,64,none⟩)) rfl rfl Qj ?_
 simp only [pA,pN,sZ,sU]
 refine rC 8 25 (.int .i64 p.t) rfl rfl (fun _ h=>kept_cell h (HP2.out.turn)) Qj ?_
 simp only [pA,pN,sZ,sU]
 refine rR 6 rfl (fun K hK=>?_)
 go_simp
 refine (rside_k x _).mono ?_
 rintro e v3 ⟨rfl,gv3⟩
 refine hK.out _ _ (Qj.trans gv3) (fun _=>?_)
 replace Qj:=Qj.trans gv3
 clear hK K
 refine rT 9 26 (.bool false) rfl rfl Qj ?_
 simp only [pA,pN,sZ,sU]
 refine rT 10 27 (.bool false) rfl rfl Qj ?_
 simp only [pA,pN,sZ,sU]
 refine rT 11 28 (.pointer (some ⟨w.heap.size+1,1,none⟩)) rfl rfl Qj ?_
 simp only [pA,pN,sZ,sU]
 refine rC 12 29 (.int .i64 ↑t) rfl rfl (fun _ h=>kept_cell h (hct2.out)) Qj ?_
 simp only [pA,pN,sZ,sU]
 refine rT 13 30 (.pointer (some ⟨w.heap.size,0,none⟩)) rfl rfl Qj ?_
 simp only [pA,pN,sZ,sU]
 refine rT 14 31 (.pointer (some ⟨w.heap.size,t,none⟩)) rfl rfl Qj ?_
 simp only [pA,pN,sZ,sU]
 refine rC 15 32 (.int .i8 y) rfl rfl (fun _ h=>kept_cell h (HQ22.out)) Qj ?_
 simp only [pA,pN,sZ,sU]
 refine rT 16 33 (.int .i64 y) rfl rfl Qj ?_
 simp only [pA,pN,sZ,sU]
 refine rT 18 35 (.pointer (some ⟨w.heap.size,64,none⟩)) rfl rfl Qj ?_
 simp only [pA,pN,sZ,sU]
 refine rC 19 36 (.int .i64 p.t) rfl rfl (fun _ h=>kept_cell h (HP2.out.turn)) Qj ?_
 simp only [pA,pN,sZ,sU]
 refine rR 17 rfl (fun K hK=>?_)
 go_simp
 refine (rside_k y _).mono ?_
 rintro e v4 ⟨rfl,gv4⟩
 refine hK.out _ _ (Qj.trans gv4) (fun _=>?_)
 replace Qj:=Qj.trans gv4
 clear hK K
 refine rT 20 37 (.bool false) rfl rfl Qj ?_
 simp only [pA,pN,sZ,sU]
 refine rT 21 38 (.bool false) rfl rfl Qj ?_
 simp only [pA,pN,sZ,sU]
 refine wpAnyH_done (by kernel_rfl) ?_ _
 have KK5:=Qh (KK2.out.trans Qj)
 have HP5:=Qh (HP.out.kept KK5.out)
 have HM5:=Qh (MAt.kept HM.out KK5.out)
 have hcf5:=Qh (kept_cell KK5.out hcf.out)
 have HK5:=Qh (HK2.out.trans Qj)
 clear Qj
 have tt:=HP5.out.turn
 have cf5:=hcf5.out
 rw [HTv.out] at tt
 rw [h4] at HPw
 go_wp2_with (first|(refine wpList_load_ps (by rfl) _ rfl _ rfl _ (HP5.out) ?_)|(refine wpList_load_pb (by rfl) _ rfl _ rfl _ (HP5.out) ?_)|(refine wpList_load_mv (by rfl) _ rfl _ rfl _ (HM5.out) ?_))
 refine (HPw.out _).mono ?_
 rintro e v6 ⟨rfl,k6⟩
 have KK6:=Qh (KK5.out.trans k6)
 have HM6:=Qh (MAt.kept HM.out KK6.out)
 have hct6:=Qh (kept_cell KK6.out hct.out)
 have HK6:=Qh (HK5.out.trans k6)
 clear k6 tt cf5
 have ct6:=hct6.out
 go_wp2_with fail
 refine (HRk.out _).mono ?_
 rintro e v7 ⟨rfl,k7⟩
 have HM7:=Qh (MAt.kept HM6.out k7)
 have HK7:=Qh (HK6.out.trans k7)
 clear k7 ct6
 have cp:=HM7.out.p
 cases h6:decide (2≤m.p)
 ·rw [h6] at HV
  go_wp2
  go_ret
  exact ⟨by rw [HV.out];rfl,HK7.out⟩
 ·rw [h6] at HV
  go_wp2
  go_ret
  exact ⟨by rw [HV.out];rfl,HK7.out⟩
set_option maxHeartbeats 2000000 in
theorem rformed3b (p:Ps) (hB:Brd p.B) (m:Mv) (f t:Nat) (hf:m.f=f) (ht:m.t=t) (f1:f<64) (t1:t<64) (h1:(sideI (manA p.B m.f) == p.t)=true) (h3:(sideI (manA p.B m.t) == p.t)=false) (h4:(kindI (manA p.B m.f) == 1)=false) (hT:p.t=1) (w:World) :
  Calls Tryz.prog 79 #[.agg (pl p).toArray,.agg (ml m).toArray] w fun e w'=>e=.returned (.bool (formB p m))∧Kept w w':=by
 have HP:Hid (PAt _ _ p):=⟨hB.1,heap_alloc2_old w (.cells (pl p).toArray 26) (.cells (ml m).toArray 54)⟩
 have HM:Hid (MAt _ _ m):=⟨heap_alloc2_new w (.cells (pl p).toArray 26) (.cells (ml m).toArray 54)⟩
 have HK0:=Qh (((Kept.refl w).alloc (.cells (pl p).toArray 26)).alloc (.cells (ml m).toArray 54))
 have hpl:Hid (p.B.length=64):=hB.1
 have hon1:onB m.f=true:=by unfold onB;simp;omega
 have hon2:onB m.t=true:=by unfold onB;simp;omega
 have HC:=Qh (rright_k m.f)
 have HC2:=Qh (rright_k m.t)
 rw [hon1,hf] at HC
 rw [hon2,ht] at HC2
 have em:manA p.B m.f=p.B.getD f 0:=by unfold manA bAt;rw [if_pos (by omega),hf,Int.toNat_natCast]
 have en:manA p.B m.t=p.B.getD t 0:=by unfold manA bAt;rw [if_pos (by omega),ht,Int.toNat_natCast]
 have xf:=HM.out.f
 rw [hf] at xf
 have hcf:=Qh xf
 have xt:=HM.out.t
 rw [ht] at xt
 have hct:=Qh xt
 have HQ1:=Qh (HP.out.sq f f1)
 have HQ2:=Qh (HP.out.sq t t1)
 have w1:=i8_i64 hB f1
 have w2:=i8_i64 hB t1
 have HPw:=Qh (rpawn_is p.B hB f f1)
 have HRk:=Qh (fun w=>rrank_k (t:Int) w (by omega) (by omega))
 have hfI:(f:Int)<64:=by omega
 have htI:(t:Int)<64:=by omega
 rw [em] at h1 h4
 have HV:Hid (formB p m=(m.p == 0)):=by
  show _=_
  rw [← promo_stay]
  unfold formB turnsB
  rw [em,h1,hon2,h3,h4];rfl
 rw [en] at h3
 have HTv:=Qh hT
 clear hT
 have h1':(sideI (p.B.getD f 0) != p.t)=false:=by rw [bne,h1];rfl
 clear hB hon1 hon2 em en hf ht xt
 generalize p.B.getD f 0=x at *
 generalize p.B.getD t 0=y at *
 go_enter Tryz.func79,Tryz.ntmps79
 go_wp2_with fail
 refine (HC.out _).mono ?_
 rintro e v1 ⟨rfl,k1⟩
 have HK1:=Qh (HK0.out.trans k1)
 have hct1:=Qh (kept_cell k1 hct.out)
 have xt:=hct1.out
 have KK1:=Qh k1
 clear k1 xf
 go_wp2_with fail
 refine (HC2.out _).mono ?_
 rintro e v2 ⟨rfl,k2⟩
 have HK2:=Qh (HK1.out.trans k2)
 have KK2:=Qh (KK1.out.trans k2)
 have HP2:=Qh (HP.out.kept KK2.out)
 have HM2:=Qh (MAt.kept HM.out KK2.out)
 have hcf2:=Qh (kept_cell KK2.out hcf.out)
 have hct2:=Qh (kept_cell KK2.out hct.out)
 have HQ12:=Qh (kept_cell KK2.out HQ1.out)
 have HQ22:=Qh (kept_cell KK2.out HQ2.out)
 clear k2 xt
 go_wp2
 refine wp_region_held_drew (S:=Kept _) (by kernel_rfl) (Kept.refl _).drew (fun Qj=>?_)
 refine rT 0 17 (.pointer (some ⟨w.heap.size+1,0,none⟩)) rfl rfl Qj ?_
 simp only [pA,pN,sZ,sU]
 refine rC 1 18 (.int .i64 ↑f) rfl rfl (fun _ h=>kept_cell h (hcf2.out)) Qj ?_
 simp only [pA,pN,sZ,sU]
 refine rT 2 19 (.pointer (some ⟨w.heap.size,0,none⟩)) rfl rfl Qj ?_
 simp only [pA,pN,sZ,sU]
 refine rT 3 20 (.pointer (some ⟨w.heap.size,f,none⟩)) rfl rfl Qj ?_
 simp only [pA,pN,sZ,sU]
 refine rC 4 21 (.int .i8 x) rfl rfl (fun _ h=>kept_cell h (HQ12.out)) Qj ?_
 simp only [pA,pN,sZ,sU]
 refine rT 5 22 (.int .i64 x) rfl rfl Qj ?_
 simp only [pA,pN,sZ,sU]
 refine rT 7 24 (.pointer (some ⟨w.heap.size,64,none⟩)) rfl rfl Qj ?_
 simp only [pA,pN,sZ,sU]
 refine rC 8 25 (.int .i64 p.t) rfl rfl (fun _ h=>kept_cell h (HP2.out.turn)) Qj ?_
 simp only [pA,pN,sZ,sU]
 refine rR 6 rfl (fun K hK=>?_)
 go_simp
 refine (rside_k x _).mono ?_
 rintro e v3 ⟨rfl,gv3⟩
 refine hK.out _ _ (Qj.trans gv3) (fun _=>?_)
 replace Qj:=Qj.trans gv3
 clear hK K
 refine rT 9 26 (.bool false) rfl rfl Qj ?_
 simp only [pA,pN,sZ,sU]
 refine rT 10 27 (.bool false) rfl rfl Qj ?_
 simp only [pA,pN,sZ,sU]
 refine rT 11 28 (.pointer (some ⟨w.heap.size+1,1,none⟩)) rfl rfl Qj ?_
 simp only [pA,pN,sZ,sU]
 refine rC 12 29 (.int .i64 ↑t) rfl rfl (fun _ h=>kept_cell h (hct2.out)) Qj ?_
 simp only [pA,pN,sZ,sU]
 refine rT 13 30 (.pointer (some ⟨w.heap.size,0,none⟩)) rfl rfl Qj ?_
 simp only [pA,pN,sZ,sU]
 refine rT 14 31 (.pointer (some ⟨w.heap.size,t,none⟩)) rfl rfl Qj ?_
 simp only [pA,pN,sZ,sU]
 refine rC 15 32 (.int .i8 y) rfl rfl (fun _ h=>kept_cell h (HQ22.out)) Qj ?_
 simp only [pA,pN,sZ,sU]
 refine rT 16 33 (.int .i64 y) rfl rfl Qj ?_
 simp only [pA,pN,sZ,sU]
 refine rT 18 35 (.pointer (some ⟨w.heap.size,64,none⟩)) rfl rfl Qj ?_
 simp only [pA,pN,sZ,sU]
 refine rC 19 36 (.int .i64 p.t) rfl rfl (fun _ h=>kept_cell h (HP2.out.turn)) Qj ?_
 simp only [pA,pN,sZ,sU]
 refine rR 17 rfl (fun K hK=>?_)
 go_simp
 refine (rside_k y _).mono ?_
 rintro e v4 ⟨rfl,gv4⟩
 refine hK.out _ _ (Qj.trans gv4) (fun _=>?_)
 replace Qj:=Qj.trans gv4
 clear hK K
 refine rT 20 37 (.bool false) rfl rfl Qj ?_
 simp only [pA,pN,sZ,sU]
 refine rT 21 38 (.bool false) rfl rfl Qj ?_
 simp only [pA,pN,sZ,sU]
 refine wpAnyH_done (by kernel_rfl) ?_ _
 have KK5:=Qh (KK2.out.trans Qj)
 have HP5:=Qh (HP.out.kept KK5.out)
 have HM5:=Qh (MAt.kept HM.out KK5.out)
 have hcf5:=Qh (kept_cell KK5.out hcf.out)
 have HK5:=Qh (HK2.out.trans Qj)
 clear Qj
 have tt:=HP5.out.turn
 have cf5:=hcf5.out
 rw [HTv.out] at tt
 rw [h4] at HPw
 go_wp2_with (first|(refine wpList_load_ps (by rfl) _ rfl _ rfl _ (HP5.out) ?_)|(refine wpList_load_pb (by rfl) _ rfl _ rfl _ (HP5.out) ?_)|(refine wpList_load_mv (by rfl) _ rfl _ rfl _ (HM5.out) ?_))
 refine (HPw.out _).mono ?_
 rintro e v6 ⟨rfl,k6⟩
 have KK6:=Qh (KK5.out.trans k6)
 have HM6:=Qh (MAt.kept HM.out KK6.out)
 have hct6:=Qh (kept_cell KK6.out hct.out)
 have HK6:=Qh (HK5.out.trans k6)
 clear k6 tt cf5
 have cp:=HM6.out.p
 go_wp2
 go_ret
 exact ⟨by rw [HV.out];rfl,HK6.out⟩
set_option maxHeartbeats 2000000 in
theorem rformed4bn (p:Ps) (hB:Brd p.B) (m:Mv) (f t:Nat) (hf:m.f=f) (ht:m.t=t) (f1:f<64) (t1:t<64) (h1:(sideI (manA p.B m.f) == p.t)=true) (h3:(sideI (manA p.B m.t) == p.t)=false) (h4:(kindI (manA p.B m.f) == 1)=true) (hT:p.t=1) (h5:((t:Int) / 8 == 0)=false) (w:World) :
  Calls Tryz.prog 79 #[.agg (pl p).toArray,.agg (ml m).toArray] w fun e w'=>e=.returned (.bool (formB p m))∧Kept w w':=by
 have HP:Hid (PAt _ _ p):=⟨hB.1,heap_alloc2_old w (.cells (pl p).toArray 26) (.cells (ml m).toArray 54)⟩
 have HM:Hid (MAt _ _ m):=⟨heap_alloc2_new w (.cells (pl p).toArray 26) (.cells (ml m).toArray 54)⟩
 have HK0:=Qh (((Kept.refl w).alloc (.cells (pl p).toArray 26)).alloc (.cells (ml m).toArray 54))
 have hpl:Hid (p.B.length=64):=hB.1
 have hon1:onB m.f=true:=by unfold onB;simp;omega
 have hon2:onB m.t=true:=by unfold onB;simp;omega
 have HC:=Qh (rright_k m.f)
 have HC2:=Qh (rright_k m.t)
 rw [hon1,hf] at HC
 rw [hon2,ht] at HC2
 have em:manA p.B m.f=p.B.getD f 0:=by unfold manA bAt;rw [if_pos (by omega),hf,Int.toNat_natCast]
 have en:manA p.B m.t=p.B.getD t 0:=by unfold manA bAt;rw [if_pos (by omega),ht,Int.toNat_natCast]
 have xf:=HM.out.f
 rw [hf] at xf
 have hcf:=Qh xf
 have xt:=HM.out.t
 rw [ht] at xt
 have hct:=Qh xt
 have HQ1:=Qh (HP.out.sq f f1)
 have HQ2:=Qh (HP.out.sq t t1)
 have w1:=i8_i64 hB f1
 have w2:=i8_i64 hB t1
 have HPw:=Qh (rpawn_is p.B hB f f1)
 have HRk:=Qh (fun w=>rrank_k (t:Int) w (by omega) (by omega))
 have hfI:(f:Int)<64:=by omega
 have htI:(t:Int)<64:=by omega
 rw [em] at h1 h4
 have HV:Hid (formB p m=(m.p == 0)):=by
  show _=_
  rw [← promo_stay]
  unfold formB turnsB lastI
  rw [em,h1,hon2,h3,h4,hT,ht]
  simp only [if_true,if_false,show ((1:Int)=0)=False by simp]
  rw [h5];rfl
 rw [en] at h3
 have HTv:=Qh hT
 clear hT
 generalize (t:Int) / 8=rk at *
 have h1':(sideI (p.B.getD f 0) != p.t)=false:=by rw [bne,h1];rfl
 clear hB hon1 hon2 em en hf ht xt
 generalize p.B.getD f 0=x at *
 generalize p.B.getD t 0=y at *
 go_enter Tryz.func79,Tryz.ntmps79
 go_wp2_with fail
 refine (HC.out _).mono ?_
 rintro e v1 ⟨rfl,k1⟩
 have HK1:=Qh (HK0.out.trans k1)
 have hct1:=Qh (kept_cell k1 hct.out)
 have xt:=hct1.out
 have KK1:=Qh k1
 clear k1 xf
 go_wp2_with fail
 refine (HC2.out _).mono ?_
 rintro e v2 ⟨rfl,k2⟩
 have HK2:=Qh (HK1.out.trans k2)
 have KK2:=Qh (KK1.out.trans k2)
 have HP2:=Qh (HP.out.kept KK2.out)
 have HM2:=Qh (MAt.kept HM.out KK2.out)
 have hcf2:=Qh (kept_cell KK2.out hcf.out)
 have hct2:=Qh (kept_cell KK2.out hct.out)
 have HQ12:=Qh (kept_cell KK2.out HQ1.out)
 have HQ22:=Qh (kept_cell KK2.out HQ2.out)
 clear k2 xt
 go_wp2
 refine wp_region_held_drew (S:=Kept _) (by kernel_rfl) (Kept.refl _).drew (fun Qj=>?_)
 refine rT 0 17 (.pointer (some ⟨w.heap.size+1,0,none⟩)) rfl rfl Qj ?_
 simp only [pA,pN,sZ,sU]
 refine rC 1 18 (.int .i64 ↑f) rfl rfl (fun _ h=>kept_cell h (hcf2.out)) Qj ?_
 simp only [pA,pN,sZ,sU]
 refine rT 2 19 (.pointer (some ⟨w.heap.size,0,none⟩)) rfl rfl Qj ?_
 simp only [pA,pN,sZ,sU]
 refine rT 3 20 (.pointer (some ⟨w.heap.size,f,none⟩)) rfl rfl Qj ?_
 simp only [pA,pN,sZ,sU]
 refine rC 4 21 (.int .i8 x) rfl rfl (fun _ h=>kept_cell h (HQ12.out)) Qj ?_
 simp only [pA,pN,sZ,sU]
 refine rT 5 22 (.int .i64 x) rfl rfl Qj ?_
 simp only [pA,pN,sZ,sU]
 refine rT 7 24 (.pointer (some ⟨w.heap.size,64,none⟩)) rfl rfl Qj ?_
 simp only [pA,pN,sZ,sU]
 refine rC 8 25 (.int .i64 p.t) rfl rfl (fun _ h=>kept_cell h (HP2.out.turn)) Qj ?_
 simp only [pA,pN,sZ,sU]
 refine rR 6 rfl (fun K hK=>?_)
 go_simp
 refine (rside_k x _).mono ?_
 rintro e v3 ⟨rfl,gv3⟩
 refine hK.out _ _ (Qj.trans gv3) (fun _=>?_)
 replace Qj:=Qj.trans gv3
 clear hK K
 refine rT 9 26 (.bool false) rfl rfl Qj ?_
 simp only [pA,pN,sZ,sU]
 refine rT 10 27 (.bool false) rfl rfl Qj ?_
 simp only [pA,pN,sZ,sU]
 refine rT 11 28 (.pointer (some ⟨w.heap.size+1,1,none⟩)) rfl rfl Qj ?_
 simp only [pA,pN,sZ,sU]
 refine rC 12 29 (.int .i64 ↑t) rfl rfl (fun _ h=>kept_cell h (hct2.out)) Qj ?_
 simp only [pA,pN,sZ,sU]
 refine rT 13 30 (.pointer (some ⟨w.heap.size,0,none⟩)) rfl rfl Qj ?_
 simp only [pA,pN,sZ,sU]
 refine rT 14 31 (.pointer (some ⟨w.heap.size,t,none⟩)) rfl rfl Qj ?_
 simp only [pA,pN,sZ,sU]
 refine rC 15 32 (.int .i8 y) rfl rfl (fun _ h=>kept_cell h (HQ22.out)) Qj ?_
 simp only [pA,pN,sZ,sU]
 refine rT 16 33 (.int .i64 y) rfl rfl Qj ?_
 simp only [pA,pN,sZ,sU]
 refine rT 18 35 (.pointer (some ⟨w.heap.size,64,none⟩)) rfl rfl Qj ?_
 simp only [pA,pN,sZ,sU]
 refine rC 19 36 (.int .i64 p.t) rfl rfl (fun _ h=>kept_cell h (HP2.out.turn)) Qj ?_
 simp only [pA,pN,sZ,sU]
 refine rR 17 rfl (fun K hK=>?_)
 go_simp
 refine (rside_k y _).mono ?_
 rintro e v4 ⟨rfl,gv4⟩
 refine hK.out _ _ (Qj.trans gv4) (fun _=>?_)
 replace Qj:=Qj.trans gv4
 clear hK K
 refine rT 20 37 (.bool false) rfl rfl Qj ?_
 simp only [pA,pN,sZ,sU]
 refine rT 21 38 (.bool false) rfl rfl Qj ?_
 simp only [pA,pN,sZ,sU]
 refine wpAnyH_done (by kernel_rfl) ?_ _
 have KK5:=Qh (KK2.out.trans Qj)
 have HP5:=Qh (HP.out.kept KK5.out)
 have HM5:=Qh (MAt.kept HM.out KK5.out)
 have hcf5:=Qh (kept_cell KK5.out hcf.out)
 have HK5:=Qh (HK2.out.trans Qj)
 clear Qj
 have tt:=HP5.out.turn
 have cf5:=hcf5.out
 rw [HTv.out] at tt
 rw [h4] at HPw
 go_wp2_with (first|(refine wpList_load_ps (by rfl) _ rfl _ rfl _ (HP5.out) ?_)|(refine wpList_load_pb (by rfl) _ rfl _ rfl _ (HP5.out) ?_)|(refine wpList_load_mv (by rfl) _ rfl _ rfl _ (HM5.out) ?_))
 refine (HPw.out _).mono ?_
 rintro e v6 ⟨rfl,k6⟩
 have KK6:=Qh (KK5.out.trans k6)
 have HM6:=Qh (MAt.kept HM.out KK6.out)
 have hct6:=Qh (kept_cell KK6.out hct.out)
 have HK6:=Qh (HK5.out.trans k6)
 clear k6 tt cf5
 have ct6:=hct6.out
 go_wp2_with fail
 refine (HRk.out _).mono ?_
 rintro e v7 ⟨rfl,k7⟩
 have HM7:=Qh (MAt.kept HM6.out k7)
 have HK7:=Qh (HK6.out.trans k7)
 clear k7 ct6
 have cp:=HM7.out.p
 go_wp2
 go_ret
 exact ⟨by rw [HV.out];rfl,HK7.out⟩
set_option maxHeartbeats 2000000 in
theorem rformed4by (p:Ps) (hB:Brd p.B) (m:Mv) (f t:Nat) (hf:m.f=f) (ht:m.t=t) (f1:f<64) (t1:t<64) (h1:(sideI (manA p.B m.f) == p.t)=true) (h3:(sideI (manA p.B m.t) == p.t)=false) (h4:(kindI (manA p.B m.f) == 1)=true) (hT:p.t=1) (h5:((t:Int) / 8 == 0)=true) (w:World) :
  Calls Tryz.prog 79 #[.agg (pl p).toArray,.agg (ml m).toArray] w fun e w'=>e=.returned (.bool (formB p m))∧Kept w w':=by
 have HP:Hid (PAt _ _ p):=⟨hB.1,heap_alloc2_old w (.cells (pl p).toArray 26) (.cells (ml m).toArray 54)⟩
 have HM:Hid (MAt _ _ m):=⟨heap_alloc2_new w (.cells (pl p).toArray 26) (.cells (ml m).toArray 54)⟩
 have HK0:=Qh (((Kept.refl w).alloc (.cells (pl p).toArray 26)).alloc (.cells (ml m).toArray 54))
 have hpl:Hid (p.B.length=64):=hB.1
 have hon1:onB m.f=true:=by unfold onB;simp;omega
 have hon2:onB m.t=true:=by unfold onB;simp;omega
 have HC:=Qh (rright_k m.f)
 have HC2:=Qh (rright_k m.t)
 rw [hon1,hf] at HC
 rw [hon2,ht] at HC2
 have em:manA p.B m.f=p.B.getD f 0:=by unfold manA bAt;rw [if_pos (by omega),hf,Int.toNat_natCast]
 have en:manA p.B m.t=p.B.getD t 0:=by unfold manA bAt;rw [if_pos (by omega),ht,Int.toNat_natCast]
 have xf:=HM.out.f
 rw [hf] at xf
 have hcf:=Qh xf
 have xt:=HM.out.t
 rw [ht] at xt
 have hct:=Qh xt
 have HQ1:=Qh (HP.out.sq f f1)
 have HQ2:=Qh (HP.out.sq t t1)
 have w1:=i8_i64 hB f1
 have w2:=i8_i64 hB t1
 have HPw:=Qh (rpawn_is p.B hB f f1)
 have HRk:=Qh (fun w=>rrank_k (t:Int) w (by omega) (by omega))
 have hfI:(f:Int)<64:=by omega
 have htI:(t:Int)<64:=by omega
 rw [em] at h1 h4
 have HV:Hid (formB p m=(decide (2≤m.p) && decide (m.p≤5))):=by
  show _=_
  rw [← promo_turn]
  unfold formB turnsB lastI
  rw [em,h1,hon2,h3,h4,hT,ht]
  simp only [if_true,if_false,show ((1:Int)=0)=False by simp]
  rw [h5];rfl
 rw [en] at h3
 have HTv:=Qh hT
 clear hT
 generalize (t:Int) / 8=rk at *
 have h1':(sideI (p.B.getD f 0) != p.t)=false:=by rw [bne,h1];rfl
 clear hB hon1 hon2 em en hf ht xt
 generalize p.B.getD f 0=x at *
 generalize p.B.getD t 0=y at *
 go_enter Tryz.func79,Tryz.ntmps79
 go_wp2_with fail
 refine (HC.out _).mono ?_
 rintro e v1 ⟨rfl,k1⟩
 have HK1:=Qh (HK0.out.trans k1)
 have hct1:=Qh (kept_cell k1 hct.out)
 have xt:=hct1.out
 have KK1:=Qh k1
 clear k1 xf
 go_wp2_with fail
 refine (HC2.out _).mono ?_
 rintro e v2 ⟨rfl,k2⟩
 have HK2:=Qh (HK1.out.trans k2)
 have KK2:=Qh (KK1.out.trans k2)
 have HP2:=Qh (HP.out.kept KK2.out)
 have HM2:=Qh (MAt.kept HM.out KK2.out)
 have hcf2:=Qh (kept_cell KK2.out hcf.out)
 have hct2:=Qh (kept_cell KK2.out hct.out)
 have HQ12:=Qh (kept_cell KK2.out HQ1.out)
 have HQ22:=Qh (kept_cell KK2.out HQ2.out)
 clear k2 xt
 go_wp2
 refine wp_region_held_drew (S:=Kept _) (by kernel_rfl) (Kept.refl _).drew (fun Qj=>?_)
 refine rT 0 17 (.pointer (some ⟨w.heap.size+1,0,none⟩)) rfl rfl Qj ?_
 simp only [pA,pN,sZ,sU]
 refine rC 1 18 (.int .i64 ↑f) rfl rfl (fun _ h=>kept_cell h (hcf2.out)) Qj ?_
 simp only [pA,pN,sZ,sU]
 refine rT 2 19 (.pointer (some ⟨w.heap.size,0,none⟩)) rfl rfl Qj ?_
 simp only [pA,pN,sZ,sU]
 refine rT 3 20 (.pointer (some ⟨w.heap.size,f,none⟩)) rfl rfl Qj ?_
 simp only [pA,pN,sZ,sU]
 refine rC 4 21 (.int .i8 x) rfl rfl (fun _ h=>kept_cell h (HQ12.out)) Qj ?_
 simp only [pA,pN,sZ,sU]
 refine rT 5 22 (.int .i64 x) rfl rfl Qj ?_
 simp only [pA,pN,sZ,sU]
 refine rT 7 24 (.pointer (some ⟨w.heap.size,64,none⟩)) rfl rfl Qj ?_
 simp only [pA,pN,sZ,sU]
 refine rC 8 25 (.int .i64 p.t) rfl rfl (fun _ h=>kept_cell h (HP2.out.turn)) Qj ?_
 simp only [pA,pN,sZ,sU]
 refine rR 6 rfl (fun K hK=>?_)
 go_simp
 refine (rside_k x _).mono ?_
 rintro e v3 ⟨rfl,gv3⟩
 refine hK.out _ _ (Qj.trans gv3) (fun _=>?_)
 replace Qj:=Qj.trans gv3
 clear hK K
 refine rT 9 26 (.bool false) rfl rfl Qj ?_
 simp only [pA,pN,sZ,sU]
 refine rT 10 27 (.bool false) rfl rfl Qj ?_
 simp only [pA,pN,sZ,sU]
 refine rT 11 28 (.pointer (some ⟨w.heap.size+1,1,none⟩)) rfl rfl Qj ?_
 simp only [pA,pN,sZ,sU]
 refine rC 12 29 (.int .i64 ↑t) rfl rfl (fun _ h=>kept_cell h (hct2.out)) Qj ?_
 simp only [pA,pN,sZ,sU]
 refine rT 13 30 (.pointer (some ⟨w.heap.size,0,none⟩)) rfl rfl Qj ?_
 simp only [pA,pN,sZ,sU]
 refine rT 14 31 (.pointer (some ⟨w.heap.size,t,none⟩)) rfl rfl Qj ?_
 simp only [pA,pN,sZ,sU]
 refine rC 15 32 (.int .i8 y) rfl rfl (fun _ h=>kept_cell h (HQ22.out)) Qj ?_
 simp only [pA,pN,sZ,sU]
 refine rT 16 33 (.int .i64 y) rfl rfl Qj ?_
 simp only [pA,pN,sZ,sU]
 refine rT 18 35 (.pointer (some ⟨w.heap.size,64,none⟩)) rfl rfl Qj ?_
 simp only [pA,pN,sZ,sU]
 refine rC 19 36 (.int .i64 p.t) rfl rfl (fun _ h=>kept_cell h (HP2.out.turn)) Qj ?_
 simp only [pA,pN,sZ,sU]
 refine rR 17 rfl (fun K hK=>?_)
 go_simp
 refine (rside_k y _).mono ?_
 rintro e v4 ⟨rfl,gv4⟩
 refine hK.out _ _ (Qj.trans gv4) (fun _=>?_)
 replace Qj:=Qj.trans gv4
 clear hK K
 refine rT 20 37 (.bool false) rfl rfl Qj ?_
 simp only [pA,pN,sZ,sU]
 refine rT 21 38 (.bool false) rfl rfl Qj ?_
 simp only [pA,pN,sZ,sU]
 refine wpAnyH_done (by kernel_rfl) ?_ _
 have KK5:=Qh (KK2.out.trans Qj)
 have HP5:=Qh (HP.out.kept KK5.out)
 have HM5:=Qh (MAt.kept HM.out KK5.out)
 have hcf5:=Qh (kept_cell KK5.out hcf.out)
 have HK5:=Qh (HK2.out.trans Qj)
 clear Qj
 have tt:=HP5.out.turn
 have cf5:=hcf5.out
 rw [HTv.out] at tt
 rw [h4] at HPw
 go_wp2_with (first|(refine wpList_load_ps (by rfl) _ rfl _ rfl _ (HP5.out) ?_)|(refine wpList_load_pb (by rfl) _ rfl _ rfl _ (HP5.out) ?_)|(refine wpList_load_mv (by rfl) _ rfl _ rfl _ (HM5.out) ?_))
 refine (HPw.out _).mono ?_
 rintro e v6 ⟨rfl,k6⟩
 have KK6:=Qh (KK5.out.trans k6)
 have HM6:=Qh (MAt.kept HM.out KK6.out)
 have hct6:=Qh (kept_cell KK6.out hct.out)
 have HK6:=Qh (HK5.out.trans k6)
 clear k6 tt cf5
 have ct6:=hct6.out
 go_wp2_with fail
 refine (HRk.out _).mono ?_
 rintro e v7 ⟨rfl,k7⟩
 have HM7:=Qh (MAt.kept HM6.out k7)
 have HK7:=Qh (HK6.out.trans k7)
 clear k7 ct6
 have cp:=HM7.out.p
 cases h6:decide (2≤m.p)
 ·rw [h6] at HV
  go_wp2
  go_ret
  exact ⟨by rw [HV.out];rfl,HK7.out⟩
 ·rw [h6] at HV
  go_wp2
  go_ret
  exact ⟨by rw [HV.out];rfl,HK7.out⟩
theorem rformed_is (p:Ps) (hB:Brd p.B) (t01:p.t=0∨p.t=1) (m:Mv) (w:World) :
  Calls Tryz.prog 79 #[.agg (pl p).toArray,.agg (ml m).toArray] w fun e w'=>e=.returned (.bool (formB p m))∧Kept w w':=by
 cases ho1:onB m.f
 ·exact rformed_f p hB t01 m ho1 w
 ·cases ho2:onB m.t
  ·exact rformed_t p hB m ho1 ho2 w
  ·have a1:0≤m.f∧m.f<64:=by simpa [onB] using ho1
   have a2:0≤m.t∧m.t<64:=by simpa [onB] using ho2
   obtain ⟨f,hf⟩:=Int.eq_ofNat_of_zero_le a1.1
   obtain ⟨t,ht⟩:=Int.eq_ofNat_of_zero_le a2.1
   have f1:f<64:=by omega
   have t1:t<64:=by omega
   cases h1:(sideI (manA p.B m.f) == p.t)
   ·exact rformed1 p hB m f t hf ht f1 t1 h1 w
   ·cases h3:(sideI (manA p.B m.t) == p.t)
    ·cases h4:(kindI (manA p.B m.f) == 1)
     ·rcases t01 with hT|hT
      ·exact rformed3w p hB m f t hf ht f1 t1 h1 h3 h4 hT w
      ·exact rformed3b p hB m f t hf ht f1 t1 h1 h3 h4 hT w
     ·rcases t01 with hT|hT
      ·cases h5:((t:Int) / 8 == 7)
       ·exact rformed4wn p hB m f t hf ht f1 t1 h1 h3 h4 hT h5 w
       ·exact rformed4wy p hB m f t hf ht f1 t1 h1 h3 h4 hT h5 w
      ·cases h5:((t:Int) / 8 == 0)
       ·exact rformed4bn p hB m f t hf ht f1 t1 h1 h3 h4 hT h5 w
       ·exact rformed4by p hB m f t hf ht f1 t1 h1 h3 h4 hT h5 w
    ·exact rformed2 p hB m f t hf ht f1 t1 h1 h3 w
end Go.Proofs.YtijkemnhehbchaaGreatDoor
