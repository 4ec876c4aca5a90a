/- MvY · GeL · LeJ · NoF: my texts, in their order. -/
import Derived.Test.YtlpeiolgcaddjaaGreatDoorPkA
import Derived.Test.YtlpeiolgcaddjaaGreatDoorPkB
import Derived.Test.YtlpeiolgcaddjaaGreatDoorPkC
import Derived.Test.YtlpeiolgcaddjaaGreatDoorPkD
import Derived.Test.YtlpeiolgcaddjaaGreatDoorPkE
import Derived.Test.YtlpeiolgcaddjaaGreatDoorPkF
import Derived.Test.YtlpeiolgcaddjaaGreatDoorPkGa
import Derived.Test.YtlpeiolgcaddjaaGreatDoorPkGb
import Derived.Test.YtlpeiolgcaddjaaGreatDoorPkGc
import Derived.Test.YtlpeiolgcaddjaaGreatDoorPkGd
import Derived.Test.YtlpeiolgcaddjaaGreatDoorPkGe
import Derived.Test.YtlpeiolgcaddjaaGreatDoorPkGf
import Derived.Test.YtlpeiolgcaddjaaGreatDoorPkGg
import Derived.Test.YtlpeiolgcaddjaaGreatDoorPkGh
import Derived.Test.YtlpeiolgcaddjaaGreatDoorPkGj
import Derived.Test.YtlpeiolgcaddjaaGreatDoorPkH
import Derived.Test.YtlpeiolgcaddjaaGreatDoorPkI
import Derived.Test.YtlpeiolgcaddjaaGreatDoorPkJ
import Derived.Test.YtlpeiolgcaddjaaGreatDoorPkK
import Derived.Test.YtlpeiolgcaddjaaGreatDoorPkL
import Derived.Test.YtlpeiolgcaddjaaGreatDoorPkLa
import Derived.Test.YtlpeiolgcaddjaaGreatDoorPkLd
import Derived.Test.YtlpeiolgcaddjaaGreatDoorPkLe
import Derived.Test.YtlpeiolgcaddjaaGreatDoorPkLf
import Derived.Test.YtlpeiolgcaddjaaGreatDoorPkLg
import Derived.Test.YtlpeiolgcaddjaaGreatDoorPkLh
import Derived.Test.YtlpeiolgcaddjaaGreatDoorPkLi
import Derived.Test.YtlpeiolgcaddjaaGreatDoorPkLj
import Derived.Test.YtlpeiolgcaddjaaGreatDoorPkM
import Derived.Test.YtlpeiolgcaddjaaGreatDoorPkN
import Derived.Test.YtlpeiolgcaddjaaGreatDoorPkNa
import Derived.Test.YtlpeiolgcaddjaaGreatDoorPkNb
import Derived.Test.YtlpeiolgcaddjaaGreatDoorPkNc
import Derived.Test.YtlpeiolgcaddjaaGreatDoorPkNd
import Derived.Test.YtlpeiolgcaddjaaGreatDoorPkNf
import Derived.Test.YtlpeiolgcaddjaaGreatDoorPkO
import Derived.Test.YtlpeiolgcaddjaaGreatDoorPkP
import Derived.Test.YtlpeiolgcaddjaaGreatDoorPkQ
import Derived.Test.YtlpeiolgcaddjaaGreatDoorPkR
import Derived.Test.YtlpeiolgcaddjaaGreatDoorPkU
import Derived.Test.YtlpeiolgcaddjaaGreatDoorPkV
import Derived.Test.YtlpeiolgcaddjaaGreatDoorPkY
import Derived.Deep.Strs
namespace Go.Proofs.YtlpeiolgcaddjaaGreatDoor
open Go.ChangeShapes Go.WideShapes Go.ChangeAt Go.RowKit
open Go.Joins Go.Deep
set_option linter.unusedVariables false
set_option linter.unusedSimpArgs false
set_option maxRecDepth 100000
section
variable {H:Type} {enc:TypeId × Value→H}
def dM (H:Type) (m:Mv):DataW H:=.agg [.lit (.int .i64 m.f),.lit (.int .i64 m.t),.lit (.int .i64 m.p)]
structure MvW (m:Mv):Prop where
 f:(Lit.int .i64 m.f).wf=true
 t:(Lit.int .i64 m.t).wf=true
 p:(Lit.int .i64 m.p).wf=true
theorem cells28:Tryz.prog.cellsOf 28=3:=by kernel_rfl
theorem shut_move {W:World} {base:Nat} {sp:Nat→Bool} {hd:Bool} (m:Mv) (h:MvW m):DataW.Trod enc Tryz.prog W base sp hd 28 (.agg (ml m).toArray) (dM H m) []:=by
 refine ⟨3,?_⟩;have hc:(Value.agg (ml m).toArray).cells.toList=ml m:=rfl;rw [hc]
 have:=trod_struct3_mk (enc:=enc) (w:=W) (base:=base) (spare:=sp) (held:=hd) (n:=2) (cs:=ml m) (y0:=(.lit (.int .i64 m.f),[])) (y1:=(.lit (.int .i64 m.t),[])) (y2:=(.lit (.int .i64 m.p),[]))
  Tryz.underlying28 (by rw [cells28];rfl) (by rw [Yk];show DataW.trod enc Tryz.prog W base sp hd 2 3 [.int .i64 m.f]=_;exact trod_int_mk h.f)
  (by rw [Yk];show DataW.trod enc Tryz.prog W base sp hd 2 3 [.int .i64 m.t]=_;exact trod_int_mk h.t) (by rw [Yk];show DataW.trod enc Tryz.prog W base sp hd 2 3 [.int .i64 m.p]=_;exact trod_int_mk h.p)
 exact this
end
end Go.Proofs.YtlpeiolgcaddjaaGreatDoor
namespace Go.Proofs.YtlpeiolgcaddjaaGreatDoor
open Go.RowKit
set_option linter.unusedVariables false
set_option linter.unusedSimpArgs false
set_option maxRecDepth 100000
theorem rgoes_is (p:Ps) (hB:Brd p.B) (hr:pwI p=0) (m:Mv) (w:World):Calls Tryz.prog 37 #[.agg (pl p).toArray,.agg (ml m).toArray] w fun e w'=>e=.returned (.bool (goesM p m))∧Kept w w':=by
 have HP:Hid (PAt _ _ p):=⟨hB.1,heap_alloc2_old w (.cells (pl p).toArray 26) (.cells (ml m).toArray 28)⟩;have HM:Hid (MAt _ _ m):=⟨heap_alloc2_new w (.cells (pl p).toArray 26) (.cells (ml m).toArray 28)⟩;have HK0:=Qh (((Kept.refl w).alloc (.cells (pl p).toArray 26)).alloc (.cells (ml m).toArray 28));have HFo:=Qh (fun w=>rformed_is p hB (Qt hr).1 m w)
 cases hf:formB p m
 ·rw [hf] at HFo
  have HV:=Qh (goes_not hf);clear hB hr hf;go_enter Tryz.func37,Tryz.ntmps37;go_wp2_with (first|(refine Qc (by rfl) _ rfl _ rfl _ (HP.out) ?_)|(refine Qd (by rfl) _ rfl _ rfl _ (HP.out) ?_)|(refine Qe (by rfl) _ rfl _ rfl _ (HM.out) ?_))
  refine (HFo.out _).mono ?_;rintro e w1 ⟨rfl,k1⟩;have HK1:=Qh (HK0.out.trans k1);clear k1;go_wp2;go_ret;exact ⟨by rw [HV.out];rfl,HK1.out⟩
 ·rw [hf] at HFo
  obtain ⟨f,t,F⟩:=Yt hB (show okM p m=true by unfold okM;rw [hr,hf];rfl);have HPw:=Qh (fun w=>Jn p.B hB f F.f1 w)
  cases hk:(kindI (p.B.getD f 0) == 1)
  ·rw [hk] at HPw
   have HH:=Qh (fun w=>hits_is p.B hB f F.f1 (t:Int) w);have HRt:=Qh (fun w=>rightR_is p hB (Qt hr).2.1.1 (Qt hr).2.1.2 (Yj hr).2.2.2.1 m f t F.hf F.ht F.f1 F.t1 w);have hgt:=right_gt (p:=p) (m:=m);have hV:=goes_man hf (by rw [F.pb,hk]);rw [← hgt,F.hf,F.ht] at hV;have HV:=Qh hV;have hcf:=HM.out.f;have hct:=HM.out.t;rw [F.hf] at hcf;rw [F.ht] at hct;generalize hitB p.B (f:Int) (t:Int)=hb at *;generalize hR (castN p m)=x at *;have hcT:=Qh hct;clear hB hr hf hk F hgt hV hct
   cases hb
   ·go_enter Tryz.func37,Tryz.ntmps37
    go_wp2_with (first|(refine Qc (by rfl) _ rfl _ rfl _ (HP.out) ?_)|(refine Qd (by rfl) _ rfl _ rfl _ (HP.out) ?_)|(refine Qe (by rfl) _ rfl _ rfl _ (HM.out) ?_))
    refine (HFo.out _).mono ?_;rintro e w1 ⟨rfl,k1⟩;have HK1:=Qh (HK0.out.trans k1);have HP1:=Qh (HP.out.kept k1);have HM1:=Qh (MAt.kept HM.out k1);have hcf1:=Qa k1 hcf;have hct1:=Qa k1 hcT.out;clear k1 hcf;go_wp2_with (first|(refine Qc (by rfl) _ rfl _ rfl _ (HP1.out) ?_)|(refine Qd (by rfl) _ rfl _ rfl _ (HP1.out) ?_)|(refine Qe (by rfl) _ rfl _ rfl _ (HM1.out) ?_))
    refine (HPw.out _).mono ?_;rintro e w2 ⟨rfl,k2⟩;have HK2:=Qh (HK1.out.trans k2);have HP2:=Qh (HP1.out.kept k2);have HM2:=Qh (MAt.kept HM1.out k2);have hcf2:=Qa k2 hcf1;have hct2:=Qa k2 hct1;clear k2 hcf1 hct1;go_wp2_with (first|(refine Qc (by rfl) _ rfl _ rfl _ (HP2.out) ?_)|(refine Qd (by rfl) _ rfl _ rfl _ (HP2.out) ?_)|(refine Qe (by rfl) _ rfl _ rfl _ (HM2.out) ?_))
    refine (HH.out _).mono ?_;rintro e w3 ⟨rfl,k3⟩;have HK3:=Qh (HK2.out.trans k3);have HP3:=Qh (HP2.out.kept k3);have HM3:=Qh (MAt.kept HM2.out k3);clear k3 hcf2 hct2;go_wp2_with (first|(refine Qc (by rfl) _ rfl _ rfl _ (HP3.out) ?_)|(refine Qd (by rfl) _ rfl _ rfl _ (HP3.out) ?_)|(refine Qe (by rfl) _ rfl _ rfl _ (HM3.out) ?_))
    refine (HRt.out _).mono ?_;rintro e w4 ⟨rfl,k4⟩;have HK4:=Qh (HK3.out.trans k4);clear k4;go_wp2;go_ret;exact ⟨by rw [HV.out];rfl,HK4.out⟩
   ·go_enter Tryz.func37,Tryz.ntmps37
    go_wp2_with (first|(refine Qc (by rfl) _ rfl _ rfl _ (HP.out) ?_)|(refine Qd (by rfl) _ rfl _ rfl _ (HP.out) ?_)|(refine Qe (by rfl) _ rfl _ rfl _ (HM.out) ?_))
    refine (HFo.out _).mono ?_;rintro e w1 ⟨rfl,k1⟩;have HK1:=Qh (HK0.out.trans k1);have HP1:=Qh (HP.out.kept k1);have HM1:=Qh (MAt.kept HM.out k1);have hcf1:=Qa k1 hcf;have hct1:=Qa k1 hcT.out;clear k1 hcf;go_wp2_with (first|(refine Qc (by rfl) _ rfl _ rfl _ (HP1.out) ?_)|(refine Qd (by rfl) _ rfl _ rfl _ (HP1.out) ?_)|(refine Qe (by rfl) _ rfl _ rfl _ (HM1.out) ?_))
    refine (HPw.out _).mono ?_;rintro e w2 ⟨rfl,k2⟩;have HK2:=Qh (HK1.out.trans k2);have HP2:=Qh (HP1.out.kept k2);have HM2:=Qh (MAt.kept HM1.out k2);have hcf2:=Qa k2 hcf1;have hct2:=Qa k2 hct1;clear k2 hcf1 hct1;go_wp2_with (first|(refine Qc (by rfl) _ rfl _ rfl _ (HP2.out) ?_)|(refine Qd (by rfl) _ rfl _ rfl _ (HP2.out) ?_)|(refine Qe (by rfl) _ rfl _ rfl _ (HM2.out) ?_))
    refine (HH.out _).mono ?_;rintro e w3 ⟨rfl,k3⟩;have HK3:=Qh (HK2.out.trans k3);clear k3 hcf2 hct2;go_wp2;go_ret;exact ⟨by rw [HV.out];rfl,HK3.out⟩
  ·rw [hk] at HPw
   have HG:=Qh (fun w=>rpgo_is p m f t (F.pf (beq_iff_eq.1 hk)) w);have HV:=Qh (goes_pawn hf (by rw [F.pb,hk]));have hcf:=HM.out.f;rw [F.hf] at hcf;generalize pgoB p m=b at *;clear hB hr hf hk F;go_enter Tryz.func37,Tryz.ntmps37;go_wp2_with (first|(refine Qc (by rfl) _ rfl _ rfl _ (HP.out) ?_)|(refine Qd (by rfl) _ rfl _ rfl _ (HP.out) ?_)|(refine Qe (by rfl) _ rfl _ rfl _ (HM.out) ?_))
   refine (HFo.out _).mono ?_;rintro e w1 ⟨rfl,k1⟩;have HK1:=Qh (HK0.out.trans k1);have HP1:=Qh (HP.out.kept k1);have HM1:=Qh (MAt.kept HM.out k1);have hcf1:=Qa k1 hcf;clear k1 hcf;go_wp2_with (first|(refine Qc (by rfl) _ rfl _ rfl _ (HP1.out) ?_)|(refine Qd (by rfl) _ rfl _ rfl _ (HP1.out) ?_)|(refine Qe (by rfl) _ rfl _ rfl _ (HM1.out) ?_))
   refine (HPw.out _).mono ?_;rintro e w2 ⟨rfl,k2⟩;have HK2:=Qh (HK1.out.trans k2);have HP2:=Qh (HP1.out.kept k2);have HM2:=Qh (MAt.kept HM1.out k2);clear k2 hcf1;go_wp2_with (first|(refine Qc (by rfl) _ rfl _ rfl _ (HP2.out) ?_)|(refine Qd (by rfl) _ rfl _ rfl _ (HP2.out) ?_)|(refine Qe (by rfl) _ rfl _ rfl _ (HM2.out) ?_))
   refine (HG.out _).mono ?_;rintro e w3 ⟨rfl,k3⟩;have HK3:=Qh (HK2.out.trans k3);clear k3;go_wp2;go_ret;exact ⟨by rw [HV.out];rfl,HK3.out⟩
theorem rlegal_is (p:Ps) (hB:Brd p.B) (hr:pwI p=0) (m:Mv) (w:World) :
  Calls Tryz.prog 12 #[.agg (pl p).toArray,.agg (ml m).toArray] w fun e w'=>e=.returned (.bool (legB p m))∧Kept w w':=by
 have HP:Hid (PAt _ _ p):=⟨hB.1,heap_alloc2_old w (.cells (pl p).toArray 26) (.cells (ml m).toArray 28)⟩;have HM:Hid (MAt _ _ m):=⟨heap_alloc2_new w (.cells (pl p).toArray 26) (.cells (ml m).toArray 28)⟩;have HK0:=Qh (((Kept.refl w).alloc (.cells (pl p).toArray 26)).alloc (.cells (ml m).toArray 28));have HG:=Qh (fun w=>rgoes_is p hB hr m w);have HS:=Qh (fun (hg:goesM p m=true) w=>rstays_is p hB hr m hg w)
 cases hg:goesM p m
 ·have HV:Hid (legB p m=false):=by show _=_;unfold legB;rw [hg];rfl
  rw [hg] at HG;clear hB hr hg HS;go_enter Tryz.func12,Tryz.ntmps12;go_wp2_with (first|(refine Qc (by rfl) _ rfl _ rfl _ (HP.out) ?_)|(refine Qd (by rfl) _ rfl _ rfl _ (HP.out) ?_)|(refine Qe (by rfl) _ rfl _ rfl _ (HM.out) ?_))
  refine (HG.out _).mono ?_;rintro e w1 ⟨rfl,k1⟩;have HK1:=Qh (HK0.out.trans k1);clear k1;go_wp2;go_ret;exact ⟨by rw [HV.out];rfl,HK1.out⟩
 ·have HV:Hid (legB p m=stayB p m):=by show _=_;unfold legB;rw [hg];rfl
  have HS1:=Qh (HS.out hg);rw [hg] at HG;clear hB hr hg HS;generalize stayB p m=sb at *;go_enter Tryz.func12,Tryz.ntmps12;go_wp2_with (first|(refine Qc (by rfl) _ rfl _ rfl _ (HP.out) ?_)|(refine Qd (by rfl) _ rfl _ rfl _ (HP.out) ?_)|(refine Qe (by rfl) _ rfl _ rfl _ (HM.out) ?_))
  refine (HG.out _).mono ?_;rintro e w1 ⟨rfl,k1⟩;have HK1:=Qh (HK0.out.trans k1);have HP1:=Qh (HP.out.kept k1);have HM1:=Qh (MAt.kept HM.out k1);clear k1;go_wp2_with (first|(refine Qc (by rfl) _ rfl _ rfl _ (HP1.out) ?_)|(refine Qd (by rfl) _ rfl _ rfl _ (HP1.out) ?_)|(refine Qe (by rfl) _ rfl _ rfl _ (HM1.out) ?_))
  refine (HS1.out _).mono ?_;rintro e w2 ⟨rfl,k2⟩;have HK2:=Qh (HK1.out.trans k2);clear k2;go_wp2;go_ret;exact ⟨by rw [HV.out];rfl,HK2.out⟩
set_option maxHeartbeats 2000000 in
theorem nshort_no (p:Ps) (hB:Brd p.B) (m:Mv) (h:pwI p=0) (hl:legB p m=false) (w:World) (hT:TabG w):Calls Tryz.prog 9 #[.agg (pl p).toArray,.agg (ml m).toArray] w (RetSE w ⟨#[]⟩ 5):=by
 have HP:Hid (PAt _ _ p):=⟨hB.1,heap_alloc2_old w (.cells (pl p).toArray 26) (.cells (ml m).toArray 28)⟩;have HM:Hid (MAt _ _ m):=⟨heap_alloc2_new w (.cells (pl p).toArray 26) (.cells (ml m).toArray 28)⟩;have HK0:=Qh (((Kept.refl w).alloc (.cells (pl p).toArray 26)).alloc (.cells (ml m).toArray 28));have HT:=Qh (hT.kept HK0.out);have hpl:Hid (p.B.length=64):=hB.1;have HPl:=Qh (fun r g a b w hT hR=>play_is r g a b p hB m w hT hR);have hP:playP p m=Zp:=by rw [playP_in h,hl];rfl
 have hE:playE p m=5:=by rw [playE_in h,hl];rfl
 rw [hP,hE] at HPl;have hql:Hid (Zp.B.length=64):=Yy;clear hB hT h hP hE hl;go_enter Tryz.func9,Tryz.ntmps9;go_wp2_with fail
 refine (rnew_is _).mono ?_;rintro e w1 ⟨r,g,a,b,rfl,hR,k1⟩;have HK1:=Qh (HK0.out.trans k1);have HP1:=Qh (HP.out.kept k1);have HM1:=Qh (MAt.kept HM.out k1);have HT1:=Qh (HT.out.kept k1);have HR1:=Qh hR;clear k1 hR;go_wp2_with (first|(refine Qc (by rfl) _ rfl _ rfl _ (HP1.out) ?_)|(refine Qd (by rfl) _ rfl _ rfl _ (HP1.out) ?_)|(refine Qe (by rfl) _ rfl _ rfl _ (HM1.out) ?_))
 refine (HPl.out r g a b _ HT1.out HR1.out).mono ?_;rintro e w2 ⟨rfl,k2⟩;have KA:=Qh (k2.alloc (.cells (pl Zp).toArray 26));have HK2:=Qh (HK1.out.trans KA.out);clear k2 KA;go_wp2_with (first|(with_reducible refine Qy rfl rfl ?_)|((with_reducible refine Yb rfl _ _ rfl Zp Zp Yy hql.out ?_ ?_ ?_);exact rfl;exact rfl))
 go_ret2;exact ⟨rfl,HK2.out⟩
end Go.Proofs.YtlpeiolgcaddjaaGreatDoor
