/- MvY · NoF · NoI: my texts, in their order. -/
import Derived.Test.YtlpeiolgcaddjaaGreatDoorPkXWLo0
import Derived.Test.YtlpeiolgcaddjaaGreatDoorPkXWL0
import Derived.Test.YtlpeiolgcaddjaaGreatDoorPkXWo0
import Derived.Test.YtlpeiolgcaddjaaGreatDoorPkA
import Derived.Test.YtlpeiolgcaddjaaGreatDoorPkB
import Derived.Test.YtlpeiolgcaddjaaGreatDoorPkC
import Derived.Test.YtlpeiolgcaddjaaGreatDoorPkD
import Derived.Test.YtlpeiolgcaddjaaGreatDoorPkE
import Derived.Test.YtlpeiolgcaddjaaGreatDoorPkF
import Derived.Test.YtlpeiolgcaddjaaGreatDoorPkGa
import Derived.Test.YtlpeiolgcaddjaaGreatDoorPkGb
import Derived.Test.YtlpeiolgcaddjaaGreatDoorPkGc
import Derived.Test.YtlpeiolgcaddjaaGreatDoorPkGd
import Derived.Test.YtlpeiolgcaddjaaGreatDoorPkGe
import Derived.Test.YtlpeiolgcaddjaaGreatDoorPkGf
import Derived.Test.YtlpeiolgcaddjaaGreatDoorPkGg
import Derived.Test.YtlpeiolgcaddjaaGreatDoorPkGh
import Derived.Test.YtlpeiolgcaddjaaGreatDoorPkGj
import Derived.Test.YtlpeiolgcaddjaaGreatDoorPkH
import Derived.Test.YtlpeiolgcaddjaaGreatDoorPkI
import Derived.Test.YtlpeiolgcaddjaaGreatDoorPkJ
import Derived.Test.YtlpeiolgcaddjaaGreatDoorPkK
import Derived.Test.YtlpeiolgcaddjaaGreatDoorPkL
import Derived.Test.YtlpeiolgcaddjaaGreatDoorPkLa
import Derived.Test.YtlpeiolgcaddjaaGreatDoorPkLd
import Derived.Test.YtlpeiolgcaddjaaGreatDoorPkLe
import Derived.Test.YtlpeiolgcaddjaaGreatDoorPkLf
import Derived.Test.YtlpeiolgcaddjaaGreatDoorPkLg
import Derived.Test.YtlpeiolgcaddjaaGreatDoorPkLh
import Derived.Test.YtlpeiolgcaddjaaGreatDoorPkLi
import Derived.Test.YtlpeiolgcaddjaaGreatDoorPkLj
import Derived.Test.YtlpeiolgcaddjaaGreatDoorPkM
import Derived.Test.YtlpeiolgcaddjaaGreatDoorPkN
import Derived.Test.YtlpeiolgcaddjaaGreatDoorPkNa
import Derived.Test.YtlpeiolgcaddjaaGreatDoorPkNb
import Derived.Test.YtlpeiolgcaddjaaGreatDoorPkNc
import Derived.Test.YtlpeiolgcaddjaaGreatDoorPkNd
import Derived.Test.YtlpeiolgcaddjaaGreatDoorPkNf
import Derived.Test.YtlpeiolgcaddjaaGreatDoorPkNi
import Derived.Test.YtlpeiolgcaddjaaGreatDoorPkO
import Derived.Test.YtlpeiolgcaddjaaGreatDoorPkP
import Derived.Test.YtlpeiolgcaddjaaGreatDoorPkQ
import Derived.Test.YtlpeiolgcaddjaaGreatDoorPkR
import Derived.Test.YtlpeiolgcaddjaaGreatDoorPkU
import Derived.Test.YtlpeiolgcaddjaaGreatDoorPkV
import Derived.Test.YtlpeiolgcaddjaaGreatDoorPkY
import Derived.Deep.Strs
namespace Go.Proofs.YtlpeiolgcaddjaaGreatDoor
open Go.ChangeShapes Go.WideShapes Go.ChangeAt Go.RowKit
open Go.Joins Go.Deep
set_option linter.unusedVariables false
set_option linter.unusedSimpArgs false
set_option maxRecDepth 100000
section
variable {H:Type} {enc:TypeId × Value→H}
theorem open_move {W:World} {base:Nat} {r:Reach} {b0:Nat} {sp:Nat→Bool} {hd:Bool} {v:Value} {d:DataW H} {q:List MemPlace}
  (hv:Value.okWide Tryz.prog W r b0 28 v) (h:DataW.Trod enc Tryz.prog W base sp hd 28 v d q) :
  ∃ m,MvW m∧v=.agg (ml m).toArray∧d=dM H m∧q=[]:=by
 obtain ⟨cs,rfl,hsz,_⟩:∃ cs,v=.agg cs∧cs.size=Tryz.prog.cellsOf 28∧Row.okWide Tryz.prog W r b0 28 cs:=by
  simpa [Value.okWide,Tryz.underlying28] using hv
 obtain ⟨l⟩:=cs;have hl:l.length=3:=by simpa [cells28] using hsz
 obtain ⟨fuel,hf⟩:=h;obtain ⟨y0,y1,y2,n,hx,hlen,h0,h1,h2⟩:=trod_struct3 Tryz.underlying28 hf;rw [Yk] at h0 h1 h2;have hc:(Value.agg ⟨l⟩).cells.toList=l:=rfl;rw [hc] at h0 h1 h2;obtain ⟨f,e0,rfl,w0⟩:=DataW.trod_int Tryz.underlying3 h0;obtain ⟨t,e1,rfl,w1⟩:=DataW.trod_int Tryz.underlying3 h1;obtain ⟨p,e2,rfl,w2⟩:=DataW.trod_int Tryz.underlying3 h2;refine ⟨⟨f,t,p⟩,⟨w0,w1,w2⟩,?_,?_,?_⟩
 ·match l,hl with
  | [a,b,c],_ =>
   have q0:a=.int .i64 f:=by simpa using e0
   have q1:b=.int .i64 t:=by simpa using e1
   have q2:c=.int .i64 p:=by simpa using e2
   rw [q0,q1,q2];rfl
 ·simp only [Prod.mk.injEq] at hx
  rw [hx.1];rfl
 ·simp only [Prod.mk.injEq] at hx
  rw [hx.2];rfl
end
end Go.Proofs.YtlpeiolgcaddjaaGreatDoor
namespace Go.Proofs.YtlpeiolgcaddjaaGreatDoor
open Go.RowKit
set_option linter.unusedVariables false
set_option linter.unusedSimpArgs false
set_option maxRecDepth 100000
set_option maxHeartbeats 2000000 in
theorem nshort_wrong (p:Ps) (hB:Brd p.B) (m:Mv) (h:pwI p≠0) (w:World) (hT:TabG w):Calls Tryz.prog 9 #[.agg (pl p).toArray,.agg (ml m).toArray] w (RetSE w ⟨#[]⟩ (pwI p)):=by
 have HP:Hid (PAt _ _ p):=⟨hB.1,heap_alloc2_old w (.cells (pl p).toArray 26) (.cells (ml m).toArray 28)⟩;have HM:Hid (MAt _ _ m):=⟨heap_alloc2_new w (.cells (pl p).toArray 26) (.cells (ml m).toArray 28)⟩;have HK0:=Qh (((Kept.refl w).alloc (.cells (pl p).toArray 26)).alloc (.cells (ml m).toArray 28));have HT:=Qh (hT.kept HK0.out);have hpl:Hid (p.B.length=64):=hB.1;have HPl:=Qh (fun r g a b w hT hR=>play_is r g a b p hB m w hT hR);have hP:playP p m=Zp:=by unfold playP;rw [if_pos h]
 have hE:playE p m=pwI p:=by unfold playE;rw [if_pos h]
 rw [hP,hE] at HPl;have hql:Hid (Zp.B.length=64):=Yy;have hv:(pwI p != 0)=true:=bne_iff_ne.2 h;generalize pwI p=v at *;clear hB hT h hP hE;go_enter Tryz.func9,Tryz.ntmps9;go_wp2_with fail
 refine (rnew_is _).mono ?_;rintro e w1 ⟨r,g,a,b,rfl,hR,k1⟩;have HK1:=Qh (HK0.out.trans k1);have HP1:=Qh (HP.out.kept k1);have HM1:=Qh (MAt.kept HM.out k1);have HT1:=Qh (HT.out.kept k1);have HR1:=Qh hR;clear k1 hR;go_wp2_with (first|(refine Qc (by rfl) _ rfl _ rfl _ (HP1.out) ?_)|(refine Qd (by rfl) _ rfl _ rfl _ (HP1.out) ?_)|(refine Qe (by rfl) _ rfl _ rfl _ (HM1.out) ?_))
 refine (HPl.out r g a b _ HT1.out HR1.out).mono ?_;rintro e w2 ⟨rfl,k2⟩;have KA:=Qh (k2.alloc (.cells (pl Zp).toArray 26));have HK2:=Qh (HK1.out.trans KA.out);clear k2 KA;go_wp2_with (first|(with_reducible refine Qy rfl rfl ?_)|((with_reducible refine Yb rfl _ _ rfl Zp Zp Yy hql.out ?_ ?_ ?_);exact rfl;exact rfl))
 go_ret2;exact ⟨rfl,HK2.out⟩
set_option maxHeartbeats 2000000 in
theorem nlong_wrong (p:Ps) (hB:Brd p.B) (m:Mv) (h:pwI p≠0) (w:World) (hT:TabG w):Calls Tryz.prog 10 #[.agg (pl p).toArray,.agg (ml m).toArray] w (RetSE w ⟨#[]⟩ (pwI p)):=by
 have HP:Hid (PAt _ _ p):=⟨hB.1,heap_alloc2_old w (.cells (pl p).toArray 26) (.cells (ml m).toArray 28)⟩;have HM:Hid (MAt _ _ m):=⟨heap_alloc2_new w (.cells (pl p).toArray 26) (.cells (ml m).toArray 28)⟩;have HK0:=Qh (((Kept.refl w).alloc (.cells (pl p).toArray 26)).alloc (.cells (ml m).toArray 28));have HT:=Qh (hT.kept HK0.out);have hpl:Hid (p.B.length=64):=hB.1;have HPl:=Qh (fun r g a b w hT hR=>play_is r g a b p hB m w hT hR);have hP:playP p m=Zp:=by unfold playP;rw [if_pos h]
 have hE:playE p m=pwI p:=by unfold playE;rw [if_pos h]
 rw [hP,hE] at HPl;have hql:Hid (Zp.B.length=64):=Yy;have hv:(pwI p != 0)=true:=bne_iff_ne.2 h;generalize pwI p=v at *;clear hB hT h hP hE;go_enter Tryz.func10,Tryz.ntmps10;go_wp2_with fail
 refine (rnew_is _).mono ?_;rintro e w1 ⟨r,g,a,b,rfl,hR,k1⟩;have HK1:=Qh (HK0.out.trans k1);have HP1:=Qh (HP.out.kept k1);have HM1:=Qh (MAt.kept HM.out k1);have HT1:=Qh (HT.out.kept k1);have HR1:=Qh hR;clear k1 hR;go_wp2_with (first|(refine Qc (by rfl) _ rfl _ rfl _ (HP1.out) ?_)|(refine Qd (by rfl) _ rfl _ rfl _ (HP1.out) ?_)|(refine Qe (by rfl) _ rfl _ rfl _ (HM1.out) ?_))
 refine (HPl.out r g a b _ HT1.out HR1.out).mono ?_;rintro e w2 ⟨rfl,k2⟩;have KA:=Qh (k2.alloc (.cells (pl Zp).toArray 26));have HK2:=Qh (HK1.out.trans KA.out);clear k2 KA;go_wp2_with (first|(with_reducible refine Qy rfl rfl ?_)|((with_reducible refine Yb rfl _ _ rfl Zp Zp Yy hql.out ?_ ?_ ?_);exact rfl;exact rfl))
 go_ret2;exact ⟨rfl,HK2.out⟩
set_option maxHeartbeats 2000000 in
theorem nlong_no (p:Ps) (hB:Brd p.B) (m:Mv) (h:pwI p=0) (hl:legB p m=false) (w:World) (hT:TabG w):Calls Tryz.prog 10 #[.agg (pl p).toArray,.agg (ml m).toArray] w (RetSE w ⟨#[]⟩ 5):=by
 have HP:Hid (PAt _ _ p):=⟨hB.1,heap_alloc2_old w (.cells (pl p).toArray 26) (.cells (ml m).toArray 28)⟩;have HM:Hid (MAt _ _ m):=⟨heap_alloc2_new w (.cells (pl p).toArray 26) (.cells (ml m).toArray 28)⟩;have HK0:=Qh (((Kept.refl w).alloc (.cells (pl p).toArray 26)).alloc (.cells (ml m).toArray 28));have HT:=Qh (hT.kept HK0.out);have hpl:Hid (p.B.length=64):=hB.1;have HPl:=Qh (fun r g a b w hT hR=>play_is r g a b p hB m w hT hR);have hP:playP p m=Zp:=by rw [playP_in h,hl];rfl
 have hE:playE p m=5:=by rw [playE_in h,hl];rfl
 rw [hP,hE] at HPl;have hql:Hid (Zp.B.length=64):=Yy;clear hB hT h hP hE hl;go_enter Tryz.func10,Tryz.ntmps10;go_wp2_with fail
 refine (rnew_is _).mono ?_;rintro e w1 ⟨r,g,a,b,rfl,hR,k1⟩;have HK1:=Qh (HK0.out.trans k1);have HP1:=Qh (HP.out.kept k1);have HM1:=Qh (MAt.kept HM.out k1);have HT1:=Qh (HT.out.kept k1);have HR1:=Qh hR;clear k1 hR;go_wp2_with (first|(refine Qc (by rfl) _ rfl _ rfl _ (HP1.out) ?_)|(refine Qd (by rfl) _ rfl _ rfl _ (HP1.out) ?_)|(refine Qe (by rfl) _ rfl _ rfl _ (HM1.out) ?_))
 refine (HPl.out r g a b _ HT1.out HR1.out).mono ?_;rintro e w2 ⟨rfl,k2⟩;have KA:=Qh (k2.alloc (.cells (pl Zp).toArray 26));have HK2:=Qh (HK1.out.trans KA.out);clear k2 KA;go_wp2_with (first|(with_reducible refine Qy rfl rfl ?_)|((with_reducible refine Yb rfl _ _ rfl Zp Zp Yy hql.out ?_ ?_ ?_);exact rfl;exact rfl))
 go_ret2;exact ⟨rfl,HK2.out⟩
set_option maxHeartbeats 4000000 in
theorem writes_wrong (p:Ps) (hB:Brd p.B) (m:Mv) (h:pwI p≠0) (w:World) (hT:TabG w) :
  Calls Tryz.prog 3 #[.agg (pl p).toArray,.agg (ml m).toArray] w fun e w'=>e=.returned (.bool true)∧Kept w w':=by
 have HP:Hid (PAt _ _ p):=⟨hB.1,heap_alloc2_old w (.cells (pl p).toArray 26) (.cells (ml m).toArray 28)⟩;have HM:Hid (MAt _ _ m):=⟨heap_alloc2_new w (.cells (pl p).toArray 26) (.cells (ml m).toArray 28)⟩;have HK0:=Qh (((Kept.refl w).alloc (.cells (pl p).toArray 26)).alloc (.cells (ml m).toArray 28));have HT:=Qh (hT.kept HK0.out);have HSh:=Qh (fun w hT=>nshort_wrong p hB m h w hT);have HLg:=Qh (fun w hT=>nlong_wrong p hB m h w hT);have HWr:=Qh (fun w=>Qaz p hB w);have hv:(pwI p != 0)=true:=bne_iff_ne.2 h;generalize pwI p=v at *;clear hB hT h;go_enter Tryz.func3,Tryz.ntmps3;go_wp2_with fail
 refine (Qaq _ HT.out).mono ?_;rintro e w1 ⟨rfl,k1⟩;have HK1:=Qh (HK0.out.trans k1);have HP1:=Qh (HP.out.kept k1);have HM1:=Qh (MAt.kept HM.out k1);have HT1:=Qh (HT.out.kept k1);clear k1;go_wp2_with (first|(refine Qc (by rfl) _ rfl _ rfl _ (HP1.out) ?_)|(refine Qd (by rfl) _ rfl _ rfl _ (HP1.out) ?_)|(refine Qe (by rfl) _ rfl _ rfl _ (HM1.out) ?_))
 refine (HSh.out _ HT1.out).mono ?_;rintro e w2 ⟨rfl,k2⟩;have HK2:=Qh (HK1.out.trans k2);have HP2:=Qh (HP1.out.kept k2);have HM2:=Qh (MAt.kept HM1.out k2);have HT2:=Qh (HT1.out.kept k2);clear k2;go_wp2_with (first|(refine Qc (by rfl) _ rfl _ rfl _ (HP2.out) ?_)|(refine Qd (by rfl) _ rfl _ rfl _ (HP2.out) ?_)|(refine Qe (by rfl) _ rfl _ rfl _ (HM2.out) ?_))
 refine (HLg.out _ HT2.out).mono ?_;rintro e w3 ⟨rfl,k3⟩;have HK3:=Qh (HK2.out.trans k3);have HP3:=Qh (HP2.out.kept k3);have HM3:=Qh (MAt.kept HM2.out k3);clear k3;go_wp2_with (first|(refine Qc (by rfl) _ rfl _ rfl _ (HP3.out) ?_)|(refine Qd (by rfl) _ rfl _ rfl _ (HP3.out) ?_)|(refine Qe (by rfl) _ rfl _ rfl _ (HM3.out) ?_))
 refine (HWr.out _).mono ?_;rintro e w4 ⟨rfl,k4⟩;have HK4:=Qh (HK3.out.trans k4);have HP4:=Qh (HP3.out.kept k4);have HM4:=Qh (MAt.kept HM3.out k4);clear k4;go_wp2;go_ret;exact ⟨rfl,HK4.out⟩
set_option maxHeartbeats 4000000 in
theorem writes_no (p:Ps) (hB:Brd p.B) (m:Mv) (h:pwI p=0) (hl:legB p m=false) (w:World) (hT:TabG w) :
  Calls Tryz.prog 3 #[.agg (pl p).toArray,.agg (ml m).toArray] w fun e w'=>e=.returned (.bool true)∧Kept w w':=by
 have HP:Hid (PAt _ _ p):=⟨hB.1,heap_alloc2_old w (.cells (pl p).toArray 26) (.cells (ml m).toArray 28)⟩;have HM:Hid (MAt _ _ m):=⟨heap_alloc2_new w (.cells (pl p).toArray 26) (.cells (ml m).toArray 28)⟩;have HK0:=Qh (((Kept.refl w).alloc (.cells (pl p).toArray 26)).alloc (.cells (ml m).toArray 28));have HT:=Qh (hT.kept HK0.out);have HSh:=Qh (fun w hT=>nshort_no p hB m h hl w hT);have HLg:=Qh (fun w hT=>nlong_no p hB m h hl w hT);have HWr:=Qh (fun w=>Qaz p hB w);have HRl:=Qh (fun w=>rlegal_is p hB h m w);rw [h] at HWr;rw [hl] at HRl;clear hB hT h hl;go_enter Tryz.func3,Tryz.ntmps3;go_wp2_with fail
 refine (Qaq _ HT.out).mono ?_;rintro e w1 ⟨rfl,k1⟩;have HK1:=Qh (HK0.out.trans k1);have HP1:=Qh (HP.out.kept k1);have HM1:=Qh (MAt.kept HM.out k1);have HT1:=Qh (HT.out.kept k1);clear k1;go_wp2_with (first|(refine Qc (by rfl) _ rfl _ rfl _ (HP1.out) ?_)|(refine Qd (by rfl) _ rfl _ rfl _ (HP1.out) ?_)|(refine Qe (by rfl) _ rfl _ rfl _ (HM1.out) ?_))
 refine (HSh.out _ HT1.out).mono ?_;rintro e w2 ⟨rfl,k2⟩;have HK2:=Qh (HK1.out.trans k2);have HP2:=Qh (HP1.out.kept k2);have HM2:=Qh (MAt.kept HM1.out k2);have HT2:=Qh (HT1.out.kept k2);clear k2;go_wp2_with (first|(refine Qc (by rfl) _ rfl _ rfl _ (HP2.out) ?_)|(refine Qd (by rfl) _ rfl _ rfl _ (HP2.out) ?_)|(refine Qe (by rfl) _ rfl _ rfl _ (HM2.out) ?_))
 refine (HLg.out _ HT2.out).mono ?_;rintro e w3 ⟨rfl,k3⟩;have HK3:=Qh (HK2.out.trans k3);have HP3:=Qh (HP2.out.kept k3);have HM3:=Qh (MAt.kept HM2.out k3);clear k3;go_wp2_with (first|(refine Qc (by rfl) _ rfl _ rfl _ (HP3.out) ?_)|(refine Qd (by rfl) _ rfl _ rfl _ (HP3.out) ?_)|(refine Qe (by rfl) _ rfl _ rfl _ (HM3.out) ?_))
 refine (HWr.out _).mono ?_;rintro e w4 ⟨rfl,k4⟩;have HK4:=Qh (HK3.out.trans k4);have HP4:=Qh (HP3.out.kept k4);have HM4:=Qh (MAt.kept HM3.out k4);clear k4;go_wp2_with (first|(refine Qc (by rfl) _ rfl _ rfl _ (HP4.out) ?_)|(refine Qd (by rfl) _ rfl _ rfl _ (HP4.out) ?_)|(refine Qe (by rfl) _ rfl _ rfl _ (HM4.out) ?_))
 refine (HRl.out _).mono ?_;rintro e w5 ⟨rfl,k5⟩;have HK5:=Qh (HK4.out.trans k5);clear k5;go_wp2;go_ret;exact ⟨rfl,HK5.out⟩
set_option maxHeartbeats 4000000 in
theorem writes_yes (p:Ps) (hB:Brd p.B) (m:Mv) (h:pwI p=0) (hl:legB p m=true) (w:World) (hT:TabG w) :
  Calls Tryz.prog 3 #[.agg (pl p).toArray,.agg (ml m).toArray] w fun e w'=>e=.returned (.bool true)∧Kept w w':=by
 have HP:Hid (PAt _ _ p):=⟨hB.1,heap_alloc2_old w (.cells (pl p).toArray 26) (.cells (ml m).toArray 28)⟩;have HM:Hid (MAt _ _ m):=⟨heap_alloc2_new w (.cells (pl p).toArray 26) (.cells (ml m).toArray 28)⟩;have HK0:=Qh (((Kept.refl w).alloc (.cells (pl p).toArray 26)).alloc (.cells (ml m).toArray 28));have HT:=Qh (hT.kept HK0.out);have HSh:=Qh (fun w hT=>nshort_yes p hB m h hl w hT);have HLg:=Qh (fun w hT=>nlong_yes p hB m h hl w hT);have HWr:=Qh (fun w=>Qaz p hB w);have HRl:=Qh (fun w=>rlegal_is p hB h m w);have HRs:=Qh (fun w=>rshort_is p hB h m hl w);have HRg:=Qh (fun w=>rlong_is p hB h m hl w);rw [show shB p m (legL p)++markB (behP p m)=ntB p m from rfl] at HRs;rw [show longB p m++markB (behP p m)=nlB p m from rfl] at HRg;have hz1:((ntB p m).toList == (ntB p m).toList)=true:=by simp
 have hz2:((nlB p m).toList == (nlB p m).toList)=true:=by simp
 rw [h] at HWr;rw [hl] at HRl;clear hB hT h hl;generalize ntB p m=S at *;generalize nlB p m=L at *;go_enter Tryz.func3,Tryz.ntmps3;go_wp2_with fail
 refine (Qaq _ HT.out).mono ?_;rintro e w1 ⟨rfl,k1⟩;have HK1:=Qh (HK0.out.trans k1);have HP1:=Qh (HP.out.kept k1);have HM1:=Qh (MAt.kept HM.out k1);have HT1:=Qh (HT.out.kept k1);clear k1;go_wp2_with (first|(refine Qc (by rfl) _ rfl _ rfl _ (HP1.out) ?_)|(refine Qd (by rfl) _ rfl _ rfl _ (HP1.out) ?_)|(refine Qe (by rfl) _ rfl _ rfl _ (HM1.out) ?_))
 refine (HSh.out _ HT1.out).mono ?_;rintro e w2 ⟨rfl,k2⟩;have HK2:=Qh (HK1.out.trans k2);have HP2:=Qh (HP1.out.kept k2);have HM2:=Qh (MAt.kept HM1.out k2);have HT2:=Qh (HT1.out.kept k2);clear k2;go_wp2_with (first|(refine Qc (by rfl) _ rfl _ rfl _ (HP2.out) ?_)|(refine Qd (by rfl) _ rfl _ rfl _ (HP2.out) ?_)|(refine Qe (by rfl) _ rfl _ rfl _ (HM2.out) ?_))
 refine (HLg.out _ HT2.out).mono ?_;rintro e w3 ⟨rfl,k3⟩;have HK3:=Qh (HK2.out.trans k3);have HP3:=Qh (HP2.out.kept k3);have HM3:=Qh (MAt.kept HM2.out k3);clear k3;go_wp2_with (first|(refine Qc (by rfl) _ rfl _ rfl _ (HP3.out) ?_)|(refine Qd (by rfl) _ rfl _ rfl _ (HP3.out) ?_)|(refine Qe (by rfl) _ rfl _ rfl _ (HM3.out) ?_))
 refine (HWr.out _).mono ?_;rintro e w4 ⟨rfl,k4⟩;have HK4:=Qh (HK3.out.trans k4);have HP4:=Qh (HP3.out.kept k4);have HM4:=Qh (MAt.kept HM3.out k4);clear k4;go_wp2_with (first|(refine Qc (by rfl) _ rfl _ rfl _ (HP4.out) ?_)|(refine Qd (by rfl) _ rfl _ rfl _ (HP4.out) ?_)|(refine Qe (by rfl) _ rfl _ rfl _ (HM4.out) ?_))
 refine (HRl.out _).mono ?_;rintro e w5 ⟨rfl,k5⟩;have HK5:=Qh (HK4.out.trans k5);have HP5:=Qh (HP4.out.kept k5);have HM5:=Qh (MAt.kept HM4.out k5);clear k5;go_wp2_with (first|(refine Qc (by rfl) _ rfl _ rfl _ (HP5.out) ?_)|(refine Qd (by rfl) _ rfl _ rfl _ (HP5.out) ?_)|(refine Qe (by rfl) _ rfl _ rfl _ (HM5.out) ?_))
 refine (HRs.out _).mono ?_;rintro e w6 ⟨rfl,k6⟩;have HK6:=Qh (HK5.out.trans k6);have HP6:=Qh (HP5.out.kept k6);have HM6:=Qh (MAt.kept HM5.out k6);clear k6;go_wp2_with (first|(refine Qc (by rfl) _ rfl _ rfl _ (HP6.out) ?_)|(refine Qd (by rfl) _ rfl _ rfl _ (HP6.out) ?_)|(refine Qe (by rfl) _ rfl _ rfl _ (HM6.out) ?_))
 refine (HRg.out _).mono ?_;rintro e w7 ⟨rfl,k7⟩;have HK7:=Qh (HK6.out.trans k7);clear k7;go_wp2;go_ret;exact ⟨rfl,HK7.out⟩
theorem walkNoteWrites (p:Ps) (hB:Brd p.B) (m:Mv) (w:World) (hT:TabG w) :
  Calls Tryz.prog 3 #[.agg (pl p).toArray,.agg (ml m).toArray] w fun e w'=>e=.returned (.bool true)∧Kept w w':=by
 by_cases h:pwI p=0
 ·cases hl:legB p m
  ·exact writes_no p hB m h hl w hT
  ·exact writes_yes p hB m h hl w hT
 ·exact writes_wrong p hB m h w hT
end Go.Proofs.YtlpeiolgcaddjaaGreatDoor
