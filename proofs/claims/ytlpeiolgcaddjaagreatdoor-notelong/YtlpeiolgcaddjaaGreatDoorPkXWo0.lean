/- NoA · NoK · NoF: my texts, in their order. -/
import Derived.Test.YtlpeiolgcaddjaaGreatDoorPkXWRLo0
import Derived.Test.YtlpeiolgcaddjaaGreatDoorPkXWLo0
import Derived.Test.YtlpeiolgcaddjaaGreatDoorPkA
import Derived.Test.YtlpeiolgcaddjaaGreatDoorPkB
import Derived.Test.YtlpeiolgcaddjaaGreatDoorPkC
import Derived.Test.YtlpeiolgcaddjaaGreatDoorPkD
import Derived.Test.YtlpeiolgcaddjaaGreatDoorPkE
import Derived.Test.YtlpeiolgcaddjaaGreatDoorPkF
import Derived.Test.YtlpeiolgcaddjaaGreatDoorPkGa
import Derived.Test.YtlpeiolgcaddjaaGreatDoorPkGb
import Derived.Test.YtlpeiolgcaddjaaGreatDoorPkGc
import Derived.Test.YtlpeiolgcaddjaaGreatDoorPkGd
import Derived.Test.YtlpeiolgcaddjaaGreatDoorPkGe
import Derived.Test.YtlpeiolgcaddjaaGreatDoorPkGf
import Derived.Test.YtlpeiolgcaddjaaGreatDoorPkGg
import Derived.Test.YtlpeiolgcaddjaaGreatDoorPkGh
import Derived.Test.YtlpeiolgcaddjaaGreatDoorPkGj
import Derived.Test.YtlpeiolgcaddjaaGreatDoorPkH
import Derived.Test.YtlpeiolgcaddjaaGreatDoorPkI
import Derived.Test.YtlpeiolgcaddjaaGreatDoorPkJ
import Derived.Test.YtlpeiolgcaddjaaGreatDoorPkK
import Derived.Test.YtlpeiolgcaddjaaGreatDoorPkL
import Derived.Test.YtlpeiolgcaddjaaGreatDoorPkLa
import Derived.Test.YtlpeiolgcaddjaaGreatDoorPkLd
import Derived.Test.YtlpeiolgcaddjaaGreatDoorPkLe
import Derived.Test.YtlpeiolgcaddjaaGreatDoorPkLf
import Derived.Test.YtlpeiolgcaddjaaGreatDoorPkLg
import Derived.Test.YtlpeiolgcaddjaaGreatDoorPkLh
import Derived.Test.YtlpeiolgcaddjaaGreatDoorPkLi
import Derived.Test.YtlpeiolgcaddjaaGreatDoorPkLj
import Derived.Test.YtlpeiolgcaddjaaGreatDoorPkM
import Derived.Test.YtlpeiolgcaddjaaGreatDoorPkN
import Derived.Test.YtlpeiolgcaddjaaGreatDoorPkNa
import Derived.Test.YtlpeiolgcaddjaaGreatDoorPkNb
import Derived.Test.YtlpeiolgcaddjaaGreatDoorPkNc
import Derived.Test.YtlpeiolgcaddjaaGreatDoorPkNd
import Derived.Test.YtlpeiolgcaddjaaGreatDoorPkNf
import Derived.Test.YtlpeiolgcaddjaaGreatDoorPkO
import Derived.Test.YtlpeiolgcaddjaaGreatDoorPkP
import Derived.Test.YtlpeiolgcaddjaaGreatDoorPkQ
import Derived.Test.YtlpeiolgcaddjaaGreatDoorPkR
import Derived.Test.YtlpeiolgcaddjaaGreatDoorPkU
import Derived.Test.YtlpeiolgcaddjaaGreatDoorPkV
namespace Go.Proofs.YtlpeiolgcaddjaaGreatDoor
open Go.RowKit
set_option linter.unusedVariables false
set_option linter.unusedSimpArgs false
set_option maxRecDepth 100000
def longB (p:Ps) (m:Mv):ByteArray:=bareB p m (Qu m.f) ⟨#[45]⟩
theorem long_size (p:Ps) (m:Mv):(longB p m).size≤8:=bare_size _ _ _ _ (Nat.le_of_eq (Yw _)) (Nat.le_refl _)
set_option maxHeartbeats 2000000 in
theorem rlong_c (p:Ps) (hB:Brd p.B) (hr:pwI p=0) (m:Mv) (hl:legB p m=true) (f t:Nat) (F:Fm p m f t) (hc:castN p m<4) (w:World):Calls Tryz.prog 14 #[.agg (pl p).toArray,.agg (ml m).toArray] w fun e w'=>e=.returned (.string (longB p m++markB (behP p m)))∧Kept w w':=by
 have HCs:=Qh (fun w=>rcastled_is p hB hr m f t F w);have hv:csB p m=Js m:=by unfold csB;rw [if_pos hc]
 rw [hv] at HCs;have HV:Hid (longB p m=Js m):=by show _=_;unfold longB bareB;rw [if_pos hc]
 have hsl:((Js m).toList == [])=false:=slash_nil (by unfold Js;split <;> exact fun e=>by cases e);have HMr:=Qh (fun w=>rmark_is p hB hr m hl w);have s1:=long_size p m;have s2:=mark_size (behP p m);rw [HV.out] at s1;have HP:Hid (PAt _ _ p):=⟨hB.1,heap_alloc2_old w (.cells (pl p).toArray 26) (.cells (ml m).toArray 28)⟩;have HM:Hid (MAt _ _ m):=⟨heap_alloc2_new w (.cells (pl p).toArray 26) (.cells (ml m).toArray 28)⟩;have HK0:=Qh (((Kept.refl w).alloc (.cells (pl p).toArray 26)).alloc (.cells (ml m).toArray 28));clear hB hr hl F hc hv;generalize Js m=T at *;generalize markB (behP p m)=M at *;have z1:¬ 9223372036854775807<T.size+M.size:=by omega
 go_enter Tryz.func14,Tryz.ntmps14;go_wp2_with (first|(refine Qc (by rfl) _ rfl _ rfl _ (HP.out) ?_)|(refine Qd (by rfl) _ rfl _ rfl _ (HP.out) ?_)|(refine Qe (by rfl) _ rfl _ rfl _ (HM.out) ?_))
 refine (HCs.out _).mono ?_;rintro e w1 ⟨rfl,k1⟩;have HKz:=Qh (HK0.out.trans k1);have HPz:=Qh (HP.out.kept k1);have HMz:=Qh (MAt.kept HM.out k1);clear k1;go_wp2_with (first|(refine Qc (by rfl) _ rfl _ rfl _ (HPz.out) ?_)|(refine Qd (by rfl) _ rfl _ rfl _ (HPz.out) ?_)|(refine Qe (by rfl) _ rfl _ rfl _ (HMz.out) ?_))
 refine (HMr.out _).mono ?_;rintro e wz ⟨rfl,kz⟩;have HKe:=Qh (HKz.out.trans kz);clear kz;go_wp2;go_ret;exact ⟨by rw [HV.out];first|done|rfl,HKe.out⟩
set_option maxHeartbeats 2000000 in
theorem rlong_nt (p:Ps) (hB:Brd p.B) (hr:pwI p=0) (m:Mv) (hl:legB p m=true) (f t:Nat) (F:Fm p m f t) (hc:¬ castN p m<4) (h2:takeB p m=true) (w:World):Calls Tryz.prog 14 #[.agg (pl p).toArray,.agg (ml m).toArray] w fun e w'=>e=.returned (.string (longB p m++markB (behP p m)))∧Kept w w':=by
 have ho:=on_of F;have HCs:=Qh (fun w=>rcastled_is p hB hr m f t F w);have hv:csB p m=⟨#[]⟩:=by unfold csB;rw [if_neg hc]
 rw [hv] at HCs
 have HV:Hid (longB p m=((headK (kdI p m)++Qu m.f)++⟨#[120]⟩)++(Qu m.t++tailB m.p)):=by
  show _=_;unfold longB bareB signB;rw [if_neg hc,h2];exact bs_ext (by simp only [Jh,List.append_assoc];rfl)
 have HHd:=Qh (fun w=>rhead_is p hB m f t F w);have HNf:=Qh (fun w=>rname_k m.f w ho.f0 ho.f1);have HTk:=Qh (fun w=>Jc p hB m ho w);have HNt:=Qh (fun w=>rname_k m.t w ho.t0 ho.t1);have HTl:=Qh (fun w=>rtail_is p hB m (by have:=promo_five' F.prm;omega) w);have HMr:=Qh (fun w=>rmark_is p hB hr m hl w);have hpl:Hid (p.B.length=64):=hB.1;have s1:=head_size (kdI p m);have s2:(Qu m.f).size≤2:=Nat.le_of_eq (Yw _);have s3:(Qu m.t).size≤2:=Nat.le_of_eq (Yw _);have s4:=tail_size m.p;have s5:=mark_size (behP p m);have b2:decide (0≤takeI p m)=true:=h2;have b3:0≤takeI p m:=by simpa using b2
 have HP:Hid (PAt _ _ p):=⟨hB.1,heap_alloc2_old w (.cells (pl p).toArray 26) (.cells (ml m).toArray 28)⟩;have HM:Hid (MAt _ _ m):=⟨heap_alloc2_new w (.cells (pl p).toArray 26) (.cells (ml m).toArray 28)⟩;have HK0:=Qh (((Kept.refl w).alloc (.cells (pl p).toArray 26)).alloc (.cells (ml m).toArray 28));clear hB hr hl F hc hv h2 ho;generalize takeI p m=tk at *;generalize headK (kdI p m)=hd at *;generalize Qu m.f=nf at *;generalize Qu m.t=nt at *;generalize tailB m.p=tt at *;generalize markB (behP p m)=M at *;have z1:¬ 9223372036854775807<hd.size+nf.size:=by omega
 have y1:(hd++nf).size≤3:=by rw [ByteArray.size_append];omega
 go_enter Tryz.func14,Tryz.ntmps14;go_wp2_with (first|(refine Qc (by rfl) _ rfl _ rfl _ (HP.out) ?_)|(refine Qd (by rfl) _ rfl _ rfl _ (HP.out) ?_)|(refine Qe (by rfl) _ rfl _ rfl _ (HM.out) ?_))
 refine (HCs.out _).mono ?_;rintro e w1 ⟨rfl,k1⟩;have HK1:=Qh (HK0.out.trans k1);have HP1:=Qh (HP.out.kept k1);have HM1:=Qh (MAt.kept HM.out k1);clear k1;go_wp2;refine wp_region_held_drew (S:=Kept _) (by kernel_rfl) (Kept.refl _).drew (fun Qj=>?_);refine rY 0 11 rfl rfl (Qk (by rfl) _ rfl _ rfl p hpl.out (fun _ h=>(HP1.out).kept h)) Qj ?_;simp only [Act.put,sA,sZ,sU];refine rY 1 12 rfl rfl (Qm (by rfl) _ rfl _ rfl m (fun _ h=>MAt.kept (HM1.out) h)) Qj ?_;simp only [pA,pN,sZ,sU];refine rT 3 14 (.pointer (some ⟨w.heap.size+1,0,none⟩)) rfl rfl Qj ?_;simp only [pA,pN,sZ,sU];refine rC 4 15 (.int .i64 m.f) rfl rfl (fun _ h=>Qa h (HM1.out.f)) Qj ?_;simp only [pA,pN,sZ,sU];refine rR 2 rfl (fun K hK=>?_);go_simp;refine (HHd.out _).mono ?_;rintro e x1 ⟨rfl,gx1⟩;refine hK.out _ _ (Qj.trans gx1) (fun _=>?_);replace Qj:=Qj.trans gx1;clear hK K;refine rR 5 rfl (fun K hK=>?_);go_simp;refine (HNf.out _).mono ?_;rintro e x2 ⟨rfl,gx2⟩;refine hK.out _ _ (Qj.trans gx2) (fun _=>?_);replace Qj:=Qj.trans gx2;clear hK K;refine rT 6 17 (.string (hd++nf)) rfl rfl Qj ?_;simp only [pA,pN,sZ,sU];refine rT 7 5 (.string (hd++nf)) rfl rfl Qj ?_;simp only [pA,pN,sZ,sU];refine wpAnyH_done (by kernel_rfl) ?_ _;have HK2:=Qh (HK1.out.trans Qj);have HP2:=Qh (HP1.out.kept Qj);have HM2:=Qh (MAt.kept HM1.out Qj);clear Qj gx1 gx2 z1;generalize hd++nf=ha at *;go_wp2_with (first|(refine Qc (by rfl) _ rfl _ rfl _ (HP2.out) ?_)|(refine Qd (by rfl) _ rfl _ rfl _ (HP2.out) ?_)|(refine Qe (by rfl) _ rfl _ rfl _ (HM2.out) ?_))
 refine (HTk.out _).mono ?_;rintro e w3 ⟨rfl,k3⟩;have HK3:=Qh (HK2.out.trans k3);have HP3:=Qh (HP2.out.kept k3);have HM3:=Qh (MAt.kept HM2.out k3);clear k3;have z5:¬ 9223372036854775807<ha.size+(⟨#[120]⟩:ByteArray).size:=by rw [show (⟨#[120]⟩:ByteArray).size=1 from rfl];omega
 have z6:¬ 9223372036854775807<ha.size+1:=by omega
 have y2:(ha++⟨#[120]⟩).size≤4:=by rw [ByteArray.size_append,show (⟨#[120]⟩:ByteArray).size=1 from rfl];omega
 go_wp2;clear z5 z6 y1;generalize ha++⟨#[120]⟩=hb at *;have z7:¬ 9223372036854775807<nt.size+tt.size:=by omega
 have y3:(nt++tt).size≤4:=by rw [ByteArray.size_append];omega
 have z8:¬ 9223372036854775807<hb.size+(nt++tt).size:=by omega
 have z9:¬ 9223372036854775807<hb.size+(nt.size+tt.size):=by omega
 refine wp_region_held_drew (S:=Kept _) (by kernel_rfl) (Kept.refl _).drew (fun Qj=>?_);refine rT 0 26 (.string hb) rfl rfl Qj ?_;simp only [Act.put,sA,sZ,sU];refine rT 1 27 (.pointer (some ⟨w.heap.size+1,1,none⟩)) rfl rfl Qj ?_;simp only [pA,pN,sZ,sU];refine rC 2 28 (.int .i64 m.t) rfl rfl (fun _ h=>Qa h (HM3.out.t)) Qj ?_;simp only [pA,pN,sZ,sU];refine rY 4 30 rfl rfl (Qk (by rfl) _ rfl _ rfl p hpl.out (fun _ h=>(HP3.out).kept h)) Qj ?_;simp only [pA,pN,sZ,sU];refine rY 5 31 rfl rfl (Qm (by rfl) _ rfl _ rfl m (fun _ h=>MAt.kept (HM3.out) h)) Qj ?_;simp only [pA,pN,sZ,sU];refine rR 3 rfl (fun K hK=>?_);go_simp;refine (HNt.out _).mono ?_;rintro e x3 ⟨rfl,gx3⟩;refine hK.out _ _ (Qj.trans gx3) (fun _=>?_);replace Qj:=Qj.trans gx3;clear hK K;refine rR 6 rfl (fun K hK=>?_);go_simp;refine (HTl.out _).mono ?_;rintro e x4 ⟨rfl,gx4⟩;refine hK.out _ _ (Qj.trans gx4) (fun _=>?_);replace Qj:=Qj.trans gx4;clear hK K;refine rT 7 33 (.string (nt++tt)) rfl rfl Qj ?_;simp only [pA,pN,sZ,sU];refine rT 8 34 (.string (hb++(nt++tt))) rfl rfl Qj ?_;simp only [pA,pN,sZ,sU];refine rT 9 5 (.string (hb++(nt++tt))) rfl rfl Qj ?_;simp only [pA,pN,sZ,sU];refine wpAnyH_done (by kernel_rfl) ?_ _;have HKz:=Qh (HK3.out.trans Qj);have HPz:=Qh (HP3.out.kept Qj);have HMz:=Qh (MAt.kept HM3.out Qj);have y4:(hb++(nt++tt)).size≤8:=by rw [ByteArray.size_append];omega
 clear Qj gx3 gx4 z7 z8 z9;generalize hb++(nt++tt)=hc at *;have zA:¬ 9223372036854775807<hc.size+M.size:=by omega
 go_wp2_with (first|(refine Qc (by rfl) _ rfl _ rfl _ (HPz.out) ?_)|(refine Qd (by rfl) _ rfl _ rfl _ (HPz.out) ?_)|(refine Qe (by rfl) _ rfl _ rfl _ (HMz.out) ?_))
 refine (HMr.out _).mono ?_;rintro e wz ⟨rfl,kz⟩;have HKe:=Qh (HKz.out.trans kz);clear kz;go_wp2;go_ret;exact ⟨by rw [HV.out];first|done|rfl,HKe.out⟩
set_option maxHeartbeats 2000000 in
theorem rlong_nf (p:Ps) (hB:Brd p.B) (hr:pwI p=0) (m:Mv) (hl:legB p m=true) (f t:Nat) (F:Fm p m f t) (hc:¬ castN p m<4) (h2:takeB p m=false) (w:World):Calls Tryz.prog 14 #[.agg (pl p).toArray,.agg (ml m).toArray] w fun e w'=>e=.returned (.string (longB p m++markB (behP p m)))∧Kept w w':=by
 have ho:=on_of F;have HCs:=Qh (fun w=>rcastled_is p hB hr m f t F w);have hv:csB p m=⟨#[]⟩:=by unfold csB;rw [if_neg hc]
 rw [hv] at HCs
 have HV:Hid (longB p m=((headK (kdI p m)++Qu m.f)++⟨#[45]⟩)++(Qu m.t++tailB m.p)):=by
  show _=_;unfold longB bareB signB;rw [if_neg hc,h2];exact bs_ext (by simp only [Jh,List.append_assoc];rfl)
 have HHd:=Qh (fun w=>rhead_is p hB m f t F w);have HNf:=Qh (fun w=>rname_k m.f w ho.f0 ho.f1);have HTk:=Qh (fun w=>Jc p hB m ho w);have HNt:=Qh (fun w=>rname_k m.t w ho.t0 ho.t1);have HTl:=Qh (fun w=>rtail_is p hB m (by have:=promo_five' F.prm;omega) w);have HMr:=Qh (fun w=>rmark_is p hB hr m hl w);have hpl:Hid (p.B.length=64):=hB.1;have s1:=head_size (kdI p m);have s2:(Qu m.f).size≤2:=Nat.le_of_eq (Yw _);have s3:(Qu m.t).size≤2:=Nat.le_of_eq (Yw _);have s4:=tail_size m.p;have s5:=mark_size (behP p m);have b2:decide (0≤takeI p m)=false:=h2;have b3:¬ 0≤takeI p m:=by simpa using b2
 have HP:Hid (PAt _ _ p):=⟨hB.1,heap_alloc2_old w (.cells (pl p).toArray 26) (.cells (ml m).toArray 28)⟩;have HM:Hid (MAt _ _ m):=⟨heap_alloc2_new w (.cells (pl p).toArray 26) (.cells (ml m).toArray 28)⟩;have HK0:=Qh (((Kept.refl w).alloc (.cells (pl p).toArray 26)).alloc (.cells (ml m).toArray 28));clear hB hr hl F hc hv h2 ho;generalize takeI p m=tk at *;generalize headK (kdI p m)=hd at *;generalize Qu m.f=nf at *;generalize Qu m.t=nt at *;generalize tailB m.p=tt at *;generalize markB (behP p m)=M at *;have z1:¬ 9223372036854775807<hd.size+nf.size:=by omega
 have y1:(hd++nf).size≤3:=by rw [ByteArray.size_append];omega
 go_enter Tryz.func14,Tryz.ntmps14;go_wp2_with (first|(refine Qc (by rfl) _ rfl _ rfl _ (HP.out) ?_)|(refine Qd (by rfl) _ rfl _ rfl _ (HP.out) ?_)|(refine Qe (by rfl) _ rfl _ rfl _ (HM.out) ?_))
 refine (HCs.out _).mono ?_;rintro e w1 ⟨rfl,k1⟩;have HK1:=Qh (HK0.out.trans k1);have HP1:=Qh (HP.out.kept k1);have HM1:=Qh (MAt.kept HM.out k1);clear k1;go_wp2;refine wp_region_held_drew (S:=Kept _) (by kernel_rfl) (Kept.refl _).drew (fun Qj=>?_);refine rY 0 11 rfl rfl (Qk (by rfl) _ rfl _ rfl p hpl.out (fun _ h=>(HP1.out).kept h)) Qj ?_;simp only [Act.put,sA,sZ,sU];refine rY 1 12 rfl rfl (Qm (by rfl) _ rfl _ rfl m (fun _ h=>MAt.kept (HM1.out) h)) Qj ?_;simp only [pA,pN,sZ,sU];refine rT 3 14 (.pointer (some ⟨w.heap.size+1,0,none⟩)) rfl rfl Qj ?_;simp only [pA,pN,sZ,sU];refine rC 4 15 (.int .i64 m.f) rfl rfl (fun _ h=>Qa h (HM1.out.f)) Qj ?_;simp only [pA,pN,sZ,sU];refine rR 2 rfl (fun K hK=>?_);go_simp;refine (HHd.out _).mono ?_;rintro e x1 ⟨rfl,gx1⟩;refine hK.out _ _ (Qj.trans gx1) (fun _=>?_);replace Qj:=Qj.trans gx1;clear hK K;refine rR 5 rfl (fun K hK=>?_);go_simp;refine (HNf.out _).mono ?_;rintro e x2 ⟨rfl,gx2⟩;refine hK.out _ _ (Qj.trans gx2) (fun _=>?_);replace Qj:=Qj.trans gx2;clear hK K;refine rT 6 17 (.string (hd++nf)) rfl rfl Qj ?_;simp only [pA,pN,sZ,sU];refine rT 7 5 (.string (hd++nf)) rfl rfl Qj ?_;simp only [pA,pN,sZ,sU];refine wpAnyH_done (by kernel_rfl) ?_ _;have HK2:=Qh (HK1.out.trans Qj);have HP2:=Qh (HP1.out.kept Qj);have HM2:=Qh (MAt.kept HM1.out Qj);clear Qj gx1 gx2 z1;generalize hd++nf=ha at *;go_wp2_with (first|(refine Qc (by rfl) _ rfl _ rfl _ (HP2.out) ?_)|(refine Qd (by rfl) _ rfl _ rfl _ (HP2.out) ?_)|(refine Qe (by rfl) _ rfl _ rfl _ (HM2.out) ?_))
 refine (HTk.out _).mono ?_;rintro e w3 ⟨rfl,k3⟩;have HK3:=Qh (HK2.out.trans k3);have HP3:=Qh (HP2.out.kept k3);have HM3:=Qh (MAt.kept HM2.out k3);clear k3;have z5:¬ 9223372036854775807<ha.size+(⟨#[45]⟩:ByteArray).size:=by rw [show (⟨#[45]⟩:ByteArray).size=1 from rfl];omega
 have z6:¬ 9223372036854775807<ha.size+1:=by omega
 have y2:(ha++⟨#[45]⟩).size≤4:=by rw [ByteArray.size_append,show (⟨#[45]⟩:ByteArray).size=1 from rfl];omega
 go_wp2;clear z5 z6 y1;generalize ha++⟨#[45]⟩=hb at *;have z7:¬ 9223372036854775807<nt.size+tt.size:=by omega
 have y3:(nt++tt).size≤4:=by rw [ByteArray.size_append];omega
 have z8:¬ 9223372036854775807<hb.size+(nt++tt).size:=by omega
 have z9:¬ 9223372036854775807<hb.size+(nt.size+tt.size):=by omega
 refine wp_region_held_drew (S:=Kept _) (by kernel_rfl) (Kept.refl _).drew (fun Qj=>?_);refine rT 0 26 (.string hb) rfl rfl Qj ?_;simp only [Act.put,sA,sZ,sU];refine rT 1 27 (.pointer (some ⟨w.heap.size+1,1,none⟩)) rfl rfl Qj ?_;simp only [pA,pN,sZ,sU];refine rC 2 28 (.int .i64 m.t) rfl rfl (fun _ h=>Qa h (HM3.out.t)) Qj ?_;simp only [pA,pN,sZ,sU];refine rY 4 30 rfl rfl (Qk (by rfl) _ rfl _ rfl p hpl.out (fun _ h=>(HP3.out).kept h)) Qj ?_;simp only [pA,pN,sZ,sU];refine rY 5 31 rfl rfl (Qm (by rfl) _ rfl _ rfl m (fun _ h=>MAt.kept (HM3.out) h)) Qj ?_;simp only [pA,pN,sZ,sU];refine rR 3 rfl (fun K hK=>?_);go_simp;refine (HNt.out _).mono ?_;rintro e x3 ⟨rfl,gx3⟩;refine hK.out _ _ (Qj.trans gx3) (fun _=>?_);replace Qj:=Qj.trans gx3;clear hK K;refine rR 6 rfl (fun K hK=>?_);go_simp;refine (HTl.out _).mono ?_;rintro e x4 ⟨rfl,gx4⟩;refine hK.out _ _ (Qj.trans gx4) (fun _=>?_);replace Qj:=Qj.trans gx4;clear hK K;refine rT 7 33 (.string (nt++tt)) rfl rfl Qj ?_;simp only [pA,pN,sZ,sU];refine rT 8 34 (.string (hb++(nt++tt))) rfl rfl Qj ?_;simp only [pA,pN,sZ,sU];refine rT 9 5 (.string (hb++(nt++tt))) rfl rfl Qj ?_;simp only [pA,pN,sZ,sU];refine wpAnyH_done (by kernel_rfl) ?_ _;have HKz:=Qh (HK3.out.trans Qj);have HPz:=Qh (HP3.out.kept Qj);have HMz:=Qh (MAt.kept HM3.out Qj);have y4:(hb++(nt++tt)).size≤8:=by rw [ByteArray.size_append];omega
 clear Qj gx3 gx4 z7 z8 z9;generalize hb++(nt++tt)=hc at *;have zA:¬ 9223372036854775807<hc.size+M.size:=by omega
 go_wp2_with (first|(refine Qc (by rfl) _ rfl _ rfl _ (HPz.out) ?_)|(refine Qd (by rfl) _ rfl _ rfl _ (HPz.out) ?_)|(refine Qe (by rfl) _ rfl _ rfl _ (HMz.out) ?_))
 refine (HMr.out _).mono ?_;rintro e wz ⟨rfl,kz⟩;have HKe:=Qh (HKz.out.trans kz);clear kz;go_wp2;go_ret;exact ⟨by rw [HV.out];first|done|rfl,HKe.out⟩
theorem rlong_is (p:Ps) (hB:Brd p.B) (hr:pwI p=0) (m:Mv) (hl:legB p m=true) (w:World):Calls Tryz.prog 14 #[.agg (pl p).toArray,.agg (ml m).toArray] w fun e w'=>e=.returned (.string (longB p m++markB (behP p m)))∧Kept w w':=by
 obtain ⟨f,t,F⟩:=Yt hB (Yg hB hr hl).2.2;by_cases hc:castN p m<4
 ·exact rlong_c p hB hr m hl f t F hc w
 ·cases h2:takeB p m
  ·exact rlong_nf p hB hr m hl f t F hc h2 w
  ·exact rlong_nt p hB hr m hl f t F hc h2 w
def nlB (p:Ps) (m:Mv):ByteArray:=longB p m++markB (behP p m)
theorem ln_size (p:Ps) (m:Mv):(longB p m).size≤8:=bare_size _ _ _ _ (Nat.le_of_eq (Yw _)) (Nat.le_refl _)
set_option maxHeartbeats 2000000 in
theorem nlong_yes (p:Ps) (hB:Brd p.B) (m:Mv) (h:pwI p=0) (hl:legB p m=true) (w:World) (hT:TabG w):Calls Tryz.prog 10 #[.agg (pl p).toArray,.agg (ml m).toArray] w (RetSE w (nlB p m) 0):=by
 have HP:Hid (PAt _ _ p):=⟨hB.1,heap_alloc2_old w (.cells (pl p).toArray 26) (.cells (ml m).toArray 28)⟩;have HM:Hid (MAt _ _ m):=⟨heap_alloc2_new w (.cells (pl p).toArray 26) (.cells (ml m).toArray 28)⟩;have HK0:=Qh (((Kept.refl w).alloc (.cells (pl p).toArray 26)).alloc (.cells (ml m).toArray 28));have HT:=Qh (hT.kept HK0.out);have hpl:Hid (p.B.length=64):=hB.1;have HPl:=Qh (fun r g a b w hT hR=>play_is r g a b p hB m w hT hR);have hP:playP p m=behP p m:=by rw [playP_in h,hl];rfl
 have hE:playE p m=0:=by rw [playE_in h,hl];rfl
 obtain ⟨hqr,hqb,hok⟩:=Yg hB h hl;have ho:=Jz hok;rw [hP,hE] at HPl;have hql:Hid ((behP p m).B.length=64):=hqb.1;have HMk:=Qh (fun r g a b w hT hR=>mark_is r g a b (behP p m) hqb hqr w hT hR);have HNm:=Qh (fun w=>name_k m.f w ho.f0 ho.f1);have HSh:=Qh (fun w hT=>bare_is p hB m hok (Qu m.f) ⟨#[45]⟩ (Nat.le_of_eq (Yw _)) (Nat.le_refl _) w hT);rw [show bareB p m (Qu m.f) ⟨#[45]⟩=longB p m from rfl] at HSh;have HV:Hid (nlB p m=longB p m++markB (behP p m)):=rfl;have s1:=ln_size p m;have s2:=mk_size (behP p m);clear hB hT h hP hE hl hqr hqb hok ho;generalize longB p m=S at *;generalize Qu m.f=nf at *;generalize markB (behP p m)=M at *;generalize behP p m=q at *;have HJ:=Qh (fun g w hh=>together2 S M (by omega) g w hh);clear s1 s2;go_enter Tryz.func10,Tryz.ntmps10;go_wp2_with fail
 refine (rnew_is _).mono ?_;rintro e w1 ⟨r,g,a,b,rfl,hR,k1⟩;have HK1:=Qh (HK0.out.trans k1);have HP1:=Qh (HP.out.kept k1);have HM1:=Qh (MAt.kept HM.out k1);have HT1:=Qh (HT.out.kept k1);have HR1:=Qh hR;clear k1 hR;go_wp2_with (first|(refine Qc (by rfl) _ rfl _ rfl _ (HP1.out) ?_)|(refine Qd (by rfl) _ rfl _ rfl _ (HP1.out) ?_)|(refine Qe (by rfl) _ rfl _ rfl _ (HM1.out) ?_))
 refine (HPl.out r g a b _ HT1.out HR1.out).mono ?_;rintro e w2 ⟨rfl,k2⟩;have KA:=Qh (k2.alloc (.cells (pl q).toArray 26));have HK2:=Qh (HK1.out.trans KA.out);have HP2:=Qh (HP1.out.kept KA.out);have HM2:=Qh (MAt.kept HM1.out KA.out);have HT2:=Qh (HT1.out.kept KA.out);have HR2:=Qh (HR1.out.kept KA.out);have HQ2:=Qh (PAt.new w2 hql.out);clear k2 KA;go_wp2_with (first|(with_reducible refine Qy rfl rfl ?_)|((with_reducible refine Yb rfl _ _ rfl Zp q Yy hql.out ?_ ?_ ?_);exact rfl;exact rfl))
 generalize w2.alloc (.cells (pl q).toArray 26)=W2 at *;generalize w2.heap.size=gq at *;refine wp_region_held_drew (S:=Kept _) (by kernel_rfl) (Kept.refl _).drew (fun Qj=>?_);refine rY 0 20 rfl rfl (Qk (by rfl) _ rfl _ rfl p hpl.out (fun _ h=>(HP2.out).kept h)) Qj ?_;simp only [Act.put,sA,sZ,sU];refine rY 1 21 rfl rfl (Qm (by rfl) _ rfl _ rfl m (fun _ h=>MAt.kept (HM2.out) h)) Qj ?_;simp only [pA,pN,sZ,sU];refine rT 2 22 (.pointer (some ⟨w.heap.size+1,0,none⟩)) rfl rfl Qj ?_;simp only [pA,pN,sZ,sU];refine rC 3 23 (.int .i64 m.f) rfl rfl (fun _ h=>Qa h (HM2.out.f)) Qj ?_;simp only [pA,pN,sZ,sU];refine rT 6 26 (.pointer (some ⟨r,0,none⟩)) rfl rfl Qj ?_;simp only [pA,pN,sZ,sU];refine rY 7 27 rfl rfl (Qk (by rfl) _ rfl _ rfl q hql.out (fun _ h=>(HQ2.out).kept h)) Qj ?_;simp only [pA,pN,sZ,sU];refine rR 4 rfl (fun K hK=>?_);go_simp;refine (HNm.out _).mono ?_;rintro e x1 ⟨rfl,gx1⟩;refine hK.out _ _ (Qj.trans gx1) (fun _=>?_);replace Qj:=Qj.trans gx1;clear hK K;refine rR 5 rfl (fun K hK=>?_);go_simp;refine (HSh.out _ (HT2.out.tabm.kept Qj)).mono ?_;rintro e x2 ⟨rfl,gx2⟩;refine hK.out _ _ (Qj.trans gx2) (fun _=>?_);replace Qj:=Qj.trans gx2;clear hK K;refine rR 8 rfl (fun K hK=>?_);go_simp;refine (HMk.out r g a b _ (HT2.out.kept Qj) (HR2.out.kept Qj)).mono ?_;rintro e x3 ⟨rfl,gx3⟩;refine hK.out _ _ (Qj.trans gx3) (fun _=>?_);replace Qj:=Qj.trans gx3;clear hK K;refine rR 9 rfl (fun K hK=>?_);go_simp;have HN:=Qh (heap_alloc_new x3 (.cells #[.string S,.string M] 9));refine hK.out _ _ (Qj.alloc _) (fun _=>?_);replace Qj:=Qj.alloc (.cells #[.string S,.string M] 9);clear hK K;refine rR 10 rfl (fun K hK=>?_);go_simp;refine (HJ.out _ _ HN.out).mono ?_;rintro e x4 ⟨rfl,gx4⟩;refine hK.out _ _ (Qj.trans gx4) (fun _=>?_);replace Qj:=Qj.trans gx4;clear hK K;refine rT 11 4 (.string (S++M)) rfl rfl Qj ?_;simp only [pA,pN,sZ,sU];refine rT 12 5 (.int .i64 0) rfl rfl Qj ?_;simp only [pA,pN,sZ,sU];refine wpAnyH_done (by kernel_rfl) ?_ _;have HKe:=Qh (HK2.out.trans Qj);clear Qj;go_wp2;go_ret2;exact ⟨by rw [HV.out];first|done|rfl,HKe.out⟩
end Go.Proofs.YtlpeiolgcaddjaaGreatDoor
