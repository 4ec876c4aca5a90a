/- LeJ: my texts, in their order. -/
import Derived.Test.YtlpeiolgcaddjaaGreatDoorPkGg
import Derived.Test.YtlpeiolgcaddjaaGreatDoorPkGj
import Derived.Test.YtlpeiolgcaddjaaGreatDoorPkLa
import Derived.Test.YtlpeiolgcaddjaaGreatDoorPkLf
import Derived.Test.YtlpeiolgcaddjaaGreatDoorPkQ
namespace Go.Proofs.YtlpeiolgcaddjaaGreatDoor
open Go.RowKit
set_option linter.unusedVariables false
set_option linter.unusedSimpArgs false
set_option maxRecDepth 100000
theorem hR_pos (p:Ps) (m:Mv):decide (0<hR (castN p m))=decide (castN p m<4):=by
 have h:=castN_le p m;generalize castN p m=k at *;have:k=0∨k=1∨k=2∨k=3∨k=4:=by omega
 rcases this with rfl|rfl|rfl|rfl|rfl <;> decide
theorem run_field_pb (q:Ps) (hq:q.B.length=64) (w:World):(Instr.field 26 (.agg (pl q).toArray) 0).run Tryz.prog w=.ok (.agg (cl q.B).toArray) w:=by
 have hs:(sizeOf 24).run Tryz.prog w=.ok 64 w:=by
  have h0:=size24
  cases hi:Tryz.prog.info? 24 with
  | none=>simp [hi] at h0
  | some i=>simp [hi] at h0;simp [sizeOf,typeInfo,hi,h0]
 simp only [Instr.field,Sem.run_bind,run_underlying Tryz.underlying26,Result.andThen_ok];simp only [asAgg,part,isAgg,Sem.run_bind,Sem.run_pure,Result.andThen_ok,run_underlying Tryz.underlying24,if_true,hs]
 have he2:(pl q).take 64=cl q.B:=by
  have hl:(cl q.B).length=64:=by rw [Yp,hq]
  unfold pl;simp [hl]
 simp [hs,he2,run_underlying Tryz.underlying24]
theorem take_field_pb {ops:Array Oper} {S:World→Prop} {op:Oper} {a:Act} (hw:Region.wanted op (yielded ops a.tmps)=true) (x:Operand) (ho:op.op=.field 26 x 0)
  (q:Ps) (hx:a.eval x=.agg (pl q).toArray) (hq:q.B.length=64):YieldsIf Tryz.prog ops S op (.agg (cl q.B).toArray) a :=
 .inl ⟨hw,fun w _=>by
  unfold execOp;simp only [ho,hx,Sem.run_bind,run_field_pb q hq,Result.andThen_ok,Sem.run_pure]⟩
section
variable {p:Ps} {m:Mv}
def backS (p:Ps) (m:Mv):Bool:=!Qq (behB p m) p.t
theorem stay_plain (hc:¬ castN p m<4):stayB p m=backS p m:=by unfold stayB backS;rw [decide_eq_false hc];rfl
theorem stay_no1 (hc:castN p m<4) (h:Qq p.B p.t=true):stayB p m=false:=by unfold stayB castOk;rw [decide_eq_true hc,h];rfl
theorem stay_no2 (hc:castN p m<4) (h:Qq p.B p.t=false) (h2:Jl p.B ((m.f+m.t) / 2) (1-p.t)=true):stayB p m=false:=by unfold stayB castOk;rw [decide_eq_true hc,h,h2];rfl
theorem stay_cast (hc:castN p m<4) (h:Qq p.B p.t=false) (h2:Jl p.B ((m.f+m.t) / 2) (1-p.t)=false):stayB p m=backS p m:=by unfold stayB castOk backS;rw [decide_eq_true hc,h,h2];rfl
end
set_option maxHeartbeats 2000000 in
theorem stays_a (p:Ps) (hB:Brd p.B) (hr:pwI p=0) (m:Mv) (hg:goesM p m=true) (hc:¬ castN p m<4) (w:World) :
  Calls Tryz.prog 38 #[.agg (pl p).toArray,.agg (ml m).toArray] w fun e w'=>e=.returned (.bool (stayB p m))∧Kept w w':=by
 obtain ⟨f,t,F⟩:=Yt hB (Ji hr hg);obtain ⟨t01,⟨c0,c1⟩,_⟩:=Qt hr;have ho:=Jz (Ji hr hg);have hcas:=(Yj hr).2.2.2.1;have HP:Hid (PAt _ _ p):=⟨hB.1,heap_alloc2_old w (.cells (pl p).toArray 26) (.cells (ml m).toArray 28)⟩;have HM:Hid (MAt _ _ m):=⟨heap_alloc2_new w (.cells (pl p).toArray 26) (.cells (ml m).toArray 28)⟩;have HK0:=Qh (((Kept.refl w).alloc (.cells (pl p).toArray 26)).alloc (.cells (ml m).toArray 28));have hpl:Hid (p.B.length=64):=hB.1;have hz:=Qh (Jf hB.1);have HRt:=Qh (fun w=>rightR_is p hB c0 c1 hcas m f t F.hf F.ht F.f1 F.t1 w);have HBe:Hid (∀ w,Calls Tryz.prog 20 #[.agg (pl p).toArray,.agg (ml m).toArray] w (RetP w (behP p m))):=fun w=>by have:=behind_is p hB t01 c0 c1 hcas m ho F.prm f t F.hf F.ht w;rw [behP_eq F] at this;exact this
 have HCk:=Qh (fun w=>Jo p.B hB p.t t01 w);have HCb:Hid (∀ w,Calls Tryz.prog 33 #[.agg (cl (behP p m).B).toArray,.int .i64 p.t] w fun e w'=>e=.returned (.bool (Qq (behB p m) p.t))∧Kept w w'):=fun w=>Jo (behP p m).B (beh_brd hB hr hg) p.t t01 w
 have hql:Hid ((behP p m).B.length=64):=behB_len hB.1;have HBy:=Qh (fun w=>rby_is p.B hB ((m.f+m.t) / 2) (1-p.t) w);have HSb:=Qh (struck_by p.B ((m.f+m.t) / 2) (1-p.t));have hp0:=hR_pos p m
 have HW:Hid (IntKind.i64.wrap (m.f+m.t)=m.f+m.t∧IntKind.i64.wrap ((m.f+m.t).tdiv 2)=(m.f+m.t) / 2∧(m.f+m.t).tdiv 2=(m.f+m.t) / 2∧IntKind.i64.wrap (1-p.t)=1-p.t):=by
  have:=ho.f0;have:=ho.f1;have:=ho.t0;have:=ho.t1;have e3:(m.f+m.t).tdiv 2=(m.f+m.t) / 2:=Int.tdiv_eq_ediv_of_nonneg (by omega);exact ⟨IntWalk.i64_in _ (by omega),by rw [e3];exact IntWalk.i64_in _ (by omega),e3,IntWalk.i64_in _ (by omega)⟩
 have hsum:0≤m.f+m.t∧m.f+m.t≤126:=by have:=ho.f0;have:=ho.f1;have:=ho.t0;have:=ho.t1;omega
 have HV:=Qh (stay_plain hc);rw [decide_eq_false hc] at hp0;clear HCk HBy HSb HW hsum hc;clear hB hr hg F t01 c0 c1 ho hcas;generalize behP p m=q at *;have HVb:Hid (backS p m=!Qq (behB p m) p.t):=rfl;generalize Qq (behB p m) p.t=cb at *;generalize hR (castN p m)=hr0 at *;go_enter Tryz.func38,Tryz.ntmps38;go_wp2_with (first|(refine Qc (by rfl) _ rfl _ rfl _ (HP.out) ?_)|(refine Qd (by rfl) _ rfl _ rfl _ (HP.out) ?_)|(refine Qe (by rfl) _ rfl _ rfl _ (HM.out) ?_))
 refine (HRt.out _).mono ?_;rintro e w1 ⟨rfl,k1⟩;have HK1:=Qh (HK0.out.trans k1);have HP1:=Qh (HP.out.kept k1);have HM1:=Qh (MAt.kept HM.out k1);clear k1;go_wp2;clear hp0;refine wp_region_held_drew (S:=Kept _) (by kernel_rfl) (Kept.refl _).drew (fun Qj=>?_);refine rY 0 30 rfl rfl (Qk (by rfl) _ rfl _ rfl p hpl.out (fun _ h=>(HP1.out).kept h)) Qj ?_;simp only [Act.put,sA,sZ,sU];refine rY 1 31 rfl rfl (Qm (by rfl) _ rfl _ rfl m (fun _ h=>MAt.kept (HM1.out) h)) Qj ?_;simp only [pA,pN,sZ,sU];refine rT 4 34 (.pointer (some ⟨w.heap.size,64,none⟩)) rfl rfl Qj ?_;simp only [pA,pN,sZ,sU];refine rC 5 35 (.int .i64 p.t) rfl rfl (fun _ h=>Qa h (HP1.out.turn)) Qj ?_;simp only [pA,pN,sZ,sU];refine rR 2 rfl (fun K hK=>?_);go_simp;refine (HBe.out _).mono ?_;rintro e x1 ⟨rfl,gx1⟩;refine hK.out _ _ (Qj.trans gx1) (fun _=>?_);replace Qj:=Qj.trans gx1;clear hK K;refine rY 3 33 rfl rfl (take_field_pb (by rfl) _ rfl q rfl hql.out) Qj ?_;simp only [pA,pN,sZ,sU];refine rR 6 rfl (fun K hK=>?_);go_simp;refine (HCb.out _).mono ?_;rintro e x2 ⟨rfl,gx2⟩;refine hK.out _ _ (Qj.trans gx2) (fun _=>?_);replace Qj:=Qj.trans gx2;clear hK K;refine rT 7 37 (.bool (!cb)) rfl rfl Qj ?_;simp only [pA,pN,sZ,sU];refine rT 8 4 (.bool (!cb)) rfl rfl Qj ?_;simp only [pA,pN,sZ,sU];refine wpAnyH_done (by kernel_rfl) ?_ _;have HKe:=Qh (HK1.out.trans Qj);clear Qj gx1 gx2;go_wp2;go_ret;exact ⟨by rw [HV.out,HVb.out];rfl,HKe.out⟩
set_option maxHeartbeats 2000000 in
theorem stays_b (p:Ps) (hB:Brd p.B) (hr:pwI p=0) (m:Mv) (hg:goesM p m=true) (hc:castN p m<4) (h:Qq p.B p.t=true) (w:World) :
  Calls Tryz.prog 38 #[.agg (pl p).toArray,.agg (ml m).toArray] w fun e w'=>e=.returned (.bool (stayB p m))∧Kept w w':=by
 obtain ⟨f,t,F⟩:=Yt hB (Ji hr hg);obtain ⟨t01,⟨c0,c1⟩,_⟩:=Qt hr;have ho:=Jz (Ji hr hg);have hcas:=(Yj hr).2.2.2.1;have HP:Hid (PAt _ _ p):=⟨hB.1,heap_alloc2_old w (.cells (pl p).toArray 26) (.cells (ml m).toArray 28)⟩;have HM:Hid (MAt _ _ m):=⟨heap_alloc2_new w (.cells (pl p).toArray 26) (.cells (ml m).toArray 28)⟩;have HK0:=Qh (((Kept.refl w).alloc (.cells (pl p).toArray 26)).alloc (.cells (ml m).toArray 28));have hpl:Hid (p.B.length=64):=hB.1;have hz:=Qh (Jf hB.1);have HRt:=Qh (fun w=>rightR_is p hB c0 c1 hcas m f t F.hf F.ht F.f1 F.t1 w);have HBe:Hid (∀ w,Calls Tryz.prog 20 #[.agg (pl p).toArray,.agg (ml m).toArray] w (RetP w (behP p m))):=fun w=>by have:=behind_is p hB t01 c0 c1 hcas m ho F.prm f t F.hf F.ht w;rw [behP_eq F] at this;exact this
 have HCk:=Qh (fun w=>Jo p.B hB p.t t01 w);have HCb:Hid (∀ w,Calls Tryz.prog 33 #[.agg (cl (behP p m).B).toArray,.int .i64 p.t] w fun e w'=>e=.returned (.bool (Qq (behB p m) p.t))∧Kept w w'):=fun w=>Jo (behP p m).B (beh_brd hB hr hg) p.t t01 w
 have hql:Hid ((behP p m).B.length=64):=behB_len hB.1;have HBy:=Qh (fun w=>rby_is p.B hB ((m.f+m.t) / 2) (1-p.t) w);have HSb:=Qh (struck_by p.B ((m.f+m.t) / 2) (1-p.t));have hp0:=hR_pos p m
 have HW:Hid (IntKind.i64.wrap (m.f+m.t)=m.f+m.t∧IntKind.i64.wrap ((m.f+m.t).tdiv 2)=(m.f+m.t) / 2∧(m.f+m.t).tdiv 2=(m.f+m.t) / 2∧IntKind.i64.wrap (1-p.t)=1-p.t):=by
  have:=ho.f0;have:=ho.f1;have:=ho.t0;have:=ho.t1;have e3:(m.f+m.t).tdiv 2=(m.f+m.t) / 2:=Int.tdiv_eq_ediv_of_nonneg (by omega);exact ⟨IntWalk.i64_in _ (by omega),by rw [e3];exact IntWalk.i64_in _ (by omega),e3,IntWalk.i64_in _ (by omega)⟩
 have hsum:0≤m.f+m.t∧m.f+m.t≤126:=by have:=ho.f0;have:=ho.f1;have:=ho.t0;have:=ho.t1;omega
 have HV:=Qh (stay_no1 hc h);rw [decide_eq_true hc] at hp0;rw [h] at HCk;clear HBy HSb HW hsum hc h;clear hB hr hg F t01 c0 c1 ho hcas;generalize behP p m=q at *;have HVb:Hid (backS p m=!Qq (behB p m) p.t):=rfl;generalize Qq (behB p m) p.t=cb at *;generalize hR (castN p m)=hr0 at *;go_enter Tryz.func38,Tryz.ntmps38;go_wp2_with (first|(refine Qc (by rfl) _ rfl _ rfl _ (HP.out) ?_)|(refine Qd (by rfl) _ rfl _ rfl _ (HP.out) ?_)|(refine Qe (by rfl) _ rfl _ rfl _ (HM.out) ?_))
 refine (HRt.out _).mono ?_;rintro e w1 ⟨rfl,k1⟩;have HK1:=Qh (HK0.out.trans k1);have HP1:=Qh (HP.out.kept k1);have HM1:=Qh (MAt.kept HM.out k1);clear k1;have ct:=HP1.out.turn;go_wp2_with (first|(refine Qc (by rfl) _ rfl _ rfl _ (HP1.out) ?_)|(refine Qd (by rfl) _ rfl _ rfl _ (HP1.out) ?_)|(refine Qe (by rfl) _ rfl _ rfl _ (HM1.out) ?_))
 refine (HCk.out _).mono ?_;rintro e w2 ⟨rfl,k2⟩;have HK2:=Qh (HK1.out.trans k2);have HP2:=Qh (HP1.out.kept k2);have HM2:=Qh (MAt.kept HM1.out k2);clear k2 ct;go_wp2;go_ret;exact ⟨by rw [HV.out];rfl,HK2.out⟩
set_option maxHeartbeats 2000000 in
theorem stays_c (p:Ps) (hB:Brd p.B) (hr:pwI p=0) (m:Mv) (hg:goesM p m=true) (hc:castN p m<4) (h:Qq p.B p.t=false) (h2:Jl p.B ((m.f+m.t) / 2) (1-p.t)=true) (w:World) :
  Calls Tryz.prog 38 #[.agg (pl p).toArray,.agg (ml m).toArray] w fun e w'=>e=.returned (.bool (stayB p m))∧Kept w w':=by
 obtain ⟨f,t,F⟩:=Yt hB (Ji hr hg);obtain ⟨t01,⟨c0,c1⟩,_⟩:=Qt hr;have ho:=Jz (Ji hr hg);have hcas:=(Yj hr).2.2.2.1;have HP:Hid (PAt _ _ p):=⟨hB.1,heap_alloc2_old w (.cells (pl p).toArray 26) (.cells (ml m).toArray 28)⟩;have HM:Hid (MAt _ _ m):=⟨heap_alloc2_new w (.cells (pl p).toArray 26) (.cells (ml m).toArray 28)⟩;have HK0:=Qh (((Kept.refl w).alloc (.cells (pl p).toArray 26)).alloc (.cells (ml m).toArray 28));have hpl:Hid (p.B.length=64):=hB.1;have hz:=Qh (Jf hB.1);have HRt:=Qh (fun w=>rightR_is p hB c0 c1 hcas m f t F.hf F.ht F.f1 F.t1 w);have HBe:Hid (∀ w,Calls Tryz.prog 20 #[.agg (pl p).toArray,.agg (ml m).toArray] w (RetP w (behP p m))):=fun w=>by have:=behind_is p hB t01 c0 c1 hcas m ho F.prm f t F.hf F.ht w;rw [behP_eq F] at this;exact this
 have HCk:=Qh (fun w=>Jo p.B hB p.t t01 w);have HCb:Hid (∀ w,Calls Tryz.prog 33 #[.agg (cl (behP p m).B).toArray,.int .i64 p.t] w fun e w'=>e=.returned (.bool (Qq (behB p m) p.t))∧Kept w w'):=fun w=>Jo (behP p m).B (beh_brd hB hr hg) p.t t01 w
 have hql:Hid ((behP p m).B.length=64):=behB_len hB.1;have HBy:=Qh (fun w=>rby_is p.B hB ((m.f+m.t) / 2) (1-p.t) w);have HSb:=Qh (struck_by p.B ((m.f+m.t) / 2) (1-p.t));have hp0:=hR_pos p m
 have HW:Hid (IntKind.i64.wrap (m.f+m.t)=m.f+m.t∧IntKind.i64.wrap ((m.f+m.t).tdiv 2)=(m.f+m.t) / 2∧(m.f+m.t).tdiv 2=(m.f+m.t) / 2∧IntKind.i64.wrap (1-p.t)=1-p.t):=by
  have:=ho.f0;have:=ho.f1;have:=ho.t0;have:=ho.t1;have e3:(m.f+m.t).tdiv 2=(m.f+m.t) / 2:=Int.tdiv_eq_ediv_of_nonneg (by omega);exact ⟨IntWalk.i64_in _ (by omega),by rw [e3];exact IntWalk.i64_in _ (by omega),e3,IntWalk.i64_in _ (by omega)⟩
 have hsum:0≤m.f+m.t∧m.f+m.t≤126:=by have:=ho.f0;have:=ho.f1;have:=ho.t0;have:=ho.t1;omega
 have HV:=Qh (stay_no2 hc h h2);rw [decide_eq_true hc] at hp0;rw [h] at HCk;rw [h2] at HSb;generalize (if okS ((m.f+m.t) / 2) && Jq p.B then zn (byN p.B ((m.f+m.t) / 2) (1-p.t)) else ([]:List Int))=Z at *;clear hc h h2;clear hB hr hg F t01 c0 c1 ho hcas;generalize behP p m=q at *;have HVb:Hid (backS p m=!Qq (behB p m) p.t):=rfl;generalize Qq (behB p m) p.t=cb at *;generalize hR (castN p m)=hr0 at *;go_enter Tryz.func38,Tryz.ntmps38;go_wp2_with (first|(refine Qc (by rfl) _ rfl _ rfl _ (HP.out) ?_)|(refine Qd (by rfl) _ rfl _ rfl _ (HP.out) ?_)|(refine Qe (by rfl) _ rfl _ rfl _ (HM.out) ?_))
 refine (HRt.out _).mono ?_;rintro e w1 ⟨rfl,k1⟩;have HK1:=Qh (HK0.out.trans k1);have HP1:=Qh (HP.out.kept k1);have HM1:=Qh (MAt.kept HM.out k1);clear k1;have ct:=HP1.out.turn;go_wp2_with (first|(refine Qc (by rfl) _ rfl _ rfl _ (HP1.out) ?_)|(refine Qd (by rfl) _ rfl _ rfl _ (HP1.out) ?_)|(refine Qe (by rfl) _ rfl _ rfl _ (HM1.out) ?_))
 refine (HCk.out _).mono ?_;rintro e w2 ⟨rfl,k2⟩;have HK2:=Qh (HK1.out.trans k2);have HP2:=Qh (HP1.out.kept k2);have HM2:=Qh (MAt.kept HM1.out k2);clear k2 ct;have ct:=HP2.out.turn;have cf:=HM2.out.f;have cg:=HM2.out.t;have e1:=HW.out.1;have e2:=HW.out.2.1;have e3:=HW.out.2.2.1;have e4:=HW.out.2.2.2;go_wp2_with (first|(refine Qc (by rfl) _ rfl _ rfl _ (HP2.out) ?_)|(refine Qd (by rfl) _ rfl _ rfl _ (HP2.out) ?_)|(refine Qe (by rfl) _ rfl _ rfl _ (HM2.out) ?_))
 refine (HBy.out _).mono ?_;rintro e w3 ⟨v,rfl,hown,k3⟩;obtain ⟨a3,c3,rfl⟩:=hown.slice;have HK3:=Qh (HK2.out.trans k3);have HP3:=Qh (HP2.out.kept k3);have HM3:=Qh (MAt.kept HM2.out k3);clear k3 ct cf cg e1 e2 e3 e4 hown;have hq0:decide (0<(Z.length:Int))=true:=by have:=HSb.out;simp only [decide_eq_true_eq,decide_eq_false_iff_not] at this ⊢;omega
 have hq1:=HSb.out;have hq2:0<Z.length:=by have:=HSb.out;simpa using this
 have hq3:(0:Int)<(Z.length:Int):=by omega
 generalize Z.length=N at *;go_wp2;go_ret;exact ⟨by rw [HV.out];rfl,HK3.out⟩
set_option maxHeartbeats 2000000 in
theorem stays_d (p:Ps) (hB:Brd p.B) (hr:pwI p=0) (m:Mv) (hg:goesM p m=true) (hc:castN p m<4) (h:Qq p.B p.t=false) (h2:Jl p.B ((m.f+m.t) / 2) (1-p.t)=false) (w:World) :
  Calls Tryz.prog 38 #[.agg (pl p).toArray,.agg (ml m).toArray] w fun e w'=>e=.returned (.bool (stayB p m))∧Kept w w':=by
 obtain ⟨f,t,F⟩:=Yt hB (Ji hr hg);obtain ⟨t01,⟨c0,c1⟩,_⟩:=Qt hr;have ho:=Jz (Ji hr hg);have hcas:=(Yj hr).2.2.2.1;have HP:Hid (PAt _ _ p):=⟨hB.1,heap_alloc2_old w (.cells (pl p).toArray 26) (.cells (ml m).toArray 28)⟩;have HM:Hid (MAt _ _ m):=⟨heap_alloc2_new w (.cells (pl p).toArray 26) (.cells (ml m).toArray 28)⟩;have HK0:=Qh (((Kept.refl w).alloc (.cells (pl p).toArray 26)).alloc (.cells (ml m).toArray 28));have hpl:Hid (p.B.length=64):=hB.1;have hz:=Qh (Jf hB.1);have HRt:=Qh (fun w=>rightR_is p hB c0 c1 hcas m f t F.hf F.ht F.f1 F.t1 w);have HBe:Hid (∀ w,Calls Tryz.prog 20 #[.agg (pl p).toArray,.agg (ml m).toArray] w (RetP w (behP p m))):=fun w=>by have:=behind_is p hB t01 c0 c1 hcas m ho F.prm f t F.hf F.ht w;rw [behP_eq F] at this;exact this
 have HCk:=Qh (fun w=>Jo p.B hB p.t t01 w);have HCb:Hid (∀ w,Calls Tryz.prog 33 #[.agg (cl (behP p m).B).toArray,.int .i64 p.t] w fun e w'=>e=.returned (.bool (Qq (behB p m) p.t))∧Kept w w'):=fun w=>Jo (behP p m).B (beh_brd hB hr hg) p.t t01 w
 have hql:Hid ((behP p m).B.length=64):=behB_len hB.1;have HBy:=Qh (fun w=>rby_is p.B hB ((m.f+m.t) / 2) (1-p.t) w);have HSb:=Qh (struck_by p.B ((m.f+m.t) / 2) (1-p.t));have hp0:=hR_pos p m
 have HW:Hid (IntKind.i64.wrap (m.f+m.t)=m.f+m.t∧IntKind.i64.wrap ((m.f+m.t).tdiv 2)=(m.f+m.t) / 2∧(m.f+m.t).tdiv 2=(m.f+m.t) / 2∧IntKind.i64.wrap (1-p.t)=1-p.t):=by
  have:=ho.f0;have:=ho.f1;have:=ho.t0;have:=ho.t1;have e3:(m.f+m.t).tdiv 2=(m.f+m.t) / 2:=Int.tdiv_eq_ediv_of_nonneg (by omega);exact ⟨IntWalk.i64_in _ (by omega),by rw [e3];exact IntWalk.i64_in _ (by omega),e3,IntWalk.i64_in _ (by omega)⟩
 have hsum:0≤m.f+m.t∧m.f+m.t≤126:=by have:=ho.f0;have:=ho.f1;have:=ho.t0;have:=ho.t1;omega
 have HV:=Qh (stay_cast hc h h2);rw [decide_eq_true hc] at hp0;rw [h] at HCk;rw [h2] at HSb;generalize (if okS ((m.f+m.t) / 2) && Jq p.B then zn (byN p.B ((m.f+m.t) / 2) (1-p.t)) else ([]:List Int))=Z at *;clear hc h h2;clear hB hr hg F t01 c0 c1 ho hcas;generalize behP p m=q at *;have HVb:Hid (backS p m=!Qq (behB p m) p.t):=rfl;generalize Qq (behB p m) p.t=cb at *;generalize hR (castN p m)=hr0 at *;go_enter Tryz.func38,Tryz.ntmps38;go_wp2_with (first|(refine Qc (by rfl) _ rfl _ rfl _ (HP.out) ?_)|(refine Qd (by rfl) _ rfl _ rfl _ (HP.out) ?_)|(refine Qe (by rfl) _ rfl _ rfl _ (HM.out) ?_))
 refine (HRt.out _).mono ?_;rintro e w1 ⟨rfl,k1⟩;have HK1:=Qh (HK0.out.trans k1);have HP1:=Qh (HP.out.kept k1);have HM1:=Qh (MAt.kept HM.out k1);clear k1;have ct:=HP1.out.turn;go_wp2_with (first|(refine Qc (by rfl) _ rfl _ rfl _ (HP1.out) ?_)|(refine Qd (by rfl) _ rfl _ rfl _ (HP1.out) ?_)|(refine Qe (by rfl) _ rfl _ rfl _ (HM1.out) ?_))
 refine (HCk.out _).mono ?_;rintro e w2 ⟨rfl,k2⟩;have HK2:=Qh (HK1.out.trans k2);have HP2:=Qh (HP1.out.kept k2);have HM2:=Qh (MAt.kept HM1.out k2);clear k2 ct;have ct:=HP2.out.turn;have cf:=HM2.out.f;have cg:=HM2.out.t;have e1:=HW.out.1;have e2:=HW.out.2.1;have e3:=HW.out.2.2.1;have e4:=HW.out.2.2.2;go_wp2_with (first|(refine Qc (by rfl) _ rfl _ rfl _ (HP2.out) ?_)|(refine Qd (by rfl) _ rfl _ rfl _ (HP2.out) ?_)|(refine Qe (by rfl) _ rfl _ rfl _ (HM2.out) ?_))
 refine (HBy.out _).mono ?_;rintro e w3 ⟨v,rfl,hown,k3⟩;obtain ⟨a3,c3,rfl⟩:=hown.slice;have HK3:=Qh (HK2.out.trans k3);have HP3:=Qh (HP2.out.kept k3);have HM3:=Qh (MAt.kept HM2.out k3);clear k3 ct cf cg e1 e2 e3 e4 hown;have hq0:decide (0<(Z.length:Int))=false:=by have:=HSb.out;simp only [decide_eq_true_eq,decide_eq_false_iff_not] at this ⊢;omega
 have hq1:=HSb.out;have hq2:¬ 0<Z.length:=by have:=HSb.out;simpa using this
 have hq3:¬ (0:Int)<(Z.length:Int):=by omega
 generalize Z.length=N at *;go_wp2;clear hp0;refine wp_region_held_drew (S:=Kept _) (by kernel_rfl) (Kept.refl _).drew (fun Qj=>?_);refine rY 0 30 rfl rfl (Qk (by rfl) _ rfl _ rfl p hpl.out (fun _ h=>(HP3.out).kept h)) Qj ?_;simp only [Act.put,sA,sZ,sU];refine rY 1 31 rfl rfl (Qm (by rfl) _ rfl _ rfl m (fun _ h=>MAt.kept (HM3.out) h)) Qj ?_;simp only [pA,pN,sZ,sU];refine rT 4 34 (.pointer (some ⟨w.heap.size,64,none⟩)) rfl rfl Qj ?_;simp only [pA,pN,sZ,sU];refine rC 5 35 (.int .i64 p.t) rfl rfl (fun _ h=>Qa h (HP3.out.turn)) Qj ?_;simp only [pA,pN,sZ,sU];refine rR 2 rfl (fun K hK=>?_);go_simp;refine (HBe.out _).mono ?_;rintro e x1 ⟨rfl,gx1⟩;refine hK.out _ _ (Qj.trans gx1) (fun _=>?_);replace Qj:=Qj.trans gx1;clear hK K;refine rY 3 33 rfl rfl (take_field_pb (by rfl) _ rfl q rfl hql.out) Qj ?_;simp only [pA,pN,sZ,sU];refine rR 6 rfl (fun K hK=>?_);go_simp;refine (HCb.out _).mono ?_;rintro e x2 ⟨rfl,gx2⟩;refine hK.out _ _ (Qj.trans gx2) (fun _=>?_);replace Qj:=Qj.trans gx2;clear hK K;refine rT 7 37 (.bool (!cb)) rfl rfl Qj ?_;simp only [pA,pN,sZ,sU];refine rT 8 4 (.bool (!cb)) rfl rfl Qj ?_;simp only [pA,pN,sZ,sU];refine wpAnyH_done (by kernel_rfl) ?_ _;have HKe:=Qh (HK3.out.trans Qj);clear Qj gx1 gx2;go_wp2;go_ret;exact ⟨by rw [HV.out,HVb.out];rfl,HKe.out⟩
theorem rstays_is (p:Ps) (hB:Brd p.B) (hr:pwI p=0) (m:Mv) (hg:goesM p m=true) (w:World) :
  Calls Tryz.prog 38 #[.agg (pl p).toArray,.agg (ml m).toArray] w fun e w'=>e=.returned (.bool (stayB p m))∧Kept w w':=by
 by_cases hc:castN p m<4
 ·cases h:Qq p.B p.t
  ·cases h2:Jl p.B ((m.f+m.t) / 2) (1-p.t)
   ·exact stays_d p hB hr m hg hc h h2 w
   ·exact stays_c p hB hr m hg hc h h2 w
  ·exact stays_b p hB hr m hg hc h w
 ·exact stays_a p hB hr m hg hc w
def stayP (p:Ps) (L:List Mv) (k:Nat):List Mv:=(L.take k).filter (stayB p)
theorem stayP_yes {p:Ps} {L:List Mv} {k:Nat} {x:Mv} (h:L[k]?=some x) (hb:stayB p x=true):stayP p L (k+1)=stayP p L k++[x]:=by
 unfold stayP;rw [take_one h];simp [hb]
theorem stayP_no {p:Ps} {L:List Mv} {k:Nat} {x:Mv} (h:L[k]?=some x) (hb:stayB p x=false):stayP p L (k+1)=stayP p L k:=by
 unfold stayP;rw [take_one h];simp [hb]
theorem stayP_long (p:Ps) (L:List Mv) (k:Nat):(stayP p L k).length≤L.length:=by
 unfold stayP;refine Nat.le_trans (List.length_filter_le _ _) ?_;rw [List.length_take];omega
theorem stayP_end (p:Ps):stayP p (allL p) (allL p).length=legL p:=by unfold stayP legL;rw [List.take_length]
set_option maxHeartbeats 4000000 in
theorem rmoves_is (p:Ps) (hB:Brd p.B) (hr:pwI p=0) (w:World):Calls Tryz.prog 16 #[.agg (pl p).toArray] w (NewM w (legL p)):=by
 have HP:=Qh (PAt.new w hB.1);have HK0:=Qh ((Kept.refl w).alloc (.cells (pl p).toArray 26));have hpl:Hid (p.B.length=64):=hB.1;have HAl:=Qh (fun w=>rall_is p hB hr w);have HS:=Qh (fun m (h:m ∈ allL p) w=>rstays_is p hB hr m ((mem_allN (Qt hr).1).1 h) w);have HEnd:=Qh (stayP_end p);have HLl:Hid ((allL p).length≤24576):=allN_len p 64;generalize allL p=L at *;clear hB hr;go_enter Tryz.func16,Tryz.ntmps16;go_wp2_with (first|(refine Qc (by rfl) _ rfl _ rfl _ (HP.out) ?_)|(refine Qd (by rfl) _ rfl _ rfl _ (HP.out) ?_))
 refine (HAl.out _).mono ?_;rintro e X ⟨v,rfl,hOX,kX⟩;obtain ⟨gl,hls,_⟩:=hOX.ls;obtain ⟨a0,c0,rfl⟩:=hOX.slice;have HLs:=Qh hls;have HKX:=Qh (HK0.out.trans kX);have HPX:=Qh (HP.out.kept kX);generalize hn:L.length=n at *;have HN:=Qh hn;clear hOX kX hls hn;go_wp2
 go_loopw [3,5] (fun t3 t5 wr=>∃ k:Nat,k≤n∧t5=.int .i64 k∧OwnM wr X.heap.size t3 (stayP p L k)∧Kept X wr) (fun _ t5 _=>n-(intOf t5).toNat)
 case atStart=>exact ⟨0,Nat.zero_le _,rfl,OwnM.nil _ _,Kept.refl _⟩
 case round =>
  obtain ⟨k,hk,rfl,hown,hK⟩:=hrel;obtain ⟨a3,c3,rfl⟩:=hown.slice;have HK:=Qh hK;have HO:=Qh hown;have HLn:=Qh (stayP_long p L k);clear hown;by_cases hlt:k<n
  ·have hlt':(k:Int)<(n:Int):=by omega
   obtain ⟨x,hx⟩:∃ x,L[k]?=some x:=⟨_,List.getElem?_eq_getElem (by have:=HN.out;omega)⟩;have hmx:=List.mem_of_getElem? hx;obtain ⟨off,cap,he,hc1,hc2,h3⟩:=HLs.out.full (by have:=HN.out;omega);rw [HN.out] at he;injection he with he1 he2 he3
   subst he1 he3;rw [HN.out] at hc1;unfold maxLen at hc2;have HX:=Qh hx;have HRx:=Qh (range_i (Yf h3 hK) hx);have HPk:=Qh (HPX.out.kept hK);have HSx:=Qh (HS.out x hmx);clear h3 hx hK hmx
   cases hb:stayB p x
   ·rw [hb] at HSx
    have HY:=Qh (stayP_no HX.out hb);clear hb;generalize (stayP p L k).length=N at *;go_wp2;refine wp_region_held_drew (S:=Kept _) (by kernel_rfl) (Kept.refl _).drew (fun Qj=>?_);refine rY 0 14 rfl rfl (Qk (by rfl) _ rfl _ rfl p hpl.out (fun _ h=>(HPk.out).kept h)) Qj ?_;simp only [Act.put,sA,sZ,sU];refine rT 1 15 (.slice (some ⟨gl,off,none⟩) n c0) rfl rfl Qj ?_;simp only [pA,pN,sZ,sU];refine rT 2 16 (.int .i64 (k:Int)) rfl rfl Qj ?_;simp only [pA,pN,sZ,sU];refine rT 3 17 (.pointer (some ⟨gl,off+k*3,none⟩)) rfl rfl Qj ?_;simp only [pA,pN,sZ,sU];refine rY 4 18 rfl rfl (take_load_mvi (by rfl) _ rfl gl (off+k*3) rfl x (fun _ h=>Yf (HRx.out) h)) Qj ?_;simp only [pA,pN,sZ,sU];refine rR 5 rfl (fun K hK=>?_);go_simp;refine (HSx.out _).mono ?_;rintro e x1 ⟨rfl,gx1⟩;refine hK.out _ _ (Qj.trans gx1) (fun _=>?_);replace Qj:=Qj.trans gx1;clear hK K;refine wpAnyH_done (by kernel_rfl) ?_ _;have HK1:=Qh (HK.out.trans Qj);have HO1:=Qh (HO.out.kept Qj);clear Qj gx1;go_wp2;go_roundw
    case rel=>exact ⟨k+1,by omega,by go_num,by rw [HY.out];exact HO1.out,HK1.out⟩
    case measure=>simp [intOf];omega
   ·rw [hb] at HSx
    have HY:=Qh (stayP_yes HX.out hb);clear hb;generalize hNn:(stayP p L k).length=N at *;go_wp2;refine wp_region_held_drew (S:=Kept _) (by kernel_rfl) (Kept.refl _).drew (fun Qj=>?_);refine rY 0 14 rfl rfl (Qk (by rfl) _ rfl _ rfl p hpl.out (fun _ h=>(HPk.out).kept h)) Qj ?_;simp only [pA,pN,sZ,sU];refine rT 1 15 (.slice (some ⟨gl,off,none⟩) n c0) rfl rfl Qj ?_;simp only [pA,pN,sZ,sU];refine rT 2 16 (.int .i64 (k:Int)) rfl rfl Qj ?_;simp only [pA,pN,sZ,sU];refine rT 3 17 (.pointer (some ⟨gl,off+k*3,none⟩)) rfl rfl Qj ?_;simp only [pA,pN,sZ,sU];refine rY 4 18 rfl rfl (take_load_mvi (by rfl) _ rfl gl (off+k*3) rfl x (fun _ h=>Yf (HRx.out) h)) Qj ?_;simp only [pA,pN,sZ,sU];refine rR 5 rfl (fun K hK=>?_);go_simp;refine (HSx.out _).mono ?_;rintro e x1 ⟨rfl,gx1⟩;refine hK.out _ _ (Qj.trans gx1) (fun _=>?_);replace Qj:=Qj.trans gx1;clear hK K;refine wpAnyH_done (by kernel_rfl) ?_ _;have HK1:=Qh (HK.out.trans Qj);have HRy:=Qh (Yf HRx.out Qj);have KA:=Qh ((Kept.refl x1).alloc (.cells (ml x).toArray 28));have HOA:=Qh ((HO.out.kept Qj).kept KA.out);have HLe:Hid ((stayP p L k).length=N):=hNn;clear Qj gx1 hNn;go_wp2_with (first|((with_reducible refine Qn rfl _ rfl gl (off+k*3) ?_ x HRy.out ?_);exact rfl)|((with_reducible refine Ym rfl _ rfl x ?_ ?_);exact rfl)|(at_builtin;refine Yl rfl _ _ rfl X.heap.size x1.heap.size _ _ (stayP p L k) [x] rfl rfl HOA.out (LsM.lit _ _) ?c1 ?c2 ?_))
    case c1=>have:=HLl.out;have:=HN.out;have:=HLn.out;have:=HLe.out;simp only [List.length_singleton];omega
    case c2=>have:=HK1.out.size;simp;omega
    intro v' w9 hO' hg;have HK9:=Qh (HOA.out.grown (HK1.out.trans KA.out) (Nat.le_refl _) hg);rw [← HY.out] at hO';obtain ⟨a',cap',rfl⟩:=hO'.slice;have HO9:=Qh hO';clear hO' hg;generalize (stayP p L (k+1)).length=N2 at *;go_wp2;go_roundw
    case rel=>exact ⟨k+1,by omega,by go_num,HO9.out,HK9.out⟩
    case measure=>simp [intOf];omega
  ·clear hK
   obtain rfl:k=n:=by omega
   generalize (stayP p L k).length=N at *;go_wp2;go_ret;exact ⟨_,rfl,by rw [← HEnd.out];exact HO.out.low HKX.out.size,HKX.out.trans HK.out⟩
end Go.Proofs.YtlpeiolgcaddjaaGreatDoor
