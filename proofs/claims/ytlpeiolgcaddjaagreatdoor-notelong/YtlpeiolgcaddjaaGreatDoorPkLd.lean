/- LeD: my texts, in their order. -/
import Derived.Test.YtlpeiolgcaddjaaGreatDoorPkGb
import Derived.Test.YtlpeiolgcaddjaaGreatDoorPkLa
namespace Go.Proofs.YtlpeiolgcaddjaaGreatDoor
open Go.RowKit
set_option linter.unusedVariables false
set_option linter.unusedSimpArgs false
set_option maxRecDepth 100000
structure RuAt (w:World) (r g:Nat) (a b:Addr):Prop where
 gen:w.cell? ⟨r,0,none⟩=some (.pointer (some ⟨g,0,none⟩))
 eye:w.cell? ⟨r,1,none⟩=some (.pointer (some b))
 ey:EyeAt w g a
theorem RuAt.kept {w w':World} {r g:Nat} {a b:Addr} (h:RuAt w r g a b) (k:Kept w w'):RuAt w' r g a b:=⟨Qa k h.gen,Qa k h.eye,h.ey.kept k⟩
theorem bt_ru (x y:Addr):Tryz.prog.built 75 [(0,.pointer (some x)),(1,.pointer (some y))]=some #[.pointer (some x),.pointer (some y)]:=by kernel_rfl
theorem rnew_is (w:World):Calls Tryz.prog 22 #[] w fun e w'=>∃ r g a b,e=.returned (.pointer (some ⟨r,0,none⟩))∧RuAt w' r g a b∧Kept w w':=by
 go_enter Tryz.func22,Tryz.ntmps22;go_wp2_with fail
 refine (gnew_is _).mono ?_;rintro e w1 ⟨g,a,rfl,hE,k1⟩;have HE:=Qh hE;have HK1:=Qh k1;clear hE k1;go_wp2_with fail
 refine (new_is _).mono ?_;rintro e w2 ⟨⟨b,rfl⟩,k2⟩;have HK2:=Qh (HK1.out.trans k2);have HE2:=Qh (HE.out.kept k2);clear k2;go_wp2_with (refine Jy rfl 75 _ rfl #[.pointer (some ⟨g,0,none⟩),.pointer (some b)] (bt_ru ⟨g,0,none⟩ b) ?_)
 go_ret;refine ⟨w2.heap.size,g,a,b,rfl,⟨?_,?_,HE2.out.kept ((Kept.refl _).alloc _)⟩,HK2.out.alloc _⟩
 ·rw [cell_of_row _ _ 0 _ _ (0,0) (heap_alloc_new w2 _)];rfl
 ·rw [cell_of_row _ _ 1 _ _ (0,0) (heap_alloc_new w2 _)];rfl
set_option maxHeartbeats 1000000 in
theorem rchk_is (r g:Nat) (a b:Addr) (p:Ps) (hB:Brd p.B) (w:World) (hS:Steps w) (hR:RuAt w r g a b) :
  Calls Tryz.prog 63 #[.pointer (some ⟨r,0,none⟩),.agg (pl p).toArray] w fun e w'=>e=.returned (.bool (Qq p.B p.t))∧Kept w w':=by
 have HP:=Qh (PAt.new w hB.1);have HK0:=Qh ((Kept.refl w).alloc (.cells (pl p).toArray 26));have HS:=Qh (hS.kept HK0.out);have HR:=Qh (hR.kept HK0.out);have HC:=Qh (fun w hS=>check_is b p.B hB p.t w hS);have hpl:Hid (p.B.length=64):=hB.1;generalize Qq p.B p.t=cb at *;clear hB hS hR;go_enter Tryz.func63,Tryz.ntmps63;go_wp2;refine wp_region_held_drew (S:=Kept _) (by kernel_rfl) (Kept.refl _).drew (fun Qj=>?_);refine rT 0 5 (.pointer (some ⟨r,0,none⟩)) rfl rfl Qj ?_;simp only [pA,pN,sZ,sU];refine rT 1 6 (.bool true) rfl rfl Qj ?_;simp only [pA,pN,sZ,sU];refine rT 2 7 (.bool true) rfl rfl Qj ?_;simp only [pA,pN,sZ,sU];refine rT 3 8 (.pointer (some ⟨r,0,none⟩)) rfl rfl Qj ?_;simp only [pA,pN,sZ,sU];refine rT 4 9 (.pointer (some ⟨r,0,none⟩)) rfl rfl Qj ?_;simp only [pA,pN,sZ,sU];refine rT 5 10 (.pointer (some ⟨r,1,none⟩)) rfl rfl Qj ?_;simp only [pA,pN,sZ,sU];refine rC 6 11 (.pointer (some b)) rfl rfl (fun _ h=>Qa h (HR.out.eye)) Qj ?_;simp only [pA,pN,sZ,sU];refine rT 7 12 (.pointer (some ⟨w.heap.size,0,none⟩)) rfl rfl Qj ?_;simp only [pA,pN,sZ,sU];refine rY 8 13 rfl rfl (Qp (by rfl) _ rfl _ rfl p hpl.out (fun _ h=>(HP.out).kept h)) Qj ?_;simp only [pA,pN,sZ,sU];refine rT 9 14 (.pointer (some ⟨w.heap.size,64,none⟩)) rfl rfl Qj ?_;simp only [pA,pN,sZ,sU];refine rC 10 15 (.int .i64 p.t) rfl rfl (fun _ h=>Qa h (HP.out.turn)) Qj ?_;simp only [pA,pN,sZ,sU];refine rR 11 rfl (fun K hK=>?_);go_simp;refine (HC.out _ (HS.out.kept Qj)).mono ?_;rintro e w1 ⟨rfl,gw1⟩;refine hK.out _ _ (Qj.trans gw1) (fun _=>?_);replace Qj:=Qj.trans gw1;clear hK K;refine rT 12 17 (.bool cb) rfl rfl Qj ?_;simp only [pA,pN,sZ,sU];refine rT 13 4 (.bool cb) rfl rfl Qj ?_;simp only [pA,pN,sZ,sU];refine wpAnyH_done (by kernel_rfl) ?_ _;go_wp2;go_ret;exact ⟨rfl,HK0.out.trans Qj⟩
theorem half_is (m:Mv) (ho:On m) (w:World):Calls Tryz.prog 111 #[.agg (ml m).toArray] w fun e w'=>e=.returned (.int .i64 ((m.f+m.t) / 2))∧Kept w w':=by
 have HM:=Qh (MAt.new w m);have HK0:=Qh ((Kept.refl w).alloc (.cells (ml m).toArray 28));have y1:=HM.out.f;have y2:=HM.out.t;have h1:0≤m.f+m.t∧m.f+m.t≤126:=by have:=ho.f0;have:=ho.f1;have:=ho.t0;have:=ho.t1;omega
 have e1:IntKind.i64.wrap (m.f+m.t)=m.f+m.t:=IntWalk.i64_in _ (by omega);have e3:(m.f+m.t).tdiv 2=(m.f+m.t) / 2:=Int.tdiv_eq_ediv_of_nonneg h1.1;have e2:IntKind.i64.wrap ((m.f+m.t) / 2)=(m.f+m.t) / 2:=IntWalk.i64_in _ (by omega);have e4:IntKind.i64.wrap ((m.f+m.t).tdiv 2)=(m.f+m.t) / 2:=by rw [e3,e2]
 clear h1 ho;go_enter Tryz.func111,Tryz.ntmps111;go_wp2;go_ret;exact ⟨by first|rfl|simp only [e1,e2,e3,e4]|(rw [e4]),HK0.out⟩
theorem inl1 (a b:Int) (a0:0≤a) (a1:a<64) (b0:0≤b) (b1:b<64) (h1:(a % 8-b % 8 == 0)=true) (w:World) :
  Calls Tryz.prog 112 #[.int .i64 a,.int .i64 b] w fun e w'=>e=.returned (.bool true)∧Kept w w':=by
 have HF1:=Qh (fun w=>Qal a w a0 a1);have HF2:=Qh (fun w=>Qal b w b0 b1);have HR1:=Qh (fun w=>Ja a w a0 a1);have HR2:=Qh (fun w=>Ja b w b0 b1);have p1:0≤a % 8∧a % 8<8:=by omega
 have p2:0≤b % 8∧b % 8<8:=by omega
 have p3:0≤a / 8∧a / 8<8:=by omega
 have p4:0≤b / 8∧b / 8<8:=by omega
 generalize a % 8=fa at *;generalize b % 8=fb at *;generalize a / 8=ra at *;generalize b / 8=rb at *;obtain ⟨q1,q2⟩:=p1;obtain ⟨q3,q4⟩:=p2;obtain ⟨q5,q6⟩:=p3;obtain ⟨q7,q8⟩:=p4;clear a0 a1 b0 b1;go_enter Tryz.func112,Tryz.ntmps112;go_wp2_with fail
 refine (HF1.out _).mono ?_;rintro e w' ⟨rfl,rfl⟩;go_wp2_with fail
 refine (HF2.out _).mono ?_;rintro e w' ⟨rfl,rfl⟩;go_wp2_with fail
 refine (HR1.out _).mono ?_;rintro e w' ⟨rfl,rfl⟩;go_wp2_with fail
 refine (HR2.out _).mono ?_;rintro e w' ⟨rfl,rfl⟩;go_wp2;go_ret;exact ⟨rfl,Kept.refl _⟩
theorem inl2 (a b:Int) (a0:0≤a) (a1:a<64) (b0:0≤b) (b1:b<64) (h1:(a % 8-b % 8 == 0)=false) (h2:(a / 8-b / 8 == 0)=true) (w:World) :
  Calls Tryz.prog 112 #[.int .i64 a,.int .i64 b] w fun e w'=>e=.returned (.bool true)∧Kept w w':=by
 have HF1:=Qh (fun w=>Qal a w a0 a1);have HF2:=Qh (fun w=>Qal b w b0 b1);have HR1:=Qh (fun w=>Ja a w a0 a1);have HR2:=Qh (fun w=>Ja b w b0 b1);have p1:0≤a % 8∧a % 8<8:=by omega
 have p2:0≤b % 8∧b % 8<8:=by omega
 have p3:0≤a / 8∧a / 8<8:=by omega
 have p4:0≤b / 8∧b / 8<8:=by omega
 generalize a % 8=fa at *;generalize b % 8=fb at *;generalize a / 8=ra at *;generalize b / 8=rb at *;obtain ⟨q1,q2⟩:=p1;obtain ⟨q3,q4⟩:=p2;obtain ⟨q5,q6⟩:=p3;obtain ⟨q7,q8⟩:=p4;clear a0 a1 b0 b1;go_enter Tryz.func112,Tryz.ntmps112;go_wp2_with fail
 refine (HF1.out _).mono ?_;rintro e w' ⟨rfl,rfl⟩;go_wp2_with fail
 refine (HF2.out _).mono ?_;rintro e w' ⟨rfl,rfl⟩;go_wp2_with fail
 refine (HR1.out _).mono ?_;rintro e w' ⟨rfl,rfl⟩;go_wp2_with fail
 refine (HR2.out _).mono ?_;rintro e w' ⟨rfl,rfl⟩;go_wp2;go_ret;exact ⟨rfl,Kept.refl _⟩
theorem inl3 (a b:Int) (a0:0≤a) (a1:a<64) (b0:0≤b) (b1:b<64) (h1:(a % 8-b % 8 == 0)=false) (h2:(a / 8-b / 8 == 0)=false) (h3:(a % 8-b % 8 == a / 8-b / 8)=true) (w:World) :
  Calls Tryz.prog 112 #[.int .i64 a,.int .i64 b] w fun e w'=>e=.returned (.bool true)∧Kept w w':=by
 have HF1:=Qh (fun w=>Qal a w a0 a1);have HF2:=Qh (fun w=>Qal b w b0 b1);have HR1:=Qh (fun w=>Ja a w a0 a1);have HR2:=Qh (fun w=>Ja b w b0 b1);have p1:0≤a % 8∧a % 8<8:=by omega
 have p2:0≤b % 8∧b % 8<8:=by omega
 have p3:0≤a / 8∧a / 8<8:=by omega
 have p4:0≤b / 8∧b / 8<8:=by omega
 generalize a % 8=fa at *;generalize b % 8=fb at *;generalize a / 8=ra at *;generalize b / 8=rb at *;obtain ⟨q1,q2⟩:=p1;obtain ⟨q3,q4⟩:=p2;obtain ⟨q5,q6⟩:=p3;obtain ⟨q7,q8⟩:=p4;clear a0 a1 b0 b1;go_enter Tryz.func112,Tryz.ntmps112;go_wp2_with fail
 refine (HF1.out _).mono ?_;rintro e w' ⟨rfl,rfl⟩;go_wp2_with fail
 refine (HF2.out _).mono ?_;rintro e w' ⟨rfl,rfl⟩;go_wp2_with fail
 refine (HR1.out _).mono ?_;rintro e w' ⟨rfl,rfl⟩;go_wp2_with fail
 refine (HR2.out _).mono ?_;rintro e w' ⟨rfl,rfl⟩;go_wp2;go_ret;exact ⟨rfl,Kept.refl _⟩
theorem inl4 (a b:Int) (a0:0≤a) (a1:a<64) (b0:0≤b) (b1:b<64) (h1:(a % 8-b % 8 == 0)=false) (h2:(a / 8-b / 8 == 0)=false) (h3:(a % 8-b % 8 == a / 8-b / 8)=false) (w:World) :
  Calls Tryz.prog 112 #[.int .i64 a,.int .i64 b] w fun e w'=>e=.returned (.bool (a % 8-b % 8 == -(a / 8-b / 8)))∧Kept w w':=by
 have HF1:=Qh (fun w=>Qal a w a0 a1);have HF2:=Qh (fun w=>Qal b w b0 b1);have HR1:=Qh (fun w=>Ja a w a0 a1);have HR2:=Qh (fun w=>Ja b w b0 b1);have p1:0≤a % 8∧a % 8<8:=by omega
 have p2:0≤b % 8∧b % 8<8:=by omega
 have p3:0≤a / 8∧a / 8<8:=by omega
 have p4:0≤b / 8∧b / 8<8:=by omega
 generalize a % 8=fa at *;generalize b % 8=fb at *;generalize a / 8=ra at *;generalize b / 8=rb at *;obtain ⟨q1,q2⟩:=p1;obtain ⟨q3,q4⟩:=p2;obtain ⟨q5,q6⟩:=p3;obtain ⟨q7,q8⟩:=p4;clear a0 a1 b0 b1;go_enter Tryz.func112,Tryz.ntmps112;go_wp2_with fail
 refine (HF1.out _).mono ?_;rintro e w' ⟨rfl,rfl⟩;go_wp2_with fail
 refine (HF2.out _).mono ?_;rintro e w' ⟨rfl,rfl⟩;go_wp2_with fail
 refine (HR1.out _).mono ?_;rintro e w' ⟨rfl,rfl⟩;go_wp2_with fail
 refine (HR2.out _).mono ?_;rintro e w' ⟨rfl,rfl⟩;go_wp2;go_ret;exact ⟨rfl,Kept.refl _⟩
theorem inl_is (a b:Int) (a0:0≤a) (a1:a<64) (b0:0≤b) (b1:b<64) (w:World) :
  Calls Tryz.prog 112 #[.int .i64 a,.int .i64 b] w fun e w'=>e=.returned (.bool (inL a b))∧Kept w w':=by
 unfold inL
 cases h1:(a % 8-b % 8 == 0)
 ·cases h2:(a / 8-b / 8 == 0)
  ·cases h3:(a % 8-b % 8 == a / 8-b / 8)
   ·exact inl4 a b a0 a1 b0 b1 h1 h2 h3 w
   ·exact inl3 a b a0 a1 b0 b1 h1 h2 h3 w
  ·exact inl2 a b a0 a1 b0 b1 h1 h2 w
 ·exact inl1 a b a0 a1 b0 b1 h1 w
set_option maxHeartbeats 2000000 in
theorem leaves_is (r g:Nat) (a b:Addr) (p:Ps) (hB:Brd p.B) (m:Mv) (h:okM p m=true) (hQ:Brd (behP p m).B) (w:World) (hT:TabG w) (hR:RuAt w r g a b) :
  Calls Tryz.prog 113 #[.pointer (some ⟨r,0,none⟩),.agg (pl p).toArray,.agg (ml m).toArray] w fun e w'=>e=.returned (.bool (Qq (behB p m) p.t))∧Kept w w':=by
 have HP:Hid (PAt _ _ p):=⟨hB.1,heap_alloc2_old w (.cells (pl p).toArray 26) (.cells (ml m).toArray 28)⟩;have HM:Hid (MAt _ _ m):=⟨heap_alloc2_new w (.cells (pl p).toArray 26) (.cells (ml m).toArray 28)⟩;have HK0:=Qh (((Kept.refl w).alloc (.cells (pl p).toArray 26)).alloc (.cells (ml m).toArray 28));have HT:=Qh (hT.kept HK0.out);have HR:=Qh (hR.kept HK0.out);have HC:=Qh (fun w hw=>make_yes p hB m h w hw);have HCk:=Qh (fun w hS=>check_is b (behP p m).B hQ p.t w hS);have hql:Hid ((behP p m).B.length=64):=hQ.1;have HV:Hid (Qq (behP p m).B p.t=Qq (behB p m) p.t):=rfl;clear hB hT hR h hQ;generalize Qq (behB p m) p.t=cb at *;rw [HV.out] at HCk;clear HV;generalize behP p m=q at *;go_enter Tryz.func113,Tryz.ntmps113;go_wp2_with (first|(refine Qc (by rfl) _ rfl _ rfl _ (HP.out) ?_)|(refine Qd (by rfl) _ rfl _ rfl _ (HP.out) ?_)|(refine Qe (by rfl) _ rfl _ rfl _ (HM.out) ?_))
 refine (HC.out _ HT.out.tabm).mono ?_;rintro e w2 ⟨rfl,k2⟩;have KA:=Qh (k2.alloc (.cells (pl q).toArray 26));have HK2:=Qh (HK0.out.trans KA.out);have HQ2:=Qh (PAt.new w2 hql.out);have HP2:=Qh (HP.out.kept KA.out);have HT2:=Qh (HT.out.kept KA.out);have HR2:=Qh (HR.out.kept KA.out);clear k2 KA;go_wp2_with (first|(with_reducible refine Qy rfl rfl ?_)|((with_reducible refine Yb rfl _ _ rfl Zp q Yy hql.out ?_ ?_ ?_);exact rfl;exact rfl))
 generalize w2.alloc (.cells (pl q).toArray 26)=W2 at *;generalize w2.heap.size=gq at *;refine wp_region_held_drew (S:=Kept _) (by kernel_rfl) (Kept.refl _).drew (fun Qj=>?_);refine rT 0 15 (.int .i64 0) rfl rfl Qj ?_;simp only [Act.put,sA,sZ,sU];refine rT 1 16 (.bool true) rfl rfl Qj ?_;simp only [pA,pN,sZ,sU];refine rT 2 17 (.bool true) rfl rfl Qj ?_;simp only [pA,pN,sZ,sU];refine rT 3 18 (.pointer (some ⟨r,0,none⟩)) rfl rfl Qj ?_;simp only [pA,pN,sZ,sU];refine rT 4 19 (.pointer (some ⟨r,0,none⟩)) rfl rfl Qj ?_;simp only [pA,pN,sZ,sU];refine rT 5 20 (.pointer (some ⟨r,1,none⟩)) rfl rfl Qj ?_;simp only [pA,pN,sZ,sU];refine rC 6 21 (.pointer (some b)) rfl rfl (fun _ h=>Qa h (HR2.out.eye)) Qj ?_;simp only [pA,pN,sZ,sU];refine rT 7 22 (.pointer (some ⟨gq,0,none⟩)) rfl rfl Qj ?_;simp only [pA,pN,sZ,sU];refine rY 8 23 rfl rfl (Qp (by rfl) _ rfl _ rfl q hql.out (fun _ h=>(HQ2.out).kept h)) Qj ?_;simp only [pA,pN,sZ,sU];refine rT 9 24 (.pointer (some ⟨w.heap.size,64,none⟩)) rfl rfl Qj ?_;simp only [pA,pN,sZ,sU];refine rC 10 25 (.int .i64 p.t) rfl rfl (fun _ h=>Qa h (HP2.out.turn)) Qj ?_;simp only [pA,pN,sZ,sU];refine rR 11 rfl (fun K hK=>?_);go_simp;refine (HCk.out _ (HT2.out.tabm.tabs.steps.kept Qj)).mono ?_;rintro e w3 ⟨rfl,gw3⟩;refine hK.out _ _ (Qj.trans gw3) (fun _=>?_);replace Qj:=Qj.trans gw3;clear hK K;refine rT 12 27 (.bool cb) rfl rfl Qj ?_;simp only [pA,pN,sZ,sU];refine rT 13 6 (.bool cb) rfl rfl Qj ?_;simp only [pA,pN,sZ,sU];refine wpAnyH_done (by kernel_rfl) ?_ _;go_wp2;go_ret;exact ⟨rfl,HK2.out.trans Qj⟩
end Go.Proofs.YtlpeiolgcaddjaaGreatDoor
