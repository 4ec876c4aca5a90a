/- LeE: my texts, in their order. -/
import Derived.Test.YtlpeiolgcaddjaaGreatDoorPkC
import Derived.Test.YtlpeiolgcaddjaaGreatDoorPkLd
import Derived.Laws.EntriesVeiled
namespace Go.Proofs.YtlpeiolgcaddjaaGreatDoor
open Go.RowKit
set_option linter.unusedVariables false
set_option linter.unusedSimpArgs false
set_option maxRecDepth 100000
structure Bar (w:World) (p:Ps) (gk gc gb gp r g:Nat) (a b:Addr):Prop where
 tab:TabG w
 ru:RuAt w r g a b
 pos:PAt w gp p
 kg:w.cell? ⟨gk,0,none⟩=some (.int .i64 (kingI p.B p.t))
 ck:w.cell? ⟨gc,0,none⟩=some (.bool (Qq p.B p.t))
 rr:w.cell? ⟨gb,0,none⟩=some (.pointer (some ⟨r,0,none⟩))
theorem Bar.kept {w w':World} {p:Ps} {gk gc gb gp r g:Nat} {a b:Addr} (h:Bar w p gk gc gb gp r g a b) (k:Kept w w'):Bar w' p gk gc gb gp r g a b :=
 ⟨h.tab.kept k,h.ru.kept k,h.pos.kept k,Qa k h.kg,Qa k h.ck,Qa k h.rr⟩
def barV (gk gc gb gp:Nat):Array Value:=#[.pointer (some ⟨gk,0,none⟩),.pointer (some ⟨gc,0,none⟩),.pointer (some ⟨gb,0,none⟩),.pointer (some ⟨gp,0,none⟩)]
set_option maxHeartbeats 2000000 in
theorem bars_a (gk gc gb gp r g:Nat) (a b:Addr) (p:Ps) (hB:Brd p.B) (hr:pwI p=0) (m:Mv) (hg:goesM p m=true) (h1:(m.f == kingI p.B p.t)=true) (h2:decide (1<farI m.f m.t)=true) (hck:Qq p.B p.t=true) (w:World) (hBr:Bar w p gk gc gb gp r g a b) :
  Calls Tryz.prog 108 #[.agg (ml m).toArray,.pointer (some ⟨gk,0,none⟩),.pointer (some ⟨gc,0,none⟩),.pointer (some ⟨gb,0,none⟩),.pointer (some ⟨gp,0,none⟩)] w fun e w'=>e=.returned (.bool (barsB p m))∧Kept w w':=by
 have hok:=Ji hr hg;have ho:=Jz hok;have t01:=(Qt hr).1;obtain ⟨kn,hkn,ekn,_⟩:=king_of hr;have HM:=Qh (MAt.new w m);have HK0:=Qh ((Kept.refl w).alloc (.cells (ml m).toArray 28));have HBr:=Qh (hBr.kept HK0.out);have HLv:=Qh (fun w hT hR=>leaves_is r g a b p hB m hok (beh_brd hB hr hg) w hT hR);have HFar:Hid (∀ w,Calls Tryz.prog 109 #[.int .i64 m.f,.int .i64 m.t] w fun e w'=>e=.returned (.int .i64 (farI m.f m.t))∧Kept w w'):=fun w=>by have:=far_any m.f m.t w;unfold farA at this;rw [if_pos ⟨⟨ho.f0,ho.f1⟩,ho.t0,ho.t1⟩] at this;exact this
 have HIn:=Qh (fun w=>inl_is (kingI p.B p.t) m.f (by omega) (by omega) ho.f0 ho.f1 w);have HHf:=Qh (fun w=>half_is m ho w);have HOth:Hid (∀ w,Calls Tryz.prog 96 #[.int .i64 p.t] w fun e w'=>e=.returned (.int .i64 (1-p.t))∧Kept w w'):=fun w=>by have:=Ye p.t w;rw [Jt t01] at this;exact this
 have HSt:=Qh (fun w hS=>struck_is b p.B hB ((m.f+m.t) / 2) (1-p.t) w hS);have hpl:Hid (p.B.length=64):=hB.1;have HCh:=Qh hck
 have HV:Hid (barsB p m=true):=by
  show _=_;unfold barsB farK askB;simp only [h1,h2,hck]
  try simp
 clear hck;clear hB hr hg hBr hok ho t01 hkn ekn;go_enter Tryz.func108,Tryz.ntmps108;have cf:=HM.out.f;have ct:=HM.out.t;have ck:=HBr.out.kg;have cc:=HBr.out.ck;have cr:=HBr.out.rr;have ce:=HBr.out.pos.ep;rw [HCh.out] at cc;go_wp2_with fail
 refine (HFar.out _).mono ?_;rintro e w1 ⟨rfl,k1⟩;have HK1:=Qh (HK0.out.trans k1);have HBr1:=Qh (HBr.out.kept k1);have HM1:=Qh (MAt.kept HM.out k1);clear k1;clear cf ct ck cc cr ce;have cf:=HM1.out.f;have ct:=HM1.out.t;have ck:=HBr1.out.kg;have cc:=HBr1.out.ck;have cr:=HBr1.out.rr;have ce:=HBr1.out.pos.ep;rw [HCh.out] at cc;go_wp2;have HCc:=Qh cc;clear cf ct ck cc cr ce h1 h2;refine wp_region_held_drew (S:=Kept _) (by kernel_rfl) (Kept.refl _).drew (fun Qj=>?_);refine rC 0 35 (.bool true) rfl rfl (fun _ h=>Qa h (HCc.out)) Qj ?_;simp only [pA,pN,sZ,sU];refine rT 1 36 (.bool true) rfl rfl Qj ?_;simp only [pA,pN,sZ,sU];refine rN 2 37 rfl rfl Qj ?_;simp only [pA,pN,sZ,sU];refine rN 3 38 rfl rfl Qj ?_;simp only [pA,pN,sZ,sU];refine rN 4 39 rfl rfl Qj ?_;simp only [pA,pN,sZ,sU];refine rN 5 40 rfl rfl Qj ?_;simp only [pA,pN,sZ,sU];refine rN 6 41 rfl rfl Qj ?_;simp only [pA,pN,sZ,sU];refine rN 7 42 rfl rfl Qj ?_;simp only [pA,pN,sZ,sU];refine rN 8 43 rfl rfl Qj ?_;simp only [pA,pN,sZ,sU];refine rN 9 44 rfl rfl Qj ?_;simp only [pA,pN,sZ,sU];refine rN 10 45 rfl rfl Qj ?_;simp only [pA,pN,sZ,sU];refine rN 11 46 rfl rfl Qj ?_;simp only [pA,pN,sZ,sU];refine rN 12 47 rfl rfl Qj ?_;simp only [pA,pN,sZ,sU];refine rN 13 48 rfl rfl Qj ?_;simp only [pA,pN,sZ,sU];refine rT 14 49 (.bool true) rfl rfl Qj ?_;simp only [pA,pN,sZ,sU];refine wpAnyH_done (by kernel_rfl) ?_ _;have HK2:=Qh (HK1.out.trans Qj);clear Qj;go_wp2;go_ret;exact ⟨by rw [HV.out];rfl,HK2.out⟩
set_option maxHeartbeats 2000000 in
theorem bars_b (gk gc gb gp r g:Nat) (a b:Addr) (p:Ps) (hB:Brd p.B) (hr:pwI p=0) (m:Mv) (hg:goesM p m=true) (h1:(m.f == kingI p.B p.t)=true) (h2:decide (1<farI m.f m.t)=true) (hck:Qq p.B p.t=false) (hs:Jl p.B ((m.f+m.t) / 2) (1-p.t)=true) (w:World) (hBr:Bar w p gk gc gb gp r g a b) :
  Calls Tryz.prog 108 #[.agg (ml m).toArray,.pointer (some ⟨gk,0,none⟩),.pointer (some ⟨gc,0,none⟩),.pointer (some ⟨gb,0,none⟩),.pointer (some ⟨gp,0,none⟩)] w fun e w'=>e=.returned (.bool (barsB p m))∧Kept w w':=by
 have hok:=Ji hr hg;have ho:=Jz hok;have t01:=(Qt hr).1;obtain ⟨kn,hkn,ekn,_⟩:=king_of hr;have HM:=Qh (MAt.new w m);have HK0:=Qh ((Kept.refl w).alloc (.cells (ml m).toArray 28));have HBr:=Qh (hBr.kept HK0.out);have HLv:=Qh (fun w hT hR=>leaves_is r g a b p hB m hok (beh_brd hB hr hg) w hT hR);have HFar:Hid (∀ w,Calls Tryz.prog 109 #[.int .i64 m.f,.int .i64 m.t] w fun e w'=>e=.returned (.int .i64 (farI m.f m.t))∧Kept w w'):=fun w=>by have:=far_any m.f m.t w;unfold farA at this;rw [if_pos ⟨⟨ho.f0,ho.f1⟩,ho.t0,ho.t1⟩] at this;exact this
 have HIn:=Qh (fun w=>inl_is (kingI p.B p.t) m.f (by omega) (by omega) ho.f0 ho.f1 w);have HHf:=Qh (fun w=>half_is m ho w);have HOth:Hid (∀ w,Calls Tryz.prog 96 #[.int .i64 p.t] w fun e w'=>e=.returned (.int .i64 (1-p.t))∧Kept w w'):=fun w=>by have:=Ye p.t w;rw [Jt t01] at this;exact this
 have HSt:=Qh (fun w hS=>struck_is b p.B hB ((m.f+m.t) / 2) (1-p.t) w hS);have hpl:Hid (p.B.length=64):=hB.1;have HCh:=Qh hck
 have HV:Hid (barsB p m=true):=by
  show _=_;unfold barsB farK askB;simp only [h1,h2,hck,hs]
  try simp
 clear hck;rw [hs] at HSt;clear hs;clear hB hr hg hBr hok ho t01 hkn ekn;go_enter Tryz.func108,Tryz.ntmps108;have cf:=HM.out.f;have ct:=HM.out.t;have ck:=HBr.out.kg;have cc:=HBr.out.ck;have cr:=HBr.out.rr;have ce:=HBr.out.pos.ep;rw [HCh.out] at cc;go_wp2_with fail
 refine (HFar.out _).mono ?_;rintro e w1 ⟨rfl,k1⟩;have HK1:=Qh (HK0.out.trans k1);have HBr1:=Qh (HBr.out.kept k1);have HM1:=Qh (MAt.kept HM.out k1);clear k1;clear cf ct ck cc cr ce;have cf:=HM1.out.f;have ct:=HM1.out.t;have ck:=HBr1.out.kg;have cc:=HBr1.out.ck;have cr:=HBr1.out.rr;have ce:=HBr1.out.pos.ep;rw [HCh.out] at cc;go_wp2;have HCc:=Qh cc;have HCr:=Qh cr;clear cf ct ck cc cr ce h1 h2;refine wp_region_held_drew (S:=Kept _) (by kernel_rfl) (Kept.refl _).drew (fun Qj=>?_);refine rC 0 35 (.bool false) rfl rfl (fun _ h=>Qa h (HCc.out)) Qj ?_;simp only [pA,pN,sZ,sU];refine rT 1 36 (.bool false) rfl rfl Qj ?_;simp only [pA,pN,sZ,sU];refine rC 2 37 (.pointer (some ⟨r,0,none⟩)) rfl rfl (fun _ h=>Qa h (HCr.out)) Qj ?_;simp only [pA,pN,sZ,sU];refine rT 3 38 (.pointer (some ⟨r,0,none⟩)) rfl rfl Qj ?_;simp only [pA,pN,sZ,sU];refine rT 4 39 (.pointer (some ⟨r,1,none⟩)) rfl rfl Qj ?_;simp only [pA,pN,sZ,sU];refine rC 5 40 (.pointer (some b)) rfl rfl (fun _ h=>Qa h (HBr1.out.ru.eye)) Qj ?_;simp only [pA,pN,sZ,sU];refine rT 6 41 (.pointer (some ⟨gp,0,none⟩)) rfl rfl Qj ?_;simp only [pA,pN,sZ,sU];refine rY 7 42 rfl rfl (Qp (by rfl) _ rfl _ rfl p hpl.out (fun _ h=>(HBr1.out.pos).kept h)) Qj ?_;simp only [pA,pN,sZ,sU];refine rY 8 43 rfl rfl (Qm (by rfl) _ rfl _ rfl m (fun _ h=>MAt.kept (HM1.out) h)) Qj ?_;simp only [pA,pN,sZ,sU];refine rT 10 45 (.pointer (some ⟨gp,64,none⟩)) rfl rfl Qj ?_;simp only [pA,pN,sZ,sU];refine rC 11 46 (.int .i64 p.t) rfl rfl (fun _ h=>Qa h (HBr1.out.pos.turn)) Qj ?_;simp only [pA,pN,sZ,sU];refine rR 9 rfl (fun K hK=>?_);rw [if_pos (by rfl)];go_simp;refine (HHf.out _).mono ?_;rintro e x1 ⟨rfl,gx1⟩;refine hK.out _ _ (Qj.trans gx1) (fun _=>?_);replace Qj:=Qj.trans gx1;clear hK K;refine rR 12 rfl (fun K hK=>?_);rw [if_pos (by rfl)];go_simp;refine (HOth.out _).mono ?_;rintro e x2 ⟨rfl,gx2⟩;refine hK.out _ _ (Qj.trans gx2) (fun _=>?_);replace Qj:=Qj.trans gx2;clear hK K;refine rR 13 rfl (fun K hK=>?_);rw [if_pos (by rfl)];go_simp;refine (HSt.out _ (HBr1.out.tab.tabm.tabs.steps.kept Qj)).mono ?_;rintro e x3 ⟨rfl,gx3⟩;refine hK.out _ _ (Qj.trans gx3) (fun _=>?_);replace Qj:=Qj.trans gx3;clear hK K;refine rT 14 49 (.bool true) rfl rfl Qj ?_;simp only [pA,pN,sZ,sU];refine wpAnyH_done (by kernel_rfl) ?_ _;have HK2:=Qh (HK1.out.trans Qj);have HBr2:=Qh (HBr1.out.kept Qj);have HM2:=Qh (MAt.kept HM1.out Qj);clear Qj gx1 gx2 gx3;go_wp2;go_ret;exact ⟨by rw [HV.out];rfl,HK2.out⟩
set_option maxHeartbeats 2000000 in
theorem bars_c (gk gc gb gp r g:Nat) (a b:Addr) (p:Ps) (hB:Brd p.B) (hr:pwI p=0) (m:Mv) (hg:goesM p m=true) (h1:(m.f == kingI p.B p.t)=true) (h2:decide (1<farI m.f m.t)=true) (hck:Qq p.B p.t=false) (hs:Jl p.B ((m.f+m.t) / 2) (1-p.t)=false) (w:World) (hBr:Bar w p gk gc gb gp r g a b) :
  Calls Tryz.prog 108 #[.agg (ml m).toArray,.pointer (some ⟨gk,0,none⟩),.pointer (some ⟨gc,0,none⟩),.pointer (some ⟨gb,0,none⟩),.pointer (some ⟨gp,0,none⟩)] w fun e w'=>e=.returned (.bool (barsB p m))∧Kept w w':=by
 have hok:=Ji hr hg;have ho:=Jz hok;have t01:=(Qt hr).1;obtain ⟨kn,hkn,ekn,_⟩:=king_of hr;have HM:=Qh (MAt.new w m);have HK0:=Qh ((Kept.refl w).alloc (.cells (ml m).toArray 28));have HBr:=Qh (hBr.kept HK0.out);have HLv:=Qh (fun w hT hR=>leaves_is r g a b p hB m hok (beh_brd hB hr hg) w hT hR);have HFar:Hid (∀ w,Calls Tryz.prog 109 #[.int .i64 m.f,.int .i64 m.t] w fun e w'=>e=.returned (.int .i64 (farI m.f m.t))∧Kept w w'):=fun w=>by have:=far_any m.f m.t w;unfold farA at this;rw [if_pos ⟨⟨ho.f0,ho.f1⟩,ho.t0,ho.t1⟩] at this;exact this
 have HIn:=Qh (fun w=>inl_is (kingI p.B p.t) m.f (by omega) (by omega) ho.f0 ho.f1 w);have HHf:=Qh (fun w=>half_is m ho w);have HOth:Hid (∀ w,Calls Tryz.prog 96 #[.int .i64 p.t] w fun e w'=>e=.returned (.int .i64 (1-p.t))∧Kept w w'):=fun w=>by have:=Ye p.t w;rw [Jt t01] at this;exact this
 have HSt:=Qh (fun w hS=>struck_is b p.B hB ((m.f+m.t) / 2) (1-p.t) w hS);have hpl:Hid (p.B.length=64):=hB.1;have HCh:=Qh hck
 have HV:Hid (barsB p m=Qq (behB p m) p.t):=by
  show _=_;unfold barsB farK askB;simp only [h1,h2,hck,hs]
  try simp
 clear hck;rw [hs] at HSt;clear hs;clear hB hr hg hBr hok ho t01 hkn ekn;go_enter Tryz.func108,Tryz.ntmps108;have cf:=HM.out.f;have ct:=HM.out.t;have ck:=HBr.out.kg;have cc:=HBr.out.ck;have cr:=HBr.out.rr;have ce:=HBr.out.pos.ep;rw [HCh.out] at cc;go_wp2_with fail
 refine (HFar.out _).mono ?_;rintro e w1 ⟨rfl,k1⟩;have HK1:=Qh (HK0.out.trans k1);have HBr1:=Qh (HBr.out.kept k1);have HM1:=Qh (MAt.kept HM.out k1);clear k1;clear cf ct ck cc cr ce;have cf:=HM1.out.f;have ct:=HM1.out.t;have ck:=HBr1.out.kg;have cc:=HBr1.out.ck;have cr:=HBr1.out.rr;have ce:=HBr1.out.pos.ep;rw [HCh.out] at cc;go_wp2;have HCc:=Qh cc;have HCr:=Qh cr;clear cf ct ck cc cr ce h1 h2;refine wp_region_held_drew (S:=Kept _) (by kernel_rfl) (Kept.refl _).drew (fun Qj=>?_);refine rC 0 35 (.bool false) rfl rfl (fun _ h=>Qa h (HCc.out)) Qj ?_;simp only [pA,pN,sZ,sU];refine rT 1 36 (.bool false) rfl rfl Qj ?_;simp only [pA,pN,sZ,sU];refine rC 2 37 (.pointer (some ⟨r,0,none⟩)) rfl rfl (fun _ h=>Qa h (HCr.out)) Qj ?_;simp only [pA,pN,sZ,sU];refine rT 3 38 (.pointer (some ⟨r,0,none⟩)) rfl rfl Qj ?_;simp only [pA,pN,sZ,sU];refine rT 4 39 (.pointer (some ⟨r,1,none⟩)) rfl rfl Qj ?_;simp only [pA,pN,sZ,sU];refine rC 5 40 (.pointer (some b)) rfl rfl (fun _ h=>Qa h (HBr1.out.ru.eye)) Qj ?_;simp only [pA,pN,sZ,sU];refine rT 6 41 (.pointer (some ⟨gp,0,none⟩)) rfl rfl Qj ?_;simp only [pA,pN,sZ,sU];refine rY 7 42 rfl rfl (Qp (by rfl) _ rfl _ rfl p hpl.out (fun _ h=>(HBr1.out.pos).kept h)) Qj ?_;simp only [pA,pN,sZ,sU];refine rY 8 43 rfl rfl (Qm (by rfl) _ rfl _ rfl m (fun _ h=>MAt.kept (HM1.out) h)) Qj ?_;simp only [pA,pN,sZ,sU];refine rT 10 45 (.pointer (some ⟨gp,64,none⟩)) rfl rfl Qj ?_;simp only [pA,pN,sZ,sU];refine rC 11 46 (.int .i64 p.t) rfl rfl (fun _ h=>Qa h (HBr1.out.pos.turn)) Qj ?_;simp only [pA,pN,sZ,sU];refine rR 9 rfl (fun K hK=>?_);rw [if_pos (by rfl)];go_simp;refine (HHf.out _).mono ?_;rintro e x1 ⟨rfl,gx1⟩;refine hK.out _ _ (Qj.trans gx1) (fun _=>?_);replace Qj:=Qj.trans gx1;clear hK K;refine rR 12 rfl (fun K hK=>?_);rw [if_pos (by rfl)];go_simp;refine (HOth.out _).mono ?_;rintro e x2 ⟨rfl,gx2⟩;refine hK.out _ _ (Qj.trans gx2) (fun _=>?_);replace Qj:=Qj.trans gx2;clear hK K;refine rR 13 rfl (fun K hK=>?_);rw [if_pos (by rfl)];go_simp;refine (HSt.out _ (HBr1.out.tab.tabm.tabs.steps.kept Qj)).mono ?_;rintro e x3 ⟨rfl,gx3⟩;refine hK.out _ _ (Qj.trans gx3) (fun _=>?_);replace Qj:=Qj.trans gx3;clear hK K;refine rT 14 49 (.bool false) rfl rfl Qj ?_;simp only [pA,pN,sZ,sU];refine wpAnyH_done (by kernel_rfl) ?_ _;have HK2:=Qh (HK1.out.trans Qj);have HBr2:=Qh (HBr1.out.kept Qj);have HM2:=Qh (MAt.kept HM1.out Qj);clear Qj gx1 gx2 gx3;have cf:=HM2.out.f;have ct:=HM2.out.t;have ck:=HBr2.out.kg;have cc:=HBr2.out.ck;have cr:=HBr2.out.rr;have ce:=HBr2.out.pos.ep;rw [HCh.out] at cc;go_wp2_with (first|(refine Qc (by rfl) _ rfl _ rfl _ (HBr2.out.pos) ?_)|(refine Qd (by rfl) _ rfl _ rfl _ (HBr2.out.pos) ?_)|(refine Qe (by rfl) _ rfl _ rfl _ (HM2.out) ?_))
 refine (HLv.out _ HBr2.out.tab HBr2.out.ru).mono ?_;rintro e w9 ⟨rfl,k9⟩;have HK9:=Qh (HK2.out.trans k9);clear k9 cf ct ck cc cr ce;go_wp2;go_ret;exact ⟨by rw [HV.out];rfl,HK9.out⟩
set_option maxHeartbeats 2000000 in
theorem bars_d (gk gc gb gp r g:Nat) (a b:Addr) (p:Ps) (hB:Brd p.B) (hr:pwI p=0) (m:Mv) (hg:goesM p m=true) (h1:(m.f == kingI p.B p.t)=true) (h2:decide (1<farI m.f m.t)=false) (w:World) (hBr:Bar w p gk gc gb gp r g a b) :
  Calls Tryz.prog 108 #[.agg (ml m).toArray,.pointer (some ⟨gk,0,none⟩),.pointer (some ⟨gc,0,none⟩),.pointer (some ⟨gb,0,none⟩),.pointer (some ⟨gp,0,none⟩)] w fun e w'=>e=.returned (.bool (barsB p m))∧Kept w w':=by
 have hok:=Ji hr hg;have ho:=Jz hok;have t01:=(Qt hr).1;obtain ⟨kn,hkn,ekn,_⟩:=king_of hr;have HM:=Qh (MAt.new w m);have HK0:=Qh ((Kept.refl w).alloc (.cells (ml m).toArray 28));have HBr:=Qh (hBr.kept HK0.out);have HLv:=Qh (fun w hT hR=>leaves_is r g a b p hB m hok (beh_brd hB hr hg) w hT hR);have HFar:Hid (∀ w,Calls Tryz.prog 109 #[.int .i64 m.f,.int .i64 m.t] w fun e w'=>e=.returned (.int .i64 (farI m.f m.t))∧Kept w w'):=fun w=>by have:=far_any m.f m.t w;unfold farA at this;rw [if_pos ⟨⟨ho.f0,ho.f1⟩,ho.t0,ho.t1⟩] at this;exact this
 have HIn:=Qh (fun w=>inl_is (kingI p.B p.t) m.f (by omega) (by omega) ho.f0 ho.f1 w);have HHf:=Qh (fun w=>half_is m ho w);have HOth:Hid (∀ w,Calls Tryz.prog 96 #[.int .i64 p.t] w fun e w'=>e=.returned (.int .i64 (1-p.t))∧Kept w w'):=fun w=>by have:=Ye p.t w;rw [Jt t01] at this;exact this
 have HSt:=Qh (fun w hS=>struck_is b p.B hB ((m.f+m.t) / 2) (1-p.t) w hS);have hpl:Hid (p.B.length=64):=hB.1
 cases hck:Qq p.B p.t
 all_goals
  have HCh:=Qh hck
  have HV:Hid (barsB p m=Qq (behB p m) p.t):=by
   show _=_;unfold barsB farK askB;simp only [h1,h2,hck]
   try simp
  clear hck;clear hB hr hg hBr hok ho t01 hkn ekn;go_enter Tryz.func108,Tryz.ntmps108;have cf:=HM.out.f;have ct:=HM.out.t;have ck:=HBr.out.kg;have cc:=HBr.out.ck;have cr:=HBr.out.rr;have ce:=HBr.out.pos.ep;rw [HCh.out] at cc;go_wp2_with fail
  refine (HFar.out _).mono ?_;rintro e w1 ⟨rfl,k1⟩;have HK1:=Qh (HK0.out.trans k1);have HBr1:=Qh (HBr.out.kept k1);have HM1:=Qh (MAt.kept HM.out k1);clear k1;clear cf ct ck cc cr ce;have cf:=HM1.out.f;have ct:=HM1.out.t;have ck:=HBr1.out.kg;have cc:=HBr1.out.ck;have cr:=HBr1.out.rr;have ce:=HBr1.out.pos.ep;rw [HCh.out] at cc;go_wp2_with (first|(refine Qc (by rfl) _ rfl _ rfl _ (HBr1.out.pos) ?_)|(refine Qd (by rfl) _ rfl _ rfl _ (HBr1.out.pos) ?_)|(refine Qe (by rfl) _ rfl _ rfl _ (HM1.out) ?_))
  refine (HLv.out _ HBr1.out.tab HBr1.out.ru).mono ?_;rintro e w9 ⟨rfl,k9⟩;have HK9:=Qh (HK1.out.trans k9);clear k9 cf ct ck cc cr ce;go_wp2;go_ret;exact ⟨by rw [HV.out];rfl,HK9.out⟩
set_option maxHeartbeats 2000000 in
theorem bars_e (gk gc gb gp r g:Nat) (a b:Addr) (p:Ps) (hB:Brd p.B) (hr:pwI p=0) (m:Mv) (hg:goesM p m=true) (h1:(m.f == kingI p.B p.t)=false) (hck:Qq p.B p.t=true) (w:World) (hBr:Bar w p gk gc gb gp r g a b) :
  Calls Tryz.prog 108 #[.agg (ml m).toArray,.pointer (some ⟨gk,0,none⟩),.pointer (some ⟨gc,0,none⟩),.pointer (some ⟨gb,0,none⟩),.pointer (some ⟨gp,0,none⟩)] w fun e w'=>e=.returned (.bool (barsB p m))∧Kept w w':=by
 have hok:=Ji hr hg;have ho:=Jz hok;have t01:=(Qt hr).1;obtain ⟨kn,hkn,ekn,_⟩:=king_of hr;have HM:=Qh (MAt.new w m);have HK0:=Qh ((Kept.refl w).alloc (.cells (ml m).toArray 28));have HBr:=Qh (hBr.kept HK0.out);have HLv:=Qh (fun w hT hR=>leaves_is r g a b p hB m hok (beh_brd hB hr hg) w hT hR);have HFar:Hid (∀ w,Calls Tryz.prog 109 #[.int .i64 m.f,.int .i64 m.t] w fun e w'=>e=.returned (.int .i64 (farI m.f m.t))∧Kept w w'):=fun w=>by have:=far_any m.f m.t w;unfold farA at this;rw [if_pos ⟨⟨ho.f0,ho.f1⟩,ho.t0,ho.t1⟩] at this;exact this
 have HIn:=Qh (fun w=>inl_is (kingI p.B p.t) m.f (by omega) (by omega) ho.f0 ho.f1 w);have HHf:=Qh (fun w=>half_is m ho w);have HOth:Hid (∀ w,Calls Tryz.prog 96 #[.int .i64 p.t] w fun e w'=>e=.returned (.int .i64 (1-p.t))∧Kept w w'):=fun w=>by have:=Ye p.t w;rw [Jt t01] at this;exact this
 have HSt:=Qh (fun w hS=>struck_is b p.B hB ((m.f+m.t) / 2) (1-p.t) w hS);have hpl:Hid (p.B.length=64):=hB.1;have HCh:=Qh hck
 have HV:Hid (barsB p m=Qq (behB p m) p.t):=by
  show _=_;unfold barsB farK askB;simp only [h1,hck]
  try simp
 clear hck;clear hB hr hg hBr hok ho t01 hkn ekn;go_enter Tryz.func108,Tryz.ntmps108;have cf:=HM.out.f;have ct:=HM.out.t;have ck:=HBr.out.kg;have cc:=HBr.out.ck;have cr:=HBr.out.rr;have ce:=HBr.out.pos.ep;rw [HCh.out] at cc;go_wp2_with (first|(refine Qc (by rfl) _ rfl _ rfl _ (HBr.out.pos) ?_)|(refine Qd (by rfl) _ rfl _ rfl _ (HBr.out.pos) ?_)|(refine Qe (by rfl) _ rfl _ rfl _ (HM.out) ?_))
 refine (HLv.out _ HBr.out.tab HBr.out.ru).mono ?_;rintro e w9 ⟨rfl,k9⟩;have HK9:=Qh (HK0.out.trans k9);clear k9 cf ct ck cc cr ce;go_wp2;go_ret;exact ⟨by rw [HV.out];rfl,HK9.out⟩
set_option maxHeartbeats 2000000 in
theorem bars_f (gk gc gb gp r g:Nat) (a b:Addr) (p:Ps) (hB:Brd p.B) (hr:pwI p=0) (m:Mv) (hg:goesM p m=true) (h1:(m.f == kingI p.B p.t)=false) (hck:Qq p.B p.t=false) (h3:(m.t == p.e)=true) (w:World) (hBr:Bar w p gk gc gb gp r g a b) :
  Calls Tryz.prog 108 #[.agg (ml m).toArray,.pointer (some ⟨gk,0,none⟩),.pointer (some ⟨gc,0,none⟩),.pointer (some ⟨gb,0,none⟩),.pointer (some ⟨gp,0,none⟩)] w fun e w'=>e=.returned (.bool (barsB p m))∧Kept w w':=by
 have hok:=Ji hr hg;have ho:=Jz hok;have t01:=(Qt hr).1;obtain ⟨kn,hkn,ekn,_⟩:=king_of hr;have HM:=Qh (MAt.new w m);have HK0:=Qh ((Kept.refl w).alloc (.cells (ml m).toArray 28));have HBr:=Qh (hBr.kept HK0.out);have HLv:=Qh (fun w hT hR=>leaves_is r g a b p hB m hok (beh_brd hB hr hg) w hT hR);have HFar:Hid (∀ w,Calls Tryz.prog 109 #[.int .i64 m.f,.int .i64 m.t] w fun e w'=>e=.returned (.int .i64 (farI m.f m.t))∧Kept w w'):=fun w=>by have:=far_any m.f m.t w;unfold farA at this;rw [if_pos ⟨⟨ho.f0,ho.f1⟩,ho.t0,ho.t1⟩] at this;exact this
 have HIn:=Qh (fun w=>inl_is (kingI p.B p.t) m.f (by omega) (by omega) ho.f0 ho.f1 w);have HHf:=Qh (fun w=>half_is m ho w);have HOth:Hid (∀ w,Calls Tryz.prog 96 #[.int .i64 p.t] w fun e w'=>e=.returned (.int .i64 (1-p.t))∧Kept w w'):=fun w=>by have:=Ye p.t w;rw [Jt t01] at this;exact this
 have HSt:=Qh (fun w hS=>struck_is b p.B hB ((m.f+m.t) / 2) (1-p.t) w hS);have hpl:Hid (p.B.length=64):=hB.1;have HCh:=Qh hck
 have HV:Hid (barsB p m=Qq (behB p m) p.t):=by
  show _=_;unfold barsB farK askB;simp only [h1,hck,h3]
  try simp
 clear hck;clear hB hr hg hBr hok ho t01 hkn ekn;go_enter Tryz.func108,Tryz.ntmps108;have cf:=HM.out.f;have ct:=HM.out.t;have ck:=HBr.out.kg;have cc:=HBr.out.ck;have cr:=HBr.out.rr;have ce:=HBr.out.pos.ep;rw [HCh.out] at cc;go_wp2_with (first|(refine Qc (by rfl) _ rfl _ rfl _ (HBr.out.pos) ?_)|(refine Qd (by rfl) _ rfl _ rfl _ (HBr.out.pos) ?_)|(refine Qe (by rfl) _ rfl _ rfl _ (HM.out) ?_))
 refine (HLv.out _ HBr.out.tab HBr.out.ru).mono ?_;rintro e w9 ⟨rfl,k9⟩;have HK9:=Qh (HK0.out.trans k9);clear k9 cf ct ck cc cr ce;go_wp2;go_ret;exact ⟨by rw [HV.out];rfl,HK9.out⟩
set_option maxHeartbeats 2000000 in
theorem bars_g (gk gc gb gp r g:Nat) (a b:Addr) (p:Ps) (hB:Brd p.B) (hr:pwI p=0) (m:Mv) (hg:goesM p m=true) (h1:(m.f == kingI p.B p.t)=false) (hck:Qq p.B p.t=false) (h3:(m.t == p.e)=false) (h4:inL (kingI p.B p.t) m.f=true) (w:World) (hBr:Bar w p gk gc gb gp r g a b) :
  Calls Tryz.prog 108 #[.agg (ml m).toArray,.pointer (some ⟨gk,0,none⟩),.pointer (some ⟨gc,0,none⟩),.pointer (some ⟨gb,0,none⟩),.pointer (some ⟨gp,0,none⟩)] w fun e w'=>e=.returned (.bool (barsB p m))∧Kept w w':=by
 have hok:=Ji hr hg;have ho:=Jz hok;have t01:=(Qt hr).1;obtain ⟨kn,hkn,ekn,_⟩:=king_of hr;have HM:=Qh (MAt.new w m);have HK0:=Qh ((Kept.refl w).alloc (.cells (ml m).toArray 28));have HBr:=Qh (hBr.kept HK0.out);have HLv:=Qh (fun w hT hR=>leaves_is r g a b p hB m hok (beh_brd hB hr hg) w hT hR);have HFar:Hid (∀ w,Calls Tryz.prog 109 #[.int .i64 m.f,.int .i64 m.t] w fun e w'=>e=.returned (.int .i64 (farI m.f m.t))∧Kept w w'):=fun w=>by have:=far_any m.f m.t w;unfold farA at this;rw [if_pos ⟨⟨ho.f0,ho.f1⟩,ho.t0,ho.t1⟩] at this;exact this
 have HIn:=Qh (fun w=>inl_is (kingI p.B p.t) m.f (by omega) (by omega) ho.f0 ho.f1 w);have HHf:=Qh (fun w=>half_is m ho w);have HOth:Hid (∀ w,Calls Tryz.prog 96 #[.int .i64 p.t] w fun e w'=>e=.returned (.int .i64 (1-p.t))∧Kept w w'):=fun w=>by have:=Ye p.t w;rw [Jt t01] at this;exact this
 have HSt:=Qh (fun w hS=>struck_is b p.B hB ((m.f+m.t) / 2) (1-p.t) w hS);have hpl:Hid (p.B.length=64):=hB.1;have HCh:=Qh hck
 have HV:Hid (barsB p m=Qq (behB p m) p.t):=by
  show _=_;unfold barsB farK askB;simp only [h1,hck,h3,h4]
  try simp
 clear hck;rw [h4] at HIn;clear h4;clear hB hr hg hBr hok ho t01 hkn ekn;go_enter Tryz.func108,Tryz.ntmps108;have cf:=HM.out.f;have ct:=HM.out.t;have ck:=HBr.out.kg;have cc:=HBr.out.ck;have cr:=HBr.out.rr;have ce:=HBr.out.pos.ep;rw [HCh.out] at cc;go_wp2_with fail
 refine (HIn.out _).mono ?_;rintro e w1 ⟨rfl,k1⟩;have HK1:=Qh (HK0.out.trans k1);have HBr1:=Qh (HBr.out.kept k1);have HM1:=Qh (MAt.kept HM.out k1);clear k1;clear cf ct ck cc cr ce;have cf:=HM1.out.f;have ct:=HM1.out.t;have ck:=HBr1.out.kg;have cc:=HBr1.out.ck;have cr:=HBr1.out.rr;have ce:=HBr1.out.pos.ep;rw [HCh.out] at cc;go_wp2_with (first|(refine Qc (by rfl) _ rfl _ rfl _ (HBr1.out.pos) ?_)|(refine Qd (by rfl) _ rfl _ rfl _ (HBr1.out.pos) ?_)|(refine Qe (by rfl) _ rfl _ rfl _ (HM1.out) ?_))
 refine (HLv.out _ HBr1.out.tab HBr1.out.ru).mono ?_;rintro e w9 ⟨rfl,k9⟩;have HK9:=Qh (HK1.out.trans k9);clear k9 cf ct ck cc cr ce;go_wp2;go_ret;exact ⟨by rw [HV.out];rfl,HK9.out⟩
set_option maxHeartbeats 2000000 in
theorem bars_h (gk gc gb gp r g:Nat) (a b:Addr) (p:Ps) (hB:Brd p.B) (hr:pwI p=0) (m:Mv) (hg:goesM p m=true) (h1:(m.f == kingI p.B p.t)=false) (hck:Qq p.B p.t=false) (h3:(m.t == p.e)=false) (h4:inL (kingI p.B p.t) m.f=false) (w:World) (hBr:Bar w p gk gc gb gp r g a b) :
  Calls Tryz.prog 108 #[.agg (ml m).toArray,.pointer (some ⟨gk,0,none⟩),.pointer (some ⟨gc,0,none⟩),.pointer (some ⟨gb,0,none⟩),.pointer (some ⟨gp,0,none⟩)] w fun e w'=>e=.returned (.bool (barsB p m))∧Kept w w':=by
 have hok:=Ji hr hg;have ho:=Jz hok;have t01:=(Qt hr).1;obtain ⟨kn,hkn,ekn,_⟩:=king_of hr;have HM:=Qh (MAt.new w m);have HK0:=Qh ((Kept.refl w).alloc (.cells (ml m).toArray 28));have HBr:=Qh (hBr.kept HK0.out);have HLv:=Qh (fun w hT hR=>leaves_is r g a b p hB m hok (beh_brd hB hr hg) w hT hR);have HFar:Hid (∀ w,Calls Tryz.prog 109 #[.int .i64 m.f,.int .i64 m.t] w fun e w'=>e=.returned (.int .i64 (farI m.f m.t))∧Kept w w'):=fun w=>by have:=far_any m.f m.t w;unfold farA at this;rw [if_pos ⟨⟨ho.f0,ho.f1⟩,ho.t0,ho.t1⟩] at this;exact this
 have HIn:=Qh (fun w=>inl_is (kingI p.B p.t) m.f (by omega) (by omega) ho.f0 ho.f1 w);have HHf:=Qh (fun w=>half_is m ho w);have HOth:Hid (∀ w,Calls Tryz.prog 96 #[.int .i64 p.t] w fun e w'=>e=.returned (.int .i64 (1-p.t))∧Kept w w'):=fun w=>by have:=Ye p.t w;rw [Jt t01] at this;exact this
 have HSt:=Qh (fun w hS=>struck_is b p.B hB ((m.f+m.t) / 2) (1-p.t) w hS);have hpl:Hid (p.B.length=64):=hB.1;have HCh:=Qh hck
 have HV:Hid (barsB p m=false):=by
  show _=_;unfold barsB farK askB;simp only [h1,hck,h3,h4]
  try simp
 clear hck;rw [h4] at HIn;clear h4;clear hB hr hg hBr hok ho t01 hkn ekn;go_enter Tryz.func108,Tryz.ntmps108;have cf:=HM.out.f;have ct:=HM.out.t;have ck:=HBr.out.kg;have cc:=HBr.out.ck;have cr:=HBr.out.rr;have ce:=HBr.out.pos.ep;rw [HCh.out] at cc;go_wp2_with fail
 refine (HIn.out _).mono ?_;rintro e w1 ⟨rfl,k1⟩;have HK1:=Qh (HK0.out.trans k1);have HBr1:=Qh (HBr.out.kept k1);have HM1:=Qh (MAt.kept HM.out k1);clear k1;clear cf ct ck cc cr ce;go_wp2;go_ret;exact ⟨by rw [HV.out];rfl,HK1.out⟩
theorem bars1_is (gk gc gb gp r g:Nat) (a b:Addr) (p:Ps) (hB:Brd p.B) (hr:pwI p=0) (m:Mv) (hg:goesM p m=true) (w:World) (hBr:Bar w p gk gc gb gp r g a b) :
  Calls Tryz.prog 108 (#[.agg (ml m).toArray]++barV gk gc gb gp) w fun e w'=>e=.returned (.bool (barsB p m))∧Kept w w':=by
 show Calls Tryz.prog 108 #[.agg (ml m).toArray,.pointer (some ⟨gk,0,none⟩),.pointer (some ⟨gc,0,none⟩),.pointer (some ⟨gb,0,none⟩),.pointer (some ⟨gp,0,none⟩)] w _
 cases h1:(m.f == kingI p.B p.t)
 ·cases hck:Qq p.B p.t
  ·cases h3:(m.t == p.e)
   ·cases h4:inL (kingI p.B p.t) m.f
    ·exact bars_h gk gc gb gp r g a b p hB hr m hg h1 hck h3 h4 w hBr
    ·exact bars_g gk gc gb gp r g a b p hB hr m hg h1 hck h3 h4 w hBr
   ·exact bars_f gk gc gb gp r g a b p hB hr m hg h1 hck h3 w hBr
  ·exact bars_e gk gc gb gp r g a b p hB hr m hg h1 hck w hBr
 ·cases h2:decide (1<farI m.f m.t)
  ·exact bars_d gk gc gb gp r g a b p hB hr m hg h1 h2 w hBr
  ·cases hck:Qq p.B p.t
   ·cases hs:Jl p.B ((m.f+m.t) / 2) (1-p.t)
    ·exact bars_c gk gc gb gp r g a b p hB hr m hg h1 h2 hck hs w hBr
    ·exact bars_b gk gc gb gp r g a b p hB hr m hg h1 h2 hck hs w hBr
   ·exact bars_a gk gc gb gp r g a b p hB hr m hg h1 h2 hck w hBr
end Go.Proofs.YtlpeiolgcaddjaaGreatDoor
