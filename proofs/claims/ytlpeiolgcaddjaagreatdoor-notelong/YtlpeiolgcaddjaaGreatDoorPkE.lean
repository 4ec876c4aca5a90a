/- PoD · PoE · PoF: my texts, in their order. -/
import Derived.Test.YtlpeiolgcaddjaaGreatDoorPkD
namespace Go.Proofs.YtlpeiolgcaddjaaGreatDoor
open Go.RowKit
set_option linter.unusedVariables false
set_option linter.unusedSimpArgs false
def Jb (p:Ps):Bool:=decide (p.t=0∨p.t=1) && decide (0≤p.c∧p.c≤15) && decide (-1≤p.e∧p.e≤63)
theorem Yn (p:Ps):Jb p=true↔(p.t=0∨p.t=1)∧(0≤p.c∧p.c≤15)∧(-1≤p.e∧p.e≤63):=by simp [Jb,and_assoc]
theorem within_t (p:Ps) (hB:Brd p.B) (h0:p.t≠0) (h1:p.t≠1) (w:World) :
  Calls Tryz.prog 86 #[.agg (pl p).toArray] w fun e w'=>e=.returned (.bool false)∧Kept w w':=by
 have HP:=Qh (PAt.new w hB.1);have HO:=Qh (Ye p.t);have ct:=HP.out.turn;have ho:¬ 0≤Qw p.t:=by unfold Qw;rw [if_neg h0,if_neg h1];decide
 generalize Qw p.t=o at *;clear hB;go_enter Tryz.func86,Tryz.ntmps86;go_wp2_with fail
 refine (HO.out _).mono ?_;rintro e w1 ⟨rfl,k1⟩;have HK1:=Qh (((Kept.refl w).alloc _).trans k1);have HP1:=Qh (HP.out.kept k1);have cc:=HP1.out.cas;have ce:=HP1.out.ep;clear k1 ct;go_wp2;go_ret;exact ⟨rfl,HK1.out⟩
theorem within_c0 (p:Ps) (hB:Brd p.B) (ht:p.t=0∨p.t=1) (hc:p.c<0) (w:World) :
  Calls Tryz.prog 86 #[.agg (pl p).toArray] w fun e w'=>e=.returned (.bool false)∧Kept w w':=by
 have HP:=Qh (PAt.new w hB.1);have HO:=Qh (Ye p.t);have ct:=HP.out.turn;have ho:¬ Qw p.t<0:=by unfold Qw;rcases ht with h|h <;> rw [h] <;> decide
 have ho':0≤Qw p.t:=by omega
 clear ho ht;generalize Qw p.t=o at *;have hc1:¬ 0≤p.c:=by omega
 clear hB;go_enter Tryz.func86,Tryz.ntmps86;go_wp2_with fail
 refine (HO.out _).mono ?_;rintro e w1 ⟨rfl,k1⟩;have HK1:=Qh (((Kept.refl w).alloc _).trans k1);have HP1:=Qh (HP.out.kept k1);have cc:=HP1.out.cas;have ce:=HP1.out.ep;clear k1 ct;go_wp2;go_ret;exact ⟨rfl,HK1.out⟩
theorem within_c1 (p:Ps) (hB:Brd p.B) (ht:p.t=0∨p.t=1) (hc:15<p.c) (w:World) :
  Calls Tryz.prog 86 #[.agg (pl p).toArray] w fun e w'=>e=.returned (.bool false)∧Kept w w':=by
 have HP:=Qh (PAt.new w hB.1);have HO:=Qh (Ye p.t);have ct:=HP.out.turn;have ho:¬ Qw p.t<0:=by unfold Qw;rcases ht with h|h <;> rw [h] <;> decide
 have ho':0≤Qw p.t:=by omega
 clear ho ht;generalize Qw p.t=o at *;have hc1:0≤p.c:=by omega
 have hc2:¬ p.c≤15:=by omega
 clear hB;go_enter Tryz.func86,Tryz.ntmps86;go_wp2_with fail
 refine (HO.out _).mono ?_;rintro e w1 ⟨rfl,k1⟩;have HK1:=Qh (((Kept.refl w).alloc _).trans k1);have HP1:=Qh (HP.out.kept k1);have cc:=HP1.out.cas;have ce:=HP1.out.ep;clear k1 ct;go_wp2;go_ret;exact ⟨rfl,HK1.out⟩
theorem within_e (p:Ps) (hB:Brd p.B) (ht:p.t=0∨p.t=1) (hc0:0≤p.c) (hc1:p.c≤15) (he:p.e=-1) (w:World) :
  Calls Tryz.prog 86 #[.agg (pl p).toArray] w fun e w'=>e=.returned (.bool true)∧Kept w w':=by
 have HP:=Qh (PAt.new w hB.1);have HO:=Qh (Ye p.t);have ct:=HP.out.turn;have ho:¬ Qw p.t<0:=by unfold Qw;rcases ht with h|h <;> rw [h] <;> decide
 have ho':0≤Qw p.t:=by omega
 clear ho ht;generalize Qw p.t=o at *;have he1:(p.e == -1)=true:=beq_iff_eq.2 he;clear he;clear hB;go_enter Tryz.func86,Tryz.ntmps86;go_wp2_with fail
 refine (HO.out _).mono ?_;rintro e w1 ⟨rfl,k1⟩;have HK1:=Qh (((Kept.refl w).alloc _).trans k1);have HP1:=Qh (HP.out.kept k1);have cc:=HP1.out.cas;have ce:=HP1.out.ep;clear k1 ct;go_wp2;go_ret;exact ⟨rfl,HK1.out⟩
theorem within_yes (p:Ps) (hB:Brd p.B) (ht:p.t=0∨p.t=1) (hc0:0≤p.c) (hc1:p.c≤15) (he0:0≤p.e) (he2:p.e<64) (w:World) :
  Calls Tryz.prog 86 #[.agg (pl p).toArray] w fun e w'=>e=.returned (.bool true)∧Kept w w':=by
 have HP:=Qh (PAt.new w hB.1);have HO:=Qh (Ye p.t);have ct:=HP.out.turn;have ho:¬ Qw p.t<0:=by unfold Qw;rcases ht with h|h <;> rw [h] <;> decide
 have ho':0≤Qw p.t:=by omega
 clear ho ht;generalize Qw p.t=o at *;have he1:(p.e == -1)=false:=beq_eq_false_iff_ne.2 (by omega);clear hB;go_enter Tryz.func86,Tryz.ntmps86;go_wp2_with fail
 refine (HO.out _).mono ?_;rintro e w1 ⟨rfl,k1⟩;have HK1:=Qh (((Kept.refl w).alloc _).trans k1);have HP1:=Qh (HP.out.kept k1);have cc:=HP1.out.cas;have ce:=HP1.out.ep;clear k1 ct;go_wp2_with fail
 refine (Qaf _ _ he0 he2).mono ?_;rintro e w' ⟨rfl,rfl⟩;go_wp2;go_ret;exact ⟨rfl,HK1.out⟩
theorem within_no (p:Ps) (hB:Brd p.B) (ht:p.t=0∨p.t=1) (hc0:0≤p.c) (hc1:p.c≤15) (he:p.e < -1∨64≤p.e) (w:World) :
  Calls Tryz.prog 86 #[.agg (pl p).toArray] w fun e w'=>e=.returned (.bool false)∧Kept w w':=by
 have HP:=Qh (PAt.new w hB.1);have HO:=Qh (Ye p.t);have ct:=HP.out.turn;have ho:¬ Qw p.t<0:=by unfold Qw;rcases ht with h|h <;> rw [h] <;> decide
 have ho':0≤Qw p.t:=by omega
 clear ho ht;generalize Qw p.t=o at *;have he1:(p.e == -1)=false:=beq_eq_false_iff_ne.2 (by omega);have HE:Hid (p.e<0∨64≤p.e):=by show _∨_;omega
 clear he;clear hB;go_enter Tryz.func86,Tryz.ntmps86;go_wp2_with fail
 refine (HO.out _).mono ?_;rintro e w1 ⟨rfl,k1⟩;have HK1:=Qh (((Kept.refl w).alloc _).trans k1);have HP1:=Qh (HP.out.kept k1);have cc:=HP1.out.cas;have ce:=HP1.out.ep;clear k1 ct;go_wp2_with fail
 refine (right_no _ _ HE.out).mono ?_;rintro e w' ⟨rfl,rfl⟩;go_wp2;go_ret;exact ⟨rfl,HK1.out⟩
theorem within_is (p:Ps) (hB:Brd p.B) (w:World) :
  Calls Tryz.prog 86 #[.agg (pl p).toArray] w fun e w'=>e=.returned (.bool (Jb p))∧Kept w w':=by
 have no:(¬ ((p.t=0∨p.t=1)∧(0≤p.c∧p.c≤15)∧(-1≤p.e∧p.e≤63)))→Jb p=false:=fun h=>by
  rw [← Bool.not_eq_true,Yn];exact h
 by_cases ht:p.t=0∨p.t=1
 ·by_cases h0:p.c<0
  ·rw [no (by omega)];exact within_c0 p hB ht h0 w
  ·by_cases h1:15<p.c
   ·rw [no (by omega)];exact within_c1 p hB ht h1 w
   ·by_cases he:p.e=-1
    ·rw [(Yn p).2 (by omega)];exact within_e p hB ht (by omega) (by omega) he w
    ·by_cases h2:0≤p.e∧p.e<64
     ·rw [(Yn p).2 (by omega)];exact within_yes p hB ht (by omega) (by omega) h2.1 h2.2 w
     ·rw [no (by omega)];exact within_no p hB ht (by omega) (by omega) (by omega) w
 ·rw [no (fun h=>ht h.1)];exact within_t p hB (fun h=>ht (.inl h)) (fun h=>ht (.inr h)) w
def farA (a b:Int):Int:=if (0≤a∧a<64)∧0≤b∧b<64 then farI a b else -1
theorem far_any (a b:Int) (w:World):Calls Tryz.prog 109 #[.int .i64 a,.int .i64 b] w fun e w'=>e=.returned (.int .i64 (farA a b))∧Kept w w':=by
 unfold farA;by_cases h:(0≤a∧a<64)∧0≤b∧b<64
 ·rw [if_pos h];exact (far_yes a b w h.1.1 h.1.2 h.2.1 h.2.2).mono fun _ _ ⟨x,y⟩=>⟨x,y ▸ Kept.refl _⟩
 ·rw [if_neg h];exact (far_no a b w (by omega)).mono fun _ _ ⟨x,y⟩=>⟨x,y ▸ Kept.refl _⟩
theorem rfar_any (a b:Int) (w:World):Calls Tryz.prog 31 #[.int .i64 a,.int .i64 b] w fun e w'=>e=.returned (.int .i64 (farA a b))∧Kept w w':=by
 unfold farA;by_cases h:(0≤a∧a<64)∧0≤b∧b<64
 ·rw [if_pos h];exact (rfar_yes a b w h.1.1 h.1.2 h.2.1 h.2.2).mono fun _ _ ⟨x,y⟩=>⟨x,y ▸ Kept.refl _⟩
 ·rw [if_neg h];exact (rfar_no a b w (by omega)).mono fun _ _ ⟨x,y⟩=>⟨x,y ▸ Kept.refl _⟩
def Qae (p:Ps):Bool:=(farA (kingI p.B 0) (kingI p.B 1) == 1) || Qq p.B (Qw p.t)
set_option maxRecDepth 100000 in
set_option maxHeartbeats 2000000 in
theorem touches_is (p:Ps) (hB:Brd p.B) (w:World) (hT:Tabs w) :
  Calls Tryz.prog 87 #[.agg (pl p).toArray] w fun e w'=>e=.returned (.bool (Qae p))∧Kept w w':=by
 have HP:=Qh (PAt.new w hB.1);have HB:=Qh hB;have HT:=Qh (hT.kept ((Kept.refl w).alloc (.cells (pl p).toArray 26)));have HK0:=Qh (king_any p.B hB 0);have HK1:=Qh (king_any p.B hB 1);have HF:=Qh (far_any (kingI p.B 0) (kingI p.B 1));have HV:Hid (Qae p=((farA (kingI p.B 0) (kingI p.B 1) == 1) || Qq p.B (Qw p.t))):=by rfl
 have HC:=Qh (fun a w hS=>check_is a p.B hB (Qw p.t) w hS);have HO:=Qh (Ye p.t);clear hB hT;generalize farA (kingI p.B 0) (kingI p.B 1)=F at *;generalize Qq p.B (Qw p.t)=cb at *;generalize kingI p.B 0=K0 at *;generalize kingI p.B 1=K1 at *;generalize Qw p.t=o at *;go_enter Tryz.func87,Tryz.ntmps87;go_wp2;refine wp_region_held_drew (S:=Kept _) (by kernel_rfl) (Kept.refl _).drew (fun Qj=>?_);refine rT 0 4 (.pointer (some ⟨w.heap.size,0,none⟩)) rfl rfl Qj ?_;simp only [pA,pN,sZ,sU];refine rY 1 5 rfl rfl (Qp (by rfl) _ rfl _ rfl p HB.out.1 (fun _ h=>(HP.out).kept h)) Qj ?_;simp only [pA,pN,sZ,sU];refine rT 3 7 (.pointer (some ⟨w.heap.size,0,none⟩)) rfl rfl Qj ?_;simp only [pA,pN,sZ,sU];refine rY 4 8 rfl rfl (Qp (by rfl) _ rfl _ rfl p HB.out.1 (fun _ h=>(HP.out).kept h)) Qj ?_;simp only [pA,pN,sZ,sU];refine rR 2 rfl (fun K hK=>?_);go_simp;refine (HK0.out _).mono ?_;rintro e w1 ⟨rfl,gw1⟩;refine hK.out _ _ (Qj.trans gw1) (fun _=>?_);replace Qj:=Qj.trans gw1;clear hK K;refine rR 5 rfl (fun K hK=>?_);go_simp;refine (HK1.out _).mono ?_;rintro e w2 ⟨rfl,gw2⟩;refine hK.out _ _ (Qj.trans gw2) (fun _=>?_);replace Qj:=Qj.trans gw2;clear hK K;refine rR 6 rfl (fun K hK=>?_);go_simp;refine (HF.out _).mono ?_;rintro e w3 ⟨rfl,gw3⟩;refine hK.out _ _ (Qj.trans gw3) (fun _=>?_);replace Qj:=Qj.trans gw3;clear hK K;refine rT 7 3 (.int .i64 F) rfl rfl Qj ?_;simp only [pA,pN,sZ,sU];refine wpAnyH_done (by kernel_rfl) ?_ _;have HA:=Qh Qj;have HP3:=Qh (HP.out.kept Qj);have HT3:=Qh (HT.out.kept Qj);clear Qj gw1 gw2 gw3
 cases hf:(F == 1)
 ·rw [hf,Bool.false_or] at HV
  go_wp2;refine wp_region_held_drew (S:=Kept _) (by kernel_rfl) (Kept.refl _).drew (fun Qj=>?_);refine rT 0 11 (.int .i64 F) rfl rfl Qj ?_;simp only [pA,pN,sZ,sU];refine rT 1 12 (.bool false) rfl rfl Qj ?_;simp only [pA,pN,sZ,sU];refine rT 2 13 (.bool false) rfl rfl Qj ?_;simp only [pA,pN,sZ,sU];refine rT 4 15 (.pointer (some ⟨w.heap.size,0,none⟩)) rfl rfl Qj ?_;simp only [pA,pN,sZ,sU];refine rY 5 16 rfl rfl (Qp (by rfl) _ rfl _ rfl p HB.out.1 (fun _ h=>(HP3.out).kept h)) Qj ?_;simp only [pA,pN,sZ,sU];refine rT 6 17 (.pointer (some ⟨w.heap.size,64,none⟩)) rfl rfl Qj ?_;simp only [pA,pN,sZ,sU];refine rC 7 18 (.int .i64 p.t) rfl rfl (fun _ h=>Qa h (HP3.out.turn)) Qj ?_;simp only [pA,pN,sZ,sU];refine rR 3 rfl (fun K hK=>?_);go_simp;refine (new_is _).mono ?_;rintro e w4 ⟨⟨ea,rfl⟩,gw4⟩;refine hK.out _ _ (Qj.trans gw4) (fun _=>?_);replace Qj:=Qj.trans gw4;clear hK K;refine rR 8 rfl (fun K hK=>?_);go_simp;refine (HO.out _).mono ?_;rintro e w5 ⟨rfl,gw5⟩;refine hK.out _ _ (Qj.trans gw5) (fun _=>?_);replace Qj:=Qj.trans gw5;clear hK K;refine rR 9 rfl (fun K hK=>?_);go_simp;refine (HC.out ea _ (HT3.out.steps.kept Qj)).mono ?_;rintro e w6 ⟨rfl,gw6⟩;refine hK.out _ _ (Qj.trans gw6) (fun _=>?_);replace Qj:=Qj.trans gw6;clear hK K;refine rT 10 21 (.bool cb) rfl rfl Qj ?_;simp only [pA,pN,sZ,sU];refine rT 11 2 (.bool cb) rfl rfl Qj ?_;simp only [pA,pN,sZ,sU];refine wpAnyH_done (by kernel_rfl) ?_ _;go_wp2;go_ret;exact ⟨by rw [HV.out];rfl,(((Kept.refl _).alloc _).trans HA.out).trans Qj⟩
 ·rw [hf,Bool.true_or] at HV
  go_wp2;refine wp_region_held_drew (S:=Kept _) (by kernel_rfl) (Kept.refl _).drew (fun Qj=>?_);refine rT 0 11 (.int .i64 F) rfl rfl Qj ?_;simp only [pA,pN,sZ,sU];refine rT 1 12 (.bool true) rfl rfl Qj ?_;simp only [pA,pN,sZ,sU];refine rT 2 13 (.bool true) rfl rfl Qj ?_;simp only [pA,pN,sZ,sU];refine rN 3 14 rfl rfl Qj ?_;simp only [pA,pN,sZ,sU];refine rN 4 15 rfl rfl Qj ?_;simp only [pA,pN,sZ,sU];refine rN 5 16 rfl rfl Qj ?_;simp only [pA,pN,sZ,sU];refine rN 6 17 rfl rfl Qj ?_;simp only [pA,pN,sZ,sU];refine rN 7 18 rfl rfl Qj ?_;simp only [pA,pN,sZ,sU];refine rN 8 19 rfl rfl Qj ?_;simp only [pA,pN,sZ,sU];refine rN 9 20 rfl rfl Qj ?_;simp only [pA,pN,sZ,sU];refine rT 10 21 (.bool true) rfl rfl Qj ?_;simp only [pA,pN,sZ,sU];refine rT 11 2 (.bool true) rfl rfl Qj ?_;simp only [pA,pN,sZ,sU];refine wpAnyH_done (by kernel_rfl) ?_ _;go_wp2;go_ret;exact ⟨by rw [HV.out];rfl,(((Kept.refl _).alloc _).trans HA.out).trans Qj⟩
def rgtB (c r:Int):Bool:=c / r % 2 == 1
def okC (p:Ps) (k:Nat):Bool:=!rgtB p.c (hR k) || backB p.B (hR k)
def casB (p:Ps):Bool:=okC p 0 && okC p 1 && okC p 2 && okC p 3
theorem cas_yes {p:Ps} (h:∀ j,j<4→okC p j=true):casB p=true:=by
 unfold casB;rw [h 0 (by omega),h 1 (by omega),h 2 (by omega),h 3 (by omega)];rfl
theorem cas_no {p:Ps} {k:Nat} (hk:k<4) (h:okC p k=false):casB p=false:=by
 have:k=0∨k=1∨k=2∨k=3:=by omega
 unfold casB;rcases this with rfl|rfl|rfl|rfl <;> rw [h] <;> simp
theorem bit_all:∀ c:Fin 16,∀ k:Fin 4,(bits .and .i64 ((c:Nat):Int) (hR k) != 0)=rgtB ((c:Nat):Int) (hR k):=by decide +kernel
theorem bit_at {c:Int} (h0:0≤c) (h1:c≤15) {k:Nat} (hk:k<4):(bits .and .i64 c (hR k) != 0)=rgtB c (hR k):=by
 have:=bit_all ⟨c.toNat,by omega⟩ ⟨k,hk⟩;simp only [show ((c.toNat:Nat):Int)=c by omega] at this;exact this
set_option maxRecDepth 100000 in
set_option maxHeartbeats 2000000 in
theorem castle_is (p:Ps) (hB:Brd p.B) (h0:0≤p.c) (h1:p.c≤15) (w:World) (hT:Tabs w) :
  Calls Tryz.prog 88 #[.agg (pl p).toArray] w fun e w'=>e=.returned (.bool (casB p))∧Kept w w':=by
 have HP:=Qh (PAt.new w hB.1);have HK0:=Qh ((Kept.refl w).alloc (.cells (pl p).toArray 26));have HT:=Qh (hT.kept HK0.out);have HB:=Qh hB;have HBit:=Qh (fun k hk=>bit_at h0 h1 (k:=k) hk);clear hB hT h0 h1;go_enter Tryz.func88,Tryz.ntmps88;go_wp2_with (refine wpList_load_mid rfl 121 _ rfl 0 0 rfl hmV _ HT.out.homes.range Tryz.underlying121 rfl size_homes ?_)
 go_loopw [6] (fun t6 wr=>∃ k:Nat,k≤4∧t6=.int .i64 k∧(∀ j,j<k→okC p j=true)∧Kept (w.alloc (.cells (pl p).toArray 26)) wr) (fun t6 _=>4-(intOf t6).toNat)
 case atStart=>exact ⟨0,by omega,rfl,fun j hj=>by omega,Kept.refl _⟩
 case round =>
  obtain ⟨k,hk,rfl,hno,hK⟩:=hrel;have HNo:=Qh hno;have HK:=Qh hK;clear hno hK;by_cases hlt:k<4
  ·have hx:=run_index_hm k hlt
   have HPk:=Qh (HP.out.kept HK.out);have HKA:=Qh ((Kept.refl wr).alloc (.cells (hAt k) 120));have HPA:=Qh (HPk.out.kept HKA.out);have hcc:=HPA.out.cas;have hbit:=HBit.out k hlt;have HBk:=Qh (fun w hT=>backed_is p HB.out (hR k) w hT);have HTA:=Qh ((HT.out.kept HK.out).kept HKA.out);have HR:=Qh (hR_bd k);have HOk:Hid (okC p k=(!rgtB p.c (hR k) || backB p.B (hR k))):=by rfl
   unfold hAt at hx hcc;generalize backB p.B (hR k)=bb at *
   cases hh:rgtB p.c (hR k)
   ·rw [hh] at HOk hbit
    clear hh;go_wp2;go_roundw
    case rel=>exact ⟨k+1,by omega,by go_num,fun j hj=>by rcases Nat.lt_succ_iff_lt_or_eq.1 hj with h|h;exact HNo.out j h;rw [h,HOk.out];rfl,HK.out.alloc _⟩
    case measure=>simp [intOf];omega
   ·rw [hh] at HOk hbit
    clear hh
    cases bb
    ·skip
     go_wp2_with (first|(refine Qc (by rfl) _ rfl _ rfl _ (HPA.out) ?_)|(refine Qd (by rfl) _ rfl _ rfl _ (HPA.out) ?_))
     refine (HBk.out _ HTA.out).mono ?_;rintro e w2 ⟨rfl,k2⟩;have HF:=Qh (cas_no hlt HOk.out);have HK2:=Qh ((HK.out.trans HKA.out).trans k2);clear k2 hcc;go_wp2;go_ret;exact ⟨by rw [HF.out];rfl,HK0.out.trans HK2.out⟩
    ·skip
     go_wp2_with (first|(refine Qc (by rfl) _ rfl _ rfl _ (HPA.out) ?_)|(refine Qd (by rfl) _ rfl _ rfl _ (HPA.out) ?_))
     refine (HBk.out _ HTA.out).mono ?_;rintro e w2 ⟨rfl,k2⟩;have HK2:=Qh ((HK.out.trans HKA.out).trans k2);clear k2 hcc;go_wp2;go_roundw
     case rel=>exact ⟨k+1,by omega,by go_num,fun j hj=>by rcases Nat.lt_succ_iff_lt_or_eq.1 hj with h|h;exact HNo.out j h;rw [h,HOk.out];rfl,HK2.out⟩
     case measure=>simp [intOf];omega
  ·have HF:=Qh (cas_yes (p:=p) (fun j hj=>HNo.out j (by omega)))
   go_wp2;go_ret;exact ⟨by rw [HF.out];rfl,HK0.out.trans HK.out⟩
def epB (p:Ps):Bool:=passB p || (p.e == -1)
theorem ep_is (p:Ps) (hB:Brd p.B) (w:World) (hT:Tabs w) :
  Calls Tryz.prog 89 #[.agg (pl p).toArray] w fun e w'=>e=.returned (.bool (epB p))∧Kept w w':=by
 have HP:=Qh (PAt.new w hB.1);have HPs:=Qh (passed_is p hB _ (hT.kept ((Kept.refl w).alloc (.cells (pl p).toArray 26))));have HV:Hid (epB p=(passB p || (p.e == -1))):=by rfl
 clear hB hT;generalize passS p=ps at *
 cases hb:passB p
 ·rw [hb] at HPs HV
  rw [Bool.false_or] at HV;clear hb;go_enter Tryz.func89,Tryz.ntmps89;go_wp2_with (first|(refine Qc (by rfl) _ rfl _ rfl _ (HP.out) ?_)|(refine Qd (by rfl) _ rfl _ rfl _ (HP.out) ?_))
  refine HPs.out.mono ?_;rintro e w1 ⟨rfl,k1⟩;have HK1:=Qh (((Kept.refl w).alloc _).trans k1);have ce:=(HP.out.kept k1).ep;clear k1;go_wp2;go_ret;exact ⟨by rw [HV.out];rfl,HK1.out⟩
 ·rw [hb] at HPs HV
  rw [Bool.true_or] at HV;clear hb;go_enter Tryz.func89,Tryz.ntmps89;go_wp2_with (first|(refine Qc (by rfl) _ rfl _ rfl _ (HP.out) ?_)|(refine Qd (by rfl) _ rfl _ rfl _ (HP.out) ?_))
  refine HPs.out.mono ?_;rintro e w1 ⟨rfl,k1⟩;have HK1:=Qh (((Kept.refl w).alloc _).trans k1);clear k1;go_wp2;go_ret;exact ⟨by rw [HV.out];rfl,HK1.out⟩
def pwI (p:Ps):Int:=if Qx p.B≠0 then Qx p.B else if Jb p=false then 5 else if Qae p=true then 9 else if casB p=false then 10 else if epB p=false then 11 else 0
set_option maxHeartbeats 1000000 in
theorem pwrong_board (p:Ps) (hB:Brd p.B) (a0:Qx p.B≠0) (w:World) (hT:Tabs w) :
  Calls Tryz.prog 44 #[.agg (pl p).toArray] w fun e w'=>e=.returned (.int .i64 (Qx p.B))∧Kept w w':=by
 have HP:=Qh (PAt.new w hB.1);have HK0:=Qh ((Kept.refl w).alloc (.cells (pl p).toArray 26));have HT:=Qh (hT.kept HK0.out);have HC0:=Qh (wrong_is p.B hB);have HC1:=Qh (within_is p hB);have HC2:=Qh (fun w hT=>touches_is p hB w hT);have HC4:=Qh (fun w hT=>ep_is p hB w hT);have b0:(Qx p.B != 0)=true:=bne_iff_ne.2 a0;clear a0;clear hB hT;go_enter Tryz.func44,Tryz.ntmps44;go_wp2_with (first|(refine Qc (by rfl) _ rfl _ rfl _ (HP.out) ?_)|(refine Qd (by rfl) _ rfl _ rfl _ (HP.out) ?_))
 refine (HC0.out _).mono ?_;rintro e w1 ⟨rfl,k1⟩;have HK1:=Qh (HK0.out.trans k1);have HP1:=Qh (HP.out.kept k1);have HT1:=Qh (HT.out.kept k1);clear k1;go_wp2;go_ret;exact ⟨rfl,HK1.out⟩
set_option maxHeartbeats 1000000 in
theorem pwrong_arg (p:Ps) (hB:Brd p.B) (a0:Qx p.B=0) (a1:Jb p=false) (w:World) (hT:Tabs w) :
  Calls Tryz.prog 44 #[.agg (pl p).toArray] w fun e w'=>e=.returned (.int .i64 5)∧Kept w w':=by
 have HP:=Qh (PAt.new w hB.1);have HK0:=Qh ((Kept.refl w).alloc (.cells (pl p).toArray 26));have HT:=Qh (hT.kept HK0.out);have HC0:=Qh (wrong_is p.B hB);have HC1:=Qh (within_is p hB);have HC2:=Qh (fun w hT=>touches_is p hB w hT);have HC4:=Qh (fun w hT=>ep_is p hB w hT);rw [a0] at HC0;rw [a1] at HC1;clear hB hT;go_enter Tryz.func44,Tryz.ntmps44;go_wp2_with (first|(refine Qc (by rfl) _ rfl _ rfl _ (HP.out) ?_)|(refine Qd (by rfl) _ rfl _ rfl _ (HP.out) ?_))
 refine (HC0.out _).mono ?_;rintro e w1 ⟨rfl,k1⟩;have HK1:=Qh (HK0.out.trans k1);have HP1:=Qh (HP.out.kept k1);have HT1:=Qh (HT.out.kept k1);clear k1;go_wp2_with (first|(refine Qc (by rfl) _ rfl _ rfl _ (HP1.out) ?_)|(refine Qd (by rfl) _ rfl _ rfl _ (HP1.out) ?_))
 refine (HC1.out _).mono ?_;rintro e w2 ⟨rfl,k2⟩;have HK2:=Qh (HK1.out.trans k2);have HP2:=Qh (HP1.out.kept k2);have HT2:=Qh (HT1.out.kept k2);clear k2;go_wp2;go_ret;exact ⟨rfl,HK2.out⟩
set_option maxHeartbeats 1000000 in
theorem pwrong_touch (p:Ps) (hB:Brd p.B) (a0:Qx p.B=0) (a1:Jb p=true) (a2:Qae p=true) (w:World) (hT:Tabs w) :
  Calls Tryz.prog 44 #[.agg (pl p).toArray] w fun e w'=>e=.returned (.int .i64 9)∧Kept w w':=by
 have HP:=Qh (PAt.new w hB.1);have HK0:=Qh ((Kept.refl w).alloc (.cells (pl p).toArray 26));have HT:=Qh (hT.kept HK0.out);have HC0:=Qh (wrong_is p.B hB);have HC1:=Qh (within_is p hB);have HC2:=Qh (fun w hT=>touches_is p hB w hT);have HC4:=Qh (fun w hT=>ep_is p hB w hT);rw [a0] at HC0;rw [a1] at HC1;rw [a2] at HC2;clear hB hT;go_enter Tryz.func44,Tryz.ntmps44;go_wp2_with (first|(refine Qc (by rfl) _ rfl _ rfl _ (HP.out) ?_)|(refine Qd (by rfl) _ rfl _ rfl _ (HP.out) ?_))
 refine (HC0.out _).mono ?_;rintro e w1 ⟨rfl,k1⟩;have HK1:=Qh (HK0.out.trans k1);have HP1:=Qh (HP.out.kept k1);have HT1:=Qh (HT.out.kept k1);clear k1;go_wp2_with (first|(refine Qc (by rfl) _ rfl _ rfl _ (HP1.out) ?_)|(refine Qd (by rfl) _ rfl _ rfl _ (HP1.out) ?_))
 refine (HC1.out _).mono ?_;rintro e w2 ⟨rfl,k2⟩;have HK2:=Qh (HK1.out.trans k2);have HP2:=Qh (HP1.out.kept k2);have HT2:=Qh (HT1.out.kept k2);clear k2;go_wp2_with (first|(refine Qc (by rfl) _ rfl _ rfl _ (HP2.out) ?_)|(refine Qd (by rfl) _ rfl _ rfl _ (HP2.out) ?_))
 refine (HC2.out _ HT2.out).mono ?_;rintro e w3 ⟨rfl,k3⟩;have HK3:=Qh (HK2.out.trans k3);have HP3:=Qh (HP2.out.kept k3);have HT3:=Qh (HT2.out.kept k3);clear k3;go_wp2;go_ret;exact ⟨rfl,HK3.out⟩
set_option maxHeartbeats 1000000 in
theorem pwrong_castle (p:Ps) (hB:Brd p.B) (a0:Qx p.B=0) (a1:Jb p=true) (a2:Qae p=false) (a3:casB p=false) (w:World) (hT:Tabs w) :
  Calls Tryz.prog 44 #[.agg (pl p).toArray] w fun e w'=>e=.returned (.int .i64 10)∧Kept w w':=by
 have HP:=Qh (PAt.new w hB.1);have HK0:=Qh ((Kept.refl w).alloc (.cells (pl p).toArray 26));have HT:=Qh (hT.kept HK0.out);have HC0:=Qh (wrong_is p.B hB);have HC1:=Qh (within_is p hB);have HC2:=Qh (fun w hT=>touches_is p hB w hT);have HC4:=Qh (fun w hT=>ep_is p hB w hT);rw [a0] at HC0;rw [a1] at HC1;rw [a2] at HC2;obtain ⟨_,⟨h0,h1⟩,_⟩:=(Yn p).1 a1;have HC3:=Qh (fun w hT=>castle_is p hB h0 h1 w hT);clear h0 h1;rw [a3] at HC3;clear hB hT;go_enter Tryz.func44,Tryz.ntmps44;go_wp2_with (first|(refine Qc (by rfl) _ rfl _ rfl _ (HP.out) ?_)|(refine Qd (by rfl) _ rfl _ rfl _ (HP.out) ?_))
 refine (HC0.out _).mono ?_;rintro e w1 ⟨rfl,k1⟩;have HK1:=Qh (HK0.out.trans k1);have HP1:=Qh (HP.out.kept k1);have HT1:=Qh (HT.out.kept k1);clear k1;go_wp2_with (first|(refine Qc (by rfl) _ rfl _ rfl _ (HP1.out) ?_)|(refine Qd (by rfl) _ rfl _ rfl _ (HP1.out) ?_))
 refine (HC1.out _).mono ?_;rintro e w2 ⟨rfl,k2⟩;have HK2:=Qh (HK1.out.trans k2);have HP2:=Qh (HP1.out.kept k2);have HT2:=Qh (HT1.out.kept k2);clear k2;go_wp2_with (first|(refine Qc (by rfl) _ rfl _ rfl _ (HP2.out) ?_)|(refine Qd (by rfl) _ rfl _ rfl _ (HP2.out) ?_))
 refine (HC2.out _ HT2.out).mono ?_;rintro e w3 ⟨rfl,k3⟩;have HK3:=Qh (HK2.out.trans k3);have HP3:=Qh (HP2.out.kept k3);have HT3:=Qh (HT2.out.kept k3);clear k3;go_wp2_with (first|(refine Qc (by rfl) _ rfl _ rfl _ (HP3.out) ?_)|(refine Qd (by rfl) _ rfl _ rfl _ (HP3.out) ?_))
 refine (HC3.out _ HT3.out).mono ?_;rintro e w4 ⟨rfl,k4⟩;have HK4:=Qh (HK3.out.trans k4);have HP4:=Qh (HP3.out.kept k4);have HT4:=Qh (HT3.out.kept k4);clear k4;go_wp2;go_ret;exact ⟨rfl,HK4.out⟩
set_option maxHeartbeats 1000000 in
theorem pwrong_ep (p:Ps) (hB:Brd p.B) (a0:Qx p.B=0) (a1:Jb p=true) (a2:Qae p=false) (a3:casB p=true) (a4:epB p=false) (w:World) (hT:Tabs w) :
  Calls Tryz.prog 44 #[.agg (pl p).toArray] w fun e w'=>e=.returned (.int .i64 11)∧Kept w w':=by
 have HP:=Qh (PAt.new w hB.1);have HK0:=Qh ((Kept.refl w).alloc (.cells (pl p).toArray 26));have HT:=Qh (hT.kept HK0.out);have HC0:=Qh (wrong_is p.B hB);have HC1:=Qh (within_is p hB);have HC2:=Qh (fun w hT=>touches_is p hB w hT);have HC4:=Qh (fun w hT=>ep_is p hB w hT);rw [a0] at HC0;rw [a1] at HC1;rw [a2] at HC2;obtain ⟨_,⟨h0,h1⟩,_⟩:=(Yn p).1 a1;have HC3:=Qh (fun w hT=>castle_is p hB h0 h1 w hT);clear h0 h1;rw [a3] at HC3;rw [a4] at HC4;clear hB hT;go_enter Tryz.func44,Tryz.ntmps44;go_wp2_with (first|(refine Qc (by rfl) _ rfl _ rfl _ (HP.out) ?_)|(refine Qd (by rfl) _ rfl _ rfl _ (HP.out) ?_))
 refine (HC0.out _).mono ?_;rintro e w1 ⟨rfl,k1⟩;have HK1:=Qh (HK0.out.trans k1);have HP1:=Qh (HP.out.kept k1);have HT1:=Qh (HT.out.kept k1);clear k1;go_wp2_with (first|(refine Qc (by rfl) _ rfl _ rfl _ (HP1.out) ?_)|(refine Qd (by rfl) _ rfl _ rfl _ (HP1.out) ?_))
 refine (HC1.out _).mono ?_;rintro e w2 ⟨rfl,k2⟩;have HK2:=Qh (HK1.out.trans k2);have HP2:=Qh (HP1.out.kept k2);have HT2:=Qh (HT1.out.kept k2);clear k2;go_wp2_with (first|(refine Qc (by rfl) _ rfl _ rfl _ (HP2.out) ?_)|(refine Qd (by rfl) _ rfl _ rfl _ (HP2.out) ?_))
 refine (HC2.out _ HT2.out).mono ?_;rintro e w3 ⟨rfl,k3⟩;have HK3:=Qh (HK2.out.trans k3);have HP3:=Qh (HP2.out.kept k3);have HT3:=Qh (HT2.out.kept k3);clear k3;go_wp2_with (first|(refine Qc (by rfl) _ rfl _ rfl _ (HP3.out) ?_)|(refine Qd (by rfl) _ rfl _ rfl _ (HP3.out) ?_))
 refine (HC3.out _ HT3.out).mono ?_;rintro e w4 ⟨rfl,k4⟩;have HK4:=Qh (HK3.out.trans k4);have HP4:=Qh (HP3.out.kept k4);have HT4:=Qh (HT3.out.kept k4);clear k4;go_wp2_with (first|(refine Qc (by rfl) _ rfl _ rfl _ (HP4.out) ?_)|(refine Qd (by rfl) _ rfl _ rfl _ (HP4.out) ?_))
 refine (HC4.out _ HT4.out).mono ?_;rintro e w5 ⟨rfl,k5⟩;have HK5:=Qh (HK4.out.trans k5);have HP5:=Qh (HP4.out.kept k5);have HT5:=Qh (HT4.out.kept k5);clear k5;go_wp2;go_ret;exact ⟨rfl,HK5.out⟩
set_option maxHeartbeats 1000000 in
theorem pwrong_ok (p:Ps) (hB:Brd p.B) (a0:Qx p.B=0) (a1:Jb p=true) (a2:Qae p=false) (a3:casB p=true) (a4:epB p=true) (w:World) (hT:Tabs w) :
  Calls Tryz.prog 44 #[.agg (pl p).toArray] w fun e w'=>e=.returned (.int .i64 0)∧Kept w w':=by
 have HP:=Qh (PAt.new w hB.1);have HK0:=Qh ((Kept.refl w).alloc (.cells (pl p).toArray 26));have HT:=Qh (hT.kept HK0.out);have HC0:=Qh (wrong_is p.B hB);have HC1:=Qh (within_is p hB);have HC2:=Qh (fun w hT=>touches_is p hB w hT);have HC4:=Qh (fun w hT=>ep_is p hB w hT);rw [a0] at HC0;rw [a1] at HC1;rw [a2] at HC2;obtain ⟨_,⟨h0,h1⟩,_⟩:=(Yn p).1 a1;have HC3:=Qh (fun w hT=>castle_is p hB h0 h1 w hT);clear h0 h1;rw [a3] at HC3;rw [a4] at HC4;clear hB hT;go_enter Tryz.func44,Tryz.ntmps44;go_wp2_with (first|(refine Qc (by rfl) _ rfl _ rfl _ (HP.out) ?_)|(refine Qd (by rfl) _ rfl _ rfl _ (HP.out) ?_))
 refine (HC0.out _).mono ?_;rintro e w1 ⟨rfl,k1⟩;have HK1:=Qh (HK0.out.trans k1);have HP1:=Qh (HP.out.kept k1);have HT1:=Qh (HT.out.kept k1);clear k1;go_wp2_with (first|(refine Qc (by rfl) _ rfl _ rfl _ (HP1.out) ?_)|(refine Qd (by rfl) _ rfl _ rfl _ (HP1.out) ?_))
 refine (HC1.out _).mono ?_;rintro e w2 ⟨rfl,k2⟩;have HK2:=Qh (HK1.out.trans k2);have HP2:=Qh (HP1.out.kept k2);have HT2:=Qh (HT1.out.kept k2);clear k2;go_wp2_with (first|(refine Qc (by rfl) _ rfl _ rfl _ (HP2.out) ?_)|(refine Qd (by rfl) _ rfl _ rfl _ (HP2.out) ?_))
 refine (HC2.out _ HT2.out).mono ?_;rintro e w3 ⟨rfl,k3⟩;have HK3:=Qh (HK2.out.trans k3);have HP3:=Qh (HP2.out.kept k3);have HT3:=Qh (HT2.out.kept k3);clear k3;go_wp2_with (first|(refine Qc (by rfl) _ rfl _ rfl _ (HP3.out) ?_)|(refine Qd (by rfl) _ rfl _ rfl _ (HP3.out) ?_))
 refine (HC3.out _ HT3.out).mono ?_;rintro e w4 ⟨rfl,k4⟩;have HK4:=Qh (HK3.out.trans k4);have HP4:=Qh (HP3.out.kept k4);have HT4:=Qh (HT3.out.kept k4);clear k4;go_wp2_with (first|(refine Qc (by rfl) _ rfl _ rfl _ (HP4.out) ?_)|(refine Qd (by rfl) _ rfl _ rfl _ (HP4.out) ?_))
 refine (HC4.out _ HT4.out).mono ?_;rintro e w5 ⟨rfl,k5⟩;have HK5:=Qh (HK4.out.trans k5);have HP5:=Qh (HP4.out.kept k5);have HT5:=Qh (HT4.out.kept k5);clear k5;go_wp2;go_ret;exact ⟨rfl,HK5.out⟩
theorem Jx (p:Ps) (hB:Brd p.B) (w:World) (hT:Tabs w) :
  Calls Tryz.prog 44 #[.agg (pl p).toArray] w fun e w'=>e=.returned (.int .i64 (pwI p))∧Kept w w':=by
 unfold pwI;by_cases a0:Qx p.B=0
 ·rw [if_neg (by omega)]
  cases a1:Jb p
  ·rw [if_pos rfl];exact pwrong_arg p hB a0 a1 w hT
  ·rw [if_neg (by decide)]
   cases a2:Qae p
   ·rw [if_neg (by decide)]
    cases a3:casB p
    ·rw [if_pos rfl];exact pwrong_castle p hB a0 a1 a2 a3 w hT
    ·rw [if_neg (by decide)]
     cases a4:epB p
     ·rw [if_pos rfl];exact pwrong_ep p hB a0 a1 a2 a3 a4 w hT
     ·rw [if_neg (by decide)];exact pwrong_ok p hB a0 a1 a2 a3 a4 w hT
   ·rw [if_pos rfl];exact pwrong_touch p hB a0 a1 a2 w hT
 ·rw [if_pos a0];exact pwrong_board p hB a0 w hT
theorem rbacked_1 (B:List Int) (hB:Brd B) (w:World) :
  Calls Tryz.prog 35 #[.agg (cl B).toArray,.int .i64 1] w fun e w'=>e=.returned (.bool ((B.getD 4 0 == 6) && (B.getD 7 0 == 4)))∧Kept w w':=by
 have hbl:=heap_alloc_new w (.cells (cl B).toArray 24);have ca:=Yr hB hbl 4 (by omega);have cb:=Yr hB hbl 7 (by omega);obtain ⟨ba1,ba2⟩:=hB.2 4 (by omega);obtain ⟨bb1,bb2⟩:=hB.2 7 (by omega);clear hbl hB;generalize B.getD 4 0=xa at *;generalize B.getD 7 0=xb at *
 cases h:(xa == 6)
 ·rw [Bool.false_and]
  go_enter Tryz.func35,Tryz.ntmps35;go_wp2;go_ret;exact ⟨rfl,(Kept.refl _).alloc _⟩
 ·rw [Bool.true_and]
  go_enter Tryz.func35,Tryz.ntmps35;go_wp2;go_ret;exact ⟨rfl,(Kept.refl _).alloc _⟩
theorem rbacked_2 (B:List Int) (hB:Brd B) (w:World) :
  Calls Tryz.prog 35 #[.agg (cl B).toArray,.int .i64 2] w fun e w'=>e=.returned (.bool ((B.getD 4 0 == 6) && (B.getD 0 0 == 4)))∧Kept w w':=by
 have hbl:=heap_alloc_new w (.cells (cl B).toArray 24);have ca:=Yr hB hbl 4 (by omega);have cb:=Yr hB hbl 0 (by omega);obtain ⟨ba1,ba2⟩:=hB.2 4 (by omega);obtain ⟨bb1,bb2⟩:=hB.2 0 (by omega);clear hbl hB;generalize B.getD 4 0=xa at *;generalize B.getD 0 0=xb at *
 cases h:(xa == 6)
 ·rw [Bool.false_and]
  go_enter Tryz.func35,Tryz.ntmps35;go_wp2;go_ret;exact ⟨rfl,(Kept.refl _).alloc _⟩
 ·rw [Bool.true_and]
  go_enter Tryz.func35,Tryz.ntmps35;go_wp2;go_ret;exact ⟨rfl,(Kept.refl _).alloc _⟩
theorem rbacked_4 (B:List Int) (hB:Brd B) (w:World) :
  Calls Tryz.prog 35 #[.agg (cl B).toArray,.int .i64 4] w fun e w'=>e=.returned (.bool ((B.getD 60 0 == (-6)) && (B.getD 63 0 == (-4))))∧Kept w w':=by
 have hbl:=heap_alloc_new w (.cells (cl B).toArray 24);have ca:=Yr hB hbl 60 (by omega);have cb:=Yr hB hbl 63 (by omega);obtain ⟨ba1,ba2⟩:=hB.2 60 (by omega);obtain ⟨bb1,bb2⟩:=hB.2 63 (by omega);clear hbl hB;generalize B.getD 60 0=xa at *;generalize B.getD 63 0=xb at *
 cases h:(xa == (-6))
 ·rw [Bool.false_and]
  go_enter Tryz.func35,Tryz.ntmps35;go_wp2;go_ret;exact ⟨rfl,(Kept.refl _).alloc _⟩
 ·rw [Bool.true_and]
  go_enter Tryz.func35,Tryz.ntmps35;go_wp2;go_ret;exact ⟨rfl,(Kept.refl _).alloc _⟩
theorem rbacked_8 (B:List Int) (hB:Brd B) (w:World) :
  Calls Tryz.prog 35 #[.agg (cl B).toArray,.int .i64 8] w fun e w'=>e=.returned (.bool ((B.getD 60 0 == (-6)) && (B.getD 56 0 == (-4))))∧Kept w w':=by
 have hbl:=heap_alloc_new w (.cells (cl B).toArray 24);have ca:=Yr hB hbl 60 (by omega);have cb:=Yr hB hbl 56 (by omega);obtain ⟨ba1,ba2⟩:=hB.2 60 (by omega);obtain ⟨bb1,bb2⟩:=hB.2 56 (by omega);clear hbl hB;generalize B.getD 60 0=xa at *;generalize B.getD 56 0=xb at *
 cases h:(xa == (-6))
 ·rw [Bool.false_and]
  go_enter Tryz.func35,Tryz.ntmps35;go_wp2;go_ret;exact ⟨rfl,(Kept.refl _).alloc _⟩
 ·rw [Bool.true_and]
  go_enter Tryz.func35,Tryz.ntmps35;go_wp2;go_ret;exact ⟨rfl,(Kept.refl _).alloc _⟩
theorem rbacked_is (B:List Int) (hB:Brd B) (r:Int) (w:World) :
  Calls Tryz.prog 35 #[.agg (cl B).toArray,.int .i64 r] w fun e w'=>e=.returned (.bool (backB B r))∧Kept w w':=by
 unfold backB;by_cases h1:r=1
 ·subst h1;rw [if_pos rfl];exact rbacked_1 B hB w
 ·rw [if_neg h1]
  by_cases h2:r=2
  ·subst h2;rw [if_pos rfl];exact rbacked_2 B hB w
  ·rw [if_neg h2]
   by_cases h4:r=4
   ·subst h4;rw [if_pos rfl];exact rbacked_4 B hB w
   ·rw [if_neg h4]
    by_cases h8:r=8
    ·subst h8;rw [if_pos rfl];exact rbacked_8 B hB w
    ·rw [if_neg h8]
     have b1:(r == 1)=false:=beq_eq_false_iff_ne.2 h1;have b2:(r == 2)=false:=beq_eq_false_iff_ne.2 h2;have b4:(r == 4)=false:=beq_eq_false_iff_ne.2 h4;have b8:(r == 8)=false:=beq_eq_false_iff_ne.2 h8;clear h1 h2 h4 h8 hB;go_enter Tryz.func35,Tryz.ntmps35;go_wp2;go_ret;exact ⟨rfl,(Kept.refl _).alloc _⟩
theorem rhas_is (c r:Int) (w:World) (h0:0≤c) (h1:c≤15) (r0:1≤r) (r1:r≤8) :
  Calls Tryz.prog 34 #[.int .i64 c,.int .i64 r] w fun e w'=>e=.returned (.bool (rgtB c r))∧Kept w w':=by
 have hq0:0≤c / r:=Int.ediv_nonneg h0 (by omega);have hq1:c / r≤15:=Int.le_trans (Int.ediv_le_self r h0) h1;have hrz:(r == 0)=false:=beq_eq_false_iff_ne.2 (by omega);have hrz':r≠0:=by omega
 have hd:c.tdiv r=c / r:=Int.tdiv_eq_ediv_of_nonneg h0;have HV:Hid (rgtB c r=(c / r % 2 == 1)):=by rfl
 go_enter Tryz.func34,Tryz.ntmps34;go_wp2;go_ret;exact ⟨by rw [HV.out];rfl,Kept.refl _⟩
theorem rpassed_low (p:Ps) (hB:Brd p.B) (he:p.e<0) (w:World) :
  Calls Tryz.prog 36 #[.agg (pl p).toArray] w fun e w'=>e=.returned (.int .i64 (passI p))∧Kept w w':=by
 have HF:Hid (passI p=-1):=by unfold passI;rw [if_neg (by omega),if_neg (by omega)];rfl
 have HP:=Qh (PAt.new w hB.1);have ct:=HP.out.turn;have ce:=HP.out.ep;clear hB;go_enter Tryz.func36,Tryz.ntmps36;go_wp2;go_ret;exact ⟨by rw [HF.out];rfl,(Kept.refl _).alloc _⟩
theorem rpassed_high (p:Ps) (hB:Brd p.B) (he:63<p.e) (w:World) :
  Calls Tryz.prog 36 #[.agg (pl p).toArray] w fun e w'=>e=.returned (.int .i64 (passI p))∧Kept w w':=by
 have HF:Hid (passI p=-1):=by unfold passI;rw [if_neg (by omega),if_neg (by omega)];rfl
 have he0:¬ p.e<0:=by omega
 have HP:=Qh (PAt.new w hB.1);have ct:=HP.out.turn;have ce:=HP.out.ep;clear hB;go_enter Tryz.func36,Tryz.ntmps36;go_wp2;go_ret;exact ⟨by rw [HF.out];rfl,(Kept.refl _).alloc _⟩
theorem rpassed_side (p:Ps) (hB:Brd p.B) (h0:0≤p.e) (h1:p.e<64) (t0:p.t≠0) (t1:p.t≠1) (w:World) :
  Calls Tryz.prog 36 #[.agg (pl p).toArray] w fun e w'=>e=.returned (.int .i64 (passI p))∧Kept w w':=by
 have HF:Hid (passI p=-1):=by unfold passI;rw [if_neg (fun h=>t0 h.1),if_neg (fun h=>t1 h.1)];rfl
 have he0:¬ p.e<0:=by omega
 have he1:¬ 63<p.e:=by omega
 have b0:(p.t == 0)=false:=beq_eq_false_iff_ne.2 t0;have b1:(p.t == 1)=false:=beq_eq_false_iff_ne.2 t1;have HP:=Qh (PAt.new w hB.1);have ct:=HP.out.turn;have ce:=HP.out.ep;clear hB t0 t1;go_enter Tryz.func36,Tryz.ntmps36;go_wp2;go_ret;exact ⟨by rw [HF.out];rfl,(Kept.refl _).alloc _⟩
theorem rpassed_off_w (p:Ps) (hB:Brd p.B) (h0:0≤p.e) (h1:p.e<64) (ht:p.t=0) (hr:¬ (40≤p.e∧p.e<48)) (w:World) :
  Calls Tryz.prog 36 #[.agg (pl p).toArray] w fun e w'=>e=.returned (.int .i64 (passI p))∧Kept w w':=by
 have HF:Hid (passI p=-1):=by unfold passI;rw [if_neg (fun h=>hr ⟨h.2.1,h.2.2.1⟩),if_neg (fun h=>by rw [ht] at h;exact absurd h.1 (by decide))];rfl
 have he0:¬ p.e<0:=by omega
 have he1:¬ 63<p.e:=by omega
 have br:(p.e / 8 == 5)=false:=beq_eq_false_iff_ne.2 (by omega);have HP:=Qh (PAt.new w hB.1);have ct:=HP.out.turn;have ce:=HP.out.ep;rw [ht] at ct;clear hB hr;go_enter Tryz.func36,Tryz.ntmps36;go_wp2_with fail
 refine (Yo _ _ h0 h1).mono ?_;rintro e w' ⟨rfl,rfl⟩;go_wp2;go_ret;exact ⟨by rw [HF.out];rfl,(Kept.refl _).alloc _⟩
set_option maxHeartbeats 1000000 in
theorem rpassed0_w (p:Ps) (hB:Brd p.B) (ht:p.t=0) (hlo:40≤p.e) (hhi:p.e<48) (e0:bAt p.B p.e≠0) (w:World) :
  Calls Tryz.prog 36 #[.agg (pl p).toArray] w fun e w'=>e=.returned (.int .i64 (passI p))∧Kept w w':=by
 have HF:Hid (passI p=-1):=by unfold passI;rw [if_neg (fun h=>e0 h.2.2.2.1),if_neg (fun h=>by rw [ht] at h;exact absurd h.1 (by decide))];rfl
 have b0:(bAt p.B p.e == 0)=false:=beq_eq_false_iff_ne.2 e0;clear e0;have he0:¬ p.e<0:=by omega
 have he1:¬ 63<p.e:=by omega
 have br:(p.e / 8 == 5)=true:=beq_iff_eq.2 (by omega);have HP:=Qh (PAt.new w hB.1);have ct:=HP.out.turn;have ce:=HP.out.ep;rw [ht] at ct;have c0:=HP.out.sq p.e.toNat (by omega);have c1:=HP.out.sq (p.e+8).toNat (by omega);have c2:=HP.out.sq (p.e-8).toNat (by omega);obtain ⟨x00,x01⟩:=hB.2 p.e.toNat (by omega);obtain ⟨x10,x11⟩:=hB.2 (p.e+8).toNat (by omega);obtain ⟨x20,x21⟩:=hB.2 (p.e-8).toNat (by omega);unfold bAt at b0;clear hB;generalize p.B.getD p.e.toNat 0=x0 at *;generalize p.B.getD (p.e+8).toNat 0=x1 at *;generalize p.B.getD (p.e-8).toNat 0=x2 at *;go_enter Tryz.func36,Tryz.ntmps36;go_wp2_with fail
 refine (Yo _ _ (by omega) (by omega)).mono ?_;rintro e w' ⟨rfl,rfl⟩;go_wp2;go_ret;exact ⟨by rw [HF.out];rfl,(Kept.refl _).alloc _⟩
set_option maxHeartbeats 1000000 in
theorem rpassed1_w (p:Ps) (hB:Brd p.B) (ht:p.t=0) (hlo:40≤p.e) (hhi:p.e<48) (e0:bAt p.B p.e=0) (e1:bAt p.B (p.e+8)≠0) (w:World) :
  Calls Tryz.prog 36 #[.agg (pl p).toArray] w fun e w'=>e=.returned (.int .i64 (passI p))∧Kept w w':=by
 have HF:Hid (passI p=-1):=by unfold passI;rw [if_neg (fun h=>e1 h.2.2.2.2.1),if_neg (fun h=>by rw [ht] at h;exact absurd h.1 (by decide))];rfl
 have b0:(bAt p.B p.e == 0)=true:=beq_iff_eq.2 e0;have b1:(bAt p.B (p.e+8) == 0)=false:=beq_eq_false_iff_ne.2 e1;clear e0 e1;have he0:¬ p.e<0:=by omega
 have he1:¬ 63<p.e:=by omega
 have br:(p.e / 8 == 5)=true:=beq_iff_eq.2 (by omega);have HP:=Qh (PAt.new w hB.1);have ct:=HP.out.turn;have ce:=HP.out.ep;rw [ht] at ct;have c0:=HP.out.sq p.e.toNat (by omega);have c1:=HP.out.sq (p.e+8).toNat (by omega);have c2:=HP.out.sq (p.e-8).toNat (by omega);obtain ⟨x00,x01⟩:=hB.2 p.e.toNat (by omega);obtain ⟨x10,x11⟩:=hB.2 (p.e+8).toNat (by omega);obtain ⟨x20,x21⟩:=hB.2 (p.e-8).toNat (by omega);unfold bAt at b0 b1;clear hB;generalize p.B.getD p.e.toNat 0=x0 at *;generalize p.B.getD (p.e+8).toNat 0=x1 at *;generalize p.B.getD (p.e-8).toNat 0=x2 at *;go_enter Tryz.func36,Tryz.ntmps36;go_wp2_with fail
 refine (Yo _ _ (by omega) (by omega)).mono ?_;rintro e w' ⟨rfl,rfl⟩;go_wp2;go_ret;exact ⟨by rw [HF.out];rfl,(Kept.refl _).alloc _⟩
set_option maxHeartbeats 1000000 in
theorem rpassed2_w (p:Ps) (hB:Brd p.B) (ht:p.t=0) (hlo:40≤p.e) (hhi:p.e<48) (e0:bAt p.B p.e=0) (e1:bAt p.B (p.e+8)=0) (e2:bAt p.B (p.e-8)≠(-1)) (w:World) :
  Calls Tryz.prog 36 #[.agg (pl p).toArray] w fun e w'=>e=.returned (.int .i64 (passI p))∧Kept w w':=by
 have HF:Hid (passI p=-1):=by unfold passI;rw [if_neg (fun h=>e2 h.2.2.2.2.2),if_neg (fun h=>by rw [ht] at h;exact absurd h.1 (by decide))];rfl
 have b0:(bAt p.B p.e == 0)=true:=beq_iff_eq.2 e0;have b1:(bAt p.B (p.e+8) == 0)=true:=beq_iff_eq.2 e1;have b2:(bAt p.B (p.e-8) == (-1))=false:=beq_eq_false_iff_ne.2 e2;clear e0 e1 e2;have he0:¬ p.e<0:=by omega
 have he1:¬ 63<p.e:=by omega
 have br:(p.e / 8 == 5)=true:=beq_iff_eq.2 (by omega);have HP:=Qh (PAt.new w hB.1);have ct:=HP.out.turn;have ce:=HP.out.ep;rw [ht] at ct;have c0:=HP.out.sq p.e.toNat (by omega);have c1:=HP.out.sq (p.e+8).toNat (by omega);have c2:=HP.out.sq (p.e-8).toNat (by omega);obtain ⟨x00,x01⟩:=hB.2 p.e.toNat (by omega);obtain ⟨x10,x11⟩:=hB.2 (p.e+8).toNat (by omega);obtain ⟨x20,x21⟩:=hB.2 (p.e-8).toNat (by omega);unfold bAt at b0 b1 b2;clear hB;generalize p.B.getD p.e.toNat 0=x0 at *;generalize p.B.getD (p.e+8).toNat 0=x1 at *;generalize p.B.getD (p.e-8).toNat 0=x2 at *;go_enter Tryz.func36,Tryz.ntmps36;go_wp2_with fail
 refine (Yo _ _ (by omega) (by omega)).mono ?_;rintro e w' ⟨rfl,rfl⟩;go_wp2;go_ret;exact ⟨by rw [HF.out];rfl,(Kept.refl _).alloc _⟩
set_option maxHeartbeats 1000000 in
theorem rpassed3_w (p:Ps) (hB:Brd p.B) (ht:p.t=0) (hlo:40≤p.e) (hhi:p.e<48) (e0:bAt p.B p.e=0) (e1:bAt p.B (p.e+8)=0) (e2:bAt p.B (p.e-8)=(-1)) (w:World) :
  Calls Tryz.prog 36 #[.agg (pl p).toArray] w fun e w'=>e=.returned (.int .i64 (passI p))∧Kept w w':=by
 have HF:Hid (passI p=p.e-8):=by unfold passI;rw [if_pos ⟨ht,by omega,by omega,e0,e1,e2⟩];rfl
 have b0:(bAt p.B p.e == 0)=true:=beq_iff_eq.2 e0;have b1:(bAt p.B (p.e+8) == 0)=true:=beq_iff_eq.2 e1;have b2:(bAt p.B (p.e-8) == (-1))=true:=beq_iff_eq.2 e2;clear e0 e1 e2;have he0:¬ p.e<0:=by omega
 have he1:¬ 63<p.e:=by omega
 have br:(p.e / 8 == 5)=true:=beq_iff_eq.2 (by omega);have HP:=Qh (PAt.new w hB.1);have ct:=HP.out.turn;have ce:=HP.out.ep;rw [ht] at ct;have c0:=HP.out.sq p.e.toNat (by omega);have c1:=HP.out.sq (p.e+8).toNat (by omega);have c2:=HP.out.sq (p.e-8).toNat (by omega);obtain ⟨x00,x01⟩:=hB.2 p.e.toNat (by omega);obtain ⟨x10,x11⟩:=hB.2 (p.e+8).toNat (by omega);obtain ⟨x20,x21⟩:=hB.2 (p.e-8).toNat (by omega);unfold bAt at b0 b1 b2;clear hB;generalize p.B.getD p.e.toNat 0=x0 at *;generalize p.B.getD (p.e+8).toNat 0=x1 at *;generalize p.B.getD (p.e-8).toNat 0=x2 at *;go_enter Tryz.func36,Tryz.ntmps36;go_wp2_with fail
 refine (Yo _ _ (by omega) (by omega)).mono ?_;rintro e w' ⟨rfl,rfl⟩;go_wp2;go_ret;exact ⟨by rw [HF.out];rfl,(Kept.refl _).alloc _⟩
theorem rpassed_off_b (p:Ps) (hB:Brd p.B) (h0:0≤p.e) (h1:p.e<64) (ht:p.t=1) (hr:¬ (16≤p.e∧p.e<24)) (w:World) :
  Calls Tryz.prog 36 #[.agg (pl p).toArray] w fun e w'=>e=.returned (.int .i64 (passI p))∧Kept w w':=by
 have HF:Hid (passI p=-1):=by unfold passI;rw [if_neg (fun h=>by rw [ht] at h;exact absurd h.1 (by decide)),if_neg (fun h=>hr ⟨h.2.1,h.2.2.1⟩)];rfl
 have he0:¬ p.e<0:=by omega
 have he1:¬ 63<p.e:=by omega
 have br:(p.e / 8 == 2)=false:=beq_eq_false_iff_ne.2 (by omega);have HP:=Qh (PAt.new w hB.1);have ct:=HP.out.turn;have ce:=HP.out.ep;rw [ht] at ct;clear hB hr;go_enter Tryz.func36,Tryz.ntmps36;go_wp2_with fail
 refine (Yo _ _ h0 h1).mono ?_;rintro e w' ⟨rfl,rfl⟩;go_wp2;go_ret;exact ⟨by rw [HF.out];rfl,(Kept.refl _).alloc _⟩
set_option maxHeartbeats 1000000 in
theorem rpassed0_b (p:Ps) (hB:Brd p.B) (ht:p.t=1) (hlo:16≤p.e) (hhi:p.e<24) (e0:bAt p.B p.e≠0) (w:World) :
  Calls Tryz.prog 36 #[.agg (pl p).toArray] w fun e w'=>e=.returned (.int .i64 (passI p))∧Kept w w':=by
 have HF:Hid (passI p=-1):=by unfold passI;rw [if_neg (fun h=>by rw [ht] at h;exact absurd h.1 (by decide)),if_neg (fun h=>e0 h.2.2.2.1)];rfl
 have b0:(bAt p.B p.e == 0)=false:=beq_eq_false_iff_ne.2 e0;clear e0;have he0:¬ p.e<0:=by omega
 have he1:¬ 63<p.e:=by omega
 have br:(p.e / 8 == 2)=true:=beq_iff_eq.2 (by omega);have HP:=Qh (PAt.new w hB.1);have ct:=HP.out.turn;have ce:=HP.out.ep;rw [ht] at ct;have c0:=HP.out.sq p.e.toNat (by omega);have c1:=HP.out.sq (p.e-8).toNat (by omega);have c2:=HP.out.sq (p.e+8).toNat (by omega);obtain ⟨x00,x01⟩:=hB.2 p.e.toNat (by omega);obtain ⟨x10,x11⟩:=hB.2 (p.e-8).toNat (by omega);obtain ⟨x20,x21⟩:=hB.2 (p.e+8).toNat (by omega);unfold bAt at b0;clear hB;generalize p.B.getD p.e.toNat 0=x0 at *;generalize p.B.getD (p.e-8).toNat 0=x1 at *;generalize p.B.getD (p.e+8).toNat 0=x2 at *;go_enter Tryz.func36,Tryz.ntmps36;go_wp2_with fail
 refine (Yo _ _ (by omega) (by omega)).mono ?_;rintro e w' ⟨rfl,rfl⟩;go_wp2;go_ret;exact ⟨by rw [HF.out];rfl,(Kept.refl _).alloc _⟩
set_option maxHeartbeats 1000000 in
theorem rpassed1_b (p:Ps) (hB:Brd p.B) (ht:p.t=1) (hlo:16≤p.e) (hhi:p.e<24) (e0:bAt p.B p.e=0) (e1:bAt p.B (p.e-8)≠0) (w:World) :
  Calls Tryz.prog 36 #[.agg (pl p).toArray] w fun e w'=>e=.returned (.int .i64 (passI p))∧Kept w w':=by
 have HF:Hid (passI p=-1):=by unfold passI;rw [if_neg (fun h=>by rw [ht] at h;exact absurd h.1 (by decide)),if_neg (fun h=>e1 h.2.2.2.2.1)];rfl
 have b0:(bAt p.B p.e == 0)=true:=beq_iff_eq.2 e0;have b1:(bAt p.B (p.e-8) == 0)=false:=beq_eq_false_iff_ne.2 e1;clear e0 e1;have he0:¬ p.e<0:=by omega
 have he1:¬ 63<p.e:=by omega
 have br:(p.e / 8 == 2)=true:=beq_iff_eq.2 (by omega);have HP:=Qh (PAt.new w hB.1);have ct:=HP.out.turn;have ce:=HP.out.ep;rw [ht] at ct;have c0:=HP.out.sq p.e.toNat (by omega);have c1:=HP.out.sq (p.e-8).toNat (by omega);have c2:=HP.out.sq (p.e+8).toNat (by omega);obtain ⟨x00,x01⟩:=hB.2 p.e.toNat (by omega);obtain ⟨x10,x11⟩:=hB.2 (p.e-8).toNat (by omega);obtain ⟨x20,x21⟩:=hB.2 (p.e+8).toNat (by omega);unfold bAt at b0 b1;clear hB;generalize p.B.getD p.e.toNat 0=x0 at *;generalize p.B.getD (p.e-8).toNat 0=x1 at *;generalize p.B.getD (p.e+8).toNat 0=x2 at *;go_enter Tryz.func36,Tryz.ntmps36;go_wp2_with fail
 refine (Yo _ _ (by omega) (by omega)).mono ?_;rintro e w' ⟨rfl,rfl⟩;go_wp2;go_ret;exact ⟨by rw [HF.out];rfl,(Kept.refl _).alloc _⟩
set_option maxHeartbeats 1000000 in
theorem rpassed2_b (p:Ps) (hB:Brd p.B) (ht:p.t=1) (hlo:16≤p.e) (hhi:p.e<24) (e0:bAt p.B p.e=0) (e1:bAt p.B (p.e-8)=0) (e2:bAt p.B (p.e+8)≠1) (w:World) :
  Calls Tryz.prog 36 #[.agg (pl p).toArray] w fun e w'=>e=.returned (.int .i64 (passI p))∧Kept w w':=by
 have HF:Hid (passI p=-1):=by unfold passI;rw [if_neg (fun h=>by rw [ht] at h;exact absurd h.1 (by decide)),if_neg (fun h=>e2 h.2.2.2.2.2)];rfl
 have b0:(bAt p.B p.e == 0)=true:=beq_iff_eq.2 e0;have b1:(bAt p.B (p.e-8) == 0)=true:=beq_iff_eq.2 e1;have b2:(bAt p.B (p.e+8) == 1)=false:=beq_eq_false_iff_ne.2 e2;clear e0 e1 e2;have he0:¬ p.e<0:=by omega
 have he1:¬ 63<p.e:=by omega
 have br:(p.e / 8 == 2)=true:=beq_iff_eq.2 (by omega);have HP:=Qh (PAt.new w hB.1);have ct:=HP.out.turn;have ce:=HP.out.ep;rw [ht] at ct;have c0:=HP.out.sq p.e.toNat (by omega);have c1:=HP.out.sq (p.e-8).toNat (by omega);have c2:=HP.out.sq (p.e+8).toNat (by omega);obtain ⟨x00,x01⟩:=hB.2 p.e.toNat (by omega);obtain ⟨x10,x11⟩:=hB.2 (p.e-8).toNat (by omega);obtain ⟨x20,x21⟩:=hB.2 (p.e+8).toNat (by omega);unfold bAt at b0 b1 b2;clear hB;generalize p.B.getD p.e.toNat 0=x0 at *;generalize p.B.getD (p.e-8).toNat 0=x1 at *;generalize p.B.getD (p.e+8).toNat 0=x2 at *;go_enter Tryz.func36,Tryz.ntmps36;go_wp2_with fail
 refine (Yo _ _ (by omega) (by omega)).mono ?_;rintro e w' ⟨rfl,rfl⟩;go_wp2;go_ret;exact ⟨by rw [HF.out];rfl,(Kept.refl _).alloc _⟩
set_option maxHeartbeats 1000000 in
theorem rpassed3_b (p:Ps) (hB:Brd p.B) (ht:p.t=1) (hlo:16≤p.e) (hhi:p.e<24) (e0:bAt p.B p.e=0) (e1:bAt p.B (p.e-8)=0) (e2:bAt p.B (p.e+8)=1) (w:World) :
  Calls Tryz.prog 36 #[.agg (pl p).toArray] w fun e w'=>e=.returned (.int .i64 (passI p))∧Kept w w':=by
 have HF:Hid (passI p=p.e+8):=by unfold passI;rw [if_neg (fun h=>by rw [ht] at h;exact absurd h.1 (by decide)),if_pos ⟨ht,by omega,by omega,e0,e1,e2⟩];rfl
 have b0:(bAt p.B p.e == 0)=true:=beq_iff_eq.2 e0;have b1:(bAt p.B (p.e-8) == 0)=true:=beq_iff_eq.2 e1;have b2:(bAt p.B (p.e+8) == 1)=true:=beq_iff_eq.2 e2;clear e0 e1 e2;have he0:¬ p.e<0:=by omega
 have he1:¬ 63<p.e:=by omega
 have br:(p.e / 8 == 2)=true:=beq_iff_eq.2 (by omega);have HP:=Qh (PAt.new w hB.1);have ct:=HP.out.turn;have ce:=HP.out.ep;rw [ht] at ct;have c0:=HP.out.sq p.e.toNat (by omega);have c1:=HP.out.sq (p.e-8).toNat (by omega);have c2:=HP.out.sq (p.e+8).toNat (by omega);obtain ⟨x00,x01⟩:=hB.2 p.e.toNat (by omega);obtain ⟨x10,x11⟩:=hB.2 (p.e-8).toNat (by omega);obtain ⟨x20,x21⟩:=hB.2 (p.e+8).toNat (by omega);unfold bAt at b0 b1 b2;clear hB;generalize p.B.getD p.e.toNat 0=x0 at *;generalize p.B.getD (p.e-8).toNat 0=x1 at *;generalize p.B.getD (p.e+8).toNat 0=x2 at *;go_enter Tryz.func36,Tryz.ntmps36;go_wp2_with fail
 refine (Yo _ _ (by omega) (by omega)).mono ?_;rintro e w' ⟨rfl,rfl⟩;go_wp2;go_ret;exact ⟨by rw [HF.out];rfl,(Kept.refl _).alloc _⟩
theorem rpassed_is (p:Ps) (hB:Brd p.B) (w:World) :
  Calls Tryz.prog 36 #[.agg (pl p).toArray] w fun e w'=>e=.returned (.int .i64 (passI p))∧Kept w w':=by
 by_cases a0:p.e<0
 ·exact rpassed_low p hB a0 w
 ·by_cases a1:63<p.e
  ·exact rpassed_high p hB a1 w
  ·by_cases h0:p.t=0
   ·by_cases hr:40≤p.e∧p.e<48
    ·by_cases e0:bAt p.B p.e=0
     ·by_cases e1:bAt p.B (p.e+8)=0
      ·by_cases e2:bAt p.B (p.e-8)=(-1)
       ·exact rpassed3_w p hB h0 hr.1 hr.2 e0 e1 e2 w
       ·exact rpassed2_w p hB h0 hr.1 hr.2 e0 e1 e2 w
      ·exact rpassed1_w p hB h0 hr.1 hr.2 e0 e1 w
     ·exact rpassed0_w p hB h0 hr.1 hr.2 e0 w
    ·exact rpassed_off_w p hB (by omega) (by omega) h0 hr w
   ·by_cases h1:p.t=1
    ·by_cases hr:16≤p.e∧p.e<24
     ·by_cases e0:bAt p.B p.e=0
      ·by_cases e1:bAt p.B (p.e-8)=0
       ·by_cases e2:bAt p.B (p.e+8)=1
        ·exact rpassed3_b p hB h1 hr.1 hr.2 e0 e1 e2 w
        ·exact rpassed2_b p hB h1 hr.1 hr.2 e0 e1 e2 w
       ·exact rpassed1_b p hB h1 hr.1 hr.2 e0 e1 w
      ·exact rpassed0_b p hB h1 hr.1 hr.2 e0 w
     ·exact rpassed_off_b p hB (by omega) (by omega) h1 hr w
    ·exact rpassed_side p hB (by omega) (by omega) h0 h1 w
theorem rpw_board (p:Ps) (hB:Brd p.B) (a0:Qx p.B≠0) (w:World) :
  Calls Tryz.prog 11 #[.agg (pl p).toArray] w fun e w'=>e=.returned (.int .i64 (pwI p))∧Kept w w':=by
 have HP:=Qh (PAt.new w hB.1);have HK0:=Qh ((Kept.refl w).alloc (.cells (pl p).toArray 26));have HB:=Qh hB;have HC0:=Qh (Qan p.B hB);have HF:Hid (pwI p=Qx p.B):=by unfold pwI;rw [if_pos a0];rfl
 have b0:(Qx p.B != 0)=true:=bne_iff_ne.2 a0;clear hB a0;go_enter Tryz.func11,Tryz.ntmps11;go_wp2_with (first|(refine Qc (by rfl) _ rfl _ rfl _ (HP.out) ?_)|(refine Qd (by rfl) _ rfl _ rfl _ (HP.out) ?_))
 refine (HC0.out _).mono ?_;rintro e w1 ⟨rfl,k1⟩;have HK1:=Qh (HK0.out.trans k1);have HP1:=Qh (HP.out.kept k1);have ct:=HP1.out.turn;have cc:=HP1.out.cas;have ce:=HP1.out.ep;clear k1;go_wp2;go_ret;exact ⟨by rw [HF.out];rfl,HK1.out⟩
theorem rpw_t0 (p:Ps) (hB:Brd p.B) (a0:Qx p.B=0) (h:p.t<0) (w:World) :
  Calls Tryz.prog 11 #[.agg (pl p).toArray] w fun e w'=>e=.returned (.int .i64 (pwI p))∧Kept w w':=by
 have HP:=Qh (PAt.new w hB.1);have HK0:=Qh ((Kept.refl w).alloc (.cells (pl p).toArray 26));have HB:=Qh hB;have HC0:=Qh (Qan p.B hB)
 have HF:Hid (pwI p=5):=by
  have:Jb p=false:=by rw [← Bool.not_eq_true,Yn];omega
  unfold pwI;rw [if_neg (by omega),if_pos this];rfl
 rw [a0] at HC0;clear hB a0;go_enter Tryz.func11,Tryz.ntmps11;go_wp2_with (first|(refine Qc (by rfl) _ rfl _ rfl _ (HP.out) ?_)|(refine Qd (by rfl) _ rfl _ rfl _ (HP.out) ?_))
 refine (HC0.out _).mono ?_;rintro e w1 ⟨rfl,k1⟩;have HK1:=Qh (HK0.out.trans k1);have HP1:=Qh (HP.out.kept k1);have ct:=HP1.out.turn;have cc:=HP1.out.cas;have ce:=HP1.out.ep;clear k1;go_wp2;go_ret;exact ⟨by rw [HF.out];rfl,HK1.out⟩
theorem rpw_t1 (p:Ps) (hB:Brd p.B) (a0:Qx p.B=0) (h:1<p.t) (w:World) :
  Calls Tryz.prog 11 #[.agg (pl p).toArray] w fun e w'=>e=.returned (.int .i64 (pwI p))∧Kept w w':=by
 have HP:=Qh (PAt.new w hB.1);have HK0:=Qh ((Kept.refl w).alloc (.cells (pl p).toArray 26));have HB:=Qh hB;have HC0:=Qh (Qan p.B hB)
 have HF:Hid (pwI p=5):=by
  have:Jb p=false:=by rw [← Bool.not_eq_true,Yn];omega
  unfold pwI;rw [if_neg (by omega),if_pos this];rfl
 have n0:¬ p.t<0:=by omega
 rw [a0] at HC0;clear hB a0;go_enter Tryz.func11,Tryz.ntmps11;go_wp2_with (first|(refine Qc (by rfl) _ rfl _ rfl _ (HP.out) ?_)|(refine Qd (by rfl) _ rfl _ rfl _ (HP.out) ?_))
 refine (HC0.out _).mono ?_;rintro e w1 ⟨rfl,k1⟩;have HK1:=Qh (HK0.out.trans k1);have HP1:=Qh (HP.out.kept k1);have ct:=HP1.out.turn;have cc:=HP1.out.cas;have ce:=HP1.out.ep;clear k1;go_wp2;go_ret;exact ⟨by rw [HF.out];rfl,HK1.out⟩
theorem rpw_c0 (p:Ps) (hB:Brd p.B) (a0:Qx p.B=0) (n0:¬ p.t<0) (n1:¬ 1<p.t) (h:p.c<0) (w:World) :
  Calls Tryz.prog 11 #[.agg (pl p).toArray] w fun e w'=>e=.returned (.int .i64 (pwI p))∧Kept w w':=by
 have HP:=Qh (PAt.new w hB.1);have HK0:=Qh ((Kept.refl w).alloc (.cells (pl p).toArray 26));have HB:=Qh hB;have HC0:=Qh (Qan p.B hB)
 have HF:Hid (pwI p=5):=by
  have:Jb p=false:=by rw [← Bool.not_eq_true,Yn];omega
  unfold pwI;rw [if_neg (by omega),if_pos this];rfl
 rw [a0] at HC0;clear hB a0;go_enter Tryz.func11,Tryz.ntmps11;go_wp2_with (first|(refine Qc (by rfl) _ rfl _ rfl _ (HP.out) ?_)|(refine Qd (by rfl) _ rfl _ rfl _ (HP.out) ?_))
 refine (HC0.out _).mono ?_;rintro e w1 ⟨rfl,k1⟩;have HK1:=Qh (HK0.out.trans k1);have HP1:=Qh (HP.out.kept k1);have ct:=HP1.out.turn;have cc:=HP1.out.cas;have ce:=HP1.out.ep;clear k1;go_wp2;go_ret;exact ⟨by rw [HF.out];rfl,HK1.out⟩
theorem rpw_c1 (p:Ps) (hB:Brd p.B) (a0:Qx p.B=0) (n0:¬ p.t<0) (n1:¬ 1<p.t) (h:15<p.c) (w:World) :
  Calls Tryz.prog 11 #[.agg (pl p).toArray] w fun e w'=>e=.returned (.int .i64 (pwI p))∧Kept w w':=by
 have HP:=Qh (PAt.new w hB.1);have HK0:=Qh ((Kept.refl w).alloc (.cells (pl p).toArray 26));have HB:=Qh hB;have HC0:=Qh (Qan p.B hB)
 have HF:Hid (pwI p=5):=by
  have:Jb p=false:=by rw [← Bool.not_eq_true,Yn];omega
  unfold pwI;rw [if_neg (by omega),if_pos this];rfl
 have n2:¬ p.c<0:=by omega
 rw [a0] at HC0;clear hB a0;go_enter Tryz.func11,Tryz.ntmps11;go_wp2_with (first|(refine Qc (by rfl) _ rfl _ rfl _ (HP.out) ?_)|(refine Qd (by rfl) _ rfl _ rfl _ (HP.out) ?_))
 refine (HC0.out _).mono ?_;rintro e w1 ⟨rfl,k1⟩;have HK1:=Qh (HK0.out.trans k1);have HP1:=Qh (HP.out.kept k1);have ct:=HP1.out.turn;have cc:=HP1.out.cas;have ce:=HP1.out.ep;clear k1;go_wp2;go_ret;exact ⟨by rw [HF.out];rfl,HK1.out⟩
theorem rpw_e0 (p:Ps) (hB:Brd p.B) (a0:Qx p.B=0) (n0:¬ p.t<0) (n1:¬ 1<p.t) (n2:¬ p.c<0) (n3:¬ 15<p.c) (h:p.e < -1) (w:World) :
  Calls Tryz.prog 11 #[.agg (pl p).toArray] w fun e w'=>e=.returned (.int .i64 (pwI p))∧Kept w w':=by
 have HP:=Qh (PAt.new w hB.1);have HK0:=Qh ((Kept.refl w).alloc (.cells (pl p).toArray 26));have HB:=Qh hB;have HC0:=Qh (Qan p.B hB)
 have HF:Hid (pwI p=5):=by
  have:Jb p=false:=by rw [← Bool.not_eq_true,Yn];omega
  unfold pwI;rw [if_neg (by omega),if_pos this];rfl
 rw [a0] at HC0;clear hB a0;go_enter Tryz.func11,Tryz.ntmps11;go_wp2_with (first|(refine Qc (by rfl) _ rfl _ rfl _ (HP.out) ?_)|(refine Qd (by rfl) _ rfl _ rfl _ (HP.out) ?_))
 refine (HC0.out _).mono ?_;rintro e w1 ⟨rfl,k1⟩;have HK1:=Qh (HK0.out.trans k1);have HP1:=Qh (HP.out.kept k1);have ct:=HP1.out.turn;have cc:=HP1.out.cas;have ce:=HP1.out.ep;clear k1;go_wp2;go_ret;exact ⟨by rw [HF.out];rfl,HK1.out⟩
theorem rpw_e1 (p:Ps) (hB:Brd p.B) (a0:Qx p.B=0) (n0:¬ p.t<0) (n1:¬ 1<p.t) (n2:¬ p.c<0) (n3:¬ 15<p.c) (h:63<p.e) (w:World) :
  Calls Tryz.prog 11 #[.agg (pl p).toArray] w fun e w'=>e=.returned (.int .i64 (pwI p))∧Kept w w':=by
 have HP:=Qh (PAt.new w hB.1);have HK0:=Qh ((Kept.refl w).alloc (.cells (pl p).toArray 26));have HB:=Qh hB;have HC0:=Qh (Qan p.B hB)
 have HF:Hid (pwI p=5):=by
  have:Jb p=false:=by rw [← Bool.not_eq_true,Yn];omega
  unfold pwI;rw [if_neg (by omega),if_pos this];rfl
 have n4:¬ p.e < -1:=by omega
 rw [a0] at HC0;clear hB a0;go_enter Tryz.func11,Tryz.ntmps11;go_wp2_with (first|(refine Qc (by rfl) _ rfl _ rfl _ (HP.out) ?_)|(refine Qd (by rfl) _ rfl _ rfl _ (HP.out) ?_))
 refine (HC0.out _).mono ?_;rintro e w1 ⟨rfl,k1⟩;have HK1:=Qh (HK0.out.trans k1);have HP1:=Qh (HP.out.kept k1);have ct:=HP1.out.turn;have cc:=HP1.out.cas;have ce:=HP1.out.ep;clear k1;go_wp2;go_ret;exact ⟨by rw [HF.out];rfl,HK1.out⟩
set_option maxRecDepth 100000 in
set_option maxHeartbeats 2000000 in
theorem rpw_far (p:Ps) (hB:Brd p.B) (a0:Qx p.B=0) (a1:Jb p=true) (ha:(farA (kingI p.B 0) (kingI p.B 1) == 1)=true) (w:World) :
  Calls Tryz.prog 11 #[.agg (pl p).toArray] w fun e w'=>e=.returned (.int .i64 (pwI p))∧Kept w w':=by
 have HP:=Qh (PAt.new w hB.1);have HK0:=Qh ((Kept.refl w).alloc (.cells (pl p).toArray 26));have HB:=Qh hB;have HC0:=Qh (Qan p.B hB);obtain ⟨t01,⟨c0,c1⟩,e0,e1⟩:=(Yn p).1 a1;have hwr:IntKind.i64.wrap (1-p.t)=1-p.t:=by rcases t01 with h|h <;> rw [h] <;> decide
 have n0:¬ p.t<0:=by omega
 have n1:¬ 1<p.t:=by omega
 have n2:¬ p.c<0:=by omega
 have n3:¬ 15<p.c:=by omega
 have n4:¬ p.e < -1:=by omega
 have n5:¬ 63<p.e:=by omega
 have HKa:=Qh (rking_is p.B hB 0);have HKb:=Qh (rking_is p.B hB 1);have HFa:=Qh (rfar_any (kingI p.B 0) (kingI p.B 1));have HCk:=Qh (Jo p.B hB (1-p.t) (by omega))
 have HTo:Hid (Qae p=((farA (kingI p.B 0) (kingI p.B 1) == 1) || Qq p.B (1-p.t))):=by
  have:Qw p.t=1-p.t:=by unfold Qw;split <;> first|omega|(split <;> omega)
  unfold Qae;rw [this];rfl
 rw [ha] at HTo
 have HF:Hid (pwI p=9):=by
  unfold pwI;rw [if_neg (by omega),if_neg (by rw [a1];decide),if_pos (by rw [HTo.out];rfl)];rfl
 rw [a0] at HC0;clear hB a0 a1 HTo;generalize farA (kingI p.B 0) (kingI p.B 1)=F at *;generalize Qq p.B (1-p.t)=cb at *;generalize kingI p.B 0=K0 at *;generalize kingI p.B 1=K1 at *;go_enter Tryz.func11,Tryz.ntmps11;go_wp2_with (first|(refine Qc (by rfl) _ rfl _ rfl _ (HP.out) ?_)|(refine Qd (by rfl) _ rfl _ rfl _ (HP.out) ?_))
 refine (HC0.out _).mono ?_;rintro e w1 ⟨rfl,k1⟩;have HK1:=Qh (HK0.out.trans k1);have HP1:=Qh (HP.out.kept k1);have ct:=HP1.out.turn;have cc:=HP1.out.cas;have ce:=HP1.out.ep;clear k1;go_wp2;refine wp_region_held_drew (S:=Kept _) (by kernel_rfl) (Kept.refl _).drew (fun Qj=>?_);refine rT 0 39 (.pointer (some ⟨w.heap.size,0,none⟩)) rfl rfl Qj ?_;simp only [pA,pN,sZ,sU];refine rY 1 40 rfl rfl (Qp (by rfl) _ rfl _ rfl p HB.out.1 (fun _ h=>(HP1.out).kept h)) Qj ?_;simp only [pA,pN,sZ,sU];refine rT 3 42 (.pointer (some ⟨w.heap.size,0,none⟩)) rfl rfl Qj ?_;simp only [pA,pN,sZ,sU];refine rY 4 43 rfl rfl (Qp (by rfl) _ rfl _ rfl p HB.out.1 (fun _ h=>(HP1.out).kept h)) Qj ?_;simp only [pA,pN,sZ,sU];refine rR 2 rfl (fun K hK=>?_);go_simp;refine (HKa.out _).mono ?_;rintro e x1 ⟨rfl,gx1⟩;refine hK.out _ _ (Qj.trans gx1) (fun _=>?_);replace Qj:=Qj.trans gx1;clear hK K;refine rR 5 rfl (fun K hK=>?_);go_simp;refine (HKb.out _).mono ?_;rintro e x2 ⟨rfl,gx2⟩;refine hK.out _ _ (Qj.trans gx2) (fun _=>?_);replace Qj:=Qj.trans gx2;clear hK K;refine rR 6 rfl (fun K hK=>?_);go_simp;refine (HFa.out _).mono ?_;rintro e x3 ⟨rfl,gx3⟩;refine hK.out _ _ (Qj.trans gx3) (fun _=>?_);replace Qj:=Qj.trans gx3;clear hK K;refine rT 7 46 (.bool true) rfl rfl Qj ?_;simp only [pA,pN,sZ,sU];refine rT 8 47 (.bool true) rfl rfl Qj ?_;simp only [pA,pN,sZ,sU];refine rN 9 48 rfl rfl Qj ?_;simp only [pA,pN,sZ,sU];refine rN 10 49 rfl rfl Qj ?_;simp only [pA,pN,sZ,sU];refine rN 11 50 rfl rfl Qj ?_;simp only [pA,pN,sZ,sU];refine rN 12 51 rfl rfl Qj ?_;simp only [pA,pN,sZ,sU];refine rN 13 52 rfl rfl Qj ?_;simp only [pA,pN,sZ,sU];refine rN 14 53 rfl rfl Qj ?_;simp only [pA,pN,sZ,sU];refine rT 15 54 (.bool true) rfl rfl Qj ?_;simp only [pA,pN,sZ,sU];refine wpAnyH_done (by kernel_rfl) ?_ _;have HA:=Qh Qj;clear Qj ct cc ce;go_wp2;go_ret;exact ⟨by rw [HF.out];rfl,HK1.out.trans HA.out⟩
set_option maxRecDepth 100000 in
set_option maxHeartbeats 2000000 in
theorem rpw_chk (p:Ps) (hB:Brd p.B) (a0:Qx p.B=0) (a1:Jb p=true) (ha:(farA (kingI p.B 0) (kingI p.B 1) == 1)=false) (hb:Qq p.B (1-p.t)=true) (w:World) :
  Calls Tryz.prog 11 #[.agg (pl p).toArray] w fun e w'=>e=.returned (.int .i64 (pwI p))∧Kept w w':=by
 have HP:=Qh (PAt.new w hB.1);have HK0:=Qh ((Kept.refl w).alloc (.cells (pl p).toArray 26));have HB:=Qh hB;have HC0:=Qh (Qan p.B hB);obtain ⟨t01,⟨c0,c1⟩,e0,e1⟩:=(Yn p).1 a1;have hwr:IntKind.i64.wrap (1-p.t)=1-p.t:=by rcases t01 with h|h <;> rw [h] <;> decide
 have n0:¬ p.t<0:=by omega
 have n1:¬ 1<p.t:=by omega
 have n2:¬ p.c<0:=by omega
 have n3:¬ 15<p.c:=by omega
 have n4:¬ p.e < -1:=by omega
 have n5:¬ 63<p.e:=by omega
 have HKa:=Qh (rking_is p.B hB 0);have HKb:=Qh (rking_is p.B hB 1);have HFa:=Qh (rfar_any (kingI p.B 0) (kingI p.B 1));have HCk:=Qh (Jo p.B hB (1-p.t) (by omega))
 have HTo:Hid (Qae p=((farA (kingI p.B 0) (kingI p.B 1) == 1) || Qq p.B (1-p.t))):=by
  have:Qw p.t=1-p.t:=by unfold Qw;split <;> first|omega|(split <;> omega)
  unfold Qae;rw [this];rfl
 rw [ha,hb] at HTo
 have HF:Hid (pwI p=9):=by
  unfold pwI;rw [if_neg (by omega),if_neg (by rw [a1];decide),if_pos (by rw [HTo.out];rfl)];rfl
 rw [a0] at HC0;rw [hb] at HCk;clear hB a0 a1 HTo hb;generalize farA (kingI p.B 0) (kingI p.B 1)=F at *;generalize kingI p.B 0=K0 at *;generalize kingI p.B 1=K1 at *;go_enter Tryz.func11,Tryz.ntmps11;go_wp2_with (first|(refine Qc (by rfl) _ rfl _ rfl _ (HP.out) ?_)|(refine Qd (by rfl) _ rfl _ rfl _ (HP.out) ?_))
 refine (HC0.out _).mono ?_;rintro e w1 ⟨rfl,k1⟩;have HK1:=Qh (HK0.out.trans k1);have HP1:=Qh (HP.out.kept k1);have ct:=HP1.out.turn;have cc:=HP1.out.cas;have ce:=HP1.out.ep;clear k1;go_wp2;refine wp_region_held_drew (S:=Kept _) (by kernel_rfl) (Kept.refl _).drew (fun Qj=>?_);refine rT 0 39 (.pointer (some ⟨w.heap.size,0,none⟩)) rfl rfl Qj ?_;simp only [pA,pN,sZ,sU];refine rY 1 40 rfl rfl (Qp (by rfl) _ rfl _ rfl p HB.out.1 (fun _ h=>(HP1.out).kept h)) Qj ?_;simp only [pA,pN,sZ,sU];refine rT 3 42 (.pointer (some ⟨w.heap.size,0,none⟩)) rfl rfl Qj ?_;simp only [pA,pN,sZ,sU];refine rY 4 43 rfl rfl (Qp (by rfl) _ rfl _ rfl p HB.out.1 (fun _ h=>(HP1.out).kept h)) Qj ?_;simp only [pA,pN,sZ,sU];refine rR 2 rfl (fun K hK=>?_);go_simp;refine (HKa.out _).mono ?_;rintro e x1 ⟨rfl,gx1⟩;refine hK.out _ _ (Qj.trans gx1) (fun _=>?_);replace Qj:=Qj.trans gx1;clear hK K;refine rR 5 rfl (fun K hK=>?_);go_simp;refine (HKb.out _).mono ?_;rintro e x2 ⟨rfl,gx2⟩;refine hK.out _ _ (Qj.trans gx2) (fun _=>?_);replace Qj:=Qj.trans gx2;clear hK K;refine rR 6 rfl (fun K hK=>?_);go_simp;refine (HFa.out _).mono ?_;rintro e x3 ⟨rfl,gx3⟩;refine hK.out _ _ (Qj.trans gx3) (fun _=>?_);replace Qj:=Qj.trans gx3;clear hK K;refine rT 7 46 (.bool false) rfl rfl Qj ?_;simp only [pA,pN,sZ,sU];refine rT 8 47 (.bool false) rfl rfl Qj ?_;simp only [pA,pN,sZ,sU];refine rT 9 48 (.pointer (some ⟨w.heap.size,0,none⟩)) rfl rfl Qj ?_;simp only [pA,pN,sZ,sU];refine rY 10 49 rfl rfl (Qp (by rfl) _ rfl _ rfl p HB.out.1 (fun _ h=>(HP1.out).kept h)) Qj ?_;simp only [pA,pN,sZ,sU];refine rT 11 50 (.pointer (some ⟨w.heap.size,64,none⟩)) rfl rfl Qj ?_;simp only [pA,pN,sZ,sU];refine rC 12 51 (.int .i64 p.t) rfl rfl (fun _ h=>Qa h (HP1.out.turn)) Qj ?_;simp only [pA,pN,sZ,sU];refine rT 13 52 (.int .i64 (1-p.t)) rfl rfl Qj ?_;simp only [pA,pN,sZ,sU];refine rR 14 rfl (fun K hK=>?_);go_simp;refine (HCk.out _).mono ?_;rintro e x4 ⟨rfl,gx4⟩;refine hK.out _ _ (Qj.trans gx4) (fun _=>?_);replace Qj:=Qj.trans gx4;clear hK K;refine rT 15 54 (.bool true) rfl rfl Qj ?_;simp only [pA,pN,sZ,sU];refine wpAnyH_done (by kernel_rfl) ?_ _;have HA:=Qh Qj;clear Qj ct cc ce;go_wp2;go_ret;exact ⟨by rw [HF.out];rfl,HK1.out.trans HA.out⟩
def rg (k:Nat):Int:=[1,2,4,8,16].getD k 0
theorem rg_at {k:Nat} (hk:k<4):rg k=hR k∧1≤rg k∧rg k≤8∧2*rg k=rg (k+1):=by
 have:k=0∨k=1∨k=2∨k=3:=by omega
 rcases this with rfl|rfl|rfl|rfl <;> decide
theorem rg_end {k:Nat} (hk:k≤4) (h:¬ k<4):¬ rg k≤8:=by
 obtain rfl:k=4:=by omega
 decide
set_option maxRecDepth 100000 in
set_option maxHeartbeats 4000000 in
theorem rpw_rest (p:Ps) (hB:Brd p.B) (a0:Qx p.B=0) (a1:Jb p=true) (a2:Qae p=false) (w:World) :
  Calls Tryz.prog 11 #[.agg (pl p).toArray] w fun e w'=>e=.returned (.int .i64 (pwI p))∧Kept w w':=by
 have HP:=Qh (PAt.new w hB.1);have HK0:=Qh ((Kept.refl w).alloc (.cells (pl p).toArray 26));have HB:=Qh hB;have HC0:=Qh (Qan p.B hB);obtain ⟨t01,⟨c0,c1⟩,e0,e1⟩:=(Yn p).1 a1;have hwr:IntKind.i64.wrap (1-p.t)=1-p.t:=by rcases t01 with h|h <;> rw [h] <;> decide
 have n0:¬ p.t<0:=by omega
 have n1:¬ 1<p.t:=by omega
 have n2:¬ p.c<0:=by omega
 have n3:¬ 15<p.c:=by omega
 have n4:¬ p.e < -1:=by omega
 have n5:¬ 63<p.e:=by omega
 have HKa:=Qh (rking_is p.B hB 0);have HKb:=Qh (rking_is p.B hB 1);have HFa:=Qh (rfar_any (kingI p.B 0) (kingI p.B 1));have HCk:=Qh (Jo p.B hB (1-p.t) (by omega))
 have HTo:Hid (Qae p=((farA (kingI p.B 0) (kingI p.B 1) == 1) || Qq p.B (1-p.t))):=by
  have:Qw p.t=1-p.t:=by unfold Qw;split <;> first|omega|(split <;> omega)
  unfold Qae;rw [this];rfl
 rw [a2] at HTo;obtain ⟨ha,hb⟩:=Bool.or_eq_false_iff.1 HTo.out.symm
 have HF10:Hid (casB p=false→pwI p=10):=by
  show _→_;intro h;unfold pwI;rw [if_neg (by omega),if_neg (by rw [a1];decide),if_neg (by rw [a2];decide),if_pos h]
 have HF11:Hid (casB p=true→0≤p.e→passI p<0→pwI p=11):=by
  show _→_;intro h h1 h2
  have:epB p=false:=by
   unfold epB passB;rw [show decide (0≤passI p)=false by rw [decide_eq_false_iff_not];omega,show (p.e == -1)=false by rw [beq_eq_false_iff_ne];omega];rfl
  unfold pwI;rw [if_neg (by omega),if_neg (by rw [a1];decide),if_neg (by rw [a2];decide),if_neg (by rw [h];decide),if_pos this]
 have HF0:Hid (casB p=true→(p.e<0∨0≤passI p)→pwI p=0):=by
  show _→_;intro h h1
  have:epB p=true:=by
   unfold epB passB;rw [Bool.or_eq_true,decide_eq_true_iff,beq_iff_eq];omega
  unfold pwI;rw [if_neg (by omega),if_neg (by rw [a1];decide),if_neg (by rw [a2];decide),if_neg (by rw [h];decide),if_neg (by rw [this];decide)]
 have HPs:=Qh (rpassed_is p hB);have HBk:=Qh (rbacked_is p.B hB);have HHas:=Qh (fun r w h1 h2=>rhas_is p.c r w c0 c1 h1 h2);rw [a0] at HC0;rw [hb] at HCk;clear hB a0 a1 a2 HTo hb;generalize farA (kingI p.B 0) (kingI p.B 1)=F at *;generalize kingI p.B 0=K0 at *;generalize kingI p.B 1=K1 at *;go_enter Tryz.func11,Tryz.ntmps11;go_wp2_with (first|(refine Qc (by rfl) _ rfl _ rfl _ (HP.out) ?_)|(refine Qd (by rfl) _ rfl _ rfl _ (HP.out) ?_))
 refine (HC0.out _).mono ?_;rintro e w1 ⟨rfl,k1⟩;have HK1:=Qh (HK0.out.trans k1);have HP1:=Qh (HP.out.kept k1);have ct:=HP1.out.turn;have cc:=HP1.out.cas;have ce:=HP1.out.ep;clear k1;go_wp2;refine wp_region_held_drew (S:=Kept _) (by kernel_rfl) (Kept.refl _).drew (fun Qj=>?_);refine rT 0 39 (.pointer (some ⟨w.heap.size,0,none⟩)) rfl rfl Qj ?_;simp only [pA,pN,sZ,sU];refine rY 1 40 rfl rfl (Qp (by rfl) _ rfl _ rfl p HB.out.1 (fun _ h=>(HP1.out).kept h)) Qj ?_;simp only [pA,pN,sZ,sU];refine rT 3 42 (.pointer (some ⟨w.heap.size,0,none⟩)) rfl rfl Qj ?_;simp only [pA,pN,sZ,sU];refine rY 4 43 rfl rfl (Qp (by rfl) _ rfl _ rfl p HB.out.1 (fun _ h=>(HP1.out).kept h)) Qj ?_;simp only [pA,pN,sZ,sU];refine rR 2 rfl (fun K hK=>?_);go_simp;refine (HKa.out _).mono ?_;rintro e x1 ⟨rfl,gx1⟩;refine hK.out _ _ (Qj.trans gx1) (fun _=>?_);replace Qj:=Qj.trans gx1;clear hK K;refine rR 5 rfl (fun K hK=>?_);go_simp;refine (HKb.out _).mono ?_;rintro e x2 ⟨rfl,gx2⟩;refine hK.out _ _ (Qj.trans gx2) (fun _=>?_);replace Qj:=Qj.trans gx2;clear hK K;refine rR 6 rfl (fun K hK=>?_);go_simp;refine (HFa.out _).mono ?_;rintro e x3 ⟨rfl,gx3⟩;refine hK.out _ _ (Qj.trans gx3) (fun _=>?_);replace Qj:=Qj.trans gx3;clear hK K;refine rT 7 46 (.bool false) rfl rfl Qj ?_;simp only [pA,pN,sZ,sU];refine rT 8 47 (.bool false) rfl rfl Qj ?_;simp only [pA,pN,sZ,sU];refine rT 9 48 (.pointer (some ⟨w.heap.size,0,none⟩)) rfl rfl Qj ?_;simp only [pA,pN,sZ,sU];refine rY 10 49 rfl rfl (Qp (by rfl) _ rfl _ rfl p HB.out.1 (fun _ h=>(HP1.out).kept h)) Qj ?_;simp only [pA,pN,sZ,sU];refine rT 11 50 (.pointer (some ⟨w.heap.size,64,none⟩)) rfl rfl Qj ?_;simp only [pA,pN,sZ,sU];refine rC 12 51 (.int .i64 p.t) rfl rfl (fun _ h=>Qa h (HP1.out.turn)) Qj ?_;simp only [pA,pN,sZ,sU];refine rT 13 52 (.int .i64 (1-p.t)) rfl rfl Qj ?_;simp only [pA,pN,sZ,sU];refine rR 14 rfl (fun K hK=>?_);go_simp;refine (HCk.out _).mono ?_;rintro e x4 ⟨rfl,gx4⟩;refine hK.out _ _ (Qj.trans gx4) (fun _=>?_);replace Qj:=Qj.trans gx4;clear hK K;refine rT 15 54 (.bool false) rfl rfl Qj ?_;simp only [pA,pN,sZ,sU];refine wpAnyH_done (by kernel_rfl) ?_ _;have HK2:=Qh (HK1.out.trans Qj);have HP2:=Qh (HP1.out.kept Qj);clear Qj ct cc ce gx1 gx2 gx3 gx4;go_wp2
 go_loopw [4] (fun t4 wr=>∃ k:Nat,k≤4∧t4=.int .i64 (rg k)∧(∀ j,j<k→okC p j=true)∧Kept x4 wr) (fun t4 _=>(16-intOf t4).toNat)
 case atStart=>exact ⟨0,by omega,rfl,fun j hj=>by omega,Kept.refl _⟩
 case round =>
  obtain ⟨k,hk,rfl,hno,hK⟩:=hrel;have HNo:=Qh hno;have HK:=Qh (HK2.out.trans hK);have HKr:=Qh hK;have HPr:=Qh (HP2.out.kept hK);clear hno hK;by_cases hlt:k<4
  ·obtain ⟨r1,r2,r3,r4⟩:=rg_at hlt
   have HN:=Qh r4;have HOk:Hid (okC p k=(!rgtB p.c (rg k) || backB p.B (rg k))):=by rw [r1];rfl
   have HH:=Qh (fun w=>HHas.out (rg k) w r2 r3);have HBr:=Qh (HBk.out (rg k));have cc:=HPr.out.cas;clear r1 r4;generalize backB p.B (rg k)=bb at *;generalize hrr:rg k=r at *;have HRR:=Qh hrr;clear hrr
   cases hh:rgtB p.c r
   ·rw [hh] at HOk HH
    clear hh;go_wp2_with fail
    refine (HH.out _).mono ?_;rintro e w3 ⟨rfl,k3⟩;have HK3:=Qh (HKr.out.trans k3);clear k3 cc;go_wp2;go_roundw
    case rel=>exact ⟨k+1,by omega,by rw [← HN.out],fun j hj=>by rcases Nat.lt_succ_iff_lt_or_eq.1 hj with h|h;exact HNo.out j h;rw [h,HOk.out];rfl,HK3.out⟩
    case measure=>simp [intOf];omega
   ·rw [hh] at HOk HH
    clear hh
    cases bb
    ·have HF:=Qh (HF10.out (cas_no hlt HOk.out))
     go_wp2_with fail
     refine (HH.out _).mono ?_;rintro e w3 ⟨rfl,k3⟩;have HK3:=Qh (HK.out.trans k3);have HP3:=Qh (HPr.out.kept k3);clear k3 cc;go_wp2_with (first|(refine Qc (by rfl) _ rfl _ rfl _ (HP3.out) ?_)|(refine Qd (by rfl) _ rfl _ rfl _ (HP3.out) ?_))
     refine (HBr.out _).mono ?_;rintro e w4 ⟨rfl,k4⟩;have HK4:=Qh (HK3.out.trans k4);clear k4;go_wp2;go_ret;exact ⟨by rw [HF.out];rfl,HK4.out⟩
    ·skip
     go_wp2_with fail
     refine (HH.out _).mono ?_;rintro e w3 ⟨rfl,k3⟩;have HK3:=Qh (HKr.out.trans k3);have HP3:=Qh (HPr.out.kept k3);clear k3 cc;go_wp2_with (first|(refine Qc (by rfl) _ rfl _ rfl _ (HP3.out) ?_)|(refine Qd (by rfl) _ rfl _ rfl _ (HP3.out) ?_))
     refine (HBr.out _).mono ?_;rintro e w4 ⟨rfl,k4⟩;have HK4:=Qh (HK3.out.trans k4);clear k4;go_wp2;go_roundw
     case rel=>exact ⟨k+1,by omega,by rw [← HN.out],fun j hj=>by rcases Nat.lt_succ_iff_lt_or_eq.1 hj with h|h;exact HNo.out j h;rw [h,HOk.out];rfl,HK4.out⟩
     case measure=>simp [intOf];omega
  ·have HCas:=Qh (cas_yes (p:=p) (fun j hj=>HNo.out j (by omega)))
   have hend:=rg_end hk hlt;have ce:=HPr.out.ep;generalize rg k=r at *;by_cases he:0≤p.e
   ·by_cases hp:passI p<0
    ·have HF:=Qh (HF11.out HCas.out he hp)
     generalize passI p=ps at *;go_wp2_with (first|(refine Qc (by rfl) _ rfl _ rfl _ (HPr.out) ?_)|(refine Qd (by rfl) _ rfl _ rfl _ (HPr.out) ?_))
     refine (HPs.out _).mono ?_;rintro e w3 ⟨rfl,k3⟩;have HK3:=Qh (HK.out.trans k3);clear k3 ce;go_wp2;go_ret;exact ⟨by rw [HF.out];rfl,HK3.out⟩
    ·have HF:=Qh (HF0.out HCas.out (by omega))
     have hp':¬ passI p<0:=hp;generalize passI p=ps at *;go_wp2_with (first|(refine Qc (by rfl) _ rfl _ rfl _ (HPr.out) ?_)|(refine Qd (by rfl) _ rfl _ rfl _ (HPr.out) ?_))
     refine (HPs.out _).mono ?_;rintro e w3 ⟨rfl,k3⟩;have HK3:=Qh (HK.out.trans k3);clear k3 ce;go_wp2;go_ret;exact ⟨by rw [HF.out];rfl,HK3.out⟩
   ·have HF:=Qh (HF0.out HCas.out (by omega))
    go_wp2;go_ret;exact ⟨by rw [HF.out];rfl,HK.out⟩
theorem Qaz (p:Ps) (hB:Brd p.B) (w:World) :
  Calls Tryz.prog 11 #[.agg (pl p).toArray] w fun e w'=>e=.returned (.int .i64 (pwI p))∧Kept w w':=by
 by_cases a0:Qx p.B=0
 ·cases a1:Jb p
  ·have:=mt (Yn p).2 (by rw [a1];decide)
   by_cases n0:p.t<0
   ·exact rpw_t0 p hB a0 n0 w
   ·by_cases n1:1<p.t
    ·exact rpw_t1 p hB a0 n1 w
    ·by_cases n2:p.c<0
     ·exact rpw_c0 p hB a0 n0 n1 n2 w
     ·by_cases n3:15<p.c
      ·exact rpw_c1 p hB a0 n0 n1 n3 w
      ·by_cases n4:p.e < -1
       ·exact rpw_e0 p hB a0 n0 n1 n2 n3 n4 w
       ·exact rpw_e1 p hB a0 n0 n1 n2 n3 (by omega) w
  ·cases a2:Qae p
   ·exact rpw_rest p hB a0 a1 a2 w
   ·obtain ⟨t01,_⟩:=(Yn p).1 a1
    have ho:Qw p.t=1-p.t:=by unfold Qw;split <;> first|omega|(split <;> omega)
    unfold Qae at a2;rw [ho] at a2
    cases ha:(farA (kingI p.B 0) (kingI p.B 1) == 1)
    ·rw [ha,Bool.false_or] at a2
     exact rpw_chk p hB a0 a1 ha a2 w
    ·exact rpw_far p hB a0 a1 ha w
 ·exact rpw_board p hB a0 w
end Go.Proofs.YtlpeiolgcaddjaaGreatDoor
