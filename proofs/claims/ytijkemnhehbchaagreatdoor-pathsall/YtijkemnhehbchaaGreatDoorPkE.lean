/- PoD: my texts, in their order. -/
import Derived.Test.YtijkemnhehbchaaGreatDoorPkD
namespace Go.Proofs.YtijkemnhehbchaaGreatDoor
open Go.RowKit
set_option linter.unusedVariables false
set_option linter.unusedSimpArgs false
def withinB (p:Ps):Bool:=decide (p.t=0∨p.t=1) && decide (0≤p.c∧p.c≤15) && decide (-1≤p.e∧p.e≤63)
theorem within_iff (p:Ps):withinB p=true↔(p.t=0∨p.t=1)∧(0≤p.c∧p.c≤15)∧(-1≤p.e∧p.e≤63):=by simp [withinB,and_assoc]
theorem within_t (p:Ps) (hB:Brd p.B) (h0:p.t≠0) (h1:p.t≠1) (w:World) :
  Calls Tryz.prog 35 #[.agg (pl p).toArray] w fun e w'=>e=.returned (.bool false)∧Kept w w':=by
 have HP:=Qh (PAt.new w hB.1)
 have HO:=Qh (other_any p.t)
 have ct:=HP.out.turn
 have ho:¬ 0≤otherI p.t:=by unfold otherI;rw [if_neg h0,if_neg h1];decide
 generalize otherI p.t=o at *
 clear hB
 go_enter Tryz.func35,Tryz.ntmps35
 go_wp2_with fail
 refine (HO.out _).mono ?_
 rintro e w1 ⟨rfl,k1⟩
 have HK1:=Qh (((Kept.refl w).alloc _).trans k1)
 have HP1:=Qh (HP.out.kept k1)
 have cc:=HP1.out.cas
 have ce:=HP1.out.ep
 clear k1 ct
 go_wp2
 go_ret
 exact ⟨rfl,HK1.out⟩
theorem within_c0 (p:Ps) (hB:Brd p.B) (ht:p.t=0∨p.t=1) (hc:p.c<0) (w:World) :
  Calls Tryz.prog 35 #[.agg (pl p).toArray] w fun e w'=>e=.returned (.bool false)∧Kept w w':=by
 have HP:=Qh (PAt.new w hB.1)
 have HO:=Qh (other_any p.t)
 have ct:=HP.out.turn
 have ho:¬ otherI p.t<0:=by unfold otherI;rcases ht with h|h <;> rw [h] <;> decide
 have ho':0≤otherI p.t:=by omega
 clear ho ht
 generalize otherI p.t=o at *
 have hc1:¬ 0≤p.c:=by omega
 clear hB
 go_enter Tryz.func35,Tryz.ntmps35
 go_wp2_with fail
 refine (HO.out _).mono ?_
 rintro e w1 ⟨rfl,k1⟩
 have HK1:=Qh (((Kept.refl w).alloc _).trans k1)
 have HP1:=Qh (HP.out.kept k1)
 have cc:=HP1.out.cas
 have ce:=HP1.out.ep
 clear k1 ct
 go_wp2
 go_ret
 exact ⟨rfl,HK1.out⟩
theorem within_c1 (p:Ps) (hB:Brd p.B) (ht:p.t=0∨p.t=1) (hc:15<p.c) (w:World) :
  Calls Tryz.prog 35 #[.agg (pl p).toArray] w fun e w'=>e=.returned (.bool false)∧Kept w w':=by
 have HP:=Qh (PAt.new w hB.1)
 have HO:=Qh (other_any p.t)
 have ct:=HP.out.turn
 have ho:¬ otherI p.t<0:=by unfold otherI;rcases ht with h|h <;> rw [h] <;> decide
 have ho':0≤otherI p.t:=by omega
 clear ho ht
 generalize otherI p.t=o at *
 have hc1:0≤p.c:=by omega
 have hc2:¬ p.c≤15:=by omega
 clear hB
 go_enter Tryz.func35,Tryz.ntmps35
 go_wp2_with fail
 refine (HO.out _).mono ?_
 rintro e w1 ⟨rfl,k1⟩
 have HK1:=Qh (((Kept.refl w).alloc _).trans k1)
 have HP1:=Qh (HP.out.kept k1)
 have cc:=HP1.out.cas
 have ce:=HP1.out.ep
 clear k1 ct
 go_wp2
 go_ret
 exact ⟨rfl,HK1.out⟩
theorem within_e (p:Ps) (hB:Brd p.B) (ht:p.t=0∨p.t=1) (hc0:0≤p.c) (hc1:p.c≤15) (he:p.e=-1) (w:World) :
  Calls Tryz.prog 35 #[.agg (pl p).toArray] w fun e w'=>e=.returned (.bool true)∧Kept w w':=by
 have HP:=Qh (PAt.new w hB.1)
 have HO:=Qh (other_any p.t)
 have ct:=HP.out.turn
 have ho:¬ otherI p.t<0:=by unfold otherI;rcases ht with h|h <;> rw [h] <;> decide
 have ho':0≤otherI p.t:=by omega
 clear ho ht
 generalize otherI p.t=o at *
 have he1:(p.e == -1)=true:=beq_iff_eq.2 he
 clear he
 clear hB
 go_enter Tryz.func35,Tryz.ntmps35
 go_wp2_with fail
 refine (HO.out _).mono ?_
 rintro e w1 ⟨rfl,k1⟩
 have HK1:=Qh (((Kept.refl w).alloc _).trans k1)
 have HP1:=Qh (HP.out.kept k1)
 have cc:=HP1.out.cas
 have ce:=HP1.out.ep
 clear k1 ct
 go_wp2
 go_ret
 exact ⟨rfl,HK1.out⟩
theorem within_yes (p:Ps) (hB:Brd p.B) (ht:p.t=0∨p.t=1) (hc0:0≤p.c) (hc1:p.c≤15) (he0:0≤p.e) (he2:p.e<64) (w:World) :
  Calls Tryz.prog 35 #[.agg (pl p).toArray] w fun e w'=>e=.returned (.bool true)∧Kept w w':=by
 have HP:=Qh (PAt.new w hB.1)
 have HO:=Qh (other_any p.t)
 have ct:=HP.out.turn
 have ho:¬ otherI p.t<0:=by unfold otherI;rcases ht with h|h <;> rw [h] <;> decide
 have ho':0≤otherI p.t:=by omega
 clear ho ht
 generalize otherI p.t=o at *
 have he1:(p.e == -1)=false:=beq_eq_false_iff_ne.2 (by omega)
 clear hB
 go_enter Tryz.func35,Tryz.ntmps35
 go_wp2_with fail
 refine (HO.out _).mono ?_
 rintro e w1 ⟨rfl,k1⟩
 have HK1:=Qh (((Kept.refl w).alloc _).trans k1)
 have HP1:=Qh (HP.out.kept k1)
 have cc:=HP1.out.cas
 have ce:=HP1.out.ep
 clear k1 ct
 go_wp2_with fail
 refine (right_yes _ _ he0 he2).mono ?_
 rintro e w' ⟨rfl,rfl⟩
 go_wp2
 go_ret
 exact ⟨rfl,HK1.out⟩
theorem within_no (p:Ps) (hB:Brd p.B) (ht:p.t=0∨p.t=1) (hc0:0≤p.c) (hc1:p.c≤15) (he:p.e < -1∨64≤p.e) (w:World) :
  Calls Tryz.prog 35 #[.agg (pl p).toArray] w fun e w'=>e=.returned (.bool false)∧Kept w w':=by
 have HP:=Qh (PAt.new w hB.1)
 have HO:=Qh (other_any p.t)
 have ct:=HP.out.turn
 have ho:¬ otherI p.t<0:=by unfold otherI;rcases ht with h|h <;> rw [h] <;> decide
 have ho':0≤otherI p.t:=by omega
 clear ho ht
 generalize otherI p.t=o at *
 have he1:(p.e == -1)=false:=beq_eq_false_iff_ne.2 (by omega)
 have HE:Hid (p.e<0∨64≤p.e):=by show _∨_;omega
 clear he
 clear hB
 go_enter Tryz.func35,Tryz.ntmps35
 go_wp2_with fail
 refine (HO.out _).mono ?_
 rintro e w1 ⟨rfl,k1⟩
 have HK1:=Qh (((Kept.refl w).alloc _).trans k1)
 have HP1:=Qh (HP.out.kept k1)
 have cc:=HP1.out.cas
 have ce:=HP1.out.ep
 clear k1 ct
 go_wp2_with fail
 refine (right_no _ _ HE.out).mono ?_
 rintro e w' ⟨rfl,rfl⟩
 go_wp2
 go_ret
 exact ⟨rfl,HK1.out⟩
theorem within_is (p:Ps) (hB:Brd p.B) (w:World) :
  Calls Tryz.prog 35 #[.agg (pl p).toArray] w fun e w'=>e=.returned (.bool (withinB p))∧Kept w w':=by
 have no:(¬ ((p.t=0∨p.t=1)∧(0≤p.c∧p.c≤15)∧(-1≤p.e∧p.e≤63)))→withinB p=false:=fun h=>by
  rw [← Bool.not_eq_true,within_iff];exact h
 by_cases ht:p.t=0∨p.t=1
 ·by_cases h0:p.c<0
  ·rw [no (by omega)];exact within_c0 p hB ht h0 w
  ·by_cases h1:15<p.c
   ·rw [no (by omega)];exact within_c1 p hB ht h1 w
   ·by_cases he:p.e=-1
    ·rw [(within_iff p).2 (by omega)];exact within_e p hB ht (by omega) (by omega) he w
    ·by_cases h2:0≤p.e∧p.e<64
     ·rw [(within_iff p).2 (by omega)];exact within_yes p hB ht (by omega) (by omega) h2.1 h2.2 w
     ·rw [no (by omega)];exact within_no p hB ht (by omega) (by omega) (by omega) w
 ·rw [no (fun h=>ht h.1)];exact within_t p hB (fun h=>ht (.inl h)) (fun h=>ht (.inr h)) w
def farA (a b:Int):Int:=if (0≤a∧a<64)∧0≤b∧b<64 then farI a b else -1
theorem far_any (a b:Int) (w:World):Calls Tryz.prog 68 #[.int .i64 a,.int .i64 b] w fun e w'=>e=.returned (.int .i64 (farA a b))∧Kept w w':=by
 unfold farA
 by_cases h:(0≤a∧a<64)∧0≤b∧b<64
 ·rw [if_pos h];exact (far_yes a b w h.1.1 h.1.2 h.2.1 h.2.2).mono fun _ _ ⟨x,y⟩=>⟨x,y ▸ Kept.refl _⟩
 ·rw [if_neg h];exact (far_no a b w (by omega)).mono fun _ _ ⟨x,y⟩=>⟨x,y ▸ Kept.refl _⟩
def touchB (p:Ps):Bool:=(farA (kingI p.B 0) (kingI p.B 1) == 1) || checkB p.B (otherI p.t)
set_option maxRecDepth 100000 in
set_option maxHeartbeats 2000000 in
theorem touches_is (p:Ps) (hB:Brd p.B) (w:World) (hT:Tabs w) :
  Calls Tryz.prog 36 #[.agg (pl p).toArray] w fun e w'=>e=.returned (.bool (touchB p))∧Kept w w':=by
 have HP:=Qh (PAt.new w hB.1)
 have HB:=Qh hB
 have HT:=Qh (hT.kept ((Kept.refl w).alloc (.cells (pl p).toArray 26)))
 have HK0:=Qh (king_any p.B hB 0)
 have HK1:=Qh (king_any p.B hB 1)
 have HF:=Qh (far_any (kingI p.B 0) (kingI p.B 1))
 have HV:Hid (touchB p=((farA (kingI p.B 0) (kingI p.B 1) == 1) || checkB p.B (otherI p.t))):=by rfl
 have HC:=Qh (fun a w hS=>check_is a p.B hB (otherI p.t) w hS)
 have HO:=Qh (other_any p.t)
 clear hB hT
 generalize farA (kingI p.B 0) (kingI p.B 1)=F at *
 generalize checkB p.B (otherI p.t)=cb at *
 generalize kingI p.B 0=K0 at *
 generalize kingI p.B 1=K1 at *
 generalize otherI p.t=o at *
 go_enter Tryz.func36,Tryz.ntmps36
 go_wp2
 refine wp_region_held_drew (S:=Kept _) (by kernel_rfl) (Kept.refl _).drew (fun Qj=>?_)
 refine rT 0 4 (.pointer (some ⟨w.heap.size,0,none⟩)) rfl rfl Qj ?_
 simp only [pA,pN,sZ,sU]
 refine rY 1 5 rfl rfl (take_load_pb (by rfl) _ rfl _ rfl p HB.out.1 (fun _ h=>(HP.out).kept h)) Qj ?_
 simp only [pA,pN,sZ,sU]
 refine rT 3 7 (.pointer (some ⟨w.heap.size,0,none⟩)) rfl rfl Qj ?_
 simp only [pA,pN,sZ,sU]
 refine rY 4 8 rfl rfl (take_load_pb (by rfl) _ rfl _ rfl p HB.out.1 (fun _ h=>(HP.out).kept h)) Qj ?_
 simp only [pA,pN,sZ,sU]
 refine rR 2 rfl (fun K hK=>?_)
 go_simp
 refine (HK0.out _).mono ?_
 rintro e w1 ⟨rfl,gw1⟩
 refine hK.out _ _ (Qj.trans gw1) (fun _=>?_)
 replace Qj:=Qj.trans gw1
 clear hK K
 refine rR 5 rfl (fun K hK=>?_)
 go_simp
 refine (HK1.out _).mono ?_
 rintro e w2 ⟨rfl,gw2⟩
 refine hK.out _ _ (Qj.trans gw2) (fun _=>?_)
 replace Qj:=Qj.trans gw2
 clear hK K
 refine rR 6 rfl (fun K hK=>?_)
 go_simp
 refine (HF.out _).mono ?_
 rintro e w3 ⟨rfl,gw3⟩
 refine hK.out _ _ (Qj.trans gw3) (fun _=>?_)
 replace Qj:=Qj.trans gw3
 clear hK K
 refine rT 7 3 (.int .i64 F) rfl rfl Qj ?_
 simp only [pA,pN,sZ,sU]
 refine wpAnyH_done (by kernel_rfl) ?_ _
 have HA:=Qh Qj
 have HP3:=Qh (HP.out.kept Qj)
 have HT3:=Qh (HT.out.kept Qj)
 clear Qj gw1 gw2 gw3
 cases hf:(F == 1)
 ·rw [hf,Bool.false_or] at HV
  go_wp2
  refine wp_region_held_drew (S:=Kept _) (by kernel_rfl) (Kept.refl _).drew (fun Qj=>?_)
  refine rT 0 11 (.int .i64 F) rfl rfl Qj ?_
  simp only [pA,pN,sZ,sU]
  refine rT 1 12 (.bool false) rfl rfl Qj ?_
  simp only [pA,pN,sZ,sU]
  refine rT 2 13 (.bool false) rfl rfl Qj ?_
  simp only [pA,pN,sZ,sU]
  refine rT 4 15 (.pointer (some ⟨w.heap.size,0,none⟩)) rfl rfl Qj ?_
  simp only [pA,pN,sZ,sU]
  refine rY 5 16 rfl rfl (take_load_pb (by rfl) _ rfl _ rfl p HB.out.1 (fun _ h=>(HP3.out).kept h)) Qj ?_
  simp only [pA,pN,sZ,sU]
  refine rT 6 17 (.pointer (some ⟨w.heap.size,64,none⟩)) rfl rfl Qj ?_
  simp only [pA,pN,sZ,sU]
  refine rC 7 18 (.int .i64 p.t) rfl rfl (fun _ h=>kept_cell h (HP3.out.turn)) Qj ?_
  simp only [pA,pN,sZ,sU]
  refine rR 3 rfl (fun K hK=>?_)
  go_simp
  refine (new_is _).mono ?_
  rintro e w4 ⟨⟨ea,rfl⟩,gw4⟩
  refine hK.out _ _ (Qj.trans gw4) (fun _=>?_)
  replace Qj:=Qj.trans gw4
  clear hK K
  refine rR 8 rfl (fun K hK=>?_)
  go_simp
  refine (HO.out _).mono ?_
  rintro e w5 ⟨rfl,gw5⟩
  refine hK.out _ _ (Qj.trans gw5) (fun _=>?_)
  replace Qj:=Qj.trans gw5
  clear hK K
  refine rR 9 rfl (fun K hK=>?_)
  go_simp
  refine (HC.out ea _ (HT3.out.steps.kept Qj)).mono ?_
  rintro e w6 ⟨rfl,gw6⟩
  refine hK.out _ _ (Qj.trans gw6) (fun _=>?_)
  replace Qj:=Qj.trans gw6
  clear hK K
  refine rT 10 21 (.bool cb) rfl rfl Qj ?_
  simp only [pA,pN,sZ,sU]
  refine rT 11 2 (.bool cb) rfl rfl Qj ?_
  simp only [pA,pN,sZ,sU]
  refine wpAnyH_done (by kernel_rfl) ?_ _
  go_wp2
  go_ret
  exact ⟨by rw [HV.out];rfl,(((Kept.refl _).alloc _).trans HA.out).trans Qj⟩
 ·rw [hf,Bool.true_or] at HV
  go_wp2
  refine wp_region_held_drew (S:=Kept _) (by kernel_rfl) (Kept.refl _).drew (fun Qj=>?_)
  refine rT 0 11 (.int .i64 F) rfl rfl Qj ?_
  simp only [pA,pN,sZ,sU]
  refine rT 1 12 (.bool true) rfl rfl Qj ?_
  simp only [pA,pN,sZ,sU]
  refine rT 2 13 (.bool true) rfl rfl Qj ?_
  simp only [pA,pN,sZ,sU]
  refine rN 3 14 rfl rfl Qj ?_
  simp only [pA,pN,sZ,sU]
  refine rN 4 15 rfl rfl Qj ?_
  simp only [pA,pN,sZ,sU]
  refine rN 5 16 rfl rfl Qj ?_
  simp only [pA,pN,sZ,sU]
  refine rN 6 17 rfl rfl Qj ?_
  simp only [pA,pN,sZ,sU]
  refine rN 7 18 rfl rfl Qj ?_
  simp only [pA,pN,sZ,sU]
  refine rN 8 19 rfl rfl Qj ?_
  simp only [pA,pN,sZ,sU]
  refine rN 9 20 rfl rfl Qj ?_
  simp only [pA,pN,sZ,sU]
  refine rT 10 21 (.bool true) rfl rfl Qj ?_
  simp only [pA,pN,sZ,sU]
  refine rT 11 2 (.bool true) rfl rfl Qj ?_
  simp only [pA,pN,sZ,sU]
  refine wpAnyH_done (by kernel_rfl) ?_ _
  go_wp2
  go_ret
  exact ⟨by rw [HV.out];rfl,(((Kept.refl _).alloc _).trans HA.out).trans Qj⟩
def rgtB (c r:Int):Bool:=c / r % 2 == 1
def okC (p:Ps) (k:Nat):Bool:=!rgtB p.c (hR k) || backB p.B (hR k)
def casB (p:Ps):Bool:=okC p 0 && okC p 1 && okC p 2 && okC p 3
theorem cas_yes {p:Ps} (h:∀ j,j<4→okC p j=true):casB p=true:=by
 unfold casB;rw [h 0 (by omega),h 1 (by omega),h 2 (by omega),h 3 (by omega)];rfl
theorem cas_no {p:Ps} {k:Nat} (hk:k<4) (h:okC p k=false):casB p=false:=by
 have:k=0∨k=1∨k=2∨k=3:=by omega
 unfold casB
 rcases this with rfl|rfl|rfl|rfl <;> rw [h] <;> simp
theorem bit_all:∀ c:Fin 16,∀ k:Fin 4,(bits .and .i64 ((c:Nat):Int) (hR k) != 0)=rgtB ((c:Nat):Int) (hR k):=by decide +kernel
theorem bit_at {c:Int} (h0:0≤c) (h1:c≤15) {k:Nat} (hk:k<4):(bits .and .i64 c (hR k) != 0)=rgtB c (hR k):=by
 have:=bit_all ⟨c.toNat,by omega⟩ ⟨k,hk⟩
 simp only [show ((c.toNat:Nat):Int)=c by omega] at this
 exact this
set_option maxRecDepth 100000 in
set_option maxHeartbeats 2000000 in
theorem castle_is (p:Ps) (hB:Brd p.B) (h0:0≤p.c) (h1:p.c≤15) (w:World) (hT:Tabs w) :
  Calls Tryz.prog 37 #[.agg (pl p).toArray] w fun e w'=>e=.returned (.bool (casB p))∧Kept w w':=by
 have HP:=Qh (PAt.new w hB.1)
 have HK0:=Qh ((Kept.refl w).alloc (.cells (pl p).toArray 26))
 have HT:=Qh (hT.kept HK0.out)
 have HB:=Qh hB
 have HBit:=Qh (fun k hk=>bit_at h0 h1 (k:=k) hk)
 clear hB hT h0 h1
 go_enter Tryz.func37,Tryz.ntmps37
 go_wp2_with (refine wpList_load_mid rfl 90 _ rfl 0 0 rfl hmV _ HT.out.homes.range Tryz.underlying90 rfl size_homes ?_)
 go_loopw [6] (fun t6 wr=>∃ k:Nat,k≤4∧t6=.int .i64 k∧(∀ j,j<k→okC p j=true)∧Kept (w.alloc (.cells (pl p).toArray 26)) wr) (fun t6 _=>4-(intOf t6).toNat)
 case atStart=>exact ⟨0,by omega,rfl,fun j hj=>by omega,Kept.refl _⟩
 case round =>
  obtain ⟨k,hk,rfl,hno,hK⟩:=hrel
  have HNo:=Qh hno
  have HK:=Qh hK
  clear hno hK
  by_cases hlt:k<4
  ·have hx:=run_index_hm k hlt
   have HPk:=Qh (HP.out.kept HK.out)
   have HKA:=Qh ((Kept.refl wr).alloc (.cells (hAt k) 89))
   have HPA:=Qh (HPk.out.kept HKA.out)
   have hcc:=HPA.out.cas
   have hbit:=HBit.out k hlt
   have HBk:=Qh (fun w hT=>backed_is p HB.out (hR k) w hT)
   have HTA:=Qh ((HT.out.kept HK.out).kept HKA.out)
   have HR:=Qh (hR_bd k)
   have HOk:Hid (okC p k=(!rgtB p.c (hR k) || backB p.B (hR k))):=by rfl
   unfold hAt at hx hcc
   generalize backB p.B (hR k)=bb at *
   cases hh:rgtB p.c (hR k)
   ·rw [hh] at HOk hbit
    clear hh
    go_wp2
    go_roundw
    case rel=>exact ⟨k+1,by omega,by go_num,fun j hj=>by rcases Nat.lt_succ_iff_lt_or_eq.1 hj with h|h;exact HNo.out j h;rw [h,HOk.out];rfl,HK.out.alloc _⟩
    case measure=>simp [intOf];omega
   ·rw [hh] at HOk hbit
    clear hh
    cases bb
    ·skip
     go_wp2_with (first|(refine wpList_load_ps (by rfl) _ rfl _ rfl _ (HPA.out) ?_)|(refine wpList_load_pb (by rfl) _ rfl _ rfl _ (HPA.out) ?_))
     refine (HBk.out _ HTA.out).mono ?_
     rintro e w2 ⟨rfl,k2⟩
     have HF:=Qh (cas_no hlt HOk.out)
     have HK2:=Qh ((HK.out.trans HKA.out).trans k2)
     clear k2 hcc
     go_wp2
     go_ret
     exact ⟨by rw [HF.out];rfl,HK0.out.trans HK2.out⟩
    ·skip
     go_wp2_with (first|(refine wpList_load_ps (by rfl) _ rfl _ rfl _ (HPA.out) ?_)|(refine wpList_load_pb (by rfl) _ rfl _ rfl _ (HPA.out) ?_))
     refine (HBk.out _ HTA.out).mono ?_
     rintro e w2 ⟨rfl,k2⟩
     have HK2:=Qh ((HK.out.trans HKA.out).trans k2)
     clear k2 hcc
     go_wp2
     go_roundw
     case rel=>exact ⟨k+1,by omega,by go_num,fun j hj=>by rcases Nat.lt_succ_iff_lt_or_eq.1 hj with h|h;exact HNo.out j h;rw [h,HOk.out];rfl,HK2.out⟩
     case measure=>simp [intOf];omega
  ·have HF:=Qh (cas_yes (p:=p) (fun j hj=>HNo.out j (by omega)))
   go_wp2
   go_ret
   exact ⟨by rw [HF.out];rfl,HK0.out.trans HK.out⟩
def epB (p:Ps):Bool:=passB p || (p.e == -1)
theorem ep_is (p:Ps) (hB:Brd p.B) (w:World) (hT:Tabs w) :
  Calls Tryz.prog 38 #[.agg (pl p).toArray] w fun e w'=>e=.returned (.bool (epB p))∧Kept w w':=by
 have HP:=Qh (PAt.new w hB.1)
 have HPs:=Qh (passed_is p hB _ (hT.kept ((Kept.refl w).alloc (.cells (pl p).toArray 26))))
 have HV:Hid (epB p=(passB p || (p.e == -1))):=by rfl
 clear hB hT
 generalize passS p=ps at *
 cases hb:passB p
 ·rw [hb] at HPs HV
  rw [Bool.false_or] at HV
  clear hb
  go_enter Tryz.func38,Tryz.ntmps38
  go_wp2_with (first|(refine wpList_load_ps (by rfl) _ rfl _ rfl _ (HP.out) ?_)|(refine wpList_load_pb (by rfl) _ rfl _ rfl _ (HP.out) ?_))
  refine HPs.out.mono ?_
  rintro e w1 ⟨rfl,k1⟩
  have HK1:=Qh (((Kept.refl w).alloc _).trans k1)
  have ce:=(HP.out.kept k1).ep
  clear k1
  go_wp2
  go_ret
  exact ⟨by rw [HV.out];rfl,HK1.out⟩
 ·rw [hb] at HPs HV
  rw [Bool.true_or] at HV
  clear hb
  go_enter Tryz.func38,Tryz.ntmps38
  go_wp2_with (first|(refine wpList_load_ps (by rfl) _ rfl _ rfl _ (HP.out) ?_)|(refine wpList_load_pb (by rfl) _ rfl _ rfl _ (HP.out) ?_))
  refine HPs.out.mono ?_
  rintro e w1 ⟨rfl,k1⟩
  have HK1:=Qh (((Kept.refl w).alloc _).trans k1)
  clear k1
  go_wp2
  go_ret
  exact ⟨by rw [HV.out];rfl,HK1.out⟩
def pwI (p:Ps):Int:=if wrongI p.B≠0 then wrongI p.B else if withinB p=false then 5 else if touchB p=true then 9 else if casB p=false then 10 else if epB p=false then 11 else 0
set_option maxHeartbeats 1000000 in
theorem pwrong_board (p:Ps) (hB:Brd p.B) (a0:wrongI p.B≠0) (w:World) (hT:Tabs w) :
  Calls Tryz.prog 14 #[.agg (pl p).toArray] w fun e w'=>e=.returned (.int .i64 (wrongI p.B))∧Kept w w':=by
 have HP:=Qh (PAt.new w hB.1)
 have HK0:=Qh ((Kept.refl w).alloc (.cells (pl p).toArray 26))
 have HT:=Qh (hT.kept HK0.out)
 have HC0:=Qh (wrong_is p.B hB)
 have HC1:=Qh (within_is p hB)
 have HC2:=Qh (fun w hT=>touches_is p hB w hT)
 have HC4:=Qh (fun w hT=>ep_is p hB w hT)
 have b0:(wrongI p.B != 0)=true:=bne_iff_ne.2 a0
 clear a0
 clear hB hT
 go_enter Tryz.func14,Tryz.ntmps14
 go_wp2_with (first|(refine wpList_load_ps (by rfl) _ rfl _ rfl _ (HP.out) ?_)|(refine wpList_load_pb (by rfl) _ rfl _ rfl _ (HP.out) ?_))
 refine (HC0.out _).mono ?_
 rintro e w1 ⟨rfl,k1⟩
 have HK1:=Qh (HK0.out.trans k1)
 have HP1:=Qh (HP.out.kept k1)
 have HT1:=Qh (HT.out.kept k1)
 clear k1
 go_wp2
 go_ret
 exact ⟨rfl,HK1.out⟩
set_option maxHeartbeats 1000000 in
theorem pwrong_arg (p:Ps) (hB:Brd p.B) (a0:wrongI p.B=0) (a1:withinB p=false) (w:World) (hT:Tabs w) :
  Calls Tryz.prog 14 #[.agg (pl p).toArray] w fun e w'=>e=.returned (.int .i64 5)∧Kept w w':=by
 have HP:=Qh (PAt.new w hB.1)
 have HK0:=Qh ((Kept.refl w).alloc (.cells (pl p).toArray 26))
 have HT:=Qh (hT.kept HK0.out)
 have HC0:=Qh (wrong_is p.B hB)
 have HC1:=Qh (within_is p hB)
 have HC2:=Qh (fun w hT=>touches_is p hB w hT)
 have HC4:=Qh (fun w hT=>ep_is p hB w hT)
 rw [a0] at HC0
 rw [a1] at HC1
 clear hB hT
 go_enter Tryz.func14,Tryz.ntmps14
 go_wp2_with (first|(refine wpList_load_ps (by rfl) _ rfl _ rfl _ (HP.out) ?_)|(refine wpList_load_pb (by rfl) _ rfl _ rfl _ (HP.out) ?_))
 refine (HC0.out _).mono ?_
 rintro e w1 ⟨rfl,k1⟩
 have HK1:=Qh (HK0.out.trans k1)
 have HP1:=Qh (HP.out.kept k1)
 have HT1:=Qh (HT.out.kept k1)
 clear k1
 go_wp2_with (first|(refine wpList_load_ps (by rfl) _ rfl _ rfl _ (HP1.out) ?_)|(refine wpList_load_pb (by rfl) _ rfl _ rfl _ (HP1.out) ?_))
 refine (HC1.out _).mono ?_
 rintro e w2 ⟨rfl,k2⟩
 have HK2:=Qh (HK1.out.trans k2)
 have HP2:=Qh (HP1.out.kept k2)
 have HT2:=Qh (HT1.out.kept k2)
 clear k2
 go_wp2
 go_ret
 exact ⟨rfl,HK2.out⟩
set_option maxHeartbeats 1000000 in
theorem pwrong_touch (p:Ps) (hB:Brd p.B) (a0:wrongI p.B=0) (a1:withinB p=true) (a2:touchB p=true) (w:World) (hT:Tabs w) :
  Calls Tryz.prog 14 #[.agg (pl p).toArray] w fun e w'=>e=.returned (.int .i64 9)∧Kept w w':=by
 have HP:=Qh (PAt.new w hB.1)
 have HK0:=Qh ((Kept.refl w).alloc (.cells (pl p).toArray 26))
 have HT:=Qh (hT.kept HK0.out)
 have HC0:=Qh (wrong_is p.B hB)
 have HC1:=Qh (within_is p hB)
 have HC2:=Qh (fun w hT=>touches_is p hB w hT)
 have HC4:=Qh (fun w hT=>ep_is p hB w hT)
 rw [a0] at HC0
 rw [a1] at HC1
 rw [a2] at HC2
 clear hB hT
 go_enter Tryz.func14,Tryz.ntmps14
 go_wp2_with (first|(refine wpList_load_ps (by rfl) _ rfl _ rfl _ (HP.out) ?_)|(refine wpList_load_pb (by rfl) _ rfl _ rfl _ (HP.out) ?_))
 refine (HC0.out _).mono ?_
 rintro e w1 ⟨rfl,k1⟩
 have HK1:=Qh (HK0.out.trans k1)
 have HP1:=Qh (HP.out.kept k1)
 have HT1:=Qh (HT.out.kept k1)
 clear k1
 go_wp2_with (first|(refine wpList_load_ps (by rfl) _ rfl _ rfl _ (HP1.out) ?_)|(refine wpList_load_pb (by rfl) _ rfl _ rfl _ (HP1.out) ?_))
 refine (HC1.out _).mono ?_
 rintro e w2 ⟨rfl,k2⟩
 have HK2:=Qh (HK1.out.trans k2)
 have HP2:=Qh (HP1.out.kept k2)
 have HT2:=Qh (HT1.out.kept k2)
 clear k2
 go_wp2_with (first|(refine wpList_load_ps (by rfl) _ rfl _ rfl _ (HP2.out) ?_)|(refine wpList_load_pb (by rfl) _ rfl _ rfl _ (HP2.out) ?_))
 refine (HC2.out _ HT2.out).mono ?_
 rintro e w3 ⟨rfl,k3⟩
 have HK3:=Qh (HK2.out.trans k3)
 have HP3:=Qh (HP2.out.kept k3)
 have HT3:=Qh (HT2.out.kept k3)
 clear k3
 go_wp2
 go_ret
 exact ⟨rfl,HK3.out⟩
set_option maxHeartbeats 1000000 in
theorem pwrong_castle (p:Ps) (hB:Brd p.B) (a0:wrongI p.B=0) (a1:withinB p=true) (a2:touchB p=false) (a3:casB p=false) (w:World) (hT:Tabs w) :
  Calls Tryz.prog 14 #[.agg (pl p).toArray] w fun e w'=>e=.returned (.int .i64 10)∧Kept w w':=by
 have HP:=Qh (PAt.new w hB.1)
 have HK0:=Qh ((Kept.refl w).alloc (.cells (pl p).toArray 26))
 have HT:=Qh (hT.kept HK0.out)
 have HC0:=Qh (wrong_is p.B hB)
 have HC1:=Qh (within_is p hB)
 have HC2:=Qh (fun w hT=>touches_is p hB w hT)
 have HC4:=Qh (fun w hT=>ep_is p hB w hT)
 rw [a0] at HC0
 rw [a1] at HC1
 rw [a2] at HC2
 obtain ⟨_,⟨h0,h1⟩,_⟩:=(within_iff p).1 a1
 have HC3:=Qh (fun w hT=>castle_is p hB h0 h1 w hT)
 clear h0 h1
 rw [a3] at HC3
 clear hB hT
 go_enter Tryz.func14,Tryz.ntmps14
 go_wp2_with (first|(refine wpList_load_ps (by rfl) _ rfl _ rfl _ (HP.out) ?_)|(refine wpList_load_pb (by rfl) _ rfl _ rfl _ (HP.out) ?_))
 refine (HC0.out _).mono ?_
 rintro e w1 ⟨rfl,k1⟩
 have HK1:=Qh (HK0.out.trans k1)
 have HP1:=Qh (HP.out.kept k1)
 have HT1:=Qh (HT.out.kept k1)
 clear k1
 go_wp2_with (first|(refine wpList_load_ps (by rfl) _ rfl _ rfl _ (HP1.out) ?_)|(refine wpList_load_pb (by rfl) _ rfl _ rfl _ (HP1.out) ?_))
 refine (HC1.out _).mono ?_
 rintro e w2 ⟨rfl,k2⟩
 have HK2:=Qh (HK1.out.trans k2)
 have HP2:=Qh (HP1.out.kept k2)
 have HT2:=Qh (HT1.out.kept k2)
 clear k2
 go_wp2_with (first|(refine wpList_load_ps (by rfl) _ rfl _ rfl _ (HP2.out) ?_)|(refine wpList_load_pb (by rfl) _ rfl _ rfl _ (HP2.out) ?_))
 refine (HC2.out _ HT2.out).mono ?_
 rintro e w3 ⟨rfl,k3⟩
 have HK3:=Qh (HK2.out.trans k3)
 have HP3:=Qh (HP2.out.kept k3)
 have HT3:=Qh (HT2.out.kept k3)
 clear k3
 go_wp2_with (first|(refine wpList_load_ps (by rfl) _ rfl _ rfl _ (HP3.out) ?_)|(refine wpList_load_pb (by rfl) _ rfl _ rfl _ (HP3.out) ?_))
 refine (HC3.out _ HT3.out).mono ?_
 rintro e w4 ⟨rfl,k4⟩
 have HK4:=Qh (HK3.out.trans k4)
 have HP4:=Qh (HP3.out.kept k4)
 have HT4:=Qh (HT3.out.kept k4)
 clear k4
 go_wp2
 go_ret
 exact ⟨rfl,HK4.out⟩
set_option maxHeartbeats 1000000 in
theorem pwrong_ep (p:Ps) (hB:Brd p.B) (a0:wrongI p.B=0) (a1:withinB p=true) (a2:touchB p=false) (a3:casB p=true) (a4:epB p=false) (w:World) (hT:Tabs w) :
  Calls Tryz.prog 14 #[.agg (pl p).toArray] w fun e w'=>e=.returned (.int .i64 11)∧Kept w w':=by
 have HP:=Qh (PAt.new w hB.1)
 have HK0:=Qh ((Kept.refl w).alloc (.cells (pl p).toArray 26))
 have HT:=Qh (hT.kept HK0.out)
 have HC0:=Qh (wrong_is p.B hB)
 have HC1:=Qh (within_is p hB)
 have HC2:=Qh (fun w hT=>touches_is p hB w hT)
 have HC4:=Qh (fun w hT=>ep_is p hB w hT)
 rw [a0] at HC0
 rw [a1] at HC1
 rw [a2] at HC2
 obtain ⟨_,⟨h0,h1⟩,_⟩:=(within_iff p).1 a1
 have HC3:=Qh (fun w hT=>castle_is p hB h0 h1 w hT)
 clear h0 h1
 rw [a3] at HC3
 rw [a4] at HC4
 clear hB hT
 go_enter Tryz.func14,Tryz.ntmps14
 go_wp2_with (first|(refine wpList_load_ps (by rfl) _ rfl _ rfl _ (HP.out) ?_)|(refine wpList_load_pb (by rfl) _ rfl _ rfl _ (HP.out) ?_))
 refine (HC0.out _).mono ?_
 rintro e w1 ⟨rfl,k1⟩
 have HK1:=Qh (HK0.out.trans k1)
 have HP1:=Qh (HP.out.kept k1)
 have HT1:=Qh (HT.out.kept k1)
 clear k1
 go_wp2_with (first|(refine wpList_load_ps (by rfl) _ rfl _ rfl _ (HP1.out) ?_)|(refine wpList_load_pb (by rfl) _ rfl _ rfl _ (HP1.out) ?_))
 refine (HC1.out _).mono ?_
 rintro e w2 ⟨rfl,k2⟩
 have HK2:=Qh (HK1.out.trans k2)
 have HP2:=Qh (HP1.out.kept k2)
 have HT2:=Qh (HT1.out.kept k2)
 clear k2
 go_wp2_with (first|(refine wpList_load_ps (by rfl) _ rfl _ rfl _ (HP2.out) ?_)|(refine wpList_load_pb (by rfl) _ rfl _ rfl _ (HP2.out) ?_))
 refine (HC2.out _ HT2.out).mono ?_
 rintro e w3 ⟨rfl,k3⟩
 have HK3:=Qh (HK2.out.trans k3)
 have HP3:=Qh (HP2.out.kept k3)
 have HT3:=Qh (HT2.out.kept k3)
 clear k3
 go_wp2_with (first|(refine wpList_load_ps (by rfl) _ rfl _ rfl _ (HP3.out) ?_)|(refine wpList_load_pb (by rfl) _ rfl _ rfl _ (HP3.out) ?_))
 refine (HC3.out _ HT3.out).mono ?_
 rintro e w4 ⟨rfl,k4⟩
 have HK4:=Qh (HK3.out.trans k4)
 have HP4:=Qh (HP3.out.kept k4)
 have HT4:=Qh (HT3.out.kept k4)
 clear k4
 go_wp2_with (first|(refine wpList_load_ps (by rfl) _ rfl _ rfl _ (HP4.out) ?_)|(refine wpList_load_pb (by rfl) _ rfl _ rfl _ (HP4.out) ?_))
 refine (HC4.out _ HT4.out).mono ?_
 rintro e w5 ⟨rfl,k5⟩
 have HK5:=Qh (HK4.out.trans k5)
 have HP5:=Qh (HP4.out.kept k5)
 have HT5:=Qh (HT4.out.kept k5)
 clear k5
 go_wp2
 go_ret
 exact ⟨rfl,HK5.out⟩
set_option maxHeartbeats 1000000 in
theorem pwrong_ok (p:Ps) (hB:Brd p.B) (a0:wrongI p.B=0) (a1:withinB p=true) (a2:touchB p=false) (a3:casB p=true) (a4:epB p=true) (w:World) (hT:Tabs w) :
  Calls Tryz.prog 14 #[.agg (pl p).toArray] w fun e w'=>e=.returned (.int .i64 0)∧Kept w w':=by
 have HP:=Qh (PAt.new w hB.1)
 have HK0:=Qh ((Kept.refl w).alloc (.cells (pl p).toArray 26))
 have HT:=Qh (hT.kept HK0.out)
 have HC0:=Qh (wrong_is p.B hB)
 have HC1:=Qh (within_is p hB)
 have HC2:=Qh (fun w hT=>touches_is p hB w hT)
 have HC4:=Qh (fun w hT=>ep_is p hB w hT)
 rw [a0] at HC0
 rw [a1] at HC1
 rw [a2] at HC2
 obtain ⟨_,⟨h0,h1⟩,_⟩:=(within_iff p).1 a1
 have HC3:=Qh (fun w hT=>castle_is p hB h0 h1 w hT)
 clear h0 h1
 rw [a3] at HC3
 rw [a4] at HC4
 clear hB hT
 go_enter Tryz.func14,Tryz.ntmps14
 go_wp2_with (first|(refine wpList_load_ps (by rfl) _ rfl _ rfl _ (HP.out) ?_)|(refine wpList_load_pb (by rfl) _ rfl _ rfl _ (HP.out) ?_))
 refine (HC0.out _).mono ?_
 rintro e w1 ⟨rfl,k1⟩
 have HK1:=Qh (HK0.out.trans k1)
 have HP1:=Qh (HP.out.kept k1)
 have HT1:=Qh (HT.out.kept k1)
 clear k1
 go_wp2_with (first|(refine wpList_load_ps (by rfl) _ rfl _ rfl _ (HP1.out) ?_)|(refine wpList_load_pb (by rfl) _ rfl _ rfl _ (HP1.out) ?_))
 refine (HC1.out _).mono ?_
 rintro e w2 ⟨rfl,k2⟩
 have HK2:=Qh (HK1.out.trans k2)
 have HP2:=Qh (HP1.out.kept k2)
 have HT2:=Qh (HT1.out.kept k2)
 clear k2
 go_wp2_with (first|(refine wpList_load_ps (by rfl) _ rfl _ rfl _ (HP2.out) ?_)|(refine wpList_load_pb (by rfl) _ rfl _ rfl _ (HP2.out) ?_))
 refine (HC2.out _ HT2.out).mono ?_
 rintro e w3 ⟨rfl,k3⟩
 have HK3:=Qh (HK2.out.trans k3)
 have HP3:=Qh (HP2.out.kept k3)
 have HT3:=Qh (HT2.out.kept k3)
 clear k3
 go_wp2_with (first|(refine wpList_load_ps (by rfl) _ rfl _ rfl _ (HP3.out) ?_)|(refine wpList_load_pb (by rfl) _ rfl _ rfl _ (HP3.out) ?_))
 refine (HC3.out _ HT3.out).mono ?_
 rintro e w4 ⟨rfl,k4⟩
 have HK4:=Qh (HK3.out.trans k4)
 have HP4:=Qh (HP3.out.kept k4)
 have HT4:=Qh (HT3.out.kept k4)
 clear k4
 go_wp2_with (first|(refine wpList_load_ps (by rfl) _ rfl _ rfl _ (HP4.out) ?_)|(refine wpList_load_pb (by rfl) _ rfl _ rfl _ (HP4.out) ?_))
 refine (HC4.out _ HT4.out).mono ?_
 rintro e w5 ⟨rfl,k5⟩
 have HK5:=Qh (HK4.out.trans k5)
 have HP5:=Qh (HP4.out.kept k5)
 have HT5:=Qh (HT4.out.kept k5)
 clear k5
 go_wp2
 go_ret
 exact ⟨rfl,HK5.out⟩
theorem pwrong_is (p:Ps) (hB:Brd p.B) (w:World) (hT:Tabs w) :
  Calls Tryz.prog 14 #[.agg (pl p).toArray] w fun e w'=>e=.returned (.int .i64 (pwI p))∧Kept w w':=by
 unfold pwI
 by_cases a0:wrongI p.B=0
 ·rw [if_neg (by omega)]
  cases a1:withinB p
  ·rw [if_pos rfl];exact pwrong_arg p hB a0 a1 w hT
  ·rw [if_neg (by decide)]
   cases a2:touchB p
   ·rw [if_neg (by decide)]
    cases a3:casB p
    ·rw [if_pos rfl];exact pwrong_castle p hB a0 a1 a2 a3 w hT
    ·rw [if_neg (by decide)]
     cases a4:epB p
     ·rw [if_pos rfl];exact pwrong_ep p hB a0 a1 a2 a3 a4 w hT
     ·rw [if_neg (by decide)];exact pwrong_ok p hB a0 a1 a2 a3 a4 w hT
   ·rw [if_pos rfl];exact pwrong_touch p hB a0 a1 a2 w hT
 ·rw [if_pos a0];exact pwrong_board p hB a0 w hT
end Go.Proofs.YtijkemnhehbchaaGreatDoor
