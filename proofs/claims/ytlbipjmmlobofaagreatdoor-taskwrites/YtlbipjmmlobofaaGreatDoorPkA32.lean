/- AtL · PoB · PoC · PoD: my texts, in their order. -/
import Derived.Test.YtlbipjmmlobofaaGreatDoorPkA22
import Derived.Test.YtlbipjmmlobofaaGreatDoorPkA31
namespace Go.Proofs.YtlbipjmmlobofaaGreatDoor
open Go.RowKit
set_option linter.unusedVariables false
set_option linter.unusedSimpArgs false
theorem new_is (w:World):Calls Tryz.prog 98 #[] w fun e w'=>(∃ a,e=.returned (.pointer (some a)))∧Kept w w':=by
 go_enter Tryz.func98,Tryz.ntmps98
 go_wp2
 go_ret
 exact ⟨⟨_,rfl⟩,(Kept.refl _).alloc _⟩
def hmL:List Int:=[1,0,4,7,2,0,4,0,4,1,60,63,8,1,60,56]
def hmV:List Value:=hmL.map (Value.int .i64)
def vwL:List Int:=[5,1,2,-1]
def Homes (w:World):Prop:=∀ i,i<16→w.cell? ⟨2,i,none⟩=some (.int .i64 (hmL.getD i 0))
def Views (w:World):Prop:=∀ i,i<4→w.cell? ⟨3,i,none⟩=some (.int .i64 (vwL.getD i 0))
structure Tabs (w:World):Prop where
 steps:Steps w
 homes:Homes w
 views:Views w
theorem Tabs.kept {w w':World} (h:Tabs w) (k:Kept w w'):Tabs w' :=
 ⟨h.steps.kept k,fun i hi=>kept_cell k (h.homes i hi),fun i hi=>kept_cell k (h.views i hi)⟩
theorem Homes.range {w:World} (h:Homes w):w.rangeAt 2 0 hmV:=by
 intro j v hv
 have hj:j<hmV.length:=(List.getElem?_eq_some_iff.1 hv).1
 have hj':j<16:=by simpa [hmV,hmL] using hj
 rw [Nat.zero_add,h j hj']
 unfold hmV at hv
 rw [List.getElem?_map] at hv
 have h2:j<hmL.length:=by simpa [hmL] using hj'
 rw [List.getElem?_eq_getElem h2] at hv
 simp only [Option.map_some,Option.some.injEq] at hv
 rw [← hv,getD_at _ _ h2]
theorem size_homes:(Tryz.prog.info? 119).map (·.size)=some hmV.length:=by kernel_rfl
def hR (k:Nat):Int:=[1,2,4,8].getD k 0
def hS (k:Nat):Int:=[0,0,1,1].getD k 0
def hKg (k:Nat):Nat:=[4,4,60,60].getD k 0
def hRk (k:Nat):Nat:=[7,0,63,56].getD k 0
def hAt (k:Nat):Array Value:=#[.int .i64 (hR k),.int .i64 (hS k),.int .i64 (hKg k),.int .i64 (hRk k)]
theorem sizeHome:(Tryz.prog.info? 118).map (·.size)=some 4:=by kernel_rfl
theorem run_index_hm (k:Nat) (hk:k<4) (w:World):(Instr.index 119 (.agg hmV.toArray) (.int .i64 k)).run Tryz.prog w=.ok (.agg (hAt k)) w:=by
 have h1:(0:Int)≤(k:Int)∧(k:Int)<((4:Nat):Int):=by omega
 have hs:(sizeOf 118).run Tryz.prog w=.ok 4 w:=by
  cases hq:Tryz.prog.info? 118 with
  | none=>have:=sizeHome;simp [hq] at this
  | some i=>have:=sizeHome;simp [hq] at this;simp [sizeOf,typeInfo,hq,this]
 simp only [Instr.index,asIntOf,Sem.run_bind,Sem.run_pure,Result.andThen_ok,run_underlying Tryz.underlying119,if_pos h1,hs]
 simp only [part,isAgg,Sem.run_bind,Sem.run_pure,Result.andThen_ok,run_underlying Tryz.underlying118,if_true,hs,Int.toNat_natCast]
 have:k=0∨k=1∨k=2∨k=3:=by omega
 rcases this with rfl|rfl|rfl|rfl <;> rfl
def backB (B:List Int) (r:Int):Bool :=
 if r=1 then (B.getD 4 0 == 6) && (B.getD 7 0 == 4) else if r=2 then (B.getD 4 0 == 6) && (B.getD 0 0 == 4)
 else if r=4 then (B.getD 60 0 == -6) && (B.getD 63 0 == -4) else if r=8 then (B.getD 60 0 == -6) && (B.getD 56 0 == -4) else false
def mkI (k s:Int):Int:=if s=0 then k else -k
theorem back_at (B:List Int) (k:Nat) (hk:k<4):backB B (hR k)=((B.getD (hKg k) 0 == mkI 6 (hS k)) && (B.getD (hRk k) 0 == mkI 4 (hS k))):=by
 have:k=0∨k=1∨k=2∨k=3:=by omega
 rcases this with rfl|rfl|rfl|rfl <;> rfl
theorem back_no (B:List Int) (r:Int) (h:∀ j,j<4→hR j≠r):backB B r=false:=by
 have h0:=h 0 (by omega)
 have h1:=h 1 (by omega)
 have h2:=h 2 (by omega)
 have h3:=h 3 (by omega)
 simp only [hR,List.getD_cons_zero,List.getD_cons_succ] at h0 h1 h2 h3
 unfold backB
 rw [if_neg (by omega),if_neg (by omega),if_neg (by omega),if_neg (by omega)]
theorem hS_01 (k:Nat) (hk:k<4):hS k=0∨hS k=1:=by
 have:k=0∨k=1∨k=2∨k=3:=by omega
 rcases this with rfl|rfl|rfl|rfl <;> simp [hS]
theorem hKg_lt (k:Nat):hKg k<64:=by
 unfold hKg;rcases k with _|_|_|_|k <;> simp
theorem hRk_lt (k:Nat):hRk k<64:=by
 unfold hRk;rcases k with _|_|_|_|k <;> simp
theorem hR_bd (k:Nat):0≤hR k∧hR k≤8:=by
 unfold hR;rcases k with _|_|_|_|k <;> simp
theorem mmake_is (k s:Int) (w:World) (h1:1≤k) (h6:k≤6) (hs:s=0∨s=1):Calls Tryz.prog 136 #[.int .i64 k,.int .i64 s] w fun e w'=>e=.returned (.int .i64 (mkI k s))∧Kept w w':=by
 rcases hs with rfl|rfl
 ·exact (make_w k w h1 h6).mono fun _ _ ⟨a,b⟩=>⟨a,b ▸ Kept.refl _⟩
 ·exact (make_b k w h1 h6).mono fun _ _ ⟨a,b⟩=>⟨a,b ▸ Kept.refl _⟩
set_option maxRecDepth 100000 in
set_option maxHeartbeats 2000000 in
theorem backed_is (p:Ps) (hB:Brd p.B) (r:Int) (w:World) (hT:Tabs w) :
  Calls Tryz.prog 100 #[.agg (pl p).toArray,.int .i64 r] w fun e w'=>e=.returned (.bool (backB p.B r))∧Kept w w':=by
 have HP:=Qh (PAt.new w hB.1)
 have HK0:=Qh ((Kept.refl w).alloc (.cells (pl p).toArray 26))
 have HT:=Qh (hT.kept HK0.out)
 have HB:=Qh hB
 clear hB hT
 go_enter Tryz.func100,Tryz.ntmps100
 go_wp2_with (refine wpList_load_mid rfl 119 _ rfl 2 0 rfl hmV _ HT.out.homes.range Tryz.underlying119 rfl size_homes ?_)
 go_loopw [8] (fun t8 wr=>∃ k:Nat,k≤4∧t8=.int .i64 k∧(∀ j,j<k→hR j≠r)∧Kept (w.alloc (.cells (pl p).toArray 26)) wr) (fun t8 _=>4-(intOf t8).toNat)
 case atStart=>exact ⟨0,by omega,rfl,fun j hj=>by omega,Kept.refl _⟩
 case round =>
  obtain ⟨k,hk,rfl,hno,hK⟩:=hrel
  have HNo:=Qh hno
  have HK:=Qh hK
  clear hno hK
  by_cases hlt:k<4
  ·have hx:=run_index_hm k hlt
   have HPk:=Qh (HP.out.kept HK.out)
   have HKg:=Qh (hKg_lt k)
   have HRk:=Qh (hRk_lt k)
   have HS:=Qh (hS_01 k hlt)
   have HBk:=Qh (back_at p.B k hlt)
   have HR:=Qh (hR_bd k)
   unfold hAt at hx
   by_cases he:hR k=r
   ·have he':(hR k == r)=true:=beq_iff_eq.2 he
    rw [he] at HBk
    have HM1:=Qh (man_yes p.B HB.out (hKg k) HKg.out)
    have HM2:=Qh (man_yes p.B HB.out (hRk k) HRk.out)
    have HMk1:=Qh (fun w=>mmake_is 6 (hS k) w (by omega) (by omega) HS.out)
    have HMk2:=Qh (fun w=>mmake_is 4 (hS k) w (by omega) (by omega) HS.out)
    generalize p.B.getD (hKg k) 0=x1 at *
    generalize p.B.getD (hRk k) 0=x2 at *
    generalize mkI 6 (hS k)=m1 at *
    generalize mkI 4 (hS k)=m2 at *
    clear he
    go_wp2
    have hnew:=heap_alloc_new wr (.cells (hAt k) 118)
    have c1:=Qh (show (wr.alloc (.cells (hAt k) 118)).cell? ⟨wr.heap.size,1,none⟩=some (.int .i64 (hS k)) by rw [cell_of_row _ _ 1 _ _ (0,0) hnew];rfl)
    have c2:=Qh (show (wr.alloc (.cells (hAt k) 118)).cell? ⟨wr.heap.size,2,none⟩=some (.int .i64 (hKg k)) by rw [cell_of_row _ _ 2 _ _ (0,0) hnew];rfl)
    have c3:=Qh (show (wr.alloc (.cells (hAt k) 118)).cell? ⟨wr.heap.size,3,none⟩=some (.int .i64 (hRk k)) by rw [cell_of_row _ _ 3 _ _ (0,0) hnew];rfl)
    have HPA:=Qh (HPk.out.kept ((Kept.refl wr).alloc (.cells (hAt k) 118)))
    clear hnew
    cases hb1:(x1 == m1)
    ·skip
     refine wp_region_held_drew (S:=Kept _) (by kernel_rfl) (Kept.refl _).drew (fun Qj=>?_)
     refine rT 0 15 (.pointer (some ⟨w.heap.size,0,none⟩)) rfl rfl Qj ?_
     simp only [pA,pN,sZ,sU]
     refine rY 1 16 rfl rfl (take_load_pb (by rfl) _ rfl _ rfl p HB.out.1 (fun _ h=>(HPA.out).kept h)) Qj ?_
     simp only [pA,pN,sZ,sU]
     refine rT 2 17 (.pointer (some ⟨wr.heap.size,2,none⟩)) rfl rfl Qj ?_
     simp only [pA,pN,sZ,sU]
     refine rC 3 18 (.int .i64 ↑(hKg k)) rfl rfl (fun _ h=>kept_cell h (c2.out)) Qj ?_
     simp only [pA,pN,sZ,sU]
     refine rT 5 20 (.pointer (some ⟨wr.heap.size,1,none⟩)) rfl rfl Qj ?_
     simp only [pA,pN,sZ,sU]
     refine rC 6 21 (.int .i64 (hS k)) rfl rfl (fun _ h=>kept_cell h (c1.out)) Qj ?_
     simp only [pA,pN,sZ,sU]
     refine rR 4 rfl (fun K hK=>?_)
     go_simp
     refine (HM1.out _).mono ?_
     rintro e w1 ⟨rfl,gw1⟩
     refine hK.out _ _ (Qj.trans gw1) (fun _=>?_)
     replace Qj:=Qj.trans gw1
     clear hK K
     refine rR 7 rfl (fun K hK=>?_)
     go_simp
     refine (HMk1.out _).mono ?_
     rintro e w2 ⟨rfl,gw2⟩
     refine hK.out _ _ (Qj.trans gw2) (fun _=>?_)
     replace Qj:=Qj.trans gw2
     clear hK K
     refine rT 8 23 (.bool false) rfl rfl Qj ?_
     simp only [pA,pN,sZ,sU]
     refine rT 9 24 (.bool false) rfl rfl Qj ?_
     simp only [pA,pN,sZ,sU]
     refine rN 10 25 rfl rfl Qj ?_
     simp only [pA,pN,sZ,sU]
     refine rN 11 26 rfl rfl Qj ?_
     simp only [pA,pN,sZ,sU]
     refine rN 12 27 rfl rfl Qj ?_
     simp only [pA,pN,sZ,sU]
     refine rN 13 28 rfl rfl Qj ?_
     simp only [pA,pN,sZ,sU]
     refine rN 14 29 rfl rfl Qj ?_
     simp only [pA,pN,sZ,sU]
     refine rN 15 30 rfl rfl Qj ?_
     simp only [pA,pN,sZ,sU]
     refine rN 16 31 rfl rfl Qj ?_
     simp only [pA,pN,sZ,sU]
     refine rN 17 32 rfl rfl Qj ?_
     simp only [pA,pN,sZ,sU]
     refine rN 18 33 rfl rfl Qj ?_
     simp only [pA,pN,sZ,sU]
     refine rT 19 34 (.bool false) rfl rfl Qj ?_
     simp only [pA,pN,sZ,sU]
     refine rT 20 4 (.bool false) rfl rfl Qj ?_
     simp only [pA,pN,sZ,sU]
     refine wpAnyH_done (by kernel_rfl) ?_ _
     go_wp2
     go_ret
     exact ⟨by rw [HBk.out,hb1];rfl,HK0.out.trans ((HK.out.alloc _).trans Qj)⟩
    ·skip
     refine wp_region_held_drew (S:=Kept _) (by kernel_rfl) (Kept.refl _).drew (fun Qj=>?_)
     refine rT 0 15 (.pointer (some ⟨w.heap.size,0,none⟩)) rfl rfl Qj ?_
     simp only [pA,pN,sZ,sU]
     refine rY 1 16 rfl rfl (take_load_pb (by rfl) _ rfl _ rfl p HB.out.1 (fun _ h=>(HPA.out).kept h)) Qj ?_
     simp only [pA,pN,sZ,sU]
     refine rT 2 17 (.pointer (some ⟨wr.heap.size,2,none⟩)) rfl rfl Qj ?_
     simp only [pA,pN,sZ,sU]
     refine rC 3 18 (.int .i64 ↑(hKg k)) rfl rfl (fun _ h=>kept_cell h (c2.out)) Qj ?_
     simp only [pA,pN,sZ,sU]
     refine rT 5 20 (.pointer (some ⟨wr.heap.size,1,none⟩)) rfl rfl Qj ?_
     simp only [pA,pN,sZ,sU]
     refine rC 6 21 (.int .i64 (hS k)) rfl rfl (fun _ h=>kept_cell h (c1.out)) Qj ?_
     simp only [pA,pN,sZ,sU]
     refine rR 4 rfl (fun K hK=>?_)
     go_simp
     refine (HM1.out _).mono ?_
     rintro e w1 ⟨rfl,gw1⟩
     refine hK.out _ _ (Qj.trans gw1) (fun _=>?_)
     replace Qj:=Qj.trans gw1
     clear hK K
     refine rR 7 rfl (fun K hK=>?_)
     go_simp
     refine (HMk1.out _).mono ?_
     rintro e w2 ⟨rfl,gw2⟩
     refine hK.out _ _ (Qj.trans gw2) (fun _=>?_)
     replace Qj:=Qj.trans gw2
     clear hK K
     refine rT 8 23 (.bool true) rfl rfl Qj ?_
     simp only [pA,pN,sZ,sU]
     refine rT 9 24 (.bool true) rfl rfl Qj ?_
     simp only [pA,pN,sZ,sU]
     refine rT 10 25 (.pointer (some ⟨w.heap.size,0,none⟩)) rfl rfl Qj ?_
     simp only [pA,pN,sZ,sU]
     refine rY 11 26 rfl rfl (take_load_pb (by rfl) _ rfl _ rfl p HB.out.1 (fun _ h=>(HPA.out).kept h)) Qj ?_
     simp only [pA,pN,sZ,sU]
     refine rT 12 27 (.pointer (some ⟨wr.heap.size,3,none⟩)) rfl rfl Qj ?_
     simp only [pA,pN,sZ,sU]
     refine rC 13 28 (.int .i64 ↑(hRk k)) rfl rfl (fun _ h=>kept_cell h (c3.out)) Qj ?_
     simp only [pA,pN,sZ,sU]
     refine rT 15 30 (.pointer (some ⟨wr.heap.size,1,none⟩)) rfl rfl Qj ?_
     simp only [pA,pN,sZ,sU]
     refine rC 16 31 (.int .i64 (hS k)) rfl rfl (fun _ h=>kept_cell h (c1.out)) Qj ?_
     simp only [pA,pN,sZ,sU]
     refine rR 14 rfl (fun K hK=>?_)
     go_simp
     refine (HM2.out _).mono ?_
     rintro e w3 ⟨rfl,gw3⟩
     refine hK.out _ _ (Qj.trans gw3) (fun _=>?_)
     replace Qj:=Qj.trans gw3
     clear hK K
     refine rR 17 rfl (fun K hK=>?_)
     go_simp
     refine (HMk2.out _).mono ?_
     rintro e w4 ⟨rfl,gw4⟩
     refine hK.out _ _ (Qj.trans gw4) (fun _=>?_)
     replace Qj:=Qj.trans gw4
     clear hK K
     refine rT 18 33 (.bool (x2 == m2)) rfl rfl Qj ?_
     simp only [pA,pN,sZ,sU]
     refine rT 19 34 (.bool (x2 == m2)) rfl rfl Qj ?_
     simp only [pA,pN,sZ,sU]
     refine rT 20 4 (.bool (x2 == m2)) rfl rfl Qj ?_
     simp only [pA,pN,sZ,sU]
     refine wpAnyH_done (by kernel_rfl) ?_ _
     go_wp2
     go_ret
     exact ⟨by rw [HBk.out,hb1];rfl,HK0.out.trans ((HK.out.alloc _).trans Qj)⟩
   ·have he':(hR k == r)=false:=beq_eq_false_iff_ne.2 he
    have HE:=Qh he
    clear he
    go_wp2
    go_roundw
    case rel=>exact ⟨k+1,by omega,by go_num,fun j hj=>by rcases Nat.lt_succ_iff_lt_or_eq.1 hj with h|h;exact HNo.out j h;rw [h];exact HE.out,HK.out.alloc _⟩
    case measure=>simp [intOf];omega
  ·have HF:=Qh (back_no p.B r (fun j hj=>HNo.out j (by omega)))
   go_wp2
   go_ret
   exact ⟨by rw [HF.out];rfl,HK0.out.trans HK.out⟩
def passI (p:Ps):Int :=
 if p.t=0∧40≤p.e∧p.e<48∧bAt p.B p.e=0∧bAt p.B (p.e+8)=0∧bAt p.B (p.e-8)=-1 then p.e-8
 else if p.t=1∧16≤p.e∧p.e<24∧bAt p.B p.e=0∧bAt p.B (p.e-8)=0∧bAt p.B (p.e+8)=1 then p.e+8 else -1
def passB (p:Ps):Bool:=decide (0≤passI p)
def passS (p:Ps):Int:=if 0≤passI p then passI p else 0
theorem pass_off {p:Ps} (h:passI p=-1):passS p=0∧passB p=false:=by unfold passS passB;rw [h];decide
theorem pass_on {p:Ps} {s:Int} (h:passI p=s) (h0:0≤s):passS p=s∧passB p=true:=by unfold passS passB;rw [h,if_pos h0];simpa using h0
def rkI (e:Int):Int:=if 0≤e∧e<64 then e / 8 else -1
theorem rank_any (e:Int) (w:World):Calls Tryz.prog 91 #[.int .i64 e] w fun x w'=>x=.returned (.int .i64 (rkI e))∧Kept w w':=by
 unfold rkI
 by_cases h:0≤e∧e<64
 ·rw [if_pos h];exact (rank_yes e w h.1 h.2).mono fun _ _ ⟨a,b⟩=>⟨a,b ▸ Kept.refl _⟩
 ·rw [if_neg h];exact (rank_no e w (by omega)).mono fun _ _ ⟨a,b⟩=>⟨a,b ▸ Kept.refl _⟩
theorem man_at (B:List Int) (hB:Brd B) (s:Int) (h0:0≤s) (h1:s<64) (w:World) :
  Calls Tryz.prog 84 #[.agg (cl B).toArray,.int .i64 s] w fun e w'=>e=.returned (.int .i64 (bAt B s))∧Kept w w':=by
 have:=man_yes B hB s.toNat (by omega) w
 rwa [show ((s.toNat:Nat):Int)=s by omega] at this
theorem up_is (s:Int) (w:World) (h0:0≤s) (h1:s<56):Calls Tryz.prog 139 #[.int .i64 s,.int .i64 0,.int .i64 1] w fun e w'=>e=.returned (.tuple #[.int .i64 (s+8),.bool true])∧w=w':=by
 have:=step_yes s 0 1 w h0 (by omega) (by omega) (by omega) (by omega) (by omega)
 rwa [show (s / 8+1)*8+(s % 8+0)=s+8 by omega] at this
theorem down_is (s:Int) (w:World) (h0:8≤s) (h1:s<64):Calls Tryz.prog 139 #[.int .i64 s,.int .i64 0,.int .i64 (-1)] w fun e w'=>e=.returned (.tuple #[.int .i64 (s-8),.bool true])∧w=w':=by
 have:=step_yes s 0 (-1) w (by omega) h1 (by omega) (by omega) (by omega) (by omega)
 rwa [show (s / 8+-1)*8+(s % 8+0)=s-8 by omega] at this
theorem passed_none (p:Ps) (hB:Brd p.B) (h0:p.t≠0) (h1:p.t≠1) (w:World) :
  Calls Tryz.prog 101 #[.agg (pl p).toArray] w fun e w'=>e=.returned (.tuple #[.int .i64 (passS p),.bool (passB p)])∧Kept w w':=by
 have HP:=Qh (PAt.new w hB.1)
 have HF:=Qh (pass_off (p:=p) (by unfold passI;rw [if_neg (fun h=>h0 h.1),if_neg (fun h=>h1 h.1)]))
 have ct:=HP.out.turn
 have ho:otherI p.t=-1:=by unfold otherI;rw [if_neg h0,if_neg h1]
 have HO:=Qh (other_any p.t)
 rw [ho] at HO
 clear hB ho h0 h1
 go_enter Tryz.func101,Tryz.ntmps101
 go_wp2_with fail
 refine (HO.out _).mono ?_
 rintro e w1 ⟨rfl,k1⟩
 have HK1:=Qh (((Kept.refl w).alloc _).trans k1)
 clear k1 ct
 go_wp2
 refine wp_region_held_drew (S:=Kept _) (by kernel_rfl) (Kept.refl _).drew (fun Qj=>?_)
 refine rT 0 14 (.int .i64 (-1)) rfl rfl Qj ?_
 simp only [pA,pN,sZ,sU]
 refine rT 1 15 (.bool true) rfl rfl Qj ?_
 simp only [pA,pN,sZ,sU]
 refine rT 2 16 (.bool true) rfl rfl Qj ?_
 simp only [pA,pN,sZ,sU]
 refine rN 3 17 rfl rfl Qj ?_
 simp only [pA,pN,sZ,sU]
 refine rN 4 18 rfl rfl Qj ?_
 simp only [pA,pN,sZ,sU]
 refine rN 5 19 rfl rfl Qj ?_
 simp only [pA,pN,sZ,sU]
 refine rN 6 20 rfl rfl Qj ?_
 simp only [pA,pN,sZ,sU]
 refine rN 7 21 rfl rfl Qj ?_
 simp only [pA,pN,sZ,sU]
 refine rN 8 22 rfl rfl Qj ?_
 simp only [pA,pN,sZ,sU]
 refine rN 9 23 rfl rfl Qj ?_
 simp only [pA,pN,sZ,sU]
 refine rN 10 24 rfl rfl Qj ?_
 simp only [pA,pN,sZ,sU]
 refine rN 11 25 rfl rfl Qj ?_
 simp only [pA,pN,sZ,sU]
 refine rT 12 26 (.bool true) rfl rfl Qj ?_
 simp only [pA,pN,sZ,sU]
 refine wpAnyH_done (by kernel_rfl) ?_ _
 go_wp2
 go_ret2
 exact ⟨by rw [HF.out.1,HF.out.2];rfl,HK1.out.trans Qj⟩
set_option maxRecDepth 100000 in
set_option maxHeartbeats 2000000 in
theorem passed_off_w (p:Ps) (hB:Brd p.B) (ht:p.t=0) (hr:¬ (40≤p.e∧p.e<48)) (w:World) (hT:Tabs w) :
  Calls Tryz.prog 101 #[.agg (pl p).toArray] w fun e w'=>e=.returned (.tuple #[.int .i64 (passS p),.bool (passB p)])∧Kept w w':=by
 have HF:=Qh (pass_off (p:=p) (by unfold passI;rw [if_neg (fun h=>hr ⟨h.2.1,h.2.2.1⟩),if_neg (fun h=>by rw [ht] at h;exact absurd h.1 (by decide))]))
 have hn:(rkI p.e != 5)=true:=by rw [bne_iff_ne];unfold rkI;split <;> omega
 have HP:=Qh (PAt.new w hB.1)
 have HB:=Qh hB
 have HT:=Qh (hT.kept ((Kept.refl w).alloc (.cells (pl p).toArray 26)))
 have ct:=HP.out.turn
 rw [ht] at ct
 have HO:=Qh (other_any 0)
 have ho:otherI 0=1:=rfl
 rw [ho] at HO
 have HRk:=Qh (rank_any p.e)
 clear hB hT hr ho
 generalize rkI p.e=re at *
 go_enter Tryz.func101,Tryz.ntmps101
 go_wp2_with fail
 refine (HO.out _).mono ?_
 rintro e w1 ⟨rfl,k1⟩
 have HK1:=Qh (((Kept.refl w).alloc _).trans k1)
 have HPe:=Qh (HP.out.kept k1)
 have hct:=Qh (kept_cell k1 ct)
 have HT1:=Qh (HT.out.kept k1)
 have hv0:Hid (w1.cell? ⟨3,0,none⟩=some (.int .i64 5)):=HT1.out.views 0 (by omega)
 clear k1 ct
 go_wp2
 refine wp_region_held_drew (S:=Kept _) (by kernel_rfl) (Kept.refl _).drew (fun Qj=>?_)
 refine rT 0 14 (.int .i64 1) rfl rfl Qj ?_
 simp only [pA,pN,sZ,sU]
 refine rT 1 15 (.bool false) rfl rfl Qj ?_
 simp only [pA,pN,sZ,sU]
 refine rT 2 16 (.bool false) rfl rfl Qj ?_
 simp only [pA,pN,sZ,sU]
 refine rT 3 17 (.pointer (some ⟨w.heap.size,66,none⟩)) rfl rfl Qj ?_
 simp only [pA,pN,sZ,sU]
 refine rC 4 18 (.int .i64 p.e) rfl rfl (fun _ h=>kept_cell h (HPe.out.ep)) Qj ?_
 simp only [pA,pN,sZ,sU]
 refine rT 6 20 (.pointer (some ⟨w.heap.size,64,none⟩)) rfl rfl Qj ?_
 simp only [pA,pN,sZ,sU]
 refine rC 7 21 (.int .i64 0) rfl rfl (fun _ h=>kept_cell h (hct.out)) Qj ?_
 simp only [pA,pN,sZ,sU]
 refine rT 8 22 (.pointer (some ⟨3,0,none⟩)) rfl rfl Qj ?_
 simp only [pA,pN,sZ,sU]
 refine rT 9 23 (.pointer (some ⟨3,0,none⟩)) rfl rfl Qj ?_
 simp only [pA,pN,sZ,sU]
 refine rC 10 24 (.int .i64 5) rfl rfl (fun _ h=>kept_cell h (hv0.out)) Qj ?_
 simp only [pA,pN,sZ,sU]
 refine rR 5 rfl (fun K hK=>?_)
 go_simp
 refine (HRk.out _).mono ?_
 rintro e w2 ⟨rfl,gw2⟩
 refine hK.out _ _ (Qj.trans gw2) (fun _=>?_)
 replace Qj:=Qj.trans gw2
 clear hK K
 refine rT 11 25 (.bool true) rfl rfl Qj ?_
 simp only [pA,pN,sZ,sU]
 refine rT 12 26 (.bool true) rfl rfl Qj ?_
 simp only [pA,pN,sZ,sU]
 refine wpAnyH_done (by kernel_rfl) ?_ _
 go_wp2
 go_ret2
 exact ⟨by rw [HF.out.1,HF.out.2];rfl,HK1.out.trans Qj⟩
set_option maxRecDepth 100000 in
set_option maxHeartbeats 2000000 in
theorem passed0_w (p:Ps) (hB:Brd p.B) (ht:p.t=0) (hlo:40≤p.e) (hhi:p.e<48) (e0:bAt p.B p.e≠0) (w:World) (hT:Tabs w) :
  Calls Tryz.prog 101 #[.agg (pl p).toArray] w fun e w'=>e=.returned (.tuple #[.int .i64 (passS p),.bool (passB p)])∧Kept w w':=by
 have HF:=Qh (pass_off (p:=p) (by unfold passI;rw [if_neg (fun h=>e0 h.2.2.2.1),if_neg (fun h=>by rw [ht] at h;exact absurd h.1 (by decide))]))
 have b0:(bAt p.B p.e == 0)=false:=beq_eq_false_iff_ne.2 e0
 clear e0
 have hlo':=hlo
 have hn:(rkI p.e != 5)=false:=by
  have:rkI p.e=5:=by unfold rkI;rw [if_pos (by omega)];omega
  rw [this];rfl
 have HP:=Qh (PAt.new w hB.1)
 have HB:=Qh hB
 have HT:=Qh (hT.kept ((Kept.refl w).alloc (.cells (pl p).toArray 26)))
 have ct:=HP.out.turn
 rw [ht] at ct
 have HO:=Qh (other_any 0)
 have ho:otherI 0=1:=rfl
 rw [ho] at HO
 have HRk:=Qh (rank_any p.e)
 have HM0:=Qh (man_at p.B hB p.e (by omega) (by omega))
 have HM1:=Qh (man_at p.B hB (p.e+8) (by omega) (by omega))
 have HM2:=Qh (man_at p.B hB (p.e-8) (by omega) (by omega))
 clear hB hT ho hlo'
 generalize rkI p.e=re at *
 generalize bAt p.B p.e=x0 at *
 generalize bAt p.B (p.e+8)=x1 at *
 generalize bAt p.B (p.e-8)=x2 at *
 go_enter Tryz.func101,Tryz.ntmps101
 go_wp2_with fail
 refine (HO.out _).mono ?_
 rintro e w1 ⟨rfl,k1⟩
 have HK1:=Qh (((Kept.refl w).alloc _).trans k1)
 have HPe:=Qh (HP.out.kept k1)
 have hct:=Qh (kept_cell k1 ct)
 have HT1:=Qh (HT.out.kept k1)
 have hv0:Hid (w1.cell? ⟨3,0,none⟩=some (.int .i64 5)):=HT1.out.views 0 (by omega)
 clear k1 ct
 go_wp2
 refine wp_region_held_drew (S:=Kept _) (by kernel_rfl) (Kept.refl _).drew (fun Qj=>?_)
 refine rT 0 14 (.int .i64 1) rfl rfl Qj ?_
 simp only [pA,pN,sZ,sU]
 refine rT 1 15 (.bool false) rfl rfl Qj ?_
 simp only [pA,pN,sZ,sU]
 refine rT 2 16 (.bool false) rfl rfl Qj ?_
 simp only [pA,pN,sZ,sU]
 refine rT 3 17 (.pointer (some ⟨w.heap.size,66,none⟩)) rfl rfl Qj ?_
 simp only [pA,pN,sZ,sU]
 refine rC 4 18 (.int .i64 p.e) rfl rfl (fun _ h=>kept_cell h (HPe.out.ep)) Qj ?_
 simp only [pA,pN,sZ,sU]
 refine rT 6 20 (.pointer (some ⟨w.heap.size,64,none⟩)) rfl rfl Qj ?_
 simp only [pA,pN,sZ,sU]
 refine rC 7 21 (.int .i64 0) rfl rfl (fun _ h=>kept_cell h (hct.out)) Qj ?_
 simp only [pA,pN,sZ,sU]
 refine rT 8 22 (.pointer (some ⟨3,0,none⟩)) rfl rfl Qj ?_
 simp only [pA,pN,sZ,sU]
 refine rT 9 23 (.pointer (some ⟨3,0,none⟩)) rfl rfl Qj ?_
 simp only [pA,pN,sZ,sU]
 refine rC 10 24 (.int .i64 5) rfl rfl (fun _ h=>kept_cell h (hv0.out)) Qj ?_
 simp only [pA,pN,sZ,sU]
 refine rR 5 rfl (fun K hK=>?_)
 go_simp
 refine (HRk.out _).mono ?_
 rintro e w2 ⟨rfl,gw2⟩
 refine hK.out _ _ (Qj.trans gw2) (fun _=>?_)
 replace Qj:=Qj.trans gw2
 clear hK K
 refine rT 11 25 (.bool false) rfl rfl Qj ?_
 simp only [pA,pN,sZ,sU]
 refine rT 12 26 (.bool false) rfl rfl Qj ?_
 simp only [pA,pN,sZ,sU]
 refine wpAnyH_done (by kernel_rfl) ?_ _
 have HK2:=Qh (HK1.out.trans Qj)
 have HP2:=Qh (HPe.out.kept Qj)
 have hct2:=kept_cell Qj hct.out
 have hv1:w2.cell? ⟨3,1,none⟩=some (.int .i64 1):=(HT1.out.kept Qj).views 1 (by omega)
 have ce:=HP2.out.ep
 clear Qj gw2
 go_wp2_with fail
 refine (up_is p.e _ (by omega) (by omega)).mono ?_
 rintro e w' ⟨rfl,rfl⟩
 go_wp2_with fail
 refine (down_is p.e _ (by omega) (by omega)).mono ?_
 rintro e w' ⟨rfl,rfl⟩
 go_wp2_with (first|(refine wpList_load_ps (by rfl) _ rfl _ rfl _ (HP2.out) ?_)|(refine wpList_load_pb (by rfl) _ rfl _ rfl _ (HP2.out) ?_))
 refine (HM0.out _).mono ?_
 rintro e w3 ⟨rfl,k3⟩
 have HK3:=Qh (HK2.out.trans k3)
 have HP3:=Qh (HP2.out.kept k3)
 clear k3 ce hct2 hv1
 go_wp2
 go_ret2
 exact ⟨by rw [HF.out.1,HF.out.2];rfl,HK3.out⟩
set_option maxRecDepth 100000 in
set_option maxHeartbeats 2000000 in
theorem passed1_w (p:Ps) (hB:Brd p.B) (ht:p.t=0) (hlo:40≤p.e) (hhi:p.e<48) (e0:bAt p.B p.e=0) (e1:bAt p.B (p.e+8)≠0) (w:World) (hT:Tabs w) :
  Calls Tryz.prog 101 #[.agg (pl p).toArray] w fun e w'=>e=.returned (.tuple #[.int .i64 (passS p),.bool (passB p)])∧Kept w w':=by
 have HF:=Qh (pass_off (p:=p) (by unfold passI;rw [if_neg (fun h=>e1 h.2.2.2.2.1),if_neg (fun h=>by rw [ht] at h;exact absurd h.1 (by decide))]))
 have b0:(bAt p.B p.e == 0)=true:=beq_iff_eq.2 e0
 have b1:(bAt p.B (p.e+8) == 0)=false:=beq_eq_false_iff_ne.2 e1
 clear e0 e1
 have hlo':=hlo
 have hn:(rkI p.e != 5)=false:=by
  have:rkI p.e=5:=by unfold rkI;rw [if_pos (by omega)];omega
  rw [this];rfl
 have HP:=Qh (PAt.new w hB.1)
 have HB:=Qh hB
 have HT:=Qh (hT.kept ((Kept.refl w).alloc (.cells (pl p).toArray 26)))
 have ct:=HP.out.turn
 rw [ht] at ct
 have HO:=Qh (other_any 0)
 have ho:otherI 0=1:=rfl
 rw [ho] at HO
 have HRk:=Qh (rank_any p.e)
 have HM0:=Qh (man_at p.B hB p.e (by omega) (by omega))
 have HM1:=Qh (man_at p.B hB (p.e+8) (by omega) (by omega))
 have HM2:=Qh (man_at p.B hB (p.e-8) (by omega) (by omega))
 clear hB hT ho hlo'
 generalize rkI p.e=re at *
 generalize bAt p.B p.e=x0 at *
 generalize bAt p.B (p.e+8)=x1 at *
 generalize bAt p.B (p.e-8)=x2 at *
 go_enter Tryz.func101,Tryz.ntmps101
 go_wp2_with fail
 refine (HO.out _).mono ?_
 rintro e w1 ⟨rfl,k1⟩
 have HK1:=Qh (((Kept.refl w).alloc _).trans k1)
 have HPe:=Qh (HP.out.kept k1)
 have hct:=Qh (kept_cell k1 ct)
 have HT1:=Qh (HT.out.kept k1)
 have hv0:Hid (w1.cell? ⟨3,0,none⟩=some (.int .i64 5)):=HT1.out.views 0 (by omega)
 clear k1 ct
 go_wp2
 refine wp_region_held_drew (S:=Kept _) (by kernel_rfl) (Kept.refl _).drew (fun Qj=>?_)
 refine rT 0 14 (.int .i64 1) rfl rfl Qj ?_
 simp only [pA,pN,sZ,sU]
 refine rT 1 15 (.bool false) rfl rfl Qj ?_
 simp only [pA,pN,sZ,sU]
 refine rT 2 16 (.bool false) rfl rfl Qj ?_
 simp only [pA,pN,sZ,sU]
 refine rT 3 17 (.pointer (some ⟨w.heap.size,66,none⟩)) rfl rfl Qj ?_
 simp only [pA,pN,sZ,sU]
 refine rC 4 18 (.int .i64 p.e) rfl rfl (fun _ h=>kept_cell h (HPe.out.ep)) Qj ?_
 simp only [pA,pN,sZ,sU]
 refine rT 6 20 (.pointer (some ⟨w.heap.size,64,none⟩)) rfl rfl Qj ?_
 simp only [pA,pN,sZ,sU]
 refine rC 7 21 (.int .i64 0) rfl rfl (fun _ h=>kept_cell h (hct.out)) Qj ?_
 simp only [pA,pN,sZ,sU]
 refine rT 8 22 (.pointer (some ⟨3,0,none⟩)) rfl rfl Qj ?_
 simp only [pA,pN,sZ,sU]
 refine rT 9 23 (.pointer (some ⟨3,0,none⟩)) rfl rfl Qj ?_
 simp only [pA,pN,sZ,sU]
 refine rC 10 24 (.int .i64 5) rfl rfl (fun _ h=>kept_cell h (hv0.out)) Qj ?_
 simp only [pA,pN,sZ,sU]
 refine rR 5 rfl (fun K hK=>?_)
 go_simp
 refine (HRk.out _).mono ?_
 rintro e w2 ⟨rfl,gw2⟩
 refine hK.out _ _ (Qj.trans gw2) (fun _=>?_)
 replace Qj:=Qj.trans gw2
 clear hK K
 refine rT 11 25 (.bool false) rfl rfl Qj ?_
 simp only [pA,pN,sZ,sU]
 refine rT 12 26 (.bool false) rfl rfl Qj ?_
 simp only [pA,pN,sZ,sU]
 refine wpAnyH_done (by kernel_rfl) ?_ _
 have HK2:=Qh (HK1.out.trans Qj)
 have HP2:=Qh (HPe.out.kept Qj)
 have hct2:=kept_cell Qj hct.out
 have hv1:w2.cell? ⟨3,1,none⟩=some (.int .i64 1):=(HT1.out.kept Qj).views 1 (by omega)
 have ce:=HP2.out.ep
 clear Qj gw2
 go_wp2_with fail
 refine (up_is p.e _ (by omega) (by omega)).mono ?_
 rintro e w' ⟨rfl,rfl⟩
 go_wp2_with fail
 refine (down_is p.e _ (by omega) (by omega)).mono ?_
 rintro e w' ⟨rfl,rfl⟩
 go_wp2_with (first|(refine wpList_load_ps (by rfl) _ rfl _ rfl _ (HP2.out) ?_)|(refine wpList_load_pb (by rfl) _ rfl _ rfl _ (HP2.out) ?_))
 refine (HM0.out _).mono ?_
 rintro e w3 ⟨rfl,k3⟩
 have HK3:=Qh (HK2.out.trans k3)
 have HP3:=Qh (HP2.out.kept k3)
 clear k3 ce hct2 hv1
 go_wp2_with (first|(refine wpList_load_ps (by rfl) _ rfl _ rfl _ (HP3.out) ?_)|(refine wpList_load_pb (by rfl) _ rfl _ rfl _ (HP3.out) ?_))
 refine (HM1.out _).mono ?_
 rintro e w4 ⟨rfl,k4⟩
 have HK4:=Qh (HK3.out.trans k4)
 have HP4:=Qh (HP3.out.kept k4)
 clear k4
 go_wp2
 go_ret2
 exact ⟨by rw [HF.out.1,HF.out.2];rfl,HK4.out⟩
set_option maxRecDepth 100000 in
set_option maxHeartbeats 2000000 in
theorem passed2_w (p:Ps) (hB:Brd p.B) (ht:p.t=0) (hlo:40≤p.e) (hhi:p.e<48) (e0:bAt p.B p.e=0) (e1:bAt p.B (p.e+8)=0) (e2:bAt p.B (p.e-8)≠(-1)) (w:World) (hT:Tabs w) :
  Calls Tryz.prog 101 #[.agg (pl p).toArray] w fun e w'=>e=.returned (.tuple #[.int .i64 (passS p),.bool (passB p)])∧Kept w w':=by
 have HF:=Qh (pass_off (p:=p) (by unfold passI;rw [if_neg (fun h=>e2 h.2.2.2.2.2),if_neg (fun h=>by rw [ht] at h;exact absurd h.1 (by decide))]))
 have b0:(bAt p.B p.e == 0)=true:=beq_iff_eq.2 e0
 have b1:(bAt p.B (p.e+8) == 0)=true:=beq_iff_eq.2 e1
 have b2:(bAt p.B (p.e-8) != (-1))=true:=bne_iff_ne.2 e2
 clear e0 e1 e2
 have hlo':=hlo
 have hn:(rkI p.e != 5)=false:=by
  have:rkI p.e=5:=by unfold rkI;rw [if_pos (by omega)];omega
  rw [this];rfl
 have HP:=Qh (PAt.new w hB.1)
 have HB:=Qh hB
 have HT:=Qh (hT.kept ((Kept.refl w).alloc (.cells (pl p).toArray 26)))
 have ct:=HP.out.turn
 rw [ht] at ct
 have HO:=Qh (other_any 0)
 have ho:otherI 0=1:=rfl
 rw [ho] at HO
 have HRk:=Qh (rank_any p.e)
 have HM0:=Qh (man_at p.B hB p.e (by omega) (by omega))
 have HM1:=Qh (man_at p.B hB (p.e+8) (by omega) (by omega))
 have HM2:=Qh (man_at p.B hB (p.e-8) (by omega) (by omega))
 clear hB hT ho hlo'
 generalize rkI p.e=re at *
 generalize bAt p.B p.e=x0 at *
 generalize bAt p.B (p.e+8)=x1 at *
 generalize bAt p.B (p.e-8)=x2 at *
 go_enter Tryz.func101,Tryz.ntmps101
 go_wp2_with fail
 refine (HO.out _).mono ?_
 rintro e w1 ⟨rfl,k1⟩
 have HK1:=Qh (((Kept.refl w).alloc _).trans k1)
 have HPe:=Qh (HP.out.kept k1)
 have hct:=Qh (kept_cell k1 ct)
 have HT1:=Qh (HT.out.kept k1)
 have hv0:Hid (w1.cell? ⟨3,0,none⟩=some (.int .i64 5)):=HT1.out.views 0 (by omega)
 clear k1 ct
 go_wp2
 refine wp_region_held_drew (S:=Kept _) (by kernel_rfl) (Kept.refl _).drew (fun Qj=>?_)
 refine rT 0 14 (.int .i64 1) rfl rfl Qj ?_
 simp only [pA,pN,sZ,sU]
 refine rT 1 15 (.bool false) rfl rfl Qj ?_
 simp only [pA,pN,sZ,sU]
 refine rT 2 16 (.bool false) rfl rfl Qj ?_
 simp only [pA,pN,sZ,sU]
 refine rT 3 17 (.pointer (some ⟨w.heap.size,66,none⟩)) rfl rfl Qj ?_
 simp only [pA,pN,sZ,sU]
 refine rC 4 18 (.int .i64 p.e) rfl rfl (fun _ h=>kept_cell h (HPe.out.ep)) Qj ?_
 simp only [pA,pN,sZ,sU]
 refine rT 6 20 (.pointer (some ⟨w.heap.size,64,none⟩)) rfl rfl Qj ?_
 simp only [pA,pN,sZ,sU]
 refine rC 7 21 (.int .i64 0) rfl rfl (fun _ h=>kept_cell h (hct.out)) Qj ?_
 simp only [pA,pN,sZ,sU]
 refine rT 8 22 (.pointer (some ⟨3,0,none⟩)) rfl rfl Qj ?_
 simp only [pA,pN,sZ,sU]
 refine rT 9 23 (.pointer (some ⟨3,0,none⟩)) rfl rfl Qj ?_
 simp only [pA,pN,sZ,sU]
 refine rC 10 24 (.int .i64 5) rfl rfl (fun _ h=>kept_cell h (hv0.out)) Qj ?_
 simp only [pA,pN,sZ,sU]
 refine rR 5 rfl (fun K hK=>?_)
 go_simp
 refine (HRk.out _).mono ?_
 rintro e w2 ⟨rfl,gw2⟩
 refine hK.out _ _ (Qj.trans gw2) (fun _=>?_)
 replace Qj:=Qj.trans gw2
 clear hK K
 refine rT 11 25 (.bool false) rfl rfl Qj ?_
 simp only [pA,pN,sZ,sU]
 refine rT 12 26 (.bool false) rfl rfl Qj ?_
 simp only [pA,pN,sZ,sU]
 refine wpAnyH_done (by kernel_rfl) ?_ _
 have HK2:=Qh (HK1.out.trans Qj)
 have HP2:=Qh (HPe.out.kept Qj)
 have hct2:=kept_cell Qj hct.out
 have hv1:w2.cell? ⟨3,1,none⟩=some (.int .i64 1):=(HT1.out.kept Qj).views 1 (by omega)
 have ce:=HP2.out.ep
 clear Qj gw2
 go_wp2_with fail
 refine (up_is p.e _ (by omega) (by omega)).mono ?_
 rintro e w' ⟨rfl,rfl⟩
 go_wp2_with fail
 refine (down_is p.e _ (by omega) (by omega)).mono ?_
 rintro e w' ⟨rfl,rfl⟩
 go_wp2_with (first|(refine wpList_load_ps (by rfl) _ rfl _ rfl _ (HP2.out) ?_)|(refine wpList_load_pb (by rfl) _ rfl _ rfl _ (HP2.out) ?_))
 refine (HM0.out _).mono ?_
 rintro e w3 ⟨rfl,k3⟩
 have HK3:=Qh (HK2.out.trans k3)
 have HP3:=Qh (HP2.out.kept k3)
 clear k3 ce hct2 hv1
 go_wp2_with (first|(refine wpList_load_ps (by rfl) _ rfl _ rfl _ (HP3.out) ?_)|(refine wpList_load_pb (by rfl) _ rfl _ rfl _ (HP3.out) ?_))
 refine (HM1.out _).mono ?_
 rintro e w4 ⟨rfl,k4⟩
 have HK4:=Qh (HK3.out.trans k4)
 have HP4:=Qh (HP3.out.kept k4)
 clear k4
 go_wp2_with (first|(refine wpList_load_ps (by rfl) _ rfl _ rfl _ (HP4.out) ?_)|(refine wpList_load_pb (by rfl) _ rfl _ rfl _ (HP4.out) ?_))
 refine (HM2.out _).mono ?_
 rintro e w5 ⟨rfl,k5⟩
 have HK5:=Qh (HK4.out.trans k5)
 clear k5
 go_wp2_with fail
 refine (mmake_is 1 1 _ (by omega) (by omega) (by omega)).mono ?_
 rintro e w6 ⟨rfl,k6⟩
 rw [show mkI 1 1=(-1) from rfl]
 have HK6:=Qh (HK5.out.trans k6)
 clear k6
 go_wp2
 go_ret2
 exact ⟨by rw [HF.out.1,HF.out.2];rfl,HK6.out⟩
set_option maxRecDepth 100000 in
set_option maxHeartbeats 2000000 in
theorem passed3_w (p:Ps) (hB:Brd p.B) (ht:p.t=0) (hlo:40≤p.e) (hhi:p.e<48) (e0:bAt p.B p.e=0) (e1:bAt p.B (p.e+8)=0) (e2:bAt p.B (p.e-8)=(-1)) (w:World) (hT:Tabs w) :
  Calls Tryz.prog 101 #[.agg (pl p).toArray] w fun e w'=>e=.returned (.tuple #[.int .i64 (passS p),.bool (passB p)])∧Kept w w':=by
 have HF:=Qh (pass_on (p:=p) (by unfold passI;rw [if_pos ⟨ht,hlo,hhi,e0,e1,e2⟩]) (by omega))
 have b0:(bAt p.B p.e == 0)=true:=beq_iff_eq.2 e0
 have b1:(bAt p.B (p.e+8) == 0)=true:=beq_iff_eq.2 e1
 have b2:(bAt p.B (p.e-8) != (-1))=false:=by rw [e2];rfl
 clear e0 e1 e2
 have hlo':=hlo
 have hn:(rkI p.e != 5)=false:=by
  have:rkI p.e=5:=by unfold rkI;rw [if_pos (by omega)];omega
  rw [this];rfl
 have HP:=Qh (PAt.new w hB.1)
 have HB:=Qh hB
 have HT:=Qh (hT.kept ((Kept.refl w).alloc (.cells (pl p).toArray 26)))
 have ct:=HP.out.turn
 rw [ht] at ct
 have HO:=Qh (other_any 0)
 have ho:otherI 0=1:=rfl
 rw [ho] at HO
 have HRk:=Qh (rank_any p.e)
 have HM0:=Qh (man_at p.B hB p.e (by omega) (by omega))
 have HM1:=Qh (man_at p.B hB (p.e+8) (by omega) (by omega))
 have HM2:=Qh (man_at p.B hB (p.e-8) (by omega) (by omega))
 clear hB hT ho hlo'
 generalize rkI p.e=re at *
 generalize bAt p.B p.e=x0 at *
 generalize bAt p.B (p.e+8)=x1 at *
 generalize bAt p.B (p.e-8)=x2 at *
 go_enter Tryz.func101,Tryz.ntmps101
 go_wp2_with fail
 refine (HO.out _).mono ?_
 rintro e w1 ⟨rfl,k1⟩
 have HK1:=Qh (((Kept.refl w).alloc _).trans k1)
 have HPe:=Qh (HP.out.kept k1)
 have hct:=Qh (kept_cell k1 ct)
 have HT1:=Qh (HT.out.kept k1)
 have hv0:Hid (w1.cell? ⟨3,0,none⟩=some (.int .i64 5)):=HT1.out.views 0 (by omega)
 clear k1 ct
 go_wp2
 refine wp_region_held_drew (S:=Kept _) (by kernel_rfl) (Kept.refl _).drew (fun Qj=>?_)
 refine rT 0 14 (.int .i64 1) rfl rfl Qj ?_
 simp only [pA,pN,sZ,sU]
 refine rT 1 15 (.bool false) rfl rfl Qj ?_
 simp only [pA,pN,sZ,sU]
 refine rT 2 16 (.bool false) rfl rfl Qj ?_
 simp only [pA,pN,sZ,sU]
 refine rT 3 17 (.pointer (some ⟨w.heap.size,66,none⟩)) rfl rfl Qj ?_
 simp only [pA,pN,sZ,sU]
 refine rC 4 18 (.int .i64 p.e) rfl rfl (fun _ h=>kept_cell h (HPe.out.ep)) Qj ?_
 simp only [pA,pN,sZ,sU]
 refine rT 6 20 (.pointer (some ⟨w.heap.size,64,none⟩)) rfl rfl Qj ?_
 simp only [pA,pN,sZ,sU]
 refine rC 7 21 (.int .i64 0) rfl rfl (fun _ h=>kept_cell h (hct.out)) Qj ?_
 simp only [pA,pN,sZ,sU]
 refine rT 8 22 (.pointer (some ⟨3,0,none⟩)) rfl rfl Qj ?_
 simp only [pA,pN,sZ,sU]
 refine rT 9 23 (.pointer (some ⟨3,0,none⟩)) rfl rfl Qj ?_
 simp only [pA,pN,sZ,sU]
 refine rC 10 24 (.int .i64 5) rfl rfl (fun _ h=>kept_cell h (hv0.out)) Qj ?_
 simp only [pA,pN,sZ,sU]
 refine rR 5 rfl (fun K hK=>?_)
 go_simp
 refine (HRk.out _).mono ?_
 rintro e w2 ⟨rfl,gw2⟩
 refine hK.out _ _ (Qj.trans gw2) (fun _=>?_)
 replace Qj:=Qj.trans gw2
 clear hK K
 refine rT 11 25 (.bool false) rfl rfl Qj ?_
 simp only [pA,pN,sZ,sU]
 refine rT 12 26 (.bool false) rfl rfl Qj ?_
 simp only [pA,pN,sZ,sU]
 refine wpAnyH_done (by kernel_rfl) ?_ _
 have HK2:=Qh (HK1.out.trans Qj)
 have HP2:=Qh (HPe.out.kept Qj)
 have hct2:=kept_cell Qj hct.out
 have hv1:w2.cell? ⟨3,1,none⟩=some (.int .i64 1):=(HT1.out.kept Qj).views 1 (by omega)
 have ce:=HP2.out.ep
 clear Qj gw2
 go_wp2_with fail
 refine (up_is p.e _ (by omega) (by omega)).mono ?_
 rintro e w' ⟨rfl,rfl⟩
 go_wp2_with fail
 refine (down_is p.e _ (by omega) (by omega)).mono ?_
 rintro e w' ⟨rfl,rfl⟩
 go_wp2_with (first|(refine wpList_load_ps (by rfl) _ rfl _ rfl _ (HP2.out) ?_)|(refine wpList_load_pb (by rfl) _ rfl _ rfl _ (HP2.out) ?_))
 refine (HM0.out _).mono ?_
 rintro e w3 ⟨rfl,k3⟩
 have HK3:=Qh (HK2.out.trans k3)
 have HP3:=Qh (HP2.out.kept k3)
 clear k3 ce hct2 hv1
 go_wp2_with (first|(refine wpList_load_ps (by rfl) _ rfl _ rfl _ (HP3.out) ?_)|(refine wpList_load_pb (by rfl) _ rfl _ rfl _ (HP3.out) ?_))
 refine (HM1.out _).mono ?_
 rintro e w4 ⟨rfl,k4⟩
 have HK4:=Qh (HK3.out.trans k4)
 have HP4:=Qh (HP3.out.kept k4)
 clear k4
 go_wp2_with (first|(refine wpList_load_ps (by rfl) _ rfl _ rfl _ (HP4.out) ?_)|(refine wpList_load_pb (by rfl) _ rfl _ rfl _ (HP4.out) ?_))
 refine (HM2.out _).mono ?_
 rintro e w5 ⟨rfl,k5⟩
 have HK5:=Qh (HK4.out.trans k5)
 clear k5
 go_wp2_with fail
 refine (mmake_is 1 1 _ (by omega) (by omega) (by omega)).mono ?_
 rintro e w6 ⟨rfl,k6⟩
 rw [show mkI 1 1=(-1) from rfl]
 have HK6:=Qh (HK5.out.trans k6)
 clear k6
 go_wp2
 go_ret2
 exact ⟨by rw [HF.out.1,HF.out.2];rfl,HK6.out⟩
set_option maxRecDepth 100000 in
set_option maxHeartbeats 2000000 in
theorem passed_off_b (p:Ps) (hB:Brd p.B) (ht:p.t=1) (hr:¬ (16≤p.e∧p.e<24)) (w:World) (hT:Tabs w) :
  Calls Tryz.prog 101 #[.agg (pl p).toArray] w fun e w'=>e=.returned (.tuple #[.int .i64 (passS p),.bool (passB p)])∧Kept w w':=by
 have HF:=Qh (pass_off (p:=p) (by unfold passI;rw [if_neg (fun h=>by rw [ht] at h;exact absurd h.1 (by decide)),if_neg (fun h=>hr ⟨h.2.1,h.2.2.1⟩)]))
 have hn:(rkI p.e != 2)=true:=by rw [bne_iff_ne];unfold rkI;split <;> omega
 have HP:=Qh (PAt.new w hB.1)
 have HB:=Qh hB
 have HT:=Qh (hT.kept ((Kept.refl w).alloc (.cells (pl p).toArray 26)))
 have ct:=HP.out.turn
 rw [ht] at ct
 have HO:=Qh (other_any 1)
 have ho:otherI 1=0:=rfl
 rw [ho] at HO
 have HRk:=Qh (rank_any p.e)
 clear hB hT hr ho
 generalize rkI p.e=re at *
 go_enter Tryz.func101,Tryz.ntmps101
 go_wp2_with fail
 refine (HO.out _).mono ?_
 rintro e w1 ⟨rfl,k1⟩
 have HK1:=Qh (((Kept.refl w).alloc _).trans k1)
 have HPe:=Qh (HP.out.kept k1)
 have hct:=Qh (kept_cell k1 ct)
 have HT1:=Qh (HT.out.kept k1)
 have hv0:Hid (w1.cell? ⟨3,2,none⟩=some (.int .i64 2)):=HT1.out.views 2 (by omega)
 clear k1 ct
 go_wp2
 refine wp_region_held_drew (S:=Kept _) (by kernel_rfl) (Kept.refl _).drew (fun Qj=>?_)
 refine rT 0 14 (.int .i64 0) rfl rfl Qj ?_
 simp only [pA,pN,sZ,sU]
 refine rT 1 15 (.bool false) rfl rfl Qj ?_
 simp only [pA,pN,sZ,sU]
 refine rT 2 16 (.bool false) rfl rfl Qj ?_
 simp only [pA,pN,sZ,sU]
 refine rT 3 17 (.pointer (some ⟨w.heap.size,66,none⟩)) rfl rfl Qj ?_
 simp only [pA,pN,sZ,sU]
 refine rC 4 18 (.int .i64 p.e) rfl rfl (fun _ h=>kept_cell h (HPe.out.ep)) Qj ?_
 simp only [pA,pN,sZ,sU]
 refine rT 6 20 (.pointer (some ⟨w.heap.size,64,none⟩)) rfl rfl Qj ?_
 simp only [pA,pN,sZ,sU]
 refine rC 7 21 (.int .i64 1) rfl rfl (fun _ h=>kept_cell h (hct.out)) Qj ?_
 simp only [pA,pN,sZ,sU]
 refine rT 8 22 (.pointer (some ⟨3,2,none⟩)) rfl rfl Qj ?_
 simp only [pA,pN,sZ,sU]
 refine rT 9 23 (.pointer (some ⟨3,2,none⟩)) rfl rfl Qj ?_
 simp only [pA,pN,sZ,sU]
 refine rC 10 24 (.int .i64 2) rfl rfl (fun _ h=>kept_cell h (hv0.out)) Qj ?_
 simp only [pA,pN,sZ,sU]
 refine rR 5 rfl (fun K hK=>?_)
 go_simp
 refine (HRk.out _).mono ?_
 rintro e w2 ⟨rfl,gw2⟩
 refine hK.out _ _ (Qj.trans gw2) (fun _=>?_)
 replace Qj:=Qj.trans gw2
 clear hK K
 refine rT 11 25 (.bool true) rfl rfl Qj ?_
 simp only [pA,pN,sZ,sU]
 refine rT 12 26 (.bool true) rfl rfl Qj ?_
 simp only [pA,pN,sZ,sU]
 refine wpAnyH_done (by kernel_rfl) ?_ _
 go_wp2
 go_ret2
 exact ⟨by rw [HF.out.1,HF.out.2];rfl,HK1.out.trans Qj⟩
set_option maxRecDepth 100000 in
set_option maxHeartbeats 2000000 in
theorem passed0_b (p:Ps) (hB:Brd p.B) (ht:p.t=1) (hlo:16≤p.e) (hhi:p.e<24) (e0:bAt p.B p.e≠0) (w:World) (hT:Tabs w) :
  Calls Tryz.prog 101 #[.agg (pl p).toArray] w fun e w'=>e=.returned (.tuple #[.int .i64 (passS p),.bool (passB p)])∧Kept w w':=by
 have HF:=Qh (pass_off (p:=p) (by unfold passI;rw [if_neg (fun h=>by rw [ht] at h;exact absurd h.1 (by decide)),if_neg (fun h=>e0 h.2.2.2.1)]))
 have b0:(bAt p.B p.e == 0)=false:=beq_eq_false_iff_ne.2 e0
 clear e0
 have hlo':=hlo
 have hn:(rkI p.e != 2)=false:=by
  have:rkI p.e=2:=by unfold rkI;rw [if_pos (by omega)];omega
  rw [this];rfl
 have HP:=Qh (PAt.new w hB.1)
 have HB:=Qh hB
 have HT:=Qh (hT.kept ((Kept.refl w).alloc (.cells (pl p).toArray 26)))
 have ct:=HP.out.turn
 rw [ht] at ct
 have HO:=Qh (other_any 1)
 have ho:otherI 1=0:=rfl
 rw [ho] at HO
 have HRk:=Qh (rank_any p.e)
 have HM0:=Qh (man_at p.B hB p.e (by omega) (by omega))
 have HM1:=Qh (man_at p.B hB (p.e-8) (by omega) (by omega))
 have HM2:=Qh (man_at p.B hB (p.e+8) (by omega) (by omega))
 clear hB hT ho hlo'
 generalize rkI p.e=re at *
 generalize bAt p.B p.e=x0 at *
 generalize bAt p.B (p.e-8)=x1 at *
 generalize bAt p.B (p.e+8)=x2 at *
 go_enter Tryz.func101,Tryz.ntmps101
 go_wp2_with fail
 refine (HO.out _).mono ?_
 rintro e w1 ⟨rfl,k1⟩
 have HK1:=Qh (((Kept.refl w).alloc _).trans k1)
 have HPe:=Qh (HP.out.kept k1)
 have hct:=Qh (kept_cell k1 ct)
 have HT1:=Qh (HT.out.kept k1)
 have hv0:Hid (w1.cell? ⟨3,2,none⟩=some (.int .i64 2)):=HT1.out.views 2 (by omega)
 clear k1 ct
 go_wp2
 refine wp_region_held_drew (S:=Kept _) (by kernel_rfl) (Kept.refl _).drew (fun Qj=>?_)
 refine rT 0 14 (.int .i64 0) rfl rfl Qj ?_
 simp only [pA,pN,sZ,sU]
 refine rT 1 15 (.bool false) rfl rfl Qj ?_
 simp only [pA,pN,sZ,sU]
 refine rT 2 16 (.bool false) rfl rfl Qj ?_
 simp only [pA,pN,sZ,sU]
 refine rT 3 17 (.pointer (some ⟨w.heap.size,66,none⟩)) rfl rfl Qj ?_
 simp only [pA,pN,sZ,sU]
 refine rC 4 18 (.int .i64 p.e) rfl rfl (fun _ h=>kept_cell h (HPe.out.ep)) Qj ?_
 simp only [pA,pN,sZ,sU]
 refine rT 6 20 (.pointer (some ⟨w.heap.size,64,none⟩)) rfl rfl Qj ?_
 simp only [pA,pN,sZ,sU]
 refine rC 7 21 (.int .i64 1) rfl rfl (fun _ h=>kept_cell h (hct.out)) Qj ?_
 simp only [pA,pN,sZ,sU]
 refine rT 8 22 (.pointer (some ⟨3,2,none⟩)) rfl rfl Qj ?_
 simp only [pA,pN,sZ,sU]
 refine rT 9 23 (.pointer (some ⟨3,2,none⟩)) rfl rfl Qj ?_
 simp only [pA,pN,sZ,sU]
 refine rC 10 24 (.int .i64 2) rfl rfl (fun _ h=>kept_cell h (hv0.out)) Qj ?_
 simp only [pA,pN,sZ,sU]
 refine rR 5 rfl (fun K hK=>?_)
 go_simp
 refine (HRk.out _).mono ?_
 rintro e w2 ⟨rfl,gw2⟩
 refine hK.out _ _ (Qj.trans gw2) (fun _=>?_)
 replace Qj:=Qj.trans gw2
 clear hK K
 refine rT 11 25 (.bool false) rfl rfl Qj ?_
 simp only [pA,pN,sZ,sU]
 refine rT 12 26 (.bool false) rfl rfl Qj ?_
 simp only [pA,pN,sZ,sU]
 refine wpAnyH_done (by kernel_rfl) ?_ _
 have HK2:=Qh (HK1.out.trans Qj)
 have HP2:=Qh (HPe.out.kept Qj)
 have hct2:=kept_cell Qj hct.out
 have hv1:w2.cell? ⟨3,3,none⟩=some (.int .i64 (-1)):=(HT1.out.kept Qj).views 3 (by omega)
 have ce:=HP2.out.ep
 clear Qj gw2
 go_wp2_with fail
 refine (down_is p.e _ (by omega) (by omega)).mono ?_
 rintro e w' ⟨rfl,rfl⟩
 go_wp2_with fail
 refine (up_is p.e _ (by omega) (by omega)).mono ?_
 rintro e w' ⟨rfl,rfl⟩
 go_wp2_with (first|(refine wpList_load_ps (by rfl) _ rfl _ rfl _ (HP2.out) ?_)|(refine wpList_load_pb (by rfl) _ rfl _ rfl _ (HP2.out) ?_))
 refine (HM0.out _).mono ?_
 rintro e w3 ⟨rfl,k3⟩
 have HK3:=Qh (HK2.out.trans k3)
 have HP3:=Qh (HP2.out.kept k3)
 clear k3 ce hct2 hv1
 go_wp2
 go_ret2
 exact ⟨by rw [HF.out.1,HF.out.2];rfl,HK3.out⟩
set_option maxRecDepth 100000 in
set_option maxHeartbeats 2000000 in
theorem passed1_b (p:Ps) (hB:Brd p.B) (ht:p.t=1) (hlo:16≤p.e) (hhi:p.e<24) (e0:bAt p.B p.e=0) (e1:bAt p.B (p.e-8)≠0) (w:World) (hT:Tabs w) :
  Calls Tryz.prog 101 #[.agg (pl p).toArray] w fun e w'=>e=.returned (.tuple #[.int .i64 (passS p),.bool (passB p)])∧Kept w w':=by
 have HF:=Qh (pass_off (p:=p) (by unfold passI;rw [if_neg (fun h=>by rw [ht] at h;exact absurd h.1 (by decide)),if_neg (fun h=>e1 h.2.2.2.2.1)]))
 have b0:(bAt p.B p.e == 0)=true:=beq_iff_eq.2 e0
 have b1:(bAt p.B (p.e-8) == 0)=false:=beq_eq_false_iff_ne.2 e1
 clear e0 e1
 have hlo':=hlo
 have hn:(rkI p.e != 2)=false:=by
  have:rkI p.e=2:=by unfold rkI;rw [if_pos (by omega)];omega
  rw [this];rfl
 have HP:=Qh (PAt.new w hB.1)
 have HB:=Qh hB
 have HT:=Qh (hT.kept ((Kept.refl w).alloc (.cells (pl p).toArray 26)))
 have ct:=HP.out.turn
 rw [ht] at ct
 have HO:=Qh (other_any 1)
 have ho:otherI 1=0:=rfl
 rw [ho] at HO
 have HRk:=Qh (rank_any p.e)
 have HM0:=Qh (man_at p.B hB p.e (by omega) (by omega))
 have HM1:=Qh (man_at p.B hB (p.e-8) (by omega) (by omega))
 have HM2:=Qh (man_at p.B hB (p.e+8) (by omega) (by omega))
 clear hB hT ho hlo'
 generalize rkI p.e=re at *
 generalize bAt p.B p.e=x0 at *
 generalize bAt p.B (p.e-8)=x1 at *
 generalize bAt p.B (p.e+8)=x2 at *
 go_enter Tryz.func101,Tryz.ntmps101
 go_wp2_with fail
 refine (HO.out _).mono ?_
 rintro e w1 ⟨rfl,k1⟩
 have HK1:=Qh (((Kept.refl w).alloc _).trans k1)
 have HPe:=Qh (HP.out.kept k1)
 have hct:=Qh (kept_cell k1 ct)
 have HT1:=Qh (HT.out.kept k1)
 have hv0:Hid (w1.cell? ⟨3,2,none⟩=some (.int .i64 2)):=HT1.out.views 2 (by omega)
 clear k1 ct
 go_wp2
 refine wp_region_held_drew (S:=Kept _) (by kernel_rfl) (Kept.refl _).drew (fun Qj=>?_)
 refine rT 0 14 (.int .i64 0) rfl rfl Qj ?_
 simp only [pA,pN,sZ,sU]
 refine rT 1 15 (.bool false) rfl rfl Qj ?_
 simp only [pA,pN,sZ,sU]
 refine rT 2 16 (.bool false) rfl rfl Qj ?_
 simp only [pA,pN,sZ,sU]
 refine rT 3 17 (.pointer (some ⟨w.heap.size,66,none⟩)) rfl rfl Qj ?_
 simp only [pA,pN,sZ,sU]
 refine rC 4 18 (.int .i64 p.e) rfl rfl (fun _ h=>kept_cell h (HPe.out.ep)) Qj ?_
 simp only [pA,pN,sZ,sU]
 refine rT 6 20 (.pointer (some ⟨w.heap.size,64,none⟩)) rfl rfl Qj ?_
 simp only [pA,pN,sZ,sU]
 refine rC 7 21 (.int .i64 1) rfl rfl (fun _ h=>kept_cell h (hct.out)) Qj ?_
 simp only [pA,pN,sZ,sU]
 refine rT 8 22 (.pointer (some ⟨3,2,none⟩)) rfl rfl Qj ?_
 simp only [pA,pN,sZ,sU]
 refine rT 9 23 (.pointer (some ⟨3,2,none⟩)) rfl rfl Qj ?_
 simp only [pA,pN,sZ,sU]
 refine rC 10 24 (.int .i64 2) rfl rfl (fun _ h=>kept_cell h (hv0.out)) Qj ?_
 simp only [pA,pN,sZ,sU]
 refine rR 5 rfl (fun K hK=>?_)
 go_simp
 refine (HRk.out _).mono ?_
 rintro e w2 ⟨rfl,gw2⟩
 refine hK.out _ _ (Qj.trans gw2) (fun _=>?_)
 replace Qj:=Qj.trans gw2
 clear hK K
 refine rT 11 25 (.bool false) rfl rfl Qj ?_
 simp only [pA,pN,sZ,sU]
 refine rT 12 26 (.bool false) rfl rfl Qj ?_
 simp only [pA,pN,sZ,sU]
 refine wpAnyH_done (by kernel_rfl) ?_ _
 have HK2:=Qh (HK1.out.trans Qj)
 have HP2:=Qh (HPe.out.kept Qj)
 have hct2:=kept_cell Qj hct.out
 have hv1:w2.cell? ⟨3,3,none⟩=some (.int .i64 (-1)):=(HT1.out.kept Qj).views 3 (by omega)
 have ce:=HP2.out.ep
 clear Qj gw2
 go_wp2_with fail
 refine (down_is p.e _ (by omega) (by omega)).mono ?_
 rintro e w' ⟨rfl,rfl⟩
 go_wp2_with fail
 refine (up_is p.e _ (by omega) (by omega)).mono ?_
 rintro e w' ⟨rfl,rfl⟩
 go_wp2_with (first|(refine wpList_load_ps (by rfl) _ rfl _ rfl _ (HP2.out) ?_)|(refine wpList_load_pb (by rfl) _ rfl _ rfl _ (HP2.out) ?_))
 refine (HM0.out _).mono ?_
 rintro e w3 ⟨rfl,k3⟩
 have HK3:=Qh (HK2.out.trans k3)
 have HP3:=Qh (HP2.out.kept k3)
 clear k3 ce hct2 hv1
 go_wp2_with (first|(refine wpList_load_ps (by rfl) _ rfl _ rfl _ (HP3.out) ?_)|(refine wpList_load_pb (by rfl) _ rfl _ rfl _ (HP3.out) ?_))
 refine (HM1.out _).mono ?_
 rintro e w4 ⟨rfl,k4⟩
 have HK4:=Qh (HK3.out.trans k4)
 have HP4:=Qh (HP3.out.kept k4)
 clear k4
 go_wp2
 go_ret2
 exact ⟨by rw [HF.out.1,HF.out.2];rfl,HK4.out⟩
set_option maxRecDepth 100000 in
set_option maxHeartbeats 2000000 in
theorem passed2_b (p:Ps) (hB:Brd p.B) (ht:p.t=1) (hlo:16≤p.e) (hhi:p.e<24) (e0:bAt p.B p.e=0) (e1:bAt p.B (p.e-8)=0) (e2:bAt p.B (p.e+8)≠1) (w:World) (hT:Tabs w) :
  Calls Tryz.prog 101 #[.agg (pl p).toArray] w fun e w'=>e=.returned (.tuple #[.int .i64 (passS p),.bool (passB p)])∧Kept w w':=by
 have HF:=Qh (pass_off (p:=p) (by unfold passI;rw [if_neg (fun h=>by rw [ht] at h;exact absurd h.1 (by decide)),if_neg (fun h=>e2 h.2.2.2.2.2)]))
 have b0:(bAt p.B p.e == 0)=true:=beq_iff_eq.2 e0
 have b1:(bAt p.B (p.e-8) == 0)=true:=beq_iff_eq.2 e1
 have b2:(bAt p.B (p.e+8) != 1)=true:=bne_iff_ne.2 e2
 clear e0 e1 e2
 have hlo':=hlo
 have hn:(rkI p.e != 2)=false:=by
  have:rkI p.e=2:=by unfold rkI;rw [if_pos (by omega)];omega
  rw [this];rfl
 have HP:=Qh (PAt.new w hB.1)
 have HB:=Qh hB
 have HT:=Qh (hT.kept ((Kept.refl w).alloc (.cells (pl p).toArray 26)))
 have ct:=HP.out.turn
 rw [ht] at ct
 have HO:=Qh (other_any 1)
 have ho:otherI 1=0:=rfl
 rw [ho] at HO
 have HRk:=Qh (rank_any p.e)
 have HM0:=Qh (man_at p.B hB p.e (by omega) (by omega))
 have HM1:=Qh (man_at p.B hB (p.e-8) (by omega) (by omega))
 have HM2:=Qh (man_at p.B hB (p.e+8) (by omega) (by omega))
 clear hB hT ho hlo'
 generalize rkI p.e=re at *
 generalize bAt p.B p.e=x0 at *
 generalize bAt p.B (p.e-8)=x1 at *
 generalize bAt p.B (p.e+8)=x2 at *
 go_enter Tryz.func101,Tryz.ntmps101
 go_wp2_with fail
 refine (HO.out _).mono ?_
 rintro e w1 ⟨rfl,k1⟩
 have HK1:=Qh (((Kept.refl w).alloc _).trans k1)
 have HPe:=Qh (HP.out.kept k1)
 have hct:=Qh (kept_cell k1 ct)
 have HT1:=Qh (HT.out.kept k1)
 have hv0:Hid (w1.cell? ⟨3,2,none⟩=some (.int .i64 2)):=HT1.out.views 2 (by omega)
 clear k1 ct
 go_wp2
 refine wp_region_held_drew (S:=Kept _) (by kernel_rfl) (Kept.refl _).drew (fun Qj=>?_)
 refine rT 0 14 (.int .i64 0) rfl rfl Qj ?_
 simp only [pA,pN,sZ,sU]
 refine rT 1 15 (.bool false) rfl rfl Qj ?_
 simp only [pA,pN,sZ,sU]
 refine rT 2 16 (.bool false) rfl rfl Qj ?_
 simp only [pA,pN,sZ,sU]
 refine rT 3 17 (.pointer (some ⟨w.heap.size,66,none⟩)) rfl rfl Qj ?_
 simp only [pA,pN,sZ,sU]
 refine rC 4 18 (.int .i64 p.e) rfl rfl (fun _ h=>kept_cell h (HPe.out.ep)) Qj ?_
 simp only [pA,pN,sZ,sU]
 refine rT 6 20 (.pointer (some ⟨w.heap.size,64,none⟩)) rfl rfl Qj ?_
 simp only [pA,pN,sZ,sU]
 refine rC 7 21 (.int .i64 1) rfl rfl (fun _ h=>kept_cell h (hct.out)) Qj ?_
 simp only [pA,pN,sZ,sU]
 refine rT 8 22 (.pointer (some ⟨3,2,none⟩)) rfl rfl Qj ?_
 simp only [pA,pN,sZ,sU]
 refine rT 9 23 (.pointer (some ⟨3,2,none⟩)) rfl rfl Qj ?_
 simp only [pA,pN,sZ,sU]
 refine rC 10 24 (.int .i64 2) rfl rfl (fun _ h=>kept_cell h (hv0.out)) Qj ?_
 simp only [pA,pN,sZ,sU]
 refine rR 5 rfl (fun K hK=>?_)
 go_simp
 refine (HRk.out _).mono ?_
 rintro e w2 ⟨rfl,gw2⟩
 refine hK.out _ _ (Qj.trans gw2) (fun _=>?_)
 replace Qj:=Qj.trans gw2
 clear hK K
 refine rT 11 25 (.bool false) rfl rfl Qj ?_
 simp only [pA,pN,sZ,sU]
 refine rT 12 26 (.bool false) rfl rfl Qj ?_
 simp only [pA,pN,sZ,sU]
 refine wpAnyH_done (by kernel_rfl) ?_ _
 have HK2:=Qh (HK1.out.trans Qj)
 have HP2:=Qh (HPe.out.kept Qj)
 have hct2:=kept_cell Qj hct.out
 have hv1:w2.cell? ⟨3,3,none⟩=some (.int .i64 (-1)):=(HT1.out.kept Qj).views 3 (by omega)
 have ce:=HP2.out.ep
 clear Qj gw2
 go_wp2_with fail
 refine (down_is p.e _ (by omega) (by omega)).mono ?_
 rintro e w' ⟨rfl,rfl⟩
 go_wp2_with fail
 refine (up_is p.e _ (by omega) (by omega)).mono ?_
 rintro e w' ⟨rfl,rfl⟩
 go_wp2_with (first|(refine wpList_load_ps (by rfl) _ rfl _ rfl _ (HP2.out) ?_)|(refine wpList_load_pb (by rfl) _ rfl _ rfl _ (HP2.out) ?_))
 refine (HM0.out _).mono ?_
 rintro e w3 ⟨rfl,k3⟩
 have HK3:=Qh (HK2.out.trans k3)
 have HP3:=Qh (HP2.out.kept k3)
 clear k3 ce hct2 hv1
 go_wp2_with (first|(refine wpList_load_ps (by rfl) _ rfl _ rfl _ (HP3.out) ?_)|(refine wpList_load_pb (by rfl) _ rfl _ rfl _ (HP3.out) ?_))
 refine (HM1.out _).mono ?_
 rintro e w4 ⟨rfl,k4⟩
 have HK4:=Qh (HK3.out.trans k4)
 have HP4:=Qh (HP3.out.kept k4)
 clear k4
 go_wp2_with (first|(refine wpList_load_ps (by rfl) _ rfl _ rfl _ (HP4.out) ?_)|(refine wpList_load_pb (by rfl) _ rfl _ rfl _ (HP4.out) ?_))
 refine (HM2.out _).mono ?_
 rintro e w5 ⟨rfl,k5⟩
 have HK5:=Qh (HK4.out.trans k5)
 clear k5
 go_wp2_with fail
 refine (mmake_is 1 0 _ (by omega) (by omega) (by omega)).mono ?_
 rintro e w6 ⟨rfl,k6⟩
 rw [show mkI 1 0=1 from rfl]
 have HK6:=Qh (HK5.out.trans k6)
 clear k6
 go_wp2
 go_ret2
 exact ⟨by rw [HF.out.1,HF.out.2];rfl,HK6.out⟩
set_option maxRecDepth 100000 in
set_option maxHeartbeats 2000000 in
theorem passed3_b (p:Ps) (hB:Brd p.B) (ht:p.t=1) (hlo:16≤p.e) (hhi:p.e<24) (e0:bAt p.B p.e=0) (e1:bAt p.B (p.e-8)=0) (e2:bAt p.B (p.e+8)=1) (w:World) (hT:Tabs w) :
  Calls Tryz.prog 101 #[.agg (pl p).toArray] w fun e w'=>e=.returned (.tuple #[.int .i64 (passS p),.bool (passB p)])∧Kept w w':=by
 have HF:=Qh (pass_on (p:=p) (by unfold passI;rw [if_neg (fun h=>by rw [ht] at h;exact absurd h.1 (by decide)),if_pos ⟨ht,hlo,hhi,e0,e1,e2⟩]) (by omega))
 have b0:(bAt p.B p.e == 0)=true:=beq_iff_eq.2 e0
 have b1:(bAt p.B (p.e-8) == 0)=true:=beq_iff_eq.2 e1
 have b2:(bAt p.B (p.e+8) != 1)=false:=by rw [e2];rfl
 clear e0 e1 e2
 have hlo':=hlo
 have hn:(rkI p.e != 2)=false:=by
  have:rkI p.e=2:=by unfold rkI;rw [if_pos (by omega)];omega
  rw [this];rfl
 have HP:=Qh (PAt.new w hB.1)
 have HB:=Qh hB
 have HT:=Qh (hT.kept ((Kept.refl w).alloc (.cells (pl p).toArray 26)))
 have ct:=HP.out.turn
 rw [ht] at ct
 have HO:=Qh (other_any 1)
 have ho:otherI 1=0:=rfl
 rw [ho] at HO
 have HRk:=Qh (rank_any p.e)
 have HM0:=Qh (man_at p.B hB p.e (by omega) (by omega))
 have HM1:=Qh (man_at p.B hB (p.e-8) (by omega) (by omega))
 have HM2:=Qh (man_at p.B hB (p.e+8) (by omega) (by omega))
 clear hB hT ho hlo'
 generalize rkI p.e=re at *
 generalize bAt p.B p.e=x0 at *
 generalize bAt p.B (p.e-8)=x1 at *
 generalize bAt p.B (p.e+8)=x2 at *
 go_enter Tryz.func101,Tryz.ntmps101
 go_wp2_with fail
 refine (HO.out _).mono ?_
 rintro e w1 ⟨rfl,k1⟩
 have HK1:=Qh (((Kept.refl w).alloc _).trans k1)
 have HPe:=Qh (HP.out.kept k1)
 have hct:=Qh (kept_cell k1 ct)
 have HT1:=Qh (HT.out.kept k1)
 have hv0:Hid (w1.cell? ⟨3,2,none⟩=some (.int .i64 2)):=HT1.out.views 2 (by omega)
 clear k1 ct
 go_wp2
 refine wp_region_held_drew (S:=Kept _) (by kernel_rfl) (Kept.refl _).drew (fun Qj=>?_)
 refine rT 0 14 (.int .i64 0) rfl rfl Qj ?_
 simp only [pA,pN,sZ,sU]
 refine rT 1 15 (.bool false) rfl rfl Qj ?_
 simp only [pA,pN,sZ,sU]
 refine rT 2 16 (.bool false) rfl rfl Qj ?_
 simp only [pA,pN,sZ,sU]
 refine rT 3 17 (.pointer (some ⟨w.heap.size,66,none⟩)) rfl rfl Qj ?_
 simp only [pA,pN,sZ,sU]
 refine rC 4 18 (.int .i64 p.e) rfl rfl (fun _ h=>kept_cell h (HPe.out.ep)) Qj ?_
 simp only [pA,pN,sZ,sU]
 refine rT 6 20 (.pointer (some ⟨w.heap.size,64,none⟩)) rfl rfl Qj ?_
 simp only [pA,pN,sZ,sU]
 refine rC 7 21 (.int .i64 1) rfl rfl (fun _ h=>kept_cell h (hct.out)) Qj ?_
 simp only [pA,pN,sZ,sU]
 refine rT 8 22 (.pointer (some ⟨3,2,none⟩)) rfl rfl Qj ?_
 simp only [pA,pN,sZ,sU]
 refine rT 9 23 (.pointer (some ⟨3,2,none⟩)) rfl rfl Qj ?_
 simp only [pA,pN,sZ,sU]
 refine rC 10 24 (.int .i64 2) rfl rfl (fun _ h=>kept_cell h (hv0.out)) Qj ?_
 simp only [pA,pN,sZ,sU]
 refine rR 5 rfl (fun K hK=>?_)
 go_simp
 refine (HRk.out _).mono ?_
 rintro e w2 ⟨rfl,gw2⟩
 refine hK.out _ _ (Qj.trans gw2) (fun _=>?_)
 replace Qj:=Qj.trans gw2
 clear hK K
 refine rT 11 25 (.bool false) rfl rfl Qj ?_
 simp only [pA,pN,sZ,sU]
 refine rT 12 26 (.bool false) rfl rfl Qj ?_
 simp only [pA,pN,sZ,sU]
 refine wpAnyH_done (by kernel_rfl) ?_ _
 have HK2:=Qh (HK1.out.trans Qj)
 have HP2:=Qh (HPe.out.kept Qj)
 have hct2:=kept_cell Qj hct.out
 have hv1:w2.cell? ⟨3,3,none⟩=some (.int .i64 (-1)):=(HT1.out.kept Qj).views 3 (by omega)
 have ce:=HP2.out.ep
 clear Qj gw2
 go_wp2_with fail
 refine (down_is p.e _ (by omega) (by omega)).mono ?_
 rintro e w' ⟨rfl,rfl⟩
 go_wp2_with fail
 refine (up_is p.e _ (by omega) (by omega)).mono ?_
 rintro e w' ⟨rfl,rfl⟩
 go_wp2_with (first|(refine wpList_load_ps (by rfl) _ rfl _ rfl _ (HP2.out) ?_)|(refine wpList_load_pb (by rfl) _ rfl _ rfl _ (HP2.out) ?_))
 refine (HM0.out _).mono ?_
 rintro e w3 ⟨rfl,k3⟩
 have HK3:=Qh (HK2.out.trans k3)
 have HP3:=Qh (HP2.out.kept k3)
 clear k3 ce hct2 hv1
 go_wp2_with (first|(refine wpList_load_ps (by rfl) _ rfl _ rfl _ (HP3.out) ?_)|(refine wpList_load_pb (by rfl) _ rfl _ rfl _ (HP3.out) ?_))
 refine (HM1.out _).mono ?_
 rintro e w4 ⟨rfl,k4⟩
 have HK4:=Qh (HK3.out.trans k4)
 have HP4:=Qh (HP3.out.kept k4)
 clear k4
 go_wp2_with (first|(refine wpList_load_ps (by rfl) _ rfl _ rfl _ (HP4.out) ?_)|(refine wpList_load_pb (by rfl) _ rfl _ rfl _ (HP4.out) ?_))
 refine (HM2.out _).mono ?_
 rintro e w5 ⟨rfl,k5⟩
 have HK5:=Qh (HK4.out.trans k5)
 clear k5
 go_wp2_with fail
 refine (mmake_is 1 0 _ (by omega) (by omega) (by omega)).mono ?_
 rintro e w6 ⟨rfl,k6⟩
 rw [show mkI 1 0=1 from rfl]
 have HK6:=Qh (HK5.out.trans k6)
 clear k6
 go_wp2
 go_ret2
 exact ⟨by rw [HF.out.1,HF.out.2];rfl,HK6.out⟩
theorem passed_is (p:Ps) (hB:Brd p.B) (w:World) (hT:Tabs w) :
  Calls Tryz.prog 101 #[.agg (pl p).toArray] w fun e w'=>e=.returned (.tuple #[.int .i64 (passS p),.bool (passB p)])∧Kept w w':=by
 by_cases h0:p.t=0
 ·by_cases hr:40≤p.e∧p.e<48
  ·by_cases e0:bAt p.B p.e=0
   ·by_cases e1:bAt p.B (p.e+8)=0
    ·by_cases e2:bAt p.B (p.e-8)=(-1)
     ·exact passed3_w p hB h0 hr.1 hr.2 e0 e1 e2 w hT
     ·exact passed2_w p hB h0 hr.1 hr.2 e0 e1 e2 w hT
    ·exact passed1_w p hB h0 hr.1 hr.2 e0 e1 w hT
   ·exact passed0_w p hB h0 hr.1 hr.2 e0 w hT
  ·exact passed_off_w p hB h0 hr w hT
 ·by_cases h1:p.t=1
  ·by_cases hr:16≤p.e∧p.e<24
   ·by_cases e0:bAt p.B p.e=0
    ·by_cases e1:bAt p.B (p.e-8)=0
     ·by_cases e2:bAt p.B (p.e+8)=1
      ·exact passed3_b p hB h1 hr.1 hr.2 e0 e1 e2 w hT
      ·exact passed2_b p hB h1 hr.1 hr.2 e0 e1 e2 w hT
     ·exact passed1_b p hB h1 hr.1 hr.2 e0 e1 w hT
    ·exact passed0_b p hB h1 hr.1 hr.2 e0 w hT
   ·exact passed_off_b p hB h1 hr w hT
  ·exact passed_none p hB h0 h1 w
def withinB (p:Ps):Bool:=decide (p.t=0∨p.t=1) && decide (0≤p.c∧p.c≤15) && decide (-1≤p.e∧p.e≤63)
theorem within_iff (p:Ps):withinB p=true↔(p.t=0∨p.t=1)∧(0≤p.c∧p.c≤15)∧(-1≤p.e∧p.e≤63):=by simp [withinB,and_assoc]
theorem within_t (p:Ps) (hB:Brd p.B) (h0:p.t≠0) (h1:p.t≠1) (w:World) :
  Calls Tryz.prog 63 #[.agg (pl p).toArray] w fun e w'=>e=.returned (.bool false)∧Kept w w':=by
 have HP:=Qh (PAt.new w hB.1)
 have HO:=Qh (other_any p.t)
 have ct:=HP.out.turn
 have ho:¬ 0≤otherI p.t:=by unfold otherI;rw [if_neg h0,if_neg h1];decide
 generalize otherI p.t=o at *
 clear hB
 go_enter Tryz.func63,Tryz.ntmps63
 go_wp2_with fail
 refine (HO.out _).mono ?_
 rintro e w1 ⟨rfl,k1⟩
 have HK1:=Qh (((Kept.refl w).alloc _).trans k1)
 have HP1:=Qh (HP.out.kept k1)
 have cc:=HP1.out.cas
 have ce:=HP1.out.ep
 clear k1 ct
 go_wp2
 go_ret
 exact ⟨rfl,HK1.out⟩
theorem within_c0 (p:Ps) (hB:Brd p.B) (ht:p.t=0∨p.t=1) (hc:p.c<0) (w:World) :
  Calls Tryz.prog 63 #[.agg (pl p).toArray] w fun e w'=>e=.returned (.bool false)∧Kept w w':=by
 have HP:=Qh (PAt.new w hB.1)
 have HO:=Qh (other_any p.t)
 have ct:=HP.out.turn
 have ho:¬ otherI p.t<0:=by unfold otherI;rcases ht with h|h <;> rw [h] <;> decide
 have ho':0≤otherI p.t:=by omega
 clear ho ht
 generalize otherI p.t=o at *
 have hc1:¬ 0≤p.c:=by omega
 clear hB
 go_enter Tryz.func63,Tryz.ntmps63
 go_wp2_with fail
 refine (HO.out _).mono ?_
 rintro e w1 ⟨rfl,k1⟩
 have HK1:=Qh (((Kept.refl w).alloc _).trans k1)
 have HP1:=Qh (HP.out.kept k1)
 have cc:=HP1.out.cas
 have ce:=HP1.out.ep
 clear k1 ct
 go_wp2
 go_ret
 exact ⟨rfl,HK1.out⟩
theorem within_c1 (p:Ps) (hB:Brd p.B) (ht:p.t=0∨p.t=1) (hc:15<p.c) (w:World) :
  Calls Tryz.prog 63 #[.agg (pl p).toArray] w fun e w'=>e=.returned (.bool false)∧Kept w w':=by
 have HP:=Qh (PAt.new w hB.1)
 have HO:=Qh (other_any p.t)
 have ct:=HP.out.turn
 have ho:¬ otherI p.t<0:=by unfold otherI;rcases ht with h|h <;> rw [h] <;> decide
 have ho':0≤otherI p.t:=by omega
 clear ho ht
 generalize otherI p.t=o at *
 have hc1:0≤p.c:=by omega
 have hc2:¬ p.c≤15:=by omega
 clear hB
 go_enter Tryz.func63,Tryz.ntmps63
 go_wp2_with fail
 refine (HO.out _).mono ?_
 rintro e w1 ⟨rfl,k1⟩
 have HK1:=Qh (((Kept.refl w).alloc _).trans k1)
 have HP1:=Qh (HP.out.kept k1)
 have cc:=HP1.out.cas
 have ce:=HP1.out.ep
 clear k1 ct
 go_wp2
 go_ret
 exact ⟨rfl,HK1.out⟩
theorem within_e (p:Ps) (hB:Brd p.B) (ht:p.t=0∨p.t=1) (hc0:0≤p.c) (hc1:p.c≤15) (he:p.e=-1) (w:World) :
  Calls Tryz.prog 63 #[.agg (pl p).toArray] w fun e w'=>e=.returned (.bool true)∧Kept w w':=by
 have HP:=Qh (PAt.new w hB.1)
 have HO:=Qh (other_any p.t)
 have ct:=HP.out.turn
 have ho:¬ otherI p.t<0:=by unfold otherI;rcases ht with h|h <;> rw [h] <;> decide
 have ho':0≤otherI p.t:=by omega
 clear ho ht
 generalize otherI p.t=o at *
 have he1:(p.e == -1)=true:=beq_iff_eq.2 he
 clear he
 clear hB
 go_enter Tryz.func63,Tryz.ntmps63
 go_wp2_with fail
 refine (HO.out _).mono ?_
 rintro e w1 ⟨rfl,k1⟩
 have HK1:=Qh (((Kept.refl w).alloc _).trans k1)
 have HP1:=Qh (HP.out.kept k1)
 have cc:=HP1.out.cas
 have ce:=HP1.out.ep
 clear k1 ct
 go_wp2
 go_ret
 exact ⟨rfl,HK1.out⟩
theorem within_yes (p:Ps) (hB:Brd p.B) (ht:p.t=0∨p.t=1) (hc0:0≤p.c) (hc1:p.c≤15) (he0:0≤p.e) (he2:p.e<64) (w:World) :
  Calls Tryz.prog 63 #[.agg (pl p).toArray] w fun e w'=>e=.returned (.bool true)∧Kept w w':=by
 have HP:=Qh (PAt.new w hB.1)
 have HO:=Qh (other_any p.t)
 have ct:=HP.out.turn
 have ho:¬ otherI p.t<0:=by unfold otherI;rcases ht with h|h <;> rw [h] <;> decide
 have ho':0≤otherI p.t:=by omega
 clear ho ht
 generalize otherI p.t=o at *
 have he1:(p.e == -1)=false:=beq_eq_false_iff_ne.2 (by omega)
 clear hB
 go_enter Tryz.func63,Tryz.ntmps63
 go_wp2_with fail
 refine (HO.out _).mono ?_
 rintro e w1 ⟨rfl,k1⟩
 have HK1:=Qh (((Kept.refl w).alloc _).trans k1)
 have HP1:=Qh (HP.out.kept k1)
 have cc:=HP1.out.cas
 have ce:=HP1.out.ep
 clear k1 ct
 go_wp2_with fail
 refine (right_yes _ _ he0 he2).mono ?_
 rintro e w' ⟨rfl,rfl⟩
 go_wp2
 go_ret
 exact ⟨rfl,HK1.out⟩
theorem within_no (p:Ps) (hB:Brd p.B) (ht:p.t=0∨p.t=1) (hc0:0≤p.c) (hc1:p.c≤15) (he:p.e < -1∨64≤p.e) (w:World) :
  Calls Tryz.prog 63 #[.agg (pl p).toArray] w fun e w'=>e=.returned (.bool false)∧Kept w w':=by
 have HP:=Qh (PAt.new w hB.1)
 have HO:=Qh (other_any p.t)
 have ct:=HP.out.turn
 have ho:¬ otherI p.t<0:=by unfold otherI;rcases ht with h|h <;> rw [h] <;> decide
 have ho':0≤otherI p.t:=by omega
 clear ho ht
 generalize otherI p.t=o at *
 have he1:(p.e == -1)=false:=beq_eq_false_iff_ne.2 (by omega)
 have HE:Hid (p.e<0∨64≤p.e):=by show _∨_;omega
 clear he
 clear hB
 go_enter Tryz.func63,Tryz.ntmps63
 go_wp2_with fail
 refine (HO.out _).mono ?_
 rintro e w1 ⟨rfl,k1⟩
 have HK1:=Qh (((Kept.refl w).alloc _).trans k1)
 have HP1:=Qh (HP.out.kept k1)
 have cc:=HP1.out.cas
 have ce:=HP1.out.ep
 clear k1 ct
 go_wp2_with fail
 refine (right_no _ _ HE.out).mono ?_
 rintro e w' ⟨rfl,rfl⟩
 go_wp2
 go_ret
 exact ⟨rfl,HK1.out⟩
theorem within_is (p:Ps) (hB:Brd p.B) (w:World) :
  Calls Tryz.prog 63 #[.agg (pl p).toArray] w fun e w'=>e=.returned (.bool (withinB p))∧Kept w w':=by
 have no:(¬ ((p.t=0∨p.t=1)∧(0≤p.c∧p.c≤15)∧(-1≤p.e∧p.e≤63)))→withinB p=false:=fun h=>by
  rw [← Bool.not_eq_true,within_iff];exact h
 by_cases ht:p.t=0∨p.t=1
 ·by_cases h0:p.c<0
  ·rw [no (by omega)];exact within_c0 p hB ht h0 w
  ·by_cases h1:15<p.c
   ·rw [no (by omega)];exact within_c1 p hB ht h1 w
   ·by_cases he:p.e=-1
    ·rw [(within_iff p).2 (by omega)];exact within_e p hB ht (by omega) (by omega) he w
    ·by_cases h2:0≤p.e∧p.e<64
     ·rw [(within_iff p).2 (by omega)];exact within_yes p hB ht (by omega) (by omega) h2.1 h2.2 w
     ·rw [no (by omega)];exact within_no p hB ht (by omega) (by omega) (by omega) w
 ·rw [no (fun h=>ht h.1)];exact within_t p hB (fun h=>ht (.inl h)) (fun h=>ht (.inr h)) w
def farA (a b:Int):Int:=if (0≤a∧a<64)∧0≤b∧b<64 then farI a b else -1
theorem far_any (a b:Int) (w:World):Calls Tryz.prog 96 #[.int .i64 a,.int .i64 b] w fun e w'=>e=.returned (.int .i64 (farA a b))∧Kept w w':=by
 unfold farA
 by_cases h:(0≤a∧a<64)∧0≤b∧b<64
 ·rw [if_pos h];exact (far_yes a b w h.1.1 h.1.2 h.2.1 h.2.2).mono fun _ _ ⟨x,y⟩=>⟨x,y ▸ Kept.refl _⟩
 ·rw [if_neg h];exact (far_no a b w (by omega)).mono fun _ _ ⟨x,y⟩=>⟨x,y ▸ Kept.refl _⟩
theorem rfar_any (a b:Int) (w:World):Calls Tryz.prog 28 #[.int .i64 a,.int .i64 b] w fun e w'=>e=.returned (.int .i64 (farA a b))∧Kept w w':=by
 unfold farA
 by_cases h:(0≤a∧a<64)∧0≤b∧b<64
 ·rw [if_pos h];exact (rfar_yes a b w h.1.1 h.1.2 h.2.1 h.2.2).mono fun _ _ ⟨x,y⟩=>⟨x,y ▸ Kept.refl _⟩
 ·rw [if_neg h];exact (rfar_no a b w (by omega)).mono fun _ _ ⟨x,y⟩=>⟨x,y ▸ Kept.refl _⟩
def touchB (p:Ps):Bool:=(farA (kingI p.B 0) (kingI p.B 1) == 1) || checkB p.B (otherI p.t)
set_option maxRecDepth 100000 in
set_option maxHeartbeats 2000000 in
theorem touches_is (p:Ps) (hB:Brd p.B) (w:World) (hT:Tabs w) :
  Calls Tryz.prog 64 #[.agg (pl p).toArray] w fun e w'=>e=.returned (.bool (touchB p))∧Kept w w':=by
 have HP:=Qh (PAt.new w hB.1)
 have HB:=Qh hB
 have HT:=Qh (hT.kept ((Kept.refl w).alloc (.cells (pl p).toArray 26)))
 have HK0:=Qh (king_any p.B hB 0)
 have HK1:=Qh (king_any p.B hB 1)
 have HF:=Qh (far_any (kingI p.B 0) (kingI p.B 1))
 have HV:Hid (touchB p=((farA (kingI p.B 0) (kingI p.B 1) == 1) || checkB p.B (otherI p.t))):=by rfl
 have HC:=Qh (fun a w hS=>check_is a p.B hB (otherI p.t) w hS)
 have HO:=Qh (other_any p.t)
 clear hB hT
 generalize farA (kingI p.B 0) (kingI p.B 1)=F at *
 generalize checkB p.B (otherI p.t)=cb at *
 generalize kingI p.B 0=K0 at *
 generalize kingI p.B 1=K1 at *
 generalize otherI p.t=o at *
 go_enter Tryz.func64,Tryz.ntmps64
 go_wp2
 refine wp_region_held_drew (S:=Kept _) (by kernel_rfl) (Kept.refl _).drew (fun Qj=>?_)
 refine rT 0 4 (.pointer (some ⟨w.heap.size,0,none⟩)) rfl rfl Qj ?_
 simp only [pA,pN,sZ,sU]
 refine rY 1 5 rfl rfl (take_load_pb (by rfl) _ rfl _ rfl p HB.out.1 (fun _ h=>(HP.out).kept h)) Qj ?_
 simp only [pA,pN,sZ,sU]
 refine rT 3 7 (.pointer (some ⟨w.heap.size,0,none⟩)) rfl rfl Qj ?_
 simp only [pA,pN,sZ,sU]
 refine rY 4 8 rfl rfl (take_load_pb (by rfl) _ rfl _ rfl p HB.out.1 (fun _ h=>(HP.out).kept h)) Qj ?_
 simp only [pA,pN,sZ,sU]
 refine rR 2 rfl (fun K hK=>?_)
 go_simp
 refine (HK0.out _).mono ?_
 rintro e w1 ⟨rfl,gw1⟩
 refine hK.out _ _ (Qj.trans gw1) (fun _=>?_)
 replace Qj:=Qj.trans gw1
 clear hK K
 refine rR 5 rfl (fun K hK=>?_)
 go_simp
 refine (HK1.out _).mono ?_
 rintro e w2 ⟨rfl,gw2⟩
 refine hK.out _ _ (Qj.trans gw2) (fun _=>?_)
 replace Qj:=Qj.trans gw2
 clear hK K
 refine rR 6 rfl (fun K hK=>?_)
 go_simp
 refine (HF.out _).mono ?_
 rintro e w3 ⟨rfl,gw3⟩
 refine hK.out _ _ (Qj.trans gw3) (fun _=>?_)
 replace Qj:=Qj.trans gw3
 clear hK K
 refine rT 7 3 (.int .i64 F) rfl rfl Qj ?_
 simp only [pA,pN,sZ,sU]
 refine wpAnyH_done (by kernel_rfl) ?_ _
 have HA:=Qh Qj
 have HP3:=Qh (HP.out.kept Qj)
 have HT3:=Qh (HT.out.kept Qj)
 clear Qj gw1 gw2 gw3
 cases hf:(F == 1)
 ·rw [hf,Bool.false_or] at HV
  go_wp2
  refine wp_region_held_drew (S:=Kept _) (by kernel_rfl) (Kept.refl _).drew (fun Qj=>?_)
  refine rT 0 11 (.int .i64 F) rfl rfl Qj ?_
  simp only [pA,pN,sZ,sU]
  refine rT 1 12 (.bool false) rfl rfl Qj ?_
  simp only [pA,pN,sZ,sU]
  refine rT 2 13 (.bool false) rfl rfl Qj ?_
  simp only [pA,pN,sZ,sU]
  refine rT 4 15 (.pointer (some ⟨w.heap.size,0,none⟩)) rfl rfl Qj ?_
  simp only [pA,pN,sZ,sU]
  refine rY 5 16 rfl rfl (take_load_pb (by rfl) _ rfl _ rfl p HB.out.1 (fun _ h=>(HP3.out).kept h)) Qj ?_
  simp only [pA,pN,sZ,sU]
  refine rT 6 17 (.pointer (some ⟨w.heap.size,64,none⟩)) rfl rfl Qj ?_
  simp only [pA,pN,sZ,sU]
  refine rC 7 18 (.int .i64 p.t) rfl rfl (fun _ h=>kept_cell h (HP3.out.turn)) Qj ?_
  simp only [pA,pN,sZ,sU]
  refine rR 3 rfl (fun K hK=>?_)
  go_simp
  refine (new_is _).mono ?_
  rintro e w4 ⟨⟨ea,rfl⟩,gw4⟩
  refine hK.out _ _ (Qj.trans gw4) (fun _=>?_)
  replace Qj:=Qj.trans gw4
  clear hK K
  refine rR 8 rfl (fun K hK=>?_)
  go_simp
  refine (HO.out _).mono ?_
  rintro e w5 ⟨rfl,gw5⟩
  refine hK.out _ _ (Qj.trans gw5) (fun _=>?_)
  replace Qj:=Qj.trans gw5
  clear hK K
  refine rR 9 rfl (fun K hK=>?_)
  go_simp
  refine (HC.out ea _ (HT3.out.steps.kept Qj)).mono ?_
  rintro e w6 ⟨rfl,gw6⟩
  refine hK.out _ _ (Qj.trans gw6) (fun _=>?_)
  replace Qj:=Qj.trans gw6
  clear hK K
  refine rT 10 21 (.bool cb) rfl rfl Qj ?_
  simp only [pA,pN,sZ,sU]
  refine rT 11 2 (.bool cb) rfl rfl Qj ?_
  simp only [pA,pN,sZ,sU]
  refine wpAnyH_done (by kernel_rfl) ?_ _
  go_wp2
  go_ret
  exact ⟨by rw [HV.out];rfl,(((Kept.refl _).alloc _).trans HA.out).trans Qj⟩
 ·rw [hf,Bool.true_or] at HV
  go_wp2
  refine wp_region_held_drew (S:=Kept _) (by kernel_rfl) (Kept.refl _).drew (fun Qj=>?_)
  refine rT 0 11 (.int .i64 F) rfl rfl Qj ?_
  simp only [pA,pN,sZ,sU]
  refine rT 1 12 (.bool true) rfl rfl Qj ?_
  simp only [pA,pN,sZ,sU]
  refine rT 2 13 (.bool true) rfl rfl Qj ?_
  simp only [pA,pN,sZ,sU]
  refine rN 3 14 rfl rfl Qj ?_
  simp only [pA,pN,sZ,sU]
  refine rN 4 15 rfl rfl Qj ?_
  simp only [pA,pN,sZ,sU]
  refine rN 5 16 rfl rfl Qj ?_
  simp only [pA,pN,sZ,sU]
  refine rN 6 17 rfl rfl Qj ?_
  simp only [pA,pN,sZ,sU]
  refine rN 7 18 rfl rfl Qj ?_
  simp only [pA,pN,sZ,sU]
  refine rN 8 19 rfl rfl Qj ?_
  simp only [pA,pN,sZ,sU]
  refine rN 9 20 rfl rfl Qj ?_
  simp only [pA,pN,sZ,sU]
  refine rT 10 21 (.bool true) rfl rfl Qj ?_
  simp only [pA,pN,sZ,sU]
  refine rT 11 2 (.bool true) rfl rfl Qj ?_
  simp only [pA,pN,sZ,sU]
  refine wpAnyH_done (by kernel_rfl) ?_ _
  go_wp2
  go_ret
  exact ⟨by rw [HV.out];rfl,(((Kept.refl _).alloc _).trans HA.out).trans Qj⟩
def rgtB (c r:Int):Bool:=c / r % 2 == 1
def okC (p:Ps) (k:Nat):Bool:=!rgtB p.c (hR k) || backB p.B (hR k)
def casB (p:Ps):Bool:=okC p 0 && okC p 1 && okC p 2 && okC p 3
theorem cas_yes {p:Ps} (h:∀ j,j<4→okC p j=true):casB p=true:=by
 unfold casB;rw [h 0 (by omega),h 1 (by omega),h 2 (by omega),h 3 (by omega)];rfl
theorem cas_no {p:Ps} {k:Nat} (hk:k<4) (h:okC p k=false):casB p=false:=by
 have:k=0∨k=1∨k=2∨k=3:=by omega
 unfold casB
 rcases this with rfl|rfl|rfl|rfl <;> rw [h] <;> simp
theorem bit_all:∀ c:Fin 16,∀ k:Fin 4,(bits .and .i64 ((c:Nat):Int) (hR k) != 0)=rgtB ((c:Nat):Int) (hR k):=by decide +kernel
theorem bit_at {c:Int} (h0:0≤c) (h1:c≤15) {k:Nat} (hk:k<4):(bits .and .i64 c (hR k) != 0)=rgtB c (hR k):=by
 have:=bit_all ⟨c.toNat,by omega⟩ ⟨k,hk⟩
 simp only [show ((c.toNat:Nat):Int)=c by omega] at this
 exact this
set_option maxRecDepth 100000 in
set_option maxHeartbeats 2000000 in
theorem castle_is (p:Ps) (hB:Brd p.B) (h0:0≤p.c) (h1:p.c≤15) (w:World) (hT:Tabs w) :
  Calls Tryz.prog 65 #[.agg (pl p).toArray] w fun e w'=>e=.returned (.bool (casB p))∧Kept w w':=by
 have HP:=Qh (PAt.new w hB.1)
 have HK0:=Qh ((Kept.refl w).alloc (.cells (pl p).toArray 26))
 have HT:=Qh (hT.kept HK0.out)
 have HB:=Qh hB
 have HBit:=Qh (fun k hk=>bit_at h0 h1 (k:=k) hk)
 clear hB hT h0 h1
 go_enter Tryz.func65,Tryz.ntmps65
 go_wp2_with (refine wpList_load_mid rfl 119 _ rfl 2 0 rfl hmV _ HT.out.homes.range Tryz.underlying119 rfl size_homes ?_)
 go_loopw [6] (fun t6 wr=>∃ k:Nat,k≤4∧t6=.int .i64 k∧(∀ j,j<k→okC p j=true)∧Kept (w.alloc (.cells (pl p).toArray 26)) wr) (fun t6 _=>4-(intOf t6).toNat)
 case atStart=>exact ⟨0,by omega,rfl,fun j hj=>by omega,Kept.refl _⟩
 case round =>
  obtain ⟨k,hk,rfl,hno,hK⟩:=hrel
  have HNo:=Qh hno
  have HK:=Qh hK
  clear hno hK
  by_cases hlt:k<4
  ·have hx:=run_index_hm k hlt
   have HPk:=Qh (HP.out.kept HK.out)
   have HKA:=Qh ((Kept.refl wr).alloc (.cells (hAt k) 118))
   have HPA:=Qh (HPk.out.kept HKA.out)
   have hcc:=HPA.out.cas
   have hbit:=HBit.out k hlt
   have HBk:=Qh (fun w hT=>backed_is p HB.out (hR k) w hT)
   have HTA:=Qh ((HT.out.kept HK.out).kept HKA.out)
   have HR:=Qh (hR_bd k)
   have HOk:Hid (okC p k=(!rgtB p.c (hR k) || backB p.B (hR k))):=by rfl
   unfold hAt at hx hcc
   generalize backB p.B (hR k)=bb at *
   cases hh:rgtB p.c (hR k)
   ·rw [hh] at HOk hbit
    clear hh
    go_wp2
    go_roundw
    case rel=>exact ⟨k+1,by omega,by go_num,fun j hj=>by rcases Nat.lt_succ_iff_lt_or_eq.1 hj with h|h;exact HNo.out j h;rw [h,HOk.out];rfl,HK.out.alloc _⟩
    case measure=>simp [intOf];omega
   ·rw [hh] at HOk hbit
    clear hh
    cases bb
    ·skip
     go_wp2_with (first|(refine wpList_load_ps (by rfl) _ rfl _ rfl _ (HPA.out) ?_)|(refine wpList_load_pb (by rfl) _ rfl _ rfl _ (HPA.out) ?_))
     refine (HBk.out _ HTA.out).mono ?_
     rintro e w2 ⟨rfl,k2⟩
     have HF:=Qh (cas_no hlt HOk.out)
     have HK2:=Qh ((HK.out.trans HKA.out).trans k2)
     clear k2 hcc
     go_wp2
     go_ret
     exact ⟨by rw [HF.out];rfl,HK0.out.trans HK2.out⟩
    ·skip
     go_wp2_with (first|(refine wpList_load_ps (by rfl) _ rfl _ rfl _ (HPA.out) ?_)|(refine wpList_load_pb (by rfl) _ rfl _ rfl _ (HPA.out) ?_))
     refine (HBk.out _ HTA.out).mono ?_
     rintro e w2 ⟨rfl,k2⟩
     have HK2:=Qh ((HK.out.trans HKA.out).trans k2)
     clear k2 hcc
     go_wp2
     go_roundw
     case rel=>exact ⟨k+1,by omega,by go_num,fun j hj=>by rcases Nat.lt_succ_iff_lt_or_eq.1 hj with h|h;exact HNo.out j h;rw [h,HOk.out];rfl,HK2.out⟩
     case measure=>simp [intOf];omega
  ·have HF:=Qh (cas_yes (p:=p) (fun j hj=>HNo.out j (by omega)))
   go_wp2
   go_ret
   exact ⟨by rw [HF.out];rfl,HK0.out.trans HK.out⟩
def epB (p:Ps):Bool:=passB p || (p.e == -1)
theorem ep_is (p:Ps) (hB:Brd p.B) (w:World) (hT:Tabs w) :
  Calls Tryz.prog 66 #[.agg (pl p).toArray] w fun e w'=>e=.returned (.bool (epB p))∧Kept w w':=by
 have HP:=Qh (PAt.new w hB.1)
 have HPs:=Qh (passed_is p hB _ (hT.kept ((Kept.refl w).alloc (.cells (pl p).toArray 26))))
 have HV:Hid (epB p=(passB p || (p.e == -1))):=by rfl
 clear hB hT
 generalize passS p=ps at *
 cases hb:passB p
 ·rw [hb] at HPs HV
  rw [Bool.false_or] at HV
  clear hb
  go_enter Tryz.func66,Tryz.ntmps66
  go_wp2_with (first|(refine wpList_load_ps (by rfl) _ rfl _ rfl _ (HP.out) ?_)|(refine wpList_load_pb (by rfl) _ rfl _ rfl _ (HP.out) ?_))
  refine HPs.out.mono ?_
  rintro e w1 ⟨rfl,k1⟩
  have HK1:=Qh (((Kept.refl w).alloc _).trans k1)
  have ce:=(HP.out.kept k1).ep
  clear k1
  go_wp2
  go_ret
  exact ⟨by rw [HV.out];rfl,HK1.out⟩
 ·rw [hb] at HPs HV
  rw [Bool.true_or] at HV
  clear hb
  go_enter Tryz.func66,Tryz.ntmps66
  go_wp2_with (first|(refine wpList_load_ps (by rfl) _ rfl _ rfl _ (HP.out) ?_)|(refine wpList_load_pb (by rfl) _ rfl _ rfl _ (HP.out) ?_))
  refine HPs.out.mono ?_
  rintro e w1 ⟨rfl,k1⟩
  have HK1:=Qh (((Kept.refl w).alloc _).trans k1)
  clear k1
  go_wp2
  go_ret
  exact ⟨by rw [HV.out];rfl,HK1.out⟩
def pwI (p:Ps):Int:=if wrongI p.B≠0 then wrongI p.B else if withinB p=false then 5 else if touchB p=true then 9 else if casB p=false then 10 else if epB p=false then 11 else 0
set_option maxHeartbeats 1000000 in
theorem pwrong_board (p:Ps) (hB:Brd p.B) (a0:wrongI p.B≠0) (w:World) (hT:Tabs w) :
  Calls Tryz.prog 26 #[.agg (pl p).toArray] w fun e w'=>e=.returned (.int .i64 (wrongI p.B))∧Kept w w':=by
 have HP:=Qh (PAt.new w hB.1)
 have HK0:=Qh ((Kept.refl w).alloc (.cells (pl p).toArray 26))
 have HT:=Qh (hT.kept HK0.out)
 have HC0:=Qh (wrong_is p.B hB)
 have HC1:=Qh (within_is p hB)
 have HC2:=Qh (fun w hT=>touches_is p hB w hT)
 have HC4:=Qh (fun w hT=>ep_is p hB w hT)
 have b0:(wrongI p.B != 0)=true:=bne_iff_ne.2 a0
 clear a0
 clear hB hT
 go_enter Tryz.func26,Tryz.ntmps26
 go_wp2_with (first|(refine wpList_load_ps (by rfl) _ rfl _ rfl _ (HP.out) ?_)|(refine wpList_load_pb (by rfl) _ rfl _ rfl _ (HP.out) ?_))
 refine (HC0.out _).mono ?_
 rintro e w1 ⟨rfl,k1⟩
 have HK1:=Qh (HK0.out.trans k1)
 have HP1:=Qh (HP.out.kept k1)
 have HT1:=Qh (HT.out.kept k1)
 clear k1
 go_wp2
 go_ret
 exact ⟨rfl,HK1.out⟩
set_option maxHeartbeats 1000000 in
theorem pwrong_arg (p:Ps) (hB:Brd p.B) (a0:wrongI p.B=0) (a1:withinB p=false) (w:World) (hT:Tabs w) :
  Calls Tryz.prog 26 #[.agg (pl p).toArray] w fun e w'=>e=.returned (.int .i64 5)∧Kept w w':=by
 have HP:=Qh (PAt.new w hB.1)
 have HK0:=Qh ((Kept.refl w).alloc (.cells (pl p).toArray 26))
 have HT:=Qh (hT.kept HK0.out)
 have HC0:=Qh (wrong_is p.B hB)
 have HC1:=Qh (within_is p hB)
 have HC2:=Qh (fun w hT=>touches_is p hB w hT)
 have HC4:=Qh (fun w hT=>ep_is p hB w hT)
 rw [a0] at HC0
 rw [a1] at HC1
 clear hB hT
 go_enter Tryz.func26,Tryz.ntmps26
 go_wp2_with (first|(refine wpList_load_ps (by rfl) _ rfl _ rfl _ (HP.out) ?_)|(refine wpList_load_pb (by rfl) _ rfl _ rfl _ (HP.out) ?_))
 refine (HC0.out _).mono ?_
 rintro e w1 ⟨rfl,k1⟩
 have HK1:=Qh (HK0.out.trans k1)
 have HP1:=Qh (HP.out.kept k1)
 have HT1:=Qh (HT.out.kept k1)
 clear k1
 go_wp2_with (first|(refine wpList_load_ps (by rfl) _ rfl _ rfl _ (HP1.out) ?_)|(refine wpList_load_pb (by rfl) _ rfl _ rfl _ (HP1.out) ?_))
 refine (HC1.out _).mono ?_
 rintro e w2 ⟨rfl,k2⟩
 have HK2:=Qh (HK1.out.trans k2)
 have HP2:=Qh (HP1.out.kept k2)
 have HT2:=Qh (HT1.out.kept k2)
 clear k2
 go_wp2
 go_ret
 exact ⟨rfl,HK2.out⟩
set_option maxHeartbeats 1000000 in
theorem pwrong_touch (p:Ps) (hB:Brd p.B) (a0:wrongI p.B=0) (a1:withinB p=true) (a2:touchB p=true) (w:World) (hT:Tabs w) :
  Calls Tryz.prog 26 #[.agg (pl p).toArray] w fun e w'=>e=.returned (.int .i64 9)∧Kept w w':=by
 have HP:=Qh (PAt.new w hB.1)
 have HK0:=Qh ((Kept.refl w).alloc (.cells (pl p).toArray 26))
 have HT:=Qh (hT.kept HK0.out)
 have HC0:=Qh (wrong_is p.B hB)
 have HC1:=Qh (within_is p hB)
 have HC2:=Qh (fun w hT=>touches_is p hB w hT)
 have HC4:=Qh (fun w hT=>ep_is p hB w hT)
 rw [a0] at HC0
 rw [a1] at HC1
 rw [a2] at HC2
 clear hB hT
 go_enter Tryz.func26,Tryz.ntmps26
 go_wp2_with (first|(refine wpList_load_ps (by rfl) _ rfl _ rfl _ (HP.out) ?_)|(refine wpList_load_pb (by rfl) _ rfl _ rfl _ (HP.out) ?_))
 refine (HC0.out _).mono ?_
 rintro e w1 ⟨rfl,k1⟩
 have HK1:=Qh (HK0.out.trans k1)
 have HP1:=Qh (HP.out.kept k1)
 have HT1:=Qh (HT.out.kept k1)
 clear k1
 go_wp2_with (first|(refine wpList_load_ps (by rfl) _ rfl _ rfl _ (HP1.out) ?_)|(refine wpList_load_pb (by rfl) _ rfl _ rfl _ (HP1.out) ?_))
 refine (HC1.out _).mono ?_
 rintro e w2 ⟨rfl,k2⟩
 have HK2:=Qh (HK1.out.trans k2)
 have HP2:=Qh (HP1.out.kept k2)
 have HT2:=Qh (HT1.out.kept k2)
 clear k2
 go_wp2_with (first|(refine wpList_load_ps (by rfl) _ rfl _ rfl _ (HP2.out) ?_)|(refine wpList_load_pb (by rfl) _ rfl _ rfl _ (HP2.out) ?_))
 refine (HC2.out _ HT2.out).mono ?_
 rintro e w3 ⟨rfl,k3⟩
 have HK3:=Qh (HK2.out.trans k3)
 have HP3:=Qh (HP2.out.kept k3)
 have HT3:=Qh (HT2.out.kept k3)
 clear k3
 go_wp2
 go_ret
 exact ⟨rfl,HK3.out⟩
set_option maxHeartbeats 1000000 in
theorem pwrong_castle (p:Ps) (hB:Brd p.B) (a0:wrongI p.B=0) (a1:withinB p=true) (a2:touchB p=false) (a3:casB p=false) (w:World) (hT:Tabs w) :
  Calls Tryz.prog 26 #[.agg (pl p).toArray] w fun e w'=>e=.returned (.int .i64 10)∧Kept w w':=by
 have HP:=Qh (PAt.new w hB.1)
 have HK0:=Qh ((Kept.refl w).alloc (.cells (pl p).toArray 26))
 have HT:=Qh (hT.kept HK0.out)
 have HC0:=Qh (wrong_is p.B hB)
 have HC1:=Qh (within_is p hB)
 have HC2:=Qh (fun w hT=>touches_is p hB w hT)
 have HC4:=Qh (fun w hT=>ep_is p hB w hT)
 rw [a0] at HC0
 rw [a1] at HC1
 rw [a2] at HC2
 obtain ⟨_,⟨h0,h1⟩,_⟩:=(within_iff p).1 a1
 have HC3:=Qh (fun w hT=>castle_is p hB h0 h1 w hT)
 clear h0 h1
 rw [a3] at HC3
 clear hB hT
 go_enter Tryz.func26,Tryz.ntmps26
 go_wp2_with (first|(refine wpList_load_ps (by rfl) _ rfl _ rfl _ (HP.out) ?_)|(refine wpList_load_pb (by rfl) _ rfl _ rfl _ (HP.out) ?_))
 refine (HC0.out _).mono ?_
 rintro e w1 ⟨rfl,k1⟩
 have HK1:=Qh (HK0.out.trans k1)
 have HP1:=Qh (HP.out.kept k1)
 have HT1:=Qh (HT.out.kept k1)
 clear k1
 go_wp2_with (first|(refine wpList_load_ps (by rfl) _ rfl _ rfl _ (HP1.out) ?_)|(refine wpList_load_pb (by rfl) _ rfl _ rfl _ (HP1.out) ?_))
 refine (HC1.out _).mono ?_
 rintro e w2 ⟨rfl,k2⟩
 have HK2:=Qh (HK1.out.trans k2)
 have HP2:=Qh (HP1.out.kept k2)
 have HT2:=Qh (HT1.out.kept k2)
 clear k2
 go_wp2_with (first|(refine wpList_load_ps (by rfl) _ rfl _ rfl _ (HP2.out) ?_)|(refine wpList_load_pb (by rfl) _ rfl _ rfl _ (HP2.out) ?_))
 refine (HC2.out _ HT2.out).mono ?_
 rintro e w3 ⟨rfl,k3⟩
 have HK3:=Qh (HK2.out.trans k3)
 have HP3:=Qh (HP2.out.kept k3)
 have HT3:=Qh (HT2.out.kept k3)
 clear k3
 go_wp2_with (first|(refine wpList_load_ps (by rfl) _ rfl _ rfl _ (HP3.out) ?_)|(refine wpList_load_pb (by rfl) _ rfl _ rfl _ (HP3.out) ?_))
 refine (HC3.out _ HT3.out).mono ?_
 rintro e w4 ⟨rfl,k4⟩
 have HK4:=Qh (HK3.out.trans k4)
 have HP4:=Qh (HP3.out.kept k4)
 have HT4:=Qh (HT3.out.kept k4)
 clear k4
 go_wp2
 go_ret
 exact ⟨rfl,HK4.out⟩
set_option maxHeartbeats 1000000 in
theorem pwrong_ep (p:Ps) (hB:Brd p.B) (a0:wrongI p.B=0) (a1:withinB p=true) (a2:touchB p=false) (a3:casB p=true) (a4:epB p=false) (w:World) (hT:Tabs w) :
  Calls Tryz.prog 26 #[.agg (pl p).toArray] w fun e w'=>e=.returned (.int .i64 11)∧Kept w w':=by
 have HP:=Qh (PAt.new w hB.1)
 have HK0:=Qh ((Kept.refl w).alloc (.cells (pl p).toArray 26))
 have HT:=Qh (hT.kept HK0.out)
 have HC0:=Qh (wrong_is p.B hB)
 have HC1:=Qh (within_is p hB)
 have HC2:=Qh (fun w hT=>touches_is p hB w hT)
 have HC4:=Qh (fun w hT=>ep_is p hB w hT)
 rw [a0] at HC0
 rw [a1] at HC1
 rw [a2] at HC2
 obtain ⟨_,⟨h0,h1⟩,_⟩:=(within_iff p).1 a1
 have HC3:=Qh (fun w hT=>castle_is p hB h0 h1 w hT)
 clear h0 h1
 rw [a3] at HC3
 rw [a4] at HC4
 clear hB hT
 go_enter Tryz.func26,Tryz.ntmps26
 go_wp2_with (first|(refine wpList_load_ps (by rfl) _ rfl _ rfl _ (HP.out) ?_)|(refine wpList_load_pb (by rfl) _ rfl _ rfl _ (HP.out) ?_))
 refine (HC0.out _).mono ?_
 rintro e w1 ⟨rfl,k1⟩
 have HK1:=Qh (HK0.out.trans k1)
 have HP1:=Qh (HP.out.kept k1)
 have HT1:=Qh (HT.out.kept k1)
 clear k1
 go_wp2_with (first|(refine wpList_load_ps (by rfl) _ rfl _ rfl _ (HP1.out) ?_)|(refine wpList_load_pb (by rfl) _ rfl _ rfl _ (HP1.out) ?_))
 refine (HC1.out _).mono ?_
 rintro e w2 ⟨rfl,k2⟩
 have HK2:=Qh (HK1.out.trans k2)
 have HP2:=Qh (HP1.out.kept k2)
 have HT2:=Qh (HT1.out.kept k2)
 clear k2
 go_wp2_with (first|(refine wpList_load_ps (by rfl) _ rfl _ rfl _ (HP2.out) ?_)|(refine wpList_load_pb (by rfl) _ rfl _ rfl _ (HP2.out) ?_))
 refine (HC2.out _ HT2.out).mono ?_
 rintro e w3 ⟨rfl,k3⟩
 have HK3:=Qh (HK2.out.trans k3)
 have HP3:=Qh (HP2.out.kept k3)
 have HT3:=Qh (HT2.out.kept k3)
 clear k3
 go_wp2_with (first|(refine wpList_load_ps (by rfl) _ rfl _ rfl _ (HP3.out) ?_)|(refine wpList_load_pb (by rfl) _ rfl _ rfl _ (HP3.out) ?_))
 refine (HC3.out _ HT3.out).mono ?_
 rintro e w4 ⟨rfl,k4⟩
 have HK4:=Qh (HK3.out.trans k4)
 have HP4:=Qh (HP3.out.kept k4)
 have HT4:=Qh (HT3.out.kept k4)
 clear k4
 go_wp2_with (first|(refine wpList_load_ps (by rfl) _ rfl _ rfl _ (HP4.out) ?_)|(refine wpList_load_pb (by rfl) _ rfl _ rfl _ (HP4.out) ?_))
 refine (HC4.out _ HT4.out).mono ?_
 rintro e w5 ⟨rfl,k5⟩
 have HK5:=Qh (HK4.out.trans k5)
 have HP5:=Qh (HP4.out.kept k5)
 have HT5:=Qh (HT4.out.kept k5)
 clear k5
 go_wp2
 go_ret
 exact ⟨rfl,HK5.out⟩
set_option maxHeartbeats 1000000 in
theorem pwrong_ok (p:Ps) (hB:Brd p.B) (a0:wrongI p.B=0) (a1:withinB p=true) (a2:touchB p=false) (a3:casB p=true) (a4:epB p=true) (w:World) (hT:Tabs w) :
  Calls Tryz.prog 26 #[.agg (pl p).toArray] w fun e w'=>e=.returned (.int .i64 0)∧Kept w w':=by
 have HP:=Qh (PAt.new w hB.1)
 have HK0:=Qh ((Kept.refl w).alloc (.cells (pl p).toArray 26))
 have HT:=Qh (hT.kept HK0.out)
 have HC0:=Qh (wrong_is p.B hB)
 have HC1:=Qh (within_is p hB)
 have HC2:=Qh (fun w hT=>touches_is p hB w hT)
 have HC4:=Qh (fun w hT=>ep_is p hB w hT)
 rw [a0] at HC0
 rw [a1] at HC1
 rw [a2] at HC2
 obtain ⟨_,⟨h0,h1⟩,_⟩:=(within_iff p).1 a1
 have HC3:=Qh (fun w hT=>castle_is p hB h0 h1 w hT)
 clear h0 h1
 rw [a3] at HC3
 rw [a4] at HC4
 clear hB hT
 go_enter Tryz.func26,Tryz.ntmps26
 go_wp2_with (first|(refine wpList_load_ps (by rfl) _ rfl _ rfl _ (HP.out) ?_)|(refine wpList_load_pb (by rfl) _ rfl _ rfl _ (HP.out) ?_))
 refine (HC0.out _).mono ?_
 rintro e w1 ⟨rfl,k1⟩
 have HK1:=Qh (HK0.out.trans k1)
 have HP1:=Qh (HP.out.kept k1)
 have HT1:=Qh (HT.out.kept k1)
 clear k1
 go_wp2_with (first|(refine wpList_load_ps (by rfl) _ rfl _ rfl _ (HP1.out) ?_)|(refine wpList_load_pb (by rfl) _ rfl _ rfl _ (HP1.out) ?_))
 refine (HC1.out _).mono ?_
 rintro e w2 ⟨rfl,k2⟩
 have HK2:=Qh (HK1.out.trans k2)
 have HP2:=Qh (HP1.out.kept k2)
 have HT2:=Qh (HT1.out.kept k2)
 clear k2
 go_wp2_with (first|(refine wpList_load_ps (by rfl) _ rfl _ rfl _ (HP2.out) ?_)|(refine wpList_load_pb (by rfl) _ rfl _ rfl _ (HP2.out) ?_))
 refine (HC2.out _ HT2.out).mono ?_
 rintro e w3 ⟨rfl,k3⟩
 have HK3:=Qh (HK2.out.trans k3)
 have HP3:=Qh (HP2.out.kept k3)
 have HT3:=Qh (HT2.out.kept k3)
 clear k3
 go_wp2_with (first|(refine wpList_load_ps (by rfl) _ rfl _ rfl _ (HP3.out) ?_)|(refine wpList_load_pb (by rfl) _ rfl _ rfl _ (HP3.out) ?_))
 refine (HC3.out _ HT3.out).mono ?_
 rintro e w4 ⟨rfl,k4⟩
 have HK4:=Qh (HK3.out.trans k4)
 have HP4:=Qh (HP3.out.kept k4)
 have HT4:=Qh (HT3.out.kept k4)
 clear k4
 go_wp2_with (first|(refine wpList_load_ps (by rfl) _ rfl _ rfl _ (HP4.out) ?_)|(refine wpList_load_pb (by rfl) _ rfl _ rfl _ (HP4.out) ?_))
 refine (HC4.out _ HT4.out).mono ?_
 rintro e w5 ⟨rfl,k5⟩
 have HK5:=Qh (HK4.out.trans k5)
 have HP5:=Qh (HP4.out.kept k5)
 have HT5:=Qh (HT4.out.kept k5)
 clear k5
 go_wp2
 go_ret
 exact ⟨rfl,HK5.out⟩
theorem pwrong_is (p:Ps) (hB:Brd p.B) (w:World) (hT:Tabs w) :
  Calls Tryz.prog 26 #[.agg (pl p).toArray] w fun e w'=>e=.returned (.int .i64 (pwI p))∧Kept w w':=by
 unfold pwI
 by_cases a0:wrongI p.B=0
 ·rw [if_neg (by omega)]
  cases a1:withinB p
  ·rw [if_pos rfl];exact pwrong_arg p hB a0 a1 w hT
  ·rw [if_neg (by decide)]
   cases a2:touchB p
   ·rw [if_neg (by decide)]
    cases a3:casB p
    ·rw [if_pos rfl];exact pwrong_castle p hB a0 a1 a2 a3 w hT
    ·rw [if_neg (by decide)]
     cases a4:epB p
     ·rw [if_pos rfl];exact pwrong_ep p hB a0 a1 a2 a3 a4 w hT
     ·rw [if_neg (by decide)];exact pwrong_ok p hB a0 a1 a2 a3 a4 w hT
   ·rw [if_pos rfl];exact pwrong_touch p hB a0 a1 a2 w hT
 ·rw [if_pos a0];exact pwrong_board p hB a0 w hT
end Go.Proofs.YtlbipjmmlobofaaGreatDoor
