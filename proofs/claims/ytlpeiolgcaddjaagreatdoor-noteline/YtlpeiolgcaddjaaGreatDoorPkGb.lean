/- GeC · GeD: my texts, in their order. -/
import Derived.Test.YtlpeiolgcaddjaaGreatDoorPkGa
import Derived.Test.YtlpeiolgcaddjaaGreatDoorShelfS
namespace Go.Proofs.YtlpeiolgcaddjaaGreatDoor
open Go.RowKit Go.Sort
set_option linter.unusedVariables false
set_option linter.unusedSimpArgs false
set_option maxRecDepth 100000
def Gr (w w':World):Prop:=∃ q os,w'=grow (w.drewN q) os
theorem Gr.refl (w:World):Gr w w:=⟨0,#[],by rw [grow_empty];rfl⟩
theorem Gr.trans {a b c:World} (h:Gr a b) (k:Gr b c):Gr a c:=by
 obtain ⟨q,os,rfl⟩:=h;obtain ⟨q',os',rfl⟩:=k;refine ⟨q+q',os++os',?_⟩;rw [← grow_grow];unfold grow World.drewN;simp [Nat.add_assoc]
theorem Gr.drew {a b:World} (h:Gr a b):Gr a b.drew:=h.trans ⟨1,#[],by rw [grow_empty];rfl⟩
theorem Gr.alloc {a b:World} (h:Gr a b) (o:Obj):Gr a (b.alloc o):=h.trans ⟨0,#[o],by rw [alloc_eq_grow];rfl⟩
theorem Gr.kept {a b:World} (h:Gr a b):Kept a b:=by
 obtain ⟨q,os,rfl⟩:=h;exact ⟨rfl,rfl,by simp [World.drewN],fun k hk=>by rw [heap_grow_old _ _ (by exact hk)];rfl⟩
theorem compare_g (x y:Int) (w:World):Calls Tryz.prog 191 #[.int .i64 x,.int .i64 y] w fun e w'=>e=.returned (.int .i64 (cmpI x y))∧Gr w w':=by
 by_cases h1:x<y
 ·have HV:Hid (cmpI x y=-1):=by show _=_;unfold cmpI;rw [if_pos h1]
  go_enter Tryz.func191,Tryz.ntmps191;go_wp2_with fail
  refine (nan_is _ _).mono ?_;rintro e w' ⟨rfl,rfl⟩;go_wp2_with fail
  refine (nan_is _ _).mono ?_;rintro e w' ⟨rfl,rfl⟩;go_wp2;go_ret;exact ⟨by rw [HV.out];rfl,Gr.refl _⟩
 ·by_cases h2:y<x
  ·have HV:Hid (cmpI x y=1):=by show _=_;unfold cmpI;rw [if_neg h1,if_pos h2]
   go_enter Tryz.func191,Tryz.ntmps191;go_wp2_with fail
   refine (nan_is _ _).mono ?_;rintro e w' ⟨rfl,rfl⟩;go_wp2_with fail
   refine (nan_is _ _).mono ?_;rintro e w' ⟨rfl,rfl⟩;go_wp2;go_ret;exact ⟨by rw [HV.out];rfl,Gr.refl _⟩
  ·have HV:Hid (cmpI x y=0):=by show _=_;unfold cmpI;rw [if_neg h1,if_neg h2]
   go_enter Tryz.func191,Tryz.ntmps191;go_wp2_with fail
   refine (nan_is _ _).mono ?_;rintro e w' ⟨rfl,rfl⟩;go_wp2_with fail
   refine (nan_is _ _).mono ?_;rintro e w' ⟨rfl,rfl⟩;go_wp2;go_ret;exact ⟨by rw [HV.out];rfl,Gr.refl _⟩
theorem or_g (l:List Int) (g:Nat) (w:World) (hc:∀ j,j<3→w.cell? ⟨g,j,none⟩=some (.int .i64 (l.getD j 0))) :
  Calls Tryz.prog 190 #[.slice (some ⟨g,0,none⟩) 3 3] w fun e w'=>e=.returned (.int .i64 (orI l))∧Gr w w':=by
 have HC:=Qh hc;clear hc;go_enter Tryz.func190,Tryz.ntmps190;go_wp2
 go_loopw [8] (fun t8 wr=>∃ k:Nat,k≤3∧t8=.int .i64 k∧(∀ j,j<k→l.getD j 0=0)∧Gr w wr) (fun t8 _=>3-(intOf t8).toNat)
 case atStart=>exact ⟨0,by omega,rfl,fun j hj=>by omega,Gr.refl _⟩
 case round =>
  obtain ⟨k,hk,rfl,hno,hK⟩:=hrel;have HNo:=Qh hno;have HK:=Qh hK;clear hno;by_cases hlt:k<3
  ·have hx:=Qa hK.kept (HC.out k hlt)
   clear hK;obtain ⟨x,hxe⟩:∃ x,l.getD k 0=x:=⟨_,rfl⟩;rw [hxe] at hx;have HX:=Qh hxe;clear hxe;by_cases h0:x=0
   ·have hb:(x != 0)=false:=by rw [h0];rfl
    have H0:=Qh h0;clear h0;go_wp2;go_roundw
    case rel=>exact ⟨k+1,by omega,by go_num,fun j hj=>by rcases Nat.lt_succ_iff_lt_or_eq.1 hj with h|h;exact HNo.out j h;rw [h,HX.out];exact H0.out,HK.out⟩
    case measure=>simp [intOf];omega
   ·have hb:(x != 0)=true:=bne_iff_ne.2 h0
    have HE:=Qh (or_at hlt (by rw [HX.out];exact h0) HNo.out);clear h0;go_wp2;go_ret;exact ⟨by rw [HE.out,HX.out];rfl,HK.out⟩
  ·have HE:=Qh (or_none (l:=l) (fun j hj=>HNo.out j (by omega)))
   clear hK;go_wp2;go_ret;exact ⟨by rw [HE.out];rfl,HK.out⟩
set_option maxHeartbeats 2000000 in
theorem less_g (a b:Mv) (w:World):Calls Tryz.prog 168 #[.agg (ml a).toArray,.agg (ml b).toArray] w fun e w'=>e=.returned (.bool (lessB a b))∧Gr w w':=by
 have HA:Hid (MAt _ _ a):=⟨heap_alloc2_old w (.cells (ml a).toArray 28) (.cells (ml b).toArray 28)⟩;have HB:Hid (MAt _ _ b):=⟨heap_alloc2_new w (.cells (ml a).toArray 28) (.cells (ml b).toArray 28)⟩;have HK0:=Qh (((Gr.refl w).alloc (.cells (ml a).toArray 28)).alloc (.cells (ml b).toArray 28));have HV:=Qh (or_less a b);have HC1:=Qh (compare_g a.f b.f);have HC2:=Qh (compare_g a.t b.t);have HC3:=Qh (compare_g b.p a.p);generalize cmpI a.f b.f=c1 at *;generalize cmpI a.t b.t=c2 at *;generalize cmpI b.p a.p=c3 at *;go_enter Tryz.func168,Tryz.ntmps168;go_wp2;refine wp_region_held_drew (S:=Gr _) (by kernel_rfl) (Gr.refl _).drew (fun Qj=>?_);refine rT 0 5 (.pointer (some ⟨w.heap.size,0,none⟩)) rfl rfl Qj ?_;simp only [pA,pN,sZ,sU];refine rC 1 6 (.int .i64 a.f) rfl rfl (fun _ h=>Qa h.kept (HA.out.f)) Qj ?_;simp only [pA,pN,sZ,sU];refine rT 2 7 (.pointer (some ⟨w.heap.size+1,0,none⟩)) rfl rfl Qj ?_;simp only [pA,pN,sZ,sU];refine rC 3 8 (.int .i64 b.f) rfl rfl (fun _ h=>Qa h.kept (HB.out.f)) Qj ?_;simp only [pA,pN,sZ,sU];refine rT 5 10 (.pointer (some ⟨w.heap.size,1,none⟩)) rfl rfl Qj ?_;simp only [pA,pN,sZ,sU];refine rC 6 11 (.int .i64 a.t) rfl rfl (fun _ h=>Qa h.kept (HA.out.t)) Qj ?_;simp only [pA,pN,sZ,sU];refine rT 7 12 (.pointer (some ⟨w.heap.size+1,1,none⟩)) rfl rfl Qj ?_;simp only [pA,pN,sZ,sU];refine rC 8 13 (.int .i64 b.t) rfl rfl (fun _ h=>Qa h.kept (HB.out.t)) Qj ?_;simp only [pA,pN,sZ,sU];refine rT 10 15 (.pointer (some ⟨w.heap.size+1,2,none⟩)) rfl rfl Qj ?_;simp only [pA,pN,sZ,sU];refine rC 11 16 (.int .i64 b.p) rfl rfl (fun _ h=>Qa h.kept (HB.out.p)) Qj ?_;simp only [pA,pN,sZ,sU];refine rT 12 17 (.pointer (some ⟨w.heap.size,2,none⟩)) rfl rfl Qj ?_;simp only [pA,pN,sZ,sU];refine rC 13 18 (.int .i64 a.p) rfl rfl (fun _ h=>Qa h.kept (HA.out.p)) Qj ?_;simp only [pA,pN,sZ,sU];refine rR 4 rfl (fun K hK=>?_);go_simp;refine (HC1.out _).mono ?_;rintro e x1 ⟨rfl,gx1⟩;refine hK.out _ _ (Qj.trans gx1) (fun _=>?_);replace Qj:=Qj.trans gx1;clear hK K;refine rR 9 rfl (fun K hK=>?_);go_simp;refine (HC2.out _).mono ?_;rintro e x2 ⟨rfl,gx2⟩;refine hK.out _ _ (Qj.trans gx2) (fun _=>?_);replace Qj:=Qj.trans gx2;clear hK K;refine rR 14 rfl (fun K hK=>?_);go_simp;refine (HC3.out _).mono ?_;rintro e x3 ⟨rfl,gx3⟩;refine hK.out _ _ (Qj.trans gx3) (fun _=>?_);replace Qj:=Qj.trans gx3;clear hK K;refine rR 15 rfl (fun K hK=>?_);go_simp;have hnew:=heap_alloc_new x3 (.cells #[.int .i64 c1,.int .i64 c2,.int .i64 c3] 3)
 have HCl:=Qh (fun j (hj:j<3)=>show (x3.alloc (.cells #[.int .i64 c1,.int .i64 c2,.int .i64 c3] 3)).cell? ⟨x3.heap.size,j,none⟩=some (.int .i64 (([c1,c2,c3]:List Int).getD j 0)) by
  rw [cell_of_row _ _ j _ _ (0,0) hnew];have:j=0∨j=1∨j=2:=by omega
  rcases this with rfl|rfl|rfl <;> rfl)
 clear hnew;refine hK.out _ _ (Qj.alloc _) (fun _=>?_);replace Qj:=Qj.alloc (.cells #[.int .i64 c1,.int .i64 c2,.int .i64 c3] 3);clear hK K;refine rR 16 rfl (fun K hK=>?_);go_simp;refine (or_g [c1,c2,c3] x3.heap.size _ HCl.out).mono ?_;rintro e x4 ⟨rfl,gx4⟩;refine hK.out _ _ (Qj.trans gx4) (fun _=>?_);replace Qj:=Qj.trans gx4;clear hK K;refine rT 17 22 (.bool (decide (orI [c1,c2,c3]<0))) rfl rfl Qj ?_;simp only [pA,pN,sZ,sU];refine rT 18 4 (.bool (decide (orI [c1,c2,c3]<0))) rfl rfl Qj ?_;simp only [pA,pN,sZ,sU];refine wpAnyH_done (by kernel_rfl) ?_ _;go_wp2;go_ret;exact ⟨by rw [← HV.out];rfl,HK0.out.trans Qj⟩
theorem order_g (a b:Mv) (w:World):Calls Tryz.prog 145 #[.agg (ml a).toArray,.agg (ml b).toArray] w fun e w'=>e=.returned (.int .i64 (ordI a b))∧Gr w w':=by
 have HA:Hid (MAt _ _ a):=⟨heap_alloc2_old w (.cells (ml a).toArray 28) (.cells (ml b).toArray 28)⟩;have HB:Hid (MAt _ _ b):=⟨heap_alloc2_new w (.cells (ml a).toArray 28) (.cells (ml b).toArray 28)⟩;have HK0:=Qh (((Gr.refl w).alloc (.cells (ml a).toArray 28)).alloc (.cells (ml b).toArray 28));have HL1:=Qh (less_g a b);have HL2:=Qh (less_g b a);have HV:Hid (ordI a b=if lessB a b then -1 else if lessB b a then 1 else 0):=by rfl
 generalize lessB a b=b1 at *;generalize lessB b a=b2 at *
 cases b1
 ·cases b2
  ·go_enter Tryz.func145,Tryz.ntmps145
   go_wp2_with (first|(refine Qe (by rfl) _ rfl _ rfl _ HA.out ?_)|(refine Qe (by rfl) _ rfl _ rfl _ HB.out ?_))
   refine (HL1.out _).mono ?_;rintro e w1 ⟨rfl,k1⟩;have HA1:=Qh (MAt.kept HA.out k1.kept);have HB1:=Qh (MAt.kept HB.out k1.kept);have HK1:=Qh (HK0.out.trans k1);clear k1;go_wp2_with (first|(refine Qe (by rfl) _ rfl _ rfl _ HA1.out ?_)|(refine Qe (by rfl) _ rfl _ rfl _ HB1.out ?_))
   refine (HL2.out _).mono ?_;rintro e w2 ⟨rfl,k2⟩;have HK2:=Qh (HK1.out.trans k2);clear k2;go_wp2;go_ret;exact ⟨by rw [HV.out];rfl,HK2.out⟩
  ·go_enter Tryz.func145,Tryz.ntmps145
   go_wp2_with (first|(refine Qe (by rfl) _ rfl _ rfl _ HA.out ?_)|(refine Qe (by rfl) _ rfl _ rfl _ HB.out ?_))
   refine (HL1.out _).mono ?_;rintro e w1 ⟨rfl,k1⟩;have HA1:=Qh (MAt.kept HA.out k1.kept);have HB1:=Qh (MAt.kept HB.out k1.kept);have HK1:=Qh (HK0.out.trans k1);clear k1;go_wp2_with (first|(refine Qe (by rfl) _ rfl _ rfl _ HA1.out ?_)|(refine Qe (by rfl) _ rfl _ rfl _ HB1.out ?_))
   refine (HL2.out _).mono ?_;rintro e w2 ⟨rfl,k2⟩;have HK2:=Qh (HK1.out.trans k2);clear k2;go_wp2;go_ret;exact ⟨by rw [HV.out];rfl,HK2.out⟩
 ·go_enter Tryz.func145,Tryz.ntmps145
  go_wp2_with (first|(refine Qe (by rfl) _ rfl _ rfl _ HA.out ?_)|(refine Qe (by rfl) _ rfl _ rfl _ HB.out ?_))
  refine (HL1.out _).mono ?_;rintro e w1 ⟨rfl,k1⟩;have HK1:=Qh (HK0.out.trans k1);clear k1;go_wp2;go_ret;exact ⟨by rw [HV.out];rfl,HK1.out⟩
instance:Inhabited Mv:=⟨Zm⟩
theorem swoM:SWO (ltOf ordI):=by
 refine ⟨fun x=>?_,fun x y z h1 h2=>?_,fun x y z h1 h2=>?_⟩
 ·show decide (ordI x x<0)=false
  rw [ord_less,less_irr]
 ·have a1:decide (ordI x y<0)=true:=h1
  have a2:decide (ordI y z<0)=true:=h2;show decide (ordI x z<0)=true;rw [ord_less] at *;exact less_trans a1 a2
 ·have a1:decide (ordI x y<0)=false:=h1
  have a2:decide (ordI y z<0)=false:=h2;show decide (ordI x z<0)=false;rw [ord_less] at *;exact less_ntrans a1 a2
theorem totM (x y:Mv) (h1:ltOf ordI x y=false) (h2:ltOf ordI y x=false):x=y:=by
 have a1:decide (ordI x y<0)=false:=h1;have a2:decide (ordI y x<0)=false:=h2;rw [ord_less] at a1 a2;exact (beqM_iff x y).1 (less_eq a1 a2)
theorem flatM_at (L:List Mv) (t:Nat) (h:t<L.length*3):(mlL L)[t]?=some ((ml (L.toArray[t / 3]!))[t % 3]!):=by
 have hi:t / 3<L.length:=by omega
 have e1:L[t / 3]?=some (L.toArray[t / 3]!):=by
  rw [List.getElem?_eq_getElem hi];simp [hi]
 have:=mlL_at L (t / 3) (t % 3) _ e1 (by omega);rw [show 3*(t / 3)+t % 3=t by omega] at this;rw [this];have h3:t % 3<(ml (L.toArray[t / 3]!)).length:=by show _<3;omega
 rw [List.getElem?_eq_getElem h3];exact congrArg some (getElem!_pos (ml (L.toArray[t / 3]!)) (t % 3) h3).symm
theorem holdsM {w:World} {g:Nat} {cur:Array Value} {e:TypeId} {L:List Mv} (hb:w.heap[g]?=some (.cells cur e (0,0))) (ht:cur.toList.take (L.length*3)=mlL L):HoldsK ml 3 w g 0 L.toArray:=by
 intro t hj;have hj':t<L.length*3:=by simpa using hj
 refine ⟨?_,by simp [World.frozen?,hb]⟩;rw [get_flatK _ _ _ _ (by simpa using hj'),Nat.zero_add,cell_of_row w g t cur _ (0,0) hb];have h1:(cur.toList.take (L.length*3))[t]?=(mlL L)[t]?:=by rw [ht]
 rw [List.getElem?_take_of_lt hj',Array.getElem?_toList,flatM_at L t hj'] at h1;rw [h1];rfl
theorem sorted_heap {w:World} {g n:Nat} {os:Array Obj} {cur:Array Value} {e:TypeId} {fr:Nat × Nat} (d:Array Value) (hb:w.heap[g]?=some (.cells cur e fr)) :
  (grow (putRow id (Sort.ahead w n) g 0 d) os).heap[g]?=some (.cells (putCells id 0 d cur) e fr):=by
 have hg:g<w.heap.size:=(Array.getElem?_eq_some_iff.1 hb).1;rw [heap_grow_old _ _ (by simpa using hg)];simp [putRow,mapBlock,Sort.ahead,Array.getElem?_modify,hb,onCells]
theorem sorted_grown {w:World} {g n:Nat} {os:Array Obj} (d:Array Value):w.grownBy (grow (putRow id (Sort.ahead w n) g 0 d) os) (some g):=by
 refine ⟨rfl,rfl,rfl,by simp,fun k hk hne=>?_⟩;rw [heap_grow_old _ _ (by simpa using hk)];have:g≠k:=fun e=>hne (by rw [e])
 simp [putRow,mapBlock,Sort.ahead,Array.getElem?_modify,this]
theorem take_put (cur:Array Value) (L:List Mv) (h:L.length*3≤cur.size):(putCells id 0 (flatK ml 3 L.toArray) cur).toList.take (L.length*3)=mlL L:=by
 apply List.ext_getElem?;intro j;by_cases hj:j<L.length*3
 ·rw [List.getElem?_take_of_lt hj,Array.getElem?_toList,flatM_at L j hj]
  have hf:j<(flatK ml 3 L.toArray).size:=by simpa using hj
  have hg:=get_flatK ml 3 L.toArray j (by simpa using hj);have hc:j<cur.size:=by omega
  rw [← hg];simp [putCells,hf,hc];intro hh;omega
 ·rw [List.getElem?_take_eq_none (by omega),List.getElem?_eq_none (by rw [mlL_len];omega)]
theorem sortM_own (w:World) (base:Nat) (v:Value) (L:List Mv) (h:OwnM w base v L) (hl:L.length≤100000) :
  Calls Tryz.prog 144 #[v,.func (.func 145) #[] #[]] w fun e w'=>e=.returned (.tuple #[])∧OwnM w' base v (L.mergeSort fun x y=>!lessB y x)∧w.grownBy w' v.ownBlock:=by
 have hle:(L.mergeSort fun x y=>!lessB y x).length=L.length:=(List.mergeSort_perm L _).length_eq;rcases h.2 with ⟨rfl,h0⟩|⟨g,cap,cur,rfl,hb,hh,h1,h2,h3,h4⟩
 ·refine (AnyF.slices_SortFunc_none (P:=Tryz.prog) Tryz.sortMv none 0 _ w).mono ?_
  rintro e w' ⟨rfl,rfl⟩;have:L=[]:=List.eq_nil_of_length_eq_zero h0;subst this;exact ⟨rfl,by simpa using h,rfl,rfl,rfl,Nat.le_refl _,fun _ _ _=>rfl⟩
 ·have eg:∀ args w,(callFunc 145 args).run Tryz.prog w=.ok (.enter 145 args) w:=enters_of Tryz.func145 (by kernel_rfl) rfl
  have hcon:=AnyQ.slices_SortFunc_total (P:=Tryz.prog) Tryz.sortMv 3 Tryz.isAgg28 Tryz.sizeOf28 ml (fun _=>rfl)
   (fun x v hv=>by simp only [ml,List.mem_cons,List.not_mem_nil,or_false] at hv;rcases hv with rfl|rfl|rfl <;> rfl)
   ordI swoM 145 #[] g 0 cap L.toArray w eg (fun _ _ _ _ x y=>order_g x y _) (holdsM hh h4) (Yc hh) (by simp;omega) totM
  have he:(fun x y:Mv=>!ltOf ordI y x)=fun x y=>!lessB y x:=by
   funext x y
   show (!decide (ordI y x<0))=_;rw [ord_less]
  rw [he] at hcon;have hsz:L.toArray.size=L.length:=by simp
  rw [hsz] at hcon;refine hcon.mono ?_;rintro e w' ⟨rfl,n,os,rfl⟩;refine ⟨rfl,?_,sorted_grown _⟩;refine ⟨by rw [mlL_len],.inr ⟨g,cap,_,by rw [hle],hb,sorted_heap _ hh,by rw [hle];exact h1,h2,by simp [putCells,h3],?_⟩⟩;exact take_put cur _ (by rw [hle];omega)
end Go.Proofs.YtlpeiolgcaddjaaGreatDoor
namespace Go.Proofs.YtlpeiolgcaddjaaGreatDoor
open Go.RowKit
set_option linter.unusedVariables false
set_option linter.unusedSimpArgs false
set_option maxRecDepth 100000
def gpL:List Int:=[5,4,3,2]
def gpV:List Value:=gpL.map (Value.int .i64)
def maL:List Int:=[1,1,7,-1,6,0]
def swL:List Int:=[-2,2]
def swV:List Value:=swL.map (Value.int .i64)
structure TabG (w:World):Prop where
 tabm:TabM w
 prom:∀ i,i<4→w.cell? ⟨9,i,none⟩=some (.int .i64 (gpL.getD i 0))
 mar:∀ i,i<6→w.cell? ⟨8,i,none⟩=some (.int .i64 (maL.getD i 0))
 side:∀ i,i<2→w.cell? ⟨6,i,none⟩=some (.int .i64 (swL.getD i 0))
theorem TabG.kept {w w':World} (h:TabG w) (k:Kept w w'):TabG w' :=
 ⟨h.tabm.kept k,fun i hi=>Qa k (h.prom i hi),fun i hi=>Qa k (h.mar i hi),fun i hi=>Qa k (h.side i hi)⟩
theorem size_gp:(Tryz.prog.info? 187).map (·.size)=some gpV.length:=by kernel_rfl
theorem size_sw:(Tryz.prog.info? 126).map (·.size)=some swV.length:=by kernel_rfl
theorem TabG.promR {w:World} (h:TabG w):w.rangeAt 9 0 gpV:=range_of rfl h.prom
theorem TabG.sideR {w:World} (h:TabG w):w.rangeAt 6 0 swV:=range_of rfl h.side
theorem size_int (w:World):(sizeOf 3).run Tryz.prog w=.ok 1 w:=by
 have h0:(Tryz.prog.info? 3).map (·.size)=some 1:=by kernel_rfl
 cases hq:Tryz.prog.info? 3 with
 | none=>simp [hq] at h0
 | some i=>simp [hq] at h0;simp [sizeOf,typeInfo,hq,h0]
theorem run_index_gp (k:Nat) (hk:k<4) (w:World):(Instr.index 187 (.agg gpV.toArray) (.int .i64 k)).run Tryz.prog w=.ok (.int .i64 (gpL.getD k 0)) w:=by
 have h1:(0:Int)≤(k:Int)∧(k:Int)<((4:Nat):Int):=by omega
 simp only [Instr.index,asIntOf,Sem.run_bind,Sem.run_pure,Result.andThen_ok,run_underlying Tryz.underlying187,if_pos h1,size_int];simp only [part,isAgg,Sem.run_bind,Sem.run_pure,Result.andThen_ok,run_underlying Tryz.underlying3,if_true,size_int,Int.toNat_natCast];have:k=0∨k=1∨k=2∨k=3:=by omega
 rcases this with rfl|rfl|rfl|rfl <;> rfl
theorem run_index_sw (k:Nat) (hk:k<2) (w:World):(Instr.index 126 (.agg swV.toArray) (.int .i64 k)).run Tryz.prog w=.ok (.int .i64 (swL.getD k 0)) w:=by
 have h1:(0:Int)≤(k:Int)∧(k:Int)<((2:Nat):Int):=by omega
 simp only [Instr.index,asIntOf,Sem.run_bind,Sem.run_pure,Result.andThen_ok,run_underlying Tryz.underlying126,if_pos h1,size_int];simp only [part,isAgg,Sem.run_bind,Sem.run_pure,Result.andThen_ok,run_underlying Tryz.underlying3,if_true,size_int,Int.toNat_natCast];have:k=0∨k=1:=by omega
 rcases this with rfl|rfl <;> rfl
def EyeAt (w:World) (g:Nat) (a:Addr):Prop:=w.cell? ⟨g,0,none⟩=some (.pointer (some a))
theorem EyeAt.kept {w w':World} {g:Nat} {a:Addr} (h:EyeAt w g a) (k:Kept w w'):EyeAt w' g a:=Qa k h
theorem bt_gen (a:Addr):Tryz.prog.built 93 [(0,.pointer (some a))]=some #[.pointer (some a)]:=by kernel_rfl
theorem gnew_is (w:World):Calls Tryz.prog 53 #[] w fun e w'=>∃ g a,e=.returned (.pointer (some ⟨g,0,none⟩))∧EyeAt w' g a∧Kept w w':=by
 go_enter Tryz.func53,Tryz.ntmps53;go_wp2_with fail
 refine (new_is _).mono ?_;rintro e w1 ⟨⟨a,rfl⟩,k1⟩;have HK:=Qh k1;clear k1;go_wp2_with (refine Jy rfl 93 _ rfl #[.pointer (some a)] (bt_gen a) ?_)
 go_ret;exact ⟨w1.heap.size,a,rfl,Qo (heap_alloc_new w1 _),HK.out.alloc _⟩
theorem tells_is (g:Addr) (p:Ps) (hB:Brd p.B) (w:World) (hT:TabG w):Calls Tryz.prog 105 #[.pointer (some g),.agg (pl p).toArray] w fun e w'=>e=.returned (.bool (pwI p == 0))∧Kept w w':=by
 have HP:=Qh (PAt.new w hB.1);have HK0:=Qh ((Kept.refl w).alloc (.cells (pl p).toArray 26));have HW:=Qh (fun w hw=>Jx p hB w hw);have HT:=Qh (hT.kept HK0.out);generalize pwI p=x at *;clear hB hT;go_enter Tryz.func105,Tryz.ntmps105;go_wp2_with (first|(refine Qc (by rfl) _ rfl _ rfl _ (HP.out) ?_)|(refine Qd (by rfl) _ rfl _ rfl _ (HP.out) ?_))
 refine (HW.out _ HT.out.tabm.tabs).mono ?_;rintro e w1 ⟨rfl,k1⟩;have HK1:=Qh (HK0.out.trans k1);clear k1;go_wp2;go_ret;exact ⟨rfl,HK1.out⟩
theorem captures_is (p:Ps) (hB:Brd p.B) (x:Int) (x0:0≤x) (x1:x<64) (w:World):Calls Tryz.prog 179 #[.agg (pl p).toArray,.int .i64 x] w fun e w'=>e=.returned (.bool (capB p x))∧Kept w w':=by
 have HP:=Qh (PAt.new w hB.1);have HK0:=Qh ((Kept.refl w).alloc (.cells (pl p).toArray 26));have hpl:Hid (p.B.length=64):=hB.1;have HC:=Qh (man_a p.B hB x);have HV:Hid (capB p x=((x == p.e) || (sideI (manA p.B x) == Qw p.t))):=by show _=_;unfold capB manA;rw [if_pos ⟨x0,x1⟩]
 generalize manA p.B x=y at *;clear hB x0 x1
 cases h1:(x == p.e)
 ·rw [h1] at HV
  go_enter Tryz.func179,Tryz.ntmps179;go_wp2;refine wp_region_held_drew (S:=Kept _) (by kernel_rfl) (Kept.refl _).drew (fun Qj=>?_);refine rT 0 5 (.int .i64 x) rfl rfl Qj ?_;simp only [pA,pN,sZ,sU];refine rT 1 6 (.pointer (some ⟨w.heap.size,66,none⟩)) rfl rfl Qj ?_;simp only [pA,pN,sZ,sU];refine rC 2 7 (.int .i64 p.e) rfl rfl (fun _ h=>Qa h (HP.out.ep)) Qj ?_;simp only [pA,pN,sZ,sU];refine rT 3 8 (.bool false) rfl rfl Qj ?_;simp only [pA,pN,sZ,sU];refine rT 4 9 (.bool false) rfl rfl Qj ?_;simp only [pA,pN,sZ,sU];refine rT 5 10 (.pointer (some ⟨w.heap.size,0,none⟩)) rfl rfl Qj ?_;simp only [pA,pN,sZ,sU];refine rY 6 11 rfl rfl (Qp (by rfl) _ rfl _ rfl p hpl.out (fun _ h=>(HP.out).kept h)) Qj ?_;simp only [pA,pN,sZ,sU];refine rT 7 12 (.int .i64 x) rfl rfl Qj ?_;simp only [pA,pN,sZ,sU];refine rT 10 15 (.pointer (some ⟨w.heap.size,64,none⟩)) rfl rfl Qj ?_;simp only [pA,pN,sZ,sU];refine rC 11 16 (.int .i64 p.t) rfl rfl (fun _ h=>Qa h (HP.out.turn)) Qj ?_;simp only [pA,pN,sZ,sU];refine rR 8 rfl (fun K hK=>?_);go_simp;refine (HC.out _).mono ?_;rintro e w1 ⟨rfl,gw1⟩;refine hK.out _ _ (Qj.trans gw1) (fun _=>?_);replace Qj:=Qj.trans gw1;clear hK K;refine rR 9 rfl (fun K hK=>?_);go_simp;refine (Qav y _).mono ?_;rintro e w2 ⟨rfl,gw2⟩;refine hK.out _ _ (Qj.trans gw2) (fun _=>?_);replace Qj:=Qj.trans gw2;clear hK K;refine rR 12 rfl (fun K hK=>?_);go_simp;refine (Ye p.t _).mono ?_;rintro e w3 ⟨rfl,gw3⟩;refine hK.out _ _ (Qj.trans gw3) (fun _=>?_);replace Qj:=Qj.trans gw3;clear hK K;generalize hq:(sideI y == Qw p.t)=q at *;refine rT 13 18 (.bool q) rfl rfl Qj ?_;simp only [pA,pN,sZ,sU];refine rT 14 19 (.bool q) rfl rfl Qj ?_;simp only [pA,pN,sZ,sU];refine rT 15 4 (.bool q) rfl rfl Qj ?_;simp only [pA,pN,sZ,sU];refine wpAnyH_done (by kernel_rfl) ?_ _;go_wp2;go_ret;exact ⟨by rw [HV.out];rfl,HK0.out.trans Qj⟩
 ·rw [h1] at HV
  go_enter Tryz.func179,Tryz.ntmps179;go_wp2;refine wp_region_held_drew (S:=Kept _) (by kernel_rfl) (Kept.refl _).drew (fun Qj=>?_);refine rT 0 5 (.int .i64 x) rfl rfl Qj ?_;simp only [pA,pN,sZ,sU];refine rT 1 6 (.pointer (some ⟨w.heap.size,66,none⟩)) rfl rfl Qj ?_;simp only [pA,pN,sZ,sU];refine rC 2 7 (.int .i64 p.e) rfl rfl (fun _ h=>Qa h (HP.out.ep)) Qj ?_;simp only [pA,pN,sZ,sU];refine rT 3 8 (.bool true) rfl rfl Qj ?_;simp only [pA,pN,sZ,sU];refine rT 4 9 (.bool true) rfl rfl Qj ?_;simp only [pA,pN,sZ,sU];refine rN 5 10 rfl rfl Qj ?_;simp only [pA,pN,sZ,sU];refine rN 6 11 rfl rfl Qj ?_;simp only [pA,pN,sZ,sU];refine rN 7 12 rfl rfl Qj ?_;simp only [pA,pN,sZ,sU];refine rN 8 13 rfl rfl Qj ?_;simp only [pA,pN,sZ,sU];refine rN 9 14 rfl rfl Qj ?_;simp only [pA,pN,sZ,sU];refine rN 10 15 rfl rfl Qj ?_;simp only [pA,pN,sZ,sU];refine rN 11 16 rfl rfl Qj ?_;simp only [pA,pN,sZ,sU];refine rN 12 17 rfl rfl Qj ?_;simp only [pA,pN,sZ,sU];refine rN 13 18 rfl rfl Qj ?_;simp only [pA,pN,sZ,sU];refine rT 14 19 (.bool true) rfl rfl Qj ?_;simp only [pA,pN,sZ,sU];refine rT 15 4 (.bool true) rfl rfl Qj ?_;simp only [pA,pN,sZ,sU];refine wpAnyH_done (by kernel_rfl) ?_ _;go_wp2;go_ret;exact ⟨by rw [HV.out];rfl,HK0.out.trans Qj⟩
theorem OwnM.lit (w:World) (m:Mv) (b:Nat) (hb:b≤w.heap.size):OwnM (w.alloc (.cells (ml m).toArray 28)) b (.slice (some ⟨w.heap.size,0,none⟩) 1 1) [m]:=by
 have:=World.ownsRow_lit (base:=b) (e:=28) (size:=3) w (ml m).toArray 1 hb (by unfold maxLen;omega) (by rfl);show (w.alloc (.cells (ml m).toArray 28)).ownsRow b 28 3 (.slice (some ⟨w.heap.size,0,none⟩) 1 1) 1 (mlL [m]);have e:mlL [m]=(ml m).toArray.toList:=by simp [mlL]
 rw [e];exact this
theorem arr_not {p:Ps} {s:Nat} {to:Int} (h:to / 8≠lastI p.t):arrN p s to=[⟨s,to,0⟩]:=by unfold arrN;rw [if_pos h]
def arP (s:Nat) (to:Int) (k:Nat):List Mv:=(gpL.take k).map fun x=>⟨s,to,x⟩
theorem arr_yes {p:Ps} {s:Nat} {to:Int} (h:to / 8=lastI p.t):arrN p s to=arP s to 4:=by unfold arrN;rw [if_neg (by simpa using h)];rfl
theorem arP_succ (s:Nat) (to:Int) (k:Nat) (hk:k<4):arP s to (k+1)=arP s to k++[⟨s,to,gpL.getD k 0⟩]:=by
 have:k=0∨k=1∨k=2∨k=3:=by omega
 rcases this with rfl|rfl|rfl|rfl <;> rfl
theorem arP_len (s:Nat) (to:Int) (k:Nat):(arP s to k).length≤4:=by
 unfold arP;rw [List.length_map,List.length_take];show min k 4≤4;omega
set_option maxHeartbeats 2000000 in
theorem arrive_w (p:Ps) (hB:Brd p.B) (hp:p.t=0) (s:Nat) (x:Int) (x0:0≤x) (x1:x<64) (w:World) (hT:TabG w):Calls Tryz.prog 177 #[.agg (pl p).toArray,.int .i64 (s:Int),.int .i64 x] w (NewM w (arrN p s x)):=by
 have HP:=Qh (PAt.new w hB.1);have HK0:=Qh ((Kept.refl w).alloc (.cells (pl p).toArray 26));have HT:=Qh (hT.kept HK0.out);have ht:=HP.out.turn;rw [hp] at ht;have HTn:=Qh ht;have hm:=HT.out.mar 2 (by omega);have HMr:Hid ((w.alloc (.cells (pl p).toArray 26)).cell? ⟨8,2,none⟩=some (.int .i64 7)):=hm;have HRk:=Qh (fun w=>Jj x w);have hrk:rkI x=x / 8:=by unfold rkI;rw [if_pos ⟨x0,x1⟩]
 rw [hrk] at HRk;have hl:lastI p.t=7:=by rw [hp];rfl
 clear hrk ht hm hB hT;by_cases h:x / 8=7
 ·have HE:=Qh (arr_yes (p:=p) (s:=s) (to:=x) (by rw [hl];exact h))
  rw [h] at HRk;clear h hl hp x0 x1;go_enter Tryz.func177,Tryz.ntmps177;go_wp2;refine wp_region_held_drew (S:=Kept _) (by kernel_rfl) (Kept.refl _).drew (fun Qj=>?_);refine rT 0 10 (.int .i64 x) rfl rfl Qj ?_;simp only [pA,pN,sZ,sU];refine rT 2 12 (.pointer (some ⟨w.heap.size,64,none⟩)) rfl rfl Qj ?_;simp only [pA,pN,sZ,sU];refine rC 3 13 (.int .i64 0) rfl rfl (fun _ h=>Qa h (HTn.out)) Qj ?_;simp only [pA,pN,sZ,sU];refine rT 4 14 (.pointer (some ⟨8,0,none⟩)) rfl rfl Qj ?_;simp only [pA,pN,sZ,sU];refine rT 5 15 (.pointer (some ⟨8,2,none⟩)) rfl rfl Qj ?_;simp only [pA,pN,sZ,sU];refine rC 6 16 (.int .i64 7) rfl rfl (fun _ h=>Qa h (HMr.out)) Qj ?_;simp only [pA,pN,sZ,sU];refine rR 1 rfl (fun K hK=>?_);go_simp;refine (HRk.out _).mono ?_;rintro e w1 ⟨rfl,gw1⟩;refine hK.out _ _ (Qj.trans gw1) (fun _=>?_);replace Qj:=Qj.trans gw1;clear hK K;refine rT 7 17 (.bool false) rfl rfl Qj ?_;simp only [pA,pN,sZ,sU];refine wpAnyH_done (by kernel_rfl) ?_ _;have HK1:=Qh (HK0.out.trans Qj);have HT1:=Qh (HT.out.kept Qj);clear Qj;go_wp2_with (refine wpList_load_mid rfl 187 _ rfl 9 0 rfl gpV _ HT1.out.promR Tryz.underlying187 rfl size_gp ?_)
  go_loopw [7,23] (fun t7 t23 wr=>∃ k:Nat,k≤4∧t23=.int .i64 k∧OwnM wr w1.heap.size t7 (arP s x k)∧Kept w1 wr) (fun _ t23 _=>4-(intOf t23).toNat)
  case atStart=>exact ⟨0,by omega,rfl,OwnM.nil _ _,Kept.refl _⟩
  case round =>
   obtain ⟨k,hk,rfl,hO,hK⟩:=hrel;obtain ⟨a,cap,rfl⟩:=hO.slice;have HO:=Qh hO;have HK:=Qh hK;have hLn:=Qh (arP_len s x k);clear hO hK;by_cases hlt:k<4
   ·have hx:=run_index_gp k hlt
    have HS:=Qh (arP_succ s x k hlt);generalize gpL.getD k 0=y at *;generalize hln:(arP s x k).length=n at *;have HN:=Qh hln;clear hln;have KA:=Qh ((Kept.refl wr).alloc (.cells (ml ⟨s,x,y⟩).toArray 28));go_wp2_with (first|(refine Qv rfl _ _ _ rfl (s:Int) x y rfl rfl rfl ?_)|(refine Ym rfl _ rfl ⟨s,x,y⟩ rfl ?_)|(at_builtin;refine Yl rfl _ _ rfl w1.heap.size wr.heap.size _ _ (arP s x k) [⟨s,x,y⟩] rfl rfl (HO.out.kept KA.out) (LsM.lit _ _) ?c1 ?c2 ?_))
    case c1=>have:=HN.out;have:=hLn.out;simp;omega
    case c2=>have:=HK.out.size;simp;omega
    intro v' w2 hO' hg;have hK2:=(HO.out.kept KA.out).grown (HK.out.trans KA.out) (Nat.le_refl _) hg;rw [← HS.out] at hO';obtain ⟨a',cap',rfl⟩:=hO'.slice;have HO2:=Qh hO';have HK2:=Qh hK2;clear hO' hK2 hg;generalize (arP s x (k+1)).length=n' at *;go_wp2;go_roundw
    case rel=>exact ⟨k+1,by omega,by go_num,HO2.out,HK2.out⟩
    case measure=>simp [intOf];omega
   ·obtain rfl:k=4:=by omega
    go_wp2;go_ret;exact ⟨_,rfl,by rw [HE.out];exact HO.out.low HK1.out.size,HK1.out.trans HK.out⟩
 ·have HE:=Qh (arr_not (p:=p) (s:=s) (to:=x) (by rw [hl];exact h))
  generalize x / 8=r at *;have hb:(r != 7)=true:=bne_iff_ne.2 h;clear h hl hp x0 x1;go_enter Tryz.func177,Tryz.ntmps177;go_wp2;refine wp_region_held_drew (S:=Kept _) (by kernel_rfl) (Kept.refl _).drew (fun Qj=>?_);refine rT 0 10 (.int .i64 x) rfl rfl Qj ?_;simp only [Act.put,sA,sZ,sU];refine rT 2 12 (.pointer (some ⟨w.heap.size,64,none⟩)) rfl rfl Qj ?_;simp only [pA,pN,sZ,sU];refine rC 3 13 (.int .i64 0) rfl rfl (fun _ h=>Qa h (HTn.out)) Qj ?_;simp only [pA,pN,sZ,sU];refine rT 4 14 (.pointer (some ⟨8,0,none⟩)) rfl rfl Qj ?_;simp only [pA,pN,sZ,sU];refine rT 5 15 (.pointer (some ⟨8,2,none⟩)) rfl rfl Qj ?_;simp only [pA,pN,sZ,sU];refine rC 6 16 (.int .i64 7) rfl rfl (fun _ h=>Qa h (HMr.out)) Qj ?_;simp only [pA,pN,sZ,sU];refine rR 1 rfl (fun K hK=>?_);go_simp;refine (HRk.out _).mono ?_;rintro e w1 ⟨rfl,gw1⟩;refine hK.out _ _ (Qj.trans gw1) (fun _=>?_);replace Qj:=Qj.trans gw1;clear hK K;refine rT 7 17 (.bool true) rfl rfl Qj ?_;simp only [pA,pN,sZ,sU];refine wpAnyH_done (by kernel_rfl) ?_ _;have HK1:=Qh (HK0.out.trans Qj);clear Qj;go_wp2_with (first|(refine Jm rfl _ _ rfl (s:Int) x rfl rfl ?_)|(refine Ym rfl _ rfl ⟨s,x,0⟩ rfl ?_))
  go_ret;exact ⟨_,rfl,by rw [HE.out];exact OwnM.lit _ _ _ HK1.out.size,HK1.out.alloc _⟩
set_option maxHeartbeats 2000000 in
theorem arrive_b (p:Ps) (hB:Brd p.B) (hp:p.t=1) (s:Nat) (x:Int) (x0:0≤x) (x1:x<64) (w:World) (hT:TabG w):Calls Tryz.prog 177 #[.agg (pl p).toArray,.int .i64 (s:Int),.int .i64 x] w (NewM w (arrN p s x)):=by
 have HP:=Qh (PAt.new w hB.1);have HK0:=Qh ((Kept.refl w).alloc (.cells (pl p).toArray 26));have HT:=Qh (hT.kept HK0.out);have ht:=HP.out.turn;rw [hp] at ht;have HTn:=Qh ht;have hm:=HT.out.mar 5 (by omega);have HMr:Hid ((w.alloc (.cells (pl p).toArray 26)).cell? ⟨8,5,none⟩=some (.int .i64 0)):=hm;have HRk:=Qh (fun w=>Jj x w);have hrk:rkI x=x / 8:=by unfold rkI;rw [if_pos ⟨x0,x1⟩]
 rw [hrk] at HRk;have hl:lastI p.t=0:=by rw [hp];rfl
 clear hrk ht hm hB hT;by_cases h:x / 8=0
 ·have HE:=Qh (arr_yes (p:=p) (s:=s) (to:=x) (by rw [hl];exact h))
  rw [h] at HRk;clear h hl hp x0 x1;go_enter Tryz.func177,Tryz.ntmps177;go_wp2;refine wp_region_held_drew (S:=Kept _) (by kernel_rfl) (Kept.refl _).drew (fun Qj=>?_);refine rT 0 10 (.int .i64 x) rfl rfl Qj ?_;simp only [pA,pN,sZ,sU];refine rT 2 12 (.pointer (some ⟨w.heap.size,64,none⟩)) rfl rfl Qj ?_;simp only [pA,pN,sZ,sU];refine rC 3 13 (.int .i64 1) rfl rfl (fun _ h=>Qa h (HTn.out)) Qj ?_;simp only [pA,pN,sZ,sU];refine rT 4 14 (.pointer (some ⟨8,3,none⟩)) rfl rfl Qj ?_;simp only [pA,pN,sZ,sU];refine rT 5 15 (.pointer (some ⟨8,5,none⟩)) rfl rfl Qj ?_;simp only [pA,pN,sZ,sU];refine rC 6 16 (.int .i64 0) rfl rfl (fun _ h=>Qa h (HMr.out)) Qj ?_;simp only [pA,pN,sZ,sU];refine rR 1 rfl (fun K hK=>?_);go_simp;refine (HRk.out _).mono ?_;rintro e w1 ⟨rfl,gw1⟩;refine hK.out _ _ (Qj.trans gw1) (fun _=>?_);replace Qj:=Qj.trans gw1;clear hK K;refine rT 7 17 (.bool false) rfl rfl Qj ?_;simp only [pA,pN,sZ,sU];refine wpAnyH_done (by kernel_rfl) ?_ _;have HK1:=Qh (HK0.out.trans Qj);have HT1:=Qh (HT.out.kept Qj);clear Qj;go_wp2_with (refine wpList_load_mid rfl 187 _ rfl 9 0 rfl gpV _ HT1.out.promR Tryz.underlying187 rfl size_gp ?_)
  go_loopw [7,23] (fun t7 t23 wr=>∃ k:Nat,k≤4∧t23=.int .i64 k∧OwnM wr w1.heap.size t7 (arP s x k)∧Kept w1 wr) (fun _ t23 _=>4-(intOf t23).toNat)
  case atStart=>exact ⟨0,by omega,rfl,OwnM.nil _ _,Kept.refl _⟩
  case round =>
   obtain ⟨k,hk,rfl,hO,hK⟩:=hrel;obtain ⟨a,cap,rfl⟩:=hO.slice;have HO:=Qh hO;have HK:=Qh hK;have hLn:=Qh (arP_len s x k);clear hO hK;by_cases hlt:k<4
   ·have hx:=run_index_gp k hlt
    have HS:=Qh (arP_succ s x k hlt);generalize gpL.getD k 0=y at *;generalize hln:(arP s x k).length=n at *;have HN:=Qh hln;clear hln;have KA:=Qh ((Kept.refl wr).alloc (.cells (ml ⟨s,x,y⟩).toArray 28));go_wp2_with (first|(refine Qv rfl _ _ _ rfl (s:Int) x y rfl rfl rfl ?_)|(refine Ym rfl _ rfl ⟨s,x,y⟩ rfl ?_)|(at_builtin;refine Yl rfl _ _ rfl w1.heap.size wr.heap.size _ _ (arP s x k) [⟨s,x,y⟩] rfl rfl (HO.out.kept KA.out) (LsM.lit _ _) ?c1 ?c2 ?_))
    case c1=>have:=HN.out;have:=hLn.out;simp;omega
    case c2=>have:=HK.out.size;simp;omega
    intro v' w2 hO' hg;have hK2:=(HO.out.kept KA.out).grown (HK.out.trans KA.out) (Nat.le_refl _) hg;rw [← HS.out] at hO';obtain ⟨a',cap',rfl⟩:=hO'.slice;have HO2:=Qh hO';have HK2:=Qh hK2;clear hO' hK2 hg;generalize (arP s x (k+1)).length=n' at *;go_wp2;go_roundw
    case rel=>exact ⟨k+1,by omega,by go_num,HO2.out,HK2.out⟩
    case measure=>simp [intOf];omega
   ·obtain rfl:k=4:=by omega
    go_wp2;go_ret;exact ⟨_,rfl,by rw [HE.out];exact HO.out.low HK1.out.size,HK1.out.trans HK.out⟩
 ·have HE:=Qh (arr_not (p:=p) (s:=s) (to:=x) (by rw [hl];exact h))
  generalize x / 8=r at *;have hb:(r != 0)=true:=bne_iff_ne.2 h;clear h hl hp x0 x1;go_enter Tryz.func177,Tryz.ntmps177;go_wp2;refine wp_region_held_drew (S:=Kept _) (by kernel_rfl) (Kept.refl _).drew (fun Qj=>?_);refine rT 0 10 (.int .i64 x) rfl rfl Qj ?_;simp only [Act.put,sA,sZ,sU];refine rT 2 12 (.pointer (some ⟨w.heap.size,64,none⟩)) rfl rfl Qj ?_;simp only [pA,pN,sZ,sU];refine rC 3 13 (.int .i64 1) rfl rfl (fun _ h=>Qa h (HTn.out)) Qj ?_;simp only [pA,pN,sZ,sU];refine rT 4 14 (.pointer (some ⟨8,3,none⟩)) rfl rfl Qj ?_;simp only [pA,pN,sZ,sU];refine rT 5 15 (.pointer (some ⟨8,5,none⟩)) rfl rfl Qj ?_;simp only [pA,pN,sZ,sU];refine rC 6 16 (.int .i64 0) rfl rfl (fun _ h=>Qa h (HMr.out)) Qj ?_;simp only [pA,pN,sZ,sU];refine rR 1 rfl (fun K hK=>?_);go_simp;refine (HRk.out _).mono ?_;rintro e w1 ⟨rfl,gw1⟩;refine hK.out _ _ (Qj.trans gw1) (fun _=>?_);replace Qj:=Qj.trans gw1;clear hK K;refine rT 7 17 (.bool true) rfl rfl Qj ?_;simp only [pA,pN,sZ,sU];refine wpAnyH_done (by kernel_rfl) ?_ _;have HK1:=Qh (HK0.out.trans Qj);clear Qj;go_wp2_with (first|(refine Jm rfl _ _ rfl (s:Int) x rfl rfl ?_)|(refine Ym rfl _ rfl ⟨s,x,0⟩ rfl ?_))
  go_ret;exact ⟨_,rfl,by rw [HE.out];exact OwnM.lit _ _ _ HK1.out.size,HK1.out.alloc _⟩
theorem arrive_is (p:Ps) (hB:Brd p.B) (t01:p.t=0∨p.t=1) (s:Nat) (x:Int) (x0:0≤x) (x1:x<64) (w:World) (hT:TabG w):Calls Tryz.prog 177 #[.agg (pl p).toArray,.int .i64 (s:Int),.int .i64 x] w (NewM w (arrN p s x)):=by
 rcases t01 with h|h
 ·exact arrive_w p hB h s x x0 x1 w hT
 ·exact arrive_b p hB h s x x0 x1 w hT
end Go.Proofs.YtlpeiolgcaddjaaGreatDoor
