/- PaE: my texts, in their order. -/
import Derived.Test.YtijkemnhehbchaaGreatDoorPkRd
import Derived.Test.YtijkemnhehbchaaGreatDoorPkRe
namespace Go.Proofs.YtijkemnhehbchaaGreatDoor
open Go.RowKit
set_option linter.unusedVariables false
set_option linter.unusedSimpArgs false
set_option maxRecDepth 100000
def OnE (ans:List (List Mv)→List Mv→Bool) (J:List (List Mv)→(Nat→Prop)→World→Prop) (Jx:World→Prop) (A O:List (List Mv)) (X Y:Nat→Prop) (w:World) (gw r N:Nat) (tv:Value) (pre:List Mv) (e:Ending) (w':World):Prop :=
 (e=.returned (.bool true)∧goesAll ans A O=true∧∃ X' v',Wk X' Y w' gw r N tv v' pre∧J (A++O) X' w'∧Sm Y w w'∧∀ k,X' k→X k∨w.heap.size≤k) ∨
 (e=.returned (.bool false)∧goesAll ans A O=false∧Jx w'∧Sm Y w w'∧w'.cell? ⟨gw,1,none⟩=some (.int .i64 N))
def tvY (l:Nat):Value:=.func (.yield l) #[] #[]
abbrev ToldP (l:Nat) (ans:List (List Mv)→List Mv→Bool) (L:List (List Mv)) (J:List (List Mv)→(Nat→Prop)→World→Prop) (Jx:World→Prop):Prop:=Told l ans PathG TabG L J Jx
structure OnR (J:List (List Mv)→(Nat→Prop)→World→Prop) (A:List (List Mv)) (X Y:Nat→Prop) (w0 w1:World) (gw r N:Nat) (tv v:Value) (pre:List Mv) (X0:Nat→Prop) (wr:World):Prop where
 wk:Wk X Y wr gw r N tv v pre
 j:J A X wr
 sm:Sm Y w1 wr
 old:∀ k,X k→X0 k∨w0.heap.size≤k
theorem onK_pre {n:Nat} {p:Ps} {pre:List Mv} {k:Nat} (h:k≤(legR p).length) {A L:List (List Mv)} (hp:A++onL (n+1) p pre <+: L):A++onK n p pre (legR p) k <+: L:=by
 obtain ⟨B,hB⟩:=onK_split (n:=n) (pre:=pre) h
 rw [hB,← List.append_assoc] at hp
 exact (List.prefix_append _ _).trans hp
theorem onK_go {n:Nat} {p:Ps} {pre:List Mv} {k:Nat} {m:Mv} (hm:(legR p)[k]?=some m) {A L:List (List Mv)} (hp:A++onL (n+1) p pre <+: L) :
  (A++onK n p pre (legR p) k)++[pre++[m]] <+: L∧(A++onK n p pre (legR p) k++[pre++[m]])++onL n (behP p m) (pre++[m]) <+: L:=by
 have h:=onK_pre (n:=n) (pre:=pre) (k:=k+1) (by have:=(List.getElem?_eq_some_iff.1 hm).1;omega) hp
 rw [onK_succ hm,show A++(onK n p pre (legR p) k++((pre++[m])::onL n (behP p m) (pre++[m])))=(A++onK n p pre (legR p) k++[pre++[m]])++onL n (behP p m) (pre++[m]) by simp] at h
 exact ⟨(List.prefix_append _ _).trans h,h⟩
theorem onK_no1 {ans:List (List Mv)→List Mv→Bool} {n:Nat} {p:Ps} {pre:List Mv} {k:Nat} {m:Mv} {A:List (List Mv)} (hm:(legR p)[k]?=some m) (hg:goesAll ans A (onK n p pre (legR p) k)=true)
  (h:ans (A++onK n p pre (legR p) k) (pre++[m])=false):goesAll ans A (onL (n+1) p pre)=false:=by
 obtain ⟨B,hB⟩:=onK_split (n:=n) (p:=p) (pre:=pre) (k:=k+1) (by have:=(List.getElem?_eq_some_iff.1 hm).1;omega)
 rw [hB]
 refine goesAll_pre ans ?_
 rw [onK_succ hm,goesAll_app,hg,Bool.true_and,goesAll,h];rfl
theorem onK_no2 {ans:List (List Mv)→List Mv→Bool} {n:Nat} {p:Ps} {pre:List Mv} {k:Nat} {m:Mv} {A:List (List Mv)} (hm:(legR p)[k]?=some m) (hg:goesAll ans A (onK n p pre (legR p) k)=true)
  (h:ans (A++onK n p pre (legR p) k) (pre++[m])=true) (h2:goesAll ans (A++onK n p pre (legR p) k++[pre++[m]]) (onL n (behP p m) (pre++[m]))=false):goesAll ans A (onL (n+1) p pre)=false:=by
 obtain ⟨B,hB⟩:=onK_split (n:=n) (p:=p) (pre:=pre) (k:=k+1) (by have:=(List.getElem?_eq_some_iff.1 hm).1;omega)
 rw [hB]
 refine goesAll_pre ans ?_
 rw [onK_succ hm,goesAll_app,hg,Bool.true_and,goesAll,h,h2];rfl
theorem onK_yes {ans:List (List Mv)→List Mv→Bool} {n:Nat} {p:Ps} {pre:List Mv} {k:Nat} {m:Mv} {A:List (List Mv)} (hm:(legR p)[k]?=some m) (hg:goesAll ans A (onK n p pre (legR p) k)=true)
  (h:ans (A++onK n p pre (legR p) k) (pre++[m])=true) (h2:goesAll ans (A++onK n p pre (legR p) k++[pre++[m]]) (onL n (behP p m) (pre++[m]))=true):goesAll ans A (onK n p pre (legR p) (k+1))=true:=by
 rw [onK_succ hm,goesAll_app,hg,Bool.true_and,goesAll,h,h2];rfl
theorem onK_app {n:Nat} {p:Ps} {pre:List Mv} {k:Nat} {m:Mv} {A:List (List Mv)} (hm:(legR p)[k]?=some m) :
  A++onK n p pre (legR p) (k+1)=A++onK n p pre (legR p) k++[pre++[m]]++onL n (behP p m) (pre++[m]):=by rw [onK_succ hm];simp
set_option maxHeartbeats 16000000 in
theorem on_is {ans:List (List Mv)→List Mv→Bool} {l:Nat} {L:List (List Mv)} {J:List (List Mv)→(Nat→Prop)→World→Prop} {Jx:World→Prop} (hTd:ToldP l ans L J Jx)
  (gw r g:Nat) (a b:Addr) (N:Nat) (hN8:N≤8) (n:Nat):∀ (p:Ps) (pre:List Mv) (A:List (List Mv)) (X Y:Nat→Prop) (v:Value) (w:World),Brd p.B→pwI p=0→pre.length+(n+1)=N →
  Wk X Y w gw r N (tvY l) v pre→RuAt w r g a b→Y r→Y g→J A X w→A++onL (n+1) p pre <+: L →
  Calls Tryz.prog 42 #[.pointer (some ⟨gw,0,none⟩),.agg (pl p).toArray] w (OnE ans J Jx A (onL (n+1) p pre) X Y w gw r N (tvY l) pre):=by
 induction n using Nat.strongRecOn with
 | ind n ih =>
 intro p pre A X Y v w hB hr hN hW hR hYr hYg hJ hP
 have HTd:=Qh hTd
 have IH:=Qh ih
 have HP0:=Qh (PAt.new w hB.1)
 have KA:=Qh ((Kept.refl w).alloc (.cells (pl p).toArray 26))
 have HT0:=Qh ((hTd.tab A X w hJ).kept KA.out)
 have HR0:=Qh (hR.kept KA.out)
 have x0:=Qh ((hW.kept KA.out).c0)
 have hpl:Hid (p.B.length=64):=hB.1
 have HMv:=Qh (fun w hT hR=>moves_f r g a b p hB w hT hR)
 have HLl:=Qh (legR_long p)
 have HBe:=Qh (fun (m:Mv) (hm:legB p m=true) w hT=>pbeh_is p hB m (leg_right hB hr hm).2.2 w hT)
 have HMem:=Qh (fun (k:Nat) (m:Mv) (hm:(legR p)[k]?=some m)=>(mem_legR (List.mem_of_getElem? hm)).2)
 have HRt:=Qh (fun (m:Mv) (hm:legB p m=true)=>leg_right hB hr hm)
 have HN:=Qh hN
 have HW0:=Qh hW
 have HJ0:=Qh hJ
 have HPf:=Qh hP
 have HYr:=Qh hYr
 have HYg:=Qh hYg
 generalize hM:(legR p).length=M at *
 have HM:=Qh hM
 clear hB hr hN hW hR hYr hYg hJ hP hTd ih hM
 go_enter Tryz.func42,Tryz.ntmps42
 go_wp2
 refine wp_region_held_drew (S:=Kept _) (by kernel_rfl) (Kept.refl _).drew (fun Qj=>?_)
 refine rT 0 7 (.pointer (some ⟨gw,0,none⟩)) rfl rfl Qj ?_
 simp only [pA,pN,sZ,sU]
 refine rT 1 8 (.pointer (some ⟨gw,0,none⟩)) rfl rfl Qj ?_
 simp only [pA,pN,sZ,sU]
 refine rT 2 9 (.pointer (some ⟨gw,0,none⟩)) rfl rfl Qj ?_
 simp only [pA,pN,sZ,sU]
 refine rC 3 10 (.pointer (some ⟨r,0,none⟩)) rfl rfl (fun _ h=>kept_cell h (x0.out)) Qj ?_
 simp only [pA,pN,sZ,sU]
 refine rY 4 11 rfl rfl (take_load_ps (by rfl) _ rfl _ rfl p hpl.out (fun _ h=>(HP0.out).kept h)) Qj ?_
 simp only [pA,pN,sZ,sU]
 refine rT 7 14 (.int .i64 0) rfl rfl Qj ?_
 simp only [pA,pN,sZ,sU]
 refine rR 5 rfl (fun K hK=>?_)
 go_simp
 refine (HMv.out _ (HT0.out.kept Qj) (HR0.out.kept Qj)).mono ?_
 rintro e x1 ⟨u,gl,rfl,hls,kx,hgl⟩
 obtain ⟨au,cu,rfl⟩:=hls.slice
 rw [HM.out] at hls ⊢
 have HLs:=Qh hls
 have HGl:=Qh (show w.heap.size+1≤gl by have h1:=Qj.size;rw [World.size_alloc] at h1;omega)
 refine hK.out _ _ (Qj.trans kx) (fun _=>?_)
 replace Qj:=Qj.trans kx
 clear hK K hls kx hgl
 refine rT 6 13 (.int .i64 (M:Int)) rfl rfl Qj ?_
 simp only [pA,pN,sZ,sU]
 refine wpAnyH_done (by kernel_rfl) ?_ _
 have HK1:=Qh (KA.out.trans Qj)
 have HS1:=Qh (show w.heap.size+1≤x1.heap.size by have h1:=Qj.size;simp at h1;omega)
 have HP1:=Qh (HP0.out.kept Qj)
 have HR1:=Qh (HR0.out.kept Qj)
 obtain ⟨X1,Y1,HW1,HX1,HY1,HYp,HYl⟩:∃ X1 Y1:Nat→Prop,Hid (Wk X1 Y1 x1 gw r N (tvY l) v pre)∧Hid (∀ k,X1 k→X k∨w.heap.size≤k)∧Hid (∀ k,Y k→Y1 k)∧Hid (Y1 w.heap.size)∧Hid (gl<x1.heap.size→Y1 gl):=by
  refine ⟨_,_,HW0.out.add HK1.out (fun i=>i=w.heap.size∨(i=gl∧i<x1.heap.size)) (fun i hi=>?_),fun k hk=>?_,fun k hk=>.inl hk,.inr (.inl rfl),fun h=>.inr (.inr ⟨rfl,h⟩)⟩
  ·have h1:=HS1.out
   have h2:=HGl.out
   rcases hi with rfl|⟨rfl,h⟩
   ·omega
   ·omega
  ·have h2:=HGl.out
   rcases hk with hk|rfl|⟨rfl,h⟩
   ·exact .inl hk
   ·exact .inr (Nat.le_refl _)
   ·exact .inr (by omega)
 have HJ1:=Qh (HTd.out.keep A X X1 w x1 HJ0.out (Sm.of_kept _ HK1.out) HX1.out HW1.out.low)
 clear Qj HT0 HR0 HP0 x0 HW0 HJ0
 go_wp2
 go_loopw [14] (fun t14 wr=>∃ (k:Nat) (Xr:Nat→Prop) (vr:Value),k≤M∧t14=.int .i64 k∧goesAll ans A (onK n p pre (legR p) k)=true∧OnR J (A++onK n p pre (legR p) k) Xr Y1 w x1 gw r N (tvY l) vr pre X wr) (fun t14 _=>M-(intOf t14).toNat)
 case atStart=>exact ⟨0,X1,v,Nat.zero_le _,rfl,by rw [onK_zero];rfl,HW1.out,by rw [onK_zero,List.append_nil];exact HJ1.out,Sm.refl _ _,HX1.out⟩
 case round =>
  obtain ⟨k,Xr,vr,hk,rfl,hgo,hrel⟩:=hrel
  have HGo:=Qh hgo
  have HWr:=Qh hrel.wk
  have HJr:=Qh hrel.j
  have HSr:=Qh hrel.sm
  have HOr:=Qh hrel.old
  clear hgo hrel
  by_cases hlt:k<M
  ·have hlt':(k:Int)<(M:Int):=by omega
   obtain ⟨x,hx⟩:∃ x,(legR p)[k]?=some x:=⟨_,List.getElem?_eq_getElem (by have:=HM.out;omega)⟩
   obtain ⟨off,cap,he,hc1,hc2,h3⟩:=HLs.out.full (by have:=HM.out;omega)
   rw [HM.out] at he hc1
   injection he with he1 he2 he3
   subst he1 he3
   unfold maxLen at hc2
   have hglx:gl<x1.heap.size:=by
    have h0:=range_ij h3 hx 0 (.int .i64 x.f) rfl
    exact World.block_lt_of_cell? x1 ⟨gl,off+k*3+0,none⟩ h0
   have HX:=Qh hx
   have HRx:=Qh (range_ij (range_sm h3 HSr.out (fun _=>HYl.out hglx)) hx)
   have HLg:=Qh (HMem.out k x hx)
   have HPr:=Qh (HP1.out.sm HSr.out HYp.out)
   have HRr:=Qh (HR1.out.sm HSr.out (HY1.out _ HYr.out) (HY1.out _ HYg.out))
   clear hx h3 he2 hglx
   have KB0:=Qh ((Kept.refl wr).alloc (.cells (ml x).toArray 54))
   have HMb:=Qh (MAt.new wr x)
   obtain ⟨X2,Y2,HW2,HX2,HX2o,HY2,HYm⟩:∃ X2 Y2:Nat→Prop,Hid (Wk X2 Y2 (wr.alloc (.cells (ml x).toArray 54)) gw r N (tvY l) vr pre)∧Hid (∀ k,X2 k→Xr k∨wr.heap.size≤k)∧Hid (∀ k,Xr k→X2 k)∧Hid (∀ k,Y1 k→Y2 k)∧Hid (Y2 wr.heap.size):=by
    refine ⟨_,_,HWr.out.add KB0.out (fun i=>i=wr.heap.size) (fun i hi=>by simp;omega),fun k hk=>?_,fun k hk=>.inl hk,fun k hk=>.inl hk,.inr rfl⟩
    rcases hk with hk|rfl
    ·exact .inl hk
    ·exact .inr (Nat.le_refl _)
   have HJ2:=Qh (HTd.out.keep _ Xr X2 _ _ HJr.out (Sm.of_kept _ KB0.out) HX2.out HW2.out.low)
   have HS2:=Qh (HSr.out.kept KB0.out)
   have HP2:=Qh (HPr.out.kept KB0.out)
   have HR2:=Qh (HRr.out.kept KB0.out)
   have HO2:=Qh (show ∀ k,X2 k→X k∨w.heap.size≤k from fun k hk=>by
    rcases HX2.out k hk with h|h
    ·exact HOr.out k h
    ·have:=HSr.out.size;have:=HK1.out.size;exact .inr (by omega))
   go_wp2_with (first|((with_reducible refine wpList_load_mvo rfl _ rfl gl (off+k*3) ?_ x HRx.out ?_);exact rfl)|(with_reducible refine wpList_new_mv rfl rfl ?_)|((with_reducible refine wpList_store_newmv rfl _ _ rfl Zm x ?_ ?_ ?_);exact rfl;exact rfl))
   clear HWr HJr HSr HOr HPr HRr HRx HX2 HX2o
   generalize wr.alloc (.cells (ml x).toArray 54)=W2 at *
   generalize wr.heap.size=gm at *
   clear KB0
   have hne:gm≠gw:=fun e=>HW2.out.notY (e ▸ HYm.out)
   have hrw:Hid (∀ i,vr.ownBlock=some i→gm≠i):=fun i hi e=>(HW2.out.row i hi).2.1 (e ▸ HYm.out)
   refine wp_region_held_drew (S:=fun w'=>MAt w' gm x) (by kernel_rfl) (MAt.kept HMb.out (Kept.refl W2).drew) (fun Qj=>?_)
   have HKV:=Qh (Kept.refl W2).drew
   generalize W2.drew=V at *
   refine rT 0 18 (.pointer (some ⟨gw,0,none⟩)) rfl rfl Qj ?_
   simp only [Act.put,sA,sZ,sU]
   refine rT 1 19 (.pointer (some ⟨gw,0,none⟩)) rfl rfl Qj ?_
   simp only [pA,pN,sZ,sU]
   refine rT 2 20 (.pointer (some ⟨gw,0,none⟩)) rfl rfl Qj ?_
   simp only [pA,pN,sZ,sU]
   refine rT 3 21 (.pointer (some ⟨gw,3,none⟩)) rfl rfl Qj ?_
   simp only [pA,pN,sZ,sU]
   refine rY 5 23 rfl rfl (take_load_mv (by rfl) _ rfl gm rfl x (fun _ h=>h)) Qj ?_
   simp only [pA,pN,sZ,sU]
   have HWV:=Qh (HW2.out.kept HKV.out)
   have y3:=HWV.out.c3
   have y4:=kept_cell ((Kept.refl V).alloc (.cells (ml x).toArray 54)) y3
   refine two_ready 4 6 22 24 vr (.slice (some ⟨V.heap.size,0,none⟩) 1 1) (V.alloc (.cells (ml x).toArray 54)) rfl rfl rfl rfl (by decide) (by decide) (by go_simp) (run_op_bslice _ rfl x rfl _) (run_op_bslice _ rfl x rfl _) (by go_simp) Qj (MAt.kept Qj ((Kept.refl _).alloc _)) ?_
   simp only [pA,pN,sZ,sU]
   replace Qj:=MAt.kept Qj ((Kept.refl V).alloc (.cells (ml x).toArray 54))
   have HKb:=Qh (HKV.out.alloc (.cells (ml x).toArray 54))
   have HWb:=Qh (HWV.out.kept ((Kept.refl V).alloc (.cells (ml x).toArray 54)))
   have HSl:=Qh (RAt.range (show RAt (V.alloc (.cells (ml x).toArray 54)) V.heap.size (ml x) 54 from MAt.new V x))
   generalize V.alloc (.cells (ml x).toArray 54)=V2 at *
   generalize V.heap.size=gs at *
   clear y3 y4 HWV HKV
   refine rR 7 rfl (fun K hK=>?_)
   rw [if_pos (by rfl)]
   refine wp_append_path _ _ rfl vr pre x gs 0 1 rfl rfl HWb.out.own HSl.out (by have:=HN.out;omega) (fun v3 V3 ho3 hg3 hv3=>?_)
   obtain ⟨a3,c3,rfl⟩:=ho3.slice
   obtain ⟨q3,hq3⟩:∃ q,(pre++[x]).length=q:=⟨_,rfl⟩
   have HQ3:=Qh hq3
   rw [hq3] at ho3 hv3 ⊢
   clear hq3
   have hM3:MAt V3 gm x:=⟨(hg3.block gm (lt_of_heap (RAt.at_ Qj)) (fun e=>hrw.out gm e.symm rfl)).trans (RAt.at_ Qj)⟩
   have HPu:=Qh (HW2.out.push HKb.out ho3 hg3 hv3)
   refine hK.out _ _ hM3 (fun _=>?_)
   clear Qj
   have Qj:=hM3
   clear hK K hM3
   simp only [List.getElem_toArray,List.getElem_cons_succ,List.getElem_cons_zero,Act.put,sA,sZ,sU]
   refine rT 8 26 (.pointer (some ⟨gw,0,none⟩)) rfl rfl Qj ?_
   simp only [pA,pN,sZ,sU]
   refine rT 9 27 (.pointer (some ⟨gw,3,none⟩)) rfl rfl Qj ?_
   simp only [pA,pN,sZ,sU]
   have HG3:=Qh (show RAt V3 gw (wkc r N (tvY l) vr) 72 from ⟨(hg3.block gw (lt_of_heap HWb.out.at_.at_) (fun e=>(HW2.out.row gw e.symm).2.2 rfl)).trans HWb.out.at_.at_⟩)
   have y3:V3.cell? ⟨gw,3,none⟩=some vr:=HG3.out.cellK 3
   have f3:=HG3.out.frozen 3
   refine rR 10 rfl (fun K hK=>?_)
   go_simp
   refine hK.out _ _ (RAt.setOther Qj hne _) (fun Qj=>?_)
   clear hK K y3 f3 HG3 ho3 hg3 hv3
   generalize V3.setCell ⟨gw,3,none⟩ (.slice a3 q3 c3)=W3 at *
   refine wpAnyH_done (by kernel_rfl) ?_ _
   have HS3':=Qh HPu.out.2.1
   obtain ⟨X3,HW3,HX3⟩:∃ X3:Nat→Prop,Hid (Wk X3 Y2 W3 gw r N (tvY l) (.slice a3 q3 c3) (pre++[x]))∧Hid (∀ k,X3 k→X2 k∨W2.heap.size≤k):=⟨_,HPu.out.1,fun k hk=>hk.imp id And.left⟩
   have HJ3:=Qh (HTd.out.keep _ X2 X3 W2 W3 HJ2.out HPu.out.2.2 HX3.out HW3.out.low)
   have HS3:=Qh (HS2.out.trans (HS3'.out.mono fun k _ hk=>HY2.out k hk))
   have HP3:=Qh (HP2.out.sm HS3'.out (HY2.out _ HYp.out))
   have HM3:=Qh (RAt.sm (show RAt W2 gm (ml x) 54 from HMb.out) HS3'.out HYm.out)
   have HR3:=Qh (HR2.out.sm HS3'.out (HY2.out _ (HY1.out _ HYr.out)) (HY2.out _ (HY1.out _ HYg.out)))
   have HO3:=Qh (show ∀ k,X3 k→X k∨w.heap.size≤k from fun k hk=>by
    rcases HX3.out k hk with h|h
    ·exact HO2.out k h
    ·have:=HS2.out.size;have:=HK1.out.size;exact .inr (by omega))
   have HYX:=Qh (show ∀ k,Y k→X3 k from fun k hk=>HW3.out.sub k (HY2.out k (HY1.out k hk)))
   clear HPu HWb HSl HKb Qj HMb HW2 HJ2 HS2 HP2 HR2 HO2 HX3 hrw HS3'
   have HQ9:=Qh (show q3=pre.length+1 by rw [← HQ3.out];simp)
   have hd8:pre.length≤8:=by have:=HN.out;omega
   go_wp2
   refine region_in (n:=1) ?_
   have HKV:=Qh (Kept.refl W3).drew
   generalize W3.drew=V at *
   have HW4:=Qh (HW3.out.kept HKV.out)
   have HJ4:=Qh (HTd.out.keep _ X3 X3 W3 V HJ3.out (Sm.of_kept _ HKV.out) (fun k hk=>.inl hk) HW4.out.low)
   have HTl:=Qh (HTd.out.tell _ X3 (pre++[x]) (.slice a3 q3 c3) V HJ4.out HW4.out.path (onK_go HX.out HPf.out).1)
   have HS4:=Qh (HS3.out.kept HKV.out)
   have HP4:=Qh (HP3.out.kept HKV.out)
   have HM4:=Qh (RAt.kept HM3.out HKV.out)
   have HR4:=Qh (HR3.out.kept HKV.out)
   have y2:=HW4.out.c2
   have y3:=HW4.out.c3
   refine tI 0 28 (.pointer (some ⟨gw,0,none⟩)) rfl rfl ?_
   simp only [Act.put,sA,sZ,sU]
   refine tI 1 29 (.pointer (some ⟨gw,0,none⟩)) rfl rfl ?_
   simp only [Act.put,sA,sZ,sU]
   refine tI 2 30 (.pointer (some ⟨gw,2,none⟩)) rfl rfl ?_
   simp only [Act.put,sA,sZ,sU]
   refine tI 4 32 (.pointer (some ⟨gw,0,none⟩)) rfl rfl ?_
   simp only [Act.put,sA,sZ,sU]
   refine tI 5 33 (.pointer (some ⟨gw,0,none⟩)) rfl rfl ?_
   simp only [Act.put,sA,sZ,sU]
   refine tI 6 34 (.pointer (some ⟨gw,3,none⟩)) rfl rfl ?_
   simp only [Act.put,sA,sZ,sU]
   refine two_reads 3 7 31 35 (tvY l) (.slice a3 q3 c3) rfl rfl rfl rfl (by decide) (by decide) (by go_simp) (by go_simp) (by go_simp) (by go_simp) ?_
   simp only [Act.put,sA,sZ,sU]
   refine one_yield 8 (.tmp 31) (.tmp 35) _ rfl rfl rfl rfl HTl.out (fun e U he=>?_)
   clear y2 y3 HTl
   rcases he with ⟨rfl,ha,hs,hj⟩|⟨rfl,ha,hs,hx⟩
   ·refine ⟨_,rfl,?_⟩
    simp only [List.getElem_toArray,List.getElem_cons_succ,List.getElem_cons_zero,Act.put,sA,sZ,sU]
    refine tI 9 37 (.bool false) rfl rfl ?_
    simp only [Act.put,sA,sZ,sU]
    refine wpAnyIn_done (by kernel_rfl) ?_ _
    have HA:=Qh ha
    have HWt:=Qh (HW4.out.sm hs)
    have HJt:=Qh hj
    have HSt:=Qh (HS4.out.trans (hs.mono fun k _ hk=>HW4.out.sub k (HY2.out k hk)))
    have HPt:=Qh (HP4.out.sm hs (HW4.out.sub _ (HY2.out _ HYp.out)))
    have HMt:=Qh (RAt.sm HM4.out hs (HW4.out.sub _ HYm.out))
    have HRt4:=Qh (HR4.out.sm hs (HW4.out.sub _ (HY2.out _ (HY1.out _ HYr.out))) (HW4.out.sub _ (HY2.out _ (HY1.out _ HYg.out))))
    clear ha hs hj HW3 HJ3 HS3 HP3 HM3 HR3 HW4 HJ4 HS4 HP4 HM4 HR4 HKV
    by_cases hn0:n=0
    ·subst hn0
     have HJ5:=Qh (show J (A++onK 0 p pre (legR p) (k+1)) X3 U by rw [onK_app HX.out];simpa [onL] using HJt.out)
     have HG5:=Qh (onK_yes HX.out HGo.out HA.out (by simp [onL,goesAll]))
     clear HJt
     have hdq:¬ q3<N:=by have:=HQ9.out;have:=HN.out;omega
     have hdq':decide (q3<N)=false:=by simpa using hdq
     go_wp2
     refine wp_region_held_drew (S:=fun w'=>w'.cell? ⟨gw,1,none⟩=some (.int .i64 N)) (by kernel_rfl) HWt.out.c1 (fun Qj=>?_)
     have HKV:=Qh (Kept.refl U).drew
     generalize U.drew=V7 at *
     have HW7:=Qh (HWt.out.kept HKV.out)
     have y3:=HW7.out.c3
     refine rT 0 38 (.pointer (some ⟨gw,0,none⟩)) rfl rfl Qj ?_
     simp only [pA,pN,sZ,sU]
     refine rT 1 39 (.pointer (some ⟨gw,0,none⟩)) rfl rfl Qj ?_
     simp only [pA,pN,sZ,sU]
     refine rT 2 40 (.pointer (some ⟨gw,3,none⟩)) rfl rfl Qj ?_
     simp only [pA,pN,sZ,sU]
     refine rT 5 43 (.pointer (some ⟨gw,0,none⟩)) rfl rfl Qj ?_
     simp only [pA,pN,sZ,sU]
     refine rT 6 44 (.pointer (some ⟨gw,0,none⟩)) rfl rfl Qj ?_
     simp only [pA,pN,sZ,sU]
     refine rT 7 45 (.pointer (some ⟨gw,1,none⟩)) rfl rfl Qj ?_
     simp only [pA,pN,sZ,sU]
     refine rC 8 46 (.int .i64 N) rfl rfl (fun _ h=>h) Qj ?_
     simp only [Act.put,sA,sZ,sU]
     refine rR 3 rfl (fun K hK=>?_)
     go_simp
     refine hK.out _ _ Qj (fun _=>?_)
     clear hK K
     refine rT 4 42 (.int .i64 (q3:Int)) rfl rfl Qj ?_
     simp only [pA,pN,sZ,sU]
     refine rT 9 47 (.bool false) rfl rfl Qj ?_
     simp only [pA,pN,sZ,sU]
     refine rT 10 48 (.bool false) rfl rfl Qj ?_
     simp only [pA,pN,sZ,sU]
     refine rN 11 49 rfl rfl Qj ?_
     simp only [pA,pN,sZ,sU]
     refine rN 12 50 rfl rfl Qj ?_
     simp only [pA,pN,sZ,sU]
     refine rN 13 51 rfl rfl Qj ?_
     simp only [pA,pN,sZ,sU]
     refine rN 14 52 rfl rfl Qj ?_
     simp only [pA,pN,sZ,sU]
     refine rN 15 53 rfl rfl Qj ?_
     simp only [pA,pN,sZ,sU]
     refine rN 16 54 rfl rfl Qj ?_
     simp only [pA,pN,sZ,sU]
     refine rT 17 55 (.bool false) rfl rfl Qj ?_
     simp only [pA,pN,sZ,sU]
     refine wpAnyH_done (by kernel_rfl) ?_ _
     clear Qj y3 hdq hdq'
     have HW5:=Qh HW7.out
     have HS5:=Qh (HSt.out.kept HKV.out)
     replace HJ5:=Qh (HTd.out.keep _ X3 X3 U V7 HJ5.out (Sm.of_kept _ HKV.out) (fun k hk=>.inl hk) HW7.out.low)
     have HO5:=Qh HO3.out
     clear HW7 HWt HSt HKV
     obtain ⟨Uw,hUw⟩:∃ Uw,Uw=V7:=⟨_,rfl⟩
     subst hUw
     obtain ⟨X5,hX5⟩:∃ X5,X5=X3:=⟨_,rfl⟩
     subst hX5
     have HKe:=Qh (Kept.refl Uw)
     go_wp2
     refine wp_region_held_drew (S:=fun _=>True) (by kernel_rfl) trivial (fun Qj=>?_)
     have HKV:=Qh (Kept.refl Uw).drew
     generalize Uw.drew=V9 at *
     have HW9:=Qh (HW5.out.kept HKV.out)
     obtain ⟨g9,cap9,e9,hc9,hm9,hpop⟩:=HW9.out.pop
     have HPop:=Qh hpop
     have y3:=HW9.out.c3
     rw [e9] at y3
     have f3:=HW9.out.at_.frozen 3
     have HPr9:=Qh (HKV.out)
     clear hpop e9
     generalize pre.length=d0 at *
     unfold maxLen at hm9
     have hrn:=run_head_mv g9 0 (d0+1) cap9 d0 (by omega)
     have hnc:¬ cap9<d0:=by omega
     have hwr:IntKind.i64.wrap (d0:Int)=d0:=IntWalk.i64_in _ (by omega)
     refine rT 0 56 (.pointer (some ⟨gw,0,none⟩)) rfl rfl Qj ?_
     simp only [pA,pN,sZ,sU]
     refine rT 1 57 (.pointer (some ⟨gw,0,none⟩)) rfl rfl Qj ?_
     simp only [pA,pN,sZ,sU]
     refine rT 2 58 (.pointer (some ⟨gw,0,none⟩)) rfl rfl Qj ?_
     simp only [pA,pN,sZ,sU]
     refine rT 3 59 (.pointer (some ⟨gw,3,none⟩)) rfl rfl Qj ?_
     simp only [pA,pN,sZ,sU]
     refine rT 5 61 (.pointer (some ⟨gw,0,none⟩)) rfl rfl Qj ?_
     simp only [pA,pN,sZ,sU]
     refine rT 6 62 (.pointer (some ⟨gw,0,none⟩)) rfl rfl Qj ?_
     simp only [pA,pN,sZ,sU]
     refine rT 7 63 (.pointer (some ⟨gw,3,none⟩)) rfl rfl Qj ?_
     simp only [pA,pN,sZ,sU]
     refine wpAnyH_ready (rs:=[4,8]) (by kernel_rfl) (by simp) ?_
     refine AllReadyH.cons rfl (fun K hK=>?_) (AllReadyH.cons rfl (fun K hK=>?_) AllReadyH.nil)
     ·go_simp
      refine hK.out _ _ trivial (fun _=>?_)
      clear hK K
      refine rR 8 rfl (fun K hK=>?_)
      go_simp
      refine hK.out _ _ trivial (fun _=>?_)
      clear hK K
      refine rT 9 65 (.int .i64 ((d0:Int)+1)) rfl rfl Qj ?_
      simp only [pA,pN,sZ,sU]
      refine rT 10 66 (.int .i64 (d0:Int)) rfl rfl Qj ?_
      simp only [pA,pN,sZ,sU]
      refine rT 11 67 (.slice (some ⟨g9,0,none⟩) d0 cap9) rfl rfl Qj ?_
      simp only [pA,pN,sZ,sU]
      refine rT 12 68 (.pointer (some ⟨gw,0,none⟩)) rfl rfl Qj ?_
      simp only [pA,pN,sZ,sU]
      refine rT 13 69 (.pointer (some ⟨gw,3,none⟩)) rfl rfl Qj ?_
      simp only [pA,pN,sZ,sU]
      refine rR 14 rfl (fun K hK=>?_)
      go_simp
      refine hK.out _ _ trivial (fun Qj=>?_)
      clear hK K y3 f3 hrn hnc hwr
      have HWa:=Qh HPop.out.1
      have HSa:=Qh ((HS5.out.kept HKV.out).trans (HPop.out.2.1.mono fun k _ hk=>HY2.out k hk))
      have HJa:=Qh (HTd.out.keep _ X5 X5 Uw _ HJ5.out ((Sm.of_kept _ HKV.out).trans HPop.out.2.2) (fun k hk=>.inl hk) HWa.out.low)
      clear HPop
      generalize V9.setCell ⟨gw,3,none⟩ (.slice (some ⟨g9,0,none⟩) d0 cap9)=W9 at *
      refine wpAnyH_done (by kernel_rfl) ?_ _
      go_wp2
      go_roundw
      case rel=>exact ⟨k+1,X5,_,by omega,by go_num,HG5.out,HWa.out.weak HY2.out,HJa.out,HSa.out,HO5.out⟩
      case measure=>simp [intOf];omega
     ·go_simp
      refine hK.out _ _ trivial (fun _=>?_)
      clear hK K
      refine rT 9 65 (.int .i64 ((d0:Int)+1)) rfl rfl Qj ?_
      simp only [pA,pN,sZ,sU]
      refine rT 10 66 (.int .i64 (d0:Int)) rfl rfl Qj ?_
      simp only [pA,pN,sZ,sU]
      refine rR 4 rfl (fun K hK=>?_)
      go_simp
      refine hK.out _ _ trivial (fun _=>?_)
      clear hK K
      refine rT 11 67 (.slice (some ⟨g9,0,none⟩) d0 cap9) rfl rfl Qj ?_
      simp only [pA,pN,sZ,sU]
      refine rT 12 68 (.pointer (some ⟨gw,0,none⟩)) rfl rfl Qj ?_
      simp only [pA,pN,sZ,sU]
      refine rT 13 69 (.pointer (some ⟨gw,3,none⟩)) rfl rfl Qj ?_
      simp only [pA,pN,sZ,sU]
      refine rR 14 rfl (fun K hK=>?_)
      go_simp
      refine hK.out _ _ trivial (fun Qj=>?_)
      clear hK K y3 f3 hrn hnc hwr
      have HWa:=Qh HPop.out.1
      have HSa:=Qh ((HS5.out.kept HKV.out).trans (HPop.out.2.1.mono fun k _ hk=>HY2.out k hk))
      have HJa:=Qh (HTd.out.keep _ X5 X5 Uw _ HJ5.out ((Sm.of_kept _ HKV.out).trans HPop.out.2.2) (fun k hk=>.inl hk) HWa.out.low)
      clear HPop
      generalize V9.setCell ⟨gw,3,none⟩ (.slice (some ⟨g9,0,none⟩) d0 cap9)=W9 at *
      refine wpAnyH_done (by kernel_rfl) ?_ _
      go_wp2
      go_roundw
      case rel=>exact ⟨k+1,X5,_,by omega,by go_num,HG5.out,HWa.out.weak HY2.out,HJa.out,HSa.out,HO5.out⟩
      case measure=>simp [intOf];omega
    ·obtain ⟨n',rfl⟩:∃ n',n=n'+1:=⟨n-1,by omega⟩
     have hdq:q3<N:=by have:=HQ9.out;have:=HN.out;omega
     have hdq':decide (q3<N)=true:=by simpa using hdq
     have HBx:=Qh (HBe.out x HLg.out)
     obtain ⟨hb1,hb2,_⟩:=HRt.out x HLg.out
     have HB1:=Qh hb1
     have HB2:=Qh hb2
     clear hb1 hb2
     go_wp2
     have HKV:=Qh (Kept.refl U).drew
     refine wp_region_held_drew (S:=fun w'=>Sm Y2 U.drew w'∧w'.cell? ⟨gw,1,none⟩=some (.int .i64 N)) (by kernel_rfl) ⟨Sm.refl _ _,HWt.out.c1⟩ (fun Qj=>?_)
     generalize U.drew=V7 at *
     have HW7:=Qh (HWt.out.kept HKV.out)
     have HJ7:=Qh (HTd.out.keep _ X3 X3 U V7 HJt.out (Sm.of_kept _ HKV.out) (fun k hk=>.inl hk) HW7.out.low)
     have HP7:=Qh (HPt.out.kept HKV.out)
     have HM7:=Qh (RAt.kept HMt.out HKV.out)
     have HR7:=Qh (HRt4.out.kept HKV.out)
     have HT7:=Qh (HTd.out.tab _ _ _ HJ7.out)
     have y3:=HW7.out.c3
     refine rT 0 38 (.pointer (some ⟨gw,0,none⟩)) rfl rfl Qj ?_
     simp only [pA,pN,sZ,sU]
     refine rT 1 39 (.pointer (some ⟨gw,0,none⟩)) rfl rfl Qj ?_
     simp only [pA,pN,sZ,sU]
     refine rT 2 40 (.pointer (some ⟨gw,3,none⟩)) rfl rfl Qj ?_
     simp only [pA,pN,sZ,sU]
     refine rT 5 43 (.pointer (some ⟨gw,0,none⟩)) rfl rfl Qj ?_
     simp only [pA,pN,sZ,sU]
     refine rT 6 44 (.pointer (some ⟨gw,0,none⟩)) rfl rfl Qj ?_
     simp only [pA,pN,sZ,sU]
     refine rT 7 45 (.pointer (some ⟨gw,1,none⟩)) rfl rfl Qj ?_
     simp only [pA,pN,sZ,sU]
     refine rC 8 46 (.int .i64 N) rfl rfl (fun _ h=>h.2) Qj ?_
     simp only [Act.put,sA,sZ,sU]
     refine rR 3 rfl (fun K hK=>?_)
     go_simp
     refine hK.out _ _ Qj (fun _=>?_)
     clear hK K
     refine rT 4 42 (.int .i64 (q3:Int)) rfl rfl Qj ?_
     simp only [pA,pN,sZ,sU]
     refine rT 9 47 (.bool true) rfl rfl Qj ?_
     simp only [pA,pN,sZ,sU]
     refine rT 10 48 (.bool true) rfl rfl Qj ?_
     simp only [pA,pN,sZ,sU]
     refine rT 11 49 (.pointer (some ⟨gw,0,none⟩)) rfl rfl Qj ?_
     simp only [pA,pN,sZ,sU]
     refine rY 12 50 rfl rfl (take_load_ps (by rfl) _ rfl _ rfl p hpl.out (fun _ h=>HP7.out.sm h.1 (HY2.out _ HYp.out))) Qj ?_
     simp only [Act.put,sA,sZ,sU]
     refine rY 13 51 rfl rfl (take_load_mv (by rfl) _ rfl gm rfl x (fun _ h=>RAt.sm HM7.out h.1 HYm.out)) Qj ?_
     simp only [Act.put,sA,sZ,sU]
     refine rR 14 rfl (fun K hK=>?_)
     rw [if_pos (by rfl)]
     go_simp
     refine (HBx.out _ HT7.out.tabm).mono ?_
     rintro e Z1 ⟨rfl,k1⟩
     refine hK.out _ _ ⟨Sm.of_kept _ k1,(HW7.out.kept k1).c1⟩ (fun Qj=>?_)
     clear hK K y3
     have HWz:=Qh (HW7.out.kept k1)
     have HCo:=Qh (IH.out n' (by omega) (behP p x) (pre++[x]) (A++onK (n'+1) p pre (legR p) k++[pre++[x]]) X3 Y2 (.slice a3 q3 c3) Z1 HB2.out HB1.out (by have:=HQ9.out;have:=HN.out;rw [HQ3.out];omega) HWz.out (HR7.out.kept k1) (HY2.out _ (HY1.out _ HYr.out)) (HY2.out _ (HY1.out _ HYg.out))
      (HTd.out.keep _ X3 X3 V7 Z1 HJ7.out (Sm.of_kept _ k1) (fun k hk=>.inl hk) HWz.out.low) (onK_go HX.out HPf.out).2)
     have HKz:=Qh k1
     clear k1
     generalize hbq:behP p x=bq at *
     refine rR 15 rfl (fun K hK=>?_)
     rw [if_pos (by rfl)]
     go_simp
     refine HCo.out.mono ?_
     rintro e Z2 (⟨rfl,hg2,X5,v5,hw5,hj5,hs5,ho5⟩|⟨rfl,hg2,hx5,hs5,hc5⟩)
     ·have HG5:=Qh (onK_yes HX.out HGo.out HA.out (by rw [hbq];exact hg2))
      have HJ5:=Qh (show J (A++onK (n'+1) p pre (legR p) (k+1)) X5 Z2 by rw [onK_app HX.out,hbq];exact hj5)
      have HW5:=Qh hw5
      have HS5:=Qh (((HSt.out.kept HKV.out).kept HKz.out).trans (hs5.mono fun k _ hk=>HY2.out k hk))
      have HO5:=Qh (show ∀ k,X5 k→X k∨w.heap.size≤k from fun k hk=>by
       rcases ho5 k hk with h|h
       ·exact HO3.out k h
       ·have:=HSt.out.size;have:=HKV.out.size;have:=HKz.out.size;have:=HK1.out.size;exact .inr (by omega))
      refine hK.out _ _ ⟨Qj.1.trans hs5,hw5.c1⟩ (fun Qj=>?_)
      clear hK K hg2 hw5 hj5 hs5 ho5 HCo
      refine rT 16 54 (.bool false) rfl rfl Qj ?_
      simp only [pA,pN,sZ,sU]
      refine rT 17 55 (.bool false) rfl rfl Qj ?_
      simp only [pA,pN,sZ,sU]
      refine wpAnyH_done (by kernel_rfl) ?_ _
      clear Qj hdq hdq'
      clear HW7 HJ7 HP7 HM7 HR7 HT7 HWt HSt HKV HWz HKz HJt
      obtain ⟨Uw,hUw⟩:∃ Uw,Uw=Z2:=⟨_,rfl⟩
      subst hUw
      have HKe:=Qh (Kept.refl Uw)
      go_wp2
      refine wp_region_held_drew (S:=fun _=>True) (by kernel_rfl) trivial (fun Qj=>?_)
      have HKV:=Qh (Kept.refl Uw).drew
      generalize Uw.drew=V9 at *
      have HW9:=Qh (HW5.out.kept HKV.out)
      obtain ⟨g9,cap9,e9,hc9,hm9,hpop⟩:=HW9.out.pop
      have HPop:=Qh hpop
      have y3:=HW9.out.c3
      rw [e9] at y3
      have f3:=HW9.out.at_.frozen 3
      have HPr9:=Qh (HKV.out)
      clear hpop e9
      generalize pre.length=d0 at *
      unfold maxLen at hm9
      have hrn:=run_head_mv g9 0 (d0+1) cap9 d0 (by omega)
      have hnc:¬ cap9<d0:=by omega
      have hwr:IntKind.i64.wrap (d0:Int)=d0:=IntWalk.i64_in _ (by omega)
      refine rT 0 56 (.pointer (some ⟨gw,0,none⟩)) rfl rfl Qj ?_
      simp only [pA,pN,sZ,sU]
      refine rT 1 57 (.pointer (some ⟨gw,0,none⟩)) rfl rfl Qj ?_
      simp only [pA,pN,sZ,sU]
      refine rT 2 58 (.pointer (some ⟨gw,0,none⟩)) rfl rfl Qj ?_
      simp only [pA,pN,sZ,sU]
      refine rT 3 59 (.pointer (some ⟨gw,3,none⟩)) rfl rfl Qj ?_
      simp only [pA,pN,sZ,sU]
      refine rT 5 61 (.pointer (some ⟨gw,0,none⟩)) rfl rfl Qj ?_
      simp only [pA,pN,sZ,sU]
      refine rT 6 62 (.pointer (some ⟨gw,0,none⟩)) rfl rfl Qj ?_
      simp only [pA,pN,sZ,sU]
      refine rT 7 63 (.pointer (some ⟨gw,3,none⟩)) rfl rfl Qj ?_
      simp only [pA,pN,sZ,sU]
      refine wpAnyH_ready (rs:=[4,8]) (by kernel_rfl) (by simp) ?_
      refine AllReadyH.cons rfl (fun K hK=>?_) (AllReadyH.cons rfl (fun K hK=>?_) AllReadyH.nil)
      ·go_simp
       refine hK.out _ _ trivial (fun _=>?_)
       clear hK K
       refine rR 8 rfl (fun K hK=>?_)
       go_simp
       refine hK.out _ _ trivial (fun _=>?_)
       clear hK K
       refine rT 9 65 (.int .i64 ((d0:Int)+1)) rfl rfl Qj ?_
       simp only [pA,pN,sZ,sU]
       refine rT 10 66 (.int .i64 (d0:Int)) rfl rfl Qj ?_
       simp only [pA,pN,sZ,sU]
       refine rT 11 67 (.slice (some ⟨g9,0,none⟩) d0 cap9) rfl rfl Qj ?_
       simp only [pA,pN,sZ,sU]
       refine rT 12 68 (.pointer (some ⟨gw,0,none⟩)) rfl rfl Qj ?_
       simp only [pA,pN,sZ,sU]
       refine rT 13 69 (.pointer (some ⟨gw,3,none⟩)) rfl rfl Qj ?_
       simp only [pA,pN,sZ,sU]
       refine rR 14 rfl (fun K hK=>?_)
       go_simp
       refine hK.out _ _ trivial (fun Qj=>?_)
       clear hK K y3 f3 hrn hnc hwr
       have HWa:=Qh HPop.out.1
       have HSa:=Qh ((HS5.out.kept HKV.out).trans (HPop.out.2.1.mono fun k _ hk=>HY2.out k hk))
       have HJa:=Qh (HTd.out.keep _ X5 X5 Uw _ HJ5.out ((Sm.of_kept _ HKV.out).trans HPop.out.2.2) (fun k hk=>.inl hk) HWa.out.low)
       clear HPop
       generalize V9.setCell ⟨gw,3,none⟩ (.slice (some ⟨g9,0,none⟩) d0 cap9)=W9 at *
       refine wpAnyH_done (by kernel_rfl) ?_ _
       go_wp2
       go_roundw
       case rel=>exact ⟨k+1,X5,_,by omega,by go_num,HG5.out,HWa.out.weak HY2.out,HJa.out,HSa.out,HO5.out⟩
       case measure=>simp [intOf];omega
      ·go_simp
       refine hK.out _ _ trivial (fun _=>?_)
       clear hK K
       refine rT 9 65 (.int .i64 ((d0:Int)+1)) rfl rfl Qj ?_
       simp only [pA,pN,sZ,sU]
       refine rT 10 66 (.int .i64 (d0:Int)) rfl rfl Qj ?_
       simp only [pA,pN,sZ,sU]
       refine rR 4 rfl (fun K hK=>?_)
       go_simp
       refine hK.out _ _ trivial (fun _=>?_)
       clear hK K
       refine rT 11 67 (.slice (some ⟨g9,0,none⟩) d0 cap9) rfl rfl Qj ?_
       simp only [pA,pN,sZ,sU]
       refine rT 12 68 (.pointer (some ⟨gw,0,none⟩)) rfl rfl Qj ?_
       simp only [pA,pN,sZ,sU]
       refine rT 13 69 (.pointer (some ⟨gw,3,none⟩)) rfl rfl Qj ?_
       simp only [pA,pN,sZ,sU]
       refine rR 14 rfl (fun K hK=>?_)
       go_simp
       refine hK.out _ _ trivial (fun Qj=>?_)
       clear hK K y3 f3 hrn hnc hwr
       have HWa:=Qh HPop.out.1
       have HSa:=Qh ((HS5.out.kept HKV.out).trans (HPop.out.2.1.mono fun k _ hk=>HY2.out k hk))
       have HJa:=Qh (HTd.out.keep _ X5 X5 Uw _ HJ5.out ((Sm.of_kept _ HKV.out).trans HPop.out.2.2) (fun k hk=>.inl hk) HWa.out.low)
       clear HPop
       generalize V9.setCell ⟨gw,3,none⟩ (.slice (some ⟨g9,0,none⟩) d0 cap9)=W9 at *
       refine wpAnyH_done (by kernel_rfl) ?_ _
       go_wp2
       go_roundw
       case rel=>exact ⟨k+1,X5,_,by omega,by go_num,HG5.out,HWa.out.weak HY2.out,HJa.out,HSa.out,HO5.out⟩
       case measure=>simp [intOf];omega
     ·have HX5:=Qh hx5
      have HG5:=Qh (onK_no2 HX.out HGo.out HA.out (by rw [hbq];exact hg2))
      have HS5:=Qh (((Sm.of_kept Y HK1.out).trans (((HSt.out.kept HKV.out).kept HKz.out).mono fun k _ hk=>HY1.out k hk)).trans (hs5.mono fun k _ hk=>HY2.out k (HY1.out k hk)))
      have HC5:=Qh hc5
      refine hK.out _ _ ⟨Qj.1.trans hs5,hc5⟩ (fun Qj=>?_)
      clear hK K hg2 hx5 hs5 hc5 HCo
      refine rT 16 54 (.bool true) rfl rfl Qj ?_
      simp only [pA,pN,sZ,sU]
      refine rT 17 55 (.bool true) rfl rfl Qj ?_
      simp only [pA,pN,sZ,sU]
      refine wpAnyH_done (by kernel_rfl) ?_ _
      clear Qj hdq hdq'
      go_wp2
      go_ret
      exact Or.inr ⟨rfl,HG5.out,HX5.out,HS5.out,HC5.out⟩
   ·refine ⟨_,rfl,?_⟩
    simp only [List.getElem_toArray,List.getElem_cons_succ,List.getElem_cons_zero,Act.put,sA,sZ,sU]
    refine tI 9 37 (.bool true) rfl rfl ?_
    simp only [Act.put,sA,sZ,sU]
    refine wpAnyIn_done (by kernel_rfl) ?_ _
    have HX5:=Qh hx
    have HG5:=Qh (onK_no1 HX.out HGo.out ha)
    have HS5:=Qh (((Sm.of_kept Y HK1.out).trans (HS4.out.mono fun k _ hk=>HY1.out k hk)).trans (hs.mono fun k _ hk=>HYX.out k hk))
    have HC5:=Qh (HW4.out.sm hs).c1
    clear hx ha hs
    go_wp2
    go_ret
    exact Or.inr ⟨rfl,HG5.out,HX5.out,HS5.out,HC5.out⟩
  ·obtain rfl:k=M:=by omega
   have HE:=Qh (onK_end n p pre)
   rw [HM.out] at HE
   rw [HE.out] at HGo HJr
   have HSe:=Qh ((Sm.of_kept Y HK1.out).trans (HSr.out.mono fun k _ hk=>HY1.out k hk))
   go_wp2
   go_ret
   exact Or.inl ⟨rfl,HGo.out,Xr,vr,HWr.out.weak HY1.out,HJr.out,HSe.out,HOr.out⟩
end Go.Proofs.YtijkemnhehbchaaGreatDoor
