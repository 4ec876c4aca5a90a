/- PaF: my texts, in their order. -/
import Derived.Test.YtijkemnhehbchaaGreatDoorPkRf
namespace Go.Proofs.YtijkemnhehbchaaGreatDoor
open Go.RowKit
set_option linter.unusedVariables false
set_option linter.unusedSimpArgs false
set_option maxRecDepth 100000
theorem gnew_f (w:World):Calls Tryz.prog 58 #[] w fun e w'=>∃ g a,e=.returned (.pointer (some ⟨g,0,none⟩))∧EyeAt w' g a∧Kept w w'∧w.heap.size≤g∧g<w'.heap.size:=by
 go_enter Tryz.func58,Tryz.ntmps58
 go_wp2_with fail
 refine (new_is _).mono ?_
 rintro e w1 ⟨⟨a,rfl⟩,k1⟩
 have HK:=Qh k1
 clear k1
 go_wp2_with (refine wpList_built rfl 99 _ rfl #[.pointer (some a)] (bt_gen a) ?_)
 go_ret
 exact ⟨w1.heap.size,a,rfl,cell_box (heap_alloc_new w1 _),HK.out.alloc _,HK.out.size,by simp⟩
theorem rnew_f (w:World):Calls Tryz.prog 31 #[] w fun e w'=>∃ r g a b,e=.returned (.pointer (some ⟨r,0,none⟩))∧RuAt w' r g a b∧Kept w w'∧w.heap.size≤r∧r<w'.heap.size∧w.heap.size≤g∧g<w'.heap.size:=by
 go_enter Tryz.func31,Tryz.ntmps31
 go_wp2_with fail
 refine (gnew_f _).mono ?_
 rintro e w1 ⟨g,a,rfl,hE,k1,g1,g2⟩
 have HE:=Qh hE
 have HK1:=Qh k1
 have HG:=Qh (And.intro g1 g2)
 clear hE k1 g1 g2
 go_wp2_with fail
 refine (new_is _).mono ?_
 rintro e w2 ⟨⟨b,rfl⟩,k2⟩
 have HK2:=Qh (HK1.out.trans k2)
 have HE2:=Qh (HE.out.kept k2)
 have HK3:=Qh k2
 clear k2
 go_wp2_with (refine wpList_built rfl 87 _ rfl #[.pointer (some ⟨g,0,none⟩),.pointer (some b)] (bt_ru ⟨g,0,none⟩ b) ?_)
 go_ret
 refine ⟨w2.heap.size,g,a,b,rfl,⟨?_,?_,HE2.out.kept ((Kept.refl _).alloc _)⟩,HK2.out.alloc _,HK2.out.size,by simp,HG.out.1,?_⟩
 ·rw [cell_of_row _ _ 0 _ _ (0,0) (heap_alloc_new w2 _)];rfl
 ·rw [cell_of_row _ _ 1 _ _ (0,0) (heap_alloc_new w2 _)];rfl
 ·have:=HG.out.2;have:=HK3.out.size;simp;omega
structure UpAt (w:World) (gp gn:Nat) (p:Ps) (n:Nat):Prop where
 pos:PAt w gp p
 len:w.cell? ⟨gn,0,none⟩=some (.int .i64 n)
 tab:TabG w
theorem UpAt.kept {w w':World} {gp gn n:Nat} {p:Ps} (h:UpAt w gp gn p n) (k:Kept w w'):UpAt w' gp gn p n:=⟨h.pos.kept k,kept_cell k h.len,h.tab.kept k⟩
def upB (gp gn:Nat):Array Value:=#[.pointer (some ⟨gn,0,none⟩),.pointer (some ⟨gp,0,none⟩)]
theorem upto_is (p:Ps) (hB:Brd p.B) (n:Nat) (w:World) (hT:TabG w) :
  Calls Tryz.prog 19 #[.agg (pl p).toArray,.int .i64 n] w fun e w'=>∃ gp gn,e=.returned (.func (.func 41) #[] (upB gp gn))∧UpAt w' gp gn p n∧Kept w w'∧w.heap.size≤gp∧w.heap.size≤gn∧gp<w'.heap.size∧gn<w'.heap.size:=by
 have HP:=Qh (PAt.new w hB.1)
 have HK:=Qh (((Kept.refl w).alloc (.cells (pl p).toArray 26)).alloc (.cells #[.int .i64 n] 3))
 have HT:=Qh hT
 clear hB hT
 go_enter Tryz.func19,Tryz.ntmps19
 go_wp2
 go_ret
 refine ⟨w.heap.size,w.heap.size+1,rfl,⟨HP.out.kept ((Kept.refl _).alloc _),?_,HT.out.kept HK.out⟩,HK.out,Nat.le_refl _,by omega,by simp;omega,by simp⟩
 have h:=cell_box (heap_alloc_new (w.alloc (.cells (pl p).toArray 26)) (.cells #[.int .i64 n] 3))
 rwa [World.size_alloc] at h
theorem Told.tabMono {α:Type} {l:Nat} {ans:List α→α→Bool} {G:World→(Nat→Prop)→Value→α→Prop} {Tb Tb':World→Prop} {L:List α} {J:List α→(Nat→Prop)→World→Prop} {Jx:World→Prop}
  (h:Told l ans G Tb' L J Jx) (hT:∀ w,Tb' w→Tb w):Told l ans G Tb L J Jx:=⟨h.keep,fun A X w hj=>hT w (h.tab A X w hj),h.fin,h.tell⟩
def wkz:Array Value:=#[.pointer none,.int .i64 0,.nilFunc,.slice none 0 0]
theorem zeroWk:(Tryz.prog.info? 72).map (fun i=>(i.zero,i.size))=some (some (.agg wkz),4):=by kernel_rfl
theorem bt_wk (r:Nat) (N:Int) (l:Nat):Tryz.prog.built 72 [(0,.pointer (some ⟨r,0,none⟩)),(1,.int .i64 N),(2,.func (.yield l) #[] #[])]=some #[.pointer (some ⟨r,0,none⟩),.int .i64 N,.func (.yield l) #[] #[],.slice none 0 0]:=by kernel_rfl
theorem run_zero_wk (w:World):(zeroValue 72).run Tryz.prog w=.ok (.agg wkz) w:=(zero_of_info zeroWk).1 w
theorem sizeWk:(Tryz.prog.info? 72).map (·.size)=some 4:=by kernel_rfl
theorem wp_new_wk {o:Oper} {a:Act} {w:World} {K:Act→World→Prop} {Q:Exit→Act→World→Prop} (ho:o.op=.alloc 72)
  (h:K (a.put o.dst (.pointer (some ⟨w.heap.size,0,none⟩))) (w.alloc (.cells wkz 72))):o.wp Tryz.prog a w K Q:=by
 unfold Oper.wp execOp
 simp only [ho,Instr.alloc,Sem.run_bind,run_zero_wk,Result.andThen_ok,newVar,newRow,Value.cells]
 exact h
theorem take_build_wk {ops:Array Oper} {S:World→Prop} {op:Oper} {a:Act} (hw:Region.wanted op (yielded ops a.tmps)=true) (x0 x1 x2:Operand) (ho:op.op=.build 72 #[(0,x0),(1,x1),(2,x2)])
  (r l:Nat) (N:Nat) (h0:a.eval x0=.pointer (some ⟨r,0,none⟩)) (h1:a.eval x1=.int .i64 N) (h2:a.eval x2=.func (.yield l) #[] #[]):YieldsIf Tryz.prog ops S op (.agg (wkc r N (tvY l) (.slice none 0 0)).toArray) a :=
 .inl ⟨hw,fun w _=>by
  have hp:((#[(0,x0),(1,x1),(2,x2)]:Array (Nat × Operand)).map fun (i,x)=>(i,a.eval x)).toList=[(0,.pointer (some ⟨r,0,none⟩)),(1,.int .i64 N),(2,.func (.yield l) #[] #[])]:=by simp [h0,h1,h2]
  have hr:(Instr.build 72 ((#[(0,x0),(1,x1),(2,x2)]:Array (Nat × Operand)).map fun (i,x)=>(i,a.eval x))).run Tryz.prog w=.ok (.agg (wkc r N (tvY l) (.slice none 0 0)).toArray) w:=by
   exact run_build w 72 _ _ (by rw [hp];exact bt_wk r N l)
  unfold execOp
  simp only [ho,Sem.run_bind,hr,Result.andThen_ok,Sem.run_pure]⟩
theorem Wk.mk0 {w:World} {gw r g N:Nat} {tv:Value} (h:RAt w gw (wkc r N tv (.slice none 0 0)) 72) (hr:r≠gw) (hg:g≠gw) (r1:r<w.heap.size) (g1:g<w.heap.size) :
  Wk (fun k=>k=gw∨k=r∨k=g) (fun k=>k=r∨k=g) w gw r N tv (.slice none 0 0) []:=by
 refine ⟨h,OwnM.nil _ _,fun k hk=>by simp [Value.ownBlock] at hk,.inl rfl,fun hk=>?_,fun k hk=>.inr hk,fun k hk=>?_⟩
 ·rcases hk with e|e
  ·exact hr e.symm
  ·exact hg e.symm
 ·rcases hk with rfl|rfl|rfl
  ·exact lt_of_heap h.at_
  ·exact r1
  ·exact g1
theorem RuAt.row {w:World} {gw r g:Nat} {a b:Addr} (h:RuAt w r g a b) (hr:r≠gw) (hg:g≠gw) (c:Array Value):RuAt (w.setRow gw c) r g a b:=h.kb ((KB.refl w gw).row c) ⟨hr,hg⟩
theorem wkc_one (r N l:Nat):(wkc r N (tvY l) (.slice none 0 0)).toArray.all (·.oneCell')=true:=by simp [wkc,tvY,Value.oneCell']
theorem upL_cons (n:Nat) (p:Ps):upL n p=[]::onL n p []:=rfl
set_option maxHeartbeats 8000000 in
theorem upto1_is (ans:List (List Mv)→List Mv→Bool) (gp gn:Nat) (p:Ps) (hB:Brd p.B) (hr:pwI p=0) (n:Nat) (hn:n≤8) (W:World) (hU:UpAt W gp gn p n) :
  TellsAll 41 (upB gp gn) ans PathG (fun w=>UpAt w gp gn p n) (upL n p) W:=by
 intro l J Jx hTd hJ
 have HTd:=Qh hTd
 have HU:=Qh hU
 have HJ:=Qh hJ
 have hlen:=hU.len
 have HB:=Qh hB
 have HRt:=Qh hr
 clear hTd hU hJ hB hr
 unfold upB
 go_enter Tryz.func41,Tryz.ntmps41
 go_upto_region 1 with fail
 go_cut [4] from 4 (fun s4 wc=>∃ (gw r g:Nat) (a b:Addr) (X Y:Nat→Prop),s4=.pointer (some ⟨gw,0,none⟩)∧Wk X Y wc gw r n (tvY l) (.slice none 0 0) []∧RuAt wc r g a b∧Y r∧Y g∧J [] X wc)
 case first =>
  refine wp_region_held_drew (S:=Kept _) (by kernel_rfl) (Kept.refl _).drew (fun Qj=>?_)
  have HKV:=Qh Qj
  generalize W.drew=V at *
  refine rC 1 6 (.int .i64 n) rfl rfl (fun _ h=>kept_cell h hlen) Qj ?_
  simp only [pA,pN,sZ,sU]
  refine rT 2 7 (.func (.yield l) #[] #[]) rfl rfl Qj ?_
  simp only [pA,pN,sZ,sU]
  refine wpAnyH_ready (rs:=[0,4]) (by kernel_rfl) (by simp) ?_
  refine AllReadyH.cons rfl (fun K hK=>?_) (AllReadyH.cons rfl (fun K hK=>?_) AllReadyH.nil)
  ·go_simp
   refine (rnew_f _).mono ?_
   rintro e x1 ⟨r,g,a,b,rfl,hR,k1,r1,r2,g1,g2⟩
   have HR:=Qh hR
   have HBd:=Qh (And.intro (And.intro r1 r2) (And.intro g1 g2))
   refine hK.out _ _ (Qj.trans k1) (fun _=>?_)
   replace Qj:=Qj.trans k1
   clear hK K hR k1 r1 r2 g1 g2
   refine rY 3 8 rfl rfl (take_build_wk (by rfl) _ _ _ rfl r l n rfl rfl rfl) Qj ?_
   simp only [pA,pN,sZ,sU]
   refine rR 4 rfl (fun K hK=>?_)
   rw [if_pos (by rfl)]
   refine wp_new_wk rfl ?_
   refine hK.out _ _ (Qj.alloc _) (fun _=>?_)
   clear hK K
   simp only [List.getElem_toArray,List.getElem_cons_succ,List.getElem_cons_zero,Act.put,sA,sZ,sU]
   have hgw:(x1.alloc (.cells wkz 72)).heap[x1.heap.size]?=some (.cells wkz 72 (0,0)):=heap_alloc_new x1 _
   have HGw:=Qh hgw
   have HR2:=Qh (HR.out.kept ((Kept.refl x1).alloc (.cells wkz 72)))
   have HK2:=Qh (Qj.alloc (.cells wkz 72))
   have HZ:=Qh (show (x1.alloc (.cells wkz 72)).heap.size=x1.heap.size+1 by simp)
   have HWx:=Qh (HKV.out.size)
   clear hgw
   generalize x1.alloc (.cells wkz 72)=x2 at *
   generalize hgx:x1.heap.size=gw at *
   refine rR 5 rfl (fun K hK=>?_)
   rw [if_pos (by rfl)]
   refine wp_store_row 72 _ _ rfl gw (wkc r n (tvY l) (.slice none 0 0)).toArray rfl rfl 72 _ HGw.out sizeWk rfl (wkc_one r n l) ?_
   have hWg:W.heap.size≤gw:=by have:=Qj.size;omega
   have HKx:=Qh (HK2.out.setRow hWg (wkc r n (tvY l) (.slice none 0 0)).toArray)
   refine hK.out _ _ HKx.out (fun _=>?_)
   clear hK K
   have HRx:=Qh (HR2.out.row (gw:=gw) (by have:=HBd.out;omega) (by have:=HBd.out;omega) (wkc r n (tvY l) (.slice none 0 0)).toArray)
   have HWk:=Qh (Wk.mk0 (r:=r) (g:=g) (N:=n) (tv:=tvY l) (w:=x2.setRow gw (wkc r n (tvY l) (.slice none 0 0)).toArray) (gw:=gw) ⟨setRow_heap _ _ _ _ _ _ HGw.out⟩ (by have:=HBd.out;omega) (by have:=HBd.out;omega) (by have:=HBd.out;have:=HZ.out;simp;omega) (by have:=HBd.out;have:=HZ.out;simp;omega))
   have HJx:=Qh (HTd.out.keep [] _ _ W _ HJ.out (Sm.of_kept _ HKx.out) (fun k hk=>.inr (by have:=HBd.out;have:=HWx.out;rcases hk with rfl|rfl|rfl <;> omega)) HWk.out.low)
   generalize x2.setRow gw (wkc r n (tvY l) (.slice none 0 0)).toArray=x3 at *
   simp only [List.getElem_toArray,List.getElem_cons_succ,List.getElem_cons_zero,Act.put,sA,sZ,sU]
   refine wpAnyH_done (by kernel_rfl) ?_ _
   go_wp2
   go_meet
   case rel=>exact ⟨gw,r,g,a,b,_,_,rfl,HWk.out,HRx.out,.inl rfl,.inr rfl,HJx.out⟩
  ·rw [if_pos (by rfl)]
   refine wp_new_wk rfl ?_
   refine hK.out _ _ (Qj.alloc _) (fun _=>?_)
   clear hK K
   simp only [List.getElem_toArray,List.getElem_cons_succ,List.getElem_cons_zero,Act.put,sA,sZ,sU]
   have HGw:=Qh (show (V.alloc (.cells wkz 72)).heap[V.heap.size]?=some (.cells wkz 72 (0,0)) from heap_alloc_new V _)
   have HK2:=Qh (Qj.alloc (.cells wkz 72))
   have HZ:=Qh (show (V.alloc (.cells wkz 72)).heap.size=V.heap.size+1 by simp)
   have HWx:=Qh (HKV.out.size)
   replace Qj:=Qj.alloc (.cells wkz 72)
   generalize V.alloc (.cells wkz 72)=x1 at *
   generalize hgx:V.heap.size=gw at *
   refine rR 0 rfl (fun K hK=>?_)
   go_simp
   refine (rnew_f _).mono ?_
   rintro e x2 ⟨r,g,a,b,rfl,hR,k1,r1,r2,g1,g2⟩
   have HR:=Qh hR
   have HBd:=Qh (And.intro (And.intro r1 r2) (And.intro g1 g2))
   have HG2:=Qh (k1.heap HGw.out)
   refine hK.out _ _ (Qj.trans k1) (fun _=>?_)
   replace Qj:=Qj.trans k1
   clear hK K hR k1 r1 r2 g1 g2
   refine rY 3 8 rfl rfl (take_build_wk (by rfl) _ _ _ rfl r l n rfl rfl rfl) Qj ?_
   simp only [Act.put,sA,sZ,sU]
   refine rR 5 rfl (fun K hK=>?_)
   rw [if_pos (by rfl)]
   refine wp_store_row 72 _ _ rfl gw (wkc r n (tvY l) (.slice none 0 0)).toArray rfl rfl 72 _ HG2.out sizeWk rfl (wkc_one r n l) ?_
   have hWg:W.heap.size≤gw:=by have:=HWx.out;omega
   have HKx:=Qh (Qj.setRow hWg (wkc r n (tvY l) (.slice none 0 0)).toArray)
   refine hK.out _ _ HKx.out (fun _=>?_)
   clear hK K
   have HRx:=Qh (HR.out.row (gw:=gw) (by have:=HBd.out;have:=HZ.out;omega) (by have:=HBd.out;have:=HZ.out;omega) (wkc r n (tvY l) (.slice none 0 0)).toArray)
   have HWk:=Qh (Wk.mk0 (r:=r) (g:=g) (N:=n) (tv:=tvY l) (w:=x2.setRow gw (wkc r n (tvY l) (.slice none 0 0)).toArray) (gw:=gw) ⟨setRow_heap _ _ _ _ _ _ HG2.out⟩ (by have:=HBd.out;have:=HZ.out;omega) (by have:=HBd.out;have:=HZ.out;omega) (by have:=HBd.out;simp;omega) (by have:=HBd.out;simp;omega))
   have HJx:=Qh (HTd.out.keep [] _ _ W _ HJ.out (Sm.of_kept _ HKx.out) (fun k hk=>.inr (by have:=HBd.out;have:=HZ.out;have:=HWx.out;rcases hk with rfl|rfl|rfl <;> omega)) HWk.out.low)
   generalize x2.setRow gw (wkc r n (tvY l) (.slice none 0 0)).toArray=x3 at *
   simp only [List.getElem_toArray,List.getElem_cons_succ,List.getElem_cons_zero,Act.put,sA,sZ,sU]
   refine wpAnyH_done (by kernel_rfl) ?_ _
   go_wp2
   go_meet
   case rel=>exact ⟨gw,r,g,a,b,_,_,rfl,HWk.out,HRx.out,.inl rfl,.inr rfl,HJx.out⟩
 case rest =>
  obtain ⟨gw,r,g,a,b,X,Y,rfl,hW,hR,hYr,hYg,hJ⟩:=hcut
  rename_i K0 hK0
  refine hK0 _ _ (wp_seq ?_)
  clear hK0 K0 hlen
  have HW:=Qh hW
  have HR:=Qh hR
  have HYr:=Qh hYr
  have HYg:=Qh hYg
  have HJ1:=Qh hJ
  have HP1:=Qh (show []++[[]] <+: upL n p from ⟨onL n p [],rfl⟩)
  have HTl:=Qh (HTd.out.tell [] X [] (.slice none 0 0) wc HJ1.out HW.out.path HP1.out)
  have y3:=HW.out.c3
  clear hW hR hYr hYg hJ
  refine wpIn_wide.1 (wpIn_region (n:=1) ?_)
  show wpOpsIn _ _ _ _ _ [0,1,2,3,4,5,6,7] _ _
  refine oI 0 _ 9 (.func (.yield l) #[] #[]) rfl rfl ?_
  simp only [List.getElem_toArray,List.getElem_cons_succ,List.getElem_cons_zero,Act.put,sA,sZ,sU]
  refine oI 1 _ 10 (.pointer (some ⟨gw,3,none⟩)) rfl rfl ?_
  simp only [List.getElem_toArray,List.getElem_cons_succ,List.getElem_cons_zero,Act.put,sA,sZ,sU]
  refine oI 2 _ 11 (.slice none 0 0) rfl rfl ?_
  simp only [List.getElem_toArray,List.getElem_cons_succ,List.getElem_cons_zero,Act.put,sA,sZ,sU]
  refine oY 3 _ (.tmp 9) (.tmp 11) _ rfl rfl rfl rfl HTl.out (fun e U he=>?_)
  clear y3 HTl
  rcases he with ⟨rfl,ha,hs,hj⟩|⟨rfl,ha,hs,hx⟩
  ·refine ⟨_,rfl,?_⟩
   simp only [List.getElem_toArray,List.getElem_cons_succ,List.getElem_cons_zero,Act.put,sA,sZ,sU]
   have HA:=Qh ha
   have HWu:=Qh (HW.out.sm hs)
   have HRu:=Qh (HR.out.sm hs (HW.out.sub _ HYr.out) (HW.out.sub _ HYg.out))
   have HJu:=Qh hj
   have HUu:=Qh (HTd.out.tab _ _ _ hj)
   have y1:=HUu.out.len
   clear ha hs hj
   refine oI 4 _ 13 (.bool true) rfl rfl ?_
   simp only [List.getElem_toArray,List.getElem_cons_succ,List.getElem_cons_zero,Act.put,sA,sZ,sU]
   refine oI 5 _ 14 (.int .i64 n) rfl rfl ?_
   simp only [List.getElem_toArray,List.getElem_cons_succ,List.getElem_cons_zero,Act.put,sA,sZ,sU]
   by_cases hn0:0<n
   ·have hn0':(0:Int)<(n:Int):=by omega
    refine oI 6 _ 15 (.bool true) rfl rfl ?_
    simp only [List.getElem_toArray,List.getElem_cons_succ,List.getElem_cons_zero,Act.put,sA,sZ,sU]
    refine oI 7 _ 16 (.bool true) rfl rfl ?_
    simp only [List.getElem_toArray,List.getElem_cons_succ,List.getElem_cons_zero,Act.put,sA,sZ,sU]
    show Exit.then _ _ .normal _ _
    obtain ⟨n',rfl⟩:∃ n',n=n'+1:=⟨n-1,by omega⟩
    have HOn:=Qh (on_is (HTd.out.tabMono (Tb:=TabG) fun w h=>h.tab) gw r g a b (n'+1) hn n' p [] [[]] X Y (.slice none 0 0) U HB.out HRt.out (by simp) HWu.out HRu.out HYr.out HYg.out HJu.out ⟨[],by simp [upL]⟩)
    have HPu:=Qh HUu.out.pos
    clear y1 hn0 hn0' hn
    go_wp2_with (refine wpList_load_ps (by rfl) _ rfl _ rfl _ HPu.out ?_)
    refine HOn.out.mono ?_
    rintro e U2 (⟨rfl,hg,X',v',hw,hj,hs,ho⟩|⟨rfl,hg,hx,hs,hc⟩)
    ·have HG:=Qh (show goesAll ans [] (upL (n'+1) p)=true by rw [upL_cons,goesAll,HA.out,Bool.true_and];exact hg)
     have HJf:=Qh hj
     clear hg hw hj hs ho
     go_wp2
     refine bodyPost_end (v:=.tuple #[]) (by first|rfl|simp [results,Tryz.f41,go_sem]) rfl ?_
     exact ⟨⟨_,rfl⟩,.inl ⟨HG.out,X',HJf.out⟩⟩
    ·have HG:=Qh (show goesAll ans [] (upL (n'+1) p)=false by rw [upL_cons,goesAll,HA.out,Bool.true_and];exact hg)
     have HX:=Qh hx
     clear hg hx hs hc
     go_wp2
     refine bodyPost_end (v:=.tuple #[]) (by first|rfl|simp [results,Tryz.f41,go_sem]) rfl ?_
     exact ⟨⟨_,rfl⟩,.inr ⟨HG.out,HX.out⟩⟩
   ·obtain rfl:n=0:=by omega
    refine oI 6 _ 15 (.bool false) rfl rfl ?_
    simp only [List.getElem_toArray,List.getElem_cons_succ,List.getElem_cons_zero,Act.put,sA,sZ,sU]
    refine oI 7 _ 16 (.bool false) rfl rfl ?_
    simp only [List.getElem_toArray,List.getElem_cons_succ,List.getElem_cons_zero,Act.put,sA,sZ,sU]
    show Exit.then _ _ .normal _ _
    have HG:=Qh (show goesAll ans [] (upL 0 p)=true by rw [upL_cons,goesAll,HA.out];rfl)
    clear y1
    go_wp2
    refine bodyPost_end (v:=.tuple #[]) (by first|rfl|simp [results,Tryz.f41,go_sem]) rfl ?_
    exact ⟨⟨_,rfl⟩,.inl ⟨HG.out,X,HJu.out⟩⟩
  ·refine ⟨_,rfl,?_⟩
   simp only [List.getElem_toArray,List.getElem_cons_succ,List.getElem_cons_zero,Act.put,sA,sZ,sU]
   have HG:=Qh (show goesAll ans [] (upL n p)=false by rw [upL_cons,goesAll,ha];rfl)
   have HX:=Qh hx
   clear ha hs hx
   refine oI 4 _ 13 (.bool false) rfl rfl ?_
   simp only [List.getElem_toArray,List.getElem_cons_succ,List.getElem_cons_zero,Act.put,sA,sZ,sU]
   refine oN 5 _ 14 rfl rfl ?_
   simp only [List.getElem_toArray,List.getElem_cons_succ,List.getElem_cons_zero,Act.put,sA,sZ,sU]
   refine oN 6 _ 15 rfl rfl ?_
   simp only [List.getElem_toArray,List.getElem_cons_succ,List.getElem_cons_zero,Act.put,sA,sZ,sU]
   refine oI 7 _ 16 (.bool false) rfl rfl ?_
   simp only [List.getElem_toArray,List.getElem_cons_succ,List.getElem_cons_zero,Act.put,sA,sZ,sU]
   show Exit.then _ _ .normal _ _
   go_wp2
   refine bodyPost_end (v:=.tuple #[]) (by first|rfl|simp [results,Tryz.f41,go_sem]) rfl ?_
   exact ⟨⟨_,rfl⟩,.inr ⟨HG.out,HX.out⟩⟩
end Go.Proofs.YtijkemnhehbchaaGreatDoor
