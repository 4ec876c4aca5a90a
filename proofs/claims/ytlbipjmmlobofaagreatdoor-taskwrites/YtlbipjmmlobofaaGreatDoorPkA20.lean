/- TsO · TsP · TsQ · SiT: my texts, in their order. -/
import Derived.Test.YtlbipjmmlobofaaGreatDoorPkA04
import Derived.Test.YtlbipjmmlobofaaGreatDoorPkA13
import Derived.Test.YtlbipjmmlobofaaGreatDoorPkA19
namespace Go.Proofs.YtlbipjmmlobofaaGreatDoor
open Go.RowKit
set_option linter.unusedVariables false
set_option linter.unusedSimpArgs false
set_option maxRecDepth 100000
set_option maxHeartbeats 16000000

theorem KAt.neQ {w:World} {b g:Nat} {K:Tk} {x:Stp} (hK:KAt w g K) (h:TAt w b x):b≠g:=by
 rintro rfl
 have e:=h.at_
 rw [hK.at_] at e
 have e2:=congrArg (fun o:Option Obj=>match o with|some (.cells _ t _)=>t|_=>0) e
 have e3:(30:Nat)=28:=e2
 exact absurd e3 (by decide)
theorem TAt.otherB {w w':World} {g b:Nat} {x:Stp} (h:TAt w g x) (k:KeptB b w w') (hn:g≠b):TAt w' g x:=⟨k.heap hn h.at_⟩
theorem fed_up2 {α:Type} {t:ByteArray} {j:Nat} (hj:j≤t.size) {p:Par α} (d:α) (hg:Gd p) {x:Sp} (h1:x.a=((j+(p ((bs t).drop j)).n:Nat):Int)) (h2:x.e=(p ((bs t).drop j)).e) :
  (fedP t x).a=((j+(fdz p d ((bs t).drop j)).n:Nat):Int)∧(fedP t x).e=(fdz p d ((bs t).drop j)).e∧((fdz p d ((bs t).drop j)).e=0→(fdz p d ((bs t).drop j)).v=(p ((bs t).drop j)).v):=by
 unfold fdz fedP
 by_cases he:(p ((bs t).drop j)).e=0
 ·rw [if_neg (by rw [h2];exact fun c=>c he),andz_ok he]
  have hn:j+(p ((bs t).drop j)).n≤t.size:=by have:=hg.le ((bs t).drop j);have:=rest_len hj;omega
  have hw:=word_up hn lfT
  rw [← List.drop_drop] at hw
  rw [h1,hw]
  have hb:bs lfT=[10]:=rfl
  rw [hb]
  by_cases hz:(wdz [10] (((bs t).drop j).drop (p ((bs t).drop j)).n)).e=0
  ·rw [andz_ok hz]
   refine ⟨?_,?_,fun _=>rfl⟩
   ·simp [upz,rtz,Nat.add_assoc]
   ·exact hz
  ·rw [andz_no hz]
   refine ⟨?_,?_,fun c=>absurd c hz⟩
   ·simp [upz,Nat.add_assoc]
   ·rfl
 ·rw [if_pos (by rw [h2];exact he),andz_no he]
  exact ⟨h1,h2,fun c=>absurd c he⟩
def amT:ByteArray:=⟨#[115,116,105,112,32]⟩
def StR (g:Nat) (K:Tk) (j:Nat) (r:Pz Stp) (w w':World) (x:Sp):Prop :=
 x.a=((j+r.n:Nat):Int)∧x.e=r.e∧(∃ K',KAt w' g K'∧(r.e=0→K'={ K with s:=r.v,tu:=begI r.v }))∧KeptB g w w'
theorem stipulation_is (g:Nat) (t:ByteArray) (j:Nat) (ht:t.size≤1000) (hj:j≤t.size) (K:Tk) (w:World) (hK:KAt w g K) (hT:TabS w) :
  Calls Tryz.prog 36 #[.pointer (some ⟨g,0,none⟩),.string t,.int .i64 j] w fun e w'=>∃ x,e=.returned (sv x)∧StR g K j (agz ((bs t).drop j)) w w' x:=by
 have HGL:=Qh (lt_of_heap hK.at_)
 have HS:=Qh (SAt.new w Zs)
 have HKA:=Qh (hK.heap ((Kept.refl w).alloc (.cells (sl Zs).toArray 64)))
 have HKB:=Qh ((Kept.refl w).alloc (.cells (sl Zs).toArray 64))
 have HT:=Qh hT
 have HW:=Qh (fun w=>word_is t amT (j:Int) ht (by decide) w)
 have hw:=word_up hj amT
 have ham:bs amT=aimL:=rfl
 rw [ham] at hw
 have hag:agz ((bs t).drop j)=andz (wdz aimL) Zt (fun _=>fdz spz Zt) ((bs t).drop j):=rfl
 generalize wordP t amT (j:Int)=o at *
 clear hK hT ham
 by_cases hq:(wdz aimL ((bs t).drop j)).e=0
 ·have hag2:agz ((bs t).drop j)=⟨(wdz aimL ((bs t).drop j)).n+(fdz spz Zt ((bs t).drop (j+(wdz aimL ((bs t).drop j)).n))).n,(fdz spz Zt ((bs t).drop (j+(wdz aimL ((bs t).drop j)).n))).v,(fdz spz Zt ((bs t).drop (j+(wdz aimL ((bs t).drop j)).n))).e⟩:=by
   rw [hag,andz_ok hq,List.drop_drop]
  have hn4:j+(wdz aimL ((bs t).drop j)).n≤t.size:=by
   have h1:=(wdz_gd aimL).le ((bs t).drop j)
   have:=rest_len hj
   omega
  have hoe:o.e=0:=by rw [hw];exact hq
  have hoa:o.a=((j+(wdz aimL ((bs t).drop j)).n:Nat):Int):=by rw [hw];rfl
  generalize (wdz aimL ((bs t).drop j)).n=qn at *
  have HRd:=Qh (fun w hT=>sread_is t ((j+qn:Nat):Int) ht w hT)
  have hup:=stip_up hn4
  have hfu:=fed_up2 hn4 Zt spz_gd (x:=(rdP t ((j+qn:Nat):Int)).2) (by rw [hup]) (by rw [hup])
  have hsv:(rdP t ((j+qn:Nat):Int)).1=(spz ((bs t).drop (j+qn))).v:=by rw [hup]
  rw [← hsv] at hfu
  have HFd:=Qh (fun w=>fed_is t (rdP t ((j+qn:Nat):Int)).2 ht w)
  generalize rdP t ((j+qn:Nat):Int)=rd at *
  obtain ⟨s,sp⟩:=rd
  dsimp only at HRd hfu HFd
  generalize fedP t sp=y at *
  have HFU:=Qh hfu
  have HAG:=Qh hag2
  clear hag hag2 hw hq hup hsv hfu hn4
  generalize hqa:j+qn=jq at *
  have HQA:=Qh hqa
  clear hqa
  go_enter Tryz.func36,Tryz.ntmps36
  go_upto_region 1 with (with_reducible refine wpList_new_sp rfl rfl ?_)
  generalize w.alloc (.cells (sl Zs).toArray 64)=W at *
  go_wp2_with fail
  refine (HW.out _).mono ?_
  rintro e w3 ⟨rfl,k3⟩
  have A3:=Qh ((HKB.out.trans k3).alloc (.cells (sl o).toArray 64))
  have B3:=Qh (HKA.out.heap (k3.alloc (.cells (sl o).toArray 64)))
  have R3:=Qh (HS.out.kept (k3.alloc (.cells (sl o).toArray 64)))
  have X3:=Qh (SAt.new w3 o)
  have c3:=X3.out.err
  have ca3:=X3.out.place
  rw [hoe] at c3
  rw [hoa] at ca3
  clear k3 hoe hoa
  go_upto_region 2 with (first|(with_reducible refine wpList_new_sp rfl rfl ?_)|((with_reducible refine wpList_store_newsp rfl _ _ rfl Zs o ?_ ?_ ?_);exact rfl;exact rfl))
  generalize w3.alloc (.cells (sl o).toArray 64)=W3 at *
  generalize w3.heap.size=g9 at *
  go_wp2_with fail
  refine (HRd.out _ (HT.out.kept A3.out)).mono ?_
  rintro e w5 ⟨rfl,k5⟩
  dsimp only
  obtain ⟨hq,hs,hk⟩:=boxes_2 w5 s sp
  have HQ5:=Qh hq
  have HS5:=Qh hs
  have A5:=Qh (A3.out.trans (k5.trans hk))
  have B5:=Qh (B3.out.heap (k5.trans hk))
  have R5:=Qh (R3.out.kept (k5.trans hk))
  have HB1:=Qh (boxes_q w5)
  have HB2:=Qh (boxes_s w5 s)
  clear hq hs hk k5 c3 ca3
  go_upto_region 5 with (first|(with_reducible refine wpList_new_q rfl rfl ?_)|(with_reducible refine wpList_new_sp rfl rfl ?_)|((with_reducible refine wpList_store_q rfl _ _ rfl w5.heap.size Zt s HB1.out ?_ ?_ ?_);exact rfl;exact rfl)|(refine wpList_store_sp rfl _ _ rfl (w5.alloc (.cells (ql Zt).toArray 28)).heap.size Zs sp HB2.out rfl rfl ?_))
  generalize (((w5.alloc (.cells (ql Zt).toArray 28)).alloc (.cells (sl Zs).toArray 64)).setRow w5.heap.size (ql s).toArray).setRow (w5.alloc (.cells (ql Zt).toArray 28)).heap.size (sl sp).toArray=W5 at *
  generalize (w5.alloc (.cells (ql Zt).toArray 28)).heap.size=gs at *
  generalize w5.heap.size=gq at *
  clear HB1 HB2
  have hth:=Qh (show W5.there g 67 (ql s).toArray.size from B5.out.thereAt 67 4 (by omega))
  have B6:=Qh (B5.out.setStip s)
  have KB6:=Qh (KeptB.setCells (ql s).toArray.toList W5 67 (KeptB.refl g W5))
  have HQ6:=Qh (HQ5.out.otherB KB6.out (B5.out.neQ HQ5.out))
  have HS6:=Qh (HS5.out.otherB KB6.out (B5.out.neS HS5.out))
  have R6:=Qh (R5.out.otherB KB6.out (by have:=HGL.out;omega))
  have A6:=Qh ((KeptB.of (g:=g) A5.out).trans KB6.out)
  go_upto_region 6 with (first|((with_reducible refine wpList_load_q rfl _ rfl gq 0 ?_ s HQ5.out.range ?_);exact rfl)|(refine wpList_store_mid rfl 28 _ _ rfl g 67 (ql s).toArray rfl rfl hth.out (ql_sz s) (ql_one s) ?_))
  generalize W5.setCells g 67 (ql s).toArray.toList=W6 at *
  go_wp2_with ((with_reducible refine wpList_load_q rfl _ rfl gq 0 ?_ s HQ6.out.range ?_);exact rfl)
  refine (begins_q s _).mono ?_
  rintro e w7 ⟨rfl,k7⟩
  have B7:=Qh (B6.out.heap k7)
  have f7:=B7.out.frozen 64
  have c7:=B7.out.cell 0 rfl
  have B8:=Qh (B7.out.set (K':={ K with s:=s,tu:=begI s }) 0 (.int .i64 (begI s)) rfl rfl)
  have KB8:=Qh ((KeptB.refl g w7).setCell 64 (.int .i64 (begI s)))
  have HS8:=Qh ((HS6.out.kept k7).otherB KB8.out (B7.out.neS (HS6.out.kept k7)))
  have R8:=Qh ((R6.out.kept k7).otherB KB8.out (by have:=HGL.out;omega))
  have A8:=Qh ((A6.out.trans (KeptB.of k7)).trans KB8.out)
  clear k7
  go_upto_region 7 with fail
  generalize w7.setCell ⟨g,64,none⟩ (.int .i64 (begI s))=W8 at *
  go_wp2_with ((with_reducible refine wpList_load_sp rfl _ rfl gs 0 ?_ sp HS8.out.range ?_);exact rfl)
  refine (HFd.out _).mono ?_
  rintro e w9 ⟨rfl,k9⟩
  have B9:=Qh (B8.out.heap k9)
  have R9:=Qh (R8.out.kept k9)
  have A9:=Qh (A8.out.trans (KeptB.of k9))
  clear k9
  go_wp2_with ((with_reducible refine wpList_store_sp rfl _ _ rfl w.heap.size Zs y R9.out ?_ ?_ ?_);exact rfl;exact rfl)
  obtain ⟨f1,f2,f3⟩:=HFU.out
  refine bodyPost_ret (v:=sv y) ?_ rfl ⟨_,rfl,by rw [HAG.out,f1];have:=HQA.out;dsimp only;omega,by rw [HAG.out];exact f2,⟨_,B9.out.other ((KeptB.refl w.heap.size _).row _) (by have:=HGL.out;omega),fun c=>by rw [HAG.out] at c ⊢;dsimp only at c ⊢;rw [f3 c]⟩,A9.out.rowNew (Nat.le_refl _) _⟩
  exact (ret_sp rfl R9.out rfl).trans rfl
 ·have hRes:Hid (agz ((bs t).drop j)=⟨(wdz aimL ((bs t).drop j)).n,Zt,(wdz aimL ((bs t).drop j)).e⟩):=Qh (by rw [hag,andz_no hq])
  have hoe:(o.e != 0)=true:=by rw [hw];exact bne_iff_ne.2 hq
  have hoa:Hid (o.a=((j+(wdz aimL ((bs t).drop j)).n:Nat):Int)∧o.e=(wdz aimL ((bs t).drop j)).e):=Qh (by rw [hw];exact ⟨rfl,rfl⟩)
  clear hag hw
  go_enter Tryz.func36,Tryz.ntmps36
  go_upto_region 1 with (with_reducible refine wpList_new_sp rfl rfl ?_)
  generalize w.alloc (.cells (sl Zs).toArray 64)=W at *
  go_wp2_with fail
  refine (HW.out _).mono ?_
  rintro e w3 ⟨rfl,k3⟩
  have A3:=Qh ((HKB.out.trans k3).alloc (.cells (sl o).toArray 64))
  have B3:=Qh (HKA.out.heap (k3.alloc (.cells (sl o).toArray 64)))
  have R3:=Qh (HS.out.kept (k3.alloc (.cells (sl o).toArray 64)))
  have X3:=Qh (SAt.new w3 o)
  have c3:=X3.out.err
  clear k3
  go_upto_region 2 with (first|(with_reducible refine wpList_new_sp rfl rfl ?_)|((with_reducible refine wpList_store_newsp rfl _ _ rfl Zs o ?_ ?_ ?_);exact rfl;exact rfl))
  generalize w3.alloc (.cells (sl o).toArray 64)=W3 at *
  generalize w3.heap.size=g9 at *
  go_wp2_with (first|((with_reducible refine wpList_load_sp rfl _ rfl g9 0 ?_ o X3.out.range ?_);exact rfl)|((with_reducible refine wpList_store_sp rfl _ _ rfl w.heap.size Zs o R3.out ?_ ?_ ?_);exact rfl;exact rfl))
  refine bodyPost_ret (v:=sv o) ?_ rfl ⟨_,rfl,by rw [hRes.out];exact hoa.out.1,by rw [hRes.out];exact hoa.out.2,⟨K,B3.out.other ((KeptB.refl w.heap.size _).row _) (by have:=HGL.out;omega),fun c=>by rw [hRes.out] at c;exact absurd c hq⟩,(KeptB.of A3.out).rowNew (Nat.le_refl _) _⟩
  exact (ret_sp rfl R3.out rfl).trans rfl
set_option maxHeartbeats 4000000

def kcl (K:Tk):List Value:=cl K.B++ktl K
def kv (K:Tk):Value:=.agg (kcl K).toArray
def Z75:Tk:=⟨Zb,0,0,0,Zt,false,false,0,0⟩
def K75:Tk:=⟨Zb,0,0,-1,Zt,false,false,0,-1⟩
theorem kcl_len {K:Tk} (h:K.B.length=64):(kcl K).length=75:=by unfold kcl;rw [List.length_append,cl_length,h];rfl
theorem kcl_size {K:Tk} (h:K.B.length=64):(kcl K).toArray.size=75:=by simpa using kcl_len h
theorem sizeK:(Tryz.prog.info? 30).map (·.size)=some 75:=by kernel_rfl
theorem size_kcl {K:Tk} (h:K.B.length=64):(Tryz.prog.info? 30).map (·.size)=some (kcl K).toArray.size:=by rw [sizeK,kcl_size h]
theorem kcl_one (K:Tk):(kcl K).toArray.all (·.oneCell')=true:=by
 rw [Array.all_eq_true_iff_forall_mem]
 intro v hv
 simp only [List.mem_toArray,kcl,List.mem_append] at hv
 rcases hv with hv|hv
 ·have:=cl_one K.B
  rw [Array.all_eq_true_iff_forall_mem] at this
  exact this v (by simpa using hv)
 ·simp only [ktl,List.mem_cons,List.not_mem_nil,or_false] at hv
  rcases hv with rfl|rfl|rfl|rfl|rfl|rfl|rfl|rfl|rfl|rfl|rfl <;> rfl
theorem Z75_len:Z75.B.length=64:=Zb_brd.1
theorem K75_len:K75.B.length=64:=Zb_brd.1
theorem zeroK:(Tryz.prog.info? 30).map (fun i=>(i.zero,i.size))=some (some (.agg (kcl Z75).toArray),75):=by kernel_rfl
theorem run_zero_k (w:World):(zeroValue 30).run Tryz.prog w=.ok (.agg (kcl Z75).toArray) w:=(zero_of_info zeroK).1 w
theorem KAt.new (w:World) {K:Tk} (h:K.B.length=64):KAt (w.alloc (.cells (kcl K).toArray 30)) w.heap.size K:=⟨h,heap_alloc_new w _⟩
def pcl (K:Tk):List Value:=cl K.B++[.int .i64 K.tu,.int .i64 K.ca,.int .i64 K.ep]
theorem bt_pos_ep:Tryz.prog.built 26 [(3,.int .i64 (-1))]=some (pcl K75).toArray:=by kernel_rfl
theorem bt_task:Tryz.prog.built 30 [(0,.agg (pcl K75).toArray),(5,.int .i64 (-1))]=some (kcl K75).toArray:=by kernel_rfl
theorem bt_k0:Tryz.prog.built 30 []=some (kcl Z75).toArray:=by kernel_rfl
section
variable {ops:Array Oper} {rest:List Oper} {o:Oper} {a:Act} {w:World} {Q:Exit→Act→World→Prop}
theorem wpList_new_k (hgd:o.guard=none) (ho:o.op=.alloc 30)
  (h:wpList Tryz.prog ops Q rest (a.put o.dst (.pointer (some ⟨w.heap.size,0,none⟩))) (w.alloc (.cells (kcl Z75).toArray 30))):wpList Tryz.prog ops Q (o::rest) a w:=by
 refine wpList_plain hgd fun _ hK=>?_
 unfold Oper.wp execOp
 simp only [ho,Instr.alloc,Sem.run_bind,run_zero_k,Result.andThen_ok,newVar,newRow,Value.cells]
 exact hK _ _ h
theorem wpList_bt_pos (hg:o.guard=none) (ho:o.op=.build 26 #[(3,.const (.int .i64 (-1)))])
  (h:wpList Tryz.prog ops Q rest (a.put o.dst (.agg (pcl K75).toArray)) w):wpList Tryz.prog ops Q (o::rest) a w :=
 wpList_built hg _ _ ho _ (by
  have:((#[(3,Operand.const (.int .i64 (-1)))]:Array (Nat × Operand)).map fun (i,x)=>(i,a.eval x)).toList=[(3,.int .i64 (-1))]:=by simp [Act.eval]
  rw [this];exact bt_pos_ep) h
theorem wpList_bt_task (hg:o.guard=none) (x0:Operand) (ho:o.op=.build 30 #[(0,x0),(5,.const (.int .i64 (-1)))]) (h0:a.eval x0=.agg (pcl K75).toArray)
  (h:wpList Tryz.prog ops Q rest (a.put o.dst (kv K75)) w):wpList Tryz.prog ops Q (o::rest) a w :=
 wpList_built hg _ _ ho _ (by
  have:((#[(0,x0),(5,Operand.const (.int .i64 (-1)))]:Array (Nat × Operand)).map fun (i,x)=>(i,a.eval x)).toList=[(0,.agg (pcl K75).toArray),(5,.int .i64 (-1))]:=by
   have hc:a.eval (.const (.int .i64 (-1)))=.int .i64 (-1):=rfl
   simp [h0,hc]
  rw [this];exact bt_task) h
theorem wpList_store_newk (hgd:o.guard=none) (x y:Operand) (ho:o.op=.store 30 x y)
  (j k:Tk) (hj:j.B.length=64) (hk:k.B.length=64) (hx:a.eval x=.pointer (some ⟨w.heap.size,0,none⟩)) (hy:a.eval y=kv k)
  (h:wpList Tryz.prog ops Q rest (a.put o.dst undef) (w.alloc (.cells (kcl k).toArray 30))):wpList Tryz.prog ops Q (o::rest) a (w.alloc (.cells (kcl j).toArray 30)):=by
 refine wpList_store_row hgd 30 x y ho w.heap.size (kcl k).toArray hx hy 30 _ (heap_alloc_new w _) (size_kcl hk) (by rw [kcl_size hj,kcl_size hk]) (kcl_one _) ?_
 rw [World.setRow_alloc_new]
 exact h
theorem wpList_load_k (hw:Region.wanted o (yielded ops a.tmps)=true) (x:Operand) (ho:o.op=.load 30 x)
  (g:Nat) (hx:a.eval x=.pointer (some ⟨g,0,none⟩)) (K:Tk) (hg:KAt w g K)
  (h:wpList Tryz.prog ops Q rest (a.put o.dst (kv K)) w):wpList Tryz.prog ops Q (o::rest) a w :=
 wpList_step fun _ hK=>by
  rw [if_pos hw]
  exact wp_load_mid 30 x ho g 0 hx (kcl K) _ hg.range Tryz.underlying30 rfl (by rw [sizeK,kcl_len hg.len]) (hK _ _ h)
end
theorem take_bt_k0 {ops:Array Oper} {S:World→Prop} {op:Oper} {a:Act} (hw:Region.wanted op (yielded ops a.tmps)=true) (ho:op.op=.build 30 #[]):YieldsIf Tryz.prog ops S op (kv Z75) a :=
 .inl ⟨hw,fun w _=>by
  have hr:(Instr.build 30 ((#[]:Array (Nat × Operand)).map fun (i,x)=>(i,a.eval x))).run Tryz.prog w=.ok (kv Z75) w:=run_build w 30 _ _ ((congrArg _ (show ((#[]:Array (Nat × Operand)).map fun (i,x)=>(i,a.eval x)).toList=[] by simp)).trans bt_k0)
  unfold execOp
  simp only [ho,Sem.run_bind,hr,Result.andThen_ok,Sem.run_pure]⟩
theorem take_load_k {ops:Array Oper} {S:World→Prop} {op:Oper} {a:Act} (hw:Region.wanted op (yielded ops a.tmps)=true) (x:Operand) (ho:op.op=.load 30 x)
  (g:Nat) (hx:a.eval x=.pointer (some ⟨g,0,none⟩)) (K:Tk) (hl:K.B.length=64) (hS:∀ w,S w→w.rangeAt g 0 (kcl K)):YieldsIf Tryz.prog ops S op (kv K) a :=
 yieldsIf_load_mid hw 30 x ho g 0 hx (kcl K) _ hS Tryz.underlying30 rfl (by rw [sizeK,kcl_len hl])
theorem KAt.row {w:World} {g:Nat} {K:Tk} (h:KAt w g K) (K':Tk) (hl:K'.B.length=64):KAt (w.setRow g (kcl K').toArray) g K':=⟨hl,setRow_heap _ _ _ _ _ _ h.at_⟩
theorem KAt.rowOther {w:World} {g k:Nat} {K:Tk} (h:KAt w g K) (hk:g≠k) (c:Array Value):KAt (w.setRow k c) g K:=⟨h.len,(setRow_other w k g c hk).trans h.at_⟩
theorem results_task {fn:Func} {p t u:Tmp} (h:fn.results=#[.cell p 30,.tmp t,.tmp u]) (tmps:Array Value) (w:World) (g:Nat) (K:Tk)
  (hp:tmps.getD p undef=.pointer (some ⟨g,0,none⟩)) (hg:KAt w g K) :
  (results fn tmps).run Tryz.prog w=.ok (.tuple #[kv K,tmps.getD t undef,tmps.getD u undef]) w:=by
 have hp':tmps[p]?.getD undef=.pointer (some ⟨g,0,none⟩):=by simpa using hp
 have hl:(loadVar 30 ⟨g,0,none⟩).run Tryz.prog w=.ok (kv K) w:=run_loadVar_row w g _ _ (kcl K).toArray (0,0) _ hg.at_ Tryz.underlying30 rfl (size_kcl hg.len)
 simp [results,h,hp',asAddr,hl]
noncomputable def rpz (c:Nat) (K:Tk):Par Tk:=match c with
 | 0=>andz (dgz fsL rlL) Z0 fun B=>andz agz Z0 fun s=>coz 7 op7 (mkT B s)
 | 1=>andz agz Z0 fun s=>coz 7 op7 (mkT K.B s)
 | 2=>coz 7 op7 K
 | _=>rtz K
def okK75 (c:Nat) (K:Tk):Prop:=match c with
 | 0=>K=K75
 | 1=>∃ B,K={ K75 with B:=B }
 | _=>True
def StN (t:ByteArray) (c:Nat) (K:Tk) (x:Sp):Prop :=
 (x.e=0∧∃ p:Nat,x.a=p∧p≤t.size∧okK75 c K∧tkz fsL rlL (bs t)=⟨p+(rpz c K ((bs t).drop p)).n,(rpz c K ((bs t).drop p)).v,(rpz c K ((bs t).drop p)).e⟩) ∨
 (x.e≠0∧x.a=((tkz fsL rlL (bs t)).n:Nat)∧x.e=(tkz fsL rlL (bs t)).e)
theorem StN.skip {t:ByteArray} {c d:Nat} {K K':Tk} {x:Sp} (h:StN t c K x) (he:x.e≠0):StN t d K' x:=by
 rcases h with ⟨h,_⟩|h
 ·exact absurd h he
 ·exact .inr h
theorem step_go {α:Type} {t:ByteArray} {c:Nat} {K K':Tk} {x y:Sp} {p:Nat} {P:Par α} {q:α→Par Tk} (hg:Gd P) (hr:rpz c K=andz P Z0 q) (hp:p≤t.size)
  (ht:tkz fsL rlL (bs t)=⟨p+(rpz c K ((bs t).drop p)).n,(rpz c K ((bs t).drop p)).v,(rpz c K ((bs t).drop p)).e⟩) (ya:y.a=((p+(P ((bs t).drop p)).n:Nat):Int)) (ye:y.e=(P ((bs t).drop p)).e)
  (hk:(P ((bs t).drop p)).e=0→okK75 (c+1) K'∧rpz (c+1) K'=q (P ((bs t).drop p)).v):StN t (c+1) K' y:=by
 by_cases h:(P ((bs t).drop p)).e=0
 ·obtain ⟨h1,h2⟩:=hk h
  refine .inl ⟨by rw [ye,h],p+(P ((bs t).drop p)).n,ya,?_,h1,?_⟩
  ·have:=hg.le ((bs t).drop p)
   have:=rest_len hp
   omega
  ·rw [ht,hr,andz_ok h,h2,List.drop_drop,Nat.add_assoc]
 ·refine .inr ⟨by rw [ye];exact h,?_,?_⟩
  ·rw [ht,hr,andz_no h,ya]
  ·rw [ht,hr,andz_no h,ye]
theorem step_0 (g:Nat) (t:ByteArray) (ht:t.size≤1000) (K:Tk) (x:Sp) (w:World) (hK:KAt w g K) (h:StN t 0 K x) (he:x.e=0) :
  Calls Tryz.prog 35 #[.pointer (some ⟨g,0,none⟩),.string t,.int .i64 x.a] w fun e w'=>∃ y K',e=.returned (sv y)∧StN t 1 K' y∧KAt w' g K'∧KeptB g w w':=by
 rcases h with ⟨_,p,hp,hpt,hk,htk⟩|⟨h,_⟩
 ·rw [hp]
  refine (diagram_is g t p ht hpt K w hK).mono ?_
  rintro e w' ⟨y,rfl,y1,y2,⟨K',hK',h3⟩,kb⟩
  refine ⟨y,K',rfl,step_go (x:=x) (q:=fun B=>andz agz Z0 fun s=>coz 7 op7 (mkT B s)) (dgz_gd fsL rlL) rfl hpt htk y1 y2 (fun c=>?_),hK',kb⟩
  have hk:K=K75:=hk
  rw [h3 c,hk]
  exact ⟨⟨_,rfl⟩,rfl⟩
 ·exact absurd he h
theorem step_1 (g:Nat) (t:ByteArray) (ht:t.size≤1000) (K:Tk) (x:Sp) (w:World) (hT:TabS w) (hK:KAt w g K) (h:StN t 1 K x) (he:x.e=0) :
  Calls Tryz.prog 36 #[.pointer (some ⟨g,0,none⟩),.string t,.int .i64 x.a] w fun e w'=>∃ y K',e=.returned (sv y)∧StN t 2 K' y∧KAt w' g K'∧KeptB g w w':=by
 rcases h with ⟨_,p,hp,hpt,hk,htk⟩|⟨h,_⟩
 ·rw [hp]
  refine (stipulation_is g t p ht hpt K w hK hT).mono ?_
  rintro e w' ⟨y,rfl,y1,y2,⟨K',hK',h3⟩,kb⟩
  refine ⟨y,K',rfl,step_go (x:=x) (q:=fun s=>coz 7 op7 (mkT K.B s)) agz_gd rfl hpt htk y1 y2 (fun c=>?_),hK',kb⟩
  obtain ⟨B,hB⟩:=hk
  rw [h3 c,hB]
  exact ⟨trivial,rfl⟩
 ·exact absurd he h
theorem step_2 (g:Nat) (t:ByteArray) (ht:t.size≤1000) (K:Tk) (x:Sp) (w:World) (hK:KAt w g K) (h:StN t 2 K x) (he:x.e=0) :
  Calls Tryz.prog 37 #[.pointer (some ⟨g,0,none⟩),.string t,.int .i64 x.a] w fun e w'=>∃ y K',e=.returned (sv y)∧StN t 3 K' y∧KAt w' g K'∧KeptB g w w':=by
 rcases h with ⟨_,p,hp,hpt,hk,htk⟩|⟨h,_⟩
 ·rw [hp]
  refine (choices_is g t p ht hpt K w hK).mono ?_
  rintro e w' ⟨y,K',rfl,⟨y1,y2,h3⟩,hK',kb⟩
  refine ⟨y,K',rfl,?_,hK',kb⟩
  have hr:rpz 2 K=coz 7 op7 K:=rfl
  rw [hr] at htk
  by_cases hz:(coz 7 op7 K ((bs t).drop p)).e=0
  ·refine .inl ⟨by rw [y2,hz],p+(coz 7 op7 K ((bs t).drop p)).n,y1,?_,trivial,?_⟩
   ·have:=(coz_gd 7 op7 K op7_lt).le ((bs t).drop p)
    have:=rest_len hpt
    omega
   ·rw [htk,h3 hz,hz];rfl
  ·exact .inr ⟨by rw [y2];exact hz,by rw [htk,y1],by rw [htk,y2]⟩
 ·exact absurd he h
set_option maxHeartbeats 16000000

def bgT:ByteArray:=⟨#[98,101,103,105,110,10]⟩
def p3V:Value:=.agg #[.func (.func 35) #[] #[],.func (.func 36) #[] #[],.func (.func 37) #[] #[]]
theorem ix_0 (w:World):(Instr.index 68 p3V (.int .i64 0)).run Tryz.prog w=.ok (.func (.func 35) #[] #[]) w:=by kernel_rfl
theorem ix_1 (w:World):(Instr.index 68 p3V (.int .i64 1)).run Tryz.prog w=.ok (.func (.func 36) #[] #[]) w:=by kernel_rfl
theorem ix_2 (w:World):(Instr.index 68 p3V (.int .i64 2)).run Tryz.prog w=.ok (.func (.func 37) #[] #[]) w:=by kernel_rfl
structure RdM (w wr:World) (t:ByteArray) (b2 g b6:Nat) (c:Nat) (K:Tk) (x:Sp):Prop where
 kept:Kept w wr
 res:KAt wr b2 Z75
 ka:KAt wr g K
 sx:SAt wr b6 x
 st:StN t c K x
noncomputable def rdK (t:ByteArray):Tk:=if (rdz fsL rlL (bs t)).2=0 then (tkz fsL rlL (bs t)).v else Z75
def KRet (t:ByteArray) (w:World) (e:Ending) (w':World):Prop :=
 e=.returned (.tuple #[kv (rdK t),.int .i64 (rdz fsL rlL (bs t)).1,.int .i64 (rdz fsL rlL (bs t)).2])∧(rdK t).B.length=64∧Kept w w'
theorem taskread_is (t:ByteArray) (ht:t.size≤1000) (w:World) (hT:TabS w):Calls Tryz.prog 12 #[.string t] w (KRet t w):=by
 have hup:=word_up (t:=t) (i:=0) (Nat.zero_le _) bgT
 rw [show bs bgT=begL from rfl,List.drop_zero] at hup
 have HW:=Qh (fun w=>word_is t bgT 0 ht (by decide) w)
 have HT:=Qh hT
 have hst:StN t 0 K75 (wordP t bgT 0):=by
  have h0:((0:Nat):Int)=0:=rfl
  rw [h0] at hup
  have htk:tkz fsL rlL (bs t)=andz (wdz begL) Z0 (fun _=>rpz 0 K75) (bs t):=rfl
  rw [hup]
  by_cases he:(wdz begL (bs t)).e=0
  ·refine .inl ⟨he,(wdz begL (bs t)).n,?_,?_,rfl,?_⟩
   ·show ((0+(wdz begL (bs t)).n:Nat):Int)=_
    rw [Nat.zero_add]
   ·have:=(wdz_gd begL).le (bs t)
    rw [bs_len] at this;exact this
   ·rw [htk,andz_ok he]
  ·refine .inr ⟨he,?_,?_⟩
   ·rw [htk,andz_no he]
    show ((0+(wdz begL (bs t)).n:Nat):Int)=_
    rw [Nat.zero_add]
   ·rw [htk,andz_no he];rfl
 generalize wordP t bgT 0=o at *
 have HST:=Qh hst
 clear hst hup hT
 have H1:=Qh (KAt.new w Z75_len)
 have KK1:=Qh ((Kept.refl w).alloc (.cells (kcl Z75).toArray 30))
 go_enter Tryz.func12,Tryz.ntmps12
 go_upto_region 1 with (with_reducible refine wpList_new_k rfl rfl ?_)
 generalize w.alloc (.cells (kcl Z75).toArray 30)=W1 at *
 generalize hb2:w.heap.size=b2 at *
 have hb2':=Qh hb2
 clear hb2
 have H2:=Qh (KAt.new W1 K75_len)
 have R2:=Qh (H1.out.heap ((Kept.refl W1).alloc (.cells (kcl K75).toArray 30)))
 have KK2:=Qh (KK1.out.alloc (.cells (kcl K75).toArray 30))
 have hlt1:Hid (b2<W1.heap.size):=Qh (lt_of_heap H1.out.at_)
 go_upto_region 2 with (first|(refine wpList_bt_pos rfl rfl ?_)|(refine wpList_bt_task rfl _ rfl rfl ?_)|(with_reducible refine wpList_new_k rfl rfl ?_)|(refine wpList_store_newk rfl _ _ rfl Z75 K75 Z75_len K75_len rfl rfl ?_))
 generalize hW2:W1.alloc (.cells (kcl K75).toArray 30)=W2 at *
 generalize hg:W1.heap.size=g at *
 have hlt2:Hid (g<W2.heap.size):=Qh (lt_of_heap H2.out.at_)
 clear hW2 hg
 go_wp2_with fail
 refine (HW.out _).mono ?_
 rintro e w3 ⟨rfl,k3⟩
 have H3:=Qh (H2.out.heap (k3.alloc (.cells (sl o).toArray 64)))
 have R3:=Qh (R2.out.heap (k3.alloc (.cells (sl o).toArray 64)))
 have KK3:=Qh ((KK2.out.trans k3).alloc (.cells (sl o).toArray 64))
 have X3:=Qh (SAt.new w3 o)
 have hlt3:Hid (g<w3.heap.size):=Qh (Nat.lt_of_lt_of_le hlt2.out k3.size)
 clear k3
 go_upto_region 3 with (first|(with_reducible refine wpList_new_sp rfl rfl ?_)|((with_reducible refine wpList_store_newsp rfl _ _ rfl Zs o ?_ ?_ ?_);exact rfl;exact rfl))
 generalize w3.alloc (.cells (sl o).toArray 64)=W3 at *
 generalize w3.heap.size=b6 at *
 go_upto_region 4 with fail
 have HS0:Hid (RdM w W3 t b2 g b6 0 K75 o):=Qh ⟨KK3.out,R3.out,H3.out,X3.out,HST.out⟩
 have hbw:Hid (w.heap.size≤b2∧b2<g∧g<b6):=Qh ⟨by have:=hb2'.out;omega,hlt1.out,hlt3.out⟩
 clear H3 R3 KK3 X3 H2 R2 KK2 H1 KK1 HST hlt1 hlt2 hlt3 hb2'
 go_loopw [8,14] (fun _ t14 wr=>∃ (c:Nat) (K:Tk) (x:Sp),t14=.int .i64 c∧c≤3∧RdM w wr t b2 g b6 c K x) (fun _ t14 _=>3-(intOf t14).toNat)
 case atStart=>exact ⟨0,K75,o,rfl,by omega,HS0.out⟩
 case round =>
  obtain ⟨c,K,x,ht14,hc,hM⟩:=hrel
  have HM:=Qh hM
  have ce:=hM.sx.err
  have ca:=hM.sx.place
  clear hM
  have hi0:=ix_0
  have hi1:=ix_1
  have hi2:=ix_2
  unfold p3V at hi0 hi1 hi2
  by_cases hlt:c<3
  ·have hcc:c=0∨c=1∨c=2:=by omega
   by_cases he:x.e=0
   ·rw [he] at ce
    have hcall0:=Qh (fun (h:c=0)=>step_0 g t ht K x wr HM.out.ka (by rw [← h];exact HM.out.st) he)
    have hcall1:=Qh (fun (h:c=1)=>step_1 g t ht K x wr (HT.out.kept HM.out.kept) HM.out.ka (by rw [← h];exact HM.out.st) he)
    have hcall2:=Qh (fun (h:c=2)=>step_2 g t ht K x wr HM.out.ka (by rw [← h];exact HM.out.st) he)
    clear he
    rcases hcc with rfl|rfl|rfl
    all_goals
     first|(replace ht14:_=Value.int .i64 0:=ht14)|(replace ht14:_=Value.int .i64 1:=ht14)|(replace ht14:_=Value.int .i64 2:=ht14)
     subst ht14
     go_wp2_with fail
     first|refine (hcall0.out (by first|rfl|trivial)).mono ?_|refine (hcall1.out (by first|rfl|trivial)).mono ?_|refine (hcall2.out (by first|rfl|trivial)).mono ?_
     rintro e w5 ⟨y,K',rfl,hst,hk,kb⟩
     have HY:=Qh hst
     have HK:=Qh hk
     have HSX:=Qh (HM.out.sx.otherB kb (by have:=hbw.out;omega))
     have HRS:=Qh (HM.out.res.other kb (by have:=hbw.out;omega))
     have HKP:=Qh (kb.kept HM.out.kept (by have:=hbw.out;omega))
     clear hst hk kb ca ce hcall0 hcall1 hcall2
     go_wp2_with ((with_reducible refine wpList_store_sp rfl _ _ rfl b6 x y HSX.out ?_ ?_ ?_);exact rfl;exact rfl)
     go_roundw
     case rel=>first|exact ⟨1,K',y,rfl,by decide,HKP.out.setRow (by have:=hbw.out;omega) _,HRS.out.rowOther (by have:=hbw.out;omega) _,HK.out.rowOther (by have:=hbw.out;omega) _,HSX.out.row y,HY.out⟩|exact ⟨2,K',y,rfl,by decide,HKP.out.setRow (by have:=hbw.out;omega) _,HRS.out.rowOther (by have:=hbw.out;omega) _,HK.out.rowOther (by have:=hbw.out;omega) _,HSX.out.row y,HY.out⟩|exact ⟨3,K',y,rfl,by decide,HKP.out.setRow (by have:=hbw.out;omega) _,HRS.out.rowOther (by have:=hbw.out;omega) _,HK.out.rowOther (by have:=hbw.out;omega) _,HSX.out.row y,HY.out⟩
     case measure=>simp [intOf]
   ·have hb:(x.e == 0)=false:=beq_eq_false_iff_ne.2 he
    have HE:=Qh he
    clear he
    rcases hcc with rfl|rfl|rfl
    all_goals
     first|(replace ht14:_=Value.int .i64 0:=ht14)|(replace ht14:_=Value.int .i64 1:=ht14)|(replace ht14:_=Value.int .i64 2:=ht14)
     subst ht14
     go_wp2
     go_roundw
     case rel=>first|exact ⟨1,K,x,rfl,by decide,HM.out.kept,HM.out.res,HM.out.ka,HM.out.sx,HM.out.st.skip HE.out⟩|exact ⟨2,K,x,rfl,by decide,HM.out.kept,HM.out.res,HM.out.ka,HM.out.sx,HM.out.st.skip HE.out⟩|exact ⟨3,K,x,rfl,by decide,HM.out.kept,HM.out.res,HM.out.ka,HM.out.sx,HM.out.st.skip HE.out⟩
     case measure=>simp [intOf]
  ·have e3:c=3:=by omega
   subst e3
   replace ht14:_=Value.int .i64 3:=ht14
   subst ht14
   clear hi0 hi1 hi2
   by_cases he:x.e=0
   ·rcases HM.out.st with ⟨_,p,hp,hpt,_,htk⟩|⟨hne,_⟩
    ·have hn:(tkz fsL rlL (bs t)).n=p:=by rw [htk];rfl
     have hv:(tkz fsL rlL (bs t)).v=K:=by rw [htk];rfl
     have h0:(tkz fsL rlL (bs t)).e=0:=by rw [htk];rfl
     rw [he] at ce
     rw [hp] at ca
     by_cases hl:p<t.size
     ·have hR:Hid (rdz fsL rlL (bs t)=(p,2)∧rdK t=Z75):=Qh (by
       have h1:=rdz_beh h0 (by rw [hn,bs_len];exact hl)
       rw [hn] at h1
       exact ⟨h1,by unfold rdK;rw [h1];rfl⟩)
      have hl':(p:Int)<(t.size:Int):=by omega
      have HP:=Qh hp
      clear htk hn hv h0 he hp
      go_upto_region 12 with fail
      refine wp_region_held_drew (S:=fun x'=>SAt x' b6 x∧KAt x' b2 Z75∧Kept w x') (by kernel_rfl) ⟨HM.out.sx.kept (Kept.refl _).drew,HM.out.res.heap (Kept.refl _).drew,HM.out.kept.trans (Kept.refl _).drew⟩ (fun Qj=>?_)
      refine rY 0 39 rfl rfl (take_bt_k0 (by rfl) rfl) Qj ?_
      simp only [Act.put,sA,sZ,sU]
      refine rT 1 40 (.pointer (some ⟨b6,0,none⟩)) rfl rfl Qj ?_
      simp only [pA,pN,sZ,sU]
      refine rg_take (i:=2) (v:=.int .i64 p) (some 41) rfl rfl (by kernel_rfl) (by kernel_rfl) (by kernel_rfl) (fun _ _ _ h=>h) (Or.inl ⟨by rfl,fun x' h=>by have h':=h.1.place;rw [HP.out] at h';go_simp⟩) Qj ?_
      simp only [pA,pN,sZ,sU]
      refine wpAnyH_ready (rs:=[3]) (by kernel_rfl) (by simp) ?_
      refine AllReadyH.cons rfl (fun K' hK'=>?_) AllReadyH.nil
      rw [if_pos (by rfl)]
      refine wp_store_row 30 _ _ rfl b2 (kcl Z75).toArray rfl rfl 30 _ Qj.2.1.at_ (size_kcl Z75_len) rfl (kcl_one _) ?_
      have hE:=Qh (Qj.2.1.row Z75 Z75_len)
      have hKK:=Qh (Qj.2.2.setRow (g:=b2) (by have:=hbw.out;omega) (kcl Z75).toArray)
      refine hK'.out _ _ ⟨Qj.1.rowOther (by have:=hbw.out;omega) _,hE.out,hKK.out⟩ (fun Qj=>?_)
      clear hK' K'
      refine rT 4 3 (.int .i64 p) rfl rfl Qj ?_
      try simp only [Act.put,sA,pA,pN,sZ,sU]
      refine rT 5 4 (.int .i64 2) rfl rfl Qj ?_
      try simp only [Act.put,sA,pA,pN,sZ,sU]
      refine wpAnyH_done (by kernel_rfl) ?_ _
      go_wp2
      refine bodyPost_ret (v:=.tuple #[kv Z75,.int .i64 p,.int .i64 2]) ?_ rfl ⟨by rw [hR.out.1,hR.out.2],by rw [hR.out.2];exact Z75_len,hKK.out⟩
      exact (results_task (p:=2) (t:=3) (u:=4) rfl _ _ b2 Z75 rfl hE.out).trans rfl
     ·have hR:Hid (rdz fsL rlL (bs t)=(p,0)∧rdK t=K):=Qh (by
       have h1:=rdz_all h0 (by rw [hn,bs_len];exact hl)
       rw [hn] at h1
       exact ⟨h1,by unfold rdK;rw [h1,if_pos rfl,hv]⟩)
      have hl':¬ (p:Int)<(t.size:Int):=by omega
      have HP:=Qh hp
      clear htk hn hv h0 he hp
      go_upto_region 13 with fail
      refine wp_region_held_drew (S:=fun x'=>SAt x' b6 x∧(∃ K',KAt x' b2 K')∧Kept w x'∧KAt x' g K) (by kernel_rfl) ⟨HM.out.sx.kept (Kept.refl _).drew,⟨_,HM.out.res.heap (Kept.refl _).drew⟩,HM.out.kept.trans (Kept.refl _).drew,HM.out.ka.heap (Kept.refl _).drew⟩ (fun Qj=>?_)
      refine rY 0 42 rfl rfl (take_load_k (by rfl) _ rfl g rfl K HM.out.ka.len (fun _ h=>KAt.range h.2.2.2)) Qj ?_
      simp only [Act.put,sA,sZ,sU]
      refine rT 1 43 (.pointer (some ⟨b6,0,none⟩)) rfl rfl Qj ?_
      simp only [pA,pN,sZ,sU]
      refine rg_take (i:=2) (v:=.int .i64 p) (some 44) rfl rfl (by kernel_rfl) (by kernel_rfl) (by kernel_rfl) (fun _ _ _ h=>h) (Or.inl ⟨by rfl,fun x' h=>by have h':=h.1.place;rw [HP.out] at h';go_simp⟩) Qj ?_
      simp only [pA,pN,sZ,sU]
      refine wpAnyH_ready (rs:=[3]) (by kernel_rfl) (by simp) ?_
      refine AllReadyH.cons rfl (fun K' hK'=>?_) AllReadyH.nil
      rw [if_pos (by rfl)]
      obtain ⟨K0,hK0⟩:=Qj.2.1
      refine wp_store_row 30 _ _ rfl b2 (kcl K).toArray rfl rfl 30 _ hK0.at_ (size_kcl HM.out.ka.len) (by rw [kcl_size HM.out.ka.len];exact kcl_size hK0.len) (kcl_one _) ?_
      have hE:=Qh (hK0.row K HM.out.ka.len)
      have hKK:=Qh (Qj.2.2.1.setRow (g:=b2) (by have:=hbw.out;omega) (kcl K).toArray)
      refine hK'.out _ _ ⟨Qj.1.rowOther (by have:=hbw.out;omega) _,⟨_,hE.out⟩,hKK.out,Qj.2.2.2.rowOther (by have:=hbw.out;omega) _⟩ (fun Qj=>?_)
      clear hK' K'
      refine rT 4 3 (.int .i64 p) rfl rfl Qj ?_
      try simp only [Act.put,sA,pA,pN,sZ,sU]
      refine rT 5 4 (.int .i64 0) rfl rfl Qj ?_
      try simp only [Act.put,sA,pA,pN,sZ,sU]
      refine wpAnyH_done (by kernel_rfl) ?_ _
      go_wp2
      refine bodyPost_ret (v:=.tuple #[kv K,.int .i64 p,.int .i64 0]) ?_ rfl ⟨by rw [hR.out.1,hR.out.2],by rw [hR.out.2];exact HM.out.ka.len,hKK.out⟩
      exact (results_task (p:=2) (t:=3) (u:=4) rfl _ _ b2 K rfl hE.out).trans rfl
    ·exact absurd he hne
   ·have hR:Hid (rdz fsL rlL (bs t)=((tkz fsL rlL (bs t)).n,x.e)∧rdK t=Z75∧x.a=((tkz fsL rlL (bs t)).n:Nat)):=Qh (by
     rcases HM.out.st with ⟨h,_⟩|⟨_,h1,h2⟩
     ·exact absurd h he
     ·have h3:=rdz_err (F:=fsL) (P:=rlL) (m:=bs t) (by rw [← h2];exact he)
      rw [← h2] at h3
      exact ⟨h3,by unfold rdK;rw [h3,if_neg he],h1⟩)
    have hb:(x.e != 0)=true:=bne_iff_ne.2 he
    clear he
    go_upto_region 10 with fail
    refine wp_region_held_drew (S:=fun x'=>SAt x' b6 x∧KAt x' b2 Z75∧Kept w x') (by kernel_rfl) ⟨HM.out.sx.kept (Kept.refl _).drew,HM.out.res.heap (Kept.refl _).drew,HM.out.kept.trans (Kept.refl _).drew⟩ (fun Qj=>?_)
    refine rY 0 29 rfl rfl (take_bt_k0 (by rfl) rfl) Qj ?_
    simp only [Act.put,sA,sZ,sU]
    refine rT 1 30 (.pointer (some ⟨b6,0,none⟩)) rfl rfl Qj ?_
    simp only [pA,pN,sZ,sU]
    refine rg_take (i:=2) (v:=.int .i64 x.a) (some 31) rfl rfl (by kernel_rfl) (by kernel_rfl) (by kernel_rfl) (fun _ _ _ h=>h) (Or.inl ⟨by rfl,fun x' h=>by have h':=h.1.place;go_simp⟩) Qj ?_
    simp only [pA,pN,sZ,sU]
    refine rT 3 32 (.pointer (some ⟨b6,2,none⟩)) rfl rfl Qj ?_
    simp only [pA,pN,sZ,sU]
    refine rg_take (i:=4) (v:=.int .i64 x.e) (some 33) rfl rfl (by kernel_rfl) (by kernel_rfl) (by kernel_rfl) (fun _ _ _ h=>h) (Or.inl ⟨by rfl,fun x' h=>by have h':=h.1.err;go_simp⟩) Qj ?_
    simp only [pA,pN,sZ,sU]
    refine wpAnyH_ready (rs:=[5]) (by kernel_rfl) (by simp) ?_
    refine AllReadyH.cons rfl (fun K' hK'=>?_) AllReadyH.nil
    rw [if_pos (by rfl)]
    refine wp_store_row 30 _ _ rfl b2 (kcl Z75).toArray rfl rfl 30 _ Qj.2.1.at_ (size_kcl Z75_len) rfl (kcl_one _) ?_
    have hE:=Qh (Qj.2.1.row Z75 Z75_len)
    have hKK:=Qh (Qj.2.2.setRow (g:=b2) (by have:=hbw.out;omega) (kcl Z75).toArray)
    refine hK'.out _ _ ⟨Qj.1.rowOther (by have:=hbw.out;omega) _,hE.out,hKK.out⟩ (fun Qj=>?_)
    clear hK' K'
    refine rT 6 3 (.int .i64 x.a) rfl rfl Qj ?_
    try simp only [Act.put,sA,pA,pN,sZ,sU]
    refine rT 7 4 (.int .i64 x.e) rfl rfl Qj ?_
    try simp only [Act.put,sA,pA,pN,sZ,sU]
    refine wpAnyH_done (by kernel_rfl) ?_ _
    go_wp2
    refine bodyPost_ret (v:=.tuple #[kv Z75,.int .i64 x.a,.int .i64 x.e]) ?_ rfl ⟨by rw [hR.out.1,hR.out.2.1,hR.out.2.2],by rw [hR.out.2.1];exact Z75_len,hKK.out⟩
    exact (results_task (p:=2) (t:=3) (u:=4) rfl _ _ b2 Z75 rfl hE.out).trans rfl
theorem inB_0 (t:ByteArray):inB t 0=true:=by
 unfold inB
 simp only [Bool.and_eq_true,decide_eq_true_eq]
 omega
theorem cmnU_self:∀ (l:List Nat) (b:List UInt8),(∀ y ∈ l,y<256)→cmnU (l.map UInt8.ofNat++b) l=l.length
 | [],b,_=>by rw [cmnU_nil2];rfl
 | y::l,b,h=>by
  have hy:y<256:=h y (by simp)
  rw [List.map_cons,List.cons_append,cmnU_cc,if_pos (by simp;omega),cmnU_self l b (fun z hz=>h z (by simp [hz]))]
  rfl
theorem cmnU_stop:∀ (a:List UInt8) (b:UInt8) (l:List Nat),(∀ y ∈ l,y≠b.toNat)→cmnU (a++[b]) l≤a.length
 | [],b,[],_=>by rw [cmnU_nil2];exact Nat.le_refl _
 | [],b,y::l,h=>by rw [List.nil_append,cmnU_cc,if_neg (fun e=>h y (by simp) e.symm)];exact Nat.le_refl _
 | x::a,b,[],_=>by rw [cmnU_nil2];omega
 | x::a,b,y::l,h=>by
  rw [List.cons_append,cmnU_cc,List.length_cons]
  split
  ·have:=cmnU_stop a b l (fun z hz=>h z (by simp [hz]));omega
  ·omega
theorem nmN_chars {n:Nat} {h:Bool} (hn:n<100):∀ y ∈ nmN n h,(48≤y∧y≤57)∨y=46:=by
 rcases @nmN_cases n h with ⟨a,_,e⟩|⟨a,_,e⟩|⟨a,_,e⟩|⟨a,_,e⟩
 all_goals
  rw [e]
  intro y hy
  simp at hy
  omega
theorem refN_whole (z:Nat) (i:Int) (hB:Bool) (n:Nat) (h:Bool) (hv:okM hB n h) (b:UInt8) (h1:isD b=false) (h2:b≠46) :
  refN z i hB (nmL n h++[b])=(some (n,h),⟨i+(nmL n h).length,0,0⟩):=by
 have hn:n<100:=by have:=hv.1;omega
 have hlow:=nmN_low n hn h
 have hlen:=nm_len n hn h
 have hne:∀ (n':Nat) (h':Bool),okM hB n' h'→∀ y ∈ nmN n' h',y≠b.toNat:=by
  intro n' h' hv' y hy e
  have hd:¬ (48≤b.toNat∧b.toNat≤57):=by rw [← isD_iff,h1];simp
  rcases nmN_chars (by have:=hv'.1;omega) y hy with x|x
  ·omega
  ·exact h2 (UInt8.toNat.inj (by rw [← e,x];rfl))
 have hself:cmnU (nmL n h++[b]) (nmN n h)=(nmN n h).length:=by rw [nmL_is n hn];exact cmnU_self _ _ hlow
 have hle:∀ (n':Nat) (h':Bool),okM hB n' h'→cmnU (nmL n h++[b]) (nmN n' h')≤(nmN n h).length:=fun n' h' hv'=>by
  have:=cmnU_stop (nmL n h) b (nmN n' h') (hne n' h' hv')
  omega
 have hN:=nmP_top hB (nmL n h++[b])
 rcases hx:nmP hB (nmL n h++[b]) with ⟨F,K,n1,h1'⟩
 rw [hx] at hN
 obtain ⟨N1,N2,N3,N4⟩:=hN
 dsimp only at N1 N2 N3 N4
 have hF:F=(nmN n h).length:=by
  have a1:=N1 n h hv
  rcases N2 with N2|⟨n',h',v,N2⟩
  ·omega
  ·have:=hle n' h' v;omega
 have hK:K≠-1:=fun e=>N3 e n h hv hself
 obtain ⟨v,e1,e2,e3⟩:=N4 hK
 have a1:=hle _ _ v
 obtain ⟨a2,a3⟩:=e3 n h hv hself
 obtain ⟨rfl,rfl⟩:=a3 (by omega)
 have hd:hdD ((nmL n h++[b]).drop F)=false:=by
  rw [hF,← hlen,List.drop_left];exact h1
 rw [refN_fin hx]
 dsimp only
 rw [if_pos ⟨by omega,.inr hd⟩,hF,hlen]
theorem txT_size (s:Stp):(txT s).size=(opL (s.k,s.g)).length+(nmL s.n s.h).length:=by
 rw [← bs_len,bs_txT];unfold txL;rw [List.length_append]
theorem rd_whole {s:Stp} (hs:okSt s=true) (b:UInt8) (h1:isD b=false) (h2:b≠46):rdP (txT s++⟨#[b]⟩) 0=(s,⟨((txT s).size:Nat),0,0⟩):=by
 have hp:=okS_hd hs
 have hv:=okS_M hs
 have hb:bs (txT s++⟨#[b]⟩)=opL (s.k,s.g)++(nmL s.n s.h++[b]):=by
  rw [bs_append,bs_txT];unfold txL;rw [List.append_assoc];rfl
 rw [read_eq]
 unfold refP
 rw [if_pos (inB_0 _),show (0:Int).toNat=0 from rfl,List.drop_zero]
 have hT:=all_top (bs (txT s++⟨#[b]⟩))
 rw [hb] at hT ⊢
 have:=refE_some hp (t:=txT s++⟨#[b]⟩) (i:=0) (m:=nmL s.n s.h++[b]) (by rw [List.drop_zero,hb]) (by omega) hT
 rw [show ((0:Nat):Int)=0 from rfl] at this
 rw [this]
 obtain ⟨N,hN⟩:∃ N:Nat,s.n=N:=⟨s.n.toNat,by have:=hv.1;omega⟩
 obtain ⟨k,g,n,h⟩:=s
 dsimp only at hN hv hp ⊢
 subst hN
 rw [refN_whole _ _ _ N h (by simpa using hv.2) b h1 h2,txT_size]
 unfold wrap
 dsimp only
 rw [show ((0:Int)+((opL (k,g)).length:Nat)+((nmL (N:Int) h).length:Nat))=(((opL (k,g)).length+(nmL (N:Int) h).length:Nat):Int) by omega]
end Go.Proofs.YtlbipjmmlobofaaGreatDoor
