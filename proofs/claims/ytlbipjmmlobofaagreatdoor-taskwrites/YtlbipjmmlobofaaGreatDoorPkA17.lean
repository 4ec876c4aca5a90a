/- SiP · TsF · TsG · TsH: my texts, in their order. -/
import Derived.Test.YtlbipjmmlobofaaGreatDoorPkA07
import Derived.Test.YtlbipjmmlobofaaGreatDoorPkA14
import Derived.Test.YtlbipjmmlobofaaGreatDoorPkA16
import Derived.Great.Ranges
namespace Go.Proofs.YtlbipjmmlobofaaGreatDoor
open Go.ChangeShapes Go.WideShapes Go.ChangeAt Go.RowKit
open Go.Deep
set_option linter.unusedVariables false
set_option linter.unusedSimpArgs false
set_option maxRecDepth 100000
set_option maxHeartbeats 4000000

theorem fieldsQ : (Tryz.prog.fieldsOf 28).toList.map (fun f => (f.name == "_", f.type, f.offset)) = [(false, 3, 0), (false, 3, 1), (false, 3, 2), (false, 4, 3)] := by kernel_rfl
theorem stoodQ:Tryz.prog.stoodInHeld 28=false:=by kernel_rfl
theorem eqGuardQ:Tryz.prog.eqGuardType Tryz.prog.depth 28=false:=by kernel_rfl
theorem run_part_q (a:Stp) (T:TypeId) (hT:Tryz.prog.underlying T=some (.int .i64)) (k:Nat) {x:Int} (hk:(ql a)[k]?=some (.int .i64 x)) (w:World):(part T (ql a).toArray k).run Tryz.prog w=.ok (.int .i64 x) w:=by
 simp [part,isAgg,run_underlying hT,hk]
theorem run_part_qb (a:Stp) (w:World):(part 4 (ql a).toArray 3).run Tryz.prog w=.ok (.bool a.h) w:=by
 simp [part,isAgg,run_underlying Tryz.underlying4,ql]
theorem run_equal_q (a:Stp) (w:World):(Op.equalIn 10000 28 (.agg (ql a).toArray) (.agg (ql a).toArray)).run Tryz.prog w=.ok true w:=by
 have hu:Tryz.prog.underlying 28=some (.struct (Tryz.prog.fieldsOf 28)):=by kernel_rfl
 rw [run_equalIn_struct w 9999 _ _ _ hu stoodQ]
 obtain ⟨f1,f2,f3,f4,hf,n1,t1,o1,n2,t2,o2,n3,t3,o3,n4,t4,o4⟩:∃ f1 f2 f3 f4,(Tryz.prog.fieldsOf 28).toList=[f1,f2,f3,f4] ∧
   f1.name ≠ "_" ∧ f1.type = 3 ∧ f1.offset = 0 ∧ f2.name ≠ "_" ∧ f2.type = 3 ∧ f2.offset = 1 ∧ f3.name ≠ "_" ∧ f3.type = 3 ∧ f3.offset = 2 ∧ f4.name ≠ "_" ∧ f4.type = 4 ∧ f4.offset = 3 := by
  have h:=fieldsQ
  generalize (Tryz.prog.fieldsOf 28).toList=fs at h
  have hl:fs.length=4:=by simpa using congrArg List.length h
  match fs,hl with
  | [f1,f2,f3,f4],_ =>
   simp only [List.map_cons,List.map_nil,List.cons.injEq,Prod.mk.injEq,beq_eq_false_iff_ne,and_true] at h
   exact ⟨f1,f2,f3,f4,rfl,h.1.1,h.1.2.1,h.1.2.2,h.2.1.1,h.2.1.2.1,h.2.1.2.2,h.2.2.1.1,h.2.2.1.2.1,h.2.2.1.2.2,h.2.2.2.1,h.2.2.2.2.1,h.2.2.2.2.2⟩
 have i8:∀ a b:Int,(Op.equalIn 9999 3 (.int .i64 a) (.int .i64 b)).run Tryz.prog w=.ok (a == b) w:=fun a b=>run_equalIn_int w 9998 _ _ _ a b Tryz.underlying3
 have b8:∀ a b:Bool,(Op.equalIn 9999 4 (.bool a) (.bool b)).run Tryz.prog w=.ok (a == b) w:=fun a b=>run_equalIn_bool' w 9998 _ a b Tryz.underlying4
 have a1:=run_part_q a _ Tryz.underlying3 0 (x:=a.k) rfl w
 have a2:=run_part_q a _ Tryz.underlying3 1 (x:=a.g) rfl w
 have a3:=run_part_q a _ Tryz.underlying3 2 (x:=a.n) rfl w
 have a4:=run_part_qb a w
 rw [hf]
 rw [Op.eqFields,if_pos n1]
 simp only [Sem.run_bind,t1,o1,a1,Result.andThen_ok,i8,beq_self_eq_true,Bool.not_true,Bool.false_eq_true,if_false]
 rw [Op.eqFields,if_pos n2]
 simp only [Sem.run_bind,t2,o2,a2,Result.andThen_ok,i8,beq_self_eq_true,Bool.not_true,Bool.false_eq_true,if_false]
 rw [Op.eqFields,if_pos n3]
 simp only [Sem.run_bind,t3,o3,a3,Result.andThen_ok,i8,beq_self_eq_true,Bool.not_true,Bool.false_eq_true,if_false]
 rw [Op.eqFields,if_pos n4]
 simp only [Sem.run_bind,t4,o4,a4,Result.andThen_ok,b8,beq_self_eq_true,Bool.not_true,Bool.false_eq_true,if_false]
 simp [Op.eqFields]
theorem run_eql_q (a:Stp) (w:World):(binOp .eql 28 (.agg (ql a).toArray) (.agg (ql a).toArray)).run Tryz.prog w=.ok (.bool true) w:=by
 simp only [binOp,Sem.run_bind,Op.equal,Op.maxDepth,run_equal_q,Result.andThen_ok,Sem.run_pure]
theorem wpList_eql_q {ops:Array Oper} {rest:List Oper} {o:Oper} {a:Act} {w:World} {Q:Exit→Act→World→Prop} (hw:Region.wanted o (yielded ops a.tmps)=true) (x y:Operand) (ty:TypeId) (ho:o.op=.binOp .eql 28 x y ty)
  (p:Stp) (hx:a.eval x=qv p) (hy:a.eval y=qv p)
  (hk:wpList Tryz.prog ops Q rest (a.put o.dst (.bool true)) w):wpList Tryz.prog ops Q (o::rest) a w :=
 wpList_step fun _ hK=>by
  rw [if_pos hw]
  unfold Oper.wp execOp
  simp only [ho,hx,hy,Sem.run_bind,qv_ql,run_eqGuard_agg w _ _ _ _ _ _ eqGuardQ,run_eql_q,Result.andThen_ok,Sem.run_pure,Oper.upon_value]
  exact hK _ _ hk
theorem sread_is (t:ByteArray) (i:Int) (ht:t.size≤1000) (w:World) (hT:TabS w):Calls Tryz.prog 77 #[.string t,.int .i64 i] w fun e w'=>e=.returned (.tuple #[qv (rdP t i).1,sv (rdP t i).2])∧Kept w w':=by
 by_cases he:(oneP t hdT i).e=0
 ·exact read_good t i ht he w hT
 ·exact read_bad t i ht he w hT
theorem boxes_q (w:World):TAt ((w.alloc (.cells (ql Zt).toArray 28)).alloc (.cells (sl Zs).toArray 64)) w.heap.size Zt:=(TAt.new w Zt).kept ((Kept.refl _).alloc _)
theorem boxes_s (w:World) (q:Stp):SAt (((w.alloc (.cells (ql Zt).toArray 28)).alloc (.cells (sl Zs).toArray 64)).setRow w.heap.size (ql q).toArray) (w.alloc (.cells (ql Zt).toArray 28)).heap.size Zs :=
 (SAt.new (w.alloc (.cells (ql Zt).toArray 28)) Zs).rowOther (by rw [World.size_alloc];omega) _
theorem boxes_2 (w:World) (q:Stp) (y:Sp) :
  TAt ((((w.alloc (.cells (ql Zt).toArray 28)).alloc (.cells (sl Zs).toArray 64)).setRow w.heap.size (ql q).toArray).setRow (w.alloc (.cells (ql Zt).toArray 28)).heap.size (sl y).toArray) w.heap.size q ∧
  SAt ((((w.alloc (.cells (ql Zt).toArray 28)).alloc (.cells (sl Zs).toArray 64)).setRow w.heap.size (ql q).toArray).setRow (w.alloc (.cells (ql Zt).toArray 28)).heap.size (sl y).toArray) (w.alloc (.cells (ql Zt).toArray 28)).heap.size y ∧
  Kept w ((((w.alloc (.cells (ql Zt).toArray 28)).alloc (.cells (sl Zs).toArray 64)).setRow w.heap.size (ql q).toArray).setRow (w.alloc (.cells (ql Zt).toArray 28)).heap.size (sl y).toArray) :=
 ⟨((boxes_q w).row q).rowOther (by rw [World.size_alloc];omega) _,(boxes_s w q).row y,((((Kept.refl w).alloc _).alloc _).setRow (by omega) _).setRow (by rw [World.size_alloc];omega) _⟩
end Go.Proofs.YtlbipjmmlobofaaGreatDoor
namespace Go.Proofs.YtlbipjmmlobofaaGreatDoor
open Go.RowKit
set_option linter.unusedVariables false
set_option linter.unusedSimpArgs false
set_option maxRecDepth 100000
set_option maxHeartbeats 4000000

def ktl (K:Tk):List Value:=[.int .i64 K.tu,.int .i64 K.ca,.int .i64 K.ep,.int .i64 K.s.k,.int .i64 K.s.g,.int .i64 K.s.n,.bool K.s.h,.bool K.ty,.bool K.se,.int .i64 K.mx,.int .i64 K.re]
structure KAt (w:World) (g:Nat) (K:Tk):Prop where
 len:K.B.length=64
 at_:w.heap[g]?=some (.cells (cl K.B++ktl K).toArray 30 (0,0))
theorem KAt.cell {w:World} {g:Nat} {K:Tk} (h:KAt w g K) (k:Nat) {v:Value} (hk:(ktl K)[k]?=some v):w.cell? ⟨g,64+k,none⟩=some v:=by
 have h1:=cl_length K.B
 have h2:=h.len
 rw [cell_of_row _ _ (64+k) _ _ (0,0) h.at_,List.getElem?_toArray,List.getElem?_append_right (by omega),show 64+k-(cl K.B).length=k by omega,hk]
theorem KAt.frozen {w:World} {g:Nat} {K:Tk} (h:KAt w g K) (k:Nat):w.frozen? ⟨g,k,none⟩=false:=frozen_of_row w g k _ _ h.at_
theorem KAt.set {w:World} {g:Nat} {K K':Tk} (h:KAt w g K) (k:Nat) (v:Value) (hB:K'.B=K.B) (hT:ktl K'=(ktl K).set k v):KAt (w.setCell ⟨g,64+k,none⟩ v) g K':=by
 refine ⟨by rw [hB];exact h.len,?_⟩
 have hl:(cl K.B).length=64:=by rw [cl_length,h.len]
 rw [heap_setCell_same w g (64+k) _ _ _ h.at_]
 congr 2
 rw [List.setIfInBounds_toArray,List.set_append_right _ _ (by omega),show 64+k-(cl K.B).length=k by omega,hB,hT]
theorem KAt.heap {w w':World} {g:Nat} {K:Tk} (h:KAt w g K) (k:Kept w w'):KAt w' g K:=⟨h.len,k.heap h.at_⟩
theorem KAt.other {w w':World} {g b:Nat} {K:Tk} (h:KAt w g K) (k:KeptB b w w') (hn:g≠b):KAt w' g K:=⟨h.len,k.heap hn h.at_⟩
theorem KAt.range {w:World} {g:Nat} {K:Tk} (h:KAt w g K):w.rangeAt g 0 (cl K.B++ktl K):=by
 intro j v hv
 rw [Nat.zero_add,cell_of_row _ _ j _ _ (0,0) h.at_,List.getElem?_toArray,hv]
theorem KAt.thereAt {w:World} {g:Nat} {K:Tk} (h:KAt w g K) (o n:Nat) (hn:o+n≤75):w.there g o n:=by
 intro j hj
 refine ⟨?_,h.frozen _⟩
 have h1:=cl_length K.B
 have h2:=h.len
 have h3:(cl K.B++ktl K).length=75:=by rw [List.length_append,h1,h2];rfl
 rw [cell_of_row _ _ _ _ _ (0,0) h.at_,List.getElem?_toArray,List.getElem?_eq_getElem (by omega)]
 rfl
theorem KAt.setBoard {w:World} {g:Nat} {K:Tk} (h:KAt w g K) (B':List Int) (hB':B'.length=64):KAt (w.setCells g 0 (cl B').toArray.toList) g { K with B:=B' }:=by
 refine ⟨hB',?_⟩
 have:=heap_setCells g 30 (cl B') (cl K.B) [] (ktl K) w (by rw [cl_length,cl_length,h.len,hB']) (by simpa using h.at_)
 have e:ktl { K with B:=B' }=ktl K:=rfl
 rw [e]
 simpa using this
theorem KAt.setStip {w:World} {g:Nat} {K:Tk} (h:KAt w g K) (s:Stp):KAt (w.setCells g 67 (ql s).toArray.toList) g { K with s:=s }:=by
 refine ⟨h.len,?_⟩
 have:=heap_setCells g 30 (ql s) (ql K.s) (cl K.B++[.int .i64 K.tu,.int .i64 K.ca,.int .i64 K.ep]) [.bool K.ty,.bool K.se,.int .i64 K.mx,.int .i64 K.re] w rfl (by simpa [ktl,ql] using h.at_)
 have hl:(cl K.B++[.int .i64 K.tu,.int .i64 K.ca,.int .i64 K.ep]:List Value).length=67:=by rw [List.length_append,cl_length,h.len];rfl
 rw [hl] at this
 simpa [ktl,ql] using this
theorem SAt.otherB {w w':World} {g b:Nat} {x:Sp} (h:SAt w g x) (k:KeptB b w w') (hn:g≠b):SAt w' g x:=⟨k.heap hn h.at_⟩
theorem SAt.num {w:World} {g:Nat} {x:Sp} (h:SAt w g x):w.cell? ⟨g,1,none⟩=some (.int .i64 x.n):=by
 rw [cell_of_row _ _ 1 _ _ (0,0) h.at_];rfl
theorem SAt.place {w:World} {g:Nat} {x:Sp} (h:SAt w g x):w.cell? ⟨g,0,none⟩=some (.int .i64 x.a):=by
 rw [cell_of_row _ _ 0 _ _ (0,0) h.at_];rfl
theorem SAt.free {w:World} {g:Nat} {x:Sp} (h:SAt w g x) (k:Nat):w.frozen? ⟨g,k,none⟩=false:=frozen_of_row w g k _ _ h.at_
theorem SAt.setNum {w:World} {g:Nat} {x:Sp} (h:SAt w g x) (n:Int):SAt (w.setCell ⟨g,1,none⟩ (.int .i64 n)) g ⟨x.a,n,x.e⟩:=by
 refine ⟨?_⟩
 rw [heap_setCell_same w g 1 _ _ _ h.at_]
 simp [sl]
theorem SAt.setPlace {w:World} {g:Nat} {x:Sp} (h:SAt w g x) (n:Int):SAt (w.setCell ⟨g,0,none⟩ (.int .i64 n)) g ⟨n,x.n,x.e⟩:=by
 refine ⟨?_⟩
 rw [heap_setCell_same w g 0 _ _ _ h.at_]
 simp [sl]
theorem wpList_box_sp {ops:Array Oper} {rest:List Oper} {o:Oper} {a:Act} {w:World} {Q:Exit→Act→World→Prop} (hg:o.guard=none) (x:Operand) (ho:o.op=.box 64 x) (y:Sp) (hx:a.eval x=sv y)
  (h:wpList Tryz.prog ops Q rest (a.put o.dst (.pointer (some ⟨w.heap.size,0,none⟩))) (w.alloc (.cells (sl y).toArray 64))):wpList Tryz.prog ops Q (o::rest) a w :=
 Go.Great.wpList_boxTo hg 64 x ho _ rfl _ rfl (sl y).toArray (by rw [hx];rfl) h
theorem two_s (w:World) (x y:Sp):SAt ((w.alloc (.cells (sl x).toArray 64)).alloc (.cells (sl y).toArray 64)) w.heap.size x ∧
  SAt ((w.alloc (.cells (sl x).toArray 64)).alloc (.cells (sl y).toArray 64)) (w.heap.size+1) y∧Kept w ((w.alloc (.cells (sl x).toArray 64)).alloc (.cells (sl y).toArray 64)):=by
 have:=SAt.new (w.alloc (.cells (sl x).toArray 64)) y
 rw [World.size_alloc] at this
 exact ⟨(SAt.new w x).kept ((Kept.refl _).alloc _),this,((Kept.refl w).alloc _).alloc _⟩
theorem KeptB.row {g:Nat} {a w:World} (h:KeptB g a w) (c:Array Value):KeptB g a (w.setRow g c) :=
 ⟨h.os,h.output,by simpa using h.size,fun k hk hn=>(setRow_other w g k c hn).trans (h.block k hk hn)⟩
def lfT:ByteArray:=⟨#[10]⟩
def fedP (t:ByteArray) (r:Sp):Sp:=if r.e≠0 then r else ⟨(wordP t lfT r.a).a,r.n,(wordP t lfT r.a).e⟩
theorem fed_is (t:ByteArray) (r:Sp) (ht:t.size≤1000) (w:World):Calls Tryz.prog 78 #[.string t,sv r] w fun e w'=>e=.returned (sv (fedP t r))∧Kept w w':=by
 obtain ⟨a0,a1,a2⟩:=two_s w r Zs
 have H0:=Qh a0
 have H1:=Qh a1
 have HK:=Qh a2
 have c0:=a0.place
 have c1:=a0.num
 have c2:=a0.err
 clear a0 a1 a2
 by_cases he:r.e=0
 ·have HE:=Qh (show fedP t r=⟨(wordP t lfT r.a).a,r.n,(wordP t lfT r.a).e⟩ by unfold fedP;rw [if_neg (by intro c;exact c he)])
  rw [he] at c2
  have HW:=Qh (fun w=>word_is t lfT r.a ht (by decide) w)
  generalize wordP t lfT r.a=x at *
  obtain ⟨ra,rn,re⟩:=r
  dsimp only at he c0 c1 c2 HW HE
  have HR:=Qh he
  clear he
  go_enter Tryz.func78,Tryz.ntmps78
  go_upto_region 1 with (first|(with_reducible refine wpList_new_sp rfl rfl ?_)|(refine wpList_box_sp rfl _ rfl ⟨ra,rn,re⟩ rfl ?_))
  generalize hW:(w.alloc (.cells (sl ⟨ra,rn,re⟩).toArray 64)).alloc (.cells (sl Zs).toArray 64)=W at *
  go_wp2_with fail
  refine (HW.out _).mono ?_
  rintro e w3 ⟨rfl,k3⟩
  have H0b:=Qh ((H0.out.kept k3).kept ((Kept.refl w3).alloc (.cells (sl x).toArray 64)))
  have H1b:=Qh ((H1.out.kept k3).kept ((Kept.refl w3).alloc (.cells (sl x).toArray 64)))
  have HKb:=Qh ((HK.out.trans k3).alloc (.cells (sl x).toArray 64))
  have H2b:=Qh (SAt.new w3 x)
  have hsz:=Qh (show w.heap.size+2≤w3.heap.size by
   have:=k3.size
   rw [← hW,World.size_alloc,World.size_alloc] at this
   exact this)
  clear k3 hW
  go_upto_region 4 with (first|(with_reducible refine wpList_new_sp rfl rfl ?_)|((with_reducible refine wpList_store_newsp rfl _ _ rfl Zs x ?_ ?_ ?_);exact rfl;exact rfl))
  have hn0:=H0b.out.num
  generalize w3.alloc (.cells (sl x).toArray 64)=W3 at *
  generalize hg3:w3.heap.size=g3 at *
  have f3:=H2b.out.free 1
  have H2c:=Qh (H2b.out.setNum rn)
  have KB3:=Qh ((KeptB.refl g3 W3).setCell 1 (.int .i64 rn))
  have H1c:=Qh (H1b.out.otherB KB3.out (by have:=hsz.out;omega))
  have HKc:=Qh (KB3.out.kept HKb.out (by have:=hsz.out;omega))
  have c3:=H2b.out.num
  clear hg3
  go_upto_region 5 with fail
  go_wp2_with (first|((with_reducible refine wpList_load_sp rfl _ rfl g3 0 ?_ ⟨x.a,rn,x.e⟩ H2c.out.range ?_);exact rfl)|((with_reducible refine wpList_store_sp rfl _ _ rfl (w.heap.size+1) Zs ⟨x.a,rn,x.e⟩ H1c.out ?_ ?_ ?_);exact rfl;exact rfl))
  refine bodyPost_ret (v:=sv ⟨x.a,rn,x.e⟩) ?_ rfl ⟨by rw [HE.out],HKc.out.setRow (by omega) _⟩
  exact (ret_sp rfl H1c.out rfl).trans rfl
 ·have HE:=Qh (show fedP t r=r by unfold fedP;rw [if_pos he])
  have hb:(r.e != 0)=true:=bne_iff_ne.2 he
  obtain ⟨ra,rn,re⟩:=r
  dsimp only at he c0 c1 c2 HE hb
  clear he
  go_enter Tryz.func78,Tryz.ntmps78
  go_upto_region 1 with (first|(with_reducible refine wpList_new_sp rfl rfl ?_)|(refine wpList_box_sp rfl _ rfl ⟨ra,rn,re⟩ rfl ?_))
  generalize (w.alloc (.cells (sl ⟨ra,rn,re⟩).toArray 64)).alloc (.cells (sl Zs).toArray 64)=W at *
  go_wp2_with (first|((with_reducible refine wpList_load_sp rfl _ rfl w.heap.size 0 ?_ ⟨ra,rn,re⟩ H0.out.range ?_);exact rfl)|((with_reducible refine wpList_store_sp rfl _ _ rfl (w.heap.size+1) Zs ⟨ra,rn,re⟩ H1.out ?_ ?_ ?_);exact rfl;exact rfl))
  refine bodyPost_ret (v:=sv ⟨ra,rn,re⟩) ?_ rfl ⟨by rw [HE.out],HK.out.setRow (by omega) _⟩
  exact (ret_sp rfl H1.out rfl).trans rfl
set_option maxHeartbeats 4000000

theorem nothing_is (t:ByteArray) (i:Int) (w:World):Calls Tryz.prog 114 #[.string t,.int .i64 i] w fun e w'=>e=.returned (sv ⟨i,0,0⟩)∧Kept w w':=by
 have HS:=Qh (SAt.new w Zs)
 go_enter Tryz.func114,Tryz.ntmps114
 go_wp2_with (first|(with_reducible refine wpList_new_sp rfl rfl ?_)|(refine wpList_bt_sa rfl _ rfl i rfl ?_)|(refine wpList_store_sp rfl _ _ rfl w.heap.size Zs ⟨i,0,0⟩ HS.out rfl rfl ?_))
 refine bodyPost_ret (v:=sv ⟨i,0,0⟩) ?_ rfl ⟨rfl,((Kept.refl w).alloc _).setRow (by omega) _⟩
 exact (ret_sp rfl HS.out rfl).trans rfl
theorem info_txt:∃ ie,Tryz.prog.info? 9=some ie∧ie.zero=some (.string ⟨#[]⟩)∧ie.size=1:=by
 have h:(Tryz.prog.info? 9).map (fun i=>(i.zero,i.size))=some (some (.string ⟨#[]⟩),1):=by kernel_rfl
 cases hq:Tryz.prog.info? 9 with
 | none=>simp [hq] at h
 | some i=>simp [hq] at h;exact ⟨i,rfl,h.1,h.2⟩
theorem wpList_bslice_2 {ops:Array Oper} {rest:List Oper} {o:Oper} {a:Act} {w:World} {Q:Exit→Act→World→Prop} (hg:o.guard=none) (x y:ByteArray)
  (ho:o.op=.buildSlice 50 2 #[(0,.const (.string x)),(1,.const (.string y))])
  (hf:Instr.fill (fun i=>some (i*1,1)) ((Array.range (2*1)).map ((Value.string ⟨#[]⟩).cells[· % (Value.string ⟨#[]⟩).cells.size]!)) [(0,.string x),(1,.string y)]=some #[.string x,.string y])
  (h:wpList Tryz.prog ops Q rest (a.put o.dst (.slice (some ⟨w.heap.size,0,none⟩) 2 2)) (w.alloc (.cells #[.string x,.string y] 9))):wpList Tryz.prog ops Q (o::rest) a w:=by
 obtain ⟨ie,h1,h2,h3⟩:=info_txt
 refine wpList_buildSlice hg 50 9 2 _ ho #[.string x,.string y] ie (.string ⟨#[]⟩) Tryz.underlying50 h1 h2 (by rw [h3];decide) (by rw [h3];decide) ?_ h
 rw [h3]
 have:((#[(0,Operand.const (.string x)),(1,.const (.string y))]:Array (Nat × Operand)).map fun (i,x)=>(i,a.eval x)).toList=[(0,.string x),(1,.string y)]:=by simp [Act.eval]
 rw [this]
 exact hf
def whT:ByteArray:=⟨#[119,104,105,116,101]⟩
def blT:ByteArray:=⟨#[98,108,97,99,107]⟩
def sdT (i:Nat):ByteArray:=match i with|0=>whT|_=>blT
theorem sdT_W:(fun i=>bs (sdT i))=sdW:=by funext i;match i with|0=>rfl|_+1=>rfl
theorem sides_is (w:World):Calls Tryz.prog 49 #[] w fun e w'=>∃ g,e=.returned (.slice (some ⟨g,0,none⟩) 2 2)∧w'.cell? ⟨g,0,none⟩=some (.string whT)∧w'.cell? ⟨g,1,none⟩=some (.string blT)∧g<w'.heap.size∧Kept w w':=by
 have H:=Qh (heap_alloc_new w (.cells #[.string whT,.string blT] 9))
 have HK:=Qh ((Kept.refl w).alloc (.cells #[.string whT,.string blT] 9))
 go_enter Tryz.func49,Tryz.ntmps49
 go_wp2_with (refine wpList_bslice_2 rfl whT blT rfl (by kernel_rfl) ?_)
 go_ret
 exact ⟨_,rfl,by rw [cell_of_row _ _ 0 _ _ (0,0) H.out];rfl,by rw [cell_of_row _ _ 1 _ _ (0,0) H.out];rfl,by rw [World.size_alloc];omega,HK.out⟩
theorem ls_wb {w:World} {g:Nat} (h0:w.cell? ⟨g,0,none⟩=some (.string whT)) (h1:w.cell? ⟨g,1,none⟩=some (.string blT)) (hg:g<w.heap.size):LsT w (.slice (some ⟨g,0,none⟩) 2 2) [whT,blT]:=by
 refine .inr ⟨g,0,2,rfl,hg,by simp,fun j x hx=>?_⟩
 rw [Nat.zero_add]
 match j,hx with
 | 0,hx=>simp at hx;subst hx;exact h0
 | 1,hx=>simp at hx;subst hx;exact h1
theorem wb_small:∀ (j:Nat) (x:ByteArray),[whT,blT][j]?=some x→x.size≤1000:=by
 intro j x hx
 have:=List.mem_of_getElem? hx
 simp only [List.mem_cons,List.not_mem_nil,or_false] at this
 rcases this with rfl|rfl <;> decide
theorem named_is (t:ByteArray) (i:Int) (ht:t.size≤1000) (w:World):Calls Tryz.prog 117 #[.string t,.int .i64 i] w fun e w'=>e=.returned (sv (oneP t [whT,blT] i))∧Kept w w':=by
 have HS:=Qh (SAt.new w Zs)
 have HO:=Qh (fun v w hv=>oneOf_is t i [whT,blT] v w hv ht (by decide) wb_small)
 generalize oneP t [whT,blT] i=o at *
 go_enter Tryz.func117,Tryz.ntmps117
 go_wp2_with (with_reducible refine wpList_new_sp rfl rfl ?_)
 refine (sides_is _).mono ?_
 rintro e w1 ⟨g,rfl,h0,h1,h2,k1⟩
 have HL:=Qh (ls_wb h0 h1 h2)
 have HS1:=Qh (HS.out.kept k1)
 have HK1:=Qh (((Kept.refl w).alloc (.cells (sl Zs).toArray 64)).trans k1)
 clear h0 h1 h2 k1
 go_wp2_with fail
 refine (HO.out _ _ HL.out).mono ?_
 rintro e w2 ⟨rfl,k2⟩
 have HS2:=Qh (HS1.out.kept k2)
 have HK2:=Qh (HK1.out.trans k2)
 clear k2
 go_wp2_with (refine wpList_store_sp rfl _ _ rfl w.heap.size Zs o HS2.out rfl rfl ?_)
 refine bodyPost_ret (v:=sv o) ?_ rfl ⟨rfl,HK2.out.setRow (by omega) _⟩
 exact (ret_sp rfl HS2.out rfl).trans rfl
theorem numfn_is (t:ByteArray) (i lo hi:Int) (p q:Nat) (ht:t.size≤1000) (w:World) (hp:w.cell? ⟨p,0,none⟩=some (.int .i64 lo)) (hq:w.cell? ⟨q,0,none⟩=some (.int .i64 hi)) :
  Calls Tryz.prog 148 #[.string t,.int .i64 i,.pointer (some ⟨p,0,none⟩),.pointer (some ⟨q,0,none⟩)] w fun e w'=>e=.returned (sv (numP t i lo hi))∧Kept w w':=by
 have HS:=Qh (SAt.new w Zs)
 have HK:=Qh ((Kept.refl w).alloc (.cells (sl Zs).toArray 64))
 have hp':=kept_cell HK.out hp
 have hq':=kept_cell HK.out hq
 have HN:=Qh (fun w=>number_is t i lo hi ht w)
 generalize numP t i lo hi=o at *
 clear hp hq
 go_enter Tryz.func148,Tryz.ntmps148
 go_upto_region 1 with (with_reducible refine wpList_new_sp rfl rfl ?_)
 generalize w.alloc (.cells (sl Zs).toArray 64)=W at *
 go_wp2_with fail
 refine (HN.out _).mono ?_
 rintro e w2 ⟨rfl,k2⟩
 have HS2:=Qh (HS.out.kept k2)
 have HK2:=Qh (HK.out.trans k2)
 clear k2
 go_wp2_with (refine wpList_store_sp rfl _ _ rfl w.heap.size Zs o HS2.out rfl rfl ?_)
 refine bodyPost_ret (v:=sv o) ?_ rfl ⟨rfl,HK2.out.setRow (by omega) _⟩
 exact (ret_sp rfl HS2.out rfl).trans rfl
def nbF (n:Nat):Value:=.func (.func 148) #[] #[.pointer (some ⟨n,0,none⟩),.pointer (some ⟨n+1,0,none⟩)]
theorem number_fn (lo hi:Int) (w:World):Calls Tryz.prog 119 #[.int .i64 lo,.int .i64 hi] w fun e w'=>e=.returned (nbF w.heap.size)∧w'.cell? ⟨w.heap.size,0,none⟩=some (.int .i64 lo)∧w'.cell? ⟨w.heap.size+1,0,none⟩=some (.int .i64 hi)∧Kept w w':=by
 have HK:=Qh (((Kept.refl w).alloc (.cells #[.int .i64 lo] 3)).alloc (.cells #[.int .i64 hi] 3))
 have H1:Hid (((w.alloc (.cells #[.int .i64 lo] 3)).alloc (.cells #[.int .i64 hi] 3)).cell? ⟨w.heap.size,0,none⟩=some (.int .i64 lo)):=Qh (kept_cell ((Kept.refl _).alloc _) (by rw [cell_of_row _ _ 0 _ _ (0,0) (heap_alloc_new w _)];rfl))
 have H2:Hid (((w.alloc (.cells #[.int .i64 lo] 3)).alloc (.cells #[.int .i64 hi] 3)).cell? ⟨w.heap.size+1,0,none⟩=some (.int .i64 hi)):=Qh (by
  have:=heap_alloc_new (w.alloc (.cells #[.int .i64 lo] 3)) (.cells #[.int .i64 hi] 3)
  rw [World.size_alloc] at this
  rw [cell_of_row _ _ 0 _ _ (0,0) this];rfl)
 go_enter Tryz.func119,Tryz.ntmps119
 go_wp2
 go_ret
 exact ⟨rfl,H1.out,H2.out,HK.out⟩
theorem tell_0 (g:Nat) (K:Tk) (v:Int) (w:World) (h:KAt w g K):Calls Tryz.prog 115 #[.pointer (some ⟨g,0,none⟩),.int .i64 v] w fun e w'=>e=.returned (.tuple #[])∧KAt w' g (tlK 0 v K)∧KeptB g w w':=by
 have c:=h.cell 7 rfl
 have f:=h.frozen 71
 have H:=Qh (h.set (K':=tlK 0 v K) 7 (.bool true) rfl rfl)
 clear h
 go_enter Tryz.func115,Tryz.ntmps115
 go_wp2
 refine bodyPost_end (results_none rfl _ _ _) rfl ?_
 exact ⟨rfl,H.out,(KeptB.refl g w).setCell 71 _⟩
theorem tell_1 (g:Nat) (K:Tk) (v:Int) (w:World) (h:KAt w g K):Calls Tryz.prog 116 #[.pointer (some ⟨g,0,none⟩),.int .i64 v] w fun e w'=>e=.returned (.tuple #[])∧KAt w' g (tlK 1 v K)∧KeptB g w w':=by
 have c:=h.cell 8 rfl
 have f:=h.frozen 72
 have H:=Qh (h.set (K':=tlK 1 v K) 8 (.bool true) rfl rfl)
 clear h
 go_enter Tryz.func116,Tryz.ntmps116
 go_wp2
 refine bodyPost_end (results_none rfl _ _ _) rfl ?_
 exact ⟨rfl,H.out,(KeptB.refl g w).setCell 72 _⟩
theorem tell_2 (g:Nat) (K:Tk) (v:Int) (w:World) (h:KAt w g K):Calls Tryz.prog 118 #[.pointer (some ⟨g,0,none⟩),.int .i64 v] w fun e w'=>e=.returned (.tuple #[])∧KAt w' g (tlK 2 v K)∧KeptB g w w':=by
 have c:=h.cell 0 rfl
 have f:=h.frozen 64
 have H:=Qh (h.set (K':=tlK 2 v K) 0 (.int .i64 v) rfl rfl)
 clear h
 go_enter Tryz.func118,Tryz.ntmps118
 go_wp2
 refine bodyPost_end (results_none rfl _ _ _) rfl ?_
 exact ⟨rfl,H.out,(KeptB.refl g w).setCell 64 _⟩
theorem tell_3 (g:Nat) (K:Tk) (v:Int) (w:World) (h:KAt w g K):Calls Tryz.prog 120 #[.pointer (some ⟨g,0,none⟩),.int .i64 v] w fun e w'=>e=.returned (.tuple #[])∧KAt w' g (tlK 3 v K)∧KeptB g w w':=by
 have c:=h.cell 9 rfl
 have f:=h.frozen 73
 have H:=Qh (h.set (K':=tlK 3 v K) 9 (.int .i64 v) rfl rfl)
 clear h
 go_enter Tryz.func120,Tryz.ntmps120
 go_wp2
 refine bodyPost_end (results_none rfl _ _ _) rfl ?_
 exact ⟨rfl,H.out,(KeptB.refl g w).setCell 73 _⟩
theorem tell_4 (g:Nat) (K:Tk) (v:Int) (w:World) (h:KAt w g K):Calls Tryz.prog 122 #[.pointer (some ⟨g,0,none⟩),.int .i64 v] w fun e w'=>e=.returned (.tuple #[])∧KAt w' g (tlK 4 v K)∧KeptB g w w':=by
 have c:=h.cell 1 rfl
 have f:=h.frozen 65
 have H:=Qh (h.set (K':=tlK 4 v K) 1 (.int .i64 v) rfl rfl)
 clear h
 go_enter Tryz.func122,Tryz.ntmps122
 go_wp2
 refine bodyPost_end (results_none rfl _ _ _) rfl ?_
 exact ⟨rfl,H.out,(KeptB.refl g w).setCell 65 _⟩
theorem tell_5 (g:Nat) (K:Tk) (v:Int) (w:World) (h:KAt w g K):Calls Tryz.prog 124 #[.pointer (some ⟨g,0,none⟩),.int .i64 v] w fun e w'=>e=.returned (.tuple #[])∧KAt w' g (tlK 5 v K)∧KeptB g w w':=by
 have c:=h.cell 2 rfl
 have f:=h.frozen 66
 have H:=Qh (h.set (K':=tlK 5 v K) 2 (.int .i64 v) rfl rfl)
 clear h
 go_enter Tryz.func124,Tryz.ntmps124
 go_wp2
 refine bodyPost_end (results_none rfl _ _ _) rfl ?_
 exact ⟨rfl,H.out,(KeptB.refl g w).setCell 66 _⟩
theorem tell_6 (g:Nat) (K:Tk) (v:Int) (w:World) (h:KAt w g K):Calls Tryz.prog 125 #[.pointer (some ⟨g,0,none⟩),.int .i64 v] w fun e w'=>e=.returned (.tuple #[])∧KAt w' g (tlK 6 v K)∧KeptB g w w':=by
 have c:=h.cell 10 rfl
 have f:=h.frozen 74
 have H:=Qh (h.set (K':=tlK 6 v K) 10 (.int .i64 v) rfl rfl)
 clear h
 go_enter Tryz.func125,Tryz.ntmps125
 go_wp2
 refine bodyPost_end (results_none rfl _ _ _) rfl ?_
 exact ⟨rfl,H.out,(KeptB.refl g w).setCell 74 _⟩
set_option maxHeartbeats 4000000

def StpR (i:Nat) (r:Pz Int) (x:Sp):Prop:=x.a=((i+r.n:Nat):Int)∧x.e=r.e∧(r.e=0→x.n=r.v)
theorem StpR.up (i:Nat) (r:Pz Int):StpR i r (upz i r):=⟨rfl,rfl,fun _=>rfl⟩
def kqT:ByteArray:=⟨#[75,81,107,113]⟩
def ltT (i:Nat):ByteArray:=⟨(ltW i).toArray⟩
def ltTs:List ByteArray:=(List.range 4).map ltT
theorem ltT_W:(fun i=>bs (ltT i))=ltW:=by funext i;rfl
theorem kq_ascii:∀ (j:Nat) b,kqT.data.toList[j]?=some b→b.toNat<128:=by
 intro j b hb
 have:=List.mem_of_getElem? hb
 simp only [kqT,List.mem_cons,List.not_mem_nil,or_false] at this
 rcases this with rfl|rfl|rfl|rfl <;> decide
theorem kq_chars:Lib.charsB kqT=ltTs:=by decide +kernel
theorem lt_small:∀ (j:Nat) (x:ByteArray),ltTs[j]?=some x→x.size≤1000:=by
 intro j x hx
 have:=List.mem_of_getElem? hx
 obtain ⟨i,hi,rfl⟩:=List.mem_map.1 this
 have:i=0∨i=1∨i=2∨i=3:=by have:=List.mem_range.1 hi;omega
 rcases this with rfl|rfl|rfl|rfl <;> decide
theorem split_is (w:World):Calls Tryz.prog 149 #[.string kqT,.string ⟨#[]⟩] w fun e w'=>∃ g,e=.returned (.slice (some ⟨g,0,none⟩) 4 4)∧LsT w' (.slice (some ⟨g,0,none⟩) 4 4) ltTs∧Kept w w':=by
 refine (Tryz.strings_Split_chars kqT ⟨#[]⟩ w rfl (by decide) kq_ascii).mono ?_
 rintro e w' ⟨rfl,rfl⟩
 rw [kq_chars]
 refine ⟨_,rfl,.inr ⟨_,0,4,rfl,by rw [World.size_alloc];omega,by decide,fun j x hx=>?_⟩,(Kept.of_grown (grown_iter _ _ _)).alloc _⟩
 rw [Nat.zero_add,cell_of_row _ _ j _ _ (0,0) (heap_alloc_new _ _),List.getElem?_toArray,List.getElem?_map,hx];rfl
theorem ltGo_cc (c:UInt8) (b:Int) (r:List (UInt8 × Int)) (x:UInt8) (M:List UInt8) (n:Nat) (v:Int):ltGo ((c,b)::r) (x::M) n v=if x=c then ltGo r M (n+1) (v+b) else ltGo r (x::M) n v:=rfl
theorem lt_yes {c:UInt8} {b:Int} {r:List (UInt8 × Int)} {R:List UInt8} {n:Nat} {v:Int} (h:(wdz [c] R).e=0):(wdz [c] R).n=1∧ltGo ((c,b)::r) R n v=ltGo r (R.drop 1) (n+1) (v+b):=by
 unfold wdz at h ⊢
 split at h
 ·rename_i e
  rw [if_pos e]
  have hp:=(cmn_full _ _).1 e
  obtain ⟨R',rfl⟩:=hp
  refine ⟨e,?_⟩
  show ltGo ((c,b)::r) (c::R') n v=_
  rw [ltGo_cc,if_pos rfl];rfl
 ·unfold stz at h
  dsimp only at h
  split at h <;> simp at h
theorem lt_no {c:UInt8} {b:Int} {r:List (UInt8 × Int)} {R:List UInt8} {n:Nat} {v:Int} (h:(wdz [c] R).e≠0):ltGo ((c,b)::r) R n v=ltGo r R n v:=by
 rcases R with _|⟨x,R⟩
 ·cases r <;> rfl
 ·rw [ltGo_cc,if_neg]
  ·intro e
   subst e
   exact h (by rw [show (x::R:List UInt8)=[x]++R from rfl,wdz_whole])
theorem lt_pos {c:UInt8} {R:List UInt8} (h:(wdz [c] R).e=0):1≤R.length:=by
 rcases R with _|⟨x,R⟩
 ·exact absurd h (wdz_gn [c] (by simp))
 ·simp
theorem lt_end (R:List UInt8) (n:Nat) (v:Int):ltGo (ltL.drop 4) R n v=(n,v):=by cases R <;> rfl
theorem kq_at (j:Nat) (h:j<4):∃ (c:UInt8) (b:Int),Utf8.decode kqT j=(((c.toNat:Nat)),1)∧c.toNat<128∧ltL.drop j=(c,b)::ltL.drop (j+1)∧b=[1,2,4,8].getD j 0:=by
 have:j=0∨j=1∨j=2∨j=3:=by omega
 rcases this with rfl|rfl|rfl|rfl
 ·exact ⟨75,1,by decide +kernel,by decide,rfl,rfl⟩
 ·exact ⟨81,2,by decide +kernel,by decide,rfl,rfl⟩
 ·exact ⟨107,4,by decide +kernel,by decide,rfl,rfl⟩
 ·exact ⟨113,8,by decide +kernel,by decide,rfl,rfl⟩
structure LtM (w wr:World) (b4 b6 it:Nat) (i:Nat) (M:List UInt8) (j n:Nat) (v:Int):Prop where
 kept:Kept w wr
 res:SAt wr b4 Zs
 sum:SAt wr b6 ⟨((i+n:Nat):Int),v,0⟩
 iter:wr.heap[it]?=some (.stringIter kqT j)
 low:n≤M.length
 v0:0≤v
 v1:v≤100*j
 go:ltGo (ltL.drop j) (M.drop n) n v=ltGo ltL M 0 0
theorem letters_bad (t:ByteArray) (i:Nat) (hi:i≤t.size) (ht:t.size≤1000) (w:World) (h:(chz (List.range 4) ltW ((bs t).drop i)).e≠0) :
  Calls Tryz.prog 121 #[.string t,.int .i64 i] w fun e w'=>∃ x,e=.returned (sv x)∧StpR i (ltz ((bs t).drop i)) x∧Kept w w':=by
 have ho:=one_in hi (n:=4) (by omega) (T:=ltT) (by rw [ltT_W];exact lt_ap)
 rw [ltT_W] at ho
 have HO:=Qh (fun v w hv=>oneOf_is t i ltTs v w hv ht (by decide) lt_small)
 unfold ltTs at HO
 rw [ho] at HO
 have HE:Hid (StpR i (ltz ((bs t).drop i)) ⟨((i+(chz (List.range 4) ltW ((bs t).drop i)).n:Nat):Int),((chz (List.range 4) ltW ((bs t).drop i)).v:Nat),(chz (List.range 4) ltW ((bs t).drop i)).e⟩):=Qh (by
  unfold ltz
  rw [if_neg (by exact h)]
  exact ⟨rfl,rfl,fun c=>absurd c h⟩)
 have hb:((chz (List.range 4) ltW ((bs t).drop i)).e != 0)=true:=bne_iff_ne.2 h
 generalize ((chz (List.range 4) ltW ((bs t).drop i)).v:Nat)=cv at *
 generalize hq:(chz (List.range 4) ltW ((bs t).drop i)).e=ce at *
 generalize ((i+(chz (List.range 4) ltW ((bs t).drop i)).n:Nat):Int)=ca at *
 generalize ltz ((bs t).drop i)=R at *
 have HS:=Qh (SAt.new w Zs)
 clear ho h hq
 go_enter Tryz.func121,Tryz.ntmps121
 go_wp2_with (with_reducible refine wpList_new_sp rfl rfl ?_)
 refine (split_is _).mono ?_
 rintro e w1 ⟨g,rfl,hl,k1⟩
 have HL:=Qh hl
 have HS1:=Qh (HS.out.kept k1)
 have HK1:=Qh (((Kept.refl w).alloc (.cells (sl Zs).toArray 64)).trans k1)
 clear hl k1
 go_wp2_with fail
 refine (HO.out _ _ HL.out).mono ?_
 rintro e w2 ⟨rfl,k2⟩
 have HS2:=Qh ((HS1.out.kept k2).kept ((Kept.refl w2).alloc (.cells (sl ⟨ca,cv,ce⟩).toArray 64)))
 have HK2:=Qh ((HK1.out.trans k2).alloc (.cells (sl ⟨ca,cv,ce⟩).toArray 64))
 have HN2:=Qh (SAt.new w2 ⟨ca,cv,ce⟩)
 have c2:=HN2.out.err
 clear k2
 go_upto_region 2 with (first|(with_reducible refine wpList_new_sp rfl rfl ?_)|((with_reducible refine wpList_store_newsp rfl _ _ rfl Zs ⟨ca,cv,ce⟩ ?_ ?_ ?_);exact rfl;exact rfl))
 generalize w2.alloc (.cells (sl ⟨ca,cv,ce⟩).toArray 64)=W2 at *
 generalize w2.heap.size=g2 at *
 go_wp2_with (first|((with_reducible refine wpList_load_sp rfl _ rfl g2 0 ?_ ⟨ca,cv,ce⟩ HN2.out.range ?_);exact rfl)|((with_reducible refine wpList_store_sp rfl _ _ rfl w.heap.size Zs ⟨ca,cv,ce⟩ HS2.out ?_ ?_ ?_);exact rfl;exact rfl))
 refine bodyPost_ret (v:=sv ⟨ca,cv,ce⟩) ?_ rfl ⟨_,rfl,HE.out,HK2.out.setRow (by omega) _⟩
 exact (ret_sp rfl HS2.out rfl).trans rfl
theorem letters_good (t:ByteArray) (i:Nat) (hi:i≤t.size) (ht:t.size≤1000) (w:World) (h:(chz (List.range 4) ltW ((bs t).drop i)).e=0) :
  Calls Tryz.prog 121 #[.string t,.int .i64 i] w fun e w'=>∃ x,e=.returned (sv x)∧StpR i (ltz ((bs t).drop i)) x∧Kept w w':=by
 have ho:=one_in hi (n:=4) (by omega) (T:=ltT) (by rw [ltT_W];exact lt_ap)
 rw [ltT_W] at ho
 have HO:=Qh (fun v w hv=>oneOf_is t i ltTs v w hv ht (by decide) lt_small)
 unfold ltTs at HO
 rw [ho,h] at HO
 have HE:Hid (ltz ((bs t).drop i)=⟨(ltGo ltL ((bs t).drop i) 0 0).1,(ltGo ltL ((bs t).drop i) 0 0).2,0⟩):=Qh (by
  unfold ltz
  rw [if_pos (by exact h)])
 have HW:=Qh (fun (c:UInt8) (n:Nat) (hn:n≤((bs t).drop i).length) (w:World)=>word_is t ⟨#[c]⟩ ((i+n:Nat):Int) ht (show (1:Nat)≤1000 by decide) w)
 have HWU:=Qh (fun (c:UInt8) (n:Nat) (hn:n≤((bs t).drop i).length)=>by
  have:=word_up (t:=t) (i:=i+n) (by have:=rest_len hi;omega) ⟨#[c]⟩
  rw [← List.drop_drop] at this
  exact this)
 generalize ((chz (List.range 4) ltW ((bs t).drop i)).v:Nat)=cv at *
 generalize ((i+(chz (List.range 4) ltW ((bs t).drop i)).n:Nat):Int)=ca at *
 generalize hM:(bs t).drop i=M at *
 have HS:=Qh (SAt.new w Zs)
 clear ho h hM
 go_enter Tryz.func121,Tryz.ntmps121
 go_wp2_with (with_reducible refine wpList_new_sp rfl rfl ?_)
 refine (split_is _).mono ?_
 rintro e w1 ⟨g,rfl,hl,k1⟩
 have HL:=Qh hl
 have HS1:=Qh (HS.out.kept k1)
 have HK1:=Qh (((Kept.refl w).alloc (.cells (sl Zs).toArray 64)).trans k1)
 clear hl k1
 go_wp2_with fail
 refine (HO.out _ _ HL.out).mono ?_
 rintro e w2 ⟨rfl,k2⟩
 have HS2:=Qh ((HS1.out.kept k2).kept ((Kept.refl w2).alloc (.cells (sl ⟨ca,cv,0⟩).toArray 64)))
 have HK2:=Qh ((HK1.out.trans k2).alloc (.cells (sl ⟨ca,cv,0⟩).toArray 64))
 have HN2:=Qh (SAt.new w2 ⟨ca,cv,0⟩)
 have c2:(w2.alloc (.cells (sl ⟨ca,cv,0⟩).toArray 64)).cell? ⟨w2.heap.size,2,none⟩=some (.int .i64 0):=HN2.out.err
 clear k2
 go_upto_region 2 with (first|(with_reducible refine wpList_new_sp rfl rfl ?_)|((with_reducible refine wpList_store_newsp rfl _ _ rfl Zs ⟨ca,cv,0⟩ ?_ ?_ ?_);exact rfl;exact rfl))
 generalize w2.alloc (.cells (sl ⟨ca,cv,0⟩).toArray 64)=W2 at *
 generalize w2.heap.size=g2 at *
 have HSZ:Hid (w.heap.size<W2.heap.size):=Qh (lt_of_heap HS2.out.at_)
 have HS6:=Qh (SAt.new W2 ⟨(i:Int),0,0⟩)
 have HS4:=Qh (HS2.out.kept ((Kept.refl W2).alloc (.cells (sl ⟨(i:Int),0,0⟩).toArray 64)))
 have HK4:=Qh (HK2.out.alloc (.cells (sl ⟨(i:Int),0,0⟩).toArray 64))
 go_upto_region 5 with (first|(with_reducible refine wpList_new_sp rfl rfl ?_)|(refine wpList_bt_sa rfl _ rfl i rfl ?_)|((with_reducible refine wpList_store_newsp rfl _ _ rfl Zs ⟨(i:Int),0,0⟩ ?_ ?_ ?_);exact rfl;exact rfl))
 have HSZ6:Hid (W2.heap.size<(W2.alloc (.cells (sl ⟨(i:Int),0,0⟩).toArray 64)).heap.size):=Qh (lt_of_heap HS6.out.at_)
 have HSZ4:=HSZ
 generalize W2.alloc (.cells (sl ⟨(i:Int),0,0⟩).toArray 64)=W4 at *
 generalize W2.heap.size=g6 at *
 have HST:Hid (LtM w (W4.iter kqT 0) w.heap.size g6 W4.heap.size i M 0 0 0):=Qh ⟨HK4.out.trans (Kept.of_grown (grown_iter _ _ _)),HS4.out.kept (Kept.of_grown (grown_iter _ _ _)),HS6.out.kept (Kept.of_grown (grown_iter _ _ _)),World.iter_heap W4 kqT 0,Nat.zero_le _,by omega,by omega,rfl⟩
 go_upto_region 6 with fail
 go_loopw [7,8] (fun _ _ wr=>∃ (j n:Nat) (v:Int),j≤4∧LtM w wr w.heap.size g6 W4.heap.size i M j n v) (fun _ _ wr=>4-wr.iterPos W4.heap.size)
 case atStart=>exact ⟨0,0,0,by omega,HST.out⟩
 case round =>
  obtain ⟨j,n,v,hj,hL⟩:=hrel
  have HM:=Qh hL
  clear hL
  by_cases hlt:j<4
  ·obtain ⟨c,b,hd,hc,hdr,hb⟩:=kq_at j hlt
   have hen:Utf8.encode (c.toNat:Int)=⟨#[c]⟩:=enc_low c hc
   have HDR:=Qh hdr
   have hnx:∀ ty,(Instr.next (.pointer (some ⟨W4.heap.size,0,none⟩)) true ty).run Tryz.prog wr=.ok (.tuple #[.bool true,.int .i64 j,.int .i32 (c.toNat:Nat)]) (iterAt wr W4.heap.size kqT (j+1)):=fun ty=>by
    have:=next_at (P:=Tryz.prog) wr W4.heap.size kqT j ty HM.out.iter (by show j<4;exact hlt)
    rw [hd] at this
    exact this
   have S6:=Qh (show SAt (iterAt wr W4.heap.size kqT (j+1)) g6 ⟨((i+n:Nat):Int),v,0⟩ from ⟨(iterAt_other kqT (j+1) (by have:=HSZ6.out;omega)).trans HM.out.sum.at_⟩)
   have S4:=Qh (show SAt (iterAt wr W4.heap.size kqT (j+1)) w.heap.size Zs from ⟨(iterAt_other kqT (j+1) (by have:=HSZ6.out;have:=HSZ.out;omega)).trans HM.out.res.at_⟩)
   have SI:=Qh (iterAt_heap HM.out.iter kqT (j+1))
   have SK:=Qh (HM.out.kept.iterAt (by have:=HSZ6.out;have:=HSZ.out;omega:w.heap.size≤W4.heap.size) kqT (j+1))
   have p6:=S6.out.place
   have hx0:=HWU.out c n HM.out.low
   have HWn:=HW.out c n HM.out.low
   rw [hx0] at HWn
   have hX:=Qh HWn
   have hbs:bs ⟨#[c]⟩=[c]:=rfl
   rw [hbs] at hX
   have HGO:=Qh HM.out.go
   rw [hdr] at HGO
   have hv0:=HM.out.v0
   have hv1:=HM.out.v1
   have HLOW:=Qh HM.out.low
   have HIT0:=Qh HM.out.iter
   clear hd hdr hx0 HWn hbs HM
   by_cases hz:(wdz [c] (M.drop n)).e=0
   ·have hY:=Qh (lt_yes (b:=b) (r:=ltL.drop (j+1)) (n:=n) (v:=v) hz)
    have hxx:upz (i+n) (wdz [c] (M.drop n))=⟨((i+n+1:Nat):Int),0,0⟩:=by unfold upz;rw [hY.out.1,hz,wdz_v]
    have hlow:n+1≤M.length:=by
     have:=(wdz_gd [c]).le (M.drop n)
     rw [hY.out.1,List.length_drop] at this
     have:=(lt_pos hz)
     omega
    have HLOW1:=Qh hlow
    rw [hxx] at hX
    clear hxx hlow hz
    obtain ⟨x,hx⟩:∃ x:Sp,x=⟨((i+n+1:Nat):Int),0,0⟩:=⟨_,rfl⟩
    have hxe:x.e=0:=by rw [hx]
    have hxa:x.a=((i+n+1:Nat):Int):=by rw [hx]
    have HXA:=Qh hxa
    rw [← hx] at hX
    clear hx hxa
    go_wp2_with fail
    refine (hX.out _).mono ?_
    rintro e w3 ⟨rfl,k3⟩
    have A6:=Qh ((S6.out.kept k3).kept ((Kept.refl w3).alloc (.cells (sl x).toArray 64)))
    have A4:=Qh ((S4.out.kept k3).kept ((Kept.refl w3).alloc (.cells (sl x).toArray 64)))
    have AI:=Qh (((Kept.refl w3).alloc (.cells (sl x).toArray 64)).heap (k3.heap SI.out))
    have AK:=Qh ((SK.out.trans k3).alloc (.cells (sl x).toArray 64))
    have AX:=Qh (SAt.new w3 x)
    have ce:=AX.out.err
    have ca2:=AX.out.place
    rw [hxe] at ce
    clear k3 hxe
    go_upto_region 9 with (first|(with_reducible refine wpList_new_sp rfl rfl ?_)|((with_reducible refine wpList_store_newsp rfl _ _ rfl Zs x ?_ ?_ ?_);exact rfl;exact rfl))
    generalize w3.alloc (.cells (sl x).toArray 64)=W5 at *
    have f6:=A6.out.free 0
    have B6:=Qh (A6.out.setPlace x.a)
    have KB6:=Qh ((KeptB.refl g6 W5).setCell 0 (.int .i64 x.a))
    have q6:=A6.out.place
    go_upto_region 11 with fail
    generalize W5.setCell ⟨g6,0,none⟩ (.int .i64 x.a)=W6 at *
    have B4:=Qh (A4.out.otherB KB6.out (by have:=HSZ.out;have:=HSZ4.out;omega))
    have BI:=Qh (KB6.out.heap (show W4.heap.size≠g6 by have:=HSZ6.out;omega) AI.out)
    have BK:=Qh (KB6.out.kept AK.out (by have:=HSZ.out;have:=HSZ4.out;omega))
    have n6:=B6.out.num
    have f61:=B6.out.free 1
    have C6:=Qh (B6.out.setNum (v+b))
    have KC6:=Qh ((KeptB.refl g6 W6).setCell 1 (.int .i64 (v+b)))
    have C4:=Qh (B4.out.otherB KC6.out (by have:=HSZ.out;have:=HSZ4.out;omega))
    have CI:=Qh (KC6.out.heap (show W4.heap.size≠g6 by have:=HSZ6.out;omega) BI.out)
    have CK:=Qh (KC6.out.kept BK.out (by have:=HSZ.out;have:=HSZ4.out;omega))
    have C7:=Qh (show SAt (W6.setCell ⟨g6,1,none⟩ (.int .i64 (v+b))) g6 ⟨((i+(n+1):Nat):Int),v+b,0⟩ by
     rw [show i+(n+1)=i+n+1 by omega,← HXA.out]
     exact C6.out)
    have CD:=Qh (show (W6.setCell ⟨g6,1,none⟩ (.int .i64 (v+b))).drew.heap[W4.heap.size]?=some (.stringIter kqT (j+1)) from CI.out)
    clear q6 ce ca2 f6 p6
    have hj4:j=0∨j=1∨j=2∨j=3:=by omega
    rcases hj4 with rfl|rfl|rfl|rfl
    all_goals
     simp only [List.getD_cons_zero,List.getD_cons_succ] at hb
     subst hb
     go_region
     all_goals
      go_wp2
      go_roundw
      case rel =>
       refine ⟨_,n+1,_,?_,by first|exact CK.out.drew|exact CK.out.drewN _,⟨C4.out.at_⟩,⟨C7.out.at_⟩,CI.out,HLOW1.out,by omega,by omega,?_⟩
       ·omega
       ·rw [← HGO.out,hY.out.2,List.drop_drop]
      case measure=>simp [World.iterPos,CD.out,HIT0.out]
   ·have hY:=Qh (lt_no (b:=b) (r:=ltL.drop (j+1)) (n:=n) (v:=v) hz)
    have hze:((wdz [c] (M.drop n)).e == 0)=false:=beq_eq_false_iff_ne.2 hz
    generalize hxx:upz (i+n) (wdz [c] (M.drop n))=x at *
    have hxe:(x.e == 0)=false:=by rw [← hxx];exact hze
    clear hxx hze
    go_wp2_with fail
    refine (hX.out _).mono ?_
    rintro e w3 ⟨rfl,k3⟩
    have A6:=Qh ((S6.out.kept k3).kept ((Kept.refl w3).alloc (.cells (sl x).toArray 64)))
    have A4:=Qh ((S4.out.kept k3).kept ((Kept.refl w3).alloc (.cells (sl x).toArray 64)))
    have AI:=Qh (((Kept.refl w3).alloc (.cells (sl x).toArray 64)).heap (k3.heap SI.out))
    have AK:=Qh ((SK.out.trans k3).alloc (.cells (sl x).toArray 64))
    have AX:=Qh (SAt.new w3 x)
    have ce:=AX.out.err
    clear k3
    go_upto_region 9 with (first|(with_reducible refine wpList_new_sp rfl rfl ?_)|((with_reducible refine wpList_store_newsp rfl _ _ rfl Zs x ?_ ?_ ?_);exact rfl;exact rfl))
    generalize w3.alloc (.cells (sl x).toArray 64)=W5 at *
    go_wp2
    go_roundw
    case rel=>exact ⟨j+1,n,v,by omega,AK.out,A4.out,A6.out,AI.out,HLOW.out,hv0,by omega,by rw [← HGO.out];exact hY.out.symm⟩
    case measure=>simp [World.iterPos,AI.out,HIT0.out];omega
  ·have ej:j=4:=by omega
   subst ej
   have hnx:∀ ty,(Instr.next (.pointer (some ⟨W4.heap.size,0,none⟩)) true ty).run Tryz.prog _=_:=fun ty=>next_at_end _ W4.heap.size kqT 4 ty HM.out.iter (by decide)
   have HG:=HM.out.go
   rw [lt_end] at HG
   have HG2:=Qh HG
   clear HG
   have H6:=Qh HM.out.sum
   have H4:=Qh HM.out.res
   have HK:=Qh HM.out.kept
   go_wp2_with (first|((with_reducible refine wpList_load_sp rfl _ rfl g6 0 ?_ ⟨((i+n:Nat):Int),v,0⟩ H6.out.range ?_);exact rfl)|((with_reducible refine wpList_store_sp rfl _ _ rfl w.heap.size Zs ⟨((i+n:Nat):Int),v,0⟩ H4.out ?_ ?_ ?_);exact rfl;exact rfl))
   refine bodyPost_ret (v:=sv ⟨((i+n:Nat):Int),v,0⟩) ?_ rfl ⟨_,rfl,by rw [HE.out,← HG2.out];exact ⟨rfl,rfl,fun _=>rfl⟩,HK.out.setRow (by omega) _⟩
   exact (ret_sp rfl H4.out rfl).trans rfl
theorem letters_is (t:ByteArray) (i:Nat) (hi:i≤t.size) (ht:t.size≤1000) (w:World) :
  Calls Tryz.prog 121 #[.string t,.int .i64 i] w fun e w'=>∃ x,e=.returned (sv x)∧StpR i (ltz ((bs t).drop i)) x∧Kept w w':=by
 by_cases h:(chz (List.range 4) ltW ((bs t).drop i)).e=0
 ·exact letters_good t i hi ht w h
 ·exact letters_bad t i hi ht w h
end Go.Proofs.YtlbipjmmlobofaaGreatDoor
