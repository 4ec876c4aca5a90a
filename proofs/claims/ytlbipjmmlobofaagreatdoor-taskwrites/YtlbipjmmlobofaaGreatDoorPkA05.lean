/- LxS · SiE · SiF · SiG: my texts, in their order. -/
import Derived.Test.YtlbipjmmlobofaaGreatDoorPkA03
import Derived.Test.YtlbipjmmlobofaaGreatDoorPkA04
import Derived.Deep.MidRow
import Derived.Deep.WholeRow
import Derived.Laws.Tables
import Derived.OwnWalk
import Derived.Deep.QuietTactic
import Derived.Test.YtlbipjmmlobofaaGreatDoorShelf
import Derived.RegionTactic
import Derived.ChangeAlike
namespace Go.Proofs.YtlbipjmmlobofaaGreatDoor
open Go.ChangeShapes Go.WideShapes Go.ChangeAt Go.RowKit
open Go.Deep
set_option linter.unusedVariables false
set_option linter.unusedSimpArgs false
set_option maxRecDepth 100000
set_option maxHeartbeats 4000000
theorem wpList_store_newsp {ops:Array Oper} {rest:List Oper} {o:Oper} {a:Act} {w:World} {Q:Exit→Act→World→Prop} (hgd:o.guard=none) (x y:Operand) (ho:o.op=.store 64 x y)
  (j k:Sp) (hx:a.eval x=.pointer (some ⟨w.heap.size,0,none⟩)) (hy:a.eval y=sv k)
  (h:wpList Tryz.prog ops Q rest (a.put o.dst undef) (w.alloc (.cells (sl k).toArray 64))):wpList Tryz.prog ops Q (o::rest) a (w.alloc (.cells (sl j).toArray 64)):=by
 refine wpList_store_row hgd 64 x y ho w.heap.size (sl k).toArray hx hy 64 _ (heap_alloc_new w _) (sl_sz k) rfl (sl_one _) ?_
 rw [World.setRow_alloc_new]
 exact h
theorem wpList_load_sp {ops:Array Oper} {rest:List Oper} {op:Oper} {a:Act} {w:World} {Q:Exit→Act→World→Prop} (hw:Region.wanted op (yielded ops a.tmps)=true) (x:Operand) (ho:op.op=.load 64 x)
  (g off:Nat) (hx:a.eval x=.pointer (some ⟨g,off,none⟩)) (y:Sp) (hc:w.rangeAt g off (sl y))
  (h:wpList Tryz.prog ops Q rest (a.put op.dst (sv y)) w):wpList Tryz.prog ops Q (op::rest) a w :=
 wpList_step fun _ hK=>by
  rw [if_pos hw]
  exact wp_load_mid 64 x ho g off hx (sl y) _ hc Tryz.underlying64 rfl sizeS (hK _ _ h)
theorem take_load_sp {ops:Array Oper} {S:World→Prop} {op:Oper} {a:Act} (hw:Region.wanted op (yielded ops a.tmps)=true) (x:Operand) (ho:op.op=.load 64 x)
  (g off:Nat) (hx:a.eval x=.pointer (some ⟨g,off,none⟩)) (y:Sp) (hS:∀ w,S w→w.rangeAt g off (sl y)):YieldsIf Tryz.prog ops S op (sv y) a :=
 yieldsIf_load_mid hw 64 x ho g off hx (sl y) _ hS Tryz.underlying64 rfl sizeS
theorem SAt.range {w:World} {g:Nat} {x:Sp} (h:SAt w g x):w.rangeAt g 0 (sl x):=by
 intro j v hv
 rw [Nat.zero_add,cell_of_row _ _ j _ _ (0,0) h.at_]
 simpa using hv
theorem SAt.err {w:World} {g:Nat} {x:Sp} (h:SAt w g x):w.cell? ⟨g,2,none⟩=some (.int .i64 x.e):=by
 rw [cell_of_row _ _ 2 _ _ (0,0) h.at_];rfl
theorem run_field_sp (x:Sp) (w:World):(Instr.field 64 (sv x) 2).run Tryz.prog w=.ok (.int .i64 x.e) w:=by
 rw [sv_sl]
 simp only [Instr.field,Sem.run_bind,run_underlying Tryz.underlying64,Result.andThen_ok]
 simp [asAgg,part,isAgg,run_underlying Tryz.underlying32,sl]
end Go.Proofs.YtlbipjmmlobofaaGreatDoor
namespace Go.Proofs.YtlbipjmmlobofaaGreatDoor
open Go.RowKit
set_option linter.unusedVariables false
set_option linter.unusedSimpArgs false
set_option maxRecDepth 100000
set_option maxHeartbeats 4000000

structure TAt (w:World) (g:Nat) (s:Stp):Prop where
 at_:w.heap[g]?=some (.cells (ql s).toArray 28 (0,0))
theorem TAt.kept {w w':World} {g:Nat} {s:Stp} (h:TAt w g s) (k:Kept w w'):TAt w' g s:=⟨k.heap h.at_⟩
theorem TAt.new (w:World) (s:Stp):TAt (w.alloc (.cells (ql s).toArray 28)) w.heap.size s:=⟨heap_alloc_new w _⟩
theorem TAt.cellK {w:World} {g:Nat} {s:Stp} (h:TAt w g s) (k:Nat):w.cell? ⟨g,k,none⟩=(ql s)[k]?:=by
 rw [cell_of_row _ _ k _ _ (0,0) h.at_];simp
theorem TAt.k {w:World} {g:Nat} {s:Stp} (h:TAt w g s):w.cell? ⟨g,0,none⟩=some (.int .i64 s.k):=h.cellK 0
theorem TAt.g {w:World} {g:Nat} {s:Stp} (h:TAt w g s):w.cell? ⟨g,1,none⟩=some (.int .i64 s.g):=h.cellK 1
theorem TAt.n {w:World} {g:Nat} {s:Stp} (h:TAt w g s):w.cell? ⟨g,2,none⟩=some (.int .i64 s.n):=h.cellK 2
theorem TAt.h {w:World} {g:Nat} {s:Stp} (h:TAt w g s):w.cell? ⟨g,3,none⟩=some (.bool s.h):=h.cellK 3
theorem TAt.range {w:World} {g:Nat} {s:Stp} (h:TAt w g s):w.rangeAt g 0 (ql s):=by
 intro j v hv
 rw [Nat.zero_add,h.cellK,hv]
theorem TAt.row {w:World} {g:Nat} {x:Stp} (h:TAt w g x) (y:Stp):TAt (w.setRow g (ql y).toArray) g y:=⟨setRow_heap _ _ _ _ _ _ h.at_⟩
theorem sizeQ:(Tryz.prog.info? 28).map (·.size)=some 4:=by kernel_rfl
theorem ql_sz (s:Stp):(Tryz.prog.info? 28).map (·.size)=some (ql s).toArray.size:=by rw [sizeQ];rfl
theorem ql_one (s:Stp):(ql s).toArray.all (·.oneCell')=true:=by
 rw [Array.all_eq_true_iff_forall_mem]
 intro v hv
 simp only [List.mem_toArray,ql,List.mem_cons,List.not_mem_nil,or_false] at hv
 rcases hv with rfl|rfl|rfl|rfl <;> rfl
theorem qv_ql (s:Stp):qv s=.agg (ql s).toArray:=rfl
theorem infoQ:(Tryz.prog.info? 28).map (fun i=>(i.zero,i.size,i.bytes))=some (some (.agg (ql Zt).toArray),4,32):=by kernel_rfl
theorem zeroQ:(Tryz.prog.info? 28).map (fun i=>(i.zero,i.size))=some (some (.agg (ql Zt).toArray),4):=by kernel_rfl
theorem run_zero_q (w:World):(zeroValue 28).run Tryz.prog w=.ok (.agg (ql Zt).toArray) w:=(zero_of_info zeroQ).1 w
theorem partsQ {P:Program} {t:TypeId} {z:Value} {n b:Nat} (h:(P.info? t).map (fun i=>(i.zero,i.size,i.bytes))=some (some z,n,b)) :
  ∃ i,P.info? t=some i∧i.zero=some z∧i.size=n∧i.bytes=b:=by
 cases hq:P.info? t with
 | none=>simp [hq] at h
 | some i=>simp [hq] at h;exact ⟨i,rfl,h.1,h.2.1,h.2.2⟩
section
variable {ops:Array Oper} {rest:List Oper} {o:Oper} {a:Act} {w:World} {Q:Exit→Act→World→Prop}
theorem wpList_new_q (hgd:o.guard=none) (ho:o.op=.alloc 28)
  (h:wpList Tryz.prog ops Q rest (a.put o.dst (.pointer (some ⟨w.heap.size,0,none⟩))) (w.alloc (.cells (ql Zt).toArray 28))):wpList Tryz.prog ops Q (o::rest) a w:=by
 refine wpList_plain hgd fun _ hK=>?_
 unfold Oper.wp execOp
 simp only [ho,Instr.alloc,Sem.run_bind,run_zero_q,Result.andThen_ok,newVar,newRow,Value.cells]
 exact hK _ _ h
theorem wpList_store_q (hgd:o.guard=none) (x y:Operand) (ho:o.op=.store 28 x y)
  (g:Nat) (j m:Stp) (hg:TAt w g j) (hx:a.eval x=.pointer (some ⟨g,0,none⟩)) (hy:a.eval y=qv m)
  (h:wpList Tryz.prog ops Q rest (a.put o.dst undef) (w.setRow g (ql m).toArray)):wpList Tryz.prog ops Q (o::rest) a w :=
 wpList_store_row hgd 28 x y ho g (ql m).toArray hx hy 28 _ hg.at_ (ql_sz m) rfl (ql_one _) h
theorem wpList_store_newq (hgd:o.guard=none) (x y:Operand) (ho:o.op=.store 28 x y)
  (j k:Stp) (hx:a.eval x=.pointer (some ⟨w.heap.size,0,none⟩)) (hy:a.eval y=qv k)
  (h:wpList Tryz.prog ops Q rest (a.put o.dst undef) (w.alloc (.cells (ql k).toArray 28))):wpList Tryz.prog ops Q (o::rest) a (w.alloc (.cells (ql j).toArray 28)):=by
 refine wpList_store_row hgd 28 x y ho w.heap.size (ql k).toArray hx hy 28 _ (heap_alloc_new w _) (ql_sz k) rfl (ql_one _) ?_
 rw [World.setRow_alloc_new]
 exact h
theorem wpList_load_q (hw:Region.wanted o (yielded ops a.tmps)=true) (x:Operand) (ho:o.op=.load 28 x)
  (g off:Nat) (hx:a.eval x=.pointer (some ⟨g,off,none⟩)) (s:Stp) (hg:w.rangeAt g off (ql s))
  (h:wpList Tryz.prog ops Q rest (a.put o.dst (qv s)) w):wpList Tryz.prog ops Q (o::rest) a w :=
 wpList_step fun _ hK=>by
  rw [if_pos hw]
  exact wp_load_mid 28 x ho g off hx (ql s) _ hg Tryz.underlying28 rfl sizeQ (hK _ _ h)
theorem bt_q3 (k g n:Int):Tryz.prog.built 28 [(0,.int .i64 k),(1,.int .i64 g),(2,.int .i64 n)]=some (ql ⟨k,g,n,false⟩).toArray:=by kernel_rfl
theorem bt_q2 (k g:Int):Tryz.prog.built 28 [(0,.int .i64 k),(1,.int .i64 g)]=some (ql ⟨k,g,0,false⟩).toArray:=by kernel_rfl
theorem bt_q1 (k:Int):Tryz.prog.built 28 [(0,.int .i64 k)]=some (ql ⟨k,0,0,false⟩).toArray:=by kernel_rfl
theorem bt_q0:Tryz.prog.built 28 []=some (ql Zt).toArray:=by kernel_rfl
theorem wpList_bt_q3 (hg:o.guard=none) (x0 x1 x2:Operand) (ho:o.op=.build 28 #[(0,x0),(1,x1),(2,x2)]) (i j k:Int) (h0:a.eval x0=.int .i64 i) (h1:a.eval x1=.int .i64 j) (h2:a.eval x2=.int .i64 k)
  (h:wpList Tryz.prog ops Q rest (a.put o.dst (qv ⟨i,j,k,false⟩)) w):wpList Tryz.prog ops Q (o::rest) a w :=
 wpList_built hg _ _ ho _ (by
  have:((#[(0,x0),(1,x1),(2,x2)]:Array (Nat × Operand)).map fun (i,x)=>(i,a.eval x)).toList=[(0,.int .i64 i),(1,.int .i64 j),(2,.int .i64 k)]:=by simp [h0,h1,h2]
  rw [this];exact bt_q3 i j k) h
theorem wpList_bt_q2 (hg:o.guard=none) (x0 x1:Operand) (ho:o.op=.build 28 #[(0,x0),(1,x1)]) (i j:Int) (h0:a.eval x0=.int .i64 i) (h1:a.eval x1=.int .i64 j)
  (h:wpList Tryz.prog ops Q rest (a.put o.dst (qv ⟨i,j,0,false⟩)) w):wpList Tryz.prog ops Q (o::rest) a w :=
 wpList_built hg _ _ ho _ (by
  have:((#[(0,x0),(1,x1)]:Array (Nat × Operand)).map fun (i,x)=>(i,a.eval x)).toList=[(0,.int .i64 i),(1,.int .i64 j)]:=by simp [h0,h1]
  rw [this];exact bt_q2 i j) h
theorem wpList_bt_q1 (hg:o.guard=none) (x0:Operand) (ho:o.op=.build 28 #[(0,x0)]) (i:Int) (h0:a.eval x0=.int .i64 i)
  (h:wpList Tryz.prog ops Q rest (a.put o.dst (qv ⟨i,0,0,false⟩)) w):wpList Tryz.prog ops Q (o::rest) a w :=
 wpList_built hg _ _ ho _ (by
  have:((#[(0,x0)]:Array (Nat × Operand)).map fun (i,x)=>(i,a.eval x)).toList=[(0,.int .i64 i)]:=by simp [h0]
  rw [this];exact bt_q1 i) h
theorem run_bslice_q (s:Stp) (w:World):(Instr.buildSlice 133 1 #[(0,qv s)]).run Tryz.prog w=.ok (.slice (some ⟨w.heap.size,0,none⟩) 1 1) (w.alloc (.cells (ql s).toArray 28)):=by
 have hs:(sizeOf 28).run Tryz.prog w=.ok 4 w:=by
  cases hq:Tryz.prog.info? 28 with
  | none=>have:=sizeQ;simp [hq] at this
  | some i=>have:=sizeQ;simp [hq] at this;simp [sizeOf,typeInfo,hq,this]
 have hf:Instr.fill (fun i=>some (i*4,4)) (Array.map (fun x=>[Value.int .i64 0,Value.int .i64 0,Value.int .i64 0,Value.bool false][x % 4]?.getD default) (Array.range 4)) [(0,.agg (ql s).toArray)]=some (ql s).toArray:=by obtain ⟨k,g,n,h⟩:=s;kernel_rfl
 have hz:ql Zt=[Value.int .i64 0,Value.int .i64 0,Value.int .i64 0,Value.bool false]:=rfl
 rw [qv_ql]
 simp only [Instr.buildSlice,Sem.run_bind,run_underlying Tryz.underlying133,Result.andThen_ok,hs,run_zero_q,Sem.run_pure,Value.cells]
 simp [run_zero_q,newRow,hs,hz,hf]
theorem wpList_bslice_q (hgd:o.guard=none) (x:Operand) (ho:o.op=.buildSlice 133 1 #[(0,x)])
  (s:Stp) (hx:a.eval x=qv s)
  (h:wpList Tryz.prog ops Q rest (a.put o.dst (.slice (some ⟨w.heap.size,0,none⟩) 1 1)) (w.alloc (.cells (ql s).toArray 28))):wpList Tryz.prog ops Q (o::rest) a w:=by
 refine wpList_plain hgd fun _ hK=>?_
 have hp:((#[(0,x)]:Array (Nat × Operand)).map fun (i,x)=>(i,a.eval x))=#[(0,qv s)]:=by simp [hx]
 unfold Oper.wp execOp
 simp only [ho,hp,Sem.run_bind,run_bslice_q,Result.andThen_ok,Sem.run_pure]
 exact hK _ _ h
end
theorem take_load_q {ops:Array Oper} {S:World→Prop} {op:Oper} {a:Act} (hw:Region.wanted op (yielded ops a.tmps)=true) (x:Operand) (ho:op.op=.load 28 x)
  (g off:Nat) (hx:a.eval x=.pointer (some ⟨g,off,none⟩)) (s:Stp) (hS:∀ w,S w→w.rangeAt g off (ql s)):YieldsIf Tryz.prog ops S op (qv s) a :=
 yieldsIf_load_mid hw 28 x ho g off hx (ql s) _ hS Tryz.underlying28 rfl sizeQ
def qlL (L:List Stp):List Value:=L.flatMap ql
theorem qlL_len:∀ L:List Stp,(qlL L).length=L.length*4
 | []=>rfl
 | m::L=>by
  show (ql m++qlL L).length=_
  rw [List.length_append,qlL_len L,List.length_cons]
  show 4+_=_
  omega
theorem qlL_app (L K:List Stp):qlL (L++K)=qlL L++qlL K:=by simp [qlL]
theorem qlL_at:∀ (L:List Stp) (i j:Nat) (m:Stp),L[i]?=some m→j<4→(qlL L)[4*i+j]?=(ql m)[j]?
 | [],_,_,_,h,_=>by simp at h
 | a::L,0,j,m,h,hj=>by
  have:a=m:=by simpa using h
  subst this
  show (ql a++qlL L)[4*0+j]?=_
  rw [Nat.mul_zero,Nat.zero_add,List.getElem?_append_left (by show j<4;exact hj)]
 | a::L,i+1,j,m,h,hj=>by
  show (ql a++qlL L)[4*(i+1)+j]?=_
  rw [List.getElem?_append_right (by show 4≤_;omega)]
  show (qlL L)[4*(i+1)+j-4]?=_
  rw [show 4*(i+1)+j-4=4*i+j by omega]
  exact qlL_at L i j m (by simpa using h) hj
theorem qlL_one {L:List Stp} {u:Value} (h:u ∈ qlL L):u.oneCell'=true:=by
 unfold qlL at h
 obtain ⟨m,_,h⟩:=List.mem_flatMap.1 h
 simp only [ql,List.mem_cons,List.not_mem_nil,or_false] at h
 rcases h with rfl|rfl|rfl|rfl <;> rfl
def OwnQ (w:World) (base:Nat) (v:Value) (L:List Stp):Prop:=w.ownsRow base 28 4 v L.length (qlL L)
theorem OwnQ.nil (w:World) (base:Nat):OwnQ w base (.slice none 0 0) []:=World.ownsRow_nil _ _ _ _
theorem OwnQ.kept {w w':World} {base:Nat} {v:Value} {l:List Stp} (h:OwnQ w base v l) (k:Kept w w'):OwnQ w' base v l:=by
 obtain ⟨h1,h2⟩:=h
 refine ⟨h1,?_⟩
 rcases h2 with h2|⟨b,cap,cur,e1,e2,e3,e4⟩
 ·exact .inl h2
 ·exact .inr ⟨b,cap,cur,e1,e2,k.heap e3,e4⟩
theorem OwnQ.grown {w w':World} {base:Nat} {v:Value} {l:List Stp} (h:OwnQ w base v l) {a:World} (k:Kept a w) (hb:a.heap.size≤base) (hg:w.grownBy w' v.ownBlock):Kept a w' :=
 k.grownBy hg (fun g hgv=>by have:=(World.ownsRow.lt h g hgv).1;omega)
def LsQ (w:World) (g:Nat) (v:Value) (L:List Stp):Prop:=∃ off cap,v=.slice (some ⟨g,off,none⟩) L.length cap∧L.length≤cap∧cap≤maxLen∧w.rangeAt g off (qlL L)
theorem range_q {w:World} {g off:Nat} {l:List Stp} (h:w.rangeAt g off (qlL l)) {i:Nat} {m:Stp} (hi:l[i]?=some m):w.rangeAt g (off+4*i) (ql m):=by
 intro j v hv
 have hj:j<4:=by have:=(List.getElem?_eq_some_iff.1 hv).1;exact this
 rw [Nat.add_assoc]
 exact h _ _ (by rw [qlL_at l i j m hi hj];exact hv)
theorem OwnQ.ls {w:World} {base:Nat} {v:Value} {l:List Stp} (h:OwnQ w base v l) (hl:0<l.length):∃ g,LsQ w g v l∧g<w.heap.size:=by
 rcases h.2 with ⟨e,h0⟩|⟨g,cap,cur,e,hb,hh,hnc,hcm,hcs,ht⟩
 ·omega
 ·refine ⟨g,⟨0,cap,e,hnc,hcm,fun i x hx=>?_⟩,lt_of_heap hh⟩
  have hi:i<l.length*4:=by
   have:=(List.getElem?_eq_some_iff.1 hx).1
   rwa [qlL_len] at this
  rw [Nat.zero_add,cell_of_row w g i cur _ (0,0) hh]
  have h2:(cur.toList.take (l.length*4))[i]?=(qlL l)[i]?:=by rw [ht]
  rw [List.getElem?_take,if_pos hi] at h2
  simp only [Array.getElem?_toList] at h2
  rw [h2,hx]
theorem LsQ.lit (w:World) (m:Stp):LsQ (w.alloc (.cells (ql m).toArray 28)) w.heap.size (.slice (some ⟨w.heap.size,0,none⟩) 1 1) [m]:=by
 refine ⟨0,1,rfl,Nat.le_refl _,by unfold maxLen;omega,fun i x hx=>?_⟩
 rw [cell_of_row _ _ _ _ _ (0,0) (heap_alloc_new w _)]
 simpa [qlL] using hx
theorem wpList_append_q {ops:Array Oper} {rest:List Oper} {o:Oper} {a:Act} {w:World} {Q:Exit→Act→World→Prop} (hgd:o.guard=none) (s x:Operand)
  (ho:o.op=.call { callee:=.builtin .append,args:=#[s,x],argTypes:=#[133,133] })
  (base g:Nat) (v vx:Value) (l L:List Stp) (hs:a.eval s=v) (hx:a.eval x=vx) (hown:OwnQ w base v l) (hL:LsQ w g vx L) (hlen:l.length+L.length≤100000) (hbase:base≤w.heap.size)
  (h:∀ v' w',OwnQ w' base v' (l++L)→w.grownBy w' v.ownBlock→wpList Tryz.prog ops Q rest (a.put o.dst v') w'):wpList Tryz.prog ops Q (o::rest) a w:=by
 obtain ⟨i0,hi0,hz0,hz1,hz2⟩:=partsQ infoQ
 obtain ⟨off,cap,e,hnc,hcm,hcell⟩:=hL
 rw [e] at hx
 refine wpList_append_own w hgd s x 133 ho base 28 i0 (.agg (ql Zt).toArray) 4 32 Tryz.underlying133 hi0 hz0 hz1 hz2 rfl (by decide) v _ _ hs hown ⟨g,off,none⟩ L.length cap (qlL L) hx (qlL_len L) ?_ (fun u hu=>qlL_one hu) ?_ ?_ hbase ?_
 ·intro j u hu
  rw [show (⟨g,off,none⟩:Addr).add j=⟨g,off+j,none⟩ by unfold Addr.add;split <;> simp_all]
  exact hcell j u hu
 ·unfold maxLen;omega
 ·omega
 ·intro v' w' h1 h2 _
  refine h v' w' ?_ h2
  unfold OwnQ
  rw [qlL_app,List.length_append]
  exact h1
set_option maxHeartbeats 4000000

theorem okG_t (k g:Int):okG k g=true↔(k=8∧g=0)∨((1≤k∧k≤7)∧(1≤g∧g≤2)):=by unfold okG;simp only [Bool.or_eq_true,Bool.and_eq_true,decide_eq_true_eq]
theorem okG_f (k g:Int):okG k g=false↔¬ ((k=8∧g=0)∨((1≤k∧k≤7)∧(1≤g∧g≤2))):=by rw [← okG_t,Bool.not_eq_true]
theorem together_is (k g:Int) (w:World):Calls Tryz.prog 87 #[.int .i64 k,.int .i64 g] w fun e w'=>e=.returned (.bool (okG k g))∧w=w':=by
 by_cases h8:k=8
 ·have b8:(k == 8)=true:=beq_iff_eq.2 h8
  by_cases h0:g=0
  ·have b0:(g == 0)=true:=beq_iff_eq.2 h0
   have HE:=Qh (show okG k g=true by rw [okG_t];omega)
   clear h8 h0
   go_enter Tryz.func87,Tryz.ntmps87
   go_wp2
   go_ret
   exact ⟨by rw [HE.out];first|done|rfl,rfl⟩
  ·have b0:(g == 0)=false:=beq_eq_false_iff_ne.2 h0
   have HE:=Qh (show okG k g=false by rw [okG_f];omega)
   clear h8 h0
   go_enter Tryz.func87,Tryz.ntmps87
   go_wp2
   go_ret
   exact ⟨by rw [HE.out];first|done|rfl,rfl⟩
 ·have b8:(k == 8)=false:=beq_eq_false_iff_ne.2 h8
  by_cases h1:1≤k
  ·by_cases h2:k<8
   ·by_cases h3:1≤g
    ·by_cases h4:g≤2
     ·have HE:=Qh (show okG k g=true by rw [okG_t];omega)
      clear h8
      go_enter Tryz.func87,Tryz.ntmps87
      go_wp2
      go_ret
      exact ⟨by rw [HE.out];first|done|rfl,rfl⟩
     ·have HE:=Qh (show okG k g=false by rw [okG_f];omega)
      clear h8
      go_enter Tryz.func87,Tryz.ntmps87
      go_wp2
      go_ret
      exact ⟨by rw [HE.out];first|done|rfl,rfl⟩
    ·have HE:=Qh (show okG k g=false by rw [okG_f];omega)
     clear h8
     go_enter Tryz.func87,Tryz.ntmps87
     go_wp2
     go_ret
     exact ⟨by rw [HE.out];first|done|rfl,rfl⟩
   ·have HE:=Qh (show okG k g=false by rw [okG_f];omega)
    clear h8
    go_enter Tryz.func87,Tryz.ntmps87
    go_wp2
    go_ret
    exact ⟨by rw [HE.out];first|done|rfl,rfl⟩
  ·have HE:=Qh (show okG k g=false by rw [okG_f];omega)
   clear h8
   go_enter Tryz.func87,Tryz.ntmps87
   go_wp2
   go_ret
   exact ⟨by rw [HE.out];first|done|rfl,rfl⟩
theorem okN_t (k n:Int):okN k n true=(decide (k=5) && (decide (0≤n) && decide (n≤64))):=rfl
theorem okN_n (k n:Int):okN k n false=(decide (0<n) && decide (n≤64)):=rfl
theorem counted_is (s:Stp) (w:World):Calls Tryz.prog 88 #[qv s] w fun e w'=>e=.returned (.bool (okN s.k s.n s.h))∧Kept w w':=by
 obtain ⟨k,g,n,h⟩:=s
 have HK:=Qh ((Kept.refl w).alloc (.cells (ql ⟨k,g,n,h⟩).toArray 28))
 unfold qv
 unfold ql at HK
 dsimp only at HK ⊢
 cases h
 ·by_cases h1:0<n
  ·by_cases h2:n≤64
   ·have HE:=Qh (show okN k n false=true by rw [okN_n];simp;omega)
    go_enter Tryz.func88,Tryz.ntmps88
    go_wp2
    go_ret
    exact ⟨by rw [HE.out];first|done|rfl,HK.out⟩
   ·have HE:=Qh (show okN k n false=false by rw [okN_n];simp;omega)
    go_enter Tryz.func88,Tryz.ntmps88
    go_wp2
    go_ret
    exact ⟨by rw [HE.out];first|done|rfl,HK.out⟩
  ·have HE:=Qh (show okN k n false=false by rw [okN_n];simp;omega)
   go_enter Tryz.func88,Tryz.ntmps88
   go_wp2
   go_ret
   exact ⟨by rw [HE.out];first|done|rfl,HK.out⟩
 ·by_cases h5:k=5
  ·have b5:(k == 5)=true:=beq_iff_eq.2 h5
   by_cases h1:0≤n
   ·by_cases h2:n≤64
    ·have HE:=Qh (show okN k n true=true by rw [okN_t];simp;omega)
     clear h5
     go_enter Tryz.func88,Tryz.ntmps88
     go_wp2
     go_ret
     exact ⟨by rw [HE.out];first|done|rfl,HK.out⟩
    ·have HE:=Qh (show okN k n true=false by rw [okN_t];simp;omega)
     clear h5
     go_enter Tryz.func88,Tryz.ntmps88
     go_wp2
     go_ret
     exact ⟨by rw [HE.out];first|done|rfl,HK.out⟩
   ·have HE:=Qh (show okN k n true=false by rw [okN_t];simp;omega)
    clear h5
    go_enter Tryz.func88,Tryz.ntmps88
    go_wp2
    go_ret
    exact ⟨by rw [HE.out];first|done|rfl,HK.out⟩
  ·have b5:(k == 5)=false:=beq_eq_false_iff_ne.2 h5
   have HE:=Qh (show okN k n true=false by rw [okN_t];simp;omega)
   clear h5
   go_enter Tryz.func88,Tryz.ntmps88
   go_wp2
   go_ret
   exact ⟨by rw [HE.out];first|done|rfl,HK.out⟩
theorem right_is (s:Stp) (w:World):Calls Tryz.prog 43 #[qv s] w fun e w'=>e=.returned (.bool (okSt s))∧Kept w w':=by
 have HW:=Qh (TAt.new w s)
 have HK:=Qh ((Kept.refl w).alloc (.cells (ql s).toArray 28))
 have HG:Hid (okSt s=(okG s.k s.g && okN s.k s.n s.h)):=Qh rfl
 obtain ⟨k,g,n,h⟩:=s
 unfold qv
 unfold ql at HK
 dsimp only at HK HG ⊢
 obtain ⟨b,hb⟩:∃ b,okG k g=b:=⟨_,rfl⟩
 have HB:=Qh hb
 clear hb
 cases b
 ·have HE:=Qh (show okSt ⟨k,g,n,h⟩=false by rw [HG.out,HB.out,Bool.false_and])
  go_enter Tryz.func43,Tryz.ntmps43
  go_wp2_with fail
  refine (together_is k g _).mono ?_
  rintro e w' ⟨rfl,rfl⟩
  rw [HB.out]
  go_wp2
  go_ret
  exact ⟨by rw [HE.out];first|done|rfl,HK.out⟩
 ·have HE:=Qh (show okSt ⟨k,g,n,h⟩=okN k n h by rw [HG.out,HB.out,Bool.true_and])
  go_enter Tryz.func43,Tryz.ntmps43
  go_wp2_with fail
  refine (together_is k g _).mono ?_
  rintro e w' ⟨rfl,rfl⟩
  rw [HB.out]
  go_wp2_with (refine wpList_load_q (by rfl) _ rfl _ 0 rfl ⟨k,g,n,h⟩ HW.out.range ?_)
  refine (counted_is ⟨k,g,n,h⟩ _).mono ?_
  rintro e w2 ⟨rfl,g2⟩
  have HK2:=Qh (HK.out.trans g2)
  clear g2
  go_wp2
  go_ret
  exact ⟨by rw [HE.out];first|done|rfl,HK2.out⟩
theorem least_is (s:Stp) (w:World):Calls Tryz.prog 112 #[qv s] w fun e w'=>e=.returned (.int .i64 (lstI (decide (s.k=5))))∧Kept w w':=by
 have HK:=Qh ((Kept.refl w).alloc (.cells (ql s).toArray 28))
 obtain ⟨k,g,n,h⟩:=s
 unfold qv
 unfold ql at HK
 dsimp only at HK ⊢
 by_cases h5:k=5
 ·have b5:(k == 5)=true:=beq_iff_eq.2 h5
  have HE:=Qh (show lstI (decide (k=5))=0 by rw [decide_eq_true h5];rfl)
  clear h5
  go_enter Tryz.func112,Tryz.ntmps112
  go_wp2
  go_ret
  exact ⟨by rw [HE.out];first|done|rfl,HK.out⟩
 ·have b5:(k == 5)=false:=beq_eq_false_iff_ne.2 h5
  have HE:=Qh (show lstI (decide (k=5))=1 by rw [decide_eq_false h5];rfl)
  clear h5
  go_enter Tryz.func112,Tryz.ntmps112
  go_wp2
  go_ret
  exact ⟨by rw [HE.out];first|done|rfl,HK.out⟩
set_option maxHeartbeats 4000000

structure TabS (w:World):Prop where
 kinds:∀ i:Nat,i<7→w.cell? ⟨0,i,none⟩=some (.string (kT ((i:Int)+1)))
 goals:∀ i:Nat,i<2→w.cell? ⟨1,i,none⟩=some (.string (gT ((i:Int)+1)))
theorem TabS.kept {w w':World} (h:TabS w) (k:Kept w w'):TabS w':=⟨fun i hi=>kept_cell k (h.kinds i hi),fun i hi=>kept_cell k (h.goals i hi)⟩
theorem opT_8:opT 8 0=⟨#[100,105,97,32]⟩:=bs_inj (by rw [bs_opT];rfl)
theorem head_is (k g n:Int) (h:Bool) (hv:okG k g=true) (w:World) (hT:TabS w):Calls Tryz.prog 44 #[qv ⟨k,g,n,h⟩] w fun e w'=>e=.returned (.string (opT k g))∧Kept w w':=by
 have HK:=Qh ((Kept.refl w).alloc (.cells (ql ⟨k,g,n,h⟩).toArray 28))
 have HT:=hT.kept HK.out
 have hk:=HT.kinds
 have hgl:=HT.goals
 clear HT hT
 unfold qv
 unfold ql at HK hk hgl
 dsimp only at HK hk hgl ⊢
 rw [okG_t] at hv
 rcases hv with ⟨rfl,rfl⟩|⟨⟨h1,h2⟩,h3,h4⟩
 ·go_enter Tryz.func44,Tryz.ntmps44
  go_wp2
  go_ret
  exact ⟨by rw [opT_8];first|done|rfl,HK.out⟩
 ·have a:k=1∨k=2∨k=3∨k=4∨k=5∨k=6∨k=7:=by omega
  have b:g=1∨g=2:=by omega
  clear h1 h2 h3 h4
  rcases a with rfl|rfl|rfl|rfl|rfl|rfl|rfl
  ·have hk1:=hk 0 (by omega)
   have z1:(kT 1).size≤6:=by decide
   clear hk
   rcases b with rfl|rfl
   ·have hg1:=hgl 0 (by omega)
    have z2:(gT 1).size≤1:=by decide
    clear hgl
    go_enter Tryz.func44,Tryz.ntmps44
    go_wp2_with fail
    go_region
    all_goals
     go_wp2
     go_ret
     exact ⟨rfl,by first|exact HK.out.drewN _|exact HK.out.drew|exact HK.out⟩
   ·have hg1:=hgl 1 (by omega)
    have z2:(gT 2).size≤1:=by decide
    clear hgl
    go_enter Tryz.func44,Tryz.ntmps44
    go_wp2_with fail
    go_region
    all_goals
     go_wp2
     go_ret
     exact ⟨rfl,by first|exact HK.out.drewN _|exact HK.out.drew|exact HK.out⟩
  ·have hk1:=hk 1 (by omega)
   have z1:(kT 2).size≤6:=by decide
   clear hk
   rcases b with rfl|rfl
   ·have hg1:=hgl 0 (by omega)
    have z2:(gT 1).size≤1:=by decide
    clear hgl
    go_enter Tryz.func44,Tryz.ntmps44
    go_wp2_with fail
    go_region
    all_goals
     go_wp2
     go_ret
     exact ⟨rfl,by first|exact HK.out.drewN _|exact HK.out.drew|exact HK.out⟩
   ·have hg1:=hgl 1 (by omega)
    have z2:(gT 2).size≤1:=by decide
    clear hgl
    go_enter Tryz.func44,Tryz.ntmps44
    go_wp2_with fail
    go_region
    all_goals
     go_wp2
     go_ret
     exact ⟨rfl,by first|exact HK.out.drewN _|exact HK.out.drew|exact HK.out⟩
  ·have hk1:=hk 2 (by omega)
   have z1:(kT 3).size≤6:=by decide
   clear hk
   rcases b with rfl|rfl
   ·have hg1:=hgl 0 (by omega)
    have z2:(gT 1).size≤1:=by decide
    clear hgl
    go_enter Tryz.func44,Tryz.ntmps44
    go_wp2_with fail
    go_region
    all_goals
     go_wp2
     go_ret
     exact ⟨rfl,by first|exact HK.out.drewN _|exact HK.out.drew|exact HK.out⟩
   ·have hg1:=hgl 1 (by omega)
    have z2:(gT 2).size≤1:=by decide
    clear hgl
    go_enter Tryz.func44,Tryz.ntmps44
    go_wp2_with fail
    go_region
    all_goals
     go_wp2
     go_ret
     exact ⟨rfl,by first|exact HK.out.drewN _|exact HK.out.drew|exact HK.out⟩
  ·have hk1:=hk 3 (by omega)
   have z1:(kT 4).size≤6:=by decide
   clear hk
   rcases b with rfl|rfl
   ·have hg1:=hgl 0 (by omega)
    have z2:(gT 1).size≤1:=by decide
    clear hgl
    go_enter Tryz.func44,Tryz.ntmps44
    go_wp2_with fail
    go_region
    all_goals
     go_wp2
     go_ret
     exact ⟨rfl,by first|exact HK.out.drewN _|exact HK.out.drew|exact HK.out⟩
   ·have hg1:=hgl 1 (by omega)
    have z2:(gT 2).size≤1:=by decide
    clear hgl
    go_enter Tryz.func44,Tryz.ntmps44
    go_wp2_with fail
    go_region
    all_goals
     go_wp2
     go_ret
     exact ⟨rfl,by first|exact HK.out.drewN _|exact HK.out.drew|exact HK.out⟩
  ·have hk1:=hk 4 (by omega)
   have z1:(kT 5).size≤6:=by decide
   clear hk
   rcases b with rfl|rfl
   ·have hg1:=hgl 0 (by omega)
    have z2:(gT 1).size≤1:=by decide
    clear hgl
    go_enter Tryz.func44,Tryz.ntmps44
    go_wp2_with fail
    go_region
    all_goals
     go_wp2
     go_ret
     exact ⟨rfl,by first|exact HK.out.drewN _|exact HK.out.drew|exact HK.out⟩
   ·have hg1:=hgl 1 (by omega)
    have z2:(gT 2).size≤1:=by decide
    clear hgl
    go_enter Tryz.func44,Tryz.ntmps44
    go_wp2_with fail
    go_region
    all_goals
     go_wp2
     go_ret
     exact ⟨rfl,by first|exact HK.out.drewN _|exact HK.out.drew|exact HK.out⟩
  ·have hk1:=hk 5 (by omega)
   have z1:(kT 6).size≤6:=by decide
   clear hk
   rcases b with rfl|rfl
   ·have hg1:=hgl 0 (by omega)
    have z2:(gT 1).size≤1:=by decide
    clear hgl
    go_enter Tryz.func44,Tryz.ntmps44
    go_wp2_with fail
    go_region
    all_goals
     go_wp2
     go_ret
     exact ⟨rfl,by first|exact HK.out.drewN _|exact HK.out.drew|exact HK.out⟩
   ·have hg1:=hgl 1 (by omega)
    have z2:(gT 2).size≤1:=by decide
    clear hgl
    go_enter Tryz.func44,Tryz.ntmps44
    go_wp2_with fail
    go_region
    all_goals
     go_wp2
     go_ret
     exact ⟨rfl,by first|exact HK.out.drewN _|exact HK.out.drew|exact HK.out⟩
  ·have hk1:=hk 6 (by omega)
   have z1:(kT 7).size≤6:=by decide
   clear hk
   rcases b with rfl|rfl
   ·have hg1:=hgl 0 (by omega)
    have z2:(gT 1).size≤1:=by decide
    clear hgl
    go_enter Tryz.func44,Tryz.ntmps44
    go_wp2_with fail
    go_region
    all_goals
     go_wp2
     go_ret
     exact ⟨rfl,by first|exact HK.out.drewN _|exact HK.out.drew|exact HK.out⟩
   ·have hg1:=hgl 1 (by omega)
    have z2:(gT 2).size≤1:=by decide
    clear hgl
    go_enter Tryz.func44,Tryz.ntmps44
    go_wp2_with fail
    go_region
    all_goals
     go_wp2
     go_ret
     exact ⟨rfl,by first|exact HK.out.drewN _|exact HK.out.drew|exact HK.out⟩
end Go.Proofs.YtlbipjmmlobofaaGreatDoor
