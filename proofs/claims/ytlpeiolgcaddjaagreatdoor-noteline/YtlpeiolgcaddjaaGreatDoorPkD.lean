/- BoN · BoP · PoA · PoB · PoC: my texts, in their order. -/
import Derived.Test.YtlpeiolgcaddjaaGreatDoorPkA
import Derived.Test.YtlpeiolgcaddjaaGreatDoorPkC
import Derived.Laws.StructEq
namespace Go.Proofs.YtlpeiolgcaddjaaGreatDoor
open Go.RowKit
set_option linter.unusedVariables false
set_option linter.unusedSimpArgs false
set_option maxRecDepth 100000
theorem Zb_len:Zb.length=64:=Zb_brd.1
theorem wpList_store_new {ops:Array Oper} {rest:List Oper} {o:Oper} {a:Act} {w:World} {Q:Exit→Act→World→Prop} (hgd:o.guard=none) (x y:Operand) (ho:o.op=.store 24 x y)
  (A B:List Int) (hA:A.length=64) (hB:B.length=64) (hx:a.eval x=.pointer (some ⟨w.heap.size,0,none⟩)) (hy:a.eval y=.agg (cl B).toArray)
  (h:wpList Tryz.prog ops Q rest (a.put o.dst undef) (w.alloc (.cells (cl B).toArray 24))):wpList Tryz.prog ops Q (o::rest) a (w.alloc (.cells (cl A).toArray 24)):=by
 refine wpList_store_row hgd 24 x y ho w.heap.size (cl B).toArray hx hy 24 _ (heap_alloc_new w _) (Jf hB) (by rw [cl_size _ hA,cl_size _ hB]) (cl_one _) ?_;rw [World.setRow_alloc_new];exact h
def flipN (i:Nat):Nat:=(7-i / 8)*8+i % 8
def negI (x:Int):Int:=IntKind.i8.wrap (-x)
def tk (B:List Int) (k:Nat):Nat→Int:=fun i=>if flipN i<k then negI (B.getD (flipN i) 0) else 0
structure Ps where
 B:List Int
 t:Int
 c:Int
 e:Int
def tlP (p:Ps):List Value:=[.int .i64 p.t,.int .i64 p.c,.int .i64 p.e]
def pl (p:Ps):List Value:=cl p.B++tlP p
theorem pl_length {p:Ps} (h:p.B.length=64):(pl p).length=67:=by simp [pl,tlP,Yp,h]
theorem pl_size {p:Ps} (h:p.B.length=64):(pl p).toArray.size=67:=by simpa using pl_length h
theorem pl_one (p:Ps):(pl p).toArray.all (·.oneCell')=true:=by
 rw [Array.all_eq_true_iff_forall_mem];intro v hv;simp only [List.mem_toArray,pl,cl,tlP,List.mem_append,List.mem_map,List.mem_cons,List.not_mem_nil,or_false] at hv;rcases hv with ⟨x,_,rfl⟩|rfl|rfl|rfl <;> rfl
theorem sizeP:(Tryz.prog.info? 26).map (·.size)=some 67:=by kernel_rfl
theorem size_pl {p:Ps} (h:p.B.length=64):(Tryz.prog.info? 26).map (·.size)=some (pl p).toArray.size:=by rw [sizeP,pl_size h]
structure PAt (w:World) (g:Nat) (p:Ps):Prop where
 len:p.B.length=64
 at_:w.heap[g]?=some (.cells (pl p).toArray 26 (0,0))
theorem PAt.kept {w w':World} {g:Nat} {p:Ps} (h:PAt w g p) (k:Kept w w'):PAt w' g p:=⟨h.len,k.heap h.at_⟩
theorem PAt.new (w:World) {p:Ps} (h:p.B.length=64):PAt (w.alloc (.cells (pl p).toArray 26)) w.heap.size p:=⟨h,heap_alloc_new w _⟩
theorem PAt.cellK {w:World} {g:Nat} {p:Ps} (h:PAt w g p) (k:Nat):w.cell? ⟨g,k,none⟩=(pl p)[k]?:=by
 rw [cell_of_row _ _ k _ _ (0,0) h.at_];simp
theorem PAt.cellT {w:World} {g:Nat} {p:Ps} (h:PAt w g p) (k:Nat) {v:Value} (hk:(tlP p)[k]?=some v):w.cell? ⟨g,64+k,none⟩=some v:=by
 have h1:=Yp p.B;have h2:=h.len;rw [h.cellK];unfold pl;rw [List.getElem?_append_right (by omega),show 64+k-(cl p.B).length=k by omega,hk]
theorem PAt.turn {w:World} {g:Nat} {p:Ps} (h:PAt w g p):w.cell? ⟨g,64,none⟩=some (.int .i64 p.t):=h.cellT 0 rfl
theorem PAt.cas {w:World} {g:Nat} {p:Ps} (h:PAt w g p):w.cell? ⟨g,65,none⟩=some (.int .i64 p.c):=h.cellT 1 rfl
theorem PAt.ep {w:World} {g:Nat} {p:Ps} (h:PAt w g p):w.cell? ⟨g,66,none⟩=some (.int .i64 p.e):=h.cellT 2 rfl
theorem PAt.sq {w:World} {g:Nat} {p:Ps} (h:PAt w g p) (k:Nat) (hk:k<64):w.cell? ⟨g,k,none⟩=some (.int .i8 (p.B.getD k 0)):=by
 have h1:=Yp p.B;have h2:=h.len;rw [h.cellK];unfold pl;rw [List.getElem?_append_left (by omega),cl_get _ _ (by omega)]
theorem PAt.frozen {w:World} {g:Nat} {p:Ps} (h:PAt w g p) (k:Nat):w.frozen? ⟨g,k,none⟩=false:=frozen_of_row w g k _ _ h.at_
theorem PAt.range {w:World} {g:Nat} {p:Ps} (h:PAt w g p):w.rangeAt g 0 (pl p):=by
 intro j v hv;rw [Nat.zero_add,h.cellK,hv]
theorem PAt.rangeB {w:World} {g:Nat} {p:Ps} (h:PAt w g p):w.rangeAt g 0 (cl p.B):=by
 intro j v hv;have hj:j<(cl p.B).length:=(List.getElem?_eq_some_iff.1 hv).1;rw [Nat.zero_add,h.cellK];unfold pl;rw [List.getElem?_append_left hj,hv]
theorem PAt.set {w:World} {g:Nat} {p:Ps} (h:PAt w g p) (k:Nat) (v:Value) {q:Ps} (hb:q.B=p.B) (hq:(tlP p).set k v=tlP q):PAt (w.setCell ⟨g,64+k,none⟩ v) g q:=by
 refine ⟨by rw [hb];exact h.len,?_⟩;have hl:(cl p.B).length=64:=by rw [Yp,h.len]
 rw [heap_setCell_same w g (64+k) _ _ _ h.at_]
 congr 2
 unfold pl;rw [List.setIfInBounds_toArray,List.set_append_right _ _ (by omega),show 64+k-(cl p.B).length=k by omega,hq,hb]
theorem Qc {ops:Array Oper} {rest:List Oper} {op:Oper} {a:Act} {w:World} {Q:Exit→Act→World→Prop} (hw:Region.wanted op (yielded ops a.tmps)=true) (x:Operand) (ho:op.op=.load 26 x)
  (g:Nat) (hx:a.eval x=.pointer (some ⟨g,0,none⟩)) (p:Ps) (hg:PAt w g p)
  (h:wpList Tryz.prog ops Q rest (a.put op.dst (.agg (pl p).toArray)) w):wpList Tryz.prog ops Q (op::rest) a w :=
 wpList_step fun _ hK=>by
  rw [if_pos hw];exact wp_load_mid 26 x ho g 0 hx (pl p) _ hg.range Tryz.underlying26 rfl (by rw [sizeP,pl_length hg.len]) (hK _ _ h)
theorem Qd {ops:Array Oper} {rest:List Oper} {op:Oper} {a:Act} {w:World} {Q:Exit→Act→World→Prop} (hw:Region.wanted op (yielded ops a.tmps)=true) (x:Operand) (ho:op.op=.load 24 x)
  (g:Nat) (hx:a.eval x=.pointer (some ⟨g,0,none⟩)) (p:Ps) (hg:PAt w g p)
  (h:wpList Tryz.prog ops Q rest (a.put op.dst (.agg (cl p.B).toArray)) w):wpList Tryz.prog ops Q (op::rest) a w :=
 wpList_step fun _ hK=>by
  rw [if_pos hw];exact wp_load_mid 24 x ho g 0 hx (cl p.B) _ hg.rangeB Tryz.underlying24 rfl (by rw [size24,Yp,hg.len]) (hK _ _ h)
theorem Qk {ops:Array Oper} {S:World→Prop} {op:Oper} {a:Act} (hw:Region.wanted op (yielded ops a.tmps)=true) (x:Operand) (ho:op.op=.load 26 x)
  (g:Nat) (hx:a.eval x=.pointer (some ⟨g,0,none⟩)) (p:Ps) (hB:p.B.length=64) (hS:∀ w,S w→PAt w g p):YieldsIf Tryz.prog ops S op (.agg (pl p).toArray) a :=
 yieldsIf_load_mid hw 26 x ho g 0 hx (pl p) _ (fun w h=>(hS w h).range) Tryz.underlying26 rfl (by rw [sizeP,pl_length hB])
theorem Qp {ops:Array Oper} {S:World→Prop} {op:Oper} {a:Act} (hw:Region.wanted op (yielded ops a.tmps)=true) (x:Operand) (ho:op.op=.load 24 x)
  (g:Nat) (hx:a.eval x=.pointer (some ⟨g,0,none⟩)) (p:Ps) (hB:p.B.length=64) (hS:∀ w,S w→PAt w g p):YieldsIf Tryz.prog ops S op (.agg (cl p.B).toArray) a :=
 yieldsIf_load_mid hw 24 x ho g 0 hx (cl p.B) _ (fun w h=>(hS w h).rangeB) Tryz.underlying24 rfl (by rw [size24,Yp,hB])
def Zp:Ps:=⟨Zb,0,0,0⟩
theorem Yy:Zp.B.length=64:=Zb_brd.1
theorem zeroP:(Tryz.prog.info? 26).map (fun i=>(i.zero,i.size))=some (some (.agg (pl Zp).toArray),67):=by kernel_rfl
theorem run_zero_p (w:World):(zeroValue 26).run Tryz.prog w=.ok (.agg (pl Zp).toArray) w:=(zero_of_info zeroP).1 w
theorem Qy {ops:Array Oper} {rest:List Oper} {o:Oper} {a:Act} {w:World} {Q:Exit→Act→World→Prop} (hgd:o.guard=none) (ho:o.op=.alloc 26)
  (h:wpList Tryz.prog ops Q rest (a.put o.dst (.pointer (some ⟨w.heap.size,0,none⟩))) (w.alloc (.cells (pl Zp).toArray 26))):wpList Tryz.prog ops Q (o::rest) a w:=by
 refine wpList_plain hgd fun _ hK=>?_
 unfold Oper.wp execOp;simp only [ho,Instr.alloc,Sem.run_bind,run_zero_p,Result.andThen_ok,newVar,newRow,Value.cells];exact hK _ _ h
theorem Yb {ops:Array Oper} {rest:List Oper} {o:Oper} {a:Act} {w:World} {Q:Exit→Act→World→Prop} (hgd:o.guard=none) (x y:Operand) (ho:o.op=.store 26 x y)
  (p q:Ps) (hp:p.B.length=64) (hq:q.B.length=64) (hx:a.eval x=.pointer (some ⟨w.heap.size,0,none⟩)) (hy:a.eval y=.agg (pl q).toArray)
  (h:wpList Tryz.prog ops Q rest (a.put o.dst undef) (w.alloc (.cells (pl q).toArray 26))):wpList Tryz.prog ops Q (o::rest) a (w.alloc (.cells (pl p).toArray 26)):=by
 refine wpList_store_row hgd 26 x y ho w.heap.size (pl q).toArray hx hy 26 _ (heap_alloc_new w _) (size_pl hq) (by rw [pl_size hp,pl_size hq]) (pl_one _) ?_;rw [World.setRow_alloc_new];exact h
theorem Yd {ops:Array Oper} {rest:List Oper} {o:Oper} {a:Act} {w:World} {Q:Exit→Act→World→Prop} (hgd:o.guard=none) (x y:Operand) (ho:o.op=.store 26 x y)
  (g:Nat) (p q:Ps) (hg:PAt w g p) (hq:q.B.length=64) (hx:a.eval x=.pointer (some ⟨g,0,none⟩)) (hy:a.eval y=.agg (pl q).toArray)
  (h:wpList Tryz.prog ops Q rest (a.put o.dst undef) (w.setRow g (pl q).toArray)):wpList Tryz.prog ops Q (o::rest) a w :=
 wpList_store_row hgd 26 x y ho g (pl q).toArray hx hy 26 _ hg.at_ (size_pl hq) (by rw [pl_size hg.len,pl_size hq]) (pl_one _) h
theorem PAt.setRow {w:World} {g:Nat} {p q:Ps} (h:PAt w g p) (hq:q.B.length=64):PAt (w.setRow g (pl q).toArray) g q:=⟨hq,setRow_heap _ _ _ _ _ _ h.at_⟩
def RetP (w:World) (p:Ps) (e:Ending) (w':World):Prop:=e=.returned (.agg (pl p).toArray)∧Kept w w'
theorem results_p {fn:Func} {s:Tmp} (h:fn.results=#[.cell s 26]) (tmps:Array Value) {w:World} {g:Nat} {p:Ps} (hp:tmps.getD s undef=.pointer (some ⟨g,0,none⟩)) (hg:PAt w g p) :
  (results fn tmps).run Tryz.prog w=.ok (.agg (pl p).toArray) w :=
 results_cell_row h tmps w g 26 _ (0,0) _ hp hg.at_ Tryz.underlying26 rfl (size_pl hg.len)
theorem fold_fill (off:Nat):∀ (vs old pre post:List Value) (n:Nat),off+n=pre.length→old.length=vs.length →
  (vs.zipIdx n).foldl (fun cs x=>cs.setIfInBounds (off+x.2) x.1) (pre++old++post).toArray=(pre++vs++post).toArray
 | [],[],pre,post,n,_,_=>by simp
 | [],_::_,pre,post,n,_,hl=>by simp at hl
 | _::_,[],pre,post,n,_,hl=>by simp at hl
 | v::vs,o::old,pre,post,n,hn,hl=>by
  rw [List.zipIdx_cons,List.foldl_cons];have:=fold_fill off vs old (pre++[v]) post (n+1) (by simp;omega) (by simpa using hl)
  rw [show (pre++(o::old)++post).toArray.setIfInBounds (off+n) v=((pre++[v])++old++post).toArray by
   rw [List.setIfInBounds_toArray,hn];congr 1;simp]
  rw [this];simp
theorem fill_board (place:Nat→Option (Nat × Nat)) (B:List Int) (hB:B.length=64) (rest:List (Nat × Value)) (h0:place 0=some (0,64)) :
  Instr.fill place (pl Zp).toArray ((0,.agg (cl B).toArray)::rest)=Instr.fill place (pl ⟨B,0,0,0⟩).toArray rest:=by
 have e1:(cl B).toArray.size=64:=by simp [Yp,hB]
 rw [Instr.fill,h0];dsimp only;have hc:(Value.agg (cl B).toArray).cells=(cl B).toArray:=rfl;rw [if_neg (by rw [hc,e1,pl_size Yy];decide),hc]
 congr 1
 rw [← Array.foldl_toList,Array.toList_zipIdx];have:=fold_fill 0 (cl B) (cl Zb) [] (tlP Zp) 0 rfl (by rw [Yp,Yp,hB];rfl);simp only [List.nil_append] at this;exact this
theorem fill_int (place:Nat→Option (Nat × Nat)) (B:List Int) (hB:B.length=64) (T:List Value) (i k:Nat) (x:Int) (hk:k<T.length) (rest:List (Nat × Value)) (h0:place i=some (64+k,1)) :
  Instr.fill place (cl B++T).toArray ((i,.int .i64 x)::rest)=Instr.fill place (cl B++T.set k (.int .i64 x)).toArray rest:=by
 have e1:(cl B).length=64:=by rw [Yp,hB]
 rw [Instr.fill,h0];dsimp only;have hc:(Value.int .i64 x).cells=#[.int .i64 x]:=rfl;rw [if_neg (by rw [hc];simp [e1];omega),hc]
 congr 1
 simp [List.set_append_right,e1]
theorem built_fill (parts:List (Nat × Value)):Tryz.prog.built 26 parts=Instr.fill (fun i=>[(0,64),(64,1),(65,1),(66,1)].toArray[i]?) (pl Zp).toArray parts:=by kernel_rfl
theorem built_pos4 (B:List Int) (hB:B.length=64) (t c e:Int):Tryz.prog.built 26 [(0,.agg (cl B).toArray),(1,.int .i64 t),(2,.int .i64 c),(3,.int .i64 e)]=some (pl ⟨B,t,c,e⟩).toArray:=by
 rw [built_fill,fill_board _ B hB _ rfl];unfold pl tlP;rw [fill_int _ B hB _ 1 0 t (by simp) _ rfl,fill_int _ B hB _ 2 1 c (by simp) _ rfl,fill_int _ B hB _ 3 2 e (by simp) _ rfl];rfl
theorem built_pos3 (B:List Int) (hB:B.length=64) (t e:Int):Tryz.prog.built 26 [(0,.agg (cl B).toArray),(1,.int .i64 t),(3,.int .i64 e)]=some (pl ⟨B,t,0,e⟩).toArray:=by
 rw [built_fill,fill_board _ B hB _ rfl];unfold pl tlP;rw [fill_int _ B hB _ 1 0 t (by simp) _ rfl,fill_int _ B hB _ 3 2 e (by simp) _ rfl];rfl
theorem wpList_built_p4 {ops:Array Oper} {rest:List Oper} {o:Oper} {a:Act} {w:World} {Q:Exit→Act→World→Prop} (hg:o.guard=none) (x0 x1 x2 x3:Operand) (ho:o.op=.build 26 #[(0,x0),(1,x1),(2,x2),(3,x3)])
  (B:List Int) (t c e:Int) (hB:B.length=64) (h0:a.eval x0=.agg (cl B).toArray) (h1:a.eval x1=.int .i64 t) (h2:a.eval x2=.int .i64 c) (h3:a.eval x3=.int .i64 e)
  (h:wpList Tryz.prog ops Q rest (a.put o.dst (.agg (pl ⟨B,t,c,e⟩).toArray)) w):wpList Tryz.prog ops Q (o::rest) a w :=
 Jy hg _ _ ho _ (by
  have:((#[(0,x0),(1,x1),(2,x2),(3,x3)]:Array (Nat × Operand)).map fun (i,x)=>(i,a.eval x)).toList=[(0,.agg (cl B).toArray),(1,.int .i64 t),(2,.int .i64 c),(3,.int .i64 e)]:=by simp [h0,h1,h2,h3]
  rw [this];exact built_pos4 B hB t c e) h
theorem wpList_built_p3 {ops:Array Oper} {rest:List Oper} {o:Oper} {a:Act} {w:World} {Q:Exit→Act→World→Prop} (hg:o.guard=none) (x0 x1 x3:Operand) (ho:o.op=.build 26 #[(0,x0),(1,x1),(3,x3)])
  (B:List Int) (t e:Int) (hB:B.length=64) (h0:a.eval x0=.agg (cl B).toArray) (h1:a.eval x1=.int .i64 t) (h3:a.eval x3=.int .i64 e)
  (h:wpList Tryz.prog ops Q rest (a.put o.dst (.agg (pl ⟨B,t,0,e⟩).toArray)) w):wpList Tryz.prog ops Q (o::rest) a w :=
 Jy hg _ _ ho _ (by
  have:((#[(0,x0),(1,x1),(3,x3)]:Array (Nat × Operand)).map fun (i,x)=>(i,a.eval x)).toList=[(0,.agg (cl B).toArray),(1,.int .i64 t),(3,.int .i64 e)]:=by simp [h0,h1,h3]
  rw [this];exact built_pos3 B hB t e) h
theorem built_pos0:Tryz.prog.built 26 []=some (pl Zp).toArray:=by rw [built_fill];rfl
theorem wpList_built_p0 {ops:Array Oper} {rest:List Oper} {o:Oper} {a:Act} {w:World} {Q:Exit→Act→World→Prop} (hw:Region.wanted o (yielded ops a.tmps)=true) (ho:o.op=.build 26 #[])
  (h:wpList Tryz.prog ops Q rest (a.put o.dst (.agg (pl Zp).toArray)) w):wpList Tryz.prog ops Q (o::rest) a w :=
 wpList_step fun _ hK=>by
  rw [if_pos hw]
  have hf:Tryz.prog.built 26 ((#[]:Array (Nat × Operand)).map fun (i,x)=>(i,a.eval x)).toList=some (pl Zp).toArray:=by
   have:((#[]:Array (Nat × Operand)).map fun (i,x)=>(i,a.eval x)).toList=[]:=by simp
   rw [this];exact built_pos0
  exact wp_build _ _ ho (by rw [hf];rfl) (by rw [hf];exact hK _ _ h)
def hmL:List Int:=[1,0,4,7,2,0,4,0,4,1,60,63,8,1,60,56]
def hmV:List Value:=hmL.map (Value.int .i64)
def vwL:List Int:=[5,1,2,-1]
def Homes (w:World):Prop:=∀ i,i<16→w.cell? ⟨0,i,none⟩=some (.int .i64 (hmL.getD i 0))
def Views (w:World):Prop:=∀ i,i<4→w.cell? ⟨3,i,none⟩=some (.int .i64 (vwL.getD i 0))
structure Tabs (w:World):Prop where
 steps:Steps w
 homes:Homes w
 views:Views w
theorem Tabs.kept {w w':World} (h:Tabs w) (k:Kept w w'):Tabs w' :=
 ⟨h.steps.kept k,fun i hi=>Qa k (h.homes i hi),fun i hi=>Qa k (h.views i hi)⟩
theorem Homes.range {w:World} (h:Homes w):w.rangeAt 0 0 hmV:=by
 intro j v hv;have hj:j<hmV.length:=(List.getElem?_eq_some_iff.1 hv).1;have hj':j<16:=by simpa [hmV,hmL] using hj
 rw [Nat.zero_add,h j hj'];unfold hmV at hv;rw [List.getElem?_map] at hv;have h2:j<hmL.length:=by simpa [hmL] using hj'
 rw [List.getElem?_eq_getElem h2] at hv;simp only [Option.map_some,Option.some.injEq] at hv;rw [← hv,getD_at _ _ h2]
theorem size_homes:(Tryz.prog.info? 121).map (·.size)=some hmV.length:=by kernel_rfl
def hR (k:Nat):Int:=[1,2,4,8].getD k 0
def hS (k:Nat):Int:=[0,0,1,1].getD k 0
def hKg (k:Nat):Nat:=[4,4,60,60].getD k 0
def hRk (k:Nat):Nat:=[7,0,63,56].getD k 0
def hAt (k:Nat):Array Value:=#[.int .i64 (hR k),.int .i64 (hS k),.int .i64 (hKg k),.int .i64 (hRk k)]
theorem sizeHome:(Tryz.prog.info? 120).map (·.size)=some 4:=by kernel_rfl
theorem run_index_hm (k:Nat) (hk:k<4) (w:World):(Instr.index 121 (.agg hmV.toArray) (.int .i64 k)).run Tryz.prog w=.ok (.agg (hAt k)) w:=by
 have h1:(0:Int)≤(k:Int)∧(k:Int)<((4:Nat):Int):=by omega
 have hs:(sizeOf 120).run Tryz.prog w=.ok 4 w:=by
  cases hq:Tryz.prog.info? 120 with
  | none=>have:=sizeHome;simp [hq] at this
  | some i=>have:=sizeHome;simp [hq] at this;simp [sizeOf,typeInfo,hq,this]
 simp only [Instr.index,asIntOf,Sem.run_bind,Sem.run_pure,Result.andThen_ok,run_underlying Tryz.underlying121,if_pos h1,hs];simp only [part,isAgg,Sem.run_bind,Sem.run_pure,Result.andThen_ok,run_underlying Tryz.underlying120,if_true,hs,Int.toNat_natCast];have:k=0∨k=1∨k=2∨k=3:=by omega
 rcases this with rfl|rfl|rfl|rfl <;> rfl
def backB (B:List Int) (r:Int):Bool :=
 if r=1 then (B.getD 4 0 == 6) && (B.getD 7 0 == 4) else if r=2 then (B.getD 4 0 == 6) && (B.getD 0 0 == 4)
 else if r=4 then (B.getD 60 0 == -6) && (B.getD 63 0 == -4) else if r=8 then (B.getD 60 0 == -6) && (B.getD 56 0 == -4) else false
def mkI (k s:Int):Int:=if s=0 then k else -k
theorem back_at (B:List Int) (k:Nat) (hk:k<4):backB B (hR k)=((B.getD (hKg k) 0 == mkI 6 (hS k)) && (B.getD (hRk k) 0 == mkI 4 (hS k))):=by
 have:k=0∨k=1∨k=2∨k=3:=by omega
 rcases this with rfl|rfl|rfl|rfl <;> rfl
theorem back_no (B:List Int) (r:Int) (h:∀ j,j<4→hR j≠r):backB B r=false:=by
 have h0:=h 0 (by omega);have h1:=h 1 (by omega);have h2:=h 2 (by omega);have h3:=h 3 (by omega);simp only [hR,List.getD_cons_zero,List.getD_cons_succ] at h0 h1 h2 h3;unfold backB;rw [if_neg (by omega),if_neg (by omega),if_neg (by omega),if_neg (by omega)]
theorem hS_01 (k:Nat) (hk:k<4):hS k=0∨hS k=1:=by
 have:k=0∨k=1∨k=2∨k=3:=by omega
 rcases this with rfl|rfl|rfl|rfl <;> simp [hS]
theorem hKg_lt (k:Nat):hKg k<64:=by
 unfold hKg;rcases k with _|_|_|_|k <;> simp
theorem hRk_lt (k:Nat):hRk k<64:=by
 unfold hRk;rcases k with _|_|_|_|k <;> simp
theorem hR_bd (k:Nat):0≤hR k∧hR k≤8:=by
 unfold hR;rcases k with _|_|_|_|k <;> simp
theorem mmake_is (k s:Int) (w:World) (h1:1≤k) (h6:k≤6) (hs:s=0∨s=1):Calls Tryz.prog 136 #[.int .i64 k,.int .i64 s] w fun e w'=>e=.returned (.int .i64 (mkI k s))∧Kept w w':=by
 rcases hs with rfl|rfl
 ·exact (make_w k w h1 h6).mono fun _ _ ⟨a,b⟩=>⟨a,b ▸ Kept.refl _⟩
 ·exact (make_b k w h1 h6).mono fun _ _ ⟨a,b⟩=>⟨a,b ▸ Kept.refl _⟩
set_option maxRecDepth 100000 in
set_option maxHeartbeats 2000000 in
theorem backed_is (p:Ps) (hB:Brd p.B) (r:Int) (w:World) (hT:Tabs w) :
  Calls Tryz.prog 127 #[.agg (pl p).toArray,.int .i64 r] w fun e w'=>e=.returned (.bool (backB p.B r))∧Kept w w':=by
 have HP:=Qh (PAt.new w hB.1);have HK0:=Qh ((Kept.refl w).alloc (.cells (pl p).toArray 26));have HT:=Qh (hT.kept HK0.out);have HB:=Qh hB;clear hB hT;go_enter Tryz.func127,Tryz.ntmps127;go_wp2_with (refine wpList_load_mid rfl 121 _ rfl 0 0 rfl hmV _ HT.out.homes.range Tryz.underlying121 rfl size_homes ?_)
 go_loopw [8] (fun t8 wr=>∃ k:Nat,k≤4∧t8=.int .i64 k∧(∀ j,j<k→hR j≠r)∧Kept (w.alloc (.cells (pl p).toArray 26)) wr) (fun t8 _=>4-(intOf t8).toNat)
 case atStart=>exact ⟨0,by omega,rfl,fun j hj=>by omega,Kept.refl _⟩
 case round =>
  obtain ⟨k,hk,rfl,hno,hK⟩:=hrel;have HNo:=Qh hno;have HK:=Qh hK;clear hno hK;by_cases hlt:k<4
  ·have hx:=run_index_hm k hlt
   have HPk:=Qh (HP.out.kept HK.out);have HKg:=Qh (hKg_lt k);have HRk:=Qh (hRk_lt k);have HS:=Qh (hS_01 k hlt);have HBk:=Qh (back_at p.B k hlt);have HR:=Qh (hR_bd k);unfold hAt at hx;by_cases he:hR k=r
   ·have he':(hR k == r)=true:=beq_iff_eq.2 he
    rw [he] at HBk;have HM1:=Qh (man_yes p.B HB.out (hKg k) HKg.out);have HM2:=Qh (man_yes p.B HB.out (hRk k) HRk.out);have HMk1:=Qh (fun w=>mmake_is 6 (hS k) w (by omega) (by omega) HS.out);have HMk2:=Qh (fun w=>mmake_is 4 (hS k) w (by omega) (by omega) HS.out);generalize p.B.getD (hKg k) 0=x1 at *;generalize p.B.getD (hRk k) 0=x2 at *;generalize mkI 6 (hS k)=m1 at *;generalize mkI 4 (hS k)=m2 at *;clear he;go_wp2;have hnew:=heap_alloc_new wr (.cells (hAt k) 120);have c1:=Qh (show (wr.alloc (.cells (hAt k) 120)).cell? ⟨wr.heap.size,1,none⟩=some (.int .i64 (hS k)) by rw [cell_of_row _ _ 1 _ _ (0,0) hnew];rfl);have c2:=Qh (show (wr.alloc (.cells (hAt k) 120)).cell? ⟨wr.heap.size,2,none⟩=some (.int .i64 (hKg k)) by rw [cell_of_row _ _ 2 _ _ (0,0) hnew];rfl);have c3:=Qh (show (wr.alloc (.cells (hAt k) 120)).cell? ⟨wr.heap.size,3,none⟩=some (.int .i64 (hRk k)) by rw [cell_of_row _ _ 3 _ _ (0,0) hnew];rfl);have HPA:=Qh (HPk.out.kept ((Kept.refl wr).alloc (.cells (hAt k) 120)));clear hnew
    cases hb1:(x1 == m1)
    ·skip
     refine wp_region_held_drew (S:=Kept _) (by kernel_rfl) (Kept.refl _).drew (fun Qj=>?_);refine rT 0 15 (.pointer (some ⟨w.heap.size,0,none⟩)) rfl rfl Qj ?_;simp only [pA,pN,sZ,sU];refine rY 1 16 rfl rfl (Qp (by rfl) _ rfl _ rfl p HB.out.1 (fun _ h=>(HPA.out).kept h)) Qj ?_;simp only [pA,pN,sZ,sU];refine rT 2 17 (.pointer (some ⟨wr.heap.size,2,none⟩)) rfl rfl Qj ?_;simp only [pA,pN,sZ,sU];refine rC 3 18 (.int .i64 ↑(hKg k)) rfl rfl (fun _ h=>Qa h (c2.out)) Qj ?_;simp only [pA,pN,sZ,sU];refine rT 5 20 (.pointer (some ⟨wr.heap.size,1,none⟩)) rfl rfl Qj ?_;simp only [pA,pN,sZ,sU];refine rC 6 21 (.int .i64 (hS k)) rfl rfl (fun _ h=>Qa h (c1.out)) Qj ?_;simp only [pA,pN,sZ,sU];refine rR 4 rfl (fun K hK=>?_);go_simp;refine (HM1.out _).mono ?_;rintro e w1 ⟨rfl,gw1⟩;refine hK.out _ _ (Qj.trans gw1) (fun _=>?_);replace Qj:=Qj.trans gw1;clear hK K;refine rR 7 rfl (fun K hK=>?_);go_simp;refine (HMk1.out _).mono ?_;rintro e w2 ⟨rfl,gw2⟩;refine hK.out _ _ (Qj.trans gw2) (fun _=>?_);replace Qj:=Qj.trans gw2;clear hK K;refine rT 8 23 (.bool false) rfl rfl Qj ?_;simp only [pA,pN,sZ,sU];refine rT 9 24 (.bool false) rfl rfl Qj ?_;simp only [pA,pN,sZ,sU];refine rN 10 25 rfl rfl Qj ?_;simp only [pA,pN,sZ,sU];refine rN 11 26 rfl rfl Qj ?_;simp only [pA,pN,sZ,sU];refine rN 12 27 rfl rfl Qj ?_;simp only [pA,pN,sZ,sU];refine rN 13 28 rfl rfl Qj ?_;simp only [pA,pN,sZ,sU];refine rN 14 29 rfl rfl Qj ?_;simp only [pA,pN,sZ,sU];refine rN 15 30 rfl rfl Qj ?_;simp only [pA,pN,sZ,sU];refine rN 16 31 rfl rfl Qj ?_;simp only [pA,pN,sZ,sU];refine rN 17 32 rfl rfl Qj ?_;simp only [pA,pN,sZ,sU];refine rN 18 33 rfl rfl Qj ?_;simp only [pA,pN,sZ,sU];refine rT 19 34 (.bool false) rfl rfl Qj ?_;simp only [pA,pN,sZ,sU];refine rT 20 4 (.bool false) rfl rfl Qj ?_;simp only [pA,pN,sZ,sU];refine wpAnyH_done (by kernel_rfl) ?_ _;go_wp2;go_ret;exact ⟨by rw [HBk.out,hb1];rfl,HK0.out.trans ((HK.out.alloc _).trans Qj)⟩
    ·skip
     refine wp_region_held_drew (S:=Kept _) (by kernel_rfl) (Kept.refl _).drew (fun Qj=>?_);refine rT 0 15 (.pointer (some ⟨w.heap.size,0,none⟩)) rfl rfl Qj ?_;simp only [pA,pN,sZ,sU];refine rY 1 16 rfl rfl (Qp (by rfl) _ rfl _ rfl p HB.out.1 (fun _ h=>(HPA.out).kept h)) Qj ?_;simp only [pA,pN,sZ,sU];refine rT 2 17 (.pointer (some ⟨wr.heap.size,2,none⟩)) rfl rfl Qj ?_;simp only [pA,pN,sZ,sU];refine rC 3 18 (.int .i64 ↑(hKg k)) rfl rfl (fun _ h=>Qa h (c2.out)) Qj ?_;simp only [pA,pN,sZ,sU];refine rT 5 20 (.pointer (some ⟨wr.heap.size,1,none⟩)) rfl rfl Qj ?_;simp only [pA,pN,sZ,sU];refine rC 6 21 (.int .i64 (hS k)) rfl rfl (fun _ h=>Qa h (c1.out)) Qj ?_;simp only [pA,pN,sZ,sU];refine rR 4 rfl (fun K hK=>?_);go_simp;refine (HM1.out _).mono ?_;rintro e w1 ⟨rfl,gw1⟩;refine hK.out _ _ (Qj.trans gw1) (fun _=>?_);replace Qj:=Qj.trans gw1;clear hK K;refine rR 7 rfl (fun K hK=>?_);go_simp;refine (HMk1.out _).mono ?_;rintro e w2 ⟨rfl,gw2⟩;refine hK.out _ _ (Qj.trans gw2) (fun _=>?_);replace Qj:=Qj.trans gw2;clear hK K;refine rT 8 23 (.bool true) rfl rfl Qj ?_;simp only [pA,pN,sZ,sU];refine rT 9 24 (.bool true) rfl rfl Qj ?_;simp only [pA,pN,sZ,sU];refine rT 10 25 (.pointer (some ⟨w.heap.size,0,none⟩)) rfl rfl Qj ?_;simp only [pA,pN,sZ,sU];refine rY 11 26 rfl rfl (Qp (by rfl) _ rfl _ rfl p HB.out.1 (fun _ h=>(HPA.out).kept h)) Qj ?_;simp only [pA,pN,sZ,sU];refine rT 12 27 (.pointer (some ⟨wr.heap.size,3,none⟩)) rfl rfl Qj ?_;simp only [pA,pN,sZ,sU];refine rC 13 28 (.int .i64 ↑(hRk k)) rfl rfl (fun _ h=>Qa h (c3.out)) Qj ?_;simp only [pA,pN,sZ,sU];refine rT 15 30 (.pointer (some ⟨wr.heap.size,1,none⟩)) rfl rfl Qj ?_;simp only [pA,pN,sZ,sU];refine rC 16 31 (.int .i64 (hS k)) rfl rfl (fun _ h=>Qa h (c1.out)) Qj ?_;simp only [pA,pN,sZ,sU];refine rR 14 rfl (fun K hK=>?_);go_simp;refine (HM2.out _).mono ?_;rintro e w3 ⟨rfl,gw3⟩;refine hK.out _ _ (Qj.trans gw3) (fun _=>?_);replace Qj:=Qj.trans gw3;clear hK K;refine rR 17 rfl (fun K hK=>?_);go_simp;refine (HMk2.out _).mono ?_;rintro e w4 ⟨rfl,gw4⟩;refine hK.out _ _ (Qj.trans gw4) (fun _=>?_);replace Qj:=Qj.trans gw4;clear hK K;refine rT 18 33 (.bool (x2 == m2)) rfl rfl Qj ?_;simp only [pA,pN,sZ,sU];refine rT 19 34 (.bool (x2 == m2)) rfl rfl Qj ?_;simp only [pA,pN,sZ,sU];refine rT 20 4 (.bool (x2 == m2)) rfl rfl Qj ?_;simp only [pA,pN,sZ,sU];refine wpAnyH_done (by kernel_rfl) ?_ _;go_wp2;go_ret;exact ⟨by rw [HBk.out,hb1];rfl,HK0.out.trans ((HK.out.alloc _).trans Qj)⟩
   ·have he':(hR k == r)=false:=beq_eq_false_iff_ne.2 he
    have HE:=Qh he;clear he;go_wp2;go_roundw
    case rel=>exact ⟨k+1,by omega,by go_num,fun j hj=>by rcases Nat.lt_succ_iff_lt_or_eq.1 hj with h|h;exact HNo.out j h;rw [h];exact HE.out,HK.out.alloc _⟩
    case measure=>simp [intOf];omega
  ·have HF:=Qh (back_no p.B r (fun j hj=>HNo.out j (by omega)))
   go_wp2;go_ret;exact ⟨by rw [HF.out];rfl,HK0.out.trans HK.out⟩
def passI (p:Ps):Int :=
 if p.t=0∧40≤p.e∧p.e<48∧bAt p.B p.e=0∧bAt p.B (p.e+8)=0∧bAt p.B (p.e-8)=-1 then p.e-8
 else if p.t=1∧16≤p.e∧p.e<24∧bAt p.B p.e=0∧bAt p.B (p.e-8)=0∧bAt p.B (p.e+8)=1 then p.e+8 else -1
def passB (p:Ps):Bool:=decide (0≤passI p)
def passS (p:Ps):Int:=if 0≤passI p then passI p else 0
theorem pass_off {p:Ps} (h:passI p=-1):passS p=0∧passB p=false:=by unfold passS passB;rw [h];decide
theorem pass_on {p:Ps} {s:Int} (h:passI p=s) (h0:0≤s):passS p=s∧passB p=true:=by unfold passS passB;rw [h,if_pos h0];simpa using h0
def rkI (e:Int):Int:=if 0≤e∧e<64 then e / 8 else -1
theorem Jj (e:Int) (w:World):Calls Tryz.prog 72 #[.int .i64 e] w fun x w'=>x=.returned (.int .i64 (rkI e))∧Kept w w':=by
 unfold rkI;by_cases h:0≤e∧e<64
 ·rw [if_pos h];exact (Ja e w h.1 h.2).mono fun _ _ ⟨a,b⟩=>⟨a,b ▸ Kept.refl _⟩
 ·rw [if_neg h];exact (rank_no e w (by omega)).mono fun _ _ ⟨a,b⟩=>⟨a,b ▸ Kept.refl _⟩
theorem Je (B:List Int) (hB:Brd B) (s:Int) (h0:0≤s) (h1:s<64) (w:World) :
  Calls Tryz.prog 121 #[.agg (cl B).toArray,.int .i64 s] w fun e w'=>e=.returned (.int .i64 (bAt B s))∧Kept w w':=by
 have:=man_yes B hB s.toNat (by omega) w;rwa [show ((s.toNat:Nat):Int)=s by omega] at this
theorem up_is (s:Int) (w:World) (h0:0≤s) (h1:s<56):Calls Tryz.prog 158 #[.int .i64 s,.int .i64 0,.int .i64 1] w fun e w'=>e=.returned (.tuple #[.int .i64 (s+8),.bool true])∧w=w':=by
 have:=step_yes s 0 1 w h0 (by omega) (by omega) (by omega) (by omega) (by omega);rwa [show (s / 8+1)*8+(s % 8+0)=s+8 by omega] at this
theorem down_is (s:Int) (w:World) (h0:8≤s) (h1:s<64):Calls Tryz.prog 158 #[.int .i64 s,.int .i64 0,.int .i64 (-1)] w fun e w'=>e=.returned (.tuple #[.int .i64 (s-8),.bool true])∧w=w':=by
 have:=step_yes s 0 (-1) w (by omega) h1 (by omega) (by omega) (by omega) (by omega);rwa [show (s / 8+-1)*8+(s % 8+0)=s-8 by omega] at this
theorem passed_none (p:Ps) (hB:Brd p.B) (h0:p.t≠0) (h1:p.t≠1) (w:World) :
  Calls Tryz.prog 128 #[.agg (pl p).toArray] w fun e w'=>e=.returned (.tuple #[.int .i64 (passS p),.bool (passB p)])∧Kept w w':=by
 have HP:=Qh (PAt.new w hB.1);have HF:=Qh (pass_off (p:=p) (by unfold passI;rw [if_neg (fun h=>h0 h.1),if_neg (fun h=>h1 h.1)]));have ct:=HP.out.turn;have ho:Qw p.t=-1:=by unfold Qw;rw [if_neg h0,if_neg h1]
 have HO:=Qh (Ye p.t);rw [ho] at HO;clear hB ho h0 h1;go_enter Tryz.func128,Tryz.ntmps128;go_wp2_with fail
 refine (HO.out _).mono ?_;rintro e w1 ⟨rfl,k1⟩;have HK1:=Qh (((Kept.refl w).alloc _).trans k1);clear k1 ct;go_wp2;refine wp_region_held_drew (S:=Kept _) (by kernel_rfl) (Kept.refl _).drew (fun Qj=>?_);refine rT 0 14 (.int .i64 (-1)) rfl rfl Qj ?_;simp only [pA,pN,sZ,sU];refine rT 1 15 (.bool true) rfl rfl Qj ?_;simp only [pA,pN,sZ,sU];refine rT 2 16 (.bool true) rfl rfl Qj ?_;simp only [pA,pN,sZ,sU];refine rN 3 17 rfl rfl Qj ?_;simp only [pA,pN,sZ,sU];refine rN 4 18 rfl rfl Qj ?_;simp only [pA,pN,sZ,sU];refine rN 5 19 rfl rfl Qj ?_;simp only [pA,pN,sZ,sU];refine rN 6 20 rfl rfl Qj ?_;simp only [pA,pN,sZ,sU];refine rN 7 21 rfl rfl Qj ?_;simp only [pA,pN,sZ,sU];refine rN 8 22 rfl rfl Qj ?_;simp only [pA,pN,sZ,sU];refine rN 9 23 rfl rfl Qj ?_;simp only [pA,pN,sZ,sU];refine rN 10 24 rfl rfl Qj ?_;simp only [pA,pN,sZ,sU];refine rN 11 25 rfl rfl Qj ?_;simp only [pA,pN,sZ,sU];refine rT 12 26 (.bool true) rfl rfl Qj ?_;simp only [pA,pN,sZ,sU];refine wpAnyH_done (by kernel_rfl) ?_ _;go_wp2;go_ret2;exact ⟨by rw [HF.out.1,HF.out.2];rfl,HK1.out.trans Qj⟩
set_option maxRecDepth 100000 in
set_option maxHeartbeats 2000000 in
theorem passed_off_w (p:Ps) (hB:Brd p.B) (ht:p.t=0) (hr:¬ (40≤p.e∧p.e<48)) (w:World) (hT:Tabs w) :
  Calls Tryz.prog 128 #[.agg (pl p).toArray] w fun e w'=>e=.returned (.tuple #[.int .i64 (passS p),.bool (passB p)])∧Kept w w':=by
 have HF:=Qh (pass_off (p:=p) (by unfold passI;rw [if_neg (fun h=>hr ⟨h.2.1,h.2.2.1⟩),if_neg (fun h=>by rw [ht] at h;exact absurd h.1 (by decide))]));have hn:(rkI p.e != 5)=true:=by rw [bne_iff_ne];unfold rkI;split <;> omega
 have HP:=Qh (PAt.new w hB.1);have HB:=Qh hB;have HT:=Qh (hT.kept ((Kept.refl w).alloc (.cells (pl p).toArray 26)));have ct:=HP.out.turn;rw [ht] at ct;have HO:=Qh (Ye 0);have ho:Qw 0=1:=rfl;rw [ho] at HO;have HRk:=Qh (Jj p.e);clear hB hT hr ho;generalize rkI p.e=re at *;go_enter Tryz.func128,Tryz.ntmps128;go_wp2_with fail
 refine (HO.out _).mono ?_;rintro e w1 ⟨rfl,k1⟩;have HK1:=Qh (((Kept.refl w).alloc _).trans k1);have HPe:=Qh (HP.out.kept k1);have hct:=Qh (Qa k1 ct);have HT1:=Qh (HT.out.kept k1);have hv0:Hid (w1.cell? ⟨3,0,none⟩=some (.int .i64 5)):=HT1.out.views 0 (by omega);clear k1 ct;go_wp2;refine wp_region_held_drew (S:=Kept _) (by kernel_rfl) (Kept.refl _).drew (fun Qj=>?_);refine rT 0 14 (.int .i64 1) rfl rfl Qj ?_;simp only [pA,pN,sZ,sU];refine rT 1 15 (.bool false) rfl rfl Qj ?_;simp only [pA,pN,sZ,sU];refine rT 2 16 (.bool false) rfl rfl Qj ?_;simp only [pA,pN,sZ,sU];refine rT 3 17 (.pointer (some ⟨w.heap.size,66,none⟩)) rfl rfl Qj ?_;simp only [pA,pN,sZ,sU];refine rC 4 18 (.int .i64 p.e) rfl rfl (fun _ h=>Qa h (HPe.out.ep)) Qj ?_;simp only [pA,pN,sZ,sU];refine rT 6 20 (.pointer (some ⟨w.heap.size,64,none⟩)) rfl rfl Qj ?_;simp only [pA,pN,sZ,sU];refine rC 7 21 (.int .i64 0) rfl rfl (fun _ h=>Qa h (hct.out)) Qj ?_;simp only [pA,pN,sZ,sU];refine rT 8 22 (.pointer (some ⟨3,0,none⟩)) rfl rfl Qj ?_;simp only [pA,pN,sZ,sU];refine rT 9 23 (.pointer (some ⟨3,0,none⟩)) rfl rfl Qj ?_;simp only [pA,pN,sZ,sU];refine rC 10 24 (.int .i64 5) rfl rfl (fun _ h=>Qa h (hv0.out)) Qj ?_;simp only [pA,pN,sZ,sU];refine rR 5 rfl (fun K hK=>?_);go_simp;refine (HRk.out _).mono ?_;rintro e w2 ⟨rfl,gw2⟩;refine hK.out _ _ (Qj.trans gw2) (fun _=>?_);replace Qj:=Qj.trans gw2;clear hK K;refine rT 11 25 (.bool true) rfl rfl Qj ?_;simp only [pA,pN,sZ,sU];refine rT 12 26 (.bool true) rfl rfl Qj ?_;simp only [pA,pN,sZ,sU];refine wpAnyH_done (by kernel_rfl) ?_ _;go_wp2;go_ret2;exact ⟨by rw [HF.out.1,HF.out.2];rfl,HK1.out.trans Qj⟩
set_option maxRecDepth 100000 in
set_option maxHeartbeats 2000000 in
theorem passed0_w (p:Ps) (hB:Brd p.B) (ht:p.t=0) (hlo:40≤p.e) (hhi:p.e<48) (e0:bAt p.B p.e≠0) (w:World) (hT:Tabs w) :
  Calls Tryz.prog 128 #[.agg (pl p).toArray] w fun e w'=>e=.returned (.tuple #[.int .i64 (passS p),.bool (passB p)])∧Kept w w':=by
 have HF:=Qh (pass_off (p:=p) (by unfold passI;rw [if_neg (fun h=>e0 h.2.2.2.1),if_neg (fun h=>by rw [ht] at h;exact absurd h.1 (by decide))]));have b0:(bAt p.B p.e == 0)=false:=beq_eq_false_iff_ne.2 e0;clear e0;have hlo':=hlo
 have hn:(rkI p.e != 5)=false:=by
  have:rkI p.e=5:=by unfold rkI;rw [if_pos (by omega)];omega
  rw [this];rfl
 have HP:=Qh (PAt.new w hB.1);have HB:=Qh hB;have HT:=Qh (hT.kept ((Kept.refl w).alloc (.cells (pl p).toArray 26)));have ct:=HP.out.turn;rw [ht] at ct;have HO:=Qh (Ye 0);have ho:Qw 0=1:=rfl;rw [ho] at HO;have HRk:=Qh (Jj p.e);have HM0:=Qh (Je p.B hB p.e (by omega) (by omega));have HM1:=Qh (Je p.B hB (p.e+8) (by omega) (by omega));have HM2:=Qh (Je p.B hB (p.e-8) (by omega) (by omega));clear hB hT ho hlo';generalize rkI p.e=re at *;generalize bAt p.B p.e=x0 at *;generalize bAt p.B (p.e+8)=x1 at *;generalize bAt p.B (p.e-8)=x2 at *;go_enter Tryz.func128,Tryz.ntmps128;go_wp2_with fail
 refine (HO.out _).mono ?_;rintro e w1 ⟨rfl,k1⟩;have HK1:=Qh (((Kept.refl w).alloc _).trans k1);have HPe:=Qh (HP.out.kept k1);have hct:=Qh (Qa k1 ct);have HT1:=Qh (HT.out.kept k1);have hv0:Hid (w1.cell? ⟨3,0,none⟩=some (.int .i64 5)):=HT1.out.views 0 (by omega);clear k1 ct;go_wp2;refine wp_region_held_drew (S:=Kept _) (by kernel_rfl) (Kept.refl _).drew (fun Qj=>?_);refine rT 0 14 (.int .i64 1) rfl rfl Qj ?_;simp only [pA,pN,sZ,sU];refine rT 1 15 (.bool false) rfl rfl Qj ?_;simp only [pA,pN,sZ,sU];refine rT 2 16 (.bool false) rfl rfl Qj ?_;simp only [pA,pN,sZ,sU];refine rT 3 17 (.pointer (some ⟨w.heap.size,66,none⟩)) rfl rfl Qj ?_;simp only [pA,pN,sZ,sU];refine rC 4 18 (.int .i64 p.e) rfl rfl (fun _ h=>Qa h (HPe.out.ep)) Qj ?_;simp only [pA,pN,sZ,sU];refine rT 6 20 (.pointer (some ⟨w.heap.size,64,none⟩)) rfl rfl Qj ?_;simp only [pA,pN,sZ,sU];refine rC 7 21 (.int .i64 0) rfl rfl (fun _ h=>Qa h (hct.out)) Qj ?_;simp only [pA,pN,sZ,sU];refine rT 8 22 (.pointer (some ⟨3,0,none⟩)) rfl rfl Qj ?_;simp only [pA,pN,sZ,sU];refine rT 9 23 (.pointer (some ⟨3,0,none⟩)) rfl rfl Qj ?_;simp only [pA,pN,sZ,sU];refine rC 10 24 (.int .i64 5) rfl rfl (fun _ h=>Qa h (hv0.out)) Qj ?_;simp only [pA,pN,sZ,sU];refine rR 5 rfl (fun K hK=>?_);go_simp;refine (HRk.out _).mono ?_;rintro e w2 ⟨rfl,gw2⟩;refine hK.out _ _ (Qj.trans gw2) (fun _=>?_);replace Qj:=Qj.trans gw2;clear hK K;refine rT 11 25 (.bool false) rfl rfl Qj ?_;simp only [pA,pN,sZ,sU];refine rT 12 26 (.bool false) rfl rfl Qj ?_;simp only [pA,pN,sZ,sU];refine wpAnyH_done (by kernel_rfl) ?_ _;have HK2:=Qh (HK1.out.trans Qj);have HP2:=Qh (HPe.out.kept Qj);have hct2:=Qa Qj hct.out;have hv1:w2.cell? ⟨3,1,none⟩=some (.int .i64 1):=(HT1.out.kept Qj).views 1 (by omega);have ce:=HP2.out.ep;clear Qj gw2;go_wp2_with fail
 refine (up_is p.e _ (by omega) (by omega)).mono ?_;rintro e w' ⟨rfl,rfl⟩;go_wp2_with fail
 refine (down_is p.e _ (by omega) (by omega)).mono ?_;rintro e w' ⟨rfl,rfl⟩;go_wp2_with (first|(refine Qc (by rfl) _ rfl _ rfl _ (HP2.out) ?_)|(refine Qd (by rfl) _ rfl _ rfl _ (HP2.out) ?_))
 refine (HM0.out _).mono ?_;rintro e w3 ⟨rfl,k3⟩;have HK3:=Qh (HK2.out.trans k3);have HP3:=Qh (HP2.out.kept k3);clear k3 ce hct2 hv1;go_wp2;go_ret2;exact ⟨by rw [HF.out.1,HF.out.2];rfl,HK3.out⟩
set_option maxRecDepth 100000 in
set_option maxHeartbeats 2000000 in
theorem passed1_w (p:Ps) (hB:Brd p.B) (ht:p.t=0) (hlo:40≤p.e) (hhi:p.e<48) (e0:bAt p.B p.e=0) (e1:bAt p.B (p.e+8)≠0) (w:World) (hT:Tabs w) :
  Calls Tryz.prog 128 #[.agg (pl p).toArray] w fun e w'=>e=.returned (.tuple #[.int .i64 (passS p),.bool (passB p)])∧Kept w w':=by
 have HF:=Qh (pass_off (p:=p) (by unfold passI;rw [if_neg (fun h=>e1 h.2.2.2.2.1),if_neg (fun h=>by rw [ht] at h;exact absurd h.1 (by decide))]));have b0:(bAt p.B p.e == 0)=true:=beq_iff_eq.2 e0;have b1:(bAt p.B (p.e+8) == 0)=false:=beq_eq_false_iff_ne.2 e1;clear e0 e1;have hlo':=hlo
 have hn:(rkI p.e != 5)=false:=by
  have:rkI p.e=5:=by unfold rkI;rw [if_pos (by omega)];omega
  rw [this];rfl
 have HP:=Qh (PAt.new w hB.1);have HB:=Qh hB;have HT:=Qh (hT.kept ((Kept.refl w).alloc (.cells (pl p).toArray 26)));have ct:=HP.out.turn;rw [ht] at ct;have HO:=Qh (Ye 0);have ho:Qw 0=1:=rfl;rw [ho] at HO;have HRk:=Qh (Jj p.e);have HM0:=Qh (Je p.B hB p.e (by omega) (by omega));have HM1:=Qh (Je p.B hB (p.e+8) (by omega) (by omega));have HM2:=Qh (Je p.B hB (p.e-8) (by omega) (by omega));clear hB hT ho hlo';generalize rkI p.e=re at *;generalize bAt p.B p.e=x0 at *;generalize bAt p.B (p.e+8)=x1 at *;generalize bAt p.B (p.e-8)=x2 at *;go_enter Tryz.func128,Tryz.ntmps128;go_wp2_with fail
 refine (HO.out _).mono ?_;rintro e w1 ⟨rfl,k1⟩;have HK1:=Qh (((Kept.refl w).alloc _).trans k1);have HPe:=Qh (HP.out.kept k1);have hct:=Qh (Qa k1 ct);have HT1:=Qh (HT.out.kept k1);have hv0:Hid (w1.cell? ⟨3,0,none⟩=some (.int .i64 5)):=HT1.out.views 0 (by omega);clear k1 ct;go_wp2;refine wp_region_held_drew (S:=Kept _) (by kernel_rfl) (Kept.refl _).drew (fun Qj=>?_);refine rT 0 14 (.int .i64 1) rfl rfl Qj ?_;simp only [pA,pN,sZ,sU];refine rT 1 15 (.bool false) rfl rfl Qj ?_;simp only [pA,pN,sZ,sU];refine rT 2 16 (.bool false) rfl rfl Qj ?_;simp only [pA,pN,sZ,sU];refine rT 3 17 (.pointer (some ⟨w.heap.size,66,none⟩)) rfl rfl Qj ?_;simp only [pA,pN,sZ,sU];refine rC 4 18 (.int .i64 p.e) rfl rfl (fun _ h=>Qa h (HPe.out.ep)) Qj ?_;simp only [pA,pN,sZ,sU];refine rT 6 20 (.pointer (some ⟨w.heap.size,64,none⟩)) rfl rfl Qj ?_;simp only [pA,pN,sZ,sU];refine rC 7 21 (.int .i64 0) rfl rfl (fun _ h=>Qa h (hct.out)) Qj ?_;simp only [pA,pN,sZ,sU];refine rT 8 22 (.pointer (some ⟨3,0,none⟩)) rfl rfl Qj ?_;simp only [pA,pN,sZ,sU];refine rT 9 23 (.pointer (some ⟨3,0,none⟩)) rfl rfl Qj ?_;simp only [pA,pN,sZ,sU];refine rC 10 24 (.int .i64 5) rfl rfl (fun _ h=>Qa h (hv0.out)) Qj ?_;simp only [pA,pN,sZ,sU];refine rR 5 rfl (fun K hK=>?_);go_simp;refine (HRk.out _).mono ?_;rintro e w2 ⟨rfl,gw2⟩;refine hK.out _ _ (Qj.trans gw2) (fun _=>?_);replace Qj:=Qj.trans gw2;clear hK K;refine rT 11 25 (.bool false) rfl rfl Qj ?_;simp only [pA,pN,sZ,sU];refine rT 12 26 (.bool false) rfl rfl Qj ?_;simp only [pA,pN,sZ,sU];refine wpAnyH_done (by kernel_rfl) ?_ _;have HK2:=Qh (HK1.out.trans Qj);have HP2:=Qh (HPe.out.kept Qj);have hct2:=Qa Qj hct.out;have hv1:w2.cell? ⟨3,1,none⟩=some (.int .i64 1):=(HT1.out.kept Qj).views 1 (by omega);have ce:=HP2.out.ep;clear Qj gw2;go_wp2_with fail
 refine (up_is p.e _ (by omega) (by omega)).mono ?_;rintro e w' ⟨rfl,rfl⟩;go_wp2_with fail
 refine (down_is p.e _ (by omega) (by omega)).mono ?_;rintro e w' ⟨rfl,rfl⟩;go_wp2_with (first|(refine Qc (by rfl) _ rfl _ rfl _ (HP2.out) ?_)|(refine Qd (by rfl) _ rfl _ rfl _ (HP2.out) ?_))
 refine (HM0.out _).mono ?_;rintro e w3 ⟨rfl,k3⟩;have HK3:=Qh (HK2.out.trans k3);have HP3:=Qh (HP2.out.kept k3);clear k3 ce hct2 hv1;go_wp2_with (first|(refine Qc (by rfl) _ rfl _ rfl _ (HP3.out) ?_)|(refine Qd (by rfl) _ rfl _ rfl _ (HP3.out) ?_))
 refine (HM1.out _).mono ?_;rintro e w4 ⟨rfl,k4⟩;have HK4:=Qh (HK3.out.trans k4);have HP4:=Qh (HP3.out.kept k4);clear k4;go_wp2;go_ret2;exact ⟨by rw [HF.out.1,HF.out.2];rfl,HK4.out⟩
set_option maxRecDepth 100000 in
set_option maxHeartbeats 2000000 in
theorem passed2_w (p:Ps) (hB:Brd p.B) (ht:p.t=0) (hlo:40≤p.e) (hhi:p.e<48) (e0:bAt p.B p.e=0) (e1:bAt p.B (p.e+8)=0) (e2:bAt p.B (p.e-8)≠(-1)) (w:World) (hT:Tabs w) :
  Calls Tryz.prog 128 #[.agg (pl p).toArray] w fun e w'=>e=.returned (.tuple #[.int .i64 (passS p),.bool (passB p)])∧Kept w w':=by
 have HF:=Qh (pass_off (p:=p) (by unfold passI;rw [if_neg (fun h=>e2 h.2.2.2.2.2),if_neg (fun h=>by rw [ht] at h;exact absurd h.1 (by decide))]));have b0:(bAt p.B p.e == 0)=true:=beq_iff_eq.2 e0;have b1:(bAt p.B (p.e+8) == 0)=true:=beq_iff_eq.2 e1;have b2:(bAt p.B (p.e-8) != (-1))=true:=bne_iff_ne.2 e2;clear e0 e1 e2;have hlo':=hlo
 have hn:(rkI p.e != 5)=false:=by
  have:rkI p.e=5:=by unfold rkI;rw [if_pos (by omega)];omega
  rw [this];rfl
 have HP:=Qh (PAt.new w hB.1);have HB:=Qh hB;have HT:=Qh (hT.kept ((Kept.refl w).alloc (.cells (pl p).toArray 26)));have ct:=HP.out.turn;rw [ht] at ct;have HO:=Qh (Ye 0);have ho:Qw 0=1:=rfl;rw [ho] at HO;have HRk:=Qh (Jj p.e);have HM0:=Qh (Je p.B hB p.e (by omega) (by omega));have HM1:=Qh (Je p.B hB (p.e+8) (by omega) (by omega));have HM2:=Qh (Je p.B hB (p.e-8) (by omega) (by omega));clear hB hT ho hlo';generalize rkI p.e=re at *;generalize bAt p.B p.e=x0 at *;generalize bAt p.B (p.e+8)=x1 at *;generalize bAt p.B (p.e-8)=x2 at *;go_enter Tryz.func128,Tryz.ntmps128;go_wp2_with fail
 refine (HO.out _).mono ?_;rintro e w1 ⟨rfl,k1⟩;have HK1:=Qh (((Kept.refl w).alloc _).trans k1);have HPe:=Qh (HP.out.kept k1);have hct:=Qh (Qa k1 ct);have HT1:=Qh (HT.out.kept k1);have hv0:Hid (w1.cell? ⟨3,0,none⟩=some (.int .i64 5)):=HT1.out.views 0 (by omega);clear k1 ct;go_wp2;refine wp_region_held_drew (S:=Kept _) (by kernel_rfl) (Kept.refl _).drew (fun Qj=>?_);refine rT 0 14 (.int .i64 1) rfl rfl Qj ?_;simp only [pA,pN,sZ,sU];refine rT 1 15 (.bool false) rfl rfl Qj ?_;simp only [pA,pN,sZ,sU];refine rT 2 16 (.bool false) rfl rfl Qj ?_;simp only [pA,pN,sZ,sU];refine rT 3 17 (.pointer (some ⟨w.heap.size,66,none⟩)) rfl rfl Qj ?_;simp only [pA,pN,sZ,sU];refine rC 4 18 (.int .i64 p.e) rfl rfl (fun _ h=>Qa h (HPe.out.ep)) Qj ?_;simp only [pA,pN,sZ,sU];refine rT 6 20 (.pointer (some ⟨w.heap.size,64,none⟩)) rfl rfl Qj ?_;simp only [pA,pN,sZ,sU];refine rC 7 21 (.int .i64 0) rfl rfl (fun _ h=>Qa h (hct.out)) Qj ?_;simp only [pA,pN,sZ,sU];refine rT 8 22 (.pointer (some ⟨3,0,none⟩)) rfl rfl Qj ?_;simp only [pA,pN,sZ,sU];refine rT 9 23 (.pointer (some ⟨3,0,none⟩)) rfl rfl Qj ?_;simp only [pA,pN,sZ,sU];refine rC 10 24 (.int .i64 5) rfl rfl (fun _ h=>Qa h (hv0.out)) Qj ?_;simp only [pA,pN,sZ,sU];refine rR 5 rfl (fun K hK=>?_);go_simp;refine (HRk.out _).mono ?_;rintro e w2 ⟨rfl,gw2⟩;refine hK.out _ _ (Qj.trans gw2) (fun _=>?_);replace Qj:=Qj.trans gw2;clear hK K;refine rT 11 25 (.bool false) rfl rfl Qj ?_;simp only [pA,pN,sZ,sU];refine rT 12 26 (.bool false) rfl rfl Qj ?_;simp only [pA,pN,sZ,sU];refine wpAnyH_done (by kernel_rfl) ?_ _;have HK2:=Qh (HK1.out.trans Qj);have HP2:=Qh (HPe.out.kept Qj);have hct2:=Qa Qj hct.out;have hv1:w2.cell? ⟨3,1,none⟩=some (.int .i64 1):=(HT1.out.kept Qj).views 1 (by omega);have ce:=HP2.out.ep;clear Qj gw2;go_wp2_with fail
 refine (up_is p.e _ (by omega) (by omega)).mono ?_;rintro e w' ⟨rfl,rfl⟩;go_wp2_with fail
 refine (down_is p.e _ (by omega) (by omega)).mono ?_;rintro e w' ⟨rfl,rfl⟩;go_wp2_with (first|(refine Qc (by rfl) _ rfl _ rfl _ (HP2.out) ?_)|(refine Qd (by rfl) _ rfl _ rfl _ (HP2.out) ?_))
 refine (HM0.out _).mono ?_;rintro e w3 ⟨rfl,k3⟩;have HK3:=Qh (HK2.out.trans k3);have HP3:=Qh (HP2.out.kept k3);clear k3 ce hct2 hv1;go_wp2_with (first|(refine Qc (by rfl) _ rfl _ rfl _ (HP3.out) ?_)|(refine Qd (by rfl) _ rfl _ rfl _ (HP3.out) ?_))
 refine (HM1.out _).mono ?_;rintro e w4 ⟨rfl,k4⟩;have HK4:=Qh (HK3.out.trans k4);have HP4:=Qh (HP3.out.kept k4);clear k4;go_wp2_with (first|(refine Qc (by rfl) _ rfl _ rfl _ (HP4.out) ?_)|(refine Qd (by rfl) _ rfl _ rfl _ (HP4.out) ?_))
 refine (HM2.out _).mono ?_;rintro e w5 ⟨rfl,k5⟩;have HK5:=Qh (HK4.out.trans k5);clear k5;go_wp2_with fail
 refine (mmake_is 1 1 _ (by omega) (by omega) (by omega)).mono ?_;rintro e w6 ⟨rfl,k6⟩;rw [show mkI 1 1=(-1) from rfl];have HK6:=Qh (HK5.out.trans k6);clear k6;go_wp2;go_ret2;exact ⟨by rw [HF.out.1,HF.out.2];rfl,HK6.out⟩
set_option maxRecDepth 100000 in
set_option maxHeartbeats 2000000 in
theorem passed3_w (p:Ps) (hB:Brd p.B) (ht:p.t=0) (hlo:40≤p.e) (hhi:p.e<48) (e0:bAt p.B p.e=0) (e1:bAt p.B (p.e+8)=0) (e2:bAt p.B (p.e-8)=(-1)) (w:World) (hT:Tabs w) :
  Calls Tryz.prog 128 #[.agg (pl p).toArray] w fun e w'=>e=.returned (.tuple #[.int .i64 (passS p),.bool (passB p)])∧Kept w w':=by
 have HF:=Qh (pass_on (p:=p) (by unfold passI;rw [if_pos ⟨ht,hlo,hhi,e0,e1,e2⟩]) (by omega));have b0:(bAt p.B p.e == 0)=true:=beq_iff_eq.2 e0;have b1:(bAt p.B (p.e+8) == 0)=true:=beq_iff_eq.2 e1;have b2:(bAt p.B (p.e-8) != (-1))=false:=by rw [e2];rfl
 clear e0 e1 e2;have hlo':=hlo
 have hn:(rkI p.e != 5)=false:=by
  have:rkI p.e=5:=by unfold rkI;rw [if_pos (by omega)];omega
  rw [this];rfl
 have HP:=Qh (PAt.new w hB.1);have HB:=Qh hB;have HT:=Qh (hT.kept ((Kept.refl w).alloc (.cells (pl p).toArray 26)));have ct:=HP.out.turn;rw [ht] at ct;have HO:=Qh (Ye 0);have ho:Qw 0=1:=rfl;rw [ho] at HO;have HRk:=Qh (Jj p.e);have HM0:=Qh (Je p.B hB p.e (by omega) (by omega));have HM1:=Qh (Je p.B hB (p.e+8) (by omega) (by omega));have HM2:=Qh (Je p.B hB (p.e-8) (by omega) (by omega));clear hB hT ho hlo';generalize rkI p.e=re at *;generalize bAt p.B p.e=x0 at *;generalize bAt p.B (p.e+8)=x1 at *;generalize bAt p.B (p.e-8)=x2 at *;go_enter Tryz.func128,Tryz.ntmps128;go_wp2_with fail
 refine (HO.out _).mono ?_;rintro e w1 ⟨rfl,k1⟩;have HK1:=Qh (((Kept.refl w).alloc _).trans k1);have HPe:=Qh (HP.out.kept k1);have hct:=Qh (Qa k1 ct);have HT1:=Qh (HT.out.kept k1);have hv0:Hid (w1.cell? ⟨3,0,none⟩=some (.int .i64 5)):=HT1.out.views 0 (by omega);clear k1 ct;go_wp2;refine wp_region_held_drew (S:=Kept _) (by kernel_rfl) (Kept.refl _).drew (fun Qj=>?_);refine rT 0 14 (.int .i64 1) rfl rfl Qj ?_;simp only [pA,pN,sZ,sU];refine rT 1 15 (.bool false) rfl rfl Qj ?_;simp only [pA,pN,sZ,sU];refine rT 2 16 (.bool false) rfl rfl Qj ?_;simp only [pA,pN,sZ,sU];refine rT 3 17 (.pointer (some ⟨w.heap.size,66,none⟩)) rfl rfl Qj ?_;simp only [pA,pN,sZ,sU];refine rC 4 18 (.int .i64 p.e) rfl rfl (fun _ h=>Qa h (HPe.out.ep)) Qj ?_;simp only [pA,pN,sZ,sU];refine rT 6 20 (.pointer (some ⟨w.heap.size,64,none⟩)) rfl rfl Qj ?_;simp only [pA,pN,sZ,sU];refine rC 7 21 (.int .i64 0) rfl rfl (fun _ h=>Qa h (hct.out)) Qj ?_;simp only [pA,pN,sZ,sU];refine rT 8 22 (.pointer (some ⟨3,0,none⟩)) rfl rfl Qj ?_;simp only [pA,pN,sZ,sU];refine rT 9 23 (.pointer (some ⟨3,0,none⟩)) rfl rfl Qj ?_;simp only [pA,pN,sZ,sU];refine rC 10 24 (.int .i64 5) rfl rfl (fun _ h=>Qa h (hv0.out)) Qj ?_;simp only [pA,pN,sZ,sU];refine rR 5 rfl (fun K hK=>?_);go_simp;refine (HRk.out _).mono ?_;rintro e w2 ⟨rfl,gw2⟩;refine hK.out _ _ (Qj.trans gw2) (fun _=>?_);replace Qj:=Qj.trans gw2;clear hK K;refine rT 11 25 (.bool false) rfl rfl Qj ?_;simp only [pA,pN,sZ,sU];refine rT 12 26 (.bool false) rfl rfl Qj ?_;simp only [pA,pN,sZ,sU];refine wpAnyH_done (by kernel_rfl) ?_ _;have HK2:=Qh (HK1.out.trans Qj);have HP2:=Qh (HPe.out.kept Qj);have hct2:=Qa Qj hct.out;have hv1:w2.cell? ⟨3,1,none⟩=some (.int .i64 1):=(HT1.out.kept Qj).views 1 (by omega);have ce:=HP2.out.ep;clear Qj gw2;go_wp2_with fail
 refine (up_is p.e _ (by omega) (by omega)).mono ?_;rintro e w' ⟨rfl,rfl⟩;go_wp2_with fail
 refine (down_is p.e _ (by omega) (by omega)).mono ?_;rintro e w' ⟨rfl,rfl⟩;go_wp2_with (first|(refine Qc (by rfl) _ rfl _ rfl _ (HP2.out) ?_)|(refine Qd (by rfl) _ rfl _ rfl _ (HP2.out) ?_))
 refine (HM0.out _).mono ?_;rintro e w3 ⟨rfl,k3⟩;have HK3:=Qh (HK2.out.trans k3);have HP3:=Qh (HP2.out.kept k3);clear k3 ce hct2 hv1;go_wp2_with (first|(refine Qc (by rfl) _ rfl _ rfl _ (HP3.out) ?_)|(refine Qd (by rfl) _ rfl _ rfl _ (HP3.out) ?_))
 refine (HM1.out _).mono ?_;rintro e w4 ⟨rfl,k4⟩;have HK4:=Qh (HK3.out.trans k4);have HP4:=Qh (HP3.out.kept k4);clear k4;go_wp2_with (first|(refine Qc (by rfl) _ rfl _ rfl _ (HP4.out) ?_)|(refine Qd (by rfl) _ rfl _ rfl _ (HP4.out) ?_))
 refine (HM2.out _).mono ?_;rintro e w5 ⟨rfl,k5⟩;have HK5:=Qh (HK4.out.trans k5);clear k5;go_wp2_with fail
 refine (mmake_is 1 1 _ (by omega) (by omega) (by omega)).mono ?_;rintro e w6 ⟨rfl,k6⟩;rw [show mkI 1 1=(-1) from rfl];have HK6:=Qh (HK5.out.trans k6);clear k6;go_wp2;go_ret2;exact ⟨by rw [HF.out.1,HF.out.2];rfl,HK6.out⟩
set_option maxRecDepth 100000 in
set_option maxHeartbeats 2000000 in
theorem passed_off_b (p:Ps) (hB:Brd p.B) (ht:p.t=1) (hr:¬ (16≤p.e∧p.e<24)) (w:World) (hT:Tabs w) :
  Calls Tryz.prog 128 #[.agg (pl p).toArray] w fun e w'=>e=.returned (.tuple #[.int .i64 (passS p),.bool (passB p)])∧Kept w w':=by
 have HF:=Qh (pass_off (p:=p) (by unfold passI;rw [if_neg (fun h=>by rw [ht] at h;exact absurd h.1 (by decide)),if_neg (fun h=>hr ⟨h.2.1,h.2.2.1⟩)]));have hn:(rkI p.e != 2)=true:=by rw [bne_iff_ne];unfold rkI;split <;> omega
 have HP:=Qh (PAt.new w hB.1);have HB:=Qh hB;have HT:=Qh (hT.kept ((Kept.refl w).alloc (.cells (pl p).toArray 26)));have ct:=HP.out.turn;rw [ht] at ct;have HO:=Qh (Ye 1);have ho:Qw 1=0:=rfl;rw [ho] at HO;have HRk:=Qh (Jj p.e);clear hB hT hr ho;generalize rkI p.e=re at *;go_enter Tryz.func128,Tryz.ntmps128;go_wp2_with fail
 refine (HO.out _).mono ?_;rintro e w1 ⟨rfl,k1⟩;have HK1:=Qh (((Kept.refl w).alloc _).trans k1);have HPe:=Qh (HP.out.kept k1);have hct:=Qh (Qa k1 ct);have HT1:=Qh (HT.out.kept k1);have hv0:Hid (w1.cell? ⟨3,2,none⟩=some (.int .i64 2)):=HT1.out.views 2 (by omega);clear k1 ct;go_wp2;refine wp_region_held_drew (S:=Kept _) (by kernel_rfl) (Kept.refl _).drew (fun Qj=>?_);refine rT 0 14 (.int .i64 0) rfl rfl Qj ?_;simp only [pA,pN,sZ,sU];refine rT 1 15 (.bool false) rfl rfl Qj ?_;simp only [pA,pN,sZ,sU];refine rT 2 16 (.bool false) rfl rfl Qj ?_;simp only [pA,pN,sZ,sU];refine rT 3 17 (.pointer (some ⟨w.heap.size,66,none⟩)) rfl rfl Qj ?_;simp only [pA,pN,sZ,sU];refine rC 4 18 (.int .i64 p.e) rfl rfl (fun _ h=>Qa h (HPe.out.ep)) Qj ?_;simp only [pA,pN,sZ,sU];refine rT 6 20 (.pointer (some ⟨w.heap.size,64,none⟩)) rfl rfl Qj ?_;simp only [pA,pN,sZ,sU];refine rC 7 21 (.int .i64 1) rfl rfl (fun _ h=>Qa h (hct.out)) Qj ?_;simp only [pA,pN,sZ,sU];refine rT 8 22 (.pointer (some ⟨3,2,none⟩)) rfl rfl Qj ?_;simp only [pA,pN,sZ,sU];refine rT 9 23 (.pointer (some ⟨3,2,none⟩)) rfl rfl Qj ?_;simp only [pA,pN,sZ,sU];refine rC 10 24 (.int .i64 2) rfl rfl (fun _ h=>Qa h (hv0.out)) Qj ?_;simp only [pA,pN,sZ,sU];refine rR 5 rfl (fun K hK=>?_);go_simp;refine (HRk.out _).mono ?_;rintro e w2 ⟨rfl,gw2⟩;refine hK.out _ _ (Qj.trans gw2) (fun _=>?_);replace Qj:=Qj.trans gw2;clear hK K;refine rT 11 25 (.bool true) rfl rfl Qj ?_;simp only [pA,pN,sZ,sU];refine rT 12 26 (.bool true) rfl rfl Qj ?_;simp only [pA,pN,sZ,sU];refine wpAnyH_done (by kernel_rfl) ?_ _;go_wp2;go_ret2;exact ⟨by rw [HF.out.1,HF.out.2];rfl,HK1.out.trans Qj⟩
set_option maxRecDepth 100000 in
set_option maxHeartbeats 2000000 in
theorem passed0_b (p:Ps) (hB:Brd p.B) (ht:p.t=1) (hlo:16≤p.e) (hhi:p.e<24) (e0:bAt p.B p.e≠0) (w:World) (hT:Tabs w) :
  Calls Tryz.prog 128 #[.agg (pl p).toArray] w fun e w'=>e=.returned (.tuple #[.int .i64 (passS p),.bool (passB p)])∧Kept w w':=by
 have HF:=Qh (pass_off (p:=p) (by unfold passI;rw [if_neg (fun h=>by rw [ht] at h;exact absurd h.1 (by decide)),if_neg (fun h=>e0 h.2.2.2.1)]));have b0:(bAt p.B p.e == 0)=false:=beq_eq_false_iff_ne.2 e0;clear e0;have hlo':=hlo
 have hn:(rkI p.e != 2)=false:=by
  have:rkI p.e=2:=by unfold rkI;rw [if_pos (by omega)];omega
  rw [this];rfl
 have HP:=Qh (PAt.new w hB.1);have HB:=Qh hB;have HT:=Qh (hT.kept ((Kept.refl w).alloc (.cells (pl p).toArray 26)));have ct:=HP.out.turn;rw [ht] at ct;have HO:=Qh (Ye 1);have ho:Qw 1=0:=rfl;rw [ho] at HO;have HRk:=Qh (Jj p.e);have HM0:=Qh (Je p.B hB p.e (by omega) (by omega));have HM1:=Qh (Je p.B hB (p.e-8) (by omega) (by omega));have HM2:=Qh (Je p.B hB (p.e+8) (by omega) (by omega));clear hB hT ho hlo';generalize rkI p.e=re at *;generalize bAt p.B p.e=x0 at *;generalize bAt p.B (p.e-8)=x1 at *;generalize bAt p.B (p.e+8)=x2 at *;go_enter Tryz.func128,Tryz.ntmps128;go_wp2_with fail
 refine (HO.out _).mono ?_;rintro e w1 ⟨rfl,k1⟩;have HK1:=Qh (((Kept.refl w).alloc _).trans k1);have HPe:=Qh (HP.out.kept k1);have hct:=Qh (Qa k1 ct);have HT1:=Qh (HT.out.kept k1);have hv0:Hid (w1.cell? ⟨3,2,none⟩=some (.int .i64 2)):=HT1.out.views 2 (by omega);clear k1 ct;go_wp2;refine wp_region_held_drew (S:=Kept _) (by kernel_rfl) (Kept.refl _).drew (fun Qj=>?_);refine rT 0 14 (.int .i64 0) rfl rfl Qj ?_;simp only [pA,pN,sZ,sU];refine rT 1 15 (.bool false) rfl rfl Qj ?_;simp only [pA,pN,sZ,sU];refine rT 2 16 (.bool false) rfl rfl Qj ?_;simp only [pA,pN,sZ,sU];refine rT 3 17 (.pointer (some ⟨w.heap.size,66,none⟩)) rfl rfl Qj ?_;simp only [pA,pN,sZ,sU];refine rC 4 18 (.int .i64 p.e) rfl rfl (fun _ h=>Qa h (HPe.out.ep)) Qj ?_;simp only [pA,pN,sZ,sU];refine rT 6 20 (.pointer (some ⟨w.heap.size,64,none⟩)) rfl rfl Qj ?_;simp only [pA,pN,sZ,sU];refine rC 7 21 (.int .i64 1) rfl rfl (fun _ h=>Qa h (hct.out)) Qj ?_;simp only [pA,pN,sZ,sU];refine rT 8 22 (.pointer (some ⟨3,2,none⟩)) rfl rfl Qj ?_;simp only [pA,pN,sZ,sU];refine rT 9 23 (.pointer (some ⟨3,2,none⟩)) rfl rfl Qj ?_;simp only [pA,pN,sZ,sU];refine rC 10 24 (.int .i64 2) rfl rfl (fun _ h=>Qa h (hv0.out)) Qj ?_;simp only [pA,pN,sZ,sU];refine rR 5 rfl (fun K hK=>?_);go_simp;refine (HRk.out _).mono ?_;rintro e w2 ⟨rfl,gw2⟩;refine hK.out _ _ (Qj.trans gw2) (fun _=>?_);replace Qj:=Qj.trans gw2;clear hK K;refine rT 11 25 (.bool false) rfl rfl Qj ?_;simp only [pA,pN,sZ,sU];refine rT 12 26 (.bool false) rfl rfl Qj ?_;simp only [pA,pN,sZ,sU];refine wpAnyH_done (by kernel_rfl) ?_ _;have HK2:=Qh (HK1.out.trans Qj);have HP2:=Qh (HPe.out.kept Qj);have hct2:=Qa Qj hct.out;have hv1:w2.cell? ⟨3,3,none⟩=some (.int .i64 (-1)):=(HT1.out.kept Qj).views 3 (by omega);have ce:=HP2.out.ep;clear Qj gw2;go_wp2_with fail
 refine (down_is p.e _ (by omega) (by omega)).mono ?_;rintro e w' ⟨rfl,rfl⟩;go_wp2_with fail
 refine (up_is p.e _ (by omega) (by omega)).mono ?_;rintro e w' ⟨rfl,rfl⟩;go_wp2_with (first|(refine Qc (by rfl) _ rfl _ rfl _ (HP2.out) ?_)|(refine Qd (by rfl) _ rfl _ rfl _ (HP2.out) ?_))
 refine (HM0.out _).mono ?_;rintro e w3 ⟨rfl,k3⟩;have HK3:=Qh (HK2.out.trans k3);have HP3:=Qh (HP2.out.kept k3);clear k3 ce hct2 hv1;go_wp2;go_ret2;exact ⟨by rw [HF.out.1,HF.out.2];rfl,HK3.out⟩
set_option maxRecDepth 100000 in
set_option maxHeartbeats 2000000 in
theorem passed1_b (p:Ps) (hB:Brd p.B) (ht:p.t=1) (hlo:16≤p.e) (hhi:p.e<24) (e0:bAt p.B p.e=0) (e1:bAt p.B (p.e-8)≠0) (w:World) (hT:Tabs w) :
  Calls Tryz.prog 128 #[.agg (pl p).toArray] w fun e w'=>e=.returned (.tuple #[.int .i64 (passS p),.bool (passB p)])∧Kept w w':=by
 have HF:=Qh (pass_off (p:=p) (by unfold passI;rw [if_neg (fun h=>by rw [ht] at h;exact absurd h.1 (by decide)),if_neg (fun h=>e1 h.2.2.2.2.1)]));have b0:(bAt p.B p.e == 0)=true:=beq_iff_eq.2 e0;have b1:(bAt p.B (p.e-8) == 0)=false:=beq_eq_false_iff_ne.2 e1;clear e0 e1;have hlo':=hlo
 have hn:(rkI p.e != 2)=false:=by
  have:rkI p.e=2:=by unfold rkI;rw [if_pos (by omega)];omega
  rw [this];rfl
 have HP:=Qh (PAt.new w hB.1);have HB:=Qh hB;have HT:=Qh (hT.kept ((Kept.refl w).alloc (.cells (pl p).toArray 26)));have ct:=HP.out.turn;rw [ht] at ct;have HO:=Qh (Ye 1);have ho:Qw 1=0:=rfl;rw [ho] at HO;have HRk:=Qh (Jj p.e);have HM0:=Qh (Je p.B hB p.e (by omega) (by omega));have HM1:=Qh (Je p.B hB (p.e-8) (by omega) (by omega));have HM2:=Qh (Je p.B hB (p.e+8) (by omega) (by omega));clear hB hT ho hlo';generalize rkI p.e=re at *;generalize bAt p.B p.e=x0 at *;generalize bAt p.B (p.e-8)=x1 at *;generalize bAt p.B (p.e+8)=x2 at *;go_enter Tryz.func128,Tryz.ntmps128;go_wp2_with fail
 refine (HO.out _).mono ?_;rintro e w1 ⟨rfl,k1⟩;have HK1:=Qh (((Kept.refl w).alloc _).trans k1);have HPe:=Qh (HP.out.kept k1);have hct:=Qh (Qa k1 ct);have HT1:=Qh (HT.out.kept k1);have hv0:Hid (w1.cell? ⟨3,2,none⟩=some (.int .i64 2)):=HT1.out.views 2 (by omega);clear k1 ct;go_wp2;refine wp_region_held_drew (S:=Kept _) (by kernel_rfl) (Kept.refl _).drew (fun Qj=>?_);refine rT 0 14 (.int .i64 0) rfl rfl Qj ?_;simp only [pA,pN,sZ,sU];refine rT 1 15 (.bool false) rfl rfl Qj ?_;simp only [pA,pN,sZ,sU];refine rT 2 16 (.bool false) rfl rfl Qj ?_;simp only [pA,pN,sZ,sU];refine rT 3 17 (.pointer (some ⟨w.heap.size,66,none⟩)) rfl rfl Qj ?_;simp only [pA,pN,sZ,sU];refine rC 4 18 (.int .i64 p.e) rfl rfl (fun _ h=>Qa h (HPe.out.ep)) Qj ?_;simp only [pA,pN,sZ,sU];refine rT 6 20 (.pointer (some ⟨w.heap.size,64,none⟩)) rfl rfl Qj ?_;simp only [pA,pN,sZ,sU];refine rC 7 21 (.int .i64 1) rfl rfl (fun _ h=>Qa h (hct.out)) Qj ?_;simp only [pA,pN,sZ,sU];refine rT 8 22 (.pointer (some ⟨3,2,none⟩)) rfl rfl Qj ?_;simp only [pA,pN,sZ,sU];refine rT 9 23 (.pointer (some ⟨3,2,none⟩)) rfl rfl Qj ?_;simp only [pA,pN,sZ,sU];refine rC 10 24 (.int .i64 2) rfl rfl (fun _ h=>Qa h (hv0.out)) Qj ?_;simp only [pA,pN,sZ,sU];refine rR 5 rfl (fun K hK=>?_);go_simp;refine (HRk.out _).mono ?_;rintro e w2 ⟨rfl,gw2⟩;refine hK.out _ _ (Qj.trans gw2) (fun _=>?_);replace Qj:=Qj.trans gw2;clear hK K;refine rT 11 25 (.bool false) rfl rfl Qj ?_;simp only [pA,pN,sZ,sU];refine rT 12 26 (.bool false) rfl rfl Qj ?_;simp only [pA,pN,sZ,sU];refine wpAnyH_done (by kernel_rfl) ?_ _;have HK2:=Qh (HK1.out.trans Qj);have HP2:=Qh (HPe.out.kept Qj);have hct2:=Qa Qj hct.out;have hv1:w2.cell? ⟨3,3,none⟩=some (.int .i64 (-1)):=(HT1.out.kept Qj).views 3 (by omega);have ce:=HP2.out.ep;clear Qj gw2;go_wp2_with fail
 refine (down_is p.e _ (by omega) (by omega)).mono ?_;rintro e w' ⟨rfl,rfl⟩;go_wp2_with fail
 refine (up_is p.e _ (by omega) (by omega)).mono ?_;rintro e w' ⟨rfl,rfl⟩;go_wp2_with (first|(refine Qc (by rfl) _ rfl _ rfl _ (HP2.out) ?_)|(refine Qd (by rfl) _ rfl _ rfl _ (HP2.out) ?_))
 refine (HM0.out _).mono ?_;rintro e w3 ⟨rfl,k3⟩;have HK3:=Qh (HK2.out.trans k3);have HP3:=Qh (HP2.out.kept k3);clear k3 ce hct2 hv1;go_wp2_with (first|(refine Qc (by rfl) _ rfl _ rfl _ (HP3.out) ?_)|(refine Qd (by rfl) _ rfl _ rfl _ (HP3.out) ?_))
 refine (HM1.out _).mono ?_;rintro e w4 ⟨rfl,k4⟩;have HK4:=Qh (HK3.out.trans k4);have HP4:=Qh (HP3.out.kept k4);clear k4;go_wp2;go_ret2;exact ⟨by rw [HF.out.1,HF.out.2];rfl,HK4.out⟩
set_option maxRecDepth 100000 in
set_option maxHeartbeats 2000000 in
theorem passed2_b (p:Ps) (hB:Brd p.B) (ht:p.t=1) (hlo:16≤p.e) (hhi:p.e<24) (e0:bAt p.B p.e=0) (e1:bAt p.B (p.e-8)=0) (e2:bAt p.B (p.e+8)≠1) (w:World) (hT:Tabs w) :
  Calls Tryz.prog 128 #[.agg (pl p).toArray] w fun e w'=>e=.returned (.tuple #[.int .i64 (passS p),.bool (passB p)])∧Kept w w':=by
 have HF:=Qh (pass_off (p:=p) (by unfold passI;rw [if_neg (fun h=>by rw [ht] at h;exact absurd h.1 (by decide)),if_neg (fun h=>e2 h.2.2.2.2.2)]));have b0:(bAt p.B p.e == 0)=true:=beq_iff_eq.2 e0;have b1:(bAt p.B (p.e-8) == 0)=true:=beq_iff_eq.2 e1;have b2:(bAt p.B (p.e+8) != 1)=true:=bne_iff_ne.2 e2;clear e0 e1 e2;have hlo':=hlo
 have hn:(rkI p.e != 2)=false:=by
  have:rkI p.e=2:=by unfold rkI;rw [if_pos (by omega)];omega
  rw [this];rfl
 have HP:=Qh (PAt.new w hB.1);have HB:=Qh hB;have HT:=Qh (hT.kept ((Kept.refl w).alloc (.cells (pl p).toArray 26)));have ct:=HP.out.turn;rw [ht] at ct;have HO:=Qh (Ye 1);have ho:Qw 1=0:=rfl;rw [ho] at HO;have HRk:=Qh (Jj p.e);have HM0:=Qh (Je p.B hB p.e (by omega) (by omega));have HM1:=Qh (Je p.B hB (p.e-8) (by omega) (by omega));have HM2:=Qh (Je p.B hB (p.e+8) (by omega) (by omega));clear hB hT ho hlo';generalize rkI p.e=re at *;generalize bAt p.B p.e=x0 at *;generalize bAt p.B (p.e-8)=x1 at *;generalize bAt p.B (p.e+8)=x2 at *;go_enter Tryz.func128,Tryz.ntmps128;go_wp2_with fail
 refine (HO.out _).mono ?_;rintro e w1 ⟨rfl,k1⟩;have HK1:=Qh (((Kept.refl w).alloc _).trans k1);have HPe:=Qh (HP.out.kept k1);have hct:=Qh (Qa k1 ct);have HT1:=Qh (HT.out.kept k1);have hv0:Hid (w1.cell? ⟨3,2,none⟩=some (.int .i64 2)):=HT1.out.views 2 (by omega);clear k1 ct;go_wp2;refine wp_region_held_drew (S:=Kept _) (by kernel_rfl) (Kept.refl _).drew (fun Qj=>?_);refine rT 0 14 (.int .i64 0) rfl rfl Qj ?_;simp only [pA,pN,sZ,sU];refine rT 1 15 (.bool false) rfl rfl Qj ?_;simp only [pA,pN,sZ,sU];refine rT 2 16 (.bool false) rfl rfl Qj ?_;simp only [pA,pN,sZ,sU];refine rT 3 17 (.pointer (some ⟨w.heap.size,66,none⟩)) rfl rfl Qj ?_;simp only [pA,pN,sZ,sU];refine rC 4 18 (.int .i64 p.e) rfl rfl (fun _ h=>Qa h (HPe.out.ep)) Qj ?_;simp only [pA,pN,sZ,sU];refine rT 6 20 (.pointer (some ⟨w.heap.size,64,none⟩)) rfl rfl Qj ?_;simp only [pA,pN,sZ,sU];refine rC 7 21 (.int .i64 1) rfl rfl (fun _ h=>Qa h (hct.out)) Qj ?_;simp only [pA,pN,sZ,sU];refine rT 8 22 (.pointer (some ⟨3,2,none⟩)) rfl rfl Qj ?_;simp only [pA,pN,sZ,sU];refine rT 9 23 (.pointer (some ⟨3,2,none⟩)) rfl rfl Qj ?_;simp only [pA,pN,sZ,sU];refine rC 10 24 (.int .i64 2) rfl rfl (fun _ h=>Qa h (hv0.out)) Qj ?_;simp only [pA,pN,sZ,sU];refine rR 5 rfl (fun K hK=>?_);go_simp;refine (HRk.out _).mono ?_;rintro e w2 ⟨rfl,gw2⟩;refine hK.out _ _ (Qj.trans gw2) (fun _=>?_);replace Qj:=Qj.trans gw2;clear hK K;refine rT 11 25 (.bool false) rfl rfl Qj ?_;simp only [pA,pN,sZ,sU];refine rT 12 26 (.bool false) rfl rfl Qj ?_;simp only [pA,pN,sZ,sU];refine wpAnyH_done (by kernel_rfl) ?_ _;have HK2:=Qh (HK1.out.trans Qj);have HP2:=Qh (HPe.out.kept Qj);have hct2:=Qa Qj hct.out;have hv1:w2.cell? ⟨3,3,none⟩=some (.int .i64 (-1)):=(HT1.out.kept Qj).views 3 (by omega);have ce:=HP2.out.ep;clear Qj gw2;go_wp2_with fail
 refine (down_is p.e _ (by omega) (by omega)).mono ?_;rintro e w' ⟨rfl,rfl⟩;go_wp2_with fail
 refine (up_is p.e _ (by omega) (by omega)).mono ?_;rintro e w' ⟨rfl,rfl⟩;go_wp2_with (first|(refine Qc (by rfl) _ rfl _ rfl _ (HP2.out) ?_)|(refine Qd (by rfl) _ rfl _ rfl _ (HP2.out) ?_))
 refine (HM0.out _).mono ?_;rintro e w3 ⟨rfl,k3⟩;have HK3:=Qh (HK2.out.trans k3);have HP3:=Qh (HP2.out.kept k3);clear k3 ce hct2 hv1;go_wp2_with (first|(refine Qc (by rfl) _ rfl _ rfl _ (HP3.out) ?_)|(refine Qd (by rfl) _ rfl _ rfl _ (HP3.out) ?_))
 refine (HM1.out _).mono ?_;rintro e w4 ⟨rfl,k4⟩;have HK4:=Qh (HK3.out.trans k4);have HP4:=Qh (HP3.out.kept k4);clear k4;go_wp2_with (first|(refine Qc (by rfl) _ rfl _ rfl _ (HP4.out) ?_)|(refine Qd (by rfl) _ rfl _ rfl _ (HP4.out) ?_))
 refine (HM2.out _).mono ?_;rintro e w5 ⟨rfl,k5⟩;have HK5:=Qh (HK4.out.trans k5);clear k5;go_wp2_with fail
 refine (mmake_is 1 0 _ (by omega) (by omega) (by omega)).mono ?_;rintro e w6 ⟨rfl,k6⟩;rw [show mkI 1 0=1 from rfl];have HK6:=Qh (HK5.out.trans k6);clear k6;go_wp2;go_ret2;exact ⟨by rw [HF.out.1,HF.out.2];rfl,HK6.out⟩
set_option maxRecDepth 100000 in
set_option maxHeartbeats 2000000 in
theorem passed3_b (p:Ps) (hB:Brd p.B) (ht:p.t=1) (hlo:16≤p.e) (hhi:p.e<24) (e0:bAt p.B p.e=0) (e1:bAt p.B (p.e-8)=0) (e2:bAt p.B (p.e+8)=1) (w:World) (hT:Tabs w) :
  Calls Tryz.prog 128 #[.agg (pl p).toArray] w fun e w'=>e=.returned (.tuple #[.int .i64 (passS p),.bool (passB p)])∧Kept w w':=by
 have HF:=Qh (pass_on (p:=p) (by unfold passI;rw [if_neg (fun h=>by rw [ht] at h;exact absurd h.1 (by decide)),if_pos ⟨ht,hlo,hhi,e0,e1,e2⟩]) (by omega));have b0:(bAt p.B p.e == 0)=true:=beq_iff_eq.2 e0;have b1:(bAt p.B (p.e-8) == 0)=true:=beq_iff_eq.2 e1;have b2:(bAt p.B (p.e+8) != 1)=false:=by rw [e2];rfl
 clear e0 e1 e2;have hlo':=hlo
 have hn:(rkI p.e != 2)=false:=by
  have:rkI p.e=2:=by unfold rkI;rw [if_pos (by omega)];omega
  rw [this];rfl
 have HP:=Qh (PAt.new w hB.1);have HB:=Qh hB;have HT:=Qh (hT.kept ((Kept.refl w).alloc (.cells (pl p).toArray 26)));have ct:=HP.out.turn;rw [ht] at ct;have HO:=Qh (Ye 1);have ho:Qw 1=0:=rfl;rw [ho] at HO;have HRk:=Qh (Jj p.e);have HM0:=Qh (Je p.B hB p.e (by omega) (by omega));have HM1:=Qh (Je p.B hB (p.e-8) (by omega) (by omega));have HM2:=Qh (Je p.B hB (p.e+8) (by omega) (by omega));clear hB hT ho hlo';generalize rkI p.e=re at *;generalize bAt p.B p.e=x0 at *;generalize bAt p.B (p.e-8)=x1 at *;generalize bAt p.B (p.e+8)=x2 at *;go_enter Tryz.func128,Tryz.ntmps128;go_wp2_with fail
 refine (HO.out _).mono ?_;rintro e w1 ⟨rfl,k1⟩;have HK1:=Qh (((Kept.refl w).alloc _).trans k1);have HPe:=Qh (HP.out.kept k1);have hct:=Qh (Qa k1 ct);have HT1:=Qh (HT.out.kept k1);have hv0:Hid (w1.cell? ⟨3,2,none⟩=some (.int .i64 2)):=HT1.out.views 2 (by omega);clear k1 ct;go_wp2;refine wp_region_held_drew (S:=Kept _) (by kernel_rfl) (Kept.refl _).drew (fun Qj=>?_);refine rT 0 14 (.int .i64 0) rfl rfl Qj ?_;simp only [pA,pN,sZ,sU];refine rT 1 15 (.bool false) rfl rfl Qj ?_;simp only [pA,pN,sZ,sU];refine rT 2 16 (.bool false) rfl rfl Qj ?_;simp only [pA,pN,sZ,sU];refine rT 3 17 (.pointer (some ⟨w.heap.size,66,none⟩)) rfl rfl Qj ?_;simp only [pA,pN,sZ,sU];refine rC 4 18 (.int .i64 p.e) rfl rfl (fun _ h=>Qa h (HPe.out.ep)) Qj ?_;simp only [pA,pN,sZ,sU];refine rT 6 20 (.pointer (some ⟨w.heap.size,64,none⟩)) rfl rfl Qj ?_;simp only [pA,pN,sZ,sU];refine rC 7 21 (.int .i64 1) rfl rfl (fun _ h=>Qa h (hct.out)) Qj ?_;simp only [pA,pN,sZ,sU];refine rT 8 22 (.pointer (some ⟨3,2,none⟩)) rfl rfl Qj ?_;simp only [pA,pN,sZ,sU];refine rT 9 23 (.pointer (some ⟨3,2,none⟩)) rfl rfl Qj ?_;simp only [pA,pN,sZ,sU];refine rC 10 24 (.int .i64 2) rfl rfl (fun _ h=>Qa h (hv0.out)) Qj ?_;simp only [pA,pN,sZ,sU];refine rR 5 rfl (fun K hK=>?_);go_simp;refine (HRk.out _).mono ?_;rintro e w2 ⟨rfl,gw2⟩;refine hK.out _ _ (Qj.trans gw2) (fun _=>?_);replace Qj:=Qj.trans gw2;clear hK K;refine rT 11 25 (.bool false) rfl rfl Qj ?_;simp only [pA,pN,sZ,sU];refine rT 12 26 (.bool false) rfl rfl Qj ?_;simp only [pA,pN,sZ,sU];refine wpAnyH_done (by kernel_rfl) ?_ _;have HK2:=Qh (HK1.out.trans Qj);have HP2:=Qh (HPe.out.kept Qj);have hct2:=Qa Qj hct.out;have hv1:w2.cell? ⟨3,3,none⟩=some (.int .i64 (-1)):=(HT1.out.kept Qj).views 3 (by omega);have ce:=HP2.out.ep;clear Qj gw2;go_wp2_with fail
 refine (down_is p.e _ (by omega) (by omega)).mono ?_;rintro e w' ⟨rfl,rfl⟩;go_wp2_with fail
 refine (up_is p.e _ (by omega) (by omega)).mono ?_;rintro e w' ⟨rfl,rfl⟩;go_wp2_with (first|(refine Qc (by rfl) _ rfl _ rfl _ (HP2.out) ?_)|(refine Qd (by rfl) _ rfl _ rfl _ (HP2.out) ?_))
 refine (HM0.out _).mono ?_;rintro e w3 ⟨rfl,k3⟩;have HK3:=Qh (HK2.out.trans k3);have HP3:=Qh (HP2.out.kept k3);clear k3 ce hct2 hv1;go_wp2_with (first|(refine Qc (by rfl) _ rfl _ rfl _ (HP3.out) ?_)|(refine Qd (by rfl) _ rfl _ rfl _ (HP3.out) ?_))
 refine (HM1.out _).mono ?_;rintro e w4 ⟨rfl,k4⟩;have HK4:=Qh (HK3.out.trans k4);have HP4:=Qh (HP3.out.kept k4);clear k4;go_wp2_with (first|(refine Qc (by rfl) _ rfl _ rfl _ (HP4.out) ?_)|(refine Qd (by rfl) _ rfl _ rfl _ (HP4.out) ?_))
 refine (HM2.out _).mono ?_;rintro e w5 ⟨rfl,k5⟩;have HK5:=Qh (HK4.out.trans k5);clear k5;go_wp2_with fail
 refine (mmake_is 1 0 _ (by omega) (by omega) (by omega)).mono ?_;rintro e w6 ⟨rfl,k6⟩;rw [show mkI 1 0=1 from rfl];have HK6:=Qh (HK5.out.trans k6);clear k6;go_wp2;go_ret2;exact ⟨by rw [HF.out.1,HF.out.2];rfl,HK6.out⟩
theorem passed_is (p:Ps) (hB:Brd p.B) (w:World) (hT:Tabs w) :
  Calls Tryz.prog 128 #[.agg (pl p).toArray] w fun e w'=>e=.returned (.tuple #[.int .i64 (passS p),.bool (passB p)])∧Kept w w':=by
 by_cases h0:p.t=0
 ·by_cases hr:40≤p.e∧p.e<48
  ·by_cases e0:bAt p.B p.e=0
   ·by_cases e1:bAt p.B (p.e+8)=0
    ·by_cases e2:bAt p.B (p.e-8)=(-1)
     ·exact passed3_w p hB h0 hr.1 hr.2 e0 e1 e2 w hT
     ·exact passed2_w p hB h0 hr.1 hr.2 e0 e1 e2 w hT
    ·exact passed1_w p hB h0 hr.1 hr.2 e0 e1 w hT
   ·exact passed0_w p hB h0 hr.1 hr.2 e0 w hT
  ·exact passed_off_w p hB h0 hr w hT
 ·by_cases h1:p.t=1
  ·by_cases hr:16≤p.e∧p.e<24
   ·by_cases e0:bAt p.B p.e=0
    ·by_cases e1:bAt p.B (p.e-8)=0
     ·by_cases e2:bAt p.B (p.e+8)=1
      ·exact passed3_b p hB h1 hr.1 hr.2 e0 e1 e2 w hT
      ·exact passed2_b p hB h1 hr.1 hr.2 e0 e1 e2 w hT
     ·exact passed1_b p hB h1 hr.1 hr.2 e0 e1 w hT
    ·exact passed0_b p hB h1 hr.1 hr.2 e0 w hT
   ·exact passed_off_b p hB h1 hr w hT
  ·exact passed_none p hB h0 h1 w
end Go.Proofs.YtlpeiolgcaddjaaGreatDoor
