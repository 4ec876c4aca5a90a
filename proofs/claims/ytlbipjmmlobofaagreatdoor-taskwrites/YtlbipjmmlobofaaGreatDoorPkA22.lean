/- PoA · TsS · TsT: my texts, in their order. -/
import Derived.Test.YtlbipjmmlobofaaGreatDoorPkA15
import Derived.Test.YtlbipjmmlobofaaGreatDoorPkA21
import Derived.Laws.StructEq
namespace Go.Proofs.YtlbipjmmlobofaaGreatDoor
open Go.RowKit
set_option linter.unusedVariables false
set_option linter.unusedSimpArgs false
structure Ps where
 B:List Int
 t:Int
 c:Int
 e:Int
def tlP (p:Ps):List Value:=[.int .i64 p.t,.int .i64 p.c,.int .i64 p.e]
def pl (p:Ps):List Value:=cl p.B++tlP p
theorem pl_length {p:Ps} (h:p.B.length=64):(pl p).length=67:=by simp [pl,tlP,cl_length,h]
theorem pl_size {p:Ps} (h:p.B.length=64):(pl p).toArray.size=67:=by simpa using pl_length h
theorem pl_one (p:Ps):(pl p).toArray.all (·.oneCell')=true:=by
 rw [Array.all_eq_true_iff_forall_mem]
 intro v hv
 simp only [List.mem_toArray,pl,cl,tlP,List.mem_append,List.mem_map,List.mem_cons,List.not_mem_nil,or_false] at hv
 rcases hv with ⟨x,_,rfl⟩|rfl|rfl|rfl <;> rfl
theorem sizeP:(Tryz.prog.info? 26).map (·.size)=some 67:=by kernel_rfl
theorem size_pl {p:Ps} (h:p.B.length=64):(Tryz.prog.info? 26).map (·.size)=some (pl p).toArray.size:=by rw [sizeP,pl_size h]
structure PAt (w:World) (g:Nat) (p:Ps):Prop where
 len:p.B.length=64
 at_:w.heap[g]?=some (.cells (pl p).toArray 26 (0,0))
theorem PAt.kept {w w':World} {g:Nat} {p:Ps} (h:PAt w g p) (k:Kept w w'):PAt w' g p:=⟨h.len,k.heap h.at_⟩
theorem PAt.new (w:World) {p:Ps} (h:p.B.length=64):PAt (w.alloc (.cells (pl p).toArray 26)) w.heap.size p:=⟨h,heap_alloc_new w _⟩
theorem PAt.cellK {w:World} {g:Nat} {p:Ps} (h:PAt w g p) (k:Nat):w.cell? ⟨g,k,none⟩=(pl p)[k]?:=by
 rw [cell_of_row _ _ k _ _ (0,0) h.at_];simp
theorem PAt.cellT {w:World} {g:Nat} {p:Ps} (h:PAt w g p) (k:Nat) {v:Value} (hk:(tlP p)[k]?=some v):w.cell? ⟨g,64+k,none⟩=some v:=by
 have h1:=cl_length p.B
 have h2:=h.len
 rw [h.cellK];unfold pl
 rw [List.getElem?_append_right (by omega),show 64+k-(cl p.B).length=k by omega,hk]
theorem PAt.turn {w:World} {g:Nat} {p:Ps} (h:PAt w g p):w.cell? ⟨g,64,none⟩=some (.int .i64 p.t):=h.cellT 0 rfl
theorem PAt.cas {w:World} {g:Nat} {p:Ps} (h:PAt w g p):w.cell? ⟨g,65,none⟩=some (.int .i64 p.c):=h.cellT 1 rfl
theorem PAt.ep {w:World} {g:Nat} {p:Ps} (h:PAt w g p):w.cell? ⟨g,66,none⟩=some (.int .i64 p.e):=h.cellT 2 rfl
theorem PAt.sq {w:World} {g:Nat} {p:Ps} (h:PAt w g p) (k:Nat) (hk:k<64):w.cell? ⟨g,k,none⟩=some (.int .i8 (p.B.getD k 0)):=by
 have h1:=cl_length p.B
 have h2:=h.len
 rw [h.cellK];unfold pl
 rw [List.getElem?_append_left (by omega),cl_get _ _ (by omega)]
theorem PAt.range {w:World} {g:Nat} {p:Ps} (h:PAt w g p):w.rangeAt g 0 (pl p):=by
 intro j v hv
 rw [Nat.zero_add,h.cellK,hv]
theorem PAt.rangeB {w:World} {g:Nat} {p:Ps} (h:PAt w g p):w.rangeAt g 0 (cl p.B):=by
 intro j v hv
 have hj:j<(cl p.B).length:=(List.getElem?_eq_some_iff.1 hv).1
 rw [Nat.zero_add,h.cellK];unfold pl
 rw [List.getElem?_append_left hj,hv]
theorem PAt.set {w:World} {g:Nat} {p:Ps} (h:PAt w g p) (k:Nat) (v:Value) {q:Ps} (hb:q.B=p.B) (hq:(tlP p).set k v=tlP q):PAt (w.setCell ⟨g,64+k,none⟩ v) g q:=by
 refine ⟨by rw [hb];exact h.len,?_⟩
 have hl:(cl p.B).length=64:=by rw [cl_length,h.len]
 rw [heap_setCell_same w g (64+k) _ _ _ h.at_]
 congr 2
 unfold pl
 rw [List.setIfInBounds_toArray,List.set_append_right _ _ (by omega),show 64+k-(cl p.B).length=k by omega,hq,hb]
theorem wpList_load_ps {ops:Array Oper} {rest:List Oper} {op:Oper} {a:Act} {w:World} {Q:Exit→Act→World→Prop} (hw:Region.wanted op (yielded ops a.tmps)=true) (x:Operand) (ho:op.op=.load 26 x)
  (g:Nat) (hx:a.eval x=.pointer (some ⟨g,0,none⟩)) (p:Ps) (hg:PAt w g p)
  (h:wpList Tryz.prog ops Q rest (a.put op.dst (.agg (pl p).toArray)) w):wpList Tryz.prog ops Q (op::rest) a w :=
 wpList_step fun _ hK=>by
  rw [if_pos hw]
  exact wp_load_mid 26 x ho g 0 hx (pl p) _ hg.range Tryz.underlying26 rfl (by rw [sizeP,pl_length hg.len]) (hK _ _ h)
theorem wpList_load_pb {ops:Array Oper} {rest:List Oper} {op:Oper} {a:Act} {w:World} {Q:Exit→Act→World→Prop} (hw:Region.wanted op (yielded ops a.tmps)=true) (x:Operand) (ho:op.op=.load 24 x)
  (g:Nat) (hx:a.eval x=.pointer (some ⟨g,0,none⟩)) (p:Ps) (hg:PAt w g p)
  (h:wpList Tryz.prog ops Q rest (a.put op.dst (.agg (cl p.B).toArray)) w):wpList Tryz.prog ops Q (op::rest) a w :=
 wpList_step fun _ hK=>by
  rw [if_pos hw]
  exact wp_load_mid 24 x ho g 0 hx (cl p.B) _ hg.rangeB Tryz.underlying24 rfl (by rw [size24,cl_length,hg.len]) (hK _ _ h)
theorem take_load_pb {ops:Array Oper} {S:World→Prop} {op:Oper} {a:Act} (hw:Region.wanted op (yielded ops a.tmps)=true) (x:Operand) (ho:op.op=.load 24 x)
  (g:Nat) (hx:a.eval x=.pointer (some ⟨g,0,none⟩)) (p:Ps) (hB:p.B.length=64) (hS:∀ w,S w→PAt w g p):YieldsIf Tryz.prog ops S op (.agg (cl p.B).toArray) a :=
 yieldsIf_load_mid hw 24 x ho g 0 hx (cl p.B) _ (fun w h=>(hS w h).rangeB) Tryz.underlying24 rfl (by rw [size24,cl_length,hB])
def Zp:Ps:=⟨Zb,0,0,0⟩
theorem Zp_len:Zp.B.length=64:=Zb_brd.1
theorem zeroP:(Tryz.prog.info? 26).map (fun i=>(i.zero,i.size))=some (some (.agg (pl Zp).toArray),67):=by kernel_rfl
theorem run_zero_p (w:World):(zeroValue 26).run Tryz.prog w=.ok (.agg (pl Zp).toArray) w:=(zero_of_info zeroP).1 w
theorem wpList_new_p {ops:Array Oper} {rest:List Oper} {o:Oper} {a:Act} {w:World} {Q:Exit→Act→World→Prop} (hgd:o.guard=none) (ho:o.op=.alloc 26)
  (h:wpList Tryz.prog ops Q rest (a.put o.dst (.pointer (some ⟨w.heap.size,0,none⟩))) (w.alloc (.cells (pl Zp).toArray 26))):wpList Tryz.prog ops Q (o::rest) a w:=by
 refine wpList_plain hgd fun _ hK=>?_
 unfold Oper.wp execOp
 simp only [ho,Instr.alloc,Sem.run_bind,run_zero_p,Result.andThen_ok,newVar,newRow,Value.cells]
 exact hK _ _ h
theorem wpList_store_newp {ops:Array Oper} {rest:List Oper} {o:Oper} {a:Act} {w:World} {Q:Exit→Act→World→Prop} (hgd:o.guard=none) (x y:Operand) (ho:o.op=.store 26 x y)
  (p q:Ps) (hp:p.B.length=64) (hq:q.B.length=64) (hx:a.eval x=.pointer (some ⟨w.heap.size,0,none⟩)) (hy:a.eval y=.agg (pl q).toArray)
  (h:wpList Tryz.prog ops Q rest (a.put o.dst undef) (w.alloc (.cells (pl q).toArray 26))):wpList Tryz.prog ops Q (o::rest) a (w.alloc (.cells (pl p).toArray 26)):=by
 refine wpList_store_row hgd 26 x y ho w.heap.size (pl q).toArray hx hy 26 _ (heap_alloc_new w _) (size_pl hq) (by rw [pl_size hp,pl_size hq]) (pl_one _) ?_
 rw [World.setRow_alloc_new]
 exact h
def beqP (p q:Ps):Bool:=beqB p.B q.B && (p.t == q.t) && (p.c == q.c) && (p.e == q.e)
theorem beqP_refl (p:Ps):beqP p p=true:=by simp [beqP,beqB_refl]
theorem fieldsP : (Tryz.prog.fieldsOf 26).toList.map (fun f => (f.name == "_", f.type, f.offset)) = [(false, 24, 0), (false, 3, 64), (false, 3, 65), (false, 3, 66)] := by kernel_rfl
theorem stoodP:Tryz.prog.stoodInHeld 26=false:=by kernel_rfl
theorem run_part_b {p:Ps} (h:p.B.length=64) (w:World):(part 24 (pl p).toArray 0).run Tryz.prog w=.ok (.agg (cl p.B).toArray) w:=by
 have hs:(sizeOf 24).run Tryz.prog w=.ok 64 w:=by
  cases hq:Tryz.prog.info? 24 with
  | none=>have:=size24;simp [hq] at this
  | some i=>have:=size24;simp [hq] at this;simp [sizeOf,typeInfo,hq,this]
 have hl:(cl p.B).length=64:=by rw [cl_length,h]
 simp only [part,isAgg,Sem.run_bind,run_underlying Tryz.underlying24,Result.andThen_ok,Sem.run_pure,if_true,hs]
 simp [pl,List.take_append,hl]
theorem run_part_i {p:Ps} (h:p.B.length=64) (k:Nat) {x:Int} (hk:(tlP p)[k]?=some (.int .i64 x)) (w:World):(part 3 (pl p).toArray (64+k)).run Tryz.prog w=.ok (.int .i64 x) w:=by
 have hl:(cl p.B).length=64:=by rw [cl_length,h]
 have h2:(pl p)[64+k]?=some (.int .i64 x):=by
  unfold pl
  rw [List.getElem?_append_right (by omega),show 64+k-(cl p.B).length=k by omega,hk]
 simp [part,isAgg,run_underlying Tryz.underlying3,h2]
set_option maxRecDepth 100000
set_option maxHeartbeats 16000000

def pk (K:Tk):Ps:=⟨K.B,K.tu,K.ca,K.ep⟩
theorem KAt.pos {w:World} {g:Nat} {K:Tk} (h:KAt w g K):w.rangeAt g 0 (pl (pk K)):=by
 intro j v hv
 have:=h.range j v
 refine this ?_
 have hj:j<(pl (pk K)).length:=by
  obtain ⟨hj,_⟩:=List.getElem?_eq_some_iff.1 hv
  exact hj
 have hp:pl (pk K)=(cl K.B++ktl K).take 67:=by
  unfold pl pk
  rw [List.take_append,cl_length,h.len,List.take_of_length_le (by rw [cl_length,h.len];omega)]
  rfl
 rw [hp] at hv
 rw [List.getElem?_take] at hv
 split at hv
 ·exact hv
 ·cases hv
theorem KAt.boardR {w:World} {g:Nat} {K:Tk} (h:KAt w g K):w.rangeAt g 0 (cl K.B):=by
 intro j v hv
 refine h.range j v ?_
 rw [List.getElem?_append_left (by obtain ⟨hj,_⟩:=List.getElem?_eq_some_iff.1 hv;exact hj)]
 exact hv
theorem wpList_box_k {ops:Array Oper} {rest:List Oper} {o:Oper} {a:Act} {w:World} {Q:Exit→Act→World→Prop} (hg:o.guard=none) (x:Operand) (ho:o.op=.box 30 x) (K:Tk) (hx:a.eval x=kv K)
  (h:wpList Tryz.prog ops Q rest (a.put o.dst (.pointer (some ⟨w.heap.size,0,none⟩))) (w.alloc (.cells (kcl K).toArray 30))):wpList Tryz.prog ops Q (o::rest) a w :=
 Go.Great.wpList_boxTo hg 30 x ho _ rfl _ rfl (kcl K).toArray (by rw [hx];rfl) h
def okW (K:Tk):Bool:=(decide (K.tu=0) || decide (K.tu=1)) && (decide (0≤K.ca) && (decide (K.ca≤15) && ((decide (K.ep=-1) || (decide (0≤K.ep) && decide (K.ep≤63))) && (decide (0≤K.mx) && (decide (K.mx≤1000) && (decide (-1≤K.re) && decide (K.re≤4)))))))
theorem okW_iff (K:Tk):okW K=true↔(K.tu=0∨K.tu=1)∧(0≤K.ca∧K.ca≤15)∧(K.ep=-1∨(0≤K.ep∧K.ep≤63))∧(0≤K.mx∧K.mx≤1000)∧(-1≤K.re∧K.re≤4):=by
 unfold okW
 simp only [Bool.and_eq_true,Bool.or_eq_true,decide_eq_true_eq]
 constructor
 ·rintro ⟨a,b,c,d,e,f,g,h⟩;exact ⟨a,⟨b,c⟩,d,⟨e,f⟩,g,h⟩
 ·rintro ⟨a,⟨b,c⟩,d,⟨e,f⟩,g,h⟩;exact ⟨a,b,c,d,e,f,g,h⟩
theorem okW_ff (K:Tk) (h:¬ ((K.tu=0∨K.tu=1)∧(0≤K.ca∧K.ca≤15)∧(K.ep=-1∨(0≤K.ep∧K.ep≤63))∧(0≤K.mx∧K.mx≤1000)∧(-1≤K.re∧K.re≤4))):okW K=false:=by
 rw [← Bool.not_eq_true,okW_iff];exact h
theorem within_k (K:Tk) (hl:K.B.length=64) (w:World):Calls Tryz.prog 16 #[kv K] w fun e w'=>e=.returned (.bool (okW K))∧Kept w w':=by
 have H1:=Qh (KAt.new w hl)
 have K1:=Qh ((Kept.refl w).alloc (.cells (kcl K).toArray 30))
 have HL:=Qh hl
 have HPL:Hid ((pk K).B.length=64):=Qh hl
 have HOK:=Qh (okW_iff K)
 have HNO:=Qh (okW_ff K)
 obtain ⟨B,tu,ca,ep,s,ty,se,mx,re⟩:=K
 have pre:∀ (Z:Prop),Z→Z:=fun _ h=>h
 clear hl
 by_cases ht:tu=0∨tu=1
 ·have ht0:0≤tu:=by omega
  have ht1:tu≤1:=by omega
  have HO:=Qh (fun w=>other_side tu ht w)
  have HT:=Qh ht
  clear ht
  by_cases hc0:0≤ca
  ·by_cases hc1:ca≤15
   ·by_cases he:ep=-1∨(0≤ep∧ep≤63)
    ·by_cases hm0:0≤mx
     ·by_cases hm1:mx≤1000
      ·by_cases hr0:-1≤re
       ·by_cases hr1:re≤4
        ·have HE:=Qh (HOK.out.2 ⟨HT.out,⟨hc0,hc1⟩,he,⟨hm0,hm1⟩,hr0,hr1⟩)
         rcases he with he|⟨he0,he1⟩
         ·subst he
          go_enter Tryz.func16,Tryz.ntmps16
          go_upto_region 1 with (refine wpList_box_k rfl _ rfl ⟨B,tu,ca,(-1),s,ty,se,mx,re⟩ rfl ?_)
          generalize w.alloc (.cells (kcl ⟨B,tu,ca,(-1),s,ty,se,mx,re⟩).toArray 30)=W1 at *
          generalize w.heap.size=g1 at *
          have HP:=Qh (PAt.new W1 HPL.out)
          have K2:=Qh (K1.out.alloc (.cells (pl (pk ⟨B,tu,ca,(-1),s,ty,se,mx,re⟩)).toArray 26))
          have H2:=Qh (H1.out.heap ((Kept.refl W1).alloc (.cells (pl (pk ⟨B,tu,ca,(-1),s,ty,se,mx,re⟩)).toArray 26)))
          go_upto_region 2 with (first|(refine wpList_load_midw (by rfl) 26 _ rfl g1 0 rfl (pl (pk ⟨B,tu,ca,(-1),s,ty,se,mx,re⟩)) _ H1.out.pos Tryz.underlying26 rfl (by rw [sizeP,pl_length HPL.out]) ?_)|(with_reducible refine wpList_new_p rfl rfl ?_)|(refine wpList_store_newp rfl _ _ rfl Zp (pk ⟨B,tu,ca,(-1),s,ty,se,mx,re⟩) Zp_len HPL.out rfl rfl ?_))
          generalize W1.alloc (.cells (pl (pk ⟨B,tu,ca,(-1),s,ty,se,mx,re⟩)).toArray 26)=W2 at *
          generalize W1.heap.size=g2 at *
          have c1:W2.cell? ⟨g2,64,none⟩=some (.int .i64 tu):=HP.out.turn
          have c2:W2.cell? ⟨g2,65,none⟩=some (.int .i64 ca):=HP.out.cas
          have c3:W2.cell? ⟨g2,66,none⟩=some (.int .i64 (-1)):=HP.out.ep
          have c4:W2.cell? ⟨g1,73,none⟩=some (.int .i64 mx):=H2.out.cell 9 rfl
          have c5:W2.cell? ⟨g1,74,none⟩=some (.int .i64 re):=H2.out.cell 10 rfl
          go_wp2_with fail
          refine (HO.out _).mono ?_
          rintro e w' ⟨rfl,rfl⟩
          go_wp2
          go_ret
          exact ⟨by rw [HE.out];first|done|rfl|exact congrArg (fun b=>Ending.returned (Value.bool b)) (by first|(rw [decide_eq_true_iff];omega)|(rw [decide_eq_false_iff_not];omega)),K2.out⟩
         ·have hep:(ep == -1)=false:=beq_eq_false_iff_ne.2 (by omega)
          go_enter Tryz.func16,Tryz.ntmps16
          go_upto_region 1 with (refine wpList_box_k rfl _ rfl ⟨B,tu,ca,ep,s,ty,se,mx,re⟩ rfl ?_)
          generalize w.alloc (.cells (kcl ⟨B,tu,ca,ep,s,ty,se,mx,re⟩).toArray 30)=W1 at *
          generalize w.heap.size=g1 at *
          have HP:=Qh (PAt.new W1 HPL.out)
          have K2:=Qh (K1.out.alloc (.cells (pl (pk ⟨B,tu,ca,ep,s,ty,se,mx,re⟩)).toArray 26))
          have H2:=Qh (H1.out.heap ((Kept.refl W1).alloc (.cells (pl (pk ⟨B,tu,ca,ep,s,ty,se,mx,re⟩)).toArray 26)))
          go_upto_region 2 with (first|(refine wpList_load_midw (by rfl) 26 _ rfl g1 0 rfl (pl (pk ⟨B,tu,ca,ep,s,ty,se,mx,re⟩)) _ H1.out.pos Tryz.underlying26 rfl (by rw [sizeP,pl_length HPL.out]) ?_)|(with_reducible refine wpList_new_p rfl rfl ?_)|(refine wpList_store_newp rfl _ _ rfl Zp (pk ⟨B,tu,ca,ep,s,ty,se,mx,re⟩) Zp_len HPL.out rfl rfl ?_))
          generalize W1.alloc (.cells (pl (pk ⟨B,tu,ca,ep,s,ty,se,mx,re⟩)).toArray 26)=W2 at *
          generalize W1.heap.size=g2 at *
          have c1:W2.cell? ⟨g2,64,none⟩=some (.int .i64 tu):=HP.out.turn
          have c2:W2.cell? ⟨g2,65,none⟩=some (.int .i64 ca):=HP.out.cas
          have c3:W2.cell? ⟨g2,66,none⟩=some (.int .i64 ep):=HP.out.ep
          have c4:W2.cell? ⟨g1,73,none⟩=some (.int .i64 mx):=H2.out.cell 9 rfl
          have c5:W2.cell? ⟨g1,74,none⟩=some (.int .i64 re):=H2.out.cell 10 rfl
          go_wp2_with fail
          refine (HO.out _).mono ?_
          rintro e w' ⟨rfl,rfl⟩
          go_wp2_with fail
          refine (right_yes ep _ he0 (by omega)).mono ?_
          rintro e w' ⟨rfl,rfl⟩
          go_wp2
          go_ret
          exact ⟨by rw [HE.out];first|done|rfl|exact congrArg (fun b=>Ending.returned (Value.bool b)) (by first|(rw [decide_eq_true_iff];omega)|(rw [decide_eq_false_iff_not];omega)),K2.out⟩
        ·have HE:=Qh (HNO.out (fun h=>hr1 h.2.2.2.2.2))
         rcases he with he|⟨he0,he1⟩
         ·subst he
          go_enter Tryz.func16,Tryz.ntmps16
          go_upto_region 1 with (refine wpList_box_k rfl _ rfl ⟨B,tu,ca,(-1),s,ty,se,mx,re⟩ rfl ?_)
          generalize w.alloc (.cells (kcl ⟨B,tu,ca,(-1),s,ty,se,mx,re⟩).toArray 30)=W1 at *
          generalize w.heap.size=g1 at *
          have HP:=Qh (PAt.new W1 HPL.out)
          have K2:=Qh (K1.out.alloc (.cells (pl (pk ⟨B,tu,ca,(-1),s,ty,se,mx,re⟩)).toArray 26))
          have H2:=Qh (H1.out.heap ((Kept.refl W1).alloc (.cells (pl (pk ⟨B,tu,ca,(-1),s,ty,se,mx,re⟩)).toArray 26)))
          go_upto_region 2 with (first|(refine wpList_load_midw (by rfl) 26 _ rfl g1 0 rfl (pl (pk ⟨B,tu,ca,(-1),s,ty,se,mx,re⟩)) _ H1.out.pos Tryz.underlying26 rfl (by rw [sizeP,pl_length HPL.out]) ?_)|(with_reducible refine wpList_new_p rfl rfl ?_)|(refine wpList_store_newp rfl _ _ rfl Zp (pk ⟨B,tu,ca,(-1),s,ty,se,mx,re⟩) Zp_len HPL.out rfl rfl ?_))
          generalize W1.alloc (.cells (pl (pk ⟨B,tu,ca,(-1),s,ty,se,mx,re⟩)).toArray 26)=W2 at *
          generalize W1.heap.size=g2 at *
          have c1:W2.cell? ⟨g2,64,none⟩=some (.int .i64 tu):=HP.out.turn
          have c2:W2.cell? ⟨g2,65,none⟩=some (.int .i64 ca):=HP.out.cas
          have c3:W2.cell? ⟨g2,66,none⟩=some (.int .i64 (-1)):=HP.out.ep
          have c4:W2.cell? ⟨g1,73,none⟩=some (.int .i64 mx):=H2.out.cell 9 rfl
          have c5:W2.cell? ⟨g1,74,none⟩=some (.int .i64 re):=H2.out.cell 10 rfl
          go_wp2_with fail
          refine (HO.out _).mono ?_
          rintro e w' ⟨rfl,rfl⟩
          go_wp2
          go_ret
          exact ⟨by rw [HE.out];first|done|rfl|exact congrArg (fun b=>Ending.returned (Value.bool b)) (by first|(rw [decide_eq_true_iff];omega)|(rw [decide_eq_false_iff_not];omega)),K2.out⟩
         ·have hep:(ep == -1)=false:=beq_eq_false_iff_ne.2 (by omega)
          go_enter Tryz.func16,Tryz.ntmps16
          go_upto_region 1 with (refine wpList_box_k rfl _ rfl ⟨B,tu,ca,ep,s,ty,se,mx,re⟩ rfl ?_)
          generalize w.alloc (.cells (kcl ⟨B,tu,ca,ep,s,ty,se,mx,re⟩).toArray 30)=W1 at *
          generalize w.heap.size=g1 at *
          have HP:=Qh (PAt.new W1 HPL.out)
          have K2:=Qh (K1.out.alloc (.cells (pl (pk ⟨B,tu,ca,ep,s,ty,se,mx,re⟩)).toArray 26))
          have H2:=Qh (H1.out.heap ((Kept.refl W1).alloc (.cells (pl (pk ⟨B,tu,ca,ep,s,ty,se,mx,re⟩)).toArray 26)))
          go_upto_region 2 with (first|(refine wpList_load_midw (by rfl) 26 _ rfl g1 0 rfl (pl (pk ⟨B,tu,ca,ep,s,ty,se,mx,re⟩)) _ H1.out.pos Tryz.underlying26 rfl (by rw [sizeP,pl_length HPL.out]) ?_)|(with_reducible refine wpList_new_p rfl rfl ?_)|(refine wpList_store_newp rfl _ _ rfl Zp (pk ⟨B,tu,ca,ep,s,ty,se,mx,re⟩) Zp_len HPL.out rfl rfl ?_))
          generalize W1.alloc (.cells (pl (pk ⟨B,tu,ca,ep,s,ty,se,mx,re⟩)).toArray 26)=W2 at *
          generalize W1.heap.size=g2 at *
          have c1:W2.cell? ⟨g2,64,none⟩=some (.int .i64 tu):=HP.out.turn
          have c2:W2.cell? ⟨g2,65,none⟩=some (.int .i64 ca):=HP.out.cas
          have c3:W2.cell? ⟨g2,66,none⟩=some (.int .i64 ep):=HP.out.ep
          have c4:W2.cell? ⟨g1,73,none⟩=some (.int .i64 mx):=H2.out.cell 9 rfl
          have c5:W2.cell? ⟨g1,74,none⟩=some (.int .i64 re):=H2.out.cell 10 rfl
          go_wp2_with fail
          refine (HO.out _).mono ?_
          rintro e w' ⟨rfl,rfl⟩
          go_wp2_with fail
          refine (right_yes ep _ he0 (by omega)).mono ?_
          rintro e w' ⟨rfl,rfl⟩
          go_wp2
          go_ret
          exact ⟨by rw [HE.out];first|done|rfl|exact congrArg (fun b=>Ending.returned (Value.bool b)) (by first|(rw [decide_eq_true_iff];omega)|(rw [decide_eq_false_iff_not];omega)),K2.out⟩
       ·have HE:=Qh (HNO.out (fun h=>hr0 h.2.2.2.2.1))
        rcases he with he|⟨he0,he1⟩
        ·subst he
         go_enter Tryz.func16,Tryz.ntmps16
         go_upto_region 1 with (refine wpList_box_k rfl _ rfl ⟨B,tu,ca,(-1),s,ty,se,mx,re⟩ rfl ?_)
         generalize w.alloc (.cells (kcl ⟨B,tu,ca,(-1),s,ty,se,mx,re⟩).toArray 30)=W1 at *
         generalize w.heap.size=g1 at *
         have HP:=Qh (PAt.new W1 HPL.out)
         have K2:=Qh (K1.out.alloc (.cells (pl (pk ⟨B,tu,ca,(-1),s,ty,se,mx,re⟩)).toArray 26))
         have H2:=Qh (H1.out.heap ((Kept.refl W1).alloc (.cells (pl (pk ⟨B,tu,ca,(-1),s,ty,se,mx,re⟩)).toArray 26)))
         go_upto_region 2 with (first|(refine wpList_load_midw (by rfl) 26 _ rfl g1 0 rfl (pl (pk ⟨B,tu,ca,(-1),s,ty,se,mx,re⟩)) _ H1.out.pos Tryz.underlying26 rfl (by rw [sizeP,pl_length HPL.out]) ?_)|(with_reducible refine wpList_new_p rfl rfl ?_)|(refine wpList_store_newp rfl _ _ rfl Zp (pk ⟨B,tu,ca,(-1),s,ty,se,mx,re⟩) Zp_len HPL.out rfl rfl ?_))
         generalize W1.alloc (.cells (pl (pk ⟨B,tu,ca,(-1),s,ty,se,mx,re⟩)).toArray 26)=W2 at *
         generalize W1.heap.size=g2 at *
         have c1:W2.cell? ⟨g2,64,none⟩=some (.int .i64 tu):=HP.out.turn
         have c2:W2.cell? ⟨g2,65,none⟩=some (.int .i64 ca):=HP.out.cas
         have c3:W2.cell? ⟨g2,66,none⟩=some (.int .i64 (-1)):=HP.out.ep
         have c4:W2.cell? ⟨g1,73,none⟩=some (.int .i64 mx):=H2.out.cell 9 rfl
         have c5:W2.cell? ⟨g1,74,none⟩=some (.int .i64 re):=H2.out.cell 10 rfl
         go_wp2_with fail
         refine (HO.out _).mono ?_
         rintro e w' ⟨rfl,rfl⟩
         go_wp2
         go_ret
         exact ⟨by rw [HE.out];first|done|rfl|exact congrArg (fun b=>Ending.returned (Value.bool b)) (by first|(rw [decide_eq_true_iff];omega)|(rw [decide_eq_false_iff_not];omega)),K2.out⟩
        ·have hep:(ep == -1)=false:=beq_eq_false_iff_ne.2 (by omega)
         go_enter Tryz.func16,Tryz.ntmps16
         go_upto_region 1 with (refine wpList_box_k rfl _ rfl ⟨B,tu,ca,ep,s,ty,se,mx,re⟩ rfl ?_)
         generalize w.alloc (.cells (kcl ⟨B,tu,ca,ep,s,ty,se,mx,re⟩).toArray 30)=W1 at *
         generalize w.heap.size=g1 at *
         have HP:=Qh (PAt.new W1 HPL.out)
         have K2:=Qh (K1.out.alloc (.cells (pl (pk ⟨B,tu,ca,ep,s,ty,se,mx,re⟩)).toArray 26))
         have H2:=Qh (H1.out.heap ((Kept.refl W1).alloc (.cells (pl (pk ⟨B,tu,ca,ep,s,ty,se,mx,re⟩)).toArray 26)))
         go_upto_region 2 with (first|(refine wpList_load_midw (by rfl) 26 _ rfl g1 0 rfl (pl (pk ⟨B,tu,ca,ep,s,ty,se,mx,re⟩)) _ H1.out.pos Tryz.underlying26 rfl (by rw [sizeP,pl_length HPL.out]) ?_)|(with_reducible refine wpList_new_p rfl rfl ?_)|(refine wpList_store_newp rfl _ _ rfl Zp (pk ⟨B,tu,ca,ep,s,ty,se,mx,re⟩) Zp_len HPL.out rfl rfl ?_))
         generalize W1.alloc (.cells (pl (pk ⟨B,tu,ca,ep,s,ty,se,mx,re⟩)).toArray 26)=W2 at *
         generalize W1.heap.size=g2 at *
         have c1:W2.cell? ⟨g2,64,none⟩=some (.int .i64 tu):=HP.out.turn
         have c2:W2.cell? ⟨g2,65,none⟩=some (.int .i64 ca):=HP.out.cas
         have c3:W2.cell? ⟨g2,66,none⟩=some (.int .i64 ep):=HP.out.ep
         have c4:W2.cell? ⟨g1,73,none⟩=some (.int .i64 mx):=H2.out.cell 9 rfl
         have c5:W2.cell? ⟨g1,74,none⟩=some (.int .i64 re):=H2.out.cell 10 rfl
         go_wp2_with fail
         refine (HO.out _).mono ?_
         rintro e w' ⟨rfl,rfl⟩
         go_wp2_with fail
         refine (right_yes ep _ he0 (by omega)).mono ?_
         rintro e w' ⟨rfl,rfl⟩
         go_wp2
         go_ret
         exact ⟨by rw [HE.out];first|done|rfl|exact congrArg (fun b=>Ending.returned (Value.bool b)) (by first|(rw [decide_eq_true_iff];omega)|(rw [decide_eq_false_iff_not];omega)),K2.out⟩
      ·have HE:=Qh (HNO.out (fun h=>hm1 h.2.2.2.1.2))
       rcases he with he|⟨he0,he1⟩
       ·subst he
        go_enter Tryz.func16,Tryz.ntmps16
        go_upto_region 1 with (refine wpList_box_k rfl _ rfl ⟨B,tu,ca,(-1),s,ty,se,mx,re⟩ rfl ?_)
        generalize w.alloc (.cells (kcl ⟨B,tu,ca,(-1),s,ty,se,mx,re⟩).toArray 30)=W1 at *
        generalize w.heap.size=g1 at *
        have HP:=Qh (PAt.new W1 HPL.out)
        have K2:=Qh (K1.out.alloc (.cells (pl (pk ⟨B,tu,ca,(-1),s,ty,se,mx,re⟩)).toArray 26))
        have H2:=Qh (H1.out.heap ((Kept.refl W1).alloc (.cells (pl (pk ⟨B,tu,ca,(-1),s,ty,se,mx,re⟩)).toArray 26)))
        go_upto_region 2 with (first|(refine wpList_load_midw (by rfl) 26 _ rfl g1 0 rfl (pl (pk ⟨B,tu,ca,(-1),s,ty,se,mx,re⟩)) _ H1.out.pos Tryz.underlying26 rfl (by rw [sizeP,pl_length HPL.out]) ?_)|(with_reducible refine wpList_new_p rfl rfl ?_)|(refine wpList_store_newp rfl _ _ rfl Zp (pk ⟨B,tu,ca,(-1),s,ty,se,mx,re⟩) Zp_len HPL.out rfl rfl ?_))
        generalize W1.alloc (.cells (pl (pk ⟨B,tu,ca,(-1),s,ty,se,mx,re⟩)).toArray 26)=W2 at *
        generalize W1.heap.size=g2 at *
        have c1:W2.cell? ⟨g2,64,none⟩=some (.int .i64 tu):=HP.out.turn
        have c2:W2.cell? ⟨g2,65,none⟩=some (.int .i64 ca):=HP.out.cas
        have c3:W2.cell? ⟨g2,66,none⟩=some (.int .i64 (-1)):=HP.out.ep
        have c4:W2.cell? ⟨g1,73,none⟩=some (.int .i64 mx):=H2.out.cell 9 rfl
        have c5:W2.cell? ⟨g1,74,none⟩=some (.int .i64 re):=H2.out.cell 10 rfl
        go_wp2_with fail
        refine (HO.out _).mono ?_
        rintro e w' ⟨rfl,rfl⟩
        go_wp2
        go_ret
        exact ⟨by rw [HE.out];first|done|rfl|exact congrArg (fun b=>Ending.returned (Value.bool b)) (by first|(rw [decide_eq_true_iff];omega)|(rw [decide_eq_false_iff_not];omega)),K2.out⟩
       ·have hep:(ep == -1)=false:=beq_eq_false_iff_ne.2 (by omega)
        go_enter Tryz.func16,Tryz.ntmps16
        go_upto_region 1 with (refine wpList_box_k rfl _ rfl ⟨B,tu,ca,ep,s,ty,se,mx,re⟩ rfl ?_)
        generalize w.alloc (.cells (kcl ⟨B,tu,ca,ep,s,ty,se,mx,re⟩).toArray 30)=W1 at *
        generalize w.heap.size=g1 at *
        have HP:=Qh (PAt.new W1 HPL.out)
        have K2:=Qh (K1.out.alloc (.cells (pl (pk ⟨B,tu,ca,ep,s,ty,se,mx,re⟩)).toArray 26))
        have H2:=Qh (H1.out.heap ((Kept.refl W1).alloc (.cells (pl (pk ⟨B,tu,ca,ep,s,ty,se,mx,re⟩)).toArray 26)))
        go_upto_region 2 with (first|(refine wpList_load_midw (by rfl) 26 _ rfl g1 0 rfl (pl (pk ⟨B,tu,ca,ep,s,ty,se,mx,re⟩)) _ H1.out.pos Tryz.underlying26 rfl (by rw [sizeP,pl_length HPL.out]) ?_)|(with_reducible refine wpList_new_p rfl rfl ?_)|(refine wpList_store_newp rfl _ _ rfl Zp (pk ⟨B,tu,ca,ep,s,ty,se,mx,re⟩) Zp_len HPL.out rfl rfl ?_))
        generalize W1.alloc (.cells (pl (pk ⟨B,tu,ca,ep,s,ty,se,mx,re⟩)).toArray 26)=W2 at *
        generalize W1.heap.size=g2 at *
        have c1:W2.cell? ⟨g2,64,none⟩=some (.int .i64 tu):=HP.out.turn
        have c2:W2.cell? ⟨g2,65,none⟩=some (.int .i64 ca):=HP.out.cas
        have c3:W2.cell? ⟨g2,66,none⟩=some (.int .i64 ep):=HP.out.ep
        have c4:W2.cell? ⟨g1,73,none⟩=some (.int .i64 mx):=H2.out.cell 9 rfl
        have c5:W2.cell? ⟨g1,74,none⟩=some (.int .i64 re):=H2.out.cell 10 rfl
        go_wp2_with fail
        refine (HO.out _).mono ?_
        rintro e w' ⟨rfl,rfl⟩
        go_wp2_with fail
        refine (right_yes ep _ he0 (by omega)).mono ?_
        rintro e w' ⟨rfl,rfl⟩
        go_wp2
        go_ret
        exact ⟨by rw [HE.out];first|done|rfl|exact congrArg (fun b=>Ending.returned (Value.bool b)) (by first|(rw [decide_eq_true_iff];omega)|(rw [decide_eq_false_iff_not];omega)),K2.out⟩
     ·have HE:=Qh (HNO.out (fun h=>hm0 h.2.2.2.1.1))
      rcases he with he|⟨he0,he1⟩
      ·subst he
       go_enter Tryz.func16,Tryz.ntmps16
       go_upto_region 1 with (refine wpList_box_k rfl _ rfl ⟨B,tu,ca,(-1),s,ty,se,mx,re⟩ rfl ?_)
       generalize w.alloc (.cells (kcl ⟨B,tu,ca,(-1),s,ty,se,mx,re⟩).toArray 30)=W1 at *
       generalize w.heap.size=g1 at *
       have HP:=Qh (PAt.new W1 HPL.out)
       have K2:=Qh (K1.out.alloc (.cells (pl (pk ⟨B,tu,ca,(-1),s,ty,se,mx,re⟩)).toArray 26))
       have H2:=Qh (H1.out.heap ((Kept.refl W1).alloc (.cells (pl (pk ⟨B,tu,ca,(-1),s,ty,se,mx,re⟩)).toArray 26)))
       go_upto_region 2 with (first|(refine wpList_load_midw (by rfl) 26 _ rfl g1 0 rfl (pl (pk ⟨B,tu,ca,(-1),s,ty,se,mx,re⟩)) _ H1.out.pos Tryz.underlying26 rfl (by rw [sizeP,pl_length HPL.out]) ?_)|(with_reducible refine wpList_new_p rfl rfl ?_)|(refine wpList_store_newp rfl _ _ rfl Zp (pk ⟨B,tu,ca,(-1),s,ty,se,mx,re⟩) Zp_len HPL.out rfl rfl ?_))
       generalize W1.alloc (.cells (pl (pk ⟨B,tu,ca,(-1),s,ty,se,mx,re⟩)).toArray 26)=W2 at *
       generalize W1.heap.size=g2 at *
       have c1:W2.cell? ⟨g2,64,none⟩=some (.int .i64 tu):=HP.out.turn
       have c2:W2.cell? ⟨g2,65,none⟩=some (.int .i64 ca):=HP.out.cas
       have c3:W2.cell? ⟨g2,66,none⟩=some (.int .i64 (-1)):=HP.out.ep
       have c4:W2.cell? ⟨g1,73,none⟩=some (.int .i64 mx):=H2.out.cell 9 rfl
       have c5:W2.cell? ⟨g1,74,none⟩=some (.int .i64 re):=H2.out.cell 10 rfl
       go_wp2_with fail
       refine (HO.out _).mono ?_
       rintro e w' ⟨rfl,rfl⟩
       go_wp2
       go_ret
       exact ⟨by rw [HE.out];first|done|rfl|exact congrArg (fun b=>Ending.returned (Value.bool b)) (by first|(rw [decide_eq_true_iff];omega)|(rw [decide_eq_false_iff_not];omega)),K2.out⟩
      ·have hep:(ep == -1)=false:=beq_eq_false_iff_ne.2 (by omega)
       go_enter Tryz.func16,Tryz.ntmps16
       go_upto_region 1 with (refine wpList_box_k rfl _ rfl ⟨B,tu,ca,ep,s,ty,se,mx,re⟩ rfl ?_)
       generalize w.alloc (.cells (kcl ⟨B,tu,ca,ep,s,ty,se,mx,re⟩).toArray 30)=W1 at *
       generalize w.heap.size=g1 at *
       have HP:=Qh (PAt.new W1 HPL.out)
       have K2:=Qh (K1.out.alloc (.cells (pl (pk ⟨B,tu,ca,ep,s,ty,se,mx,re⟩)).toArray 26))
       have H2:=Qh (H1.out.heap ((Kept.refl W1).alloc (.cells (pl (pk ⟨B,tu,ca,ep,s,ty,se,mx,re⟩)).toArray 26)))
       go_upto_region 2 with (first|(refine wpList_load_midw (by rfl) 26 _ rfl g1 0 rfl (pl (pk ⟨B,tu,ca,ep,s,ty,se,mx,re⟩)) _ H1.out.pos Tryz.underlying26 rfl (by rw [sizeP,pl_length HPL.out]) ?_)|(with_reducible refine wpList_new_p rfl rfl ?_)|(refine wpList_store_newp rfl _ _ rfl Zp (pk ⟨B,tu,ca,ep,s,ty,se,mx,re⟩) Zp_len HPL.out rfl rfl ?_))
       generalize W1.alloc (.cells (pl (pk ⟨B,tu,ca,ep,s,ty,se,mx,re⟩)).toArray 26)=W2 at *
       generalize W1.heap.size=g2 at *
       have c1:W2.cell? ⟨g2,64,none⟩=some (.int .i64 tu):=HP.out.turn
       have c2:W2.cell? ⟨g2,65,none⟩=some (.int .i64 ca):=HP.out.cas
       have c3:W2.cell? ⟨g2,66,none⟩=some (.int .i64 ep):=HP.out.ep
       have c4:W2.cell? ⟨g1,73,none⟩=some (.int .i64 mx):=H2.out.cell 9 rfl
       have c5:W2.cell? ⟨g1,74,none⟩=some (.int .i64 re):=H2.out.cell 10 rfl
       go_wp2_with fail
       refine (HO.out _).mono ?_
       rintro e w' ⟨rfl,rfl⟩
       go_wp2_with fail
       refine (right_yes ep _ he0 (by omega)).mono ?_
       rintro e w' ⟨rfl,rfl⟩
       go_wp2
       go_ret
       exact ⟨by rw [HE.out];first|done|rfl|exact congrArg (fun b=>Ending.returned (Value.bool b)) (by first|(rw [decide_eq_true_iff];omega)|(rw [decide_eq_false_iff_not];omega)),K2.out⟩
    ·have HE:=Qh (HNO.out (fun h=>he h.2.2.1))
     have hep:(ep == -1)=false:=beq_eq_false_iff_ne.2 (fun h=>he (.inl h))
     have hen:ep<0∨64≤ep:=by omega
     clear he
     go_enter Tryz.func16,Tryz.ntmps16
     go_upto_region 1 with (refine wpList_box_k rfl _ rfl ⟨B,tu,ca,ep,s,ty,se,mx,re⟩ rfl ?_)
     generalize w.alloc (.cells (kcl ⟨B,tu,ca,ep,s,ty,se,mx,re⟩).toArray 30)=W1 at *
     generalize w.heap.size=g1 at *
     have HP:=Qh (PAt.new W1 HPL.out)
     have K2:=Qh (K1.out.alloc (.cells (pl (pk ⟨B,tu,ca,ep,s,ty,se,mx,re⟩)).toArray 26))
     have H2:=Qh (H1.out.heap ((Kept.refl W1).alloc (.cells (pl (pk ⟨B,tu,ca,ep,s,ty,se,mx,re⟩)).toArray 26)))
     go_upto_region 2 with (first|(refine wpList_load_midw (by rfl) 26 _ rfl g1 0 rfl (pl (pk ⟨B,tu,ca,ep,s,ty,se,mx,re⟩)) _ H1.out.pos Tryz.underlying26 rfl (by rw [sizeP,pl_length HPL.out]) ?_)|(with_reducible refine wpList_new_p rfl rfl ?_)|(refine wpList_store_newp rfl _ _ rfl Zp (pk ⟨B,tu,ca,ep,s,ty,se,mx,re⟩) Zp_len HPL.out rfl rfl ?_))
     generalize W1.alloc (.cells (pl (pk ⟨B,tu,ca,ep,s,ty,se,mx,re⟩)).toArray 26)=W2 at *
     generalize W1.heap.size=g2 at *
     have c1:W2.cell? ⟨g2,64,none⟩=some (.int .i64 tu):=HP.out.turn
     have c2:W2.cell? ⟨g2,65,none⟩=some (.int .i64 ca):=HP.out.cas
     have c3:W2.cell? ⟨g2,66,none⟩=some (.int .i64 ep):=HP.out.ep
     have c4:W2.cell? ⟨g1,73,none⟩=some (.int .i64 mx):=H2.out.cell 9 rfl
     have c5:W2.cell? ⟨g1,74,none⟩=some (.int .i64 re):=H2.out.cell 10 rfl
     go_wp2_with fail
     refine (HO.out _).mono ?_
     rintro e w' ⟨rfl,rfl⟩
     go_wp2_with fail
     refine (right_no ep _ hen).mono ?_
     rintro e w' ⟨rfl,rfl⟩
     go_wp2
     go_ret
     exact ⟨by rw [HE.out];first|done|rfl|exact congrArg (fun b=>Ending.returned (Value.bool b)) (by first|(rw [decide_eq_true_iff];omega)|(rw [decide_eq_false_iff_not];omega)),K2.out⟩
   ·have HE:=Qh (HNO.out (fun h=>hc1 h.2.1.2))
    go_enter Tryz.func16,Tryz.ntmps16
    go_upto_region 1 with (refine wpList_box_k rfl _ rfl ⟨B,tu,ca,ep,s,ty,se,mx,re⟩ rfl ?_)
    generalize w.alloc (.cells (kcl ⟨B,tu,ca,ep,s,ty,se,mx,re⟩).toArray 30)=W1 at *
    generalize w.heap.size=g1 at *
    have HP:=Qh (PAt.new W1 HPL.out)
    have K2:=Qh (K1.out.alloc (.cells (pl (pk ⟨B,tu,ca,ep,s,ty,se,mx,re⟩)).toArray 26))
    have H2:=Qh (H1.out.heap ((Kept.refl W1).alloc (.cells (pl (pk ⟨B,tu,ca,ep,s,ty,se,mx,re⟩)).toArray 26)))
    go_upto_region 2 with (first|(refine wpList_load_midw (by rfl) 26 _ rfl g1 0 rfl (pl (pk ⟨B,tu,ca,ep,s,ty,se,mx,re⟩)) _ H1.out.pos Tryz.underlying26 rfl (by rw [sizeP,pl_length HPL.out]) ?_)|(with_reducible refine wpList_new_p rfl rfl ?_)|(refine wpList_store_newp rfl _ _ rfl Zp (pk ⟨B,tu,ca,ep,s,ty,se,mx,re⟩) Zp_len HPL.out rfl rfl ?_))
    generalize W1.alloc (.cells (pl (pk ⟨B,tu,ca,ep,s,ty,se,mx,re⟩)).toArray 26)=W2 at *
    generalize W1.heap.size=g2 at *
    have c1:W2.cell? ⟨g2,64,none⟩=some (.int .i64 tu):=HP.out.turn
    have c2:W2.cell? ⟨g2,65,none⟩=some (.int .i64 ca):=HP.out.cas
    have c3:W2.cell? ⟨g2,66,none⟩=some (.int .i64 ep):=HP.out.ep
    have c4:W2.cell? ⟨g1,73,none⟩=some (.int .i64 mx):=H2.out.cell 9 rfl
    have c5:W2.cell? ⟨g1,74,none⟩=some (.int .i64 re):=H2.out.cell 10 rfl
    go_wp2_with fail
    refine (HO.out _).mono ?_
    rintro e w' ⟨rfl,rfl⟩
    go_wp2
    go_ret
    exact ⟨by rw [HE.out];first|done|rfl|exact congrArg (fun b=>Ending.returned (Value.bool b)) (by first|(rw [decide_eq_true_iff];omega)|(rw [decide_eq_false_iff_not];omega)),K2.out⟩
  ·have HE:=Qh (HNO.out (fun h=>hc0 h.2.1.1))
   go_enter Tryz.func16,Tryz.ntmps16
   go_upto_region 1 with (refine wpList_box_k rfl _ rfl ⟨B,tu,ca,ep,s,ty,se,mx,re⟩ rfl ?_)
   generalize w.alloc (.cells (kcl ⟨B,tu,ca,ep,s,ty,se,mx,re⟩).toArray 30)=W1 at *
   generalize w.heap.size=g1 at *
   have HP:=Qh (PAt.new W1 HPL.out)
   have K2:=Qh (K1.out.alloc (.cells (pl (pk ⟨B,tu,ca,ep,s,ty,se,mx,re⟩)).toArray 26))
   have H2:=Qh (H1.out.heap ((Kept.refl W1).alloc (.cells (pl (pk ⟨B,tu,ca,ep,s,ty,se,mx,re⟩)).toArray 26)))
   go_upto_region 2 with (first|(refine wpList_load_midw (by rfl) 26 _ rfl g1 0 rfl (pl (pk ⟨B,tu,ca,ep,s,ty,se,mx,re⟩)) _ H1.out.pos Tryz.underlying26 rfl (by rw [sizeP,pl_length HPL.out]) ?_)|(with_reducible refine wpList_new_p rfl rfl ?_)|(refine wpList_store_newp rfl _ _ rfl Zp (pk ⟨B,tu,ca,ep,s,ty,se,mx,re⟩) Zp_len HPL.out rfl rfl ?_))
   generalize W1.alloc (.cells (pl (pk ⟨B,tu,ca,ep,s,ty,se,mx,re⟩)).toArray 26)=W2 at *
   generalize W1.heap.size=g2 at *
   have c1:W2.cell? ⟨g2,64,none⟩=some (.int .i64 tu):=HP.out.turn
   have c2:W2.cell? ⟨g2,65,none⟩=some (.int .i64 ca):=HP.out.cas
   have c3:W2.cell? ⟨g2,66,none⟩=some (.int .i64 ep):=HP.out.ep
   have c4:W2.cell? ⟨g1,73,none⟩=some (.int .i64 mx):=H2.out.cell 9 rfl
   have c5:W2.cell? ⟨g1,74,none⟩=some (.int .i64 re):=H2.out.cell 10 rfl
   go_wp2_with fail
   refine (HO.out _).mono ?_
   rintro e w' ⟨rfl,rfl⟩
   go_wp2
   go_ret
   exact ⟨by rw [HE.out];first|done|rfl|exact congrArg (fun b=>Ending.returned (Value.bool b)) (by first|(rw [decide_eq_true_iff];omega)|(rw [decide_eq_false_iff_not];omega)),K2.out⟩
 ·have HE:=Qh (HNO.out (fun h=>ht h.1))
  have HO:=Qh (fun w=>other_no tu w (fun h=>ht (.inl h)) (fun h=>ht (.inr h)))
  clear ht
  go_enter Tryz.func16,Tryz.ntmps16
  go_upto_region 1 with (refine wpList_box_k rfl _ rfl ⟨B,tu,ca,ep,s,ty,se,mx,re⟩ rfl ?_)
  generalize w.alloc (.cells (kcl ⟨B,tu,ca,ep,s,ty,se,mx,re⟩).toArray 30)=W1 at *
  generalize w.heap.size=g1 at *
  have HP:=Qh (PAt.new W1 HPL.out)
  have K2:=Qh (K1.out.alloc (.cells (pl (pk ⟨B,tu,ca,ep,s,ty,se,mx,re⟩)).toArray 26))
  have H2:=Qh (H1.out.heap ((Kept.refl W1).alloc (.cells (pl (pk ⟨B,tu,ca,ep,s,ty,se,mx,re⟩)).toArray 26)))
  go_upto_region 2 with (first|(refine wpList_load_midw (by rfl) 26 _ rfl g1 0 rfl (pl (pk ⟨B,tu,ca,ep,s,ty,se,mx,re⟩)) _ H1.out.pos Tryz.underlying26 rfl (by rw [sizeP,pl_length HPL.out]) ?_)|(with_reducible refine wpList_new_p rfl rfl ?_)|(refine wpList_store_newp rfl _ _ rfl Zp (pk ⟨B,tu,ca,ep,s,ty,se,mx,re⟩) Zp_len HPL.out rfl rfl ?_))
  generalize W1.alloc (.cells (pl (pk ⟨B,tu,ca,ep,s,ty,se,mx,re⟩)).toArray 26)=W2 at *
  generalize W1.heap.size=g2 at *
  have c1:W2.cell? ⟨g2,64,none⟩=some (.int .i64 tu):=HP.out.turn
  have c2:W2.cell? ⟨g2,65,none⟩=some (.int .i64 ca):=HP.out.cas
  have c3:W2.cell? ⟨g2,66,none⟩=some (.int .i64 ep):=HP.out.ep
  have c4:W2.cell? ⟨g1,73,none⟩=some (.int .i64 mx):=H2.out.cell 9 rfl
  have c5:W2.cell? ⟨g1,74,none⟩=some (.int .i64 re):=H2.out.cell 10 rfl
  go_wp2_with fail
  refine (HO.out _).mono ?_
  rintro e w' ⟨rfl,rfl⟩
  go_wp2
  go_ret
  exact ⟨by rw [HE.out];first|done|rfl|exact congrArg (fun b=>Ending.returned (Value.bool b)) (by first|(rw [decide_eq_true_iff];omega)|(rw [decide_eq_false_iff_not];omega)),K2.out⟩
theorem kq_low (j:Nat) (h:j<4):∃ (c:UInt8),Utf8.decode kqT j=(((c.toNat:Nat)),1)∧c.toNat<128∧ltT j=⟨#[c]⟩:=by
 have:j=0∨j=1∨j=2∨j=3:=by omega
 rcases this with rfl|rfl|rfl|rfl
 ·exact ⟨75,by decide +kernel,by decide,rfl⟩
 ·exact ⟨81,by decide +kernel,by decide,rfl⟩
 ·exact ⟨107,by decide +kernel,by decide,rfl⟩
 ·exact ⟨113,by decide +kernel,by decide,rfl⟩
set_option maxHeartbeats 16000000

def caU (n:Nat):Nat→List UInt8
 | 0=>[]
 | j+1=>caU n j++(if n / 2 ^ j % 2=1 then bs (ltT j) else [])
theorem caU_4 (n:Nat):caU n 4=caL n:=by
 unfold caL
 simp only [caU,List.nil_append,List.append_assoc,Nat.pow_zero,Nat.div_one,Nat.pow_one]
 rfl
theorem caU_len (n:Nat):∀ j,(caU n j).length≤j
 | 0=>Nat.le_refl _
 | j+1=>by
  have:=caU_len n j
  unfold caU
  rw [List.length_append]
  split
  ·have e:(bs (ltT j)).length=1:=by
    have:∀ i,(ltW i).length=1:=by intro i;unfold ltW;split <;> rfl
    exact this j
   omega
  ·simp;omega
theorem bitc_all:∀ n:Fin 16,∀ j:Fin 4,(bits .and .i64 ((n:Nat):Int) ((2 ^ j.val:Nat):Int) != 0)=decide (n.val / 2 ^ j.val % 2=1):=by decide +kernel
theorem bitc {n j:Nat} (hn:n<16) (hj:j<4):(bits .and .i64 (n:Int) ((2 ^ j:Nat):Int) != 0)=decide (n / 2 ^ j % 2=1):=bitc_all ⟨n,hn⟩ ⟨j,hj⟩
theorem castling_is (n:Nat) (hn:n<16) (w:World):Calls Tryz.prog 50 #[.int .i64 (n:Int)] w fun e w'=>e=.returned (.string ⟨(caL n).toArray⟩)∧Kept w w':=by
 have HI0:=Qh (World.iter_heap w kqT 0)
 have HK0:=Qh (Kept.of_grown (grown_iter w kqT 0))
 go_enter Tryz.func50,Tryz.ntmps50
 go_upto_region 3 with fail
 go_loopw [3,4,5] (fun t3 _ _ wr=>∃ j:Nat,j≤4∧t3=.string ⟨(caU n j).toArray⟩∧wr.heap[w.heap.size]?=some (.stringIter kqT j)∧Kept w wr) (fun _ _ _ wr=>4-wr.iterPos w.heap.size)
 case atStart=>exact ⟨0,by omega,rfl,HI0.out,HK0.out⟩
 case round =>
  obtain ⟨j,hj,rfl,hI,hK⟩:=hrel
  have HI:=Qh hI
  have HK:=Qh hK
  clear hI hK
  by_cases hlt:j<4
  ·obtain ⟨c,hd,hc,hT⟩:=kq_low j hlt
   have hen:Utf8.encode (c.toNat:Int)=⟨#[c]⟩:=enc_low c hc
   have hnx:∀ ty,(Instr.next (.pointer (some ⟨w.heap.size,0,none⟩)) true ty).run Tryz.prog wr=.ok (.tuple #[.bool true,.int .i64 j,.int .i32 (c.toNat:Nat)]) (iterAt wr w.heap.size kqT (j+1)):=fun ty=>by
    have:=next_at (P:=Tryz.prog) wr w.heap.size kqT j ty HI.out (by show j<4;exact hlt)
    rw [hd] at this
    exact this
   have NI:=Qh (iterAt_heap HI.out kqT (j+1))
   have NK:=Qh (HK.out.iterAt (Nat.le_refl _) kqT (j+1))
   have hb:=bitc hn hlt
   have hls:=caU_len n j
   obtain ⟨u,hu⟩:∃ u:ByteArray,u=⟨(caU n j).toArray⟩:=⟨_,rfl⟩
   have hus:u.size≤4:=by rw [hu];show (caU n j).toArray.size≤4;simp;omega
   have hadd:¬ 9223372036854775807<u.size+(⟨#[c]⟩:ByteArray).size:=by
    have:(⟨#[c]⟩:ByteArray).size=1:=rfl
    omega
   have HU:=Qh hu
   have HTT:=Qh hT
   rw [← hu]
   clear hd hT hu hls
   by_cases hbit:n / 2 ^ j % 2=1
   ·have HN:Hid (u++⟨#[c]⟩=⟨(caU n (j+1)).toArray⟩):=Qh (by
     rw [HU.out]
     apply bs_inj
     rw [bs_append]
     show caU n j++[c]=caU n j++(if n / 2 ^ j % 2=1 then bs (ltT j) else [])
     rw [if_pos hbit,HTT.out];rfl)
    rw [decide_eq_true hbit] at hb
    clear hbit
    have hj4:j=0∨j=1∨j=2∨j=3:=by omega
    rcases hj4 with rfl|rfl|rfl|rfl
    all_goals
     first|(replace hb:(bits .and .i64 (n:Int) 1 != 0)=_:=hb)|(replace hb:(bits .and .i64 (n:Int) 2 != 0)=_:=hb)|(replace hb:(bits .and .i64 (n:Int) 4 != 0)=_:=hb)|(replace hb:(bits .and .i64 (n:Int) 8 != 0)=_:=hb)
     go_wp2
     go_roundw
     case rel=>exact ⟨_,by omega,by rw [HN.out],NI.out,NK.out⟩
     case measure=>simp [World.iterPos,NI.out,HI.out]
   ·have HN:Hid (u=⟨(caU n (j+1)).toArray⟩):=Qh (by
     rw [HU.out]
     apply bs_inj
     show caU n j=caU n j++(if n / 2 ^ j % 2=1 then bs (ltT j) else [])
     rw [if_neg hbit,List.append_nil])
    rw [decide_eq_false hbit] at hb
    clear hbit
    have hj4:j=0∨j=1∨j=2∨j=3:=by omega
    rcases hj4 with rfl|rfl|rfl|rfl
    all_goals
     first|(replace hb:(bits .and .i64 (n:Int) 1 != 0)=_:=hb)|(replace hb:(bits .and .i64 (n:Int) 2 != 0)=_:=hb)|(replace hb:(bits .and .i64 (n:Int) 4 != 0)=_:=hb)|(replace hb:(bits .and .i64 (n:Int) 8 != 0)=_:=hb)
     go_wp2
     go_roundw
     case rel=>exact ⟨_,by omega,by rw [← HN.out],NI.out,NK.out⟩
     case measure=>simp [World.iterPos,NI.out,HI.out]
  ·have ej:j=4:=by omega
   subst ej
   have hnx:∀ ty,(Instr.next (.pointer (some ⟨w.heap.size,0,none⟩)) true ty).run Tryz.prog _=_:=fun ty=>next_at_end _ w.heap.size kqT 4 ty HI.out (by decide)
   rw [caU_4]
   go_wp2
   go_ret
   exact ⟨rfl,HK.out⟩
end Go.Proofs.YtlbipjmmlobofaaGreatDoor
