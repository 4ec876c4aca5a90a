/- TsI · TsJ · TsK · TsL: my texts, in their order. -/
import Derived.Test.YtlbipjmmlobofaaGreatDoorPkA03
import Derived.Test.YtlbipjmmlobofaaGreatDoorPkA16
import Derived.Test.YtlbipjmmlobofaaGreatDoorPkA17
import Derived.Maps.OwnOps
import Derived.Maps.OwnSet
import Derived.Maps.RangeWalk
import Derived.Maps.Views
import Derived.StringKeys
import Derived.Laws.Strings
import Derived.Carry
namespace Go.Proofs.YtlbipjmmlobofaaGreatDoor
open Go.RowKit
set_option linter.unusedVariables false
set_option linter.unusedSimpArgs false
set_option maxRecDepth 100000
set_option maxHeartbeats 4000000

open Go.Maps
theorem law_key:Keyed Tryz.prog 9:=string_keyed Tryz.underlying9
theorem key_txt (s:ByteArray) (h:s.size≤maxLen):keyOf Tryz.prog 9 (.string s)=some (.string s.data.toList):=Go.WideMaps.keyOf_string_mk Tryz.underlying9 h
def fnV (f:FuncId):Value:=.func (.func f) #[] #[]
def readF (i n:Nat):Value:=match i with
 | 0=>fnV 114
 | 1=>fnV 114
 | 2=>fnV 117
 | 3=>nbF n
 | 4=>fnV 121
 | 5=>fnV 123
 | _=>nbF n
def tellF (i:Nat):FuncId:=match i with
 | 0=>115
 | 1=>116
 | 2=>118
 | 3=>120
 | 4=>122
 | 5=>124
 | _=>125
def opV (i n:Nat):Value:=.agg #[readF i n,fnV (tellF i)]
theorem tellF_inj:∀ i,i<7→∀ j,j<7→tellF i=tellF j→i=j:=by decide
theorem opV_inj {i j n m:Nat} (hi:i<7) (hj:j<7) (h:opV i n=opV j m):i=j:=by
 unfold opV fnV at h
 injection h with h
 have h:=congrArg (fun a:Array Value=>a.toList) h
 simp only at h
 injection h with _ h
 injection h with h _
 injection h with h _ _
 injection h with h
 exact tellF_inj i hi j hj h
def owT (i:Nat):ByteArray:=⟨(opW i).toArray⟩
theorem owT_W:(fun i=>bs (owT i))=opW:=by funext i;rfl
theorem ow_small (i:Nat):(owT i).size≤14:=by
 have:∀ i:Nat,(opW i).length≤14:=by
  intro i
  unfold opW
  split <;> decide
 exact this i
theorem ow_key (i:Nat):keyOf Tryz.prog 9 (.string (owT i))=some (.string (opW i)):=key_txt (owT i) (by have:=ow_small i;unfold maxLen;omega)
theorem ow_inj {i j:Nat} (hi:i ∈ op8) (hj:j ∈ op8) (h:opW i=opW j):i=j:=op_ap.ap i hi j hj (by rw [h];exact List.prefix_rfl)
open Classical in
noncomputable def optR (v:Value):Option (DataW Unit × List MemPlace) :=
 if h:∃ p:Nat × Nat,p.1<7∧v=opV p.1 p.2 then some (.agg [.lit (.int .i64 ((Classical.choose h).1:Nat)),.lit (.int .i64 ((Classical.choose h).2:Nat))],[]) else some (.agg [],[])
def oD (i m:Nat):DataW Unit:=.agg [.lit (.int .i64 (i:Nat)),.lit (.int .i64 (m:Nat))]
theorem optR_of (i n:Nat) (hi:i<7):∃ m,optR (opV i n)=some (oD i m,[])∧opV i m=opV i n:=by
 have h:∃ p:Nat × Nat,p.1<7∧opV i n=opV p.1 p.2:=⟨(i,n),hi,rfl⟩
 have hs:=Classical.choose_spec h
 have e:=opV_inj hi hs.1 hs.2
 refine ⟨(Classical.choose h).2,?_,?_⟩
 ·unfold optR oD
  rw [dif_pos h,← e]
 ·have h2:=hs.2
  rw [← e] at h2
  exact h2.symm
theorem optR_inv {v:Value} {i m:Nat} {ps:List MemPlace} (h:optR v=some (oD i m,ps)):v=opV i m:=by
 unfold optR oD at h
 split at h
 ·rename_i hx
  have hs:=Classical.choose_spec hx
  simp only [Option.some.injEq,Prod.mk.injEq,DataW.agg.injEq,List.cons.injEq,DataW.lit.injEq,Lit.int.injEq,true_and,and_true] at h
  rw [hs.2,show (Classical.choose hx).1=i by omega,show (Classical.choose hx).2=m by omega]
 ·simp at h
theorem optR_some (v:Value):∃ d,optR v=some (d,[]):=by
 unfold optR
 split
 ·exact ⟨_,rfl⟩
 ·exact ⟨_,rfl⟩
structure MapO (w:World) (b:Nat) (N:Nat→Nat) (L:List Nat) (n:Nat) (D:DataW Unit):Prop where
 own:w.ownsMap Tryz.prog 9 optR b n D
 few:n≤100
 map:IsMap D
 low:∀ i ∈ L,i<7
 none:∀ k,has D k=true→∃ i ∈ L,k=.string (opW i)
 all:∀ i ∈ L,has D (.string (opW i))=true∧∃ m,opV i m=opV i (N i)∧∀ z,D.atKey (.string (opW i)) z=oD i m
def MapS (w:World) (b:Nat) (N:Nat→Nat) (L:List Nat):Prop:=∃ n D,MapO w b N L n D
theorem MapS.new (w:World) (N:Nat→Nat):∃ D,MapO (w.alloc (.map #[] 0)) w.heap.size N [] 0 D :=
 ⟨.map [],{ own:=World.ownsMap_made _ _ _ _,few:=by omega,map:=isMap_empty,low:=fun i hi=>(by cases hi),none:=fun k h=>(by cases h),all:=fun i hi=>(by cases hi) }⟩
theorem MapO.kept {w w':World} {b n:Nat} {N:Nat→Nat} {L:List Nat} {D:DataW Unit} (h:MapO w b N L n D) (k:Kept w w'):MapO w' b N L n D:=by
 obtain ⟨⟨es,clock,hb,r⟩,h2,h3,h4,h5,h6⟩:=h
 exact ⟨⟨es,clock,k.heap hb,r⟩,h2,h3,h4,h5,h6⟩
theorem MapO.otherB {w w':World} {b g n:Nat} {N:Nat→Nat} {L:List Nat} {D:DataW Unit} (h:MapO w b N L n D) (k:KeptB g w w') (hn:b≠g):MapO w' b N L n D:=by
 obtain ⟨⟨es,clock,hb,r⟩,h2,h3,h4,h5,h6⟩:=h
 exact ⟨⟨es,clock,k.heap hn hb,r⟩,h2,h3,h4,h5,h6⟩
theorem MapO.reN {w:World} {b n:Nat} {N N':Nat→Nat} {L:List Nat} {D:DataW Unit} (h:MapO w b N L n D) (e:∀ i ∈ L,opV i (N i)=opV i (N' i)):MapO w b N' L n D :=
 ⟨h.own,h.few,h.map,h.low,h.none,fun i hi=>by
  obtain ⟨h1,m,h2,h3⟩:=h.all i hi
  exact ⟨h1,m,h2.trans (e i hi),h3⟩⟩
theorem op8_of {i:Nat} (h:i<7):i ∈ op8:=by
 have:i=0∨i=1∨i=2∨i=3∨i=4∨i=5∨i=6:=by omega
 rcases this with rfl|rfl|rfl|rfl|rfl|rfl|rfl <;> decide
theorem lit_ne {i j:Nat} (hi:i<7) (hj:j<7) (h:i≠j):(Lit.string (opW i))≠.string (opW j):=fun e=>h (ow_inj (op8_of hi) (op8_of hj) (by injection e))
theorem isKey (i:Nat):WideAt.IsKeyLit (.string (opW i)):=law_key.key (ow_key i)
theorem MapO.look {w:World} {b n:Nat} {N:Nat→Nat} {L:List Nat} {D:DataW Unit} (h:MapO w b N L n D) {i:Nat} (hi:i ∈ L) :
  (Instr.lookup 102 (.map (some b)) (.string (owT i)) false).run Tryz.prog w=.ok (opV i (N i)) w:=by
 obtain ⟨h1,m,h2,h3⟩:=h.all i hi
 obtain ⟨zd,hz⟩:=optR_some (.agg #[.nilFunc,.nilFunc])
 have zv:(zeroValue 107).run Tryz.prog w=.ok (.agg #[.nilFunc,.nilFunc]) w:=by kernel_rfl
 obtain ⟨v,ps,hr,hv⟩:=h.own.lookup law_key Tryz.underlying102 zv hz (ow_key i)
 rw [h3] at hv
 rw [hr,optR_inv hv,h2]
theorem wpList_put_op {ops:Array Oper} {rest:List Oper} {o:Oper} {a:Act} {w:World} {Q:Exit→Act→World→Prop} (hg:o.guard=none) (x y z:Operand) (hop:o.op=Op.insert 102 x y z)
  (b n:Nat) (N:Nat→Nat) (L:List Nat) (D:DataW Unit) (i:Nat) (hi:i<7) (hn:n<50) (hL:i ∉ L) (hm:a.eval x=.map (some b)) (hk:a.eval y=.string (owT i)) (hz:a.eval z=opV i (N i)) (hM:MapO w b N L n D)
  (h:∀ w' D',MapO w' b N (L++[i]) (n+1) D'→w.grownBy w' (some b)→wpList Tryz.prog ops Q rest (a.put o.dst undef) w'):wpList Tryz.prog ops Q (o::rest) a w:=by
 obtain ⟨m,hR,hm2⟩:=optR_of i (N i) hi
 refine wpList_plain hg fun K' hK'=>?_
 obtain ⟨w',hrun,r1,r2⟩:=hM.own.update law_key Tryz.underlying102 (by unfold maxLen;omega) (ow_key i) hR
 unfold Oper.wp
 simp [execOp,hop,hm,hk,hz,hrun,Result.andThen]
 refine hK' _ _ (h w' _ ⟨r1,by omega,hM.map.put _ _,?_,?_,?_⟩ r2)
 ·intro j hj
  rcases List.mem_append.1 hj with hj|hj
  ·exact hM.low j hj
  ·rw [List.mem_singleton.1 hj];exact hi
 ·intro k hk
  by_cases e:k=.string (opW i)
  ·exact ⟨i,by simp,e⟩
  ·rw [has_put_other e] at hk
   obtain ⟨j,hj,e2⟩:=hM.none k hk
   exact ⟨j,by simp [hj],e2⟩
 ·intro j hj
  by_cases e:j=i
  ·subst e
   exact ⟨has_put_same hM.map (isKey j) _,m,hm2,fun z=>atKey_put_same hM.map (isKey j) _ z⟩
  ·have hj:j ∈ L:=by
    rcases List.mem_append.1 hj with hj|hj
    ·exact hj
    ·exact absurd (List.mem_singleton.1 hj) e
   have hne:=lit_ne (hM.low j hj) hi e
   obtain ⟨h1,m',h2,h3⟩:=hM.all j hj
   exact ⟨by rw [has_put_other hne];exact h1,m',h2,fun z=>by rw [atKey_put_other hne];exact h3 z⟩
theorem wpList_del_op {ops:Array Oper} {rest:List Oper} {o:Oper} {a:Act} {w:World} {Q:Exit→Act→World→Prop} (hg:o.guard=none) (x y:Operand)
  (hop:o.op=Op.call { callee:=Callee.builtin Builtin.delete,args:=#[x,y],argTypes:=#[102,9] })
  (b n:Nat) (N:Nat→Nat) (L:List Nat) (D:DataW Unit) (i:Nat) (hi:i<7) (hd:L.Nodup) (hm:a.eval x=.map (some b)) (hk:a.eval y=.string (owT i)) (hM:MapO w b N L n D)
  (h:∀ w' D',MapO w' b N (L.erase i) n D'→w.grownBy w' (some b)→wpList Tryz.prog ops Q rest (a.put o.dst (.tuple #[])) w'):wpList Tryz.prog ops Q (o::rest) a w:=by
 refine wpList_delete_own w hg x y 102 9 hop 107 law_key Tryz.underlying102 optR b n D hm hM.own (.string (owT i)) _ hk (ow_key i) ?_
 intro w' ho ht
 refine h w' _ ⟨ho,hM.few,hM.map.del _,erase_lt hM.low i,?_,?_⟩ ht.grown
 ·intro k hk
  by_cases e:k=.string (opW i)
  ·rw [e,has_del_same] at hk;cases hk
  ·rw [has_del_other e] at hk
   obtain ⟨j,hj,e2⟩:=hM.none k hk
   refine ⟨j,(List.mem_erase_of_ne ?_).2 hj,e2⟩
   rintro rfl
   exact e e2
 ·intro j hj
  obtain ⟨hne,hj⟩:=hd.mem_erase_iff.1 hj
  have hne:=lit_ne (hM.low j hj) hi hne
  obtain ⟨h1,m',h2,h3⟩:=hM.all j hj
  exact ⟨by rw [has_del_other hne];exact h1,m',h2,fun z=>by rw [atKey_del_other hne];exact h3 z⟩
theorem bt_op0 (n:Nat):Tryz.prog.built 107 [(0,readF 0 n),(1,fnV (tellF 0))]=some #[readF 0 n,fnV (tellF 0)]:=by kernel_rfl
theorem bt_op1 (n:Nat):Tryz.prog.built 107 [(0,readF 1 n),(1,fnV (tellF 1))]=some #[readF 1 n,fnV (tellF 1)]:=by kernel_rfl
theorem bt_op2 (n:Nat):Tryz.prog.built 107 [(0,readF 2 n),(1,fnV (tellF 2))]=some #[readF 2 n,fnV (tellF 2)]:=by kernel_rfl
theorem bt_op3 (n:Nat):Tryz.prog.built 107 [(0,readF 3 n),(1,fnV (tellF 3))]=some #[readF 3 n,fnV (tellF 3)]:=by kernel_rfl
theorem bt_op4 (n:Nat):Tryz.prog.built 107 [(0,readF 4 n),(1,fnV (tellF 4))]=some #[readF 4 n,fnV (tellF 4)]:=by kernel_rfl
theorem bt_op5 (n:Nat):Tryz.prog.built 107 [(0,readF 5 n),(1,fnV (tellF 5))]=some #[readF 5 n,fnV (tellF 5)]:=by kernel_rfl
theorem bt_op6 (n:Nat):Tryz.prog.built 107 [(0,readF 6 n),(1,fnV (tellF 6))]=some #[readF 6 n,fnV (tellF 6)]:=by kernel_rfl
theorem bt_op (i n:Nat) (hi:i<7):Tryz.prog.built 107 [(0,readF i n),(1,fnV (tellF i))]=some #[readF i n,fnV (tellF i)] :=
 match i,hi with
 | 0,_=>bt_op0 n
 | 1,_=>bt_op1 n
 | 2,_=>bt_op2 n
 | 3,_=>bt_op3 n
 | 4,_=>bt_op4 n
 | 5,_=>bt_op5 n
 | 6,_=>bt_op6 n
theorem wpList_bt_op {ops:Array Oper} {rest:List Oper} {o:Oper} {a:Act} {w:World} {Q:Exit→Act→World→Prop} (hg:o.guard=none) (x0 x1:Operand) (ho:o.op=.build 107 #[(0,x0),(1,x1)]) (i n:Nat) (hi:i<7) (h0:a.eval x0=readF i n) (h1:a.eval x1=fnV (tellF i))
  (h:wpList Tryz.prog ops Q rest (a.put o.dst (opV i n)) w):wpList Tryz.prog ops Q (o::rest) a w :=
 wpList_built hg _ _ ho _ (by
  have:((#[(0,x0),(1,x1)]:Array (Nat × Operand)).map fun (i,x)=>(i,a.eval x)).toList=[(0,readF i n),(1,fnV (tellF i))]:=by simp [h0,h1]
  rw [this];exact bt_op i n hi) h
structure NumC (w:World) (N:Nat→Nat):Prop where
 a0:w.cell? ⟨N 3,0,none⟩=some (.int .i64 1)
 a1:w.cell? ⟨N 3+1,0,none⟩=some (.int .i64 1000)
 b0:w.cell? ⟨N 6,0,none⟩=some (.int .i64 0)
 b1:w.cell? ⟨N 6+1,0,none⟩=some (.int .i64 4)
theorem NumC.kept {w w':World} {N:Nat→Nat} (h:NumC w N) (k:Kept w w'):NumC w' N:=⟨kept_cell k h.a0,kept_cell k h.a1,kept_cell k h.b0,kept_cell k h.b1⟩
def N36 (a b:Nat) (i:Nat):Nat:=if i=3 then a else b
theorem Kept.mapB {a w w':World} {b:Nat} (k:Kept a w) (h:w.grownBy w' (some b)) (hb:a.heap.size≤b):Kept a w':=k.grownBy h (fun g hg=>by injection hg with hg;omega)
theorem grownB_cell {w w':World} {b g k:Nat} {v:Value} (h:w.grownBy w' (some b)) (hn:g≠b) (hc:w.cell? ⟨g,k,none⟩=some v):w'.cell? ⟨g,k,none⟩=some v:=by
 have hlt:g<w.heap.size:=by
  rcases Nat.lt_or_ge g w.heap.size with hl|hl
  ·exact hl
  ·simp [World.cell?,Array.getElem?_eq_none hl] at hc
 have e:=h.block g hlt (fun e=>hn (by injection e))
 simp only [World.cell?] at hc ⊢
 rw [e];exact hc
theorem options_is (w:World):Calls Tryz.prog 79 #[] w fun e w'=>∃ b N n D,e=.returned (.map (some b))∧w.heap.size≤b∧MapO w' b N op7 n D∧NumC w' N∧Kept w w':=by
 obtain ⟨D0,hM0⟩:=MapS.new w (fun _=>0)
 have HM0:=Qh hM0
 have HK0:=Qh ((Kept.refl w).alloc (.map #[] 0))
 clear hM0
 go_enter Tryz.func79,Tryz.ntmps79
 have hmm:=@run_makeMap Tryz.prog
 go_wp2_with (first|(refine wpList_bt_op rfl _ _ rfl 0 0 (by decide) rfl rfl ?_)|(refine wpList_put_op rfl _ _ _ rfl w.heap.size 0 (fun _=>0) [] D0 0 (by decide) (by decide) (by decide) rfl rfl rfl HM0.out ?_))
 intro w1 D1 hM1 hg1
 have HM1:=Qh hM1
 have HK1:=Qh (HK0.out.mapB hg1 (Nat.le_refl _))
 clear hM1 hg1
 go_wp2_with (first|(refine wpList_bt_op rfl _ _ rfl 1 0 (by decide) rfl rfl ?_)|(refine wpList_put_op rfl _ _ _ rfl w.heap.size 1 (fun _=>0) [0] D1 1 (by decide) (by decide) (by decide) rfl rfl rfl HM1.out ?_))
 intro w2 D2 hM2 hg2
 have HM2:=Qh hM2
 have HK2:=Qh (HK1.out.mapB hg2 (Nat.le_refl _))
 clear hM2 hg2
 go_wp2_with (first|(refine wpList_bt_op rfl _ _ rfl 2 0 (by decide) rfl rfl ?_)|(refine wpList_put_op rfl _ _ _ rfl w.heap.size 2 (fun _=>0) [0,1] D2 2 (by decide) (by decide) (by decide) rfl rfl rfl HM2.out ?_))
 intro w3 D3 hM3 hg3
 have HM3:=Qh hM3
 have HK3:=Qh (HK2.out.mapB hg3 (Nat.le_refl _))
 clear hM3 hg3
 go_wp2_with fail
 refine (number_fn 1 1000 _).mono ?_
 rintro e w4 ⟨rfl,c0,c1,k4⟩
 generalize w3.heap.size=n3 at *
 have HM4:=Qh ((HM3.out.kept k4).reN (N':=fun _=>n3) (by intro i hi;simp only [List.mem_append,List.mem_cons,List.not_mem_nil,or_false,List.nil_append,List.cons_append] at hi;rcases hi with rfl|rfl|rfl <;> rfl))
 have HK4:=Qh (HK3.out.trans k4)
 have C0:=Qh c0
 have C1:=Qh c1
 clear k4 c0 c1
 go_wp2_with (first|(refine wpList_bt_op rfl _ _ rfl 3 n3 (by decide) rfl rfl ?_)|(refine wpList_put_op rfl _ _ _ rfl w.heap.size 3 (fun _=>n3) [0,1,2] D3 3 (by decide) (by decide) (by decide) rfl rfl rfl HM4.out ?_))
 intro w5 D5 hM5 hg5
 have HM5:=Qh hM5
 have HK5:=Qh (HK4.out.mapB hg5 (Nat.le_refl _))
 have hlt:=Qh (show n3≠w.heap.size∧n3+1≠w.heap.size by
  obtain ⟨es,clock,hb,_⟩:=HM4.out.own
  constructor
  ·intro e
   have h1:=C0.out
   rw [e] at h1
   simp [World.cell?,hb] at h1
  ·intro e
   have h1:=C1.out
   rw [e] at h1
   simp [World.cell?,hb] at h1)
 have C0b:=Qh (grownB_cell hg5 hlt.out.1 C0.out)
 have C1b:=Qh (grownB_cell hg5 hlt.out.2 C1.out)
 clear hM5 hg5
 go_wp2_with (first|(refine wpList_bt_op rfl _ _ rfl 4 n3 (by decide) rfl rfl ?_)|(refine wpList_put_op rfl _ _ _ rfl w.heap.size 4 (fun _=>n3) [0,1,2,3] D5 4 (by decide) (by decide) (by decide) rfl rfl rfl HM5.out ?_))
 intro w6 D6 hM6 hg6
 have HM6:=Qh hM6
 have HK6:=Qh (HK5.out.mapB hg6 (Nat.le_refl _))
 have C0c:=Qh (grownB_cell hg6 hlt.out.1 C0b.out)
 have C1c:=Qh (grownB_cell hg6 hlt.out.2 C1b.out)
 clear hM6 hg6
 go_wp2_with (first|(refine wpList_bt_op rfl _ _ rfl 5 n3 (by decide) rfl rfl ?_)|(refine wpList_put_op rfl _ _ _ rfl w.heap.size 5 (fun _=>n3) [0,1,2,3,4] D6 5 (by decide) (by decide) (by decide) rfl rfl rfl HM6.out ?_))
 intro w7 D7 hM7 hg7
 have HM7:=Qh hM7
 have HK7:=Qh (HK6.out.mapB hg7 (Nat.le_refl _))
 have C0d:=Qh (grownB_cell hg7 hlt.out.1 C0c.out)
 have C1d:=Qh (grownB_cell hg7 hlt.out.2 C1c.out)
 clear hM7 hg7
 go_wp2_with fail
 refine (number_fn 0 4 _).mono ?_
 rintro e w8 ⟨rfl,c0,c1,k8⟩
 generalize w7.heap.size=n6 at *
 have HM8:=Qh ((HM7.out.kept k8).reN (N':=N36 n3 n6) (by intro i hi;simp only [List.mem_append,List.mem_cons,List.not_mem_nil,or_false,List.nil_append,List.cons_append] at hi;rcases hi with rfl|rfl|rfl|rfl|rfl|rfl <;> rfl))
 have HK8:=Qh (HK7.out.trans k8)
 have E0:=Qh (kept_cell k8 C0d.out)
 have E1:=Qh (kept_cell k8 C1d.out)
 have F0:=Qh c0
 have F1:=Qh c1
 have hlt6:=Qh (show n6≠w.heap.size∧n6+1≠w.heap.size by
  obtain ⟨es,clock,hb,_⟩:=HM8.out.own
  constructor
  ·intro e
   have h1:=F0.out
   rw [e] at h1
   simp [World.cell?,hb] at h1
  ·intro e
   have h1:=F1.out
   rw [e] at h1
   simp [World.cell?,hb] at h1)
 clear k8 c0 c1
 go_wp2_with (first|(refine wpList_bt_op rfl _ _ rfl 6 n6 (by decide) rfl rfl ?_)|(refine wpList_put_op rfl _ _ _ rfl w.heap.size 6 (N36 n3 n6) [0,1,2,3,4,5] D7 6 (by decide) (by decide) (by decide) rfl rfl rfl HM8.out ?_))
 intro w9 D9 hM9 hg9
 have HM9:=Qh hM9
 have HK9:=Qh (HK8.out.mapB hg9 (Nat.le_refl _))
 have HN:Hid (NumC w9 (N36 n3 n6)):=Qh ⟨grownB_cell hg9 hlt.out.1 E0.out,grownB_cell hg9 hlt.out.2 E1.out,grownB_cell hg9 hlt6.out.1 F0.out,grownB_cell hg9 hlt6.out.2 F1.out⟩
 clear hM9 hg9
 go_wp2
 go_ret
 exact ⟨_,_,_,_,rfl,Nat.le_refl _,HM9.out,HN.out,HK9.out⟩
set_option maxHeartbeats 4000000

open Go.Maps
theorem key_inv (key:Value) (kl:Lit) (h:keyOf Tryz.prog 9 key=some kl):∃ s:ByteArray,key=.string s:=by
 cases key <;> simp [keyOf,Tryz.underlying9,mapKey] at h
 exact ⟨_,rfl⟩
theorem key_lit {s:ByteArray} {kl:Lit} (h:keyOf Tryz.prog 9 (.string s)=some kl):kl=.string s.data.toList:=by
 simp [keyOf,Tryz.underlying9,mapKey] at h
 exact h.2.symm
structure WdM (W wr:World) (v:Value) (b r n:Nat) (D:DataW Unit) (left:Lit→Bool) (cnt:Nat) (L done:List Nat):Prop where
 kept:Kept W wr
 own:OwnX wr W.heap.size v (owT 7::done.map owT)
 rng:wr.ranges Tryz.prog 9 optR b r n D left cnt
 nodup:done.Nodup
 sub:∀ i ∈ done,i ∈ L
 rest:∀ i ∈ L,left (.string (opW i))=!decide (i ∈ done)
 none:∀ k,left k=true→∃ i ∈ L,k=.string (opW i)
 few:done.length+cnt≤100
theorem words_set {L done:List Nat} (hd:L.Nodup) (hn:done.Nodup) (hs:∀ i ∈ done,i ∈ L) (ha:∀ i ∈ L,i ∈ done):done.Perm L :=
 (List.perm_ext_iff_of_nodup hn hd).2 fun i=>⟨hs i,ha i⟩
theorem own_not {w:World} {base n g:Nat} {e:TypeId} {v:Value} {xs:List Value} {o:Obj} (h:w.ownsRow base e 1 v n xs) (ho:w.heap[g]?=some o) (hc:∀ cur t z,o≠.cells cur t z):v.ownBlock=none∨v.ownBlock≠some g:=by
 rcases h.2 with ⟨e1,_⟩|⟨g',cap,cur,e1,_,e3,_⟩
 ·subst e1;exact .inl rfl
 ·subst e1
  refine .inr fun e2=>?_
  injection e2 with e2
  have e2:g'=g:=e2
  rw [e2,ho] at e3
  injection e3 with e3
  exact hc _ _ _ e3
theorem own_none {v:Value} {g:Nat} (h:v.ownBlock=none∨v.ownBlock≠some g):some g≠v.ownBlock:=by
 rcases h with h|h
 ·rw [h];simp
 ·exact fun e=>h e.symm
set_option maxHeartbeats 400000 in
theorem words_task (b n:Nat) (N:Nat→Nat) (L:List Nat) (D:DataW Unit) (w:World) (hM:MapO w b N L n D) (hd:L.Nodup) (hlen:L.length≤7) :
  Calls Tryz.prog 80 #[.map (some b)] w fun e w'=>∃ v ws,e=.returned v∧LsT w' v ws∧ws.Perm ((7::L).map owT)∧Kept w w':=by
 obtain ⟨W,eW⟩:∃ W,W=w:=⟨_,rfl⟩
 have HM:=Qh (hM.kept ((Kept.refl w).alloc (.cells #[.string ⟨#[101,110,100,10]⟩] 9)))
 have HK:Hid (Kept W (w.alloc (.cells #[.string ⟨#[101,110,100,10]⟩] 9))):=Qh (by rw [eW];exact (Kept.refl w).alloc _)
 have HO:Hid (OwnX (w.alloc (.cells #[.string ⟨#[101,110,100,10]⟩] 9)) W.heap.size (.slice (some ⟨w.heap.size,0,none⟩) 1 1) [owT 7]):=Qh (by
  rw [eW]
  exact World.ownsRow_lit w #[.string ⟨#[101,110,100,10]⟩] 1 (Nat.le_refl _) (by decide) rfl)
 have HW:=Qh eW
 clear eW hM
 go_enter Tryz.func80,Tryz.ntmps80
 go_wp2_with (refine wpList_range_own _ rfl _ 102 rfl 9 107 law_key Tryz.underlying102 optR b n D rfl HM.out.own ?_)
 intro w1 hr hg hsz
 generalize hrr:w.heap.size+1=r at *
 have hrW:Hid (W.heap.size≤r):=Qh (by rw [← hrr,HW.out];omega)
 have HST:Hid (WdM W w1 (.slice (some ⟨w.heap.size,0,none⟩) 1 1) b r n D (has D) (Maps.size D) L []):=Qh
  {
   kept:=HK.out.grownBy hg (fun g hg=>by cases hg)
   own:=HO.out.kept ((Kept.refl _).grownBy hg (fun g hg=>by cases hg))
   rng:=hr
   nodup:=List.nodup_nil
   sub:=fun i hi=>by cases hi
   rest:=fun i hi=>by rw [(HM.out.all i hi).1];rfl
   none:=fun k hk=>HM.out.none k hk
   few:=by have:=HM.out.own.size_le;have:=HM.out.few;simp;omega }
 clear hr hg hsz hrr
 go_wp2
 go_loopw [3,4] (fun t3 _ wr=>∃ done left cnt,WdM W wr t3 b r n D left cnt L done) (fun _ _ wr=>wr.rangeLeft b r)
 case atStart=>exact ⟨[],_,_,HST.out⟩
 case round =>
  obtain ⟨done,left,cnt,hWd⟩:=hrel
  have HWd:=Qh hWd
  clear hWd
  go_wp2_with (refine wpList_next_ranges _ rfl _ rfl 9 law_key optR Value.string id key_inv (fun v y h=>⟨v,rfl⟩) b r n D left cnt rfl HWd.out.rng ?_ ?_)
  ·intro h0 hall
   have HO:=Qh HWd.out.own
   have HKr:=Qh HWd.out.kept
   have hperm:(owT 7::done.map owT).Perm ((7::L).map owT):=by
    refine List.Perm.cons _ ((words_set hd HWd.out.nodup HWd.out.sub fun i hi=>?_).map owT)
    have h1:=HWd.out.rest i hi
    rw [hall] at h1
    simpa using h1.symm
   have HP:=Qh hperm
   have hl20:(owT 7::done.map owT).length≤20:=by rw [hperm.length_eq];simp;omega
   clear HWd hall h0 hperm
   have hl0:0<(owT 7::done.map owT).length:=by simp
   generalize owT 7::done.map owT=ws at *
   obtain ⟨g1,cap1,cur,rfl,hg1,hh,hc1,hc2,hcs,ht⟩:=own_block HO.out hl0
   have HSo:=Qh (sort_texts ws wr g1 cap1 cur hh ht hl20 (by omega))
   clear hh hcs ht
   go_wp2_with fail
   refine HSo.out.mono ?_
   rintro e w2 ⟨rfl,S,hSl,hpm,hsort,hcell,hk⟩
   have K2:=Qh (hk W hg1 HKr.out)
   have hgl:g1<w2.heap.size:=by
    have h0:0<S.length:=by rw [hSl];exact hl0
    have:=hcell 0 _ (List.getElem?_eq_getElem h0)
    rcases Nat.lt_or_ge g1 w2.heap.size with hl|hl
    ·exact hl
    ·simp [World.cell?,Array.getElem?_eq_none hl] at this
   have hL:LsT w2 (.slice (some ⟨g1,0,none⟩) ws.length cap1) S:=.inr ⟨g1,0,cap1,by rw [hSl],hgl,by rw [hSl];exact hc1,fun j x hx=>by rw [Nat.zero_add];exact hcell j x hx⟩
   have HL:=Qh hL
   have hpp:S.Perm ws:=by
    have h1:=hpm.map (fun l:List UInt8=>(⟨l.toArray⟩:ByteArray))
    have h2:∀ l:List ByteArray,(l.map bs).map (fun l:List UInt8=>(⟨l.toArray⟩:ByteArray))=l:=fun l=>by
     rw [List.map_map]
     conv=>rhs;rw [← List.map_id l]
     exact List.map_congr_left fun x _=>by simp [bs]
    rwa [h2,h2] at h1
   have HPP:=Qh (hpp.trans HP.out)
   clear hk hcell hpm hsort hL hgl hpp
   go_wp2
   go_ret
   exact ⟨_,S,rfl,HL.out,HPP.out,by rw [← HW.out];exact K2.out⟩
  ·intro x c kl d ps w' cnt' hkey hl hv hat hrg hlt hgr hsz hen
   obtain ⟨i,hi,hki⟩:=HWd.out.none kl hl
   have hx:x=owT i:=by
    have:=key_lit hkey
    rw [hki] at this
    injection this with this
    exact bs_inj this.symm
   subst hx
   subst hki
   have hnot:i ∉ done:=by
    have:=HWd.out.rest i hi
    rw [hl] at this
    simpa using this.symm
   obtain ⟨m0,hm0⟩:∃ o,wr.heap[r]?=some o∧∀ cur t z,o≠.cells cur t z:=by
    obtain ⟨_,_,_,_,_,_,_,_,_,h,_⟩:=HWd.out.rng
    exact ⟨_,h,fun _ _ _=>by simp⟩
   have HOb:=Qh (OwnX.kept (World.ownsRow.kept HWd.out.own hgr (own_not HWd.out.own hm0.1 hm0.2):OwnX w' W.heap.size _ _) ((Kept.refl w').alloc (.cells #[.string (owT i)] 9)))
   have HKb:=Qh ((HWd.out.kept.grownBy hgr (fun g hg=>by injection hg with hg;have:=hrW.out;omega)).alloc (.cells #[.string (owT i)] 9))
   have HRb:=Qh (hrg.alloc (.cells #[.string (owT i)] 9))
   have HCb:Hid ((w'.alloc (.cells #[.string (owT i)] 9)).cell? ⟨w'.heap.size,0,none⟩=some (.string (owT i))):=Qh (by rw [cell_of_row _ _ _ _ _ (0,0) (heap_alloc_new w' _)];rfl)
   have HNOT:=Qh hnot
   have HI:=Qh hi
   have HLT:=Qh hlt
   have hlw:Hid ((owT 7::done.map owT).length≤10000):=Qh (by have:=HWd.out.few;simp;omega)
   obtain ⟨ws,hws⟩:∃ ws,ws=owT 7::done.map owT:=⟨_,rfl⟩
   have HWS:=Qh hws
   rw [← hws] at HOb hlw
   obtain ⟨T,hT⟩:∃ T,T=owT i:=⟨_,rfl⟩
   have HTT:=Qh hT
   rw [← hT] at HOb HKb HRb HCb hen
   have hen':(Instr.entry (.pointer (some ⟨r,0,none⟩))).run Tryz.prog w'=.ok (.tuple #[.string T,c]) w':=hen
   clear hm0 hws hnot hi hl hkey hv hat hrg hgr hsz hlt hen
   rw [← hT]
   clear hT
   go_wp2_with (at_builtin;refine wpList_append_x rfl _ _ rfl W.heap.size w'.heap.size _ ws T rfl rfl HOb.out HCb.out ?c1 ?c2 ?_)
   case c1=>exact hlw.out
   case c2=>exact HKb.out.size
   intro v3 w3 ho hg3
   have hnb:some b≠Value.ownBlock _:=own_none (own_not HOb.out (o:=_) (HRb.out.owns.choose_spec.choose_spec.1) (fun _ _ _=>by simp))
   obtain ⟨o1,ho1⟩:∃ o,(w'.alloc (.cells #[.string T] 9)).heap[r]?=some o∧∀ cur t z,o≠.cells cur t z:=by
    obtain ⟨_,_,_,_,_,_,_,_,_,h,_⟩:=HRb.out
    exact ⟨_,h,fun _ _ _=>by simp⟩
   have hnr:some r≠Value.ownBlock _:=own_none (own_not HOb.out ho1.1 ho1.2)
   have HN:Hid (WdM W w3 v3 b r n D (fun z=>left z && !z.sameKey (.string (opW i))) cnt' L (done++[i])):=Qh
    {
     kept:=HOb.out.grown HKb.out (Nat.le_refl _) hg3
     own:=by rw [List.map_append,← List.cons_append,← HWS.out,List.map_singleton,← HTT.out];exact ho
     rng:=HRb.out.kept hg3 hnb hnr
     nodup:=List.nodup_append.2 ⟨HWd.out.nodup,by simp,fun a ha c hc e=>by rw [List.mem_singleton.1 hc] at e;exact HNOT.out (e ▸ ha)⟩
     sub:=fun j hj=>by
      rcases List.mem_append.1 hj with hj|hj
      ·exact HWd.out.sub j hj
      ·rw [List.mem_singleton.1 hj];exact HI.out
     rest:=fun j hj=>by
      by_cases e:j=i
      ·subst e
       simp [WideAt.sameKey_self (isKey j)]
      ·have hs:=sameKey_ne (lit_ne (HM.out.low j hj) (HM.out.low i HI.out) e)
       rw [hs,HWd.out.rest j hj]
       simp [e]
     none:=fun k hk=>HWd.out.none k (by simp at hk;exact hk.1)
     few:=by have:=HWd.out.few;have:=HLT.out;simp;omega }
   have hle:=HWd.out.rng.left_eq
   have hle2:=HN.out.rng.left_eq
   clear ho hg3 hnb hnr ho1
   go_wp2
   go_roundw
   case rel=>exact ⟨_,_,_,HN.out⟩
   case measure=>rw [hle,hle2];exact HLT.out
set_option maxHeartbeats 4000000

open Go.Maps
theorem KAt.cell0 {w:World} {g:Nat} {K:Tk} (h:KAt w g K):∃ n,w.cell? ⟨g,0,none⟩=some (.int .i8 n):=by
 rw [cell_of_row _ _ 0 _ _ (0,0) h.at_,List.getElem?_toArray,List.getElem?_append_left (by rw [cl_length,h.len];omega),cl_get K.B 0 (by rw [h.len];omega)]
 exact ⟨_,rfl⟩
theorem KAt.not64 {w:World} {g b:Nat} {K:Tk} (h:KAt w g K) {n:Int} (hc:w.cell? ⟨b,0,none⟩=some (.int .i64 n)):b≠g:=by
 rintro rfl
 obtain ⟨m,hm⟩:=h.cell0
 rw [hm] at hc
 injection hc with hc
 injection hc with hc _
 cases hc
theorem cell_otherB {w w':World} {g b k:Nat} {v:Value} (h:KeptB g w w') (hn:b≠g) (hc:w.cell? ⟨b,k,none⟩=some v):w'.cell? ⟨b,k,none⟩=some v:=by
 have hlt:b<w.heap.size:=by
  rcases Nat.lt_or_ge b w.heap.size with hl|hl
  ·exact hl
  ·simp [World.cell?,Array.getElem?_eq_none hl] at hc
 have e:=h.block b hlt hn
 simp only [World.cell?] at hc ⊢
 rw [e];exact hc
theorem NumC.otherB {w w':World} {g:Nat} {N:Nat→Nat} {K:Tk} (h:NumC w N) (hK:KAt w g K) (k:KeptB g w w'):NumC w' N :=
 ⟨cell_otherB k (hK.not64 h.a0) h.a0,cell_otherB k (hK.not64 h.a1) h.a1,cell_otherB k (hK.not64 h.b0) h.b0,cell_otherB k (hK.not64 h.b1) h.b1⟩
theorem MapO.ne {w:World} {b g n:Nat} {N:Nat→Nat} {L:List Nat} {D:DataW Unit} {K:Tk} (h:MapO w b N L n D) (hK:KAt w g K):b≠g:=by
 rintro rfl
 obtain ⟨es,clock,hb,_⟩:=h.own
 rw [hK.at_] at hb
 injection hb with hb
 cases hb
theorem MapO.neS {w:World} {b g n:Nat} {N:Nat→Nat} {L:List Nat} {D:DataW Unit} {x:Sp} (h:MapO w b N L n D) (hK:SAt w g x):g≠b:=by
 rintro rfl
 obtain ⟨es,clock,hb,_⟩:=h.own
 rw [hK.at_] at hb
 injection hb with hb
 cases hb
structure OAt (w:World) (g:Nat) (r u:Value):Prop where
 at_:w.heap[g]?=some (.cells #[r,u] 107 (0,0))
theorem OAt.kept {w w':World} {g:Nat} {r u:Value} (h:OAt w g r u) (k:Kept w w'):OAt w' g r u:=⟨k.heap h.at_⟩
theorem OAt.new (w:World) (r u:Value):OAt (w.alloc (.cells #[r,u] 107)) w.heap.size r u:=⟨heap_alloc_new w _⟩
theorem OAt.c0 {w:World} {g:Nat} {r u:Value} (h:OAt w g r u):w.cell? ⟨g,0,none⟩=some r:=by rw [cell_of_row _ _ 0 _ _ (0,0) h.at_];rfl
theorem OAt.c1 {w:World} {g:Nat} {r u:Value} (h:OAt w g r u):w.cell? ⟨g,1,none⟩=some u:=by rw [cell_of_row _ _ 1 _ _ (0,0) h.at_];rfl
theorem zeroOp:(Tryz.prog.info? 107).map (fun i=>(i.zero,i.size))=some (some (.agg #[.nilFunc,.nilFunc]),2):=by kernel_rfl
theorem run_zero_op (w:World):(zeroValue 107).run Tryz.prog w=.ok (.agg #[.nilFunc,.nilFunc]) w:=(zero_of_info zeroOp).1 w
theorem sizeOp:(Tryz.prog.info? 107).map (·.size)=some 2:=by kernel_rfl
theorem wpList_new_op {ops:Array Oper} {rest:List Oper} {o:Oper} {a:Act} {w:World} {Q:Exit→Act→World→Prop} (hgd:o.guard=none) (ho:o.op=.alloc 107)
  (h:wpList Tryz.prog ops Q rest (a.put o.dst (.pointer (some ⟨w.heap.size,0,none⟩))) (w.alloc (.cells #[.nilFunc,.nilFunc] 107))):wpList Tryz.prog ops Q (o::rest) a w:=by
 refine wpList_plain hgd fun _ hK=>?_
 unfold Oper.wp execOp
 simp only [ho,Instr.alloc,Sem.run_bind,run_zero_op,Result.andThen_ok,newVar,newRow,Value.cells]
 exact hK _ _ h
theorem wpList_store_newop {ops:Array Oper} {rest:List Oper} {o:Oper} {a:Act} {w:World} {Q:Exit→Act→World→Prop} (hgd:o.guard=none) (x y:Operand) (ho:o.op=.store 107 x y)
  (r u:Value) (hr:r.oneCell'=true) (hu:u.oneCell'=true) (hx:a.eval x=.pointer (some ⟨w.heap.size,0,none⟩)) (hy:a.eval y=.agg #[r,u])
  (h:wpList Tryz.prog ops Q rest (a.put o.dst undef) (w.alloc (.cells #[r,u] 107))):wpList Tryz.prog ops Q (o::rest) a (w.alloc (.cells #[.nilFunc,.nilFunc] 107)):=by
 refine wpList_store_row hgd 107 x y ho w.heap.size #[r,u] hx hy 107 _ (heap_alloc_new w _) sizeOp rfl (by simp [hr,hu]) ?_
 rw [World.setRow_alloc_new]
 exact h
structure RdC (N:Nat→Nat) (i:Nat) (fr:FuncId) (caps:Array Value):Prop where
 val:readF i (N i)=.func (.func fr) #[] caps
 ent:∀ args w,(callFunc fr args).run Tryz.prog w=.ok (.enter fr args) w
 call:∀ w,NumC w N→∀ (t:ByteArray) (j:Nat),t.size≤1000→j≤t.size→Calls Tryz.prog fr (#[.string t,.int .i64 j]++caps) w fun e w'=>∃ x,e=.returned (sv x)∧StpR j (opR i ((bs t).drop j)) x∧Kept w w'
theorem StpR.of {i:Nat} {r:Pz Int} {x:Sp} (h:x=upz i r):StpR i r x:=by subst h;exact StpR.up i r
theorem read_call (N:Nat→Nat) (i:Nat) (hi:i<7):∃ fr caps,RdC N i fr caps:=by
 have:i=0∨i=1∨i=2∨i=3∨i=4∨i=5∨i=6:=by omega
 rcases this with rfl|rfl|rfl|rfl|rfl|rfl|rfl
 ·refine ⟨_,_,rfl,fun args w=>call_enters Tryz.func114 (by kernel_rfl) rfl args w,fun w _ t j ht hj=>(nothing_is t j w).mono ?_⟩
  rintro e w' ⟨rfl,k⟩
  exact ⟨_,rfl,⟨by simp [opR,rtz],rfl,fun _=>rfl⟩,k⟩
 ·refine ⟨_,_,rfl,fun args w=>call_enters Tryz.func114 (by kernel_rfl) rfl args w,fun w _ t j ht hj=>(nothing_is t j w).mono ?_⟩
  rintro e w' ⟨rfl,k⟩
  exact ⟨_,rfl,⟨by simp [opR,rtz],rfl,fun _=>rfl⟩,k⟩
 ·refine ⟨_,_,rfl,fun args w=>call_enters Tryz.func117 (by kernel_rfl) rfl args w,fun w _ t j ht hj=>(named_is t j ht w).mono ?_⟩
  rintro e w' ⟨rfl,k⟩
  have ho:=one_in hj (n:=2) (by omega) (T:=sdT) (by rw [sdT_W];exact sd_ap)
  rw [sdT_W] at ho
  exact ⟨_,rfl,by rw [show [whT,blT]=(List.range 2).map sdT from rfl,ho];exact ⟨rfl,rfl,fun _=>rfl⟩,k⟩
 ·refine ⟨_,_,rfl,fun args w=>call_enters Tryz.func148 (by kernel_rfl) rfl args w,fun w hN t j ht hj=>(numfn_is t j 1 1000 _ _ ht w hN.a0 hN.a1).mono ?_⟩
  rintro e w' ⟨rfl,k⟩
  exact ⟨_,rfl,StpR.of (num_up hj (by omega) (by omega) (by omega)),k⟩
 ·exact ⟨_,_,rfl,fun args w=>call_enters Tryz.func121 (by kernel_rfl) rfl args w,fun w _ t j ht hj=>letters_is t j hj ht w⟩
 ·refine ⟨_,_,rfl,fun args w=>call_enters Tryz.func123 (by kernel_rfl) rfl args w,fun w _ t j ht hj=>(square_is t j ht w).mono ?_⟩
  rintro e w' ⟨rfl,k⟩
  exact ⟨_,rfl,StpR.of (sq_up hj),k⟩
 ·refine ⟨_,_,rfl,fun args w=>call_enters Tryz.func148 (by kernel_rfl) rfl args w,fun w hN t j ht hj=>(numfn_is t j 0 4 _ _ ht w hN.b0 hN.b1).mono ?_⟩
  rintro e w' ⟨rfl,k⟩
  exact ⟨_,rfl,StpR.of (num_up hj (by omega) (by omega) (by omega)),k⟩
theorem tell_call (i:Nat) (hi:i<7):(∀ args w,(callFunc (tellF i) args).run Tryz.prog w=.ok (.enter (tellF i) args) w)∧∀ (g:Nat) (K:Tk) (v:Int) (w:World),KAt w g K →
  Calls Tryz.prog (tellF i) #[.pointer (some ⟨g,0,none⟩),.int .i64 v] w fun e w'=>e=.returned (.tuple #[])∧KAt w' g (tlK i v K)∧KeptB g w w':=by
 have:i=0∨i=1∨i=2∨i=3∨i=4∨i=5∨i=6:=by omega
 rcases this with rfl|rfl|rfl|rfl|rfl|rfl|rfl
 ·exact ⟨fun args w=>call_enters Tryz.func115 (by kernel_rfl) rfl args w,tell_0⟩
 ·exact ⟨fun args w=>call_enters Tryz.func116 (by kernel_rfl) rfl args w,tell_1⟩
 ·exact ⟨fun args w=>call_enters Tryz.func118 (by kernel_rfl) rfl args w,tell_2⟩
 ·exact ⟨fun args w=>call_enters Tryz.func120 (by kernel_rfl) rfl args w,tell_3⟩
 ·exact ⟨fun args w=>call_enters Tryz.func122 (by kernel_rfl) rfl args w,tell_4⟩
 ·exact ⟨fun args w=>call_enters Tryz.func124 (by kernel_rfl) rfl args w,tell_5⟩
 ·exact ⟨fun args w=>call_enters Tryz.func125 (by kernel_rfl) rfl args w,tell_6⟩
theorem fed_up {t:ByteArray} {j:Nat} (hj:j≤t.size) {p:Par Int} (hg:Gd p) {x:Sp} (h:StpR j (p ((bs t).drop j)) x):StpR j (fdz p 0 ((bs t).drop j)) (fedP t x):=by
 obtain ⟨h1,h2,h3⟩:=h
 unfold fdz fedP
 by_cases he:(p ((bs t).drop j)).e=0
 ·rw [if_neg (by rw [h2];exact fun c=>c he),andz_ok he]
  have hn:j+(p ((bs t).drop j)).n≤t.size:=by have:=hg.le ((bs t).drop j);have:=rest_len hj;omega
  have hw:=word_up hn lfT
  rw [← List.drop_drop] at hw
  rw [h1,hw]
  have hb:bs lfT=[10]:=rfl
  rw [hb]
  by_cases hz:(wdz [10] (((bs t).drop j).drop (p ((bs t).drop j)).n)).e=0
  ·rw [andz_ok hz]
   refine ⟨?_,?_,fun _=>h3 he⟩
   ·simp [upz,rtz,Nat.add_assoc]
   ·exact hz
  ·rw [andz_no hz]
   refine ⟨?_,?_,fun c=>absurd c hz⟩
   ·simp [upz,Nat.add_assoc]
   ·rfl
 ·rw [if_pos (by rw [h2];exact he),andz_no he]
  exact ⟨h1,h2,fun c=>absurd c he⟩
theorem coz_step {f:Nat} {L:List Nat} {K:Tk} (hf:f=L.length):coz f L K=andz (chz (7::L) opW) Z0 fun i=>if i=7 then rtz K else andz (opP i) Z0 fun v=>coz (f-1) (L.erase i) (tlK i v K):=by
 cases f with
 | succ f=>rfl
 | zero =>
  have hL:L=[]:=List.eq_nil_of_length_eq_zero hf.symm
  subst hL
  funext M
  have hA:ApW [7] opW:=op_ap.sub (by simp [op8])
  unfold coz
  by_cases h:opW 7 <+: M
  ·have e1:wdz (opW 7) M=⟨(opW 7).length,0,0⟩:=by unfold wdz;rw [cmn_word h,if_pos rfl]
   have e2:chz [7] opW M=⟨(opW 7).length,7,0⟩:=chz_some hA (by simp) h
   rw [andz_ok (by rw [e1]),andz_ok (by rw [e2]),e1,e2]
   simp
  ·have e2:chz [7] opW M=stz M (farz M opW [7]) 0:=chz_none (by simpa using h)
   have e3:farz M opW [7]=cmn M (opW 7):=by simp [farz]
   have e1:wdz (opW 7) M=stz M (cmn M (opW 7)) 0:=by unfold wdz;rw [if_neg (fun c=>h ((cmn_full _ _).1 c))]
   have e0:∀ {α:Type} (d:α),(stz M (cmn M (opW 7)) d).e≠0:=by intro α d;unfold stz;dsimp only;split <;> simp
   rw [andz_no (by rw [e1];exact e0 _),andz_no (by rw [e2,e3];exact e0 _),e1,e2,e3]
   rfl
set_option maxHeartbeats 4000000

open Go.Maps
def TkR (i:Nat) (r:Pz Tk) (x:Sp) (K:Tk):Prop:=x.a=((i+r.n:Nat):Int)∧x.e=r.e∧(r.e=0→K=r.v)
structure ChM (w wr:World) (g b:Nat) (t:ByteArray) (i:Nat) (K0:Tk) (N:Nat→Nat) (j n:Nat) (L:List Nat) (K:Tk) (D:DataW Unit):Prop where
 kb:KeptB g w wr
 ka:KAt wr g K
 map:MapO wr b N L n D
 num:NumC wr N
 res:SAt wr w.heap.size Zs
 nodup:L.Nodup
 len:L.length≤7
 ij:i≤j
 jt:j≤t.size
 eq:coz 7 op7 K0 ((bs t).drop i)=⟨(j-i)+(coz L.length L K ((bs t).drop j)).n,(coz L.length L K ((bs t).drop j)).v,(coz L.length L K ((bs t).drop j)).e⟩
theorem ch_end {w wr:World} {g b:Nat} {t:ByteArray} {i:Nat} {K0:Tk} {N:Nat→Nat} {j n:Nat} {L:List Nat} {K:Tk} {D:DataW Unit} (h:ChM w wr g b t i K0 N j n L K D) (x:Sp) (K':Tk)
  (hx:TkR j (coz L.length L K ((bs t).drop j)) x K'):TkR i (coz 7 op7 K0 ((bs t).drop i)) x K':=by
 obtain ⟨h1,h2,h3⟩:=hx
 rw [h.eq]
 exact ⟨by rw [h1];have:=h.ij;dsimp only;congr 1;omega,h2,h3⟩
theorem KeptB.rowNew {g k:Nat} {a w:World} (h:KeptB g a w) (hk:a.heap.size≤k) (c:Array Value):KeptB g a (w.setRow k c) :=
 ⟨h.os,h.output,by simpa using h.size,fun j hj hn=>(setRow_other w k j c (by omega)).trans (h.block j hj hn)⟩
theorem KeptB.mapB {g b:Nat} {a w w':World} (h:KeptB g a w) (hg:w.grownBy w' (some b)) (hb:a.heap.size≤b):KeptB g a w' :=
 ⟨hg.os.trans h.os,hg.output.trans h.output,Nat.le_trans h.size hg.size,fun j hj hn=>(hg.block j (Nat.lt_of_lt_of_le hj h.size) (fun e=>by injection e with e;omega)).trans (h.block j hj hn)⟩
theorem KAt.mapB {g b:Nat} {w w':World} {K:Tk} (h:KAt w g K) (hg:w.grownBy w' (some b)) (hn:g≠b):KAt w' g K:=⟨h.len,(hg.block g (lt_of_heap h.at_) (fun e=>hn (by injection e))).trans h.at_⟩
theorem SAt.mapB {g b:Nat} {w w':World} {x:Sp} (h:SAt w g x) (hg:w.grownBy w' (some b)) (hn:g≠b):SAt w' g x:=⟨(hg.block g (lt_of_heap h.at_) (fun e=>hn (by injection e))).trans h.at_⟩
theorem OAt.mapB {g b:Nat} {w w':World} {x y:Value} (h:OAt w g x y) (hg:w.grownBy w' (some b)) (hn:g≠b):OAt w' g x y:=⟨(hg.block g (lt_of_heap h.at_) (fun e=>hn (by injection e))).trans h.at_⟩
theorem MapO.neO {w:World} {b g n:Nat} {N:Nat→Nat} {L:List Nat} {D:DataW Unit} {x y:Value} (h:MapO w b N L n D) (hK:OAt w g x y):g≠b:=by
 rintro rfl
 obtain ⟨es,clock,hb,_⟩:=h.own
 rw [hK.at_] at hb
 injection hb with hb
 cases hb
theorem NumC.mapB {w w':World} {b n:Nat} {N:Nat→Nat} {L:List Nat} {D:DataW Unit} (h:NumC w N) (hM:MapO w b N L n D) (hg:w.grownBy w' (some b)):NumC w' N:=by
 have ne:∀ {k:Nat} {v:Value},w.cell? ⟨k,0,none⟩=some v→k≠b:=fun {k v} hc e=>by
  obtain ⟨es,clock,hb,_⟩:=hM.own
  rw [e] at hc
  simp [World.cell?,hb] at hc
 exact ⟨grownB_cell hg (ne h.a0) h.a0,grownB_cell hg (ne h.a1) h.a1,grownB_cell hg (ne h.b0) h.b0,grownB_cell hg (ne h.b1) h.b1⟩
theorem KAt.neS {w:World} {b g:Nat} {K:Tk} {x:Sp} (hK:KAt w g K) (h:SAt w b x):b≠g:=by
 rintro rfl
 have e:=h.at_
 rw [hK.at_] at e
 have e2:=congrArg (fun o:Option Obj=>match o with|some (.cells _ t _)=>t|_=>0) e
 have e3:(30:Nat)=64:=e2
 exact absurd e3 (by decide)
theorem end_yes:((owT 7).toList == [101,110,100,10])=true:=by decide +kernel
theorem end_no {i:Nat} (h:i<7):((owT i).toList == [101,110,100,10])=false:=by
 have:i=0∨i=1∨i=2∨i=3∨i=4∨i=5∨i=6:=by omega
 rcases this with rfl|rfl|rfl|rfl|rfl|rfl|rfl <;> decide +kernel
theorem ws_small {L:List Nat} {ws:List ByteArray} (hp:ws.Perm ((7::L).map owT)):∀ (j:Nat) (x:ByteArray),ws[j]?=some x→x.size≤1000:=by
 intro j x hx
 obtain ⟨i,_,rfl⟩:=List.mem_map.1 (hp.mem_iff.1 (List.mem_of_getElem? hx))
 have:=ow_small i
 omega
theorem op7_nodup:op7.Nodup:=by decide
set_option maxHeartbeats 16000000 in
theorem choices_is (g:Nat) (t:ByteArray) (i:Nat) (ht:t.size≤1000) (hi:i≤t.size) (K0:Tk) (w:World) (hK:KAt w g K0) :
  Calls Tryz.prog 37 #[.pointer (some ⟨g,0,none⟩),.string t,.int .i64 i] w fun e w'=>∃ x K',e=.returned (sv x)∧TkR i (coz 7 op7 K0 ((bs t).drop i)) x K'∧KAt w' g K'∧KeptB g w w':=by
 have HGL:=Qh (lt_of_heap hK.at_)
 have HS:=Qh (SAt.new w Zs)
 have HKA:=Qh (hK.heap ((Kept.refl w).alloc (.cells (sl Zs).toArray 64)))
 have HKB:=Qh ((Kept.refl w).alloc (.cells (sl Zs).toArray 64))
 clear hK
 go_enter Tryz.func37,Tryz.ntmps37
 go_wp2_with (with_reducible refine wpList_new_sp rfl rfl ?_)
 refine (options_is _).mono ?_
 rintro e w1 ⟨b,N,n,D,rfl,hb,hM,hN,k1⟩
 have HST:Hid (ChM w w1 g b t i K0 N i n op7 K0 D):=Qh
  {
 kb:=KeptB.of (HKB.out.trans k1),ka:=HKA.out.heap k1,map:=hM,num:=hN,res:=HS.out.kept k1,nodup:=op7_nodup,len:=by decide,ij:=Nat.le_refl _,jt:=hi,eq:=by simp [op7] }
 have HBB:Hid (w.heap.size≤b):=Qh (by rw [World.size_alloc] at hb;omega)
 clear hb hM hN k1
 go_wp2
 go_loopw [2,8] (fun t2 _ wr=>∃ (j:Nat) (L:List Nat) (K:Tk) (n:Nat) (D:DataW Unit),t2=.int .i64 j∧ChM w wr g b t i K0 N j n L K D) (fun t2 _ _=>t.size-(intOf t2).toNat)
 case atStart=>exact ⟨i,op7,K0,n,D,rfl,HST.out⟩
 case round =>
  obtain ⟨j,L,K,n,D,rfl,hCh⟩:=hrel
  have HC:=Qh hCh
  clear hCh
  have HB6:=Qh (HC.out.map.neS HC.out.res)
  go_wp2_with fail
  refine (words_task b n N L D _ HC.out.map HC.out.nodup HC.out.len).mono ?_
  rintro e w2 ⟨v,ws,rfl,hl,hp,k2⟩
  have HL:=Qh hl
  have HP:=Qh hp
  have hl8:ws.length=L.length+1:=by rw [hp.length_eq];simp
  have HL8:=Qh hl8
  have HO:=Qh (fun w hl=>oneOf_is t j ws v w hl ht (by have:=HC.out.len;omega) (ws_small hp))
  have HA:Hid (ApW (7::L) fun i=>bs (owT i)):=Qh (by rw [owT_W];exact op_ap.sub (op_sub HC.out.map.low))
  have hone:=one_up (t:=t) (i:=j) HC.out.jt HA.out (List.nodup_cons.2 ⟨fun h7=>by have:=HC.out.map.low 7 h7;omega,HC.out.nodup⟩) (by simp) hp
  rw [owT_W] at hone
  have hstep:=coz_step (L:=L) (K:=K) rfl
  have A2:=Qh (HC.out.kb.trans (KeptB.of k2))
  have B2:=Qh (HC.out.ka.heap k2)
  have M2:=Qh (HC.out.map.kept k2)
  have N2:=Qh (HC.out.num.kept k2)
  have R2:=Qh (HC.out.res.kept k2)
  clear hl hp hl8 k2
  generalize hQ:chz (7::L) opW ((bs t).drop j)=q at *
  generalize oneP t ws j=o at *
  rcases hone with ⟨hq,idx,hix,ho⟩|⟨hq,ho⟩
  ·obtain ⟨c1,c2,c3⟩:=chz_ok (L:=7::L) (W:=opW) (M:=(bs t).drop j) (by rw [hQ];exact hq)
   rw [hQ] at c1 c2 c3
   obtain ⟨gv,off,cap,rfl,hgv,hcap,hcell⟩:=HL.out.at_ (by have:=HL8.out;omega)
   have hidx:idx<ws.length:=(List.getElem?_eq_some_iff.1 hix).1
   have hidx0:(idx:Int)<(ws.length:Int):=by omega
   have hidx1:(0:Int)≤(idx:Int):=by omega
   have HCELL:=Qh (hcell idx _ hix)
   have hl32:ws.length≤8:=by have:=HL8.out;have:=HC.out.len;omega
   have hn4:j+q.n≤t.size:=by
    have h1:=(chz_gd (op_ap.sub (op_sub HC.out.map.low))).le ((bs t).drop j)
    rw [hQ] at h1
    have:=rest_len HC.out.jt
    omega
   have HN4:=Qh hn4
   by_cases h7:q.v=7
   ·have hRes:Hid (TkR j (coz L.length L K ((bs t).drop j)) o K):=Qh (by
     rw [hstep,andz_ok (by rw [hQ];exact hq),hQ,ho,if_pos h7]
     exact ⟨rfl,rfl,fun _=>rfl⟩)
    have hoe:(o.e != 0)=false:=by rw [ho];rfl
    have hoe2:o.e=0:=by rw [ho]
    have hon:o.n=idx:=by rw [ho]
    have HT:=HCELL.out
    rw [h7] at HT
    have HTT:=Qh HT
    have hend:=end_yes
    generalize owT 7=T at *
    generalize ws.length=m at *
    clear hstep ho hq hQ hcell hcap hix hn4 c1 c2 c3 HT HCELL HP
    go_wp2_with fail
    refine (HO.out _ HL.out).mono ?_
    rintro e w3 ⟨rfl,k3⟩
    have A3:=Qh (A2.out.trans (KeptB.of (k3.alloc (.cells (sl o).toArray 64))))
    have B3:=Qh ((B2.out.heap k3).heap ((Kept.refl w3).alloc (.cells (sl o).toArray 64)))
    have R3:=Qh ((R2.out.kept k3).kept ((Kept.refl w3).alloc (.cells (sl o).toArray 64)))
    have X3:=Qh (SAt.new w3 o)
    have ct3:=kept_cell (k3.alloc (.cells (sl o).toArray 64)) HTT.out
    have c3:=X3.out.err
    have cn3:=X3.out.num
    rw [hon] at cn3
    rw [hoe2] at c3
    clear k3
    go_upto_region 4 with (first|(with_reducible refine wpList_new_sp rfl rfl ?_)|((with_reducible refine wpList_store_newsp rfl _ _ rfl Zs o ?_ ?_ ?_);exact rfl;exact rfl))
    generalize w3.alloc (.cells (sl o).toArray 64)=W3 at *
    generalize w3.heap.size=g9 at *
    go_wp2_with (first|((with_reducible refine wpList_load_sp rfl _ rfl g9 0 ?_ o X3.out.range ?_);exact rfl)|((with_reducible refine wpList_store_sp rfl _ _ rfl w.heap.size Zs o R3.out ?_ ?_ ?_);exact rfl;exact rfl))
    refine bodyPost_ret (v:=sv o) ?_ rfl ⟨_,K,rfl,ch_end HC.out _ _ hRes.out,B3.out.other ((KeptB.refl w.heap.size _).row _) (by have:=HGL.out;omega),A3.out.rowNew (Nat.le_refl _) _⟩
    exact (ret_sp rfl R3.out rfl).trans rfl
   ·have hvL:q.v ∈ L:=by
     rcases List.mem_cons.1 c1 with e|e
     ·exact absurd e h7
     ·exact e
    have hv7:=HC.out.map.low _ hvL
    obtain ⟨fr,caps,hRC⟩:=read_call N q.v hv7
    obtain ⟨hTE,hTC⟩:=tell_call q.v hv7
    have hent:=hRC.ent
    have HRC:=Qh hRC
    have HTC:=Qh hTC
    have hoe:(o.e != 0)=false:=by rw [ho];rfl
    have hoe2:o.e=0:=by rw [ho]
    have hon:o.n=idx:=by rw [ho]
    have hoa:o.a=((j+q.n:Nat):Int):=by rw [ho]
    have HT:=HCELL.out
    have HTT:=Qh HT
    have hend:=end_no hv7
    have hpos:0<q.n:=by
     rw [c3]
     exact List.length_pos_iff.2 (op_ap.ne _ (op8_of hv7))
    have HPOS:=Qh hpos
    have HST2:Hid (coz L.length L K ((bs t).drop j)=⟨q.n+(andz (opP q.v) Z0 (fun v=>coz (L.length-1) (L.erase q.v) (tlK q.v v K)) ((bs t).drop (j+q.n))).n,(andz (opP q.v) Z0 (fun v=>coz (L.length-1) (L.erase q.v) (tlK q.v v K)) ((bs t).drop (j+q.n))).v,(andz (opP q.v) Z0 (fun v=>coz (L.length-1) (L.erase q.v) (tlK q.v v K)) ((bs t).drop (j+q.n))).e⟩):=Qh (by
     rw [hstep,andz_ok (by rw [hQ];exact hq),hQ,if_neg h7,List.drop_drop])
    have HVL:=Qh hvL
    have HLK:Hid (∀ w n D,MapO w b N L n D→(Instr.lookup 102 (.map (some b)) (.string (owT q.v)) false).run Tryz.prog w=.ok (.agg #[.func (.func fr) #[] caps,.func (.func (tellF q.v)) #[] #[]]) w):=Qh (fun w n D h=>by
     rw [h.look hvL]
     unfold opV
     rw [hRC.val];rfl)
    have HV7:=Qh hv7
    have HDEL:Hid (∀ {ops:Array Oper} {rest:List Oper} {o:Oper} {a:Act} {w:World} {Q:Exit→Act→World→Prop} (hg:o.guard=none) (x y:Operand)
      (hop:o.op=Op.call { callee:=Callee.builtin Builtin.delete,args:=#[x,y],argTypes:=#[102,9] }) (n:Nat) (D:DataW Unit) (hm:a.eval x=.map (some b)) (hk:a.eval y=.string (owT q.v)) (hM:MapO w b N L n D)
      (h:∀ w' D',MapO w' b N (L.erase q.v) n D'→w.grownBy w' (some b)→wpList Tryz.prog ops Q rest (a.put o.dst (.tuple #[])) w'),wpList Tryz.prog ops Q (o::rest) a w):=Qh (fun hg x y hop n D hm hk hM h=>wpList_del_op hg x y hop b n N L D q.v hv7 HC.out.nodup hm hk hM h)
    generalize owT q.v=T at *
    generalize ws.length=m at *
    generalize tellF q.v=ft at *
    clear hstep ho hq hQ hcell hcap hix hn4 c1 c2 c3 HT HCELL HP hRC hTC hvL hv7 h7 hpos
    go_wp2_with fail
    refine (HO.out _ HL.out).mono ?_
    rintro e w3 ⟨rfl,k3⟩
    have A3:=Qh (A2.out.trans (KeptB.of (k3.alloc (.cells (sl o).toArray 64))))
    have B3:=Qh ((B2.out.heap k3).heap ((Kept.refl w3).alloc (.cells (sl o).toArray 64)))
    have M3:=Qh ((M2.out.kept k3).kept ((Kept.refl w3).alloc (.cells (sl o).toArray 64)))
    have N3:=Qh ((N2.out.kept k3).kept ((Kept.refl w3).alloc (.cells (sl o).toArray 64)))
    have R3:=Qh ((R2.out.kept k3).kept ((Kept.refl w3).alloc (.cells (sl o).toArray 64)))
    have X3:=Qh (SAt.new w3 o)
    have ct3:=kept_cell (k3.alloc (.cells (sl o).toArray 64)) HTT.out
    have c3:=X3.out.err
    have cn3:=X3.out.num
    have ca3:=X3.out.place
    rw [hon] at cn3
    rw [hoe2] at c3
    rw [hoa] at ca3
    clear k3
    go_upto_region 4 with (first|(with_reducible refine wpList_new_sp rfl rfl ?_)|((with_reducible refine wpList_store_newsp rfl _ _ rfl Zs o ?_ ?_ ?_);exact rfl;exact rfl))
    generalize w3.alloc (.cells (sl o).toArray 64)=W3 at *
    generalize w3.heap.size=g9 at *
    have hlk:=HLK.out W3 n D M3.out
    have K4:=Qh ((Kept.refl W3).alloc (.cells #[.func (.func fr) #[] caps,.func (.func ft) #[] #[]] 107))
    have O4:=Qh (OAt.new W3 (.func (.func fr) #[] caps) (.func (.func ft) #[] #[]))
    have ct4:=kept_cell K4.out ct3
    have ca4:=kept_cell K4.out ca3
    have cn4:=kept_cell K4.out cn3
    have M4:=Qh (M3.out.kept K4.out)
    have B4:=Qh (B3.out.heap K4.out)
    have N4:=Qh (N3.out.kept K4.out)
    have R4:=Qh (R3.out.kept K4.out)
    have X4:=Qh (X3.out.kept K4.out)
    have A4:=Qh (A3.out.trans (KeptB.of K4.out))
    go_upto_region 7 with (first|(with_reducible refine wpList_new_op rfl rfl ?_)|((with_reducible refine wpList_store_newop rfl _ _ rfl (.func (.func fr) #[] caps) (.func (.func ft) #[] #[]) rfl rfl ?_ ?_ ?_);exact rfl;exact rfl))
    generalize W3.alloc (.cells #[.func (.func fr) #[] caps,.func (.func ft) #[] #[]] 107)=W4 at *
    generalize W3.heap.size=g10 at *
    clear ct3 ca3 cn3 c3
    go_wp2_with (at_delete;refine HDEL.out rfl _ _ rfl n D rfl rfl M4.out ?_)
    intro w5 D5 hM5 hg5
    have M5:=Qh hM5
    have B5:=Qh (B4.out.mapB hg5 (M4.out.ne B4.out).symm)
    have N5:=Qh (N4.out.mapB M4.out hg5)
    have R5:=Qh (R4.out.mapB hg5 (M4.out.neS R4.out))
    have O5:=Qh (O4.out.mapB hg5 (M4.out.neO O4.out))
    have A5:=Qh (A4.out.mapB hg5 HBB.out)
    have ca5:=(X4.out.mapB hg5 (M4.out.neS X4.out)).place
    rw [hoa] at ca5
    have cO5:=O5.out.c0
    have hcall:=Qh (HRC.out.call w5 N5.out t (j+q.n) ht HN4.out)
    clear hM5 hg5 ct4 ca4 cn4
    go_wp2_with fail
    refine hcall.out.mono ?_
    rintro e w6 ⟨x,rfl,hx,k6⟩
    have hY:=fed_up HN4.out (opR_gd q.v) hx
    have K6:=Qh k6
    clear hx k6 hcall
    go_wp2_with fail
    refine (fed_is t x ht _).mono ?_
    rintro e w7 ⟨rfl,k7⟩
    generalize fedP t x=y at *
    have HY:Hid (StpR (j+q.n) (opP q.v ((bs t).drop (j+q.n))) y):=Qh hY
    have K7:=Qh ((K6.out.trans k7).alloc (.cells (sl y).toArray 64))
    have Y7:=Qh (SAt.new w7 y)
    have M7:=Qh (M5.out.kept K7.out)
    have B7:=Qh (B5.out.heap K7.out)
    have N7:=Qh (N5.out.kept K7.out)
    have R7:=Qh (R5.out.kept K7.out)
    have A7:=Qh (A5.out.trans (KeptB.of K7.out))
    have O7:=Qh (O5.out.kept K7.out)
    have ce7:=Y7.out.err
    have cn7:=Y7.out.num
    have ca7:=Y7.out.place
    have cO7:=O7.out.c1
    clear hY k7 cO5 ca5
    by_cases hz:y.e=0
    ·have HZ:=Qh hz
     rw [hz] at ce7
     have hTE':=hTE
     clear hz hent
     go_upto_region 9 with (first|(with_reducible refine wpList_new_sp rfl rfl ?_)|((with_reducible refine wpList_store_newsp rfl _ _ rfl Zs y ?_ ?_ ?_);exact rfl;exact rfl))
     generalize w7.alloc (.cells (sl y).toArray 64)=W7 at *
     generalize w7.heap.size=g11 at *
     go_wp2_with fail
     refine (HTC.out g K y.n _ B7.out).mono ?_
     rintro e w8 ⟨rfl,hk8,kb8⟩
     have B8:=Qh hk8
     have M8:=Qh (M7.out.otherB kb8 (M7.out.ne B7.out))
     have N8:=Qh (N7.out.otherB B7.out kb8)
     have R8:=Qh (R7.out.otherB kb8 (by have:=HGL.out;omega))
     have ca8:=(Y7.out.otherB kb8 (B7.out.neS Y7.out)).place
     have A8:=Qh (A7.out.trans kb8)
     clear hk8 kb8 ca7 ce7 cn7 cO7
     have hle:(opP q.v ((bs t).drop (j+q.n))).n+(j+q.n)≤t.size:=by
      have h1:(opP q.v ((bs t).drop (j+q.n))).n≤((bs t).drop (j+q.n)).length:=(fdz_gd 0 (opR_gd q.v)).le _
      have:=rest_len HN4.out
      omega
     have HNX:Hid (ChM w w8 g b t i K0 N (j+q.n+(opP q.v ((bs t).drop (j+q.n))).n) n (L.erase q.v) (tlK q.v y.n K) D5):=Qh
      {
       kb:=A8.out,ka:=B8.out,map:=M8.out,num:=N8.out,res:=R8.out
       nodup:=HC.out.nodup.erase _
       len:=by rw [List.length_erase_of_mem HVL.out];have:=HC.out.len;omega
       ij:=by have:=HC.out.ij;omega
       jt:=by omega
       eq:=by
        obtain ⟨y1,y2,y3⟩:=HY.out
        have hok:(opP q.v ((bs t).drop (j+q.n))).e=0:=by rw [← y2];exact HZ.out
        rw [HC.out.eq,HST2.out,andz_ok hok,← y3 hok,List.drop_drop,List.length_erase_of_mem HVL.out]
        have:=HC.out.ij
        dsimp only
        refine Pz.eq3 ?_ rfl rfl
        dsimp only
        omega }
     have hya:y.a=((j+q.n+(opP q.v ((bs t).drop (j+q.n))).n:Nat):Int):=HY.out.1
     rw [hya] at ca8
     have hpos:=HPOS.out
     clear hya
     generalize (opP q.v ((bs t).drop (j+q.n))).n=n2 at *
     go_wp2
     go_roundw
     case rel=>exact ⟨_,_,_,_,_,rfl,HNX.out⟩
     case measure=>simp [intOf];omega
    ·have hRes:Hid (TkR j (coz L.length L K ((bs t).drop j)) y K):=Qh (by
      obtain ⟨y1,y2,y3⟩:=HY.out
      have hne:(opP q.v ((bs t).drop (j+q.n))).e≠0:=by rw [← y2];exact hz
      rw [HST2.out,andz_no hne]
      exact ⟨by rw [y1,Nat.add_assoc],y2,fun c=>absurd c hne⟩)
     have hze:(y.e != 0)=true:=bne_iff_ne.2 hz
     clear hz
     go_upto_region 9 with (first|(with_reducible refine wpList_new_sp rfl rfl ?_)|((with_reducible refine wpList_store_newsp rfl _ _ rfl Zs y ?_ ?_ ?_);exact rfl;exact rfl))
     generalize w7.alloc (.cells (sl y).toArray 64)=W7 at *
     generalize w7.heap.size=g11 at *
     go_wp2_with (first|((with_reducible refine wpList_load_sp rfl _ rfl g11 0 ?_ y Y7.out.range ?_);exact rfl)|((with_reducible refine wpList_store_sp rfl _ _ rfl w.heap.size Zs y R7.out ?_ ?_ ?_);exact rfl;exact rfl))
     refine bodyPost_ret (v:=sv y) ?_ rfl ⟨_,K,rfl,ch_end HC.out _ _ hRes.out,B7.out.other ((KeptB.refl w.heap.size _).row _) (by have:=HGL.out;omega),A7.out.rowNew (Nat.le_refl _) _⟩
     exact (ret_sp rfl R7.out rfl).trans rfl
  ·have hRes:Hid (TkR j (coz L.length L K ((bs t).drop j)) o K):=Qh (by
    rw [hstep,andz_no (by rw [hQ];exact hq),hQ,ho]
    exact ⟨rfl,rfl,fun c=>absurd c hq⟩)
   have hoe:(o.e != 0)=true:=by rw [ho];exact bne_iff_ne.2 hq
   clear hstep ho hq hQ
   go_wp2_with fail
   refine (HO.out _ HL.out).mono ?_
   rintro e w3 ⟨rfl,k3⟩
   have A3:=Qh (A2.out.trans (KeptB.of (k3.alloc (.cells (sl o).toArray 64))))
   have B3:=Qh ((B2.out.heap k3).heap ((Kept.refl w3).alloc (.cells (sl o).toArray 64)))
   have R3:=Qh ((R2.out.kept k3).kept ((Kept.refl w3).alloc (.cells (sl o).toArray 64)))
   have X3:=Qh (SAt.new w3 o)
   have c3:=X3.out.err
   clear k3
   go_upto_region 4 with (first|(with_reducible refine wpList_new_sp rfl rfl ?_)|((with_reducible refine wpList_store_newsp rfl _ _ rfl Zs o ?_ ?_ ?_);exact rfl;exact rfl))
   generalize w3.alloc (.cells (sl o).toArray 64)=W3 at *
   generalize w3.heap.size=g9 at *
   go_wp2_with (first|((with_reducible refine wpList_load_sp rfl _ rfl g9 0 ?_ o X3.out.range ?_);exact rfl)|((with_reducible refine wpList_store_sp rfl _ _ rfl w.heap.size Zs o R3.out ?_ ?_ ?_);exact rfl;exact rfl))
   refine bodyPost_ret (v:=sv o) ?_ rfl ⟨_,K,rfl,ch_end HC.out _ _ hRes.out,B3.out.other ((KeptB.refl w.heap.size _).row _) (by have:=HGL.out;omega),A3.out.rowNew (Nat.le_refl _) _⟩
   exact (ret_sp rfl R3.out rfl).trans rfl
end Go.Proofs.YtlbipjmmlobofaaGreatDoor
