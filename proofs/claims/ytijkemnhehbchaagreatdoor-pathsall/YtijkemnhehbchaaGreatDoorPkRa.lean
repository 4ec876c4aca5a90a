/- PaR: my texts, in their order. -/
import Derived.Test.YtijkemnhehbchaaGreatDoorPkA
import Derived.RangeFuncLeaves
import Derived.RangeFuncRecord
import Derived.RangeFuncSeq
import Derived.RangeFuncCalls
import Derived.OrdersIn
namespace Go.Proofs.YtijkemnhehbchaaGreatDoor
open Go.RowKit
set_option linter.unusedVariables false
set_option linter.unusedSimpArgs false
structure Sm (X:Nat→Prop) (w w':World):Prop where
 os:w'.os=w.os
 output:w'.output=w.output
 size:w.heap.size≤w'.heap.size
 block:∀ k,k<w.heap.size→X k→w'.heap[k]?=w.heap[k]?
section
variable {X Y:Nat→Prop} {a b c w w':World}
theorem Sm.of_kept (X:Nat→Prop) (k:Kept w w'):Sm X w w':=⟨k.os,k.output,k.size,fun i hi _=>k.block i hi⟩
theorem Sm.refl (X:Nat→Prop) (w:World):Sm X w w:=Sm.of_kept X (Kept.refl w)
theorem Sm.trans (h:Sm X a b) (k:Sm X b c):Sm X a c :=
 ⟨k.os.trans h.os,k.output.trans h.output,Nat.le_trans h.size k.size,fun i hi hx=>(k.block i (Nat.lt_of_lt_of_le hi h.size) hx).trans (h.block i hi hx)⟩
theorem Sm.mono (h:Sm X a b) (hXY:∀ k,k<a.heap.size→Y k→X k):Sm Y a b:=⟨h.os,h.output,h.size,fun i hi hy=>h.block i hi (hXY i hi hy)⟩
theorem Sm.heap (h:Sm X a w) {g:Nat} {o:Obj} (hx:X g) (hg:a.heap[g]?=some o):w.heap[g]?=some o:=(h.block g (lt_of_heap hg) hx).trans hg
theorem Sm.cell (h:Sm X a w) {p:Addr} {v:Value} (hx:X p.block) (hk:a.cell? p=some v):w.cell? p=some v :=
 (World.cell?_of_block (h.block p.block (World.block_lt_of_cell? a p hk) hx)).trans hk
theorem Sm.kept (h:Sm X a w) (k:Kept w w'):Sm X a w':=h.trans (Sm.of_kept X k)
theorem Sm.setCell (h:Sm X a w) {p:Addr} (hp:¬ X p.block) (u:Value):Sm X a (w.setCell p u) :=
 ⟨h.os,h.output,by simpa [World.setCell] using h.size,fun k hk hx=>(Below.heap_setCell w p u k (fun e=>hp (e ▸ hx))).trans (h.block k hk hx)⟩
theorem Sm.grownBy {row:Option Nat} (h:Sm X a w) (hg:w.grownBy w' row) (hr:∀ k,row=some k→X k→a.heap.size≤k):Sm X a w' :=
 ⟨hg.os.trans h.os,hg.output.trans h.output,Nat.le_trans h.size hg.size,fun k hk hx=>(hg.block k (Nat.lt_of_lt_of_le hk h.size) (fun e=>by have:=hr k e.symm hx;omega)).trans (h.block k hk hx)⟩
theorem Sm.putObj (h:Sm X a w) {l:Nat} (o:Obj) (hl:¬ X l):Sm X a (w.putObj l o) :=
 ⟨h.os,h.output,by simpa using h.size,fun k hk hx=>(World.putObj_heap_other (fun e=>hl (by rw [← e];exact hx))).trans (h.block k hk hx)⟩
theorem Sm.toKept {v:World} (h:Sm X a w) (k:Kept v a) (hX:∀ i,i<v.heap.size→X i):Kept v w :=
 ⟨h.os.trans k.os,h.output.trans k.output,Nat.le_trans k.size h.size,fun i hi=>(h.block i (Nat.lt_of_lt_of_le hi k.size) (hX i hi)).trans (k.block i hi)⟩
end
section
variable {α:Type} (ans:List α→α→Bool)
def goesAll:List α→List α→Bool
 | _,[]=>true
 | A,x::L=>ans A x && goesAll (A++[x]) L
theorem goesAll_app:∀ (B C A:List α),goesAll ans A (B++C)=(goesAll ans A B && goesAll ans (A++B) C)
 | [],C,A=>by simp [goesAll]
 | x::B,C,A=>by
  rw [List.cons_append,goesAll,goesAll,goesAll_app B C (A++[x]),Bool.and_assoc]
  simp
theorem goesAll_pre {A B C:List α} (h:goesAll ans A B=false):goesAll ans A (B++C)=false:=by rw [goesAll_app,h];rfl
def ansB (sel:α→Bool) (m:Nat) (A:List α) (x:α):Bool:=!sel x || decide ((A.filter sel).length<m)
theorem goesUp (sel:α→Bool) (m:Nat):∀ (L A:List α),(A.filter sel).length≤m→goesAll (ansB sel m) A L=decide (((A++L).filter sel).length≤m)
 | [],A,h=>by simp [goesAll,h]
 | x::L,A,h=>by
  have e:A++x::L=A++[x]++L:=by simp
  have e2:((A++[x]).filter sel).length=(A.filter sel).length+if sel x=true then 1 else 0:=by
   rw [List.filter_append,List.length_append]
   by_cases hx:sel x=true
   ·simp [hx]
   ·simp [hx]
  rw [goesAll]
  by_cases hx:sel x=true
  ·rw [if_pos hx] at e2
   by_cases hm:(A.filter sel).length<m
   ·have ha:ansB sel m A x=true:=by unfold ansB;rw [decide_eq_true hm];simp
    rw [ha,Bool.true_and,goesUp sel m L (A++[x]) (by omega),e]
   ·have ha:ansB sel m A x=false:=by unfold ansB;rw [decide_eq_false hm,hx];rfl
    rw [ha,Bool.false_and]
    refine (decide_eq_false ?_).symm
    rw [e,List.filter_append,List.length_append]
    omega
  ·have ha:ansB sel m A x=true:=by unfold ansB;simp [hx]
   rw [if_neg hx] at e2
   rw [ha,Bool.true_and,goesUp sel m L (A++[x]) (by omega),e]
end
structure Told {α:Type} (l:Nat) (ans:List α→α→Bool) (G:World→(Nat→Prop)→Value→α→Prop) (Tb:World→Prop) (L:List α) (J:List α→(Nat→Prop)→World→Prop) (Jx:World→Prop):Prop where
 keep:∀ A X X' w w',J A X w→Sm (fun k=>¬ X k) w w'→(∀ k,X' k→X k∨w.heap.size≤k)→(∀ k,X' k→k<w'.heap.size)→J A X' w'
 tab:∀ A X w,J A X w→Tb w
 fin:∀ w w',Jx w→Kept w w'→Jx w'
 tell:∀ A X x v w,J A X w→G w X v x→A++[x] <+: L→YieldAt Fence.wide 0 Tryz.prog l #[v] w fun e w' =>
  (e=.returned (.bool true)∧ans A x=true∧Sm X w w'∧J (A++[x]) X w')∨(e=.returned (.bool false)∧ans A x=false∧Sm X w w'∧Jx w')
def TellsAll {α:Type} (gf:Nat) (lb:Array Value) (ans:List α→α→Bool) (G:World→(Nat→Prop)→Value→α→Prop) (Tb:World→Prop) (L:List α) (W:World):Prop :=
 ∀ (l:Nat) (J:List α→(Nat→Prop)→World→Prop) (Jx:World→Prop),Told l ans G Tb L J Jx→J [] (fun _=>False) W →
  Calls Tryz.prog gf (#[.func (.yield l) #[] #[]]++lb) W fun e w'=>(∃ v,e=.returned v)∧((goesAll ans [] L=true∧∃ X,J L X w')∨(goesAll ans [] L=false∧Jx w'))
theorem room_none {F:Fence} (hd:F.depth=none) (k:Nat):F.room k:=fun d h=>by rw [hd] at h;cases h
theorem round_any {m m':Nat} {P:Program} {l:Nat} {f:FuncId} {tmps:Array Value} {assign body:Code} {w:World} {R:Ending→World→Prop}
  (h:RoundIn Fence.wide m P l f tmps assign body w R):RoundIn Fence.wide m' P l f tmps assign body w R:=⟨h.1,fun c cs _=>h.2 c cs (room_none rfl _)⟩
theorem op_yield {o:Oper} {a:Act} {w:World} {K:Act→World→Prop} {Q:Exit→Act→World→Prop} {n l:Nat} (x y:Operand) (ts:Array TypeId)
  (ho:o.op=.call { callee:=.value x,args:=#[y],argTypes:=ts }) (hx:a.eval x=.func (.yield l) #[] #[]) {v:Value} (hy:a.eval y=v)
  {R:Ending→World→Prop} (h:YieldAt Fence.wide 0 Tryz.prog l #[v] w R) (hR:∀ e w',R e w'→∃ u,e=.returned u∧K (a.put o.dst u) w'):o.wpIn Fence.wide n Tryz.prog a w K Q:=by
 obtain ⟨fn,tmps,assign,body,hrun,hround⟩:=h
 refine ⟨fun _ _=>trivial,?_⟩
 have he:(o.semAt Fence.wide.round a.eval).run Tryz.prog w=.ok (.round l fn tmps assign body) w:=by
  show (execOp a.eval o).run Tryz.prog w=_
  simp [execOp,ho,resolve,invoke,hx,hy,hrun,Result.andThen,Deferred.ofValue]
 rw [he,Oper.uponIn_round]
 refine ⟨fun h=>(by cases h),round_any (hround.mono fun e w' hr=>?_)⟩
 obtain ⟨u,rfl,hk⟩:=hR e w' hr
 exact hk
def noDefer (o:Oper):Bool:=match o.op with|.defer _=>false|_=>true
theorem noDefer_ne {o:Oper} (h:noDefer o=true) (c:Call):o.op≠.defer c:=fun e=>by unfold noDefer at h;rw [e] at h;cases h
theorem op_round {o:Oper} {a:Act} {w:World} {K:Act→World→Prop} {Q:Exit→Act→World→Prop} {n l:Nat} {P:Program} (hd:noDefer o=true) (hno:∀ a w,¬ Q .outgrown a w)
  (h:o.wp P a w K Q∨(o.asks P a w∧LetsOut Q)):o.wpIn (Fence.wide.inRound l) n P a w K Q:=by
 rcases h with h|⟨_,a0,w0,h⟩
 ·refine ⟨fun _ _=>trivial,?_⟩
  rw [Oper.semAt_eq _ _ _ (noDefer_ne hd)]
  unfold Oper.wp at h
  generalize (execOp a.eval o).run P w=r at *
  cases r with
  | ok x w' =>
   cases x <;> simp only [Oper.upon,Oper.uponIn] at h ⊢
   case value=>exact h
   case skip=>exact h
   case defer=>exact h
   case enter=>exact ⟨fun h=>(by cases h),CallsIn.inRound l (callsIn_wide.2 h)⟩
   case row =>
    refine ⟨fun h=>(by cases h),fun c cs _=>?_⟩
    obtain ⟨v,w',r,s⟩:=h c cs
    exact ⟨v,w',r,stepsIn_wide.2 s⟩
  | halt x w'=>cases x <;> simp only [Oper.upon,Oper.uponIn] at h ⊢ <;> exact h
 ·exact (hno _ _ h).elim
theorem ops_round {ops:Array Oper} {Q:Exit→Act→World→Prop} {n l:Nat} {P:Program} (hd:ops.all noDefer=true) (hno:∀ a w,¬ Q .outgrown a w) :
  ∀ (is:List Nat) (a:Act) (w:World),wpOps P ops Q is a w→wpOpsIn (Fence.wide.inRound l) n P ops Q is a w
 | [],a,w,h=>h
 | i::is,a,w,h=>by
  unfold wpOps at h
  unfold wpOpsIn
  cases hi:ops[i]? with
  | none=>rw [hi] at h;exact ops_round hd hno is a w h
  | some o =>
   rw [hi] at h
   dsimp only at h ⊢
   split
   ·next hw =>
    rw [if_pos hw] at h
    have hdo:noDefer o=true:=by
     have:=Array.all_eq_true.1 hd
     obtain ⟨hlt,rfl⟩:=Array.getElem?_eq_some_iff.1 hi
     exact this i hlt
    refine Oper.wpIn_mono (fun a w h=>ops_round hd hno is a w h) (op_round hdo hno h)
   ·next hw =>
    rw [if_neg hw] at h
    exact ⟨fun _ _=>trivial,ops_round hd hno is _ w h⟩
theorem list_round {id n l:Nat} {L:List Oper} {Q:Exit→Act→World→Prop} {P:Program} {a:Act} {w:World} (hd:L.toArray.all noDefer=true) (hno:∀ a w,¬ Q .outgrown a w)
  (h:wpList P L.toArray Q L a w):(Code.region id L.toArray false).wpIn (Fence.wide.inRound l) n P Q a w:=by
 refine wpIn_region (ops_round hd hno _ a w ?_)
 rw [List.range_eq_range']
 have:=wpOps_eq_wpList (P:=P) (Q:=Q) (ops:=L.toArray) L 0 (by simp)
 rw [show L.toArray.size=L.length by simp,this]
 exact h
def postR {α:Type} (ans:List α→α→Bool) (I:List α→(Nat→Prop)→World→Prop) (Ix:(Nat→Prop)→World→Prop) (A:List α) (x:α) (X:Nat→Prop) (W:World):Exit→Act→World→Prop
 | .normal,_,W'=>ans A x=true∧I (A++[x]) X W'∧Sm X W W'
 | .ret,_,W'=>ans A x=false∧Ix X W'∧Sm X W W'
 | _,_,_=>False
theorem wp_rangeT {α:Type} {g:Operand} {ps:Array Tmp} {assign body:Code} {Q:Exit→Act→World→Prop} {a:Act} {w:World} {gf:Nat} {lb:Array Value}
  (hg:a.eval g=.func (.func gf) #[] lb) (eg:∀ args w,(callFunc gf args).run Tryz.prog w=.ok (.enter gf args) w) (hps:ps.size=1)
  (ans:List α→α→Bool) (G:World→(Nat→Prop)→Value→α→Prop) (Tb:World→Prop) (L:List α) (I:List α→(Nat→Prop)→World→Prop) (Ix:(Nat→Prop)→World→Prop)
  (hGm:∀ w X X' v x,G w X v x→(∀ k,X k→X' k)→G w X' v x) (hGs:∀ w w' X v x,G w X v x→Sm X w w'→G w' X v x)
  (hI:∀ A X X' w w',I A X w→Sm (fun k=>¬ X k) w w'→(∀ k,X' k→X k∨w.heap.size≤k)→(∀ k,X' k→k<w'.heap.size)→I A X' w')
  (hIx:∀ X X' w w',Ix X w→Sm (fun k=>¬ X k) w w'→(∀ k,X' k→X k∨w.heap.size≤k)→(∀ k,X' k→k<w'.heap.size)→Ix X' w')
  (hIb:∀ A X w,I A X w→∀ k,X k→k<w.heap.size) (hIxb:∀ X w,Ix X w→∀ k,X k→k<w.heap.size)
  (hTb:∀ A X w,I A X w→Tb w)
  (h0:I [] (fun _=>False) w) (a₁:Value→Act)
  (hassign:∀ (l:Nat) (v:Value) (W:World) (K:Act→World→Prop),K (a₁ v) W →
   assign.wpIn (Fence.wide.inRound l) 0 Tryz.prog (Exit.then K (fun _ _ _=>False)) { tmps:=(ps.zip #[v]).foldl (fun t (p,v)=>t.setIfInBounds p v) a.tmps,defers:=[] } W)
  (hbody:∀ (l:Nat) (A:List α) (X:Nat→Prop) (x:α) (v:Value) (W:World),I A X W→G W X v x→A++[x] <+: L→body.wpIn (Fence.wide.inRound l) 0 Tryz.prog (postR ans I Ix A x X W) (a₁ v) W)
  (hit:∀ W1,Kept w W1→TellsAll gf lb ans G Tb L W1)
  (hdone:goesAll ans [] L=true→∀ (D:Nat) (X:Nat→Prop) (W:World),w.heap.size≤D→X D→I L X W→W.heap[D]?=some (.deferred (some []))→Q .normal { a with defers:={ target:=.collected D,args:=#[] }::a.defers } W)
  (hstop:goesAll ans [] L=false→∀ (D:Nat) (X:Nat→Prop) (W:World),w.heap.size≤D→X D→Ix X W→W.heap[D]?=some (.deferred (some []))→Q .ret { a with defers:={ target:=.collected D,args:=#[] }::a.defers } W) :
  (Code.rangeFunc g ps assign body).wp Tryz.prog Q a w:=by
 refine (wpIn_wide (n:=1)).1 (wpIn_rangeFunc ?_)
 intro fn hfn
 show ∃ l mark w₁ d w₁' f args w₂,(Instr.enterLoop fn a.tmps ps assign body none).run Tryz.prog w=_∧_
 obtain ⟨rec,hrec⟩:∃ rec:LoopState→Option Code→Loop,rec=fun st pe=>{ state:=st,pending:=pe,fn,tmps:=a.tmps,params:=ps,assign,body,defers:=w.heap.size }:=⟨_,rfl⟩
 obtain ⟨W1,hW1⟩:∃ W1,(w.alloc (.deferred (some []))).alloc (.loop (rec .ready none))=W1:=⟨_,rfl⟩
 have hL1:W1.heap[w.heap.size+1]?=some (.loop (rec .ready none)):=by
  rw [← hW1];have:=World.alloc_heap_new (w.alloc (.deferred (some []))) (.loop (rec .ready none));rwa [World.size_alloc] at this
 have hK1:W1.heap[w.heap.size]?=some (.deferred (some [])):=by
  rw [← hW1];exact (Below.heap_alloc _ _ _ (by simp)).trans (World.alloc_heap_new w _)
 have hk1:Kept w W1:=by rw [← hW1];exact ((Kept.refl w).alloc _).alloc _
 have hs1:W1.heap.size=w.heap.size+2:=by rw [← hW1];simp
 generalize hl0:w.heap.size+1=l at *
 generalize hD0:w.heap.size=D at *
 have hlD:l≠D:=by omega
 have hI1:I [] (fun k=>k=l∨k=D) W1:=hI _ _ _ _ _ h0 (Sm.of_kept _ hk1) (fun k hk=>.inr (by omega)) (fun k hk=>by omega)
 let XH:(Nat→Prop)→Nat→Prop:=fun X k=>X k∨k=l∨k=D
 have stay:∀ {st:LoopState} {pe:Option Code} (st':LoopState) (pe':Option Code) {A:List α} {X:Nat→Prop} {V:World},I A (XH X) V→V.heap[l]?=some (.loop (rec st pe))→I A (XH X) (V.putObj l (.loop (rec st' pe'))) :=
  fun st' pe' A X V h hl=>hI _ _ _ _ _ h ((Sm.refl _ V).putObj _ (fun hn=>hn (.inr (.inl rfl)))) (fun k hk=>.inl hk) (fun k hk=>by rw [World.putObj_size];exact hIb _ _ _ h k hk)
 have stayx:∀ {st:LoopState} {pe:Option Code} (st':LoopState) (pe':Option Code) {X:Nat→Prop} {V:World},Ix (XH X) V→V.heap[l]?=some (.loop (rec st pe))→Ix (XH X) (V.putObj l (.loop (rec st' pe'))) :=
  fun st' pe' X V h hl=>hIx _ _ _ _ h ((Sm.refl _ V).putObj _ (fun hn=>hn (.inr (.inl rfl)))) (fun k hk=>.inl hk) (fun k hk=>by rw [World.putObj_size];exact hIxb _ _ h k hk)
 refine ⟨l,[{ target:=.collected D,args:=#[] }],W1,{ target:=.fn (.func gf) lb,args:=#[.func (.yield l) #[] #[]] },W1,gf,
  #[.func (.yield l) #[] #[]]++lb,W1,?_,?_,?_,?_,fun h=>(by cases h),?_⟩
 ·rw [← hW1,hrec,← hl0,← hD0];exact run_enterLoop_outer _ _ _ _ _
 ·simp only [resolve,hg]
  simp [go_sem]
 ·intro f' hf';trivial
 ·simp [invoke,go_sem,eg]
 ·refine callsIn_wide.2 ((hit W1 hk1 l
   (fun A X W=>I A (XH X) W∧W.heap[l]?=some (.loop (rec .ready none))∧W.heap[D]?=some (.deferred (some []))∧∀ k,X k→k≠l∧k≠D)
   (fun W=>∃ X,Ix (XH X) W∧W.heap[l]?=some (.loop (rec .done (some .ret)))∧W.heap[D]?=some (.deferred (some []))∧∀ k,X k→k≠l∧k≠D) ⟨?_,?_,?_,?_⟩
   ⟨?_,hL1,hK1,fun k hk=>hk.elim⟩).mono ?_)
  ·rintro A X X' V V' ⟨hi,hl,hk,hx⟩ hs h1 h2
   have hlt:=lt_of_heap hl
   have hDt:=lt_of_heap hk
   refine ⟨hI _ _ _ _ _ hi (hs.mono fun k _ hn hX=>hn (.inl hX)) (fun k hk'=>?_) (fun k hk'=>?_),hs.heap (fun h=>(hx _ h).1 rfl) hl,hs.heap (fun h=>(hx _ h).2 rfl) hk,fun k hk'=>?_⟩
   ·rcases hk' with h|h|h
    ·rcases h1 k h with q|q
     ·exact .inl (.inl q)
     ·exact .inr q
    ·exact .inl (.inr (.inl h))
    ·exact .inl (.inr (.inr h))
   ·have:=hs.size
    rcases hk' with h|h|h
    ·exact h2 k h
    ·omega
    ·omega
   ·rcases h1 k hk' with q|q
    ·exact hx k q
    ·omega
  ·rintro A X V ⟨hi,_⟩
   exact hTb _ _ _ hi
  ·rintro V V' ⟨X,hi,hl,hk,hx⟩ hs
   exact ⟨X,hIx _ _ _ _ hi (Sm.of_kept _ hs) (fun k hk=>.inl hk) (fun k hk=>Nat.lt_of_lt_of_le (hIxb _ _ hi k hk) hs.size),hs.heap hl,hs.heap hk,hx⟩
  ·rintro A X x v V ⟨hi,hl,hk,hx⟩ hG hpre
   have hlt:=lt_of_heap hl
   have hy:=run_yield (P:=Tryz.prog) (args:=#[v]) hl (by rw [hrec];simp [hps])
   rw [hrec] at hy
   refine ⟨fn,_,assign,body,hy,roundIn_of_wpIn (F:=Fence.wide) trivial (hassign l v V _ ⟨_,run_beginRound hl (by rw [hrec]),?_⟩)⟩
   have hl2:(V.putObj l (.loop { rec .ready none with state:=.busy })).heap[l]?=some (.loop { rec .ready none with state:=.busy }):=World.putObj_heap_same hlt
   have hk2:(V.putObj l (.loop { rec .ready none with state:=.busy })).heap[D]?=some (.deferred (some [])):=(World.putObj_heap_other (by omega)).trans hk
   have hb:({ rec .ready none with state:=.busy }:Loop)=rec .busy none:=by rw [hrec]
   have hXl:¬ X l:=fun h=>(hx _ h).1 rfl
   have hsm:Sm X V (V.putObj l (.loop { rec .ready none with state:=.busy })):=(Sm.refl X V).putObj _ hXl
   refine wpIn_mono (hbody l A (XH X) x v _ (by rw [hb];exact stay .busy none hi hl) (hGm _ _ _ _ _ (hGs _ _ _ _ _ hG hsm) (fun k hk=>.inl hk)) hpre) ?_
   rw [hb] at hl2 hsm hk2 ⊢
   generalize V.putObj l (.loop (rec .busy none))=V2 at *
   rintro e a3 W3 hp
   cases e with
   | normal =>
    obtain ⟨ha,hi3,hs3⟩:=hp
    have hl3:=hs3.heap (.inr (.inl rfl)) hl2
    have hk3:=hs3.heap (.inr (.inr rfl)) hk2
    have hr:=run_endRound (P:=Tryz.prog) none hl3
    have hrd:({ rec .busy none with state:=if (none:Option Code).isNone then .ready else .done,pending:=none }:Loop)=rec .ready none:=by rw [hrec];rfl
    rw [hrd] at hr
    refine ⟨_,_,hr,.inl ⟨rfl,ha,(hsm.trans (hs3.mono fun k _ hk=>.inl hk)).putObj _ hXl,stay .ready none hi3 hl3,World.putObj_heap_same (lt_of_heap hl3),(World.putObj_heap_other (by omega)).trans hk3,hx⟩⟩
   | ret =>
    obtain ⟨ha,hi3,hs3⟩:=hp
    have hl3:=hs3.heap (.inr (.inl rfl)) hl2
    have hk3:=hs3.heap (.inr (.inr rfl)) hk2
    have hr:=run_endRound (P:=Tryz.prog) (some .ret) hl3
    have hrd:({ rec .busy none with state:=if (some Code.ret).isNone then .ready else .done,pending:=some .ret }:Loop)=rec .done (some .ret):=by rw [hrec];rfl
    rw [hrd] at hr
    exact ⟨_,_,hr,.inr ⟨rfl,ha,(hsm.trans (hs3.mono fun k _ hk=>.inl hk)).putObj _ hXl,X,stayx .done (some .ret) hi3 hl3,World.putObj_heap_same (lt_of_heap hl3),(World.putObj_heap_other (by omega)).trans hk3,hx⟩⟩
   | exit id=>exact hp.elim
   | goto t=>exact hp.elim
   | panic ch=>exact hp.elim
   | outgrown=>exact hp.elim
  ·refine hI _ _ _ _ _ hI1 (Sm.refl _ _) (fun k hk=>?_) (fun k hk=>?_)
   ·rcases hk with h|h
    ·exact h.elim
    ·exact .inl h
   ·rcases hk with h|h
    ·exact h.elim
    ·omega
  ·rintro e W2 ⟨⟨v,rfl⟩,(⟨hgo,X,hi,hl,hk,hx⟩|⟨hgo,X,hi,hl,hk,hx⟩)⟩
   ·have hr:=run_endLoop (P:=Tryz.prog) hl (by rw [hrec];simp)
    have hrd:({ rec .ready none with state:=.exhausted }:Loop)=rec .exhausted none:=by rw [hrec]
    have hpe:(rec .ready none).pending=none:=by rw [hrec]
    rw [hrd,hpe] at hr
    exact ⟨none,_,hr,hdone hgo D (XH X) _ (by omega) (.inr (.inr rfl)) (stay .exhausted none hi hl) ((World.putObj_heap_other (by omega)).trans hk)⟩
   ·have hr:=run_endLoop (P:=Tryz.prog) hl (by rw [hrec];simp)
    have hrd:({ rec .done (some .ret) with state:=.exhausted }:Loop)=rec .exhausted (some .ret):=by rw [hrec]
    have hpe:(rec .done (some .ret)).pending=some .ret:=by rw [hrec]
    rw [hrd,hpe] at hr
    exact ⟨some .ret,_,hr,wpIn_ret (hstop hgo D (XH X) _ (by omega) (.inr (.inr rfl)) (stayx .exhausted (some .ret) hi hl) ((World.putObj_heap_other (by omega)).trans hk))⟩
theorem body_marked {f:Func} {R:Ending→World→Prop} {tmps:Array Value} {D:Nat} {W:World} {v:Value} (hK:W.heap[D]?=some (.deferred (some [])))
  (hr:(results f tmps).run Tryz.prog (W.putObj D (.deferred none))=.ok v (W.putObj D (.deferred none))) (h:R (.returned v) (W.putObj D (.deferred none))) :
  bodyPostM Fence.wide 1 Tryz.prog f R .ret { tmps:=tmps,defers:=[{ target:=.collected D,args:=#[] }] } W :=
 ⟨by simp,.inl ⟨D,_,rfl,run_takeDeferred hK,v,hr,h⟩⟩
theorem calls_marked {f:FuncId} {fn:Func} {c:Code} {args:Array Value} {w:World} {R:Ending→World→Prop} (hf:Tryz.prog.funcs[f]?=some fn) (hb:fn.body=some c)
  (h:c.wp Tryz.prog (bodyPostM Fence.wide 1 Tryz.prog fn R) { tmps:=args++Array.replicate (fn.ntmps-args.size) undef,defers:=[] } w):Calls Tryz.prog f args w R :=
 callsIn_wide.1 (callsIn_of_wp_marks (n:=1) hf hb trivial (wpIn_wide.2 h))
end Go.Proofs.YtijkemnhehbchaaGreatDoor
