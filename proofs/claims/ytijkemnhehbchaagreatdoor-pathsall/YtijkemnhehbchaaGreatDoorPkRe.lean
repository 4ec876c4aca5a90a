/- PaD: my texts, in their order. -/
import Derived.Test.YtijkemnhehbchaaGreatDoorPkLd
import Derived.Test.YtijkemnhehbchaaGreatDoorPkLf
import Derived.Test.YtijkemnhehbchaaGreatDoorPkRb
namespace Go.Proofs.YtijkemnhehbchaaGreatDoor
open Go.RowKit
set_option linter.unusedVariables false
set_option linter.unusedSimpArgs false
set_option maxRecDepth 100000
section
variable {X:Nat→Prop} {w w':World}
theorem range_sm {g off:Nat} {l:List Value} (h:w.rangeAt g off l) (s:Sm X w w') (hx:0<l.length→X g):w'.rangeAt g off l :=
 fun i x hi=>s.cell (p:=⟨g,off+i,none⟩) (hx (by have:=(List.getElem?_eq_some_iff.1 hi).1;omega)) (h i x hi)
theorem LsM.sm {g:Nat} {v:Value} {l:List Mv} (h:LsM w g v l) (s:Sm X w w') (hx:0<l.length→X g):LsM w' g v l:=by
 rcases h with h|⟨off,cap,e,h1,h2,h3⟩
 ·exact .inl h
 ·exact .inr ⟨off,cap,e,h1,h2,range_sm h3 s (fun hl=>hx (by rw [mlL_len] at hl;omega))⟩
theorem OwnM.sm {base:Nat} {v:Value} {l:List Mv} (h:OwnM w base v l) (s:Sm X w w') (hx:∀ k,v.ownBlock=some k→X k):OwnM w' base v l:=by
 obtain ⟨h1,h2⟩:=h
 refine ⟨h1,?_⟩
 rcases h2 with h2|⟨b,cap,cur,e1,e2,e3,e4⟩
 ·exact .inl h2
 ·exact .inr ⟨b,cap,cur,e1,e2,s.heap (hx b (by rw [e1];rfl)) e3,e4⟩
theorem PAt.sm {g:Nat} {p:Ps} (h:PAt w g p) (s:Sm X w w') (hx:X g):PAt w' g p:=⟨h.len,s.heap hx h.at_⟩
theorem RAt.sm {g:Nat} {l:List Value} {T:TypeId} (h:RAt w g l T) (s:Sm X w w') (hx:X g):RAt w' g l T:=⟨s.heap hx h.at_⟩
theorem RuAt.sm {r g:Nat} {a b:Addr} (h:RuAt w r g a b) (s:Sm X w w') (hr:X r) (hg:X g):RuAt w' r g a b :=
 ⟨s.cell (p:=⟨r,0,none⟩) hr h.gen,s.cell (p:=⟨r,1,none⟩) hr h.eye,s.cell (p:=⟨g,0,none⟩) hg h.ey⟩
end
theorem run_append_path (ty:TypeId) (v:Value) (l:List Mv) (m:Mv) (w:World) (hown:OwnM w 0 v l) (g off c:Nat) (hcell:w.rangeAt g off (ml m)) (hlen:l.length≤100000) :
  ∃ v' w',(Builtin.append_ #[37,37] ty #[v,.slice (some ⟨g,off,none⟩) 1 c]).run Tryz.prog w=.ok v' w'∧OwnM w' 0 v' (l++[m])∧w.grownBy w' v.ownBlock ∧
   ∀ k,v'.ownBlock=some k→v.ownBlock=some k∨w.heap.size≤k:=by
 obtain ⟨i0,hi0,hz0,hz1,hz2⟩:=partsZ infoM
 have hn:∀ j u,(ml m)[j]?=some u→w.cell? ((⟨g,off,none⟩:Addr).add j)=some u:=by
  intro j u hu
  rw [show (⟨g,off,none⟩:Addr).add j=⟨g,off+j,none⟩ by unfold Addr.add;split <;> simp_all]
  exact hcell j u hu
 have h1:∀ u ∈ ml m,u.oneCell'=true:=fun u hu=>mlL_one (L:=[m]) (by simpa [mlL] using hu)
 have go:=fun base hb (ho:w.ownsRow base 54 3 v l.length (mlL l))=>run_append_own (P:=Tryz.prog) w base 37 ty 54 i0 (.agg (ml Zm).toArray) 3 24 Tryz.underlying37 hi0 hz0 hz1 hz2 rfl (by decide) v l.length (mlL l) ho ⟨g,off,none⟩ 1 c (ml m) rfl hn h1 (by unfold maxLen;omega) (by omega) hb
 obtain ⟨v',w',hr,h2,h3,_⟩:=go 0 (Nat.zero_le _) hown
 refine ⟨v',w',hr,?_,h3,fun k hk=>?_⟩
 ·unfold OwnM
  rw [mlL_app,List.length_append,show mlL [m]=ml m by unfold mlL;simp]
  exact h2
 ·rcases hown.2 with ⟨e,h0⟩|⟨gb,cap,cur,e,hb,hh,hnc,hcm,hcs,ht⟩
  ·right
   have hl0:l=[]:=List.eq_nil_of_length_eq_zero h0
   obtain ⟨v2,w2,hr2,h22,_⟩:=go w.heap.size (Nat.le_refl _) (by rw [e,hl0];exact World.ownsRow_nil _ _ _ _)
   rw [hr] at hr2
   injection hr2 with e1 e2
   subst e1 e2
   exact (World.ownsRow.lt h22 k hk).1
  ·by_cases hroom:l.length+1≤cap
   ·left
    have hr2:=run_append_room (P:=Tryz.prog) w 37 ty 54 i0 Tryz.underlying37 hi0 gb l.length cap cur hh ⟨g,off,none⟩ 1 c (ml m) (by rw [hz1];rfl) hn h1 hroom (by rw [hz1,hcs];show l.length*3+3≤cap*3;omega)
    rw [← e,hr] at hr2
    injection hr2 with e1 e2
    rw [e1] at hk
    rw [e]
    exact hk
   ·right
    have hr2:=run_append_grow (P:=Tryz.prog) w 37 ty 54 i0 (.agg (ml Zm).toArray) Tryz.underlying37 hi0 hz0 ⟨gb,0,none⟩ l.length cap (mlL l) (by rw [hz1];exact hown.1) (hown.cells (g:=gb) (by rw [e];rfl)) ⟨g,off,none⟩ 1 c (ml m) (by rw [hz1];rfl) hn (by omega) (by omega) (growslice_fits (by omega) (by rw [hz2];omega))
    rw [← e,hr] at hr2
    injection hr2 with e1 e2
    rw [e1] at hk
    simp [Value.ownBlock] at hk
    omega
theorem wp_append_path {o:Oper} {a:Act} {w:World} {K:Act→World→Prop} {Q:Exit→Act→World→Prop} (s x:Operand)
  (ho:o.op=.call { callee:=.builtin .append,args:=#[s,x],argTypes:=#[37,37] })
  (v:Value) (l:List Mv) (m:Mv) (g off c:Nat) (hs:a.eval s=v) (hx:a.eval x=.slice (some ⟨g,off,none⟩) 1 c) (hown:OwnM w 0 v l) (hcell:w.rangeAt g off (ml m)) (hlen:l.length≤100000)
  (h:∀ v' w',OwnM w' 0 v' (l++[m])→w.grownBy w' v.ownBlock→(∀ k,v'.ownBlock=some k→v.ownBlock=some k∨w.heap.size≤k)→K (a.put o.dst v') w'):o.wp Tryz.prog a w K Q:=by
 obtain ⟨v',w',hr,h2,h3,h4⟩:=run_append_path o.type v l m w hown g off c hcell hlen
 unfold Oper.wp execOp
 simp only [ho,resolve,invoke,builtin,Sem.run_bind,Sem.run_pure,Result.andThen_ok,List.map_toArray,List.map_cons,List.map_nil,hs,hx,hr]
 exact h v' w' h2 h3 h4
theorem wp_bslice_mv {o:Oper} {a:Act} {w:World} {K:Act→World→Prop} {Q:Exit→Act→World→Prop} (x:Operand) (ho:o.op=.buildSlice 37 1 #[(0,x)]) (m:Mv) (hx:a.eval x=.agg (ml m).toArray)
  (h:K (a.put o.dst (.slice (some ⟨w.heap.size,0,none⟩) 1 1)) (w.alloc (.cells (ml m).toArray 54))):o.wp Tryz.prog a w K Q:=by
 have hp:((#[(0,x)]:Array (Nat × Operand)).map fun (i,x)=>(i,a.eval x))=#[(0,.agg (ml m).toArray)]:=by simp [hx]
 unfold Oper.wp execOp
 simp only [ho,hp,Sem.run_bind,run_bslice_mv,Result.andThen_ok,Sem.run_pure]
 exact h
theorem run_op_bslice {o:Oper} {a:Act} (x:Operand) (ho:o.op=.buildSlice 37 1 #[(0,x)]) (m:Mv) (hx:a.eval x=.agg (ml m).toArray) (w:World) :
  (execOp a.eval o).run Tryz.prog w=.ok (.value (.slice (some ⟨w.heap.size,0,none⟩) 1 1)) (w.alloc (.cells (ml m).toArray 54)):=by
 have hp:((#[(0,x)]:Array (Nat × Operand)).map fun (i,x)=>(i,a.eval x))=#[(0,.agg (ml m).toArray)]:=by simp [hx]
 unfold execOp
 simp only [ho,hp,Sem.run_bind,run_bslice_mv,Result.andThen_ok,Sem.run_pure]
theorem OwnM.cut {w:World} {a:Option Addr} {n cap:Nat} {l:List Mv} (h:OwnM w 0 (.slice a n cap) l) (k:Nat) (hk:k≤l.length):OwnM w 0 (.slice a k cap) (l.take k):=by
 have hlen:(l.take k).length=k:=by rw [List.length_take];omega
 refine ⟨mlL_len _,?_⟩
 rcases h.2 with ⟨e,h0⟩|⟨g,cap',cur,e,hb,hh,hnc,hcm,hcs,ht⟩
 ·injection e with e1 e2 e3
  exact .inl ⟨by rw [e1,e3,show k=0 by omega],by omega⟩
 ·injection e with e1 e2 e3
  subst e1 e3
  refine .inr ⟨g,cap,cur,by rw [hlen],hb,hh,by omega,hcm,hcs,?_⟩
  rw [hlen]
  have e1:cur.toList.take (k*3)=(cur.toList.take (l.length*3)).take (k*3):=by rw [List.take_take];congr 1;omega
  have e2:mlL l=mlL (l.take k)++mlL (l.drop k):=by rw [← mlL_app,List.take_append_drop]
  rw [e1,ht,e2]
  exact List.take_left' (by rw [mlL_len,hlen])
def wkc (r:Nat) (N:Nat) (tv v:Value):List Value:=[.pointer (some ⟨r,0,none⟩),.int .i64 N,tv,v]
structure Wk (X Y:Nat→Prop) (w:World) (gw r N:Nat) (tv v:Value) (pre:List Mv):Prop where
 at_:RAt w gw (wkc r N tv v) 72
 own:OwnM w 0 v pre
 row:∀ k,v.ownBlock=some k→X k∧¬ Y k∧k≠gw
 inX:X gw
 notY:¬ Y gw
 sub:∀ k,Y k→X k
 low:∀ k,X k→k<w.heap.size
section
variable {X Y:Nat→Prop} {w w':World} {gw r N:Nat} {tv v:Value} {pre:List Mv}
theorem Wk.sm (h:Wk X Y w gw r N tv v pre) (s:Sm X w w'):Wk X Y w' gw r N tv v pre :=
 ⟨h.at_.sm s h.inX,h.own.sm s (fun k hk=>(h.row k hk).1),h.row,h.inX,h.notY,h.sub,fun k hk=>Nat.lt_of_lt_of_le (h.low k hk) s.size⟩
theorem Wk.kept (h:Wk X Y w gw r N tv v pre) (k:Kept w w'):Wk X Y w' gw r N tv v pre:=h.sm (Sm.of_kept _ k)
theorem Wk.add (h:Wk X Y w gw r N tv v pre) (k:Kept w w') (Z:Nat→Prop) (hz:∀ i,Z i→w.heap.size≤i∧i<w'.heap.size) :
  Wk (fun i=>X i∨Z i) (fun i=>Y i∨Z i) w' gw r N tv v pre:=by
 have h':=h.kept k
 have hg:=h.low gw h.inX
 refine ⟨h'.at_,h'.own,fun i hi=>?_,.inl h.inX,fun hy=>?_,fun i hi=>hi.imp (h.sub i) id,fun i hi=>?_⟩
 ·obtain ⟨h1,h2,h3⟩:=h.row i hi
  refine ⟨.inl h1,fun hy=>?_,h3⟩
  rcases hy with hy|hy
  ·exact h2 hy
  ·have:=(hz i hy).1;have:=h.low i h1;omega
 ·rcases hy with hy|hy
  ·exact h.notY hy
  ·have:=(hz gw hy).1;omega
 ·rcases hi with hi|hi
  ·exact h'.low i hi
  ·exact (hz i hi).2
theorem Wk.weak {Y':Nat→Prop} (h:Wk X Y w gw r N tv v pre) (hY:∀ k,Y' k→Y k):Wk X Y' w gw r N tv v pre :=
 ⟨h.at_,h.own,fun k hk=>⟨(h.row k hk).1,fun hy=>(h.row k hk).2.1 (hY k hy),(h.row k hk).2.2⟩,h.inX,fun hy=>h.notY (hY _ hy),fun k hk=>h.sub k (hY k hk),h.low⟩
theorem Wk.c0 (h:Wk X Y w gw r N tv v pre):w.cell? ⟨gw,0,none⟩=some (.pointer (some ⟨r,0,none⟩)):=h.at_.cellK 0
theorem Wk.c1 (h:Wk X Y w gw r N tv v pre):w.cell? ⟨gw,1,none⟩=some (.int .i64 N):=h.at_.cellK 1
theorem Wk.c2 (h:Wk X Y w gw r N tv v pre):w.cell? ⟨gw,2,none⟩=some tv:=h.at_.cellK 2
theorem Wk.c3 (h:Wk X Y w gw r N tv v pre):w.cell? ⟨gw,3,none⟩=some v:=h.at_.cellK 3
theorem RAt.set {g:Nat} {l:List Value} {T:TypeId} (h:RAt w g l T) (k:Nat) (u:Value):RAt (w.setCell ⟨g,k,none⟩ u) g (l.set k u) T:=by
 refine ⟨?_⟩
 rw [heap_setCell_same w g k _ _ _ h.at_,List.setIfInBounds_toArray]
theorem Wk.path (h:Wk X Y w gw r N tv v pre):∃ g,LsM w g v pre∧(0<pre.length→X g):=by
 rcases h.own.2 with ⟨e,h0⟩|⟨g,cap,cur,e,hb,hh,hnc,hcm,hcs,ht⟩
 ·exact ⟨0,.inl ⟨e,List.eq_nil_of_length_eq_zero h0⟩,fun hl=>by omega⟩
 ·refine ⟨g,.inr ⟨0,cap,e,hnc,hcm,fun i x hx=>?_⟩,fun _=>(h.row g (by rw [e];rfl)).1⟩
  have hi:i<pre.length*3:=by
   have:=(List.getElem?_eq_some_iff.1 hx).1
   rwa [mlL_len] at this
  rw [Nat.zero_add,cell_of_row w g i cur _ (0,0) hh]
  have h2:(cur.toList.take (pre.length*3))[i]?=(mlL pre)[i]?:=by rw [ht]
  rw [List.getElem?_take,if_pos hi] at h2
  simp only [Array.getElem?_toList] at h2
  rw [h2,hx]
theorem Wk.push (h:Wk X Y w gw r N tv v pre) {w1 w2:World} {v':Value} {m:Mv} (k:Kept w w1) (hown:OwnM w2 0 v' (pre++[m])) (hg:w1.grownBy w2 v.ownBlock) (hv:∀ k,v'.ownBlock=some k→v.ownBlock=some k∨w1.heap.size≤k) :
  Wk (fun i=>X i∨(w.heap.size≤i∧i<w2.heap.size)) Y (w2.setCell ⟨gw,3,none⟩ v') gw r N tv v' (pre++[m]) ∧
   Sm Y w (w2.setCell ⟨gw,3,none⟩ v')∧Sm (fun k=>¬ X k) w (w2.setCell ⟨gw,3,none⟩ v'):=by
 have hgl:=h.low gw h.inX
 have hgw1:=k.heap h.at_.at_
 have hs1:=k.size
 have hs2:=hg.size
 have hne:some gw≠v.ownBlock:=fun e=>(h.row gw e.symm).2.2 rfl
 have hgw2:RAt w2 gw (wkc r N tv v) 72:=⟨(hg.block gw (lt_of_heap hgw1) hne).trans hgw1⟩
 have hsm:∀ Z:Nat→Prop,¬ Z gw→(∀ i,v.ownBlock=some i→¬ Z i)→Sm Z w (w2.setCell ⟨gw,3,none⟩ v'):=fun Z h1 h2 =>
  ((Sm.of_kept Z k).grownBy hg (fun i hi hz=>(h2 i hi hz).elim)).setCell h1 v'
 have hYl:∀ i,Y i→i<w.heap.size:=fun i hi=>h.low i (h.sub i hi)
 have hrow:∀ i,v'.ownBlock=some i→(X i∨(w.heap.size≤i∧i<w2.heap.size))∧¬ Y i∧i≠gw:=by
  intro i hi
  have hlt:=(World.ownsRow.lt hown i hi).2
  rcases hv i hi with e|e
  ·obtain ⟨a,b,c⟩:=h.row i e
   exact ⟨.inl a,b,c⟩
  ·exact ⟨.inr ⟨by omega,hlt⟩,fun hy=>by have:=hYl i hy;omega,by omega⟩
 refine ⟨⟨hgw2.set 3 v',?_,hrow,.inl h.inX,h.notY,fun i hi=>.inl (h.sub i hi),fun i hi=>?_⟩,hsm Y h.notY (fun i hi=>(h.row i hi).2.1),hsm _ (fun hx=>hx h.inX) (fun i hi hx=>hx (h.row i hi).1)⟩
 ·obtain ⟨h1,h2⟩:=hown
  refine ⟨h1,?_⟩
  rcases h2 with h2|⟨b,cap,cur,e1,e2,e3,e4⟩
  ·exact .inl h2
  ·refine .inr ⟨b,cap,cur,e1,e2,?_,e4⟩
   rw [Below.heap_setCell w2 ⟨gw,3,none⟩ v' b (by exact (hrow b (by rw [e1];rfl)).2.2)]
   exact e3
 ·have:(w2.setCell ⟨gw,3,none⟩ v').heap.size=w2.heap.size:=by simp [World.setCell]
  rw [this]
  rcases hi with hi|hi
  ·have:=h.low i hi;omega
  ·exact hi.2
theorem Wk.pop {m:Mv} (h:Wk X Y w gw r N tv v (pre++[m])):∃ g cap,v=.slice (some ⟨g,0,none⟩) (pre.length+1) cap∧pre.length+1≤cap∧cap≤maxLen ∧
  Wk X Y (w.setCell ⟨gw,3,none⟩ (.slice (some ⟨g,0,none⟩) pre.length cap)) gw r N tv (.slice (some ⟨g,0,none⟩) pre.length cap) pre ∧
  Sm Y w (w.setCell ⟨gw,3,none⟩ (.slice (some ⟨g,0,none⟩) pre.length cap))∧Sm (fun k=>¬ X k) w (w.setCell ⟨gw,3,none⟩ (.slice (some ⟨g,0,none⟩) pre.length cap)):=by
 have hl1:(pre++[m]).length=pre.length+1:=by simp
 rcases h.own.2 with ⟨e,h0⟩|⟨g,cap,cur,e,hb,hh,hnc,hcm,hcs,ht⟩
 ·rw [hl1] at h0;omega
 ·rw [hl1] at e hnc
  have hc:=h.own
  rw [e] at hc
  have hcut:=hc.cut pre.length (by rw [hl1];omega)
  rw [List.take_left' rfl] at hcut
  obtain ⟨r1,r2,r3⟩:=h.row g (by rw [e];rfl)
  refine ⟨g,cap,e,hnc,hcm,⟨h.at_.set 3 _,?_,fun k hk=>?_,h.inX,h.notY,h.sub,fun k hk=>by simpa [World.setCell] using h.low k hk⟩,(Sm.refl _ w).setCell (by exact h.notY) _,(Sm.refl _ w).setCell (by exact fun hx=>hx h.inX) _⟩
  ·obtain ⟨h1,h2⟩:=hcut
   refine ⟨h1,?_⟩
   rcases h2 with h2|⟨b,cap',cur',e1,e2,e3,e4⟩
   ·exact .inl h2
   ·refine .inr ⟨b,cap',cur',e1,e2,?_,e4⟩
    injection e1 with q1 q2 q3
    injection q1 with q1
    injection q1 with q1
    rw [Below.heap_setCell w ⟨gw,3,none⟩ _ b (by rw [← q1];exact r3)]
    exact e3
  ·have:k=g:=by simp [Value.ownBlock] at hk;exact hk.symm
   rw [this];exact ⟨r1,r2,r3⟩
end
theorem op_value {o:Oper} {a:Act} {w w':World} {K:Act→World→Prop} {Q:Exit→Act→World→Prop} {n:Nat} {u:Value} (h:(execOp a.eval o).run Tryz.prog w=.ok (.value u) w') (hk:K (a.put o.dst u) w'):o.wpIn Fence.wide n Tryz.prog a w K Q:=by
 refine ⟨fun _ _=>trivial,?_⟩
 have h':(o.semAt Fence.wide.round a.eval).run Tryz.prog w=.ok (.value u) w':=h
 rw [h']
 exact hk
section
variable {ops:Array Oper} {Q:Exit→Act→World→Prop} {md:Region.Mode} {oi oj:Oper} {fuel n:Nat} {listed:Array Bool} {a:Act} {w:World}
theorem region_in {id:Nat} (h:wpAnyIn Fence.wide n Tryz.prog .any ops Q ops.size (Array.replicate ops.size false) a w.drew) (hm:Tryz.prog.follows .mixedOrders=true:=by kernel_rfl):(Code.region id ops true).wp Tryz.prog Q a w :=
 wpIn_wide.1 (wpIn_region_any hm h)
theorem tI (i:Nat) (d:Tmp) (v:Value) (hi:ops[i]?=some oi) (hd:oi.dst=some d) (h:wpAnyIn Fence.wide n Tryz.prog md ops Q fuel (listed.setIfInBounds i true) (a.put (some d) v) w)
  (hs:Region.noSelect ops=true:=by kernel_rfl) (hf:Region.free md ops listed i=true:=by kernel_rfl) (hr:(Region.ready md ops listed).contains i=true:=by kernel_rfl)
  (hQ:∀ c a w,Q (.panic c) (a.put (some d) v) w→Q (.panic c) a w:=by exact fun _ _ _ h=>h) (hw:Region.wanted oi (yielded ops a.tmps)=true:=by rfl)
  (hy:∀ w,(execOp a.eval oi).run Tryz.prog w=.ok (.value v) w:=by intro _;go_simp) (ha:∀ w,oi.about Tryz.prog w a.eval=none:=by intro _;rfl):wpAnyIn Fence.wide n Tryz.prog md ops Q (fuel+1) listed a w:=by
 refine wpAnyIn_take rfl hi hs hf hr (v:=v) ?_ ⟨.inl ⟨hw,hy⟩,ha⟩ ?_
 ·rw [hd];exact hQ
 ·rw [hd];exact h
theorem two_reads (i j:Nat) (di dj:Tmp) (u v:Value) (hi:ops[i]?=some oi) (hj:ops[j]?=some oj) (edi:oi.dst=some di) (edj:oj.dst=some dj) (hne:di≠dj) (hij:i≠j)
  (yi:(execOp a.eval oi).run Tryz.prog w=.ok (.value u) w) (yj:(execOp (a.put (some di) u).eval oj).run Tryz.prog w=.ok (.value v) w)
  (yj':(execOp a.eval oj).run Tryz.prog w=.ok (.value v) w) (yi':(execOp (a.put (some dj) v).eval oi).run Tryz.prog w=.ok (.value u) w)
  (h:wpAnyIn Fence.wide n Tryz.prog md ops Q fuel ((listed.setIfInBounds i true).setIfInBounds j true) ((a.put (some di) u).put (some dj) v) w)
  (hr:Region.ready md ops listed=[i,j]:=by kernel_rfl) (hri:Region.ready md ops (listed.setIfInBounds i true)=[j]:=by kernel_rfl) (hrj:Region.ready md ops (listed.setIfInBounds j true)=[i]:=by kernel_rfl)
  (wi:Region.wanted oi (yielded ops a.tmps)=true:=by rfl) (wj:Region.wanted oj (yielded ops (a.put (some di) u).tmps)=true:=by rfl) (wj':Region.wanted oj (yielded ops a.tmps)=true:=by rfl) (wi':Region.wanted oi (yielded ops (a.put (some dj) v).tmps)=true:=by rfl) :
  wpAnyIn Fence.wide n Tryz.prog md ops Q (fuel+1+1) listed a w:=by
 have hcm:(a.put (some dj) v).put (some di) u=(a.put (some di) u).put (some dj) v:=Act.put_comm a v u (by simpa using hne)
 refine wpAnyIn_ready hr (by simp) (AllReadyIn.cons hi (fun K hK=>?_) (AllReadyIn.cons hj (fun K hK=>?_) AllReadyIn.nil))
 ·rw [if_pos wi]
  refine op_value yi (hK _ _ ?_)
  rw [edi]
  refine wpAnyIn_ready hri (by simp) (AllReadyIn.cons hj (fun K hK=>?_) AllReadyIn.nil)
  rw [if_pos wj]
  refine op_value yj (hK _ _ ?_)
  rw [edj]
  exact h
 ·rw [if_pos wj']
  refine op_value yj' (hK _ _ ?_)
  rw [edj]
  refine wpAnyIn_ready hrj (by simp) (AllReadyIn.cons hi (fun K hK=>?_) AllReadyIn.nil)
  rw [if_pos wi']
  refine op_value yi' (hK _ _ ?_)
  rw [edi,hcm,Array.setIfInBounds_comm _ _ (Ne.symm hij)]
  exact h
theorem plain_value {P:Program} {o:Oper} {a:Act} {w w':World} {K:Act→World→Prop} {Q:Exit→Act→World→Prop} {u:Value} (h:(execOp a.eval o).run P w=.ok (.value u) w') (hk:K (a.put o.dst u) w'):o.wp P a w K Q:=by
 unfold Oper.wp
 rw [h]
 exact hk
theorem two_ready {P:Program} {S:World→Prop} (i j:Nat) (di dj:Tmp) (u v:Value) (w2:World) (hi:ops[i]?=some oi) (hj:ops[j]?=some oj) (edi:oi.dst=some di) (edj:oj.dst=some dj) (hne:di≠dj) (hij:i≠j)
  (yi:(execOp a.eval oi).run P w=.ok (.value u) w) (yj:(execOp (a.put (some di) u).eval oj).run P w=.ok (.value v) w2)
  (yj':(execOp a.eval oj).run P w=.ok (.value v) w2) (yi':(execOp (a.put (some dj) v).eval oi).run P w2=.ok (.value u) w2) (hS:S w) (hS2:S w2)
  (h:wpAnyH P md ops Q S fuel ((listed.setIfInBounds i true).setIfInBounds j true) ((a.put (some di) u).put (some dj) v) w2)
  (hr:Region.ready md ops listed=[i,j]:=by kernel_rfl) (hri:Region.ready md ops (listed.setIfInBounds i true)=[j]:=by kernel_rfl) (hrj:Region.ready md ops (listed.setIfInBounds j true)=[i]:=by kernel_rfl)
  (wi:Region.wanted oi (yielded ops a.tmps)=true:=by rfl) (wj:Region.wanted oj (yielded ops (a.put (some di) u).tmps)=true:=by rfl) (wj':Region.wanted oj (yielded ops a.tmps)=true:=by rfl) (wi':Region.wanted oi (yielded ops (a.put (some dj) v).tmps)=true:=by rfl) :
  wpAnyH P md ops Q S (fuel+1+1) listed a w:=by
 have hcm:(a.put (some dj) v).put (some di) u=(a.put (some di) u).put (some dj) v:=Act.put_comm a v u (by simpa using hne)
 refine wpAnyH_ready hr (by simp) (AllReadyH.cons hi (fun K hK=>?_) (AllReadyH.cons hj (fun K hK=>?_) AllReadyH.nil))
 ·rw [if_pos wi]
  refine plain_value yi (hK.out _ _ hS (fun _=>?_))
  rw [edi]
  refine wpAnyH_ready hri (by simp) (AllReadyH.cons hj (fun K hK=>?_) AllReadyH.nil)
  rw [if_pos wj]
  refine plain_value yj (hK.out _ _ hS2 (fun _=>?_))
  rw [edj]
  exact h
 ·rw [if_pos wj']
  refine plain_value yj' (hK.out _ _ hS2 (fun _=>?_))
  rw [edj]
  refine wpAnyH_ready hrj (by simp) (AllReadyH.cons hi (fun K hK=>?_) AllReadyH.nil)
  rw [if_pos wi']
  refine plain_value yi' (hK.out _ _ hS2 (fun _=>?_))
  rw [edi,hcm,Array.setIfInBounds_comm _ _ (Ne.symm hij)]
  exact h
theorem one_yield (i:Nat) {l:Nat} (x y:Operand) (ts:Array TypeId) (hi:ops[i]?=some oi) (ho:oi.op=.call { callee:=.value x,args:=#[y],argTypes:=ts }) (hx:a.eval x=.func (.yield l) #[] #[]) {v:Value} (hy:a.eval y=v)
  {R:Ending→World→Prop} (h:YieldAt Fence.wide 0 Tryz.prog l #[v] w R)
  (hR:∀ e w',R e w'→∃ u,e=.returned u∧wpAnyIn Fence.wide n Tryz.prog md ops Q fuel (listed.setIfInBounds i true) (a.put oi.dst u) w')
  (hr:Region.ready md ops listed=[i]:=by kernel_rfl) (wi:Region.wanted oi (yielded ops a.tmps)=true:=by rfl):wpAnyIn Fence.wide n Tryz.prog md ops Q (fuel+1) listed a w:=by
 refine wpAnyIn_ready hr (by simp) (AllReadyIn.cons hi (fun K hK=>?_) AllReadyIn.nil)
 rw [if_pos wi]
 refine op_yield x y ts ho hx hy h (fun e w' he=>?_)
 obtain ⟨u,rfl,hu⟩:=hR e w' he
 exact ⟨u,rfl,hK _ _ hu⟩
theorem oI (i:Nat) (is:List Nat) (d:Tmp) (v:Value) (hi:ops[i]?=some oi) (hd:oi.dst=some d) (h:wpOpsIn Fence.wide n Tryz.prog ops Q is (a.put (some d) v) w)
  (hw:Region.wanted oi (yielded ops a.tmps)=true:=by rfl) (hy:(execOp a.eval oi).run Tryz.prog w=.ok (.value v) w:=by go_simp):wpOpsIn Fence.wide n Tryz.prog ops Q (i::is) a w:=by
 rw [wpOpsIn_cons]
 refine wpOpIn_step hi (fun K hK=>?_)
 rw [if_pos hw]
 refine op_value hy (hK _ _ ?_)
 rw [hd]
 exact h
theorem oN (i:Nat) (is:List Nat) (d:Tmp) (hi:ops[i]?=some oi) (hd:oi.dst=some d) (h:wpOpsIn Fence.wide n Tryz.prog ops Q is (a.put (some d) undef) w)
  (hw:Region.wanted oi (yielded ops a.tmps)=false:=by rfl):wpOpsIn Fence.wide n Tryz.prog ops Q (i::is) a w:=by
 rw [wpOpsIn_cons]
 refine wpOpIn_step hi (fun K hK=>?_)
 rw [if_neg (by rw [hw];decide)]
 refine ⟨fun _ _=>trivial,hK _ _ ?_⟩
 rw [hd]
 exact h
theorem oY (i:Nat) (is:List Nat) {l:Nat} (x y:Operand) (ts:Array TypeId) (hi:ops[i]?=some oi) (ho:oi.op=.call { callee:=.value x,args:=#[y],argTypes:=ts }) (hx:a.eval x=.func (.yield l) #[] #[]) {v:Value} (hy:a.eval y=v)
  {R:Ending→World→Prop} (h:YieldAt Fence.wide 0 Tryz.prog l #[v] w R)
  (hR:∀ e w',R e w'→∃ u,e=.returned u∧wpOpsIn Fence.wide n Tryz.prog ops Q is (a.put oi.dst u) w')
  (wi:Region.wanted oi (yielded ops a.tmps)=true:=by rfl):wpOpsIn Fence.wide n Tryz.prog ops Q (i::is) a w:=by
 rw [wpOpsIn_cons]
 refine wpOpIn_step hi (fun K hK=>?_)
 rw [if_pos wi]
 refine op_yield x y ts ho hx hy h (fun e w' he=>?_)
 obtain ⟨u,rfl,hu⟩:=hR e w' he
 exact ⟨u,rfl,hK _ _ hu⟩
end
def PathG (w:World) (X:Nat→Prop) (v:Value) (x:List Mv):Prop:=∃ g,LsM w g v x∧(0<x.length→X g)
theorem PathG.mono {w:World} {X X':Nat→Prop} {v:Value} {x:List Mv} (h:PathG w X v x) (hX:∀ k,X k→X' k):PathG w X' v x:=by
 obtain ⟨g,h1,h2⟩:=h
 exact ⟨g,h1,fun hl=>hX g (h2 hl)⟩
theorem PathG.sm {w w':World} {X:Nat→Prop} {v:Value} {x:List Mv} (h:PathG w X v x) (s:Sm X w w'):PathG w' X v x:=by
 obtain ⟨g,h1,h2⟩:=h
 exact ⟨g,h1.sm s h2,h2⟩
end Go.Proofs.YtijkemnhehbchaaGreatDoor
