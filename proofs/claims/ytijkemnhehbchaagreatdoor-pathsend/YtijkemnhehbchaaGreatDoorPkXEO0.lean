/- MvY · PaN: my texts, in their order. -/
import Derived.Test.YtijkemnhehbchaaGreatDoorPkA
import Derived.Test.YtijkemnhehbchaaGreatDoorPkB
import Derived.Test.YtijkemnhehbchaaGreatDoorPkC
import Derived.Test.YtijkemnhehbchaaGreatDoorPkD
import Derived.Test.YtijkemnhehbchaaGreatDoorPkF
import Derived.Test.YtijkemnhehbchaaGreatDoorPkGa
import Derived.Test.YtijkemnhehbchaaGreatDoorPkI
import Derived.Test.YtijkemnhehbchaaGreatDoorPkY
import Derived.Deep.Strs
import Derived.Deep.Slices
import Derived.ChangeSame
import Derived.DataShut
namespace Go.Proofs.YtijkemnhehbchaaGreatDoor
open Go.ChangeShapes Go.WideShapes Go.ChangeAt Go.RowKit
open Go.Joins Go.Deep
set_option linter.unusedVariables false
set_option linter.unusedSimpArgs false
set_option maxRecDepth 100000
section
variable {H:Type} {enc:TypeId × Value→H}
def dM (H:Type) (m:Mv):DataW H:=.agg [.lit (.int .i64 m.f),.lit (.int .i64 m.t),.lit (.int .i64 m.p)]
structure MvW (m:Mv):Prop where
 f:(Lit.int .i64 m.f).wf=true
 t:(Lit.int .i64 m.t).wf=true
 p:(Lit.int .i64 m.p).wf=true
theorem cells28:Tryz.prog.cellsOf 54=3:=by kernel_rfl
theorem shut_move {W:World} {base:Nat} {sp:Nat→Bool} {hd:Bool} (m:Mv) (h:MvW m):DataW.Trod enc Tryz.prog W base sp hd 54 (.agg (ml m).toArray) (dM H m) []:=by
 refine ⟨3,?_⟩
 have hc:(Value.agg (ml m).toArray).cells.toList=ml m:=rfl
 rw [hc]
 have:=trod_struct3_mk (enc:=enc) (w:=W) (base:=base) (spare:=sp) (held:=hd) (n:=2) (cs:=ml m) (y0:=(.lit (.int .i64 m.f),[])) (y1:=(.lit (.int .i64 m.t),[])) (y2:=(.lit (.int .i64 m.p),[]))
  Tryz.underlying54 (by rw [cells28];rfl) (by rw [cellsInt];show DataW.trod enc Tryz.prog W base sp hd 2 3 [.int .i64 m.f]=_;exact trod_int_mk h.f)
  (by rw [cellsInt];show DataW.trod enc Tryz.prog W base sp hd 2 3 [.int .i64 m.t]=_;exact trod_int_mk h.t) (by rw [cellsInt];show DataW.trod enc Tryz.prog W base sp hd 2 3 [.int .i64 m.p]=_;exact trod_int_mk h.p)
 exact this
end
end Go.Proofs.YtijkemnhehbchaaGreatDoor
namespace Go.Proofs.YtijkemnhehbchaaGreatDoor
open Go.ChangeShapes Go.WideShapes Go.ChangeAt Go.RowKit
open Go.Joins Go.Deep
set_option linter.unusedVariables false
set_option linter.unusedSimpArgs false
set_option maxRecDepth 100000
section
variable {H:Type} {enc:TypeId × Value→H}
theorem trod_mv {W:World} {base:Nat} {sp:Nat→Bool} {hd:Bool} {fuel:Nat} {l:List Value} {x:DataW H × List MemPlace}
  (hl:l.length=3) (hf:DataW.trod enc Tryz.prog W base sp hd fuel 54 l=some x):∃ m,MvW m∧l=ml m∧x=(dM H m,[]):=by
 obtain ⟨y0,y1,y2,n,hx,hlen,h0,h1,h2⟩:=trod_struct3 Tryz.underlying54 hf
 rw [cellsInt] at h0 h1 h2
 obtain ⟨f,e0,rfl,w0⟩:=DataW.trod_int Tryz.underlying3 h0
 obtain ⟨t,e1,rfl,w1⟩:=DataW.trod_int Tryz.underlying3 h1
 obtain ⟨p,e2,rfl,w2⟩:=DataW.trod_int Tryz.underlying3 h2
 refine ⟨⟨f,t,p⟩,⟨w0,w1,w2⟩,?_,?_⟩
 ·match l,hl with
  | [a,b,c],_ =>
   have q0:a=.int .i64 f:=by simpa using e0
   have q1:b=.int .i64 t:=by simpa using e1
   have q2:c=.int .i64 p:=by simpa using e2
   rw [q0,q1,q2];rfl
 ·rw [hx];rfl
theorem open_mvs {W:World} {r:Reach} {b0:Nat} {v:Value} {d:DataW H} {q:List MemPlace}
  (hv:Value.okWide Tryz.prog W r b0 37 v) (h:DataW.Trod enc Tryz.prog W 0 (fun _=>true) true 37 v d q) :
  ∃ (L:List Mv) (g:Nat),LsM W g v L∧∀ W',Kept W W'→DataW.Trod enc Tryz.prog W' 0 (fun b=>decide (b<W.heap.size)) true 37 v d q:=by
 obtain ⟨fuel,hf⟩:=h
 obtain ⟨a0,len0,cap0,rfl⟩:=okWide_slice Tryz.underlying37 hv
 have hc:(Value.slice a0 len0 cap0).cells.toList=[.slice a0 len0 cap0]:=rfl
 rw [hc] at hf
 rcases open_slice Tryz.underlying37 hf with ⟨e,hx⟩|⟨a,len,cap,m,n,D,Pl,hcs,hb,hl,hm,hmm,hx,hi⟩
 ·have e':Value.slice a0 len0 cap0=.slice none 0 0:=by simpa using e
  rw [e']
  simp only [Prod.mk.injEq] at hx
  rw [hx.1,hx.2]
  exact ⟨[],0,.inl ⟨rfl,rfl⟩,fun W' _=>shut_slice_nil Tryz.underlying37⟩
 ·have e':Value.slice a0 len0 cap0=.slice (some a) len cap:=by simpa using hcs
  rw [e'] at hv ⊢
  have hmc:m=cap:=by simpa using hmm
  rw [hmc] at hx hi
  have hsp:a.spot=none∧a.block<W.heap.size:=by
   have hv':Cell.okWide Tryz.prog W r b0 37 (.slice (some a) len cap):=by simpa [Value.okWide,Tryz.underlying37] using hv
   have hv2:Cell.ok Tryz.prog W r b0 37 (.slice (some a) len cap):=by simpa [Cell.okWide,Tryz.underlying37] using hv'
   have hv3:len≤cap∧(cap:Int)≤IntKind.i64.max∧W.has Tryz.prog r b0 a 54 cap:=by simpa [Cell.ok,Tryz.underlying37] using hv2
   obtain ⟨_,_,_,h1,row,cells,h2,_⟩:=hv3
   refine ⟨h1,?_⟩
   unfold World.shape? at h2
   rcases Nat.lt_or_ge a.block W.heap.size with h|h
   ·exact h
   ·rw [Array.getElem?_eq_none h] at h2
    cases h2
  obtain ⟨g,off,sp⟩:=a
  obtain ⟨rfl,hgl⟩:=hsp
  have c28:Tryz.prog.cellsOf 54=3:=cells28
  rw [c28] at hx hi
  have hadd:∀ k,(⟨g,off,none⟩:Addr).add k=⟨g,off+k,none⟩:=fun k=>by unfold Addr.add;split <;> simp_all
  have each:∀ i,i<cap→∃ mv,MvW mv∧W.rangeAt g (off+i*3) (ml mv)∧D i=dM H mv∧Pl i=[]:=by
   intro i hic
   obtain ⟨cs',h1,h2⟩:=hi i hic
   obtain ⟨_,hcl,hat⟩:=World.cells?_some h1
   obtain ⟨mv,hw,rfl,hd⟩:=trod_mv hcl h2
   simp only [Prod.mk.injEq] at hd
   refine ⟨mv,hw,fun j u hu=>?_,hd.1,hd.2⟩
   have hj:j<3:=(List.getElem?_eq_some_iff.1 hu).1
   have h3:=hat j hj
   rw [hadd,show (⟨g,off+i*3,none⟩:Addr).add j=⟨g,off+i*3+j,none⟩ from by unfold Addr.add;split <;> simp_all] at h3
   rw [h3,hu]
  haveI:Inhabited Mv:=⟨⟨0,0,0⟩⟩
  obtain ⟨M,hM⟩:=choose_lt (α:=Mv) (p:=fun i mv=>MvW mv∧W.rangeAt g (off+i*3) (ml mv)∧D i=dM H mv∧Pl i=[]) each
  refine ⟨(List.range len).map M,g,.inr ⟨off,cap,by simp,by simpa using hl,hm,fun j u hu=>?_⟩,fun W' k=>?_⟩
  ·have hjl:=(List.getElem?_eq_some_iff.1 hu).1
   rw [mlL_len,List.length_map,List.length_range] at hjl
   have hq:j / 3<len:=by omega
   have hat:((List.range len).map M)[j / 3]?=some (M (j / 3)):=by simp [hq]
   have h2:=mlL_at _ (j / 3) (j % 3) _ hat (Nat.mod_lt _ (by decide))
   rw [show 3*(j / 3)+j % 3=j by omega,hu] at h2
   have:=(hM (j / 3) (by omega)).2.1 (j % 3) u h2.symm
   rwa [show off+j / 3*3+j % 3=off+j by omega] at this
  ·simp only [Prod.mk.injEq] at hx
   rw [hx.1,hx.2]
   have:=shut_slice_whole (enc:=enc) (P:=Tryz.prog) (w:=W') (base:=0) (spare:=fun b=>decide (b<W.heap.size)) (held:=true) (a:=⟨g,off,none⟩) Tryz.underlying37 (Nat.zero_le _) hl hm (by simpa using hgl) D Pl (fun i hic=>by
    obtain ⟨h1,h2,h3,h4⟩:=hM i hic
    obtain ⟨nn,hnn⟩:=shut_move (enc:=enc) (W:=W') (base:=0) (sp:=fun b=>decide (b<W.heap.size)) (hd:=true) (M i) h1
    refine ⟨ml (M i),nn,?_,by rw [h3,h4];exact hnn⟩
    rw [c28,hadd]
    refine World.cells?_of_each (Nat.zero_le _) rfl (fun j hj=>?_)
    rw [show (⟨g,off+i*3,none⟩:Addr).add j=⟨g,off+i*3+j,none⟩ from by unfold Addr.add;split <;> simp_all]
    obtain ⟨u,hu⟩:∃ u,(ml (M i))[j]?=some u:=⟨_,List.getElem?_eq_getElem (by exact hj)⟩
    rw [hu]
    exact kept_cell k (h2 j u hu))
   rw [c28] at this
   exact this
end
end Go.Proofs.YtijkemnhehbchaaGreatDoor
