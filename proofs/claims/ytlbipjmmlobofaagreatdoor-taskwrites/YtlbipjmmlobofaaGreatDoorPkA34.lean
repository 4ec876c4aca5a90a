/- RbC · PoO · TkO · TkC: my texts, in their order. -/
import Derived.Test.YtlbipjmmlobofaaGreatDoorPkA06
import Derived.Test.YtlbipjmmlobofaaGreatDoorPkA24
import Derived.Test.YtlbipjmmlobofaaGreatDoorPkA26
import Derived.Test.YtlbipjmmlobofaaGreatDoorPkA27
import Derived.Test.YtlbipjmmlobofaaGreatDoorPkA32
import Derived.Test.YtlbipjmmlobofaaGreatDoorPkA33
import Derived.Lib.LaidTab
import Derived.Deep.DeepHandedRow
import Derived.Lib.SmallJoins
import Derived.LaidSub
namespace Go.Proofs.YtlbipjmmlobofaaGreatDoor
open Go.RowKit Go.ChangeShapes
set_option linter.unusedVariables false
theorem pairs_at {H:Type} {enc:TypeId × Value→H} {P:Program} {w:World} {base:Nat} {sp:Nat→Bool} {held:Bool} {fuel:Nat} {t e:TypeId} {n:Nat} {k:IntKind} {f0 f1:Field} {cs:List Value} {D:List (DataW H)} {p:List MemPlace}
  (ht:P.underlying t=some (.array n e)) (he:P.underlying e=some (.struct #[f0,f1])) (o0:f0.offset=0) (o1:f1.offset=1) (h0:P.underlying f0.type=some (.int k)) (h1:P.underlying f1.type=some (.int k)) (c0:P.cellsOf f0.type=1) (c1:P.cellsOf f1.type=1) (ce:P.cellsOf e=2)
  (h:DataW.trod enc P w base sp held fuel t cs=some (.agg D,p)) (i:Nat) (hi:i<n) (a b:Int) (hD:D[i]?=some (.agg [.lit (.int k a),.lit (.int k b)])):cs[i*2]?=some (.int k a)∧cs[i*2+1]?=some (.int k b):=by
 cases fuel with
 | zero=>simp [DataW.trod] at h
 | succ fuel =>
  simp only [DataW.trod,ht,ce] at h
  split at h
  ·obtain ⟨xs,hm,hx⟩:=Option.map_eq_some_iff.1 h
   have hxs:xs.map (·.1)=D:=by
    have:=congrArg Prod.fst hx
    simpa using this
   obtain ⟨y,hy,hf⟩:=Lib.mapM_at hm i i (by simp [hi])
   obtain ⟨y0,y1,m,rfl,hl,g0,g1⟩:=trod_struct2 he hf
   obtain ⟨a',e0,rfl,_⟩:=DataW.trod_int h0 g0
   obtain ⟨b',e1,rfl,_⟩:=DataW.trod_int h1 g1
   have h2:(xs.map (·.1))[i]?=some (DataW.agg [.lit (.int k a'),.lit (.int k b')]:DataW H):=by simp [hy]
   rw [hxs,hD] at h2
   simp at h2
   obtain ⟨rfl,rfl⟩:=h2
   have q0:=congrArg (·[0]?) e0
   have q1:=congrArg (·[0]?) e1
   simp [c0,c1,o0,o1,List.getElem?_drop] at q0 q1
   exact ⟨q0,q1⟩
  ·cases h
theorem gSteps : Tryz.prog.globalNamed "alfil/ways.steps" = some 6 := by kernel_rfl
theorem gStepsType:(Tryz.prog.globals[6]?).map (·.type)=some 204:=by kernel_rfl
theorem cellsStep:Tryz.prog.cellsOf 203=2:=by kernel_rfl
theorem cellsInt:Tryz.prog.cellsOf 3=1:=by kernel_rfl
def stepsD:List (DataW Unit):=(List.range 16).map fun i=>.agg [.lit (.int .i64 (wayF i)),.lit (.int .i64 (wayR i))]
theorem steps_of {W : World} (h : laidMetH Tryz.prog [("alfil/ways.steps", Rows.laid_alfil_ways_steps)] W) : Steps W := by
 obtain ⟨ps,⟨g',t',cs,fuel,p,q,hg',ht',hvar,hd,_,_⟩,_⟩:=h
 obtain rfl:=Option.some.inj (gSteps.symm.trans hg')
 obtain rfl:=Option.some.inj (gStepsType.symm.trans ht')
 intro i hi
 have hD:stepsD[i]?=some (.agg [.lit (.int .i64 (wayF i)),.lit (.int .i64 (wayR i))]):=by simp [stepsD,hi]
 obtain ⟨q1,q2⟩:=pairs_at Tryz.underlying204 Tryz.underlying203 rfl rfl Tryz.underlying3 Tryz.underlying3 cellsInt cellsInt cellsStep hd i hi _ _ hD
 have v1:=World.var?_cell gSteps hvar (i*2)
 have v2:=World.var?_cell gSteps hvar (i*2+1)
 rw [v1,v2]
 exact ⟨by simpa using q1,by simpa using q2⟩
end Go.Proofs.YtlbipjmmlobofaaGreatDoor
namespace Go.Proofs.YtlbipjmmlobofaaGreatDoor
open Go.ChangeShapes Go.WideShapes Go.ChangeAt Go.RowKit
open Go.Joins
set_option linter.unusedVariables false
set_option maxRecDepth 100000
set_option linter.unusedSimpArgs false
section
variable {H:Type} {enc:TypeId × Value→H}
theorem trod_board {W:World} {base:Nat} {sp:Nat→Bool} {hd:Bool} {fuel:Nat} {l:List Value} {x:DataW H × List MemPlace}
  (hf:DataW.trod enc Tryz.prog W base sp hd fuel 24 l=some x):∃ B,Brd B∧l=cl B∧x=(dB H B,[]):=by
 obtain ⟨d,p⟩:=x
 obtain ⟨xs,m,rfl,hx,hl,hn,hi⟩:=DataW.trod_array Tryz.underlying24 hf
 have hl64:l.length=64:=by simpa [Value.cells,cells24] using hl
 have hall:∀ i (hi64:i<64),∃ n,l[i]'(by omega)=.int .i8 n∧xs[i]?=some (.lit (.int .i8 n),[])∧(Lit.int .i8 n).wf=true:=by
  intro i hi64
  have h1:=hi i hi64
  have hlt:i<xs.length:=by omega
  rw [cells22,List.getElem?_eq_getElem hlt] at h1
  have h2:(l.drop (i*1)).take 1=[l[i]'(by omega)]:=chunk (cs:=l) (by omega)
  rw [h2] at h1
  obtain ⟨n,e1,e2,e3⟩:=DataW.trod_int Tryz.underlying22 h1
  exact ⟨n,by simpa using e1,by rw [List.getElem?_eq_getElem hlt,e2],e3⟩
 have hlen:(l.map intOf).length=64:=by simp [hl64]
 have hget:∀ i (hi64:i<64),(Lit.int .i8 ((l.map intOf).getD i 0)).wf=true∧l[i]'(by omega)=.int .i8 ((l.map intOf).getD i 0)∧xs[i]?=some (.lit (.int .i8 ((l.map intOf).getD i 0)),[]):=by
  intro i hi64
  obtain ⟨n,e1,e2,e3⟩:=hall i hi64
  have:(l.map intOf).getD i 0=n:=by
   have:i<l.length:=by omega
   simp [List.getD,List.getElem?_eq_getElem this,e1,intOf]
  rw [this]
  exact ⟨e3,e1,e2⟩
 simp only [Prod.mk.injEq] at hx
 refine ⟨l.map intOf,⟨hlen,fun i hi64=>(wf_i8 _).1 (hget i hi64).1⟩,?_,?_⟩
 ·refine List.ext_getElem (by rw [cl_length,hlen,hl64]) fun i h1 h2=>?_
  have h3:=cl_get (l.map intOf) i (by omega)
  rw [List.getElem?_eq_getElem h2] at h3
  rw [(hget i (by omega)).2.1]
  exact (Option.some.inj h3).symm
 ·have e:xs.map (·.1)=(l.map intOf).map fun x=>DataW.lit (.int .i8 x):=by
   refine List.ext_getElem (by simp [hn,hl64]) fun i h1 h2=>?_
   have h3:=(hget i (by simpa [hn] using h1)).2.2
   have hlt:i<xs.length:=by simpa using h1
   rw [List.getElem?_eq_getElem hlt] at h3
   have h4:=Option.some.inj h3
   have h5:i<(l.map intOf).length:=by omega
   simp only [List.getElem_map,h4]
   simp [List.getD,List.getElem?_eq_getElem (show i<l.length by omega)]
  have e2:xs.flatMap (·.2)=[]:=by
   rw [List.flatMap_eq_nil_iff]
   intro x hxs
   obtain ⟨i,hlt,rfl⟩:=List.getElem_of_mem hxs
   have h3:=(hget i (by omega)).2.2
   rw [List.getElem?_eq_getElem hlt] at h3
   rw [Option.some.inj h3]
  rw [hx.1,hx.2,e,e2];rfl
set_option maxRecDepth 100000 in
theorem trod_board_mk {W:World} {base:Nat} {sp:Nat→Bool} {hd:Bool} (B:List Int) (hB:Brd B):DataW.trod enc Tryz.prog W base sp hd 2 24 (cl B)=some (dB H B,[]):=by
 obtain ⟨n,hn⟩:=shut_board (enc:=enc) (W:=W) (base:=base) (sp:=sp) (hd:=hd) B hB
 have hc:(Value.agg (cl B).toArray).cells.toList=cl B:=rfl
 rw [hc] at hn
 have step:∀ i ∈ List.range 64,DataW.trod enc Tryz.prog W base sp hd 1 22 (((cl B).drop (i*Tryz.prog.cellsOf 22)).take (Tryz.prog.cellsOf 22))=some ((DataW.lit (.int .i8 (B.getD i 0)),[]):DataW H × List MemPlace):=by
  intro i hi
  have hi64:i<64:=by simpa using hi
  have hlt:i<(cl B).length:=by rw [cl_length,hB.1];exact hi64
  rw [cells22,chunk hlt]
  have h3:=cl_get B i (by rw [hB.1];exact hi64)
  rw [List.getElem?_eq_getElem hlt] at h3
  rw [Option.some.inj h3]
  have hw:=(wf_i8 _).2 (hB.2 i hi64)
  unfold DataW.trod
  rw [Tryz.underlying22]
  simp only [hw,and_self,if_true]
 have hm:=mapM_some_of_forall (f:=fun i=>DataW.trod enc Tryz.prog W base sp hd 1 22 (((cl B).drop (i*Tryz.prog.cellsOf 22)).take (Tryz.prog.cellsOf 22))) (List.range 64) step
 unfold DataW.trod
 rw [Tryz.underlying24]
 simp only [cl_length,hB.1,cells24,if_true,hm,Option.map_some,Option.some.injEq,Prod.mk.injEq]
 refine ⟨?_,?_⟩
 ·unfold dB
  congr 1
  refine List.ext_getElem (by simp [hB.1]) fun i h1 h2=>?_
  have h3:i<B.length:=by simpa using h2
  simp [List.getD,List.getElem?_eq_getElem h3]
 ·rw [List.flatMap_eq_nil_iff]
  intro x hx
  simp only [List.mem_map] at hx
  obtain ⟨i,_,rfl⟩:=hx
  rfl
def dP (H:Type) (p:Ps):DataW H:=.agg [dB H p.B,.lit (.int .i64 p.t),.lit (.int .i64 p.c),.lit (.int .i64 p.e)]
structure PsW (p:Ps):Prop where
 brd:Brd p.B
 t:(Lit.int .i64 p.t).wf=true
 c:(Lit.int .i64 p.c).wf=true
 e:(Lit.int .i64 p.e).wf=true
theorem cells26:Tryz.prog.cellsOf 26=67:=by kernel_rfl
theorem trod_int_mk {W:World} {base:Nat} {sp:Nat→Bool} {hd:Bool} {x:Int} (hw:(Lit.int .i64 x).wf=true):DataW.trod enc Tryz.prog W base sp hd 2 3 [.int .i64 x]=some ((DataW.lit (.int .i64 x),[]):DataW H × List MemPlace):=by
 unfold DataW.trod
 rw [Tryz.underlying3]
 simp only [hw,and_self,if_true]
end
theorem quads_at {H:Type} {enc:TypeId × Value→H} {P:Program} {w:World} {base:Nat} {sp:Nat→Bool} {held:Bool} {fuel:Nat} {t e:TypeId} {n:Nat} {k:IntKind} {f0 f1 f2 f3:Field} {cs:List Value} {D:List (DataW H)} {p:List MemPlace}
  (ht:P.underlying t=some (.array n e)) (he:P.underlying e=some (.struct #[f0,f1,f2,f3])) (o0:f0.offset=0) (o1:f1.offset=1) (o2:f2.offset=2) (o3:f3.offset=3)
  (h0:P.underlying f0.type=some (.int k)) (h1:P.underlying f1.type=some (.int k)) (h2:P.underlying f2.type=some (.int k)) (h3:P.underlying f3.type=some (.int k)) (c0:P.cellsOf f0.type=1) (c1:P.cellsOf f1.type=1) (c2:P.cellsOf f2.type=1) (c3:P.cellsOf f3.type=1) (ce:P.cellsOf e=4)
  (h:DataW.trod enc P w base sp held fuel t cs=some (.agg D,p)) (i:Nat) (hi:i<n) (a b c d:Int) (hD:D[i]?=some (.agg [.lit (.int k a),.lit (.int k b),.lit (.int k c),.lit (.int k d)])) :
  cs[i*4]?=some (.int k a)∧cs[i*4+1]?=some (.int k b)∧cs[i*4+2]?=some (.int k c)∧cs[i*4+3]?=some (.int k d):=by
 cases fuel with
 | zero=>simp [DataW.trod] at h
 | succ fuel =>
  simp only [DataW.trod,ht,ce] at h
  split at h
  ·obtain ⟨xs,hm,hx⟩:=Option.map_eq_some_iff.1 h
   have hxs:xs.map (·.1)=D:=by
    have:=congrArg Prod.fst hx
    simpa using this
   obtain ⟨y,hy,hf⟩:=Lib.mapM_at hm i i (by simp [hi])
   obtain ⟨y0,y1,y2,y3,m,rfl,hl,g0,g1,g2,g3⟩:=trod_struct4 he hf
   obtain ⟨a',e0,rfl,_⟩:=DataW.trod_int h0 g0
   obtain ⟨b',e1,rfl,_⟩:=DataW.trod_int h1 g1
   obtain ⟨c',e2,rfl,_⟩:=DataW.trod_int h2 g2
   obtain ⟨d',e3,rfl,_⟩:=DataW.trod_int h3 g3
   have h2:(xs.map (·.1))[i]?=some (DataW.agg [.lit (.int k a'),.lit (.int k b'),.lit (.int k c'),.lit (.int k d')]:DataW H):=by simp [hy]
   rw [hxs,hD] at h2
   simp at h2
   obtain ⟨rfl,rfl,rfl,rfl⟩:=h2
   have q0:=congrArg (·[0]?) e0
   have q1:=congrArg (·[0]?) e1
   have q2:=congrArg (·[0]?) e2
   have q3:=congrArg (·[0]?) e3
   simp [c0,c1,c2,c3,o0,o1,o2,o3,List.getElem?_drop] at q0 q1 q2 q3
   exact ⟨q0,q1,q2,q3⟩
  ·cases h
theorem gHomes : Tryz.prog.globalNamed "alfil/pos.homes" = some 2 := by kernel_rfl
theorem gHomesType:(Tryz.prog.globals[2]?).map (·.type)=some 119:=by kernel_rfl
theorem cellsHome:Tryz.prog.cellsOf 118=4:=by kernel_rfl
theorem gViews : Tryz.prog.globalNamed "alfil/pos.views" = some 3 := by kernel_rfl
theorem gViewsType:(Tryz.prog.globals[3]?).map (·.type)=some 151:=by kernel_rfl
theorem cellsView:Tryz.prog.cellsOf 150=2:=by kernel_rfl
def homesD:List (DataW Unit):=(List.range 4).map fun i=>.agg [.lit (.int .i64 (hmL.getD (i*4) 0)),.lit (.int .i64 (hmL.getD (i*4+1) 0)),.lit (.int .i64 (hmL.getD (i*4+2) 0)),.lit (.int .i64 (hmL.getD (i*4+3) 0))]
def viewsD:List (DataW Unit):=(List.range 2).map fun i=>.agg [.lit (.int .i64 (vwL.getD (i*2) 0)),.lit (.int .i64 (vwL.getD (i*2+1) 0))]
theorem homes_of {W : World} (h : laidMetH Tryz.prog [("alfil/pos.homes", Rows.laid_alfil_pos_homes)] W) : Homes W := by
 obtain ⟨ps,⟨g',t',cs,fuel,p,q,hg',ht',hvar,hd,_,_⟩,_⟩:=h
 obtain rfl:=Option.some.inj (gHomes.symm.trans hg')
 obtain rfl:=Option.some.inj (gHomesType.symm.trans ht')
 intro j hj
 obtain ⟨i,r,hi,hr,rfl⟩:∃ i r,i<4∧r<4∧j=i*4+r:=⟨j / 4,j % 4,by omega,by omega,by omega⟩
 have hD:homesD[i]?=some (.agg [.lit (.int .i64 (hmL.getD (i*4) 0)),.lit (.int .i64 (hmL.getD (i*4+1) 0)),.lit (.int .i64 (hmL.getD (i*4+2) 0)),.lit (.int .i64 (hmL.getD (i*4+3) 0))]):=by simp [homesD,hi]
 obtain ⟨q1,q2,q3,q4⟩:=quads_at Tryz.underlying119 Tryz.underlying118 rfl rfl rfl rfl Tryz.underlying3 Tryz.underlying3 Tryz.underlying3 Tryz.underlying3 cellsInt cellsInt cellsInt cellsInt cellsHome hd i hi _ _ _ _ hD
 rw [World.var?_cell gHomes hvar (i*4+r)]
 have:r=0∨r=1∨r=2∨r=3:=by omega
 rcases this with rfl|rfl|rfl|rfl
 ·simpa using q1
 ·simpa using q2
 ·simpa using q3
 ·simpa using q4
theorem views_of {W : World} (h : laidMetH Tryz.prog [("alfil/pos.views", Rows.laid_alfil_pos_views)] W) : Views W := by
 obtain ⟨ps,⟨g',t',cs,fuel,p,q,hg',ht',hvar,hd,_,_⟩,_⟩:=h
 obtain rfl:=Option.some.inj (gViews.symm.trans hg')
 obtain rfl:=Option.some.inj (gViewsType.symm.trans ht')
 intro j hj
 obtain ⟨i,r,hi,hr,rfl⟩:∃ i r,i<2∧r<2∧j=i*2+r:=⟨j / 2,j % 2,by omega,by omega,by omega⟩
 have hD:viewsD[i]?=some (.agg [.lit (.int .i64 (vwL.getD (i*2) 0)),.lit (.int .i64 (vwL.getD (i*2+1) 0))]):=by simp [viewsD,hi]
 obtain ⟨q1,q2⟩:=pairs_at Tryz.underlying151 Tryz.underlying150 rfl rfl Tryz.underlying3 Tryz.underlying3 cellsInt cellsInt cellsView hd i hi _ _ hD
 rw [World.var?_cell gViews hvar (i*2+r)]
 have:r=0∨r=1:=by omega
 rcases this with rfl|rfl
 ·simpa using q1
 ·simpa using q2
theorem tabs_of {W : World} (h : laidMetH Tryz.prog [("alfil/ways.steps", Rows.laid_alfil_ways_steps), ("alfil/pos.homes", Rows.laid_alfil_pos_homes), ("alfil/pos.views", Rows.laid_alfil_pos_views)] W) : Tabs W := by
 refine ⟨steps_of ?_,homes_of ?_,views_of ?_⟩
 ·exact h.filter fun x => x.1 == "alfil/ways.steps"
 ·exact h.filter fun x => x.1 == "alfil/pos.homes"
 ·exact h.filter fun x => x.1 == "alfil/pos.views"
end Go.Proofs.YtlbipjmmlobofaaGreatDoor
namespace Go.Proofs.YtlbipjmmlobofaaGreatDoor
open Go.ChangeShapes Go.WideShapes Go.ChangeAt Go.RowKit
open Go.Joins Go.Deep
set_option linter.unusedVariables false
set_option linter.unusedSimpArgs false
set_option maxRecDepth 100000
section
variable {H:Type} {enc:TypeId × Value→H}
theorem trod_struct6 {w:World} {base:Nat} {spare:Nat→Bool} {held:Bool} {t:TypeId} {f0 f1 f2 f3 f4 f5:Field} {fuel:Nat} {cs:List Value} {x:DataW H × List MemPlace} (ht:Tryz.prog.underlying t=some (.struct #[f0,f1,f2,f3,f4,f5])) (h:DataW.trod enc Tryz.prog w base spare held fuel t cs=some x) :
  ∃ y0 y1 y2 y3 y4 y5 n,x=(.agg [y0.1,y1.1,y2.1,y3.1,y4.1,y5.1],y0.2++(y1.2++(y2.2++(y3.2++(y4.2++y5.2)))))∧cs.length=Tryz.prog.cellsOf t∧DataW.trod enc Tryz.prog w base spare held n f0.type ((cs.drop f0.offset).take (Tryz.prog.cellsOf f0.type))=some y0∧DataW.trod enc Tryz.prog w base spare held n f1.type ((cs.drop f1.offset).take (Tryz.prog.cellsOf f1.type))=some y1∧DataW.trod enc Tryz.prog w base spare held n f2.type ((cs.drop f2.offset).take (Tryz.prog.cellsOf f2.type))=some y2∧DataW.trod enc Tryz.prog w base spare held n f3.type ((cs.drop f3.offset).take (Tryz.prog.cellsOf f3.type))=some y3∧DataW.trod enc Tryz.prog w base spare held n f4.type ((cs.drop f4.offset).take (Tryz.prog.cellsOf f4.type))=some y4∧DataW.trod enc Tryz.prog w base spare held n f5.type ((cs.drop f5.offset).take (Tryz.prog.cellsOf f5.type))=some y5:=by
 obtain ⟨xs,n,_,rfl,hl,hlen,hf⟩:=DataW.trod_struct ht h
 match xs,hlen with
 | [y0,y1,y2,y3,y4,y5],_=>exact ⟨y0,y1,y2,y3,y4,y5,n,by simp,hl,by simpa using hf 0 f0 rfl,by simpa using hf 1 f1 rfl,by simpa using hf 2 f2 rfl,by simpa using hf 3 f3 rfl,by simpa using hf 4 f4 rfl,by simpa using hf 5 f5 rfl⟩
theorem trod_struct6_mk {w:World} {base:Nat} {spare:Nat→Bool} {held:Bool} {t:TypeId} {f0 f1 f2 f3 f4 f5:Field} {n:Nat} {cs:List Value} {y0 y1 y2 y3 y4 y5:DataW H × List MemPlace} (ht:Tryz.prog.underlying t=some (.struct #[f0,f1,f2,f3,f4,f5])) (hl:cs.length=Tryz.prog.cellsOf t)
  (h0:DataW.trod enc Tryz.prog w base spare held n f0.type ((cs.drop f0.offset).take (Tryz.prog.cellsOf f0.type))=some y0) (h1:DataW.trod enc Tryz.prog w base spare held n f1.type ((cs.drop f1.offset).take (Tryz.prog.cellsOf f1.type))=some y1) (h2:DataW.trod enc Tryz.prog w base spare held n f2.type ((cs.drop f2.offset).take (Tryz.prog.cellsOf f2.type))=some y2) (h3:DataW.trod enc Tryz.prog w base spare held n f3.type ((cs.drop f3.offset).take (Tryz.prog.cellsOf f3.type))=some y3) (h4:DataW.trod enc Tryz.prog w base spare held n f4.type ((cs.drop f4.offset).take (Tryz.prog.cellsOf f4.type))=some y4) (h5:DataW.trod enc Tryz.prog w base spare held n f5.type ((cs.drop f5.offset).take (Tryz.prog.cellsOf f5.type))=some y5) :
  DataW.trod enc Tryz.prog w base spare held (n+1) t cs=some (.agg [y0.1,y1.1,y2.1,y3.1,y4.1,y5.1],y0.2++(y1.2++(y2.2++(y3.2++(y4.2++y5.2))))):=by
 have:=trod_struct_mk (enc:=enc) (w:=w) (base:=base) (spare:=spare) (held:=held) (n:=n) (xs:=[y0,y1,y2,y3,y4,y5]) ht hl (by simp [h0,h1,h2,h3,h4,h5])
 simpa using this
theorem trod_pos {W:World} {base:Nat} {sp:Nat→Bool} {hd:Bool} {fuel:Nat} {l:List Value} {y:DataW H × List MemPlace}
  (hf:DataW.trod enc Tryz.prog W base sp hd fuel 26 l=some y):∃ p,PsW p∧l=pl p∧y=(dP H p,[]):=by
 obtain ⟨y0,y1,y2,y3,n,hx,hlen,h0,h1,h2,h3⟩:=trod_struct4 Tryz.underlying26 hf
 rw [cells24] at h0
 rw [cellsInt] at h1 h2 h3
 have hl:l.length=67:=by rw [hlen,cells26]
 obtain ⟨B,hB,e0,rfl⟩:=trod_board h0
 obtain ⟨t,e1,rfl,wt⟩:=DataW.trod_int Tryz.underlying3 h1
 obtain ⟨c,e2,rfl,wc⟩:=DataW.trod_int Tryz.underlying3 h2
 obtain ⟨e,e3,rfl,we⟩:=DataW.trod_int Tryz.underlying3 h3
 refine ⟨⟨B,t,c,e⟩,⟨hB,wt,wc,we⟩,?_,?_⟩
 ·have:l=cl B++[.int .i64 t,.int .i64 c,.int .i64 e]:=by
   have q1:=congrArg (·[0]?) e1
   have q2:=congrArg (·[0]?) e2
   have q3:=congrArg (·[0]?) e3
   simp [List.getElem?_take,List.getElem?_drop] at q1 q2 q3
   refine List.ext_getElem? fun i=>?_
   have hcl:(cl B).length=64:=by rw [cl_length,hB.1]
   by_cases hi:i<64
   ·rw [List.getElem?_append_left (by omega),← e0]
    simp [List.getElem?_take,hi]
   ·rw [List.getElem?_append_right (by omega),hcl]
    by_cases h64:i=64
    ·subst h64;simpa using q1
    ·by_cases h65:i=65
     ·subst h65;simpa using q2
     ·by_cases h66:i=66
      ·subst h66;simpa using q3
      ·rw [List.getElem?_eq_none (by omega),List.getElem?_eq_none (by simp;omega)]
  rw [this];rfl
 ·rw [hx];rfl
theorem trod_stip {W:World} {base:Nat} {sp:Nat→Bool} {hd:Bool} {fuel:Nat} {l:List Value} {y:DataW H × List MemPlace}
  (hf:DataW.trod enc Tryz.prog W base sp hd fuel 28 l=some y):∃ s,StW s∧l=ql s∧y=(dQ H s,[]):=by
 obtain ⟨y0,y1,y2,y3,n,hx,hlen,h0,h1,h2,h3⟩:=trod_struct4 Tryz.underlying28 hf
 rw [cellsQi] at h0 h1 h2
 rw [cellsQb] at h3
 have hl:l.length=4:=by rw [hlen,cellsQ]
 obtain ⟨k,e0,rfl,w0⟩:=DataW.trod_int Tryz.underlying3 h0
 obtain ⟨g,e1,rfl,w1⟩:=DataW.trod_int Tryz.underlying3 h1
 obtain ⟨m,e2,rfl,w2⟩:=DataW.trod_int Tryz.underlying3 h2
 obtain ⟨b,e3,rfl⟩:=DataW.trod_bool Tryz.underlying4 h3
 refine ⟨⟨k,g,m,b⟩,⟨w0,w1,w2⟩,?_,?_⟩
 ·match l,hl with
  | [a,b',c,d'],_ =>
   have q0:a=.int .i64 k:=by simpa using e0
   have q1:b'=.int .i64 g:=by simpa using e1
   have q2:c=.int .i64 m:=by simpa using e2
   have q3:d'=.bool b:=by simpa using e3
   rw [q0,q1,q2,q3];rfl
 ·rw [hx];rfl
def dK (H:Type) (K:Tk):DataW H:=.agg [dP H (pk K),dQ H K.s,.lit (.bool K.ty),.lit (.bool K.se),.lit (.int .i64 K.mx),.lit (.int .i64 K.re)]
structure TkW (K:Tk):Prop where
 pos:PsW (pk K)
 s:StW K.s
 mx:(Lit.int .i64 K.mx).wf=true
 re:(Lit.int .i64 K.re).wf=true
theorem TkW.brd {K:Tk} (h:TkW K):Brd K.B:=h.pos.brd
theorem cellsK:Tryz.prog.cellsOf 30=75:=by kernel_rfl
theorem kcl_parts (K:Tk):kcl K=pl (pk K)++(ql K.s++([.bool K.ty]++([.bool K.se]++([.int .i64 K.mx]++[.int .i64 K.re])))):=by
 unfold kcl ktl pl tlP pk ql
 rw [List.append_assoc]
 rfl
theorem cut_six (l:List Value) (hl:l.length=75):l=(l.drop 0).take 67++((l.drop 67).take 4++((l.drop 71).take 1++((l.drop 72).take 1++((l.drop 73).take 1++(l.drop 74).take 1)))):=by
 have h (i j:Nat):l.drop i=(l.drop i).take j++l.drop (i+j):=by
  have:=(List.take_append_drop j (l.drop i)).symm
  rwa [List.drop_drop] at this
 have e:(l.drop 74).take 1=l.drop 74:=List.take_of_length_le (by rw [List.length_drop];omega)
 rw [e]
 have h0:=h 0 67
 have h1:=h 67 4
 have h2:=h 71 1
 have h3:=h 72 1
 have h4:=h 73 1
 simp only [Nat.zero_add,Nat.reduceAdd] at h0 h1 h2 h3 h4
 rw [← h4,← h3,← h2,← h1,← h0]
 exact List.drop_zero.symm
theorem open_task {W:World} {base:Nat} {r:Reach} {b0:Nat} {sp:Nat→Bool} {hd:Bool} {v:Value} {d:DataW H} {q:List MemPlace}
  (hv:Value.okWide Tryz.prog W r b0 30 v) (h:DataW.Trod enc Tryz.prog W base sp hd 30 v d q) :
  ∃ K,TkW K∧v=kv K∧d=dK H K∧q=[]:=by
 obtain ⟨cs,rfl,hsz,_⟩:∃ cs,v=.agg cs∧cs.size=Tryz.prog.cellsOf 30∧Row.okWide Tryz.prog W r b0 30 cs:=by
  simpa [Value.okWide,Tryz.underlying30] using hv
 obtain ⟨l⟩:=cs
 have hl:l.length=75:=by simpa [cellsK] using hsz
 obtain ⟨fuel,hf⟩:=h
 obtain ⟨y0,y1,y2,y3,y4,y5,n,hx,hlen,h0,h1,h2,h3,h4,h5⟩:=trod_struct6 Tryz.underlying30 hf
 rw [cells26] at h0
 rw [cellsQ] at h1
 rw [cellsQb] at h2 h3
 rw [cellsQi] at h4 h5
 have hc:(Value.agg ⟨l⟩).cells.toList=l:=rfl
 rw [hc] at h0 h1 h2 h3 h4 h5
 obtain ⟨p,wp,e0,rfl⟩:=trod_pos h0
 obtain ⟨s,ws,e1,rfl⟩:=trod_stip h1
 obtain ⟨ty,e2,rfl⟩:=DataW.trod_bool Tryz.underlying4 h2
 obtain ⟨se,e3,rfl⟩:=DataW.trod_bool Tryz.underlying4 h3
 obtain ⟨mx,e4,rfl,wm⟩:=DataW.trod_int Tryz.underlying3 h4
 obtain ⟨re,e5,rfl,wr⟩:=DataW.trod_int Tryz.underlying3 h5
 refine ⟨⟨p.B,p.t,p.c,p.e,s,ty,se,mx,re⟩,⟨wp,ws,wm,wr⟩,?_,?_,?_⟩
 ·have:l=kcl ⟨p.B,p.t,p.c,p.e,s,ty,se,mx,re⟩:=by
   rw [kcl_parts]
   refine (cut_six l hl).trans ?_
   have e0':(l.drop 0).take 67=pl p:=e0
   have e1':(l.drop 67).take 4=ql s:=e1
   have e2':(l.drop 71).take 1=[.bool ty]:=e2
   have e3':(l.drop 72).take 1=[.bool se]:=e3
   have e4':(l.drop 73).take 1=[.int .i64 mx]:=e4
   have e5':(l.drop 74).take 1=[.int .i64 re]:=e5
   rw [e0',e1',e2',e3',e4',e5']
   rfl
  rw [this];rfl
 ·simp only [Prod.mk.injEq] at hx
  rw [hx.1];rfl
 ·simp only [Prod.mk.injEq] at hx
  rw [hx.2];rfl
theorem trod_int_3 {W:World} {base:Nat} {sp:Nat→Bool} {hd:Bool} {n:Int} (h:(Lit.int .i64 n).wf=true):DataW.trod enc Tryz.prog W base sp hd 3 3 [.int .i64 n]=some ((DataW.lit (.int .i64 n),[]):DataW H × List MemPlace):=by
 unfold DataW.trod
 rw [Tryz.underlying3]
 simp only [h,and_self,if_true]
theorem trod_bool_3 {W:World} {base:Nat} {sp:Nat→Bool} {hd:Bool} {b:Bool}:DataW.trod enc Tryz.prog W base sp hd 3 4 [.bool b]=some ((DataW.lit (.bool b),[]):DataW H × List MemPlace):=by
 unfold DataW.trod
 rw [Tryz.underlying4]
theorem trod_pos_3 {W:World} {base:Nat} {sp:Nat→Bool} {hd:Bool} (p:Ps) (h:PsW p):DataW.trod enc Tryz.prog W base sp hd 3 26 (pl p)=some (dP H p,[]):=by
 have hcl:(cl p.B).length=64:=by rw [cl_length,h.brd.1]
 have g1:((pl p).drop 64).take 1=[.int .i64 p.t]:=by unfold pl tlP;rw [List.drop_append,hcl,List.drop_eq_nil_of_le (by omega)];rfl
 have g2:((pl p).drop 65).take 1=[.int .i64 p.c]:=by unfold pl tlP;rw [List.drop_append,hcl,List.drop_eq_nil_of_le (by omega)];rfl
 have g3:((pl p).drop 66).take 1=[.int .i64 p.e]:=by unfold pl tlP;rw [List.drop_append,hcl,List.drop_eq_nil_of_le (by omega)];rfl
 have g0:((pl p).drop 0).take 64=cl p.B:=by unfold pl;rw [List.drop_zero,List.take_append,hcl,List.take_of_length_le (by omega)];simp
 have:=trod_struct4_mk (enc:=enc) (w:=W) (base:=base) (spare:=sp) (held:=hd) (n:=2) (cs:=pl p) (y0:=(dB H p.B,[])) (y1:=(.lit (.int .i64 p.t),[])) (y2:=(.lit (.int .i64 p.c),[])) (y3:=(.lit (.int .i64 p.e),[]))
  Tryz.underlying26 (by rw [pl_length h.brd.1,cells26]) (by rw [cells24];show DataW.trod enc Tryz.prog W base sp hd 2 24 (((pl p).drop 0).take 64)=_;rw [g0];exact trod_board_mk p.B h.brd)
  (by rw [cellsInt];show DataW.trod enc Tryz.prog W base sp hd 2 3 (((pl p).drop 64).take 1)=_;rw [g1];exact trod_int_mk h.t) (by rw [cellsInt];show DataW.trod enc Tryz.prog W base sp hd 2 3 (((pl p).drop 65).take 1)=_;rw [g2];exact trod_int_mk h.c) (by rw [cellsInt];show DataW.trod enc Tryz.prog W base sp hd 2 3 (((pl p).drop 66).take 1)=_;rw [g3];exact trod_int_mk h.e)
 exact this
theorem trod_stip_3 {W:World} {base:Nat} {sp:Nat→Bool} {hd:Bool} (s:Stp) (h:StW s):DataW.trod enc Tryz.prog W base sp hd 3 28 (ql s)=some (dQ H s,[]):=by
 have:=trod_struct4_mk (enc:=enc) (w:=W) (base:=base) (spare:=sp) (held:=hd) (n:=2) (cs:=ql s) (y0:=(.lit (.int .i64 s.k),[])) (y1:=(.lit (.int .i64 s.g),[])) (y2:=(.lit (.int .i64 s.n),[])) (y3:=(.lit (.bool s.h),[]))
  Tryz.underlying28 (by rw [cellsQ];rfl) (by rw [cellsQi];exact trod_int_q h.k) (by rw [cellsQi];exact trod_int_q h.g) (by rw [cellsQi];exact trod_int_q h.n) (by rw [cellsQb];exact trod_bool_q)
 exact this
theorem shut_task {W:World} {base:Nat} {sp:Nat→Bool} {hd:Bool} (K:Tk) (h:TkW K):DataW.Trod enc Tryz.prog W base sp hd 30 (kv K) (dK H K) []:=by
 refine ⟨4,?_⟩
 have hc:(kv K).cells.toList=kcl K:=rfl
 rw [hc]
 have hcl:(cl K.B).length=64:=by rw [cl_length,h.brd.1]
 have hl:=kcl_len h.brd.1
 have hp:(pl (pk K)).length=67:=pl_length h.brd.1
 have hq:(ql K.s).length=4:=rfl
 have g0:((kcl K).drop 0).take 67=pl (pk K):=by rw [kcl_parts,List.drop_zero,← hp,List.take_left]
 have g1:((kcl K).drop 67).take 4=ql K.s:=by rw [kcl_parts,← hp,List.drop_left];rfl
 have g2:((kcl K).drop 71).take 1=[.bool K.ty]:=by rw [kcl_parts,show 71=(pl (pk K)).length+4 by omega,← List.drop_drop,List.drop_left];rfl
 have g3:((kcl K).drop 72).take 1=[.bool K.se]:=by rw [kcl_parts,show 72=(pl (pk K)).length+5 by omega,← List.drop_drop,List.drop_left];rfl
 have g4:((kcl K).drop 73).take 1=[.int .i64 K.mx]:=by rw [kcl_parts,show 73=(pl (pk K)).length+6 by omega,← List.drop_drop,List.drop_left];rfl
 have g5:((kcl K).drop 74).take 1=[.int .i64 K.re]:=by rw [kcl_parts,show 74=(pl (pk K)).length+7 by omega,← List.drop_drop,List.drop_left];rfl
 have:=trod_struct6_mk (enc:=enc) (w:=W) (base:=base) (spare:=sp) (held:=hd) (n:=3) (cs:=kcl K) (y0:=(dP H (pk K),[])) (y1:=(dQ H K.s,[])) (y2:=(.lit (.bool K.ty),[])) (y3:=(.lit (.bool K.se),[])) (y4:=(.lit (.int .i64 K.mx),[])) (y5:=(.lit (.int .i64 K.re),[]))
  Tryz.underlying30 (by rw [hl,cellsK])
  (by rw [cells26];show DataW.trod enc Tryz.prog W base sp hd 3 26 (((kcl K).drop 0).take 67)=_;rw [g0];exact trod_pos_3 _ h.pos)
  (by rw [cellsQ];show DataW.trod enc Tryz.prog W base sp hd 3 28 (((kcl K).drop 67).take 4)=_;rw [g1];exact trod_stip_3 _ h.s)
  (by rw [cellsQb];show DataW.trod enc Tryz.prog W base sp hd 3 4 (((kcl K).drop 71).take 1)=_;rw [g2];exact trod_bool_3)
  (by rw [cellsQb];show DataW.trod enc Tryz.prog W base sp hd 3 4 (((kcl K).drop 72).take 1)=_;rw [g3];exact trod_bool_3)
  (by rw [cellsQi];show DataW.trod enc Tryz.prog W base sp hd 3 3 (((kcl K).drop 73).take 1)=_;rw [g4];exact trod_int_3 h.mx)
  (by rw [cellsQi];show DataW.trod enc Tryz.prog W base sp hd 3 3 (((kcl K).drop 74).take 1)=_;rw [g5];exact trod_int_3 h.re)
 exact this
end
end Go.Proofs.YtlbipjmmlobofaaGreatDoor
namespace Go.Proofs.YtlbipjmmlobofaaGreatDoor
open Go.ChangeShapes Go.WideShapes Go.ChangeAt Go.RowKit
open Go.Joins Go.Deep
set_option maxRecDepth 100000
theorem tabsP_of {W : World} {a b c f : DataW Unit} (h : laidMetH Tryz.prog [("math/bits.deBruijn32tab", a), ("math/bits.deBruijn64tab", b), ("internal/strconv.uint64pow10", Rows.laid_internal_strconv_uint64pow10), ("unicode/utf8.acceptRanges", c), ("alfil/ways.steps", Rows.laid_alfil_ways_steps), ("alfil/pos.homes", Rows.laid_alfil_pos_homes), ("alfil/pos.views", Rows.laid_alfil_pos_views), ("alfil/stip.kinds", Rows.laid_alfil_stip_kinds), ("alfil/stip.goals", Rows.laid_alfil_stip_goals), ("unicode/utf8.first", f)] W) : tabsW W ∧ Tabs W :=
 ⟨⟨tabS_of (h.filter fun x => x.1 == "alfil/stip.kinds" || x.1 == "alfil/stip.goals"), powT_of (h.filter fun x => x.1 == "internal/strconv.uint64pow10")⟩,
  tabs_of (h.filter fun x => x.1 == "alfil/ways.steps" || x.1 == "alfil/pos.homes" || x.1 == "alfil/pos.views")⟩
end Go.Proofs.YtlbipjmmlobofaaGreatDoor
