/- PoG · PoO · PoH: my texts, in their order. -/
import Derived.Test.YtijkemnhehbchaaGreatDoorPkC
import Derived.Test.YtijkemnhehbchaaGreatDoorPkD
import Derived.Test.YtijkemnhehbchaaGreatDoorPkE
import Derived.Lib.SmallJoins
import Derived.LaidSub
namespace Go.Proofs.YtijkemnhehbchaaGreatDoor
open Go.RowKit
set_option linter.unusedVariables false
set_option linter.unusedSimpArgs false
def Fp:Ps:=⟨Fb,0,15,-1⟩
theorem Fp_brd:Brd Fp.B:=Fb_brd
theorem Fp_len:Fp.B.length=64:=Fb_brd.1
theorem Fp_ok:pwI Fp=0:=by decide +kernel
set_option maxRecDepth 100000 in
theorem pfirst_is (w:World):Calls Tryz.prog 17 #[] w (RetP w Fp):=by
 have HZ:=Qh (PAt.new w Zp_len)
 go_enter Tryz.func17,Tryz.ntmps17
 go_wp2_with (with_reducible refine wpList_new_p rfl rfl ?_)
 refine (first_is _).mono ?_
 rintro e w1 ⟨rfl,k1⟩
 have HZ1:=Qh (HZ.out.kept k1)
 have HK:=Qh (((Kept.refl w).alloc _).trans k1)
 clear k1
 go_wp2_with (first
  | (refine wpList_built_p4 rfl _ _ _ _ rfl Fb 0 15 (-1) Fp_len rfl rfl rfl rfl ?_)
  | (refine wpList_store_ps rfl _ _ rfl w.heap.size Zp Fp HZ1.out Fp_len rfl rfl ?_))
 refine bodyPost_ret (v:=.agg (pl Fp).toArray) ?_ rfl ⟨rfl,?_⟩
 ·exact results_p rfl _ rfl (HZ1.out.setRow Fp_len)
 ·exact HK.out.setRow (Nat.le_refl _) _
end Go.Proofs.YtijkemnhehbchaaGreatDoor
namespace Go.Proofs.YtijkemnhehbchaaGreatDoor
open Go.ChangeShapes Go.WideShapes Go.ChangeAt Go.RowKit
open Go.Joins
set_option linter.unusedVariables false
set_option maxRecDepth 100000
set_option linter.unusedSimpArgs false
section
variable {H:Type} {enc:TypeId × Value→H}
theorem trod_int_mk {W:World} {base:Nat} {sp:Nat→Bool} {hd:Bool} {x:Int} (hw:(Lit.int .i64 x).wf=true):DataW.trod enc Tryz.prog W base sp hd 2 3 [.int .i64 x]=some ((DataW.lit (.int .i64 x),[]):DataW H × List MemPlace):=by
 unfold DataW.trod
 rw [Tryz.underlying3]
 simp only [hw,and_self,if_true]
end
theorem quads_at {H:Type} {enc:TypeId × Value→H} {P:Program} {w:World} {base:Nat} {sp:Nat→Bool} {held:Bool} {fuel:Nat} {t e:TypeId} {n:Nat} {k:IntKind} {f0 f1 f2 f3:Field} {cs:List Value} {D:List (DataW H)} {p:List MemPlace}
  (ht:P.underlying t=some (.array n e)) (he:P.underlying e=some (.struct #[f0,f1,f2,f3])) (o0:f0.offset=0) (o1:f1.offset=1) (o2:f2.offset=2) (o3:f3.offset=3)
  (h0:P.underlying f0.type=some (.int k)) (h1:P.underlying f1.type=some (.int k)) (h2:P.underlying f2.type=some (.int k)) (h3:P.underlying f3.type=some (.int k)) (c0:P.cellsOf f0.type=1) (c1:P.cellsOf f1.type=1) (c2:P.cellsOf f2.type=1) (c3:P.cellsOf f3.type=1) (ce:P.cellsOf e=4)
  (h:DataW.trod enc P w base sp held fuel t cs=some (.agg D,p)) (i:Nat) (hi:i<n) (a b c d:Int) (hD:D[i]?=some (.agg [.lit (.int k a),.lit (.int k b),.lit (.int k c),.lit (.int k d)])) :
  cs[i*4]?=some (.int k a)∧cs[i*4+1]?=some (.int k b)∧cs[i*4+2]?=some (.int k c)∧cs[i*4+3]?=some (.int k d):=by
 cases fuel with
 | zero=>simp [DataW.trod] at h
 | succ fuel =>
  simp only [DataW.trod,ht,ce] at h
  split at h
  ·obtain ⟨xs,hm,hx⟩:=Option.map_eq_some_iff.1 h
   have hxs:xs.map (·.1)=D:=by
    have:=congrArg Prod.fst hx
    simpa using this
   obtain ⟨y,hy,hf⟩:=Lib.mapM_at hm i i (by simp [hi])
   obtain ⟨y0,y1,y2,y3,m,rfl,hl,g0,g1,g2,g3⟩:=trod_struct4 he hf
   obtain ⟨a',e0,rfl,_⟩:=DataW.trod_int h0 g0
   obtain ⟨b',e1,rfl,_⟩:=DataW.trod_int h1 g1
   obtain ⟨c',e2,rfl,_⟩:=DataW.trod_int h2 g2
   obtain ⟨d',e3,rfl,_⟩:=DataW.trod_int h3 g3
   have h2:(xs.map (·.1))[i]?=some (DataW.agg [.lit (.int k a'),.lit (.int k b'),.lit (.int k c'),.lit (.int k d')]:DataW H):=by simp [hy]
   rw [hxs,hD] at h2
   simp at h2
   obtain ⟨rfl,rfl,rfl,rfl⟩:=h2
   have q0:=congrArg (·[0]?) e0
   have q1:=congrArg (·[0]?) e1
   have q2:=congrArg (·[0]?) e2
   have q3:=congrArg (·[0]?) e3
   simp [c0,c1,c2,c3,o0,o1,o2,o3,List.getElem?_drop] at q0 q1 q2 q3
   exact ⟨q0,q1,q2,q3⟩
  ·cases h
theorem gHomes : Tryz.prog.globalNamed "alfil/pos.homes" = some 0 := by kernel_rfl
theorem gHomesType:(Tryz.prog.globals[0]?).map (·.type)=some 90:=by kernel_rfl
theorem cellsHome:Tryz.prog.cellsOf 89=4:=by kernel_rfl
theorem gViews : Tryz.prog.globalNamed "alfil/pos.views" = some 1 := by kernel_rfl
theorem gViewsType:(Tryz.prog.globals[1]?).map (·.type)=some 110:=by kernel_rfl
theorem cellsView:Tryz.prog.cellsOf 109=2:=by kernel_rfl
def homesD:List (DataW Unit):=(List.range 4).map fun i=>.agg [.lit (.int .i64 (hmL.getD (i*4) 0)),.lit (.int .i64 (hmL.getD (i*4+1) 0)),.lit (.int .i64 (hmL.getD (i*4+2) 0)),.lit (.int .i64 (hmL.getD (i*4+3) 0))]
def viewsD:List (DataW Unit):=(List.range 2).map fun i=>.agg [.lit (.int .i64 (vwL.getD (i*2) 0)),.lit (.int .i64 (vwL.getD (i*2+1) 0))]
theorem homes_of {W : World} (h : laidMetH Tryz.prog [("alfil/pos.homes", Rows.laid_alfil_pos_homes)] W) : Homes W := by
 obtain ⟨ps,⟨g',t',cs,fuel,p,q,hg',ht',hvar,hd,_,_⟩,_⟩:=h
 obtain rfl:=Option.some.inj (gHomes.symm.trans hg')
 obtain rfl:=Option.some.inj (gHomesType.symm.trans ht')
 intro j hj
 obtain ⟨i,r,hi,hr,rfl⟩:∃ i r,i<4∧r<4∧j=i*4+r:=⟨j / 4,j % 4,by omega,by omega,by omega⟩
 have hD:homesD[i]?=some (.agg [.lit (.int .i64 (hmL.getD (i*4) 0)),.lit (.int .i64 (hmL.getD (i*4+1) 0)),.lit (.int .i64 (hmL.getD (i*4+2) 0)),.lit (.int .i64 (hmL.getD (i*4+3) 0))]):=by simp [homesD,hi]
 obtain ⟨q1,q2,q3,q4⟩:=quads_at Tryz.underlying90 Tryz.underlying89 rfl rfl rfl rfl Tryz.underlying3 Tryz.underlying3 Tryz.underlying3 Tryz.underlying3 cellsInt cellsInt cellsInt cellsInt cellsHome hd i hi _ _ _ _ hD
 rw [World.var?_cell gHomes hvar (i*4+r)]
 have:r=0∨r=1∨r=2∨r=3:=by omega
 rcases this with rfl|rfl|rfl|rfl
 ·simpa using q1
 ·simpa using q2
 ·simpa using q3
 ·simpa using q4
theorem views_of {W : World} (h : laidMetH Tryz.prog [("alfil/pos.views", Rows.laid_alfil_pos_views)] W) : Views W := by
 obtain ⟨ps,⟨g',t',cs,fuel,p,q,hg',ht',hvar,hd,_,_⟩,_⟩:=h
 obtain rfl:=Option.some.inj (gViews.symm.trans hg')
 obtain rfl:=Option.some.inj (gViewsType.symm.trans ht')
 intro j hj
 obtain ⟨i,r,hi,hr,rfl⟩:∃ i r,i<2∧r<2∧j=i*2+r:=⟨j / 2,j % 2,by omega,by omega,by omega⟩
 have hD:viewsD[i]?=some (.agg [.lit (.int .i64 (vwL.getD (i*2) 0)),.lit (.int .i64 (vwL.getD (i*2+1) 0))]):=by simp [viewsD,hi]
 obtain ⟨q1,q2⟩:=pairs_at Tryz.underlying110 Tryz.underlying109 rfl rfl Tryz.underlying3 Tryz.underlying3 cellsInt cellsInt cellsView hd i hi _ _ hD
 rw [World.var?_cell gViews hvar (i*2+r)]
 have:r=0∨r=1:=by omega
 rcases this with rfl|rfl
 ·simpa using q1
 ·simpa using q2
theorem tabs_of {W : World} (h : laidMetH Tryz.prog [("alfil/ways.steps", Rows.laid_alfil_ways_steps), ("alfil/pos.homes", Rows.laid_alfil_pos_homes), ("alfil/pos.views", Rows.laid_alfil_pos_views)] W) : Tabs W := by
 refine ⟨steps_of ?_,homes_of ?_,views_of ?_⟩
 ·exact h.filter fun x => x.1 == "alfil/ways.steps"
 ·exact h.filter fun x => x.1 == "alfil/pos.homes"
 ·exact h.filter fun x => x.1 == "alfil/pos.views"
end Go.Proofs.YtijkemnhehbchaaGreatDoor
namespace Go.Proofs.YtijkemnhehbchaaGreatDoor
open Go.RowKit
set_option linter.unusedVariables false
set_option maxRecDepth 100000
set_option linter.unusedSimpArgs false
theorem results_pos_tmp {fn:Func} {s t:Tmp} (h:fn.results=#[.cell s 26,.tmp t]) (tmps:Array Value) {w:World} {g:Nat} {p:Ps}
  (hp:tmps.getD s undef=.pointer (some ⟨g,0,none⟩)) (hg:PAt w g p):(results fn tmps).run Tryz.prog w=.ok (.tuple #[.agg (pl p).toArray,tmps.getD t undef]) w:=by
 have hp':tmps[s]?.getD undef=.pointer (some ⟨g,0,none⟩):=by simpa using hp
 have hl:(loadVar 26 ⟨g,0,none⟩).run Tryz.prog w=.ok (.agg (pl p).toArray) w:=run_loadVar_row w g _ _ (pl p).toArray (0,0) _ hg.at_ Tryz.underlying26 rfl (size_pl hg.len)
 simp [results,h,hp',asAddr,hl]
end Go.Proofs.YtijkemnhehbchaaGreatDoor
