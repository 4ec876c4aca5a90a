/- RaU · RaW · RaX: my texts, in their order. -/
import Derived.Test.YtlbipjmmlobofaaGreatDoorPkA29
import Derived.Deep.WholeRow
namespace Go.Proofs.YtlbipjmmlobofaaGreatDoor
open Go.RowKit
set_option linter.unusedVariables false
set_option linter.unusedSimpArgs false
def tz:Array Value:=((List.range 1024).map fun _=>Value.slice none 0 0).toArray
structure RowsAt (e:TypeId) (w:World) (base:Nat) (v:Value) (L:List (List Int)) (vs:List Value) (gs:List Nat):Prop where
 own:w.ownsRow base e 1 v L.length vs
 ngs:gs.length=L.length
 each:∀ (i:Nat) (u:Value) (g:Nat) (l:List Int),vs[i]?=some u→gs[i]?=some g→L[i]?=some l→OwnZ w base u l∧u.ownBlock=some g
 apart:gs.Pairwise (· < ·)
 old:∀ g ∈ gs,g<w.heap.size
def RowsZ (e:TypeId) (w:World) (base:Nat) (v:Value) (L:List (List Int)):Prop:=∃ vs gs,RowsAt e w base v L vs gs
theorem RowsAt.len {e:TypeId} {w:World} {base:Nat} {v:Value} {L:List (List Int)} {vs:List Value} {gs:List Nat} (h:RowsAt e w base v L vs gs):vs.length=L.length:=by
 have:=h.own.1;omega
theorem RowsZ.nil (e:TypeId) (w:World) (base:Nat):RowsZ e w base (.slice none 0 0) [] :=
 ⟨[],[],World.ownsRow_nil _ _ _ _,rfl,fun i u g l h=>by simp at h,List.Pairwise.nil,fun g h=>by cases h⟩
theorem RowsAt.kept {e:TypeId} {w w':World} {base:Nat} {v:Value} {L:List (List Int)} {vs:List Value} {gs:List Nat} (h:RowsAt e w base v L vs gs) (k:Kept w w'):RowsAt e w' base v L vs gs:=by
 refine ⟨?_,h.ngs,fun i u g l h1 h2 h3=>?_,h.apart,fun g hg=>Nat.lt_of_lt_of_le (h.old g hg) k.size⟩
 ·obtain ⟨h1,h2⟩:=h.own
  refine ⟨h1,?_⟩
  rcases h2 with h2|⟨b,cap,cur,e1,e2,e3,e4⟩
  ·exact .inl h2
  ·exact .inr ⟨b,cap,cur,e1,e2,k.heap e3,e4⟩
 ·obtain ⟨a,b⟩:=h.each i u g l h1 h2 h3
  exact ⟨a.kept k,b⟩
theorem RowsZ.kept {e:TypeId} {w w':World} {base:Nat} {v:Value} {L:List (List Int)} (h:RowsZ e w base v L) (k:Kept w w'):RowsZ e w' base v L:=by
 obtain ⟨vs,gs,h⟩:=h
 exact ⟨vs,gs,h.kept k⟩
theorem RowsZ.slice {e:TypeId} {w:World} {base:Nat} {v:Value} {L:List (List Int)} (h:RowsZ e w base v L):∃ a cap,v=.slice a L.length cap:=by
 obtain ⟨vs,gs,h⟩:=h
 rcases h.own.2 with ⟨e,h0⟩|⟨g,cap,cur,e,_⟩
 ·exact ⟨none,0,by rw [e,h0]⟩
 ·exact ⟨_,_,e⟩
theorem RowsZ.low {e:TypeId} {w:World} {base b:Nat} {v:Value} {L:List (List Int)} (h:RowsZ e w base v L) (hb:b≤base):RowsZ e w b v L:=by
 obtain ⟨vs,gs,h⟩:=h
 refine ⟨vs,gs,?_,h.ngs,fun i u g l h1 h2 h3=>?_,h.apart,h.old⟩
 ·obtain ⟨h1,h2⟩:=h.own
  refine ⟨h1,?_⟩
  rcases h2 with h2|⟨g,cap,cur,e1,e2,e3⟩
  ·exact .inl h2
  ·exact .inr ⟨g,cap,cur,e1,by omega,e3⟩
 ·obtain ⟨a,b⟩:=h.each i u g l h1 h2 h3
  exact ⟨a.low hb,b⟩
theorem OwnZ.blk {w:World} {base:Nat} {v:Value} {l:List Int} (h:OwnZ w base v l) (hl:0<l.length) :
  ∃ g cap cur,v=.slice (some ⟨g,0,none⟩) l.length cap∧base≤g∧w.heap[g]?=some (.cells cur 3 (0,0))∧l.length≤cap∧cap≤maxLen∧cur.size=cap*1∧cur.toList.take (l.length*1)=zl l:=by
 rcases h.2 with ⟨e,h0⟩|h
 ·omega
 ·exact h
theorem OwnZ.take {w:World} {base:Nat} {a:Option Addr} {n cap:Nat} {l:List Int} (h:OwnZ w base (.slice a n cap) l) (k:Nat) (hk:k≤l.length):OwnZ w base (.slice a k cap) (l.take k):=by
 have hlen:(l.take k).length=k:=by rw [List.length_take];omega
 refine ⟨by simp [zl],?_⟩
 rcases h.2 with ⟨e,h0⟩|⟨g,cap',cur,e,hb,hh,hnc,hcm,hcs,ht⟩
 ·injection e with e1 e2 e3
  exact .inl ⟨by rw [e1,e3,show k=0 by omega],by omega⟩
 ·injection e with e1 e2 e3
  subst e1 e3
  refine .inr ⟨g,cap,cur,by rw [hlen],hb,hh,by omega,hcm,hcs,?_⟩
  rw [hlen]
  have:cur.toList.take (k*1)=(cur.toList.take (l.length*1)).take k:=by rw [List.take_take];congr 1;omega
  rw [this,ht]
  simp [zl]
theorem RowsAt.append {t e:TypeId} {i0:TypeInfo} {z:Value} (ht:Tryz.prog.underlying t=some (.slice e)) (hi:Tryz.prog.info? e=some i0) (hz:i0.zero=some z) (h1:i0.size=1) (h24:i0.bytes=24) (hzs:z.cells.size=1) (hne:e≠3)
  {ops:Array Oper} {rest:List Oper} {o:Oper} {a:Act} {w1 w2:World} {Q:Exit→Act→World→Prop} (hgd:o.guard=none) (s x:Operand)
  (ho:o.op=.call { callee:=.builtin .append,args:=#[s,x],argTypes:=#[t,t] }) (base:Nat) (v u:Value) (L:List (List Int)) (l:List Int) (hs:a.eval s=v) (hx:a.eval x=.slice (some ⟨w2.heap.size,0,none⟩) 1 1)
  (hR:RowsZ e w1 base v L) (k:Kept w1 w2) (hu:OwnZ w2 w1.heap.size u l) (hl:0<l.length) (hb:base≤w1.heap.size) (hlen:L.length≤1000)
  (h:∀ v' w',RowsZ e w' base v' (L++[l])→(∀ A,Kept A w2→A.heap.size≤base→Kept A w')→wpList Tryz.prog ops Q rest (a.put o.dst v') w') :
  wpList Tryz.prog ops Q (o::rest) a (w2.alloc (.cells #[u] e)):=by
 obtain ⟨vs,gs,hR⟩:=hR
 obtain ⟨gu,cu,curu,eu,bu,hhu,_⟩:=hu.blk hl
 have h2:=hR.kept k
 have h3:=h2.kept ((Kept.refl w2).alloc (.cells #[u] e))
 refine wpList_append_own _ hgd s x t ho base e i0 z 1 24 ht hi hz h1 h24 hzs (by decide) v _ _ hs h3.own ⟨w2.heap.size,0,none⟩ 1 1 [u] hx rfl ?_ ?_ ?_ ?_ ?_ ?_
 ·intro j y hy
  match j,hy with
  | 0,hy =>
   simp at hy;subst hy
   rw [show (⟨w2.heap.size,0,none⟩:Addr).add 0=⟨w2.heap.size,0,none⟩ by unfold Addr.add;split <;> simp_all]
   rw [cell_of_row _ _ 0 _ _ (0,0) (heap_alloc_new w2 _)]
   rfl
 ·intro y hy
  simp at hy;subst hy
  rw [eu];rfl
 ·unfold maxLen;omega
 ·omega
 ·simp;have:=k.size;omega
 ·intro v' w' ho' hg _
  
  have hblk:∀ (g:Nat) (c:Array Value),w2.heap[g]?=some (.cells c 3 (0,0))→w'.heap[g]?=w2.heap[g]?:=by
   intro g c hc
   have hlt:=lt_of_heap hc
   rw [hg.block g (by simp;omega) ?_,Below.heap_alloc _ _ _ hlt]
   intro hv
   rcases h2.own.2 with ⟨ev,_⟩|⟨b,cap,cur,ev,_,e3,_⟩
   ·rw [ev] at hv;simp [Value.ownBlock] at hv
   ·rw [ev] at hv
    simp [Value.ownBlock] at hv
    subst hv
    rw [hc] at e3
    simp at e3
    exact hne e3.2.symm
  have hsz:w2.heap.size≤w'.heap.size:=by have:=hg.size;simp at this;omega
  refine h v' w' ⟨vs++[u],gs++[gu],by simpa using ho',by simp [hR.ngs],?_,?_,?_⟩ ?_
  ·intro i y g m hy hgi hm
   by_cases hi:i<L.length
   ·have hnv:=hR.len
    have hng:=hR.ngs
    rw [List.getElem?_append_left (by omega)] at hy hgi hm
    obtain ⟨q1,q2⟩:=h2.each i y g m hy hgi hm
    refine ⟨?_,q2⟩
    obtain ⟨r1,r2⟩:=q1
    refine ⟨r1,?_⟩
    rcases r2 with r2|⟨b,cap,cur,e1,e2,e3,e4⟩
    ·exact .inl r2
    ·exact .inr ⟨b,cap,cur,e1,e2,(hblk b cur e3).trans e3,e4⟩
   ·have hil:i=L.length:=by
     obtain ⟨hi',_⟩:=List.getElem?_eq_some_iff.1 hm
     simp at hi';omega
    have hnv:=hR.len
    have hng:=hR.ngs
    subst hil
    rw [List.getElem?_append_right (by omega)] at hy hgi hm
    simp [hnv,hng] at hy hgi hm
    subst hy hgi hm
    refine ⟨?_,by rw [eu];rfl⟩
    obtain ⟨r1,r2⟩:=hu.low hb
    refine ⟨r1,?_⟩
    rcases r2 with r2|⟨b,cap,cur,e1,e2,e3,e4⟩
    ·exact .inl r2
    ·exact .inr ⟨b,cap,cur,e1,e2,(hblk b cur e3).trans e3,e4⟩
  ·rw [List.pairwise_append]
   refine ⟨hR.apart,List.pairwise_singleton _ _,fun g hg' b hb'=>?_⟩
   simp at hb'
   subst hb'
   have:=hR.old g hg'
   omega
  ·intro g hg'
   rcases List.mem_append.1 hg' with hg'|hg'
   ·have:=hR.old g hg';have:=k.size;omega
   ·simp at hg';subst hg'
    have:=lt_of_heap hhu;omega
  ·intro A hA hAb
   refine (hA.alloc (.cells #[u] e)).grownBy hg (fun b hbv=>?_)
   have:=(World.ownsRow.lt h3.own b hbv).1
   omega
theorem infoRow:(Tryz.prog.info? 71).map (fun i=>(i.zero,i.size,i.bytes))=some (some (.slice none 0 0),1,24):=by kernel_rfl
def NewR (e:TypeId) (w:World) (L:List (List Int)) (E:Ending) (w':World):Prop:=∃ v,E=.returned v∧RowsZ e w' w.heap.size v L∧Kept w w'
theorem run_head (gA off N cap m:Nat) (h:m≤cap) (w:World) :
  (Instr.sliceAt 71 (.slice (some ⟨gA,off,none⟩) N cap) none (some (.int .i64 (m:Int))) none).run Tryz.prog w=.ok (.slice (some ⟨gA,off,none⟩) m cap) w:=by
 obtain ⟨i0,hi0,hz0,hz1,hz2⟩:=partsZ infoZ
 have ht:=Tryz.underlying71
 have he:Tryz.prog.elem 71=3:=by kernel_rfl
 rw [run_sliceAt_slice w _ _ _ _ _ (by rw [he];exact ht),run_slice_h w _ _ _ _ (by rw [he];exact ht) _ _ (by omega) (by omega),he]
 simp [sizeOf,typeInfo,hi0,hz1,sliced,Addr.add]
def stZ (m:Int):List Int:=(stepsL m).flatMap fun p=>[p.1,p.2]
theorem flat_len:∀ P:List (Int × Int),(P.flatMap fun p=>[p.1,p.2]).length=2*P.length
 | []=>rfl
 | p::P=>by rw [List.flatMap_cons,List.length_append,flat_len P,List.length_cons];simp;omega
theorem flat_at:∀ (P:List (Int × Int)) (j:Nat) (p:Int × Int),P[j]?=some p→(P.flatMap fun p=>[p.1,p.2])[2*j]?=some p.1∧(P.flatMap fun p=>[p.1,p.2])[2*j+1]?=some p.2
 | [],j,p,h=>by simp at h
 | q::P,0,p,h=>by simp at h;subst h;simp
 | q::P,j+1,p,h=>by
  rw [List.getElem?_cons_succ] at h
  have:=flat_at P j p h
  rw [List.flatMap_cons]
  rw [show 2*(j+1)=2*j+2 by omega,show 2*j+2+1=(2*j+1)+2 by omega]
  simpa using this
theorem stZ_len (m:Int):(stZ m).length=2*(stepsL m).length:=flat_len _
theorem stepsL_len (m:Int):(stepsL m).length≤8:=by
 unfold stepsL
 repeat' split
 all_goals simp
def straightZ:List Int:=[0,1,1,0,0,-1,-1,0]
def slantZ:List Int:=[1,1,1,-1,-1,-1,-1,1]
set_option maxHeartbeats 1000000 in
theorem rsteps_is (m:Int) (w:World):Calls Tryz.prog 160 #[.int .i64 m] w (NewZ w (stZ m)):=by
 have hk:=Qh (rknd_any m)
 have hq:=knd_is m
 have hp:=@knd_pawn m
 have e:stZ m=(if knd m=1 then [1,m,-1,m] else if knd m=2 then [1,2,2,1,2,-1,1,-2,-1,-2,-2,-1,-2,1,-1,2] else if knd m=3 then slantZ else if knd m=4 then straightZ else if knd m=0 then [] else straightZ++slantZ):=by
  unfold stZ stepsL
  repeat' split
  all_goals first|rfl|simp_all
 generalize stZ m=Z at *
 generalize knd m=q at *
 have H1:=Qh (LsZ.lit w straightZ (by decide))
 have H2:=Qh (LsZ.lit (w.alloc (.cells (zl straightZ).toArray 3)) slantZ (by decide))
 obtain ⟨W,eW⟩:∃ W,W=(w.alloc (.cells (zl straightZ).toArray 3)).alloc (.cells (zl slantZ).toArray 3):=⟨_,rfl⟩
 have HW:Hid (W=(w.alloc (.cells #[.int .i64 0,.int .i64 1,.int .i64 1,.int .i64 0,.int .i64 0,.int .i64 (-1),.int .i64 (-1),.int .i64 0] 3)).alloc (.cells #[.int .i64 1,.int .i64 1,.int .i64 1,.int .i64 (-1),.int .i64 (-1),.int .i64 (-1),.int .i64 (-1),.int .i64 1] 3)):=Qh eW
 have HK:=Qh (show Kept w W by rw [eW];exact ((Kept.refl w).alloc _).alloc _)
 have HA:=Qh (show LsZ W w.heap.size (.slice (some ⟨w.heap.size,0,none⟩) 8 8) straightZ by rw [eW];exact H1.out.kept ((Kept.refl _).alloc _))
 have HB:=Qh (show LsZ W (w.heap.size+1) (.slice (some ⟨w.heap.size+1,0,none⟩) 8 8) slantZ by rw [eW];have:=H2.out;simpa [slantZ] using this)
 clear eW H1 H2
 rcases hq with rfl|rfl|rfl|rfl|rfl|rfl|rfl
 ·have HE:=Qh (show Z=[] from e)
  clear e hp
  go_enter Tryz.func160,Tryz.ntmps160
  go_wp2_with fail
  refine (hk.out _).mono ?_
  rintro e w' ⟨rfl,rfl⟩
  rw [← HW.out]
  go_wp2
  go_ret
  exact ⟨_,rfl,by rw [HE.out];exact OwnZ.nil _ _,HK.out⟩
 ·have hk1:(.cells #[.int .i64 1,.int .i64 m,.int .i64 (-1),.int .i64 m] 3:Obj)=.cells (zl [1,m,-1,m]).toArray 3:=rfl
  have KK1:=(Kept.refl W).alloc (.cells (zl [1,m,-1,m]).toArray 3)
  clear hk1
  have HE:=Qh (show Z=[1,m,-1,m] from e)
  clear e hp
  go_enter Tryz.func160,Tryz.ntmps160
  go_wp2_with fail
  refine (hk.out _).mono ?_
  rintro e w' ⟨rfl,rfl⟩
  rw [← HW.out]
  go_wp2_with (at_builtin;refine wpList_append_z rfl _ _ rfl w.heap.size W.heap.size _ _ [] [1,m,-1,m] rfl rfl (OwnZ.nil _ _) (LsZ.lit _ [1,m,-1,m] (by simp)) ?c1 ?d1 ?_)
  case c1=>simp
  case d1=>(try simp);have:=HK.out.size;omega
  intro v1 w1 hown1 hg1
  have K1:=(OwnZ.nil _ W.heap.size).grown (a:=W) KK1 (Nat.le_refl _) hg1
  replace hown1:OwnZ w1 w.heap.size v1 [1,m,-1,m]:=hown1
  obtain ⟨a1,cap1,rfl⟩:=hown1.slice
  have HO1:=Qh hown1
  have HK1:=Qh K1
  clear hown1 hg1 K1
  go_wp2
  go_ret
  exact ⟨_,rfl,by rw [HE.out];exact HO1.out,HK.out.trans HK1.out⟩
 ·have KK1:=(Kept.refl W).alloc (.cells (zl [1,2,2,1,2,-1,1,-2]).toArray 3)
  have HE:=Qh (show Z=[1,2,2,1,2,-1,1,-2,-1,-2,-2,-1,-2,1,-1,2] from e)
  clear e hp
  go_enter Tryz.func160,Tryz.ntmps160
  go_wp2_with fail
  refine (hk.out _).mono ?_
  rintro e w' ⟨rfl,rfl⟩
  rw [← HW.out]
  go_wp2_with (at_builtin;refine wpList_append_z rfl _ _ rfl w.heap.size W.heap.size _ _ [] [1,2,2,1,2,-1,1,-2] rfl rfl (OwnZ.nil _ _) (LsZ.lit _ [1,2,2,1,2,-1,1,-2] (by simp)) ?c1 ?d1 ?_)
  case c1=>decide
  case d1=>(try simp);have:=HK.out.size;omega
  intro v1 w1 hown1 hg1
  have K1:=(OwnZ.nil _ W.heap.size).grown (a:=W) KK1 (Nat.le_refl _) hg1
  replace hown1:OwnZ w1 w.heap.size v1 [1,2,2,1,2,-1,1,-2]:=hown1
  obtain ⟨a1,cap1,rfl⟩:=hown1.slice
  have HO1:=Qh hown1
  have HK1:=Qh K1
  clear hown1 hg1 K1
  have HA1:=Qh (HO1.out.kept ((Kept.refl _).alloc (.cells (zl [-1,-2,-2,-1,-2,1,-1,2]).toArray 3)))
  have KK2:=HK1.out.alloc (.cells (zl [-1,-2,-2,-1,-2,1,-1,2]).toArray 3)
  go_wp2_with (at_builtin;refine wpList_append_z rfl _ _ rfl w.heap.size w1.heap.size _ _ [1,2,2,1,2,-1,1,-2] [-1,-2,-2,-1,-2,1,-1,2] rfl rfl HA1.out (LsZ.lit _ [-1,-2,-2,-1,-2,1,-1,2] (by simp)) ?c2 ?d2 ?_)
  case c2=>decide
  case d2=>(try simp);have:=HK.out.size;have:=HK1.out.size;omega
  intro v2 w2 hown2 hg2
  have K2:=HA1.out.grown (a:=w) (HK.out.trans KK2) (Nat.le_refl _) hg2
  obtain ⟨a2,cap2,rfl⟩:=hown2.slice
  have HO2:=Qh hown2
  have HK2:=Qh K2
  clear hown2 hg2 K2
  go_wp2
  go_ret
  exact ⟨_,rfl,by rw [HE.out];exact HO2.out,HK2.out⟩
 ·have KK1:=Kept.refl W
  have HE:=Qh (show Z=slantZ from e)
  clear e hp
  go_enter Tryz.func160,Tryz.ntmps160
  go_wp2_with fail
  refine (hk.out _).mono ?_
  rintro e w' ⟨rfl,rfl⟩
  rw [← HW.out]
  go_wp2_with (at_builtin;refine wpList_append_z rfl _ _ rfl w.heap.size (w.heap.size+1) _ _ [] slantZ rfl rfl (OwnZ.nil _ _) HB.out ?c1 ?d1 ?_)
  case c1=>decide
  case d1=>(try simp);have:=HK.out.size;omega
  intro v1 w1 hown1 hg1
  have K1:=(OwnZ.nil _ W.heap.size).grown (a:=W) KK1 (Nat.le_refl _) hg1
  replace hown1:OwnZ w1 w.heap.size v1 slantZ:=hown1
  obtain ⟨a1,cap1,rfl⟩:=hown1.slice
  have HO1:=Qh hown1
  have HK1:=Qh K1
  clear hown1 hg1 K1
  go_wp2
  go_ret
  exact ⟨_,rfl,by rw [HE.out];exact HO1.out,HK.out.trans HK1.out⟩
 ·have KK1:=Kept.refl W
  have HE:=Qh (show Z=straightZ from e)
  clear e hp
  go_enter Tryz.func160,Tryz.ntmps160
  go_wp2_with fail
  refine (hk.out _).mono ?_
  rintro e w' ⟨rfl,rfl⟩
  rw [← HW.out]
  go_wp2_with (at_builtin;refine wpList_append_z rfl _ _ rfl w.heap.size w.heap.size _ _ [] straightZ rfl rfl (OwnZ.nil _ _) HA.out ?c1 ?d1 ?_)
  case c1=>decide
  case d1=>(try simp);have:=HK.out.size;omega
  intro v1 w1 hown1 hg1
  have K1:=(OwnZ.nil _ W.heap.size).grown (a:=W) KK1 (Nat.le_refl _) hg1
  replace hown1:OwnZ w1 w.heap.size v1 straightZ:=hown1
  obtain ⟨a1,cap1,rfl⟩:=hown1.slice
  have HO1:=Qh hown1
  have HK1:=Qh K1
  clear hown1 hg1 K1
  go_wp2
  go_ret
  exact ⟨_,rfl,by rw [HE.out];exact HO1.out,HK.out.trans HK1.out⟩
 ·have KK1:=Kept.refl W
  have HE:=Qh (show Z=straightZ++slantZ from e)
  clear e hp
  go_enter Tryz.func160,Tryz.ntmps160
  go_wp2_with fail
  refine (hk.out _).mono ?_
  rintro e w' ⟨rfl,rfl⟩
  rw [← HW.out]
  go_wp2_with (at_builtin;refine wpList_append_z rfl _ _ rfl w.heap.size w.heap.size _ _ [] straightZ rfl rfl (OwnZ.nil _ _) HA.out ?c1 ?d1 ?_)
  case c1=>decide
  case d1=>(try simp);have:=HK.out.size;omega
  intro v1 w1 hown1 hg1
  have K1:=(OwnZ.nil _ W.heap.size).grown (a:=W) KK1 (Nat.le_refl _) hg1
  replace hown1:OwnZ w1 w.heap.size v1 straightZ:=hown1
  obtain ⟨a1,cap1,rfl⟩:=hown1.slice
  have HO1:=Qh hown1
  have HK1:=Qh K1
  clear hown1 hg1 K1
  have HB1:=Qh (HB.out.kept HK1.out)
  go_wp2_with (at_builtin;refine wpList_append_z rfl _ _ rfl w.heap.size (w.heap.size+1) _ _ straightZ slantZ rfl rfl HO1.out HB1.out ?c2 ?d2 ?_)
  case c2=>decide
  case d2=>have:=HK.out.size;have:=HK1.out.size;omega
  intro v2 w2 hown2 hg2
  have K2:=HO1.out.grown (a:=w) (HK.out.trans HK1.out) (Nat.le_refl _) hg2
  obtain ⟨a2,cap2,rfl⟩:=hown2.slice
  have HO2:=Qh hown2
  have HK2:=Qh K2
  clear hown2 hg2 K2
  go_wp2
  go_ret
  exact ⟨_,rfl,by rw [HE.out];exact HO2.out,HK2.out⟩
 ·have KK1:=Kept.refl W
  have HE:=Qh (show Z=straightZ++slantZ from e)
  clear e hp
  go_enter Tryz.func160,Tryz.ntmps160
  go_wp2_with fail
  refine (hk.out _).mono ?_
  rintro e w' ⟨rfl,rfl⟩
  rw [← HW.out]
  go_wp2_with (at_builtin;refine wpList_append_z rfl _ _ rfl w.heap.size w.heap.size _ _ [] straightZ rfl rfl (OwnZ.nil _ _) HA.out ?c1 ?d1 ?_)
  case c1=>decide
  case d1=>(try simp);have:=HK.out.size;omega
  intro v1 w1 hown1 hg1
  have K1:=(OwnZ.nil _ W.heap.size).grown (a:=W) KK1 (Nat.le_refl _) hg1
  replace hown1:OwnZ w1 w.heap.size v1 straightZ:=hown1
  obtain ⟨a1,cap1,rfl⟩:=hown1.slice
  have HO1:=Qh hown1
  have HK1:=Qh K1
  clear hown1 hg1 K1
  have HB1:=Qh (HB.out.kept HK1.out)
  go_wp2_with (at_builtin;refine wpList_append_z rfl _ _ rfl w.heap.size (w.heap.size+1) _ _ straightZ slantZ rfl rfl HO1.out HB1.out ?c2 ?d2 ?_)
  case c2=>decide
  case d2=>have:=HK.out.size;have:=HK1.out.size;omega
  intro v2 w2 hown2 hg2
  have K2:=HO1.out.grown (a:=w) (HK.out.trans HK1.out) (Nat.le_refl _) hg2
  obtain ⟨a2,cap2,rfl⟩:=hown2.slice
  have HO2:=Qh hown2
  have HK2:=Qh K2
  clear hown2 hg2 K2
  go_wp2
  go_ret
  exact ⟨_,rfl,by rw [HE.out];exact HO2.out,HK2.out⟩
end Go.Proofs.YtlbipjmmlobofaaGreatDoor
