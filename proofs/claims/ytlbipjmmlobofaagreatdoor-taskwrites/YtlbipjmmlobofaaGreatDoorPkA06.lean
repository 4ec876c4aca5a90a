/- SiQ · TsA · TsB · TsC: my texts, in their order. -/
import Derived.Test.YtlbipjmmlobofaaGreatDoorPkA04
import Derived.Test.YtlbipjmmlobofaaGreatDoorPkA05
import Derived.Lib.SmallJoins
import Derived.LaidSub
import Derived.Deep.Strs
import Derived.Lib.ItoaNum
namespace Go.Proofs.YtlbipjmmlobofaaGreatDoor
open Go.ChangeShapes Go.WideShapes Go.ChangeAt Go.RowKit
open Go.Joins Go.Deep
set_option linter.unusedVariables false
set_option linter.unusedSimpArgs false
set_option maxRecDepth 100000
section
variable {H:Type} {enc:TypeId × Value→H}
def dQ (H:Type) (s:Stp):DataW H:=.agg [.lit (.int .i64 s.k),.lit (.int .i64 s.g),.lit (.int .i64 s.n),.lit (.bool s.h)]
structure StW (s:Stp):Prop where
 k:(Lit.int .i64 s.k).wf=true
 g:(Lit.int .i64 s.g).wf=true
 n:(Lit.int .i64 s.n).wf=true
theorem cellsQ:Tryz.prog.cellsOf 28=4:=by kernel_rfl
theorem cellsQi:Tryz.prog.cellsOf 3=1:=by kernel_rfl
theorem cellsQb:Tryz.prog.cellsOf 4=1:=by kernel_rfl
theorem cellsQs:Tryz.prog.cellsOf 9=1:=by kernel_rfl
theorem trod_int_q {W:World} {base:Nat} {sp:Nat→Bool} {hd:Bool} {n:Int} (h:(Lit.int .i64 n).wf=true):DataW.trod enc Tryz.prog W base sp hd 2 3 [.int .i64 n]=some ((DataW.lit (.int .i64 n),[]):DataW H × List MemPlace):=by
 unfold DataW.trod
 rw [Tryz.underlying3]
 simp only [h,and_self,if_true]
theorem trod_bool_q {W:World} {base:Nat} {sp:Nat→Bool} {hd:Bool} {b:Bool}:DataW.trod enc Tryz.prog W base sp hd 2 4 [.bool b]=some ((DataW.lit (.bool b),[]):DataW H × List MemPlace):=by
 unfold DataW.trod
 rw [Tryz.underlying4]
end
theorem texts_at {H:Type} {enc:TypeId × Value→H} {P:Program} {w:World} {base:Nat} {sp:Nat→Bool} {held:Bool} {fuel:Nat} {t e:TypeId} {n:Nat} {cs:List Value} {D:List (DataW H)} {p:List MemPlace}
  (ht:P.underlying t=some (.array n e)) (he:P.underlying e=some .string) (ce:P.cellsOf e=1)
  (h:DataW.trod enc P w base sp held fuel t cs=some (.agg D,p)) (i:Nat) (hi:i<n) (a:List UInt8) (hD:D[i]?=some (.lit (.string a))):cs[i]?=some (.string ⟨a.toArray⟩):=by
 cases fuel with
 | zero=>simp [DataW.trod] at h
 | succ fuel =>
  simp only [DataW.trod,ht,ce] at h
  split at h
  ·obtain ⟨xs,hm,hx⟩:=Option.map_eq_some_iff.1 h
   have hxs:xs.map (·.1)=D:=by
    have:=congrArg Prod.fst hx
    simpa using this
   obtain ⟨y,hy,hf⟩:=Lib.mapM_at hm i i (by simp [hi])
   obtain ⟨s,e0,rfl,_⟩:=DataW.trod_string he hf
   have h2:(xs.map (·.1))[i]?=some (DataW.lit (.string s.data.toList):DataW H):=by simp [hy]
   rw [hxs,hD] at h2
   simp at h2
   have q0:=congrArg (·[0]?) e0
   simp [List.getElem?_drop] at q0
   rw [q0,h2]
  ·cases h
theorem gKinds : Tryz.prog.globalNamed "alfil/stip.kinds" = some 0 := by kernel_rfl
theorem gKindsType:(Tryz.prog.globals[0]?).map (·.type)=some 111:=by kernel_rfl
theorem gGoals : Tryz.prog.globalNamed "alfil/stip.goals" = some 1 := by kernel_rfl
theorem gGoalsType:(Tryz.prog.globals[1]?).map (·.type)=some 112:=by kernel_rfl
def kindsD:List (DataW Unit):=(List.range 7).map fun (i:Nat)=>.lit (.string (bs (kT ((i:Int)+1))))
theorem kindsD_is:(Rows.laid_alfil_stip_kinds:DataW Unit)=.agg kindsD:=by rfl
def goalsD:List (DataW Unit):=(List.range 2).map fun (i:Nat)=>.lit (.string (bs (gT ((i:Int)+1))))
theorem goalsD_is:(Rows.laid_alfil_stip_goals:DataW Unit)=.agg goalsD:=by rfl
theorem tabS_of {W : World} (h : laidMetH Tryz.prog [("alfil/stip.kinds", Rows.laid_alfil_stip_kinds), ("alfil/stip.goals", Rows.laid_alfil_stip_goals)] W) : TabS W := by
 refine ⟨?_,?_⟩
 ·have h1 : laidMetH Tryz.prog [("alfil/stip.kinds", Rows.laid_alfil_stip_kinds)] W := h.filter fun x => x.1 == "alfil/stip.kinds"
  obtain ⟨ps,⟨g',t',cs,fuel,p,q,hg',ht',hvar,hd,_,_⟩,_⟩:=h1
  obtain rfl:=Option.some.inj (gKinds.symm.trans hg')
  obtain rfl:=Option.some.inj (gKindsType.symm.trans ht')
  rw [kindsD_is] at hd
  intro j hj
  have hD:kindsD[j]?=some (.lit (.string (bs (kT ((j:Int)+1))))):=by simp [kindsD,hj]
  have q1:=texts_at Tryz.underlying111 Tryz.underlying9 cellsQs hd j hj _ hD
  rw [World.var?_cell gKinds hvar j]
  simpa [bs] using q1
 ·have h1 : laidMetH Tryz.prog [("alfil/stip.goals", Rows.laid_alfil_stip_goals)] W := h.filter fun x => x.1 == "alfil/stip.goals"
  obtain ⟨ps,⟨g',t',cs,fuel,p,q,hg',ht',hvar,hd,_,_⟩,_⟩:=h1
  obtain rfl:=Option.some.inj (gGoals.symm.trans hg')
  obtain rfl:=Option.some.inj (gGoalsType.symm.trans ht')
  rw [goalsD_is] at hd
  intro j hj
  have hD:goalsD[j]?=some (.lit (.string (bs (gT ((j:Int)+1))))):=by simp [goalsD,hj]
  have q1:=texts_at Tryz.underlying112 Tryz.underlying9 cellsQs hd j hj _ hD
  rw [World.var?_cell gGoals hvar j]
  simpa [bs] using q1
end Go.Proofs.YtlbipjmmlobofaaGreatDoor
namespace Go.Proofs.YtlbipjmmlobofaaGreatDoor
open Go.RowKit
set_option linter.unusedVariables false
set_option linter.unusedSimpArgs false
set_option maxRecDepth 100000
structure Pz (α:Type) where
 n:Nat
 v:α
 e:Int
abbrev Par (α:Type):=List UInt8→Pz α
def stz {α:Type} (M:List UInt8) (c:Nat) (d:α):Pz α:=⟨c,d,if c=M.length then 1 else 2⟩
structure Gd {α:Type} (p:Par α):Prop where
 le:∀ M,(p M).n≤M.length
 es:∀ M,(p M).e=0∨((p M).e=1∧(p M).n=M.length)∨((p M).e=2∧(p M).n<M.length)
 more:∀ M X,(p M).n<M.length→p (M++X)=p M
 far:∀ M X,(p M).n=M.length→M.length≤(p (M++X)).n
def Gx {α:Type} (p:Par α):Prop:=∀ M X,(p M).e=0→p (M++X)=p M
def Gn {α:Type} (p:Par α):Prop:=(p []).e≠0
def andz {α β:Type} (p:Par α) (d:β) (q:α→Par β):Par β:=fun M =>
 if (p M).e=0 then ⟨(p M).n+(q (p M).v (M.drop (p M).n)).n,(q (p M).v (M.drop (p M).n)).v,(q (p M).v (M.drop (p M).n)).e⟩ else ⟨(p M).n,d,(p M).e⟩
def rtz {α:Type} (v:α):Par α:=fun _=>⟨0,v,0⟩
theorem andz_ok {α β:Type} {p:Par α} {d:β} {q:α→Par β} {M:List UInt8} (h:(p M).e=0):andz p d q M=⟨(p M).n+(q (p M).v (M.drop (p M).n)).n,(q (p M).v (M.drop (p M).n)).v,(q (p M).v (M.drop (p M).n)).e⟩:=if_pos h
theorem andz_no {α β:Type} {p:Par α} {d:β} {q:α→Par β} {M:List UInt8} (h:(p M).e≠0):andz p d q M=⟨(p M).n,d,(p M).e⟩:=if_neg h
theorem drop_app {α:Type} (M X:List α) (n:Nat) (h:n≤M.length):(M++X).drop n=M.drop n++X:=List.drop_append_of_le_length h
theorem Gd.and {α β:Type} {p:Par α} {q:α→Par β} (d:β) (hp:Gd p) (hq:∀ v,Gd (q v)):Gd (andz p d q):=by
 refine ⟨fun M=>?_,fun M=>?_,fun M X=>?_,fun M X=>?_⟩
 ·have h1:=hp.le M
  by_cases h:(p M).e=0
  ·rw [andz_ok h]
   have:=(hq (p M).v).le (M.drop (p M).n)
   rw [List.length_drop] at this
   dsimp only;omega
  ·rw [andz_no h];exact h1
 ·have h1:=hp.le M
  by_cases h:(p M).e=0
  ·rw [andz_ok h]
   have:=(hq (p M).v).es (M.drop (p M).n)
   rw [List.length_drop] at this
   dsimp only
   rcases this with h2|⟨h2,h3⟩|⟨h2,h3⟩
   ·exact .inl h2
   ·exact .inr (.inl ⟨h2,by omega⟩)
   ·exact .inr (.inr ⟨h2,by omega⟩)
  ·rw [andz_no h];exact hp.es M
 ·have h1:=hp.le M
  by_cases h:(p M).e=0
  ·rw [andz_ok h]
   dsimp only
   intro hn
   have e:=hp.more M X (by omega)
   have e2:(p (M++X)).e=0:=by rw [e];exact h
   rw [andz_ok e2,e,drop_app M X _ h1,(hq (p M).v).more (M.drop (p M).n) X (by rw [List.length_drop];omega)]
  ·rw [andz_no h]
   dsimp only
   intro hn
   have e:=hp.more M X hn
   have e2:(p (M++X)).e≠0:=by rw [e];exact h
   rw [andz_no e2,e]
 ·have h1:=hp.le M
  have tail:(p (M++X)).n≤(andz p d q (M++X)).n:=by
   by_cases h:(p (M++X)).e=0
   ·rw [andz_ok h];exact Nat.le_add_right _ _
   ·rw [andz_no h];exact Nat.le_refl _
  by_cases h:(p M).e=0
  ·rw [andz_ok h]
   dsimp only
   intro hn
   by_cases h3:(p M).n<M.length
   ·have e:=hp.more M X h3
    have e2:(p (M++X)).e=0:=by rw [e];exact h
    rw [andz_ok e2,e,drop_app M X _ h1]
    have:=(hq (p M).v).far (M.drop (p M).n) X (by rw [List.length_drop];omega)
    rw [List.length_drop] at this
    dsimp only;omega
   ·have:=hp.far M X (by omega)
    omega
  ·rw [andz_no h]
   dsimp only
   intro hn
   have:=hp.far M X hn
   omega
theorem Gd.rt {α:Type} (v:α):Gd (rtz v):=⟨fun M=>Nat.zero_le _,fun M=>.inl rfl,fun M X _=>rfl,fun M X h=>by rw [← h];exact Nat.le_refl _⟩
def wdz (w:List UInt8):Par Int:=fun M=>if cmn M w=w.length then ⟨cmn M w,0,0⟩ else stz M (cmn M w) 0
theorem stz_es {α:Type} (M:List UInt8) (c:Nat) (d:α) (h:c≤M.length):(stz M c d).e=0∨((stz M c d).e=1∧(stz M c d).n=M.length)∨((stz M c d).e=2∧(stz M c d).n<M.length):=by
 unfold stz
 by_cases e:c=M.length
 ·rw [if_pos e];exact .inr (.inl ⟨rfl,e⟩)
 ·rw [if_neg e];exact .inr (.inr ⟨rfl,by dsimp only;omega⟩)
theorem stz_more {α:Type} (M X:List UInt8) (c:Nat) (d:α) (h:c<M.length):stz (M++X) c d=stz M c d:=by
 unfold stz
 rw [if_neg (by rw [List.length_append];omega),if_neg (by omega)]
theorem cmn_word {M w:List UInt8} (h:w <+: M):cmn M w=w.length:=(cmn_full M w).2 h
theorem wdz_gd (w:List UInt8):Gd (wdz w):=by
 refine ⟨fun M=>?_,fun M=>?_,fun M X=>?_,fun M X=>?_⟩
 ·unfold wdz
  split
  ·exact cmn_l _ _
  ·exact cmn_l _ _
 ·unfold wdz
  split
  ·exact .inl rfl
  ·exact stz_es _ _ _ (cmn_l _ _)
 ·unfold wdz
  intro h
  have hl:cmn M w<M.length:=by
   split at h <;> exact h
  rw [cmn_more M w X hl,stz_more _ _ _ _ hl]
 ·unfold wdz
  intro h
  have hl:cmn M w=M.length:=by
   split at h <;> exact h
  have:=cmn_le_more M w X
  split <;> (show _≤cmn (M++X) w;omega)
theorem wdz_gn (w:List UInt8) (h:w≠[]):Gn (wdz w):=by
 unfold Gn wdz
 have:cmn [] w=0:=by cases w <;> rfl
 rw [this,if_neg (by intro e;exact h (List.eq_nil_of_length_eq_zero e.symm))]
 unfold stz;simp
theorem wdz_whole (w X:List UInt8):wdz w (w++X)=⟨w.length,0,0⟩:=by
 unfold wdz
 rw [cmn_word (List.prefix_append w X),if_pos rfl]
def farz (M:List UInt8) (W:Nat→List UInt8) (L:List Nat):Nat:=L.foldl (fun f i=>max f (cmn M (W i))) 0
def chz (L:List Nat) (W:Nat→List UInt8):Par Nat:=fun M =>
 match L.find? (fun i=>(W i).isPrefixOf M) with
 | some i=>⟨(W i).length,i,0⟩
 | none=>stz M (farz M W L) 0
structure ApW (L:List Nat) (W:Nat→List UInt8):Prop where
 ne:∀ i ∈ L,W i≠[]
 ap:∀ i ∈ L,∀ j ∈ L,W i <+: W j→i=j
theorem far_go (M:List UInt8) (W:Nat→List UInt8):∀ (L:List Nat) (f:Nat),f≤L.foldl (fun f i=>max f (cmn M (W i))) f∧(∀ i ∈ L,cmn M (W i)≤L.foldl (fun f i=>max f (cmn M (W i))) f) ∧
  (L.foldl (fun f i=>max f (cmn M (W i))) f=f∨∃ i ∈ L,L.foldl (fun f i=>max f (cmn M (W i))) f=cmn M (W i))
 | [],f=>⟨Nat.le_refl _,by simp,.inl rfl⟩
 | x::L,f=>by
  obtain ⟨h1,h2,h3⟩:=far_go M W L (max f (cmn M (W x)))
  rw [List.foldl_cons]
  refine ⟨by omega,fun i hi=>?_,?_⟩
  ·rcases List.mem_cons.1 hi with rfl|hi
   ·omega
   ·exact h2 i hi
  ·rcases h3 with h3|⟨i,hi,h3⟩
   ·rcases Nat.le_total f (cmn M (W x)) with y|y
    ·exact .inr ⟨x,by simp,by rw [h3,Nat.max_eq_right y]⟩
    ·exact .inl (by rw [h3,Nat.max_eq_left y])
   ·exact .inr ⟨i,by simp [hi],h3⟩
theorem far_ge {M:List UInt8} {W:Nat→List UInt8} {L:List Nat} {i:Nat} (h:i ∈ L):cmn M (W i)≤farz M W L:=(far_go M W L 0).2.1 i h
theorem far_is (M:List UInt8) (W:Nat→List UInt8) (L:List Nat):farz M W L=0∨∃ i ∈ L,farz M W L=cmn M (W i):=(far_go M W L 0).2.2
theorem far_le (M:List UInt8) (W:Nat→List UInt8) (L:List Nat):farz M W L≤M.length:=by
 rcases far_is M W L with h|⟨i,_,h⟩
 ·omega
 ·rw [h];exact cmn_l _ _
theorem far_uniq {M:List UInt8} {W:Nat→List UInt8} {L:List Nat} {m:Nat} (h1:∀ i ∈ L,cmn M (W i)≤m) (h2:m=0∨∃ i ∈ L,m=cmn M (W i)):m=farz M W L:=by
 rcases h2 with rfl|⟨i,hi,h2⟩
 ·rcases far_is M W L with h|⟨j,hj,h⟩
  ·exact h.symm
  ·have:=h1 j hj;omega
 ·have:=far_ge (M:=M) (W:=W) hi
  rcases far_is M W L with h|⟨j,hj,h⟩
  ·omega
  ·have:=h1 j hj;omega
theorem chz_some {L:List Nat} {W:Nat→List UInt8} (hA:ApW L W) {M:List UInt8} {i:Nat} (hi:i ∈ L) (h:W i <+: M):chz L W M=⟨(W i).length,i,0⟩:=by
 unfold chz
 have:L.find? (fun i=>(W i).isPrefixOf M)=some i:=by
  cases hf:L.find? (fun i=>(W i).isPrefixOf M) with
  | none =>
   have:=List.find?_eq_none.1 hf i hi
   simp at this
   exact absurd h this
  | some j =>
   have hj:=List.find?_some hf
   have hm:=List.mem_of_find?_eq_some hf
   simp at hj
   rcases List.prefix_or_prefix_of_prefix h hj with hp|hp
   ·rw [hA.ap i hi j hm hp]
   ·rw [hA.ap j hm i hi hp]
 rw [this]
theorem chz_none {L:List Nat} {W:Nat→List UInt8} {M:List UInt8} (h:∀ i ∈ L,¬ W i <+: M):chz L W M=stz M (farz M W L) 0:=by
 unfold chz
 rw [List.find?_eq_none.2 (fun i hi=>by simp;exact h i hi)]
theorem chz_cases (L:List Nat) (W:Nat→List UInt8) (M:List UInt8):(∃ i ∈ L,W i <+: M)∨∀ i ∈ L,¬ W i <+: M:=by
 by_cases h:∃ i ∈ L,W i <+: M
 ·exact .inl h
 ·exact .inr fun i hi hp=>h ⟨i,hi,hp⟩
theorem chz_ok {L:List Nat} {W:Nat→List UInt8} {M:List UInt8} (h:(chz L W M).e=0):(chz L W M).v ∈ L∧W (chz L W M).v <+: M∧(chz L W M).n=(W (chz L W M).v).length:=by
 unfold chz at *
 split at h
 ·rename_i i hf
  have hj:=List.find?_some hf
  have hm:=List.mem_of_find?_eq_some hf
  simp at hj
  exact ⟨hm,hj,rfl⟩
 ·unfold stz at h
  dsimp only at h
  split at h <;> simp at h
theorem chz_gx {L:List Nat} {W:Nat→List UInt8} (hA:ApW L W):Gx (chz L W):=by
 intro M X h
 obtain ⟨h1,h2,h3⟩:=chz_ok h
 rw [chz_some hA h1 (h2.trans (List.prefix_append M X)),chz_some hA h1 h2]
theorem chz_gd {L:List Nat} {W:Nat→List UInt8} (hA:ApW L W):Gd (chz L W):=by
 refine ⟨fun M=>?_,fun M=>?_,fun M X=>?_,fun M X=>?_⟩
 ·rcases chz_cases L W M with ⟨i,hi,hp⟩|hn
  ·rw [chz_some hA hi hp];exact hp.length_le
  ·rw [chz_none hn];exact far_le M W L
 ·rcases chz_cases L W M with ⟨i,hi,hp⟩|hn
  ·rw [chz_some hA hi hp];exact .inl rfl
  ·rw [chz_none hn];exact stz_es _ _ _ (far_le M W L)
 ·rcases chz_cases L W M with ⟨i,hi,hp⟩|hn
  ·intro _
   exact chz_gx hA M X (by rw [chz_some hA hi hp])
  ·rw [chz_none hn]
   intro h
   have hl:farz M W L<M.length:=h
   have hc:∀ i ∈ L,cmn (M++X) (W i)=cmn M (W i):=fun i hi=>cmn_more M (W i) X (Nat.lt_of_le_of_lt (far_ge hi) hl)
   have hn2:∀ i ∈ L,¬ W i <+: M++X:=fun i hi hp=>hn i hi ((cmn_full _ _).1 (by rw [← hc i hi];exact cmn_word hp))
   have hf:farz M W L=farz (M++X) W L:=far_uniq (fun i hi=>by rw [hc i hi];exact far_ge hi) (by
    rcases far_is M W L with h|⟨i,hi,h⟩
    ·exact .inl h
    ·exact .inr ⟨i,hi,by rw [hc i hi];exact h⟩)
   rw [chz_none hn2,← hf,stz_more _ _ _ _ hl]
 ·rcases chz_cases L W M with ⟨i,hi,hp⟩|hn
  ·rw [chz_gx hA M X (by rw [chz_some hA hi hp])]
   intro h;rw [h];exact Nat.le_refl _
  ·rw [chz_none hn]
   intro h
   have hl:farz M W L=M.length:=h
   rcases chz_cases L W (M++X) with ⟨i,hi,hp⟩|hn2
   ·rw [chz_some hA hi hp]
    rcases Nat.le_total M.length (W i).length with h2|h2
    ·exact h2
    ·exact absurd (List.prefix_of_prefix_length_le hp (List.prefix_append M X) h2) (hn i hi)
   ·rw [chz_none hn2]
    show M.length≤farz (M++X) W L
    rcases far_is M W L with h3|⟨i,hi,h3⟩
    ·omega
    ·have:=far_ge (M:=M++X) (W:=W) hi
     have:=cmn_le_more M (W i) X
     omega
def nbGo (lo hi:Int):List UInt8→Nat→Int→Pz Int
 | [],j,n=>if 0<j∧lo≤n then ⟨j,n,0⟩ else ⟨j,0,1⟩
 | b::r,j,n =>
  if isD b=true then
   (if 0<j∧n=0 then ⟨j,0,2⟩
    else if hi<10*n+(b.toNat-48)∨(j=0∧10*n+((b.toNat:Int)-48)=0∧0<lo) then ⟨j,0,2⟩
    else nbGo lo hi r (j+1) (10*n+(b.toNat-48)))
  else if 0<j∧lo≤n then ⟨j,n,0⟩ else ⟨j,0,2⟩
theorem nbGo_cons (lo hi:Int) (b:UInt8) (r:List UInt8) (j:Nat) (n:Int):nbGo lo hi (b::r) j n=if isD b=true then
   (if 0<j∧n=0 then ⟨j,0,2⟩
    else if hi<10*n+(b.toNat-48)∨(j=0∧10*n+((b.toNat:Int)-48)=0∧0<lo) then ⟨j,0,2⟩
    else nbGo lo hi r (j+1) (10*n+(b.toNat-48)))
  else if 0<j∧lo≤n then ⟨j,n,0⟩ else ⟨j,0,2⟩:=rfl
structure NbG (lo hi:Int) (M:List UInt8) (j:Nat) (n:Int):Prop where
 ge:j≤(nbGo lo hi M j n).n
 le:(nbGo lo hi M j n).n≤j+M.length
 es:(nbGo lo hi M j n).e=0∨((nbGo lo hi M j n).e=1∧(nbGo lo hi M j n).n=j+M.length)∨((nbGo lo hi M j n).e=2∧(nbGo lo hi M j n).n<j+M.length)
 more:∀ X,(nbGo lo hi M j n).n<j+M.length→nbGo lo hi (M++X) j n=nbGo lo hi M j n
 far:∀ X,(nbGo lo hi M j n).n=j+M.length→j+M.length≤(nbGo lo hi (M++X) j n).n
theorem nbGo_ge (lo hi:Int):∀ (M:List UInt8) (j:Nat) (n:Int),j≤(nbGo lo hi M j n).n
 | [],j,n=>by
  unfold nbGo
  split <;> exact Nat.le_refl _
 | b::r,j,n=>by
  unfold nbGo
  split
  ·split
   ·exact Nat.le_refl _
   ·split
    ·exact Nat.le_refl _
    ·have:=nbGo_ge lo hi r (j+1) (10*n+(b.toNat-48));omega
  ·split <;> exact Nat.le_refl _
theorem nb_g (lo hi:Int):∀ (M:List UInt8) (j:Nat) (n:Int),NbG lo hi M j n
 | [],j,n=>by
  refine ⟨nbGo_ge _ _ _ _ _,?_,?_,?_,?_⟩
  ·unfold nbGo;split <;> exact Nat.le_refl _
  ·unfold nbGo;split
   ·exact .inl rfl
   ·exact .inr (.inl ⟨rfl,rfl⟩)
  ·intro X h
   exfalso
   have:=nbGo_ge lo hi [] j n
   simp at h;omega
  ·intro X _
   have:=nbGo_ge lo hi ([]++X) j n
   simpa using this
 | b::r,j,n=>by
  have hl:(b::r).length=r.length+1:=rfl
  have ih:=nb_g lo hi r (j+1) (10*n+(b.toNat-48))
  have key:(∀ X,nbGo lo hi ((b::r)++X) j n=nbGo lo hi (b::r) j n∧(nbGo lo hi (b::r) j n).n=j∧((nbGo lo hi (b::r) j n).e=0∨(nbGo lo hi (b::r) j n).e=2)) ∨
    ∀ X,nbGo lo hi ((b::r)++X) j n=nbGo lo hi (r++X) (j+1) (10*n+(b.toNat-48)):=by
   simp only [List.cons_append,nbGo_cons]
   by_cases h1:isD b=true
   ·simp only [if_pos h1]
    by_cases h2:0<j∧n=0
    ·simp only [if_pos h2];exact .inl fun X=>by simp
    ·simp only [if_neg h2]
     by_cases h3:hi<10*n+(b.toNat-48)∨(j=0∧10*n+((b.toNat:Int)-48)=0∧0<lo)
     ·simp only [if_pos h3];exact .inl fun X=>by simp
     ·simp only [if_neg h3];exact .inr fun X=>trivial
   ·simp only [if_neg h1]
    by_cases h2:0<j∧lo≤n
    ·simp only [if_pos h2];exact .inl fun X=>by simp
    ·simp only [if_neg h2];exact .inl fun X=>by simp
  rcases key with key|key
  ·obtain ⟨_,k2,k3⟩:=key []
   refine ⟨by omega,by omega,?_,fun X _=>(key X).1,fun X h=>by omega⟩
   rcases k3 with k3|k3
   ·exact .inl k3
   ·exact .inr (.inr ⟨k3,by omega⟩)
  ·have k0:=key []
   rw [List.append_nil,List.append_nil] at k0
   have:=ih.ge
   refine ⟨by rw [k0];omega,by rw [k0,hl];have:=ih.le;omega,?_,fun X=>?_,fun X=>?_⟩
   ·rw [k0,hl]
    rcases ih.es with h|⟨h,h'⟩|⟨h,h'⟩
    ·exact .inl h
    ·exact .inr (.inl ⟨h,by omega⟩)
    ·exact .inr (.inr ⟨h,by omega⟩)
   ·rw [k0,key X,hl]
    intro h
    exact ih.more X (by omega)
   ·rw [k0,key X,hl]
    intro h
    have:=ih.far X (by omega)
    omega
def nbz (lo hi:Int):Par Int:=fun M=>nbGo lo hi M 0 0
theorem nbz_gd (lo hi:Int):Gd (nbz lo hi) :=
 ⟨fun M=>by have:=(nb_g lo hi M 0 0).le;rw [Nat.zero_add] at this;exact this,
  fun M=>by have:=(nb_g lo hi M 0 0).es;rw [Nat.zero_add] at this;exact this,
  fun M X h=>(nb_g lo hi M 0 0).more X (by rw [Nat.zero_add];exact h),
  fun M X h=>by have:=(nb_g lo hi M 0 0).far X (by rw [Nat.zero_add];exact h);rw [Nat.zero_add] at this;exact this⟩
def sqz:Par Int
 | []=>⟨0,0,1⟩
 | a::r=>if a.toNat<97∨104<a.toNat then ⟨0,0,2⟩ else match r with
  | []=>⟨1,0,1⟩
  | b::_=>if b.toNat<49∨56<b.toNat then ⟨1,0,2⟩ else ⟨2,8*(b.toNat-49)+(a.toNat-97),0⟩
theorem sqz_cons (a:UInt8) (r:List UInt8):sqz (a::r)=if a.toNat<97∨104<a.toNat then ⟨0,0,2⟩ else match r with
  | []=>⟨1,0,1⟩
  | b::_=>if b.toNat<49∨56<b.toNat then ⟨1,0,2⟩ else ⟨2,8*(b.toNat-49)+(a.toNat-97),0⟩:=rfl
theorem sqz_ge (a:UInt8) (X:List UInt8) (h:¬ (a.toNat<97∨104<a.toNat)):1≤(sqz (a::X)).n:=by
 simp only [sqz_cons,List.cons_append]
 rw [if_neg h]
 cases X with
 | nil=>exact Nat.le_refl _
 | cons b X =>
  dsimp only
  split
  ·exact Nat.le_refl _
  ·show 1≤2;omega
theorem sqz_gd:Gd sqz:=by
 have two:∀ (a b:UInt8) (r:List UInt8),(sqz (a::b::r)).n≤2∧((sqz (a::b::r)).e=0∨((sqz (a::b::r)).e=2∧(sqz (a::b::r)).n<2)):=by
  intro a b r
  simp only [sqz_cons,List.cons_append]
  split
  ·exact ⟨Nat.zero_le _,.inr ⟨rfl,by dsimp only;omega⟩⟩
  ·split
   ·exact ⟨by dsimp only;omega,.inr ⟨rfl,by dsimp only;omega⟩⟩
   ·exact ⟨Nat.le_refl _,.inl rfl⟩
 refine ⟨fun M=>?_,fun M=>?_,fun M X=>?_,fun M X=>?_⟩
 all_goals rcases M with _|⟨a,_|⟨b,r⟩⟩
 ·exact Nat.le_refl _
 ·simp only [sqz_cons,List.cons_append]
  split
  ·exact Nat.zero_le _
  ·exact Nat.le_refl _
 ·have:=(two a b r).1;simp only [List.length_cons];omega
 ·exact .inr (.inl ⟨rfl,rfl⟩)
 ·simp only [sqz_cons,List.cons_append]
  split
  ·exact .inr (.inr ⟨rfl,Nat.zero_lt_one⟩)
  ·exact .inr (.inl ⟨rfl,rfl⟩)
 ·rcases (two a b r).2 with h|⟨h,h'⟩
  ·exact .inl h
  ·exact .inr (.inr ⟨h,by simp only [List.length_cons];omega⟩)
 ·intro h;simp at h
 ·intro h
  by_cases ha:a.toNat<97∨104<a.toNat
  ·simp only [sqz_cons,List.cons_append]
   simp only [List.cons_append,if_pos ha]
  ·have:=sqz_ge a [] ha
   simp at h;omega
 ·intro _;rfl
 ·intro _;exact Nat.zero_le _
 ·intro h
  by_cases ha:a.toNat<97∨104<a.toNat
  ·simp only [sqz_cons] at h
   simp only [if_pos ha] at h
   simp at h
  ·exact sqz_ge a X ha
 ·intro h
  have:=(two a b r).1
  show (a::b::r).length≤(sqz (a::b::r)).n
  omega
def ltGo:List (UInt8 × Int)→List UInt8→Nat→Int→Nat × Int
 | [],_,n,v=>(n,v)
 | _::_,[],n,v=>(n,v)
 | (c,b)::r,x::M,n,v=>if x=c then ltGo r M (n+1) (v+b) else ltGo r (x::M) n v
def ltL:List (UInt8 × Int):=[(75,1),(81,2),(107,4),(113,8)]
def ltW (i:Nat):List UInt8:=match i with|0=>[75]|1=>[81]|2=>[107]|_=>[113]
def ltz:Par Int:=fun M=>if (chz [0,1,2,3] ltW M).e=0 then ⟨(ltGo ltL M 0 0).1,(ltGo ltL M 0 0).2,0⟩ else ⟨(chz [0,1,2,3] ltW M).n,0,(chz [0,1,2,3] ltW M).e⟩
theorem ltGo_le:∀ (l:List (UInt8 × Int)) (M:List UInt8) (n:Nat) (v:Int),n≤(ltGo l M n v).1∧(ltGo l M n v).1≤n+M.length
 | [],M,n,v=>⟨Nat.le_refl _,Nat.le_add_right _ _⟩
 | _::_,[],n,v=>⟨Nat.le_refl _,Nat.le_refl _⟩
 | (c,b)::r,x::M,n,v=>by
  unfold ltGo
  split
  ·have:=ltGo_le r M (n+1) (v+b)
   rw [List.length_cons];omega
  ·exact ltGo_le r (x::M) n v
theorem ltGo_more:∀ (l:List (UInt8 × Int)) (M X:List UInt8) (n:Nat) (v:Int),(ltGo l M n v).1<n+M.length→ltGo l (M++X) n v=ltGo l M n v
 | [],M,X,n,v,_=>rfl
 | _::_,[],X,n,v,h=>by
  have:n<n+0:=h
  omega
 | (c,b)::r,x::M,X,n,v,h=>by
  unfold ltGo at h ⊢
  simp only [List.cons_append]
  split
  ·rename_i e
   simp only [if_pos e,List.length_cons] at h
   exact ltGo_more r M X (n+1) (v+b) (by omega)
  ·rename_i e
   simp only [if_neg e] at h
   exact ltGo_more r (x::M) X n v h
theorem ltGo_far:∀ (l:List (UInt8 × Int)) (M X:List UInt8) (n:Nat) (v:Int),(ltGo l M n v).1=n+M.length→n+M.length≤(ltGo l (M++X) n v).1
 | [],M,X,n,v,h=>by
  have h:n=n+M.length:=h
  have:n≤(ltGo [] (M++X) n v).1:=(ltGo_le [] (M++X) n v).1
  omega
 | a::r,[],X,n,v,h=>(ltGo_le (a::r) ([]++X) n v).1
 | (c,b)::r,x::M,X,n,v,h=>by
  unfold ltGo at h ⊢
  simp only [List.cons_append]
  split
  ·rename_i e
   simp only [if_pos e,List.length_cons] at h ⊢
   have:=ltGo_far r M X (n+1) (v+b) (by omega)
   omega
  ·rename_i e
   simp only [if_neg e] at h
   exact ltGo_far r (x::M) X n v h
theorem lt_ap:ApW [0,1,2,3] ltW:=by
 have h:∀ i ∈ [0,1,2,3],∀ j ∈ [0,1,2,3],(ltW i).isPrefixOf (ltW j)=true→i=j:=by decide +kernel
 exact ⟨by decide +kernel,fun i hi j hj hp=>h i hi j hj (List.isPrefixOf_iff_prefix.2 hp)⟩
theorem ltz_gd:Gd ltz:=by
 have hc:=chz_gd lt_ap
 refine ⟨fun M=>?_,fun M=>?_,fun M X=>?_,fun M X=>?_⟩
 ·unfold ltz
  split
  ·have:=(ltGo_le ltL M 0 0).2;dsimp only;omega
  ·exact hc.le M
 ·unfold ltz
  split
  ·exact .inl rfl
  ·exact hc.es M
 ·by_cases h:(chz [0,1,2,3] ltW M).e=0
  ·have h':(chz [0,1,2,3] ltW (M++X)).e=0:=by rw [chz_gx lt_ap M X h];exact h
   unfold ltz
   rw [if_pos h,if_pos h']
   dsimp only
   intro hn
   rw [ltGo_more ltL M X 0 0 (by omega)]
  ·unfold ltz
   rw [if_neg h]
   dsimp only
   intro hn
   rw [hc.more M X hn,if_neg h]
 ·by_cases h:(chz [0,1,2,3] ltW M).e=0
  ·have h':(chz [0,1,2,3] ltW (M++X)).e=0:=by rw [chz_gx lt_ap M X h];exact h
   unfold ltz
   rw [if_pos h,if_pos h']
   dsimp only
   intro hn
   have:=ltGo_far ltL M X 0 0 (by omega)
   omega
  ·unfold ltz
   rw [if_neg h]
   dsimp only
   intro hn
   have h3:=hc.far M X hn
   split
   ·rename_i h4
    obtain ⟨c1,c2,c3⟩:=chz_ok h4
    have c4:∀ i ∈ [0,1,2,3],(ltW i).length=1:=by decide +kernel
    rw [c3,c4 _ c1] at h3
    dsimp only
    rcases M with _|⟨x,M⟩
    ·exact Nat.zero_le _
    ·exfalso
     have e:M=[]:=by
      cases M with
      | nil=>rfl
      | cons y M=>simp at h3
     subst e
     have h5:(chz [0,1,2,3] ltW [x]).n=0∨(chz [0,1,2,3] ltW [x]).e=0:=by
      rcases chz_cases [0,1,2,3] ltW [x] with ⟨i,hi,hp⟩|hno
      ·rw [chz_some lt_ap hi hp];exact .inr rfl
      ·rw [chz_none hno]
       refine .inl ?_
       show farz [x] ltW [0,1,2,3]=0
       rcases far_is [x] ltW [0,1,2,3] with h6|⟨i,hi,h6⟩
       ·exact h6
       ·have h7:=cmn_r [x] (ltW i)
        rw [c4 i hi] at h7
        have h8:cmn [x] (ltW i)≠(ltW i).length:=fun e=>hno i hi ((cmn_full _ _).1 e)
        rw [c4 i hi] at h8
        omega
     rcases h5 with h5|h5
     ·rw [h5] at hn;simp at hn
     ·exact h h5
   ·exact h3
structure LRd where
 f:List UInt8→List Int × Nat × Int
 es:∀ m,((f m).2.2=2∧(f m).2.1<m.length)∨(((f m).2.2=0∨(f m).2.2=1)∧(f m).2.1=m.length)
 more:∀ m X,(f m).2.2=2→(f (m++X)).2.2=2∧(f (m++X)).2.1=(f m).2.1
 far:∀ m X,(f m).2.2≠2→m.length≤(f (m++X)).2.1
def lnz (F:LRd):Par (List Int):=fun M =>
 if (F.f (M.take (lnF M))).2.2=2 then ⟨(F.f (M.take (lnF M))).2.1,[],2⟩
 else if lnF M=M.length then ⟨M.length,[],1⟩
 else if (F.f (M.take (lnF M))).2.2=0 then ⟨lnF M+1,(F.f (M.take (lnF M))).1,0⟩
 else ⟨(F.f (M.take (lnF M))).2.1,[],2⟩
theorem lnF_le (M:List UInt8):lnF M≤M.length:=List.findIdx_le_length
theorem lnF_more {M:List UInt8} (X:List UInt8) (h:lnF M<M.length):lnF (M++X)=lnF M:=by
 unfold lnF at *
 rw [List.findIdx_append,if_pos h]
theorem lnF_over {M:List UInt8} (X:List UInt8) (h:lnF M=M.length):lnF (M++X)=M.length+lnF X:=by
 unfold lnF at *
 rw [List.findIdx_append,if_neg (by omega)]
 omega
theorem take_le {M:List UInt8}:(M.take (lnF M)).length=lnF M:=by rw [List.length_take];have:=lnF_le M;omega
theorem lnz_gd (F:LRd):Gd (lnz F):=by
 have same:∀ M X,lnF M<M.length→(M++X).take (lnF (M++X))=M.take (lnF M):=fun M X h=>by
  rw [lnF_more X h,List.take_append_of_le_length (by omega)]
 have over:∀ M X,lnF M=M.length→(M++X).take (lnF (M++X))=M.take (lnF M)++X.take (lnF X):=fun M X h=>by
  rw [lnF_over X h,h,List.take_length,List.take_length_add_append]
 refine ⟨fun M=>?_,fun M=>?_,fun M X=>?_,fun M X=>?_⟩
 ·have h1:=F.es (M.take (lnF M))
  have h2:=lnF_le M
  rw [take_le] at h1
  unfold lnz
  repeat' split
  all_goals (dsimp only;omega)
 ·have h1:=F.es (M.take (lnF M))
  have h2:=lnF_le M
  rw [take_le] at h1
  unfold lnz
  split
  ·exact .inr (.inr ⟨rfl,by dsimp only;omega⟩)
  ·split
   ·exact .inr (.inl ⟨rfl,rfl⟩)
   ·split
    ·exact .inl rfl
    ·exact .inr (.inr ⟨rfl,by dsimp only;omega⟩)
 ·intro hn
  have h1:=F.es (M.take (lnF M))
  have h2:=lnF_le M
  rw [take_le] at h1
  rcases Nat.lt_or_ge (lnF M) M.length with hl|hl
  ·unfold lnz
   rw [same M X hl]
   have e1:¬ lnF (M++X)=(M++X).length:=by rw [lnF_more X hl,List.length_append];omega
   have e2:¬ lnF M=M.length:=by omega
   simp only [lnF_more X hl] at e1 ⊢
   simp only [if_neg e1,if_neg e2]
  ·have hl:lnF M=M.length:=by omega
   by_cases e:(F.f (M.take (lnF M))).2.2=2
   ·have hm:=F.more (M.take (lnF M)) (X.take (lnF X)) e
    unfold lnz
    rw [over M X hl,if_pos e,if_pos hm.1,hm.2]
   ·unfold lnz at hn
    rw [if_neg e,if_pos hl] at hn
    simp at hn
 ·intro hn
  have h1:=F.es (M.take (lnF M))
  have h2:=lnF_le M
  rw [take_le] at h1
  rcases Nat.lt_or_ge (lnF M) M.length with hl|hl
  ·have e1:¬ lnF (M++X)=(M++X).length:=by rw [lnF_more X hl,List.length_append];omega
   have e2:¬ lnF M=M.length:=by omega
   have:lnz F (M++X)=lnz F M:=by
    unfold lnz
    rw [same M X hl]
    simp only [lnF_more X hl] at e1 ⊢
    simp only [if_neg e1,if_neg e2]
   rw [this,hn];exact Nat.le_refl _
  ·have hl:lnF M=M.length:=by omega
   by_cases e:(F.f (M.take (lnF M))).2.2=2
   ·unfold lnz at hn
    rw [if_pos e] at hn
    dsimp only at hn
    omega
   ·have h3:=F.far (M.take (lnF M)) (X.take (lnF X)) e
    rw [take_le] at h3
    have h4:=lnF_over X hl
    unfold lnz
    rw [over M X hl]
    repeat' split
    all_goals (dsimp only;first|(rw [List.length_append];omega)|omega)
def rowW (i:Nat):List UInt8:=match i with|0=>[102,111,114,115,121,116,104,32]|_=>[112,105,101,99,101,115,32]
theorem row_ap:ApW [0,1] rowW:=by
 have h:∀ i ∈ [0,1],∀ j ∈ [0,1],(rowW i).isPrefixOf (rowW j)=true→i=j:=by decide +kernel
 exact ⟨by decide +kernel,fun i hi j hj hp=>h i hi j hj (List.isPrefixOf_iff_prefix.2 hp)⟩
def dgz (F P:LRd):Par (List Int):=andz (chz [0,1] rowW) [] fun i=>lnz (if i=1 then P else F)
theorem dgz_gd (F P:LRd):Gd (dgz F P):=(chz_gd row_ap).and _ fun i=>lnz_gd _
def hdW (i:Nat):List UInt8:=opL (hdL.getD i (0,0))
def hdI:List Nat:=List.range 15
theorem hd_ap:ApW hdI hdW:=by
 have h:∀ i ∈ hdI,∀ j ∈ hdI,(hdW i).isPrefixOf (hdW j)=true→i=j:=by decide +kernel
 exact ⟨by decide +kernel,fun i hi j hj hp=>h i hi j hj (List.isPrefixOf_iff_prefix.2 hp)⟩
def hlz (s:Stp):Par Stp:=fun M=>if s.k=5∧(s.n=0∨(wdz [46] M).e=0) then andz (wdz [46,53]) Zt (fun _=>rtz ⟨s.k,s.g,s.n,true⟩) M else ⟨0,s,0⟩
theorem wd46 (M:List UInt8):(wdz [46] M).e=0↔∃ r,M=46::r:=by
 cases M with
 | nil=>simp [wdz,stz,cmn]
 | cons x r =>
  have:=cmn_full (x::r) [46]
  constructor
  ·intro h
   unfold wdz at h
   split at h
   ·rename_i e
    have:=(cmn_full _ _).1 e
    rw [List.cons_prefix_cons] at this
    exact ⟨r,by rw [this.1]⟩
   ·unfold stz at h
    dsimp only at h
    split at h <;> simp at h
  ·rintro ⟨r',e⟩
   cases e
   have:=wdz_whole [46] r
   rw [show (46::r:List UInt8)=[46]++r from rfl,this]
theorem hlz_gd (s:Stp):Gd (hlz s):=by
 have g:=(wdz_gd [46,53]).and Zt (fun _:Int=>Gd.rt (⟨s.k,s.g,s.n,true⟩:Stp))
 have same:∀ (x:UInt8) (M X:List UInt8),(s.k=5∧(s.n=0∨(wdz [46] (x::M++X)).e=0))↔(s.k=5∧(s.n=0∨(wdz [46] (x::M)).e=0)):=by
  intro x M X
  rw [wd46,wd46]
  have:(∃ r,x::M++X=46::r)↔∃ r,x::M=46::r:=by
   constructor
   ·rintro ⟨r,e⟩;rw [List.cons_append] at e;cases e;exact ⟨M,rfl⟩
   ·rintro ⟨r,e⟩;cases e;exact ⟨M++X,rfl⟩
  rw [this]
 refine ⟨fun M=>?_,fun M=>?_,fun M X=>?_,fun M X=>?_⟩
 ·unfold hlz
  split
  ·exact g.le M
  ·exact Nat.zero_le _
 ·unfold hlz
  split
  ·exact g.es M
  ·exact .inl rfl
 ·rcases M with _|⟨x,M⟩
  ·intro h;simp at h
  ·unfold hlz
   by_cases h:s.k=5∧(s.n=0∨(wdz [46] (x::M)).e=0)
   ·rw [if_pos h,if_pos ((same x M X).2 h)]
    exact g.more _ X
   ·rw [if_neg h,if_neg (fun h'=>h ((same x M X).1 h'))]
    exact fun _=>rfl
 ·rcases M with _|⟨x,M⟩
  ·intro h;exact Nat.zero_le _
  ·unfold hlz
   by_cases h:s.k=5∧(s.n=0∨(wdz [46] (x::M)).e=0)
   ·rw [if_pos h,if_pos ((same x M X).2 h)]
    exact g.far _ X
   ·rw [if_neg h]
    intro h2
    simp at h2
def sp1 (p:Int × Int):Par Stp:=andz (nbz (lstI (decide (p.1=5))) 64) Zt fun n=>hlz ⟨p.1,p.2,n,false⟩
def spz:Par Stp:=andz (chz hdI hdW) Zt fun i=>sp1 (hdL.getD i (0,0))
theorem sp1_gd (p:Int × Int):Gd (sp1 p):=(nbz_gd _ _).and _ fun n=>hlz_gd _
theorem spz_gd:Gd spz:=(chz_gd hd_ap).and _ fun i=>sp1_gd _
def fdz {α:Type} (p:Par α) (d:α):Par α:=andz p d fun v=>andz (wdz [10]) d fun _=>rtz v
theorem fdz_gd {α:Type} {p:Par α} (d:α) (h:Gd p):Gd (fdz p d):=h.and _ fun v=>(wdz_gd _).and _ fun _=>Gd.rt _
def aimL:List UInt8:=[115,116,105,112,32]
def agz:Par Stp:=andz (wdz aimL) Zt fun _=>fdz spz Zt
theorem agz_gd:Gd agz:=(wdz_gd _).and _ fun _=>fdz_gd _ spz_gd
structure Tk where
 B:List Int
 tu:Int
 ca:Int
 ep:Int
 s:Stp
 ty:Bool
 se:Bool
 mx:Int
 re:Int
def opW (i:Nat):List UInt8:=match i with
 | 0=>[111,112,116,105,111,110,32,116,114,121]
 | 1=>[111,112,116,105,111,110,32,115,101,116]
 | 2=>[111,112,116,105,111,110,32,115,105,100,101,32]
 | 3=>[111,112,116,105,111,110,32,109,97,120,115,111,108,32]
 | 4=>[111,112,116,105,111,110,32,99,97,115,116,108,101,32]
 | 5=>[111,112,116,105,111,110,32,101,112,32]
 | 6=>[111,112,116,105,111,110,32,114,101,116,114,111,32]
 | _=>[101,110,100,10]
def op8:List Nat:=[7,0,1,2,3,4,5,6]
theorem op_ap:ApW op8 opW:=by
 have h:∀ i ∈ op8,∀ j ∈ op8,(opW i).isPrefixOf (opW j)=true→i=j:=by decide +kernel
 exact ⟨by decide +kernel,fun i hi j hj hp=>h i hi j hj (List.isPrefixOf_iff_prefix.2 hp)⟩
theorem ApW.sub {L L':List Nat} {W:Nat→List UInt8} (h:ApW L W) (hs:∀ i ∈ L',i ∈ L):ApW L' W:=⟨fun i hi=>h.ne i (hs i hi),fun i hi j hj=>h.ap i (hs i hi) j (hs j hj)⟩
def sdW (i:Nat):List UInt8:=match i with|0=>[119,104,105,116,101]|_=>[98,108,97,99,107]
theorem sd_ap:ApW [0,1] sdW:=by
 have h:∀ i ∈ [0,1],∀ j ∈ [0,1],(sdW i).isPrefixOf (sdW j)=true→i=j:=by decide +kernel
 exact ⟨by decide +kernel,fun i hi j hj hp=>h i hi j hj (List.isPrefixOf_iff_prefix.2 hp)⟩
def sdz:Par Int:=fun M=>⟨(chz [0,1] sdW M).n,((chz [0,1] sdW M).v:Int),(chz [0,1] sdW M).e⟩
theorem sdz_gd:Gd sdz:=by
 have h:=chz_gd sd_ap
 exact ⟨h.le,h.es,fun M X hn=>by unfold sdz;rw [h.more M X hn],h.far⟩
def opR (i:Nat):Par Int:=match i with
 | 0=>rtz 0
 | 1=>rtz 0
 | 2=>sdz
 | 3=>nbz 1 1000
 | 4=>ltz
 | 5=>sqz
 | _=>nbz 0 4
theorem opR_gd (i:Nat):Gd (opR i):=by
 unfold opR
 split
 ·exact Gd.rt _
 ·exact Gd.rt _
 ·exact sdz_gd
 ·exact nbz_gd _ _
 ·exact ltz_gd
 ·exact sqz_gd
 ·exact nbz_gd _ _
def opP (i:Nat):Par Int:=fdz (opR i) 0
def tlK (i:Nat) (v:Int) (K:Tk):Tk:=match i with
 | 0=>{ K with ty:=true }
 | 1=>{ K with se:=true }
 | 2=>{ K with tu:=v }
 | 3=>{ K with mx:=v }
 | 4=>{ K with ca:=v }
 | 5=>{ K with ep:=v }
 | _=>{ K with re:=v }
def Z0:Tk:=⟨[],0,0,0,Zt,false,false,0,0⟩
def coz:Nat→List Nat→Tk→Par Tk
 | 0,L,K=>andz (wdz (opW 7)) Z0 fun _=>rtz K
 | f+1,L,K=>andz (chz (7::L) opW) Z0 fun i=>if i=7 then rtz K else andz (opP i) Z0 fun v=>coz f (L.erase i) (tlK i v K)
theorem op_sub {L:List Nat} (h:∀ i ∈ L,i<7):∀ i ∈ 7::L,i ∈ op8:=by
 intro i hi
 have:i≤7:=by
  rcases List.mem_cons.1 hi with rfl|hi
  ·exact Nat.le_refl _
  ·exact Nat.le_of_lt (h i hi)
 have:i=0∨i=1∨i=2∨i=3∨i=4∨i=5∨i=6∨i=7:=by omega
 rcases this with rfl|rfl|rfl|rfl|rfl|rfl|rfl|rfl <;> decide
theorem erase_lt {L:List Nat} (h:∀ i ∈ L,i<7) (j:Nat):∀ i ∈ L.erase j,i<7:=fun i hi=>h i (List.mem_of_mem_erase hi)
theorem coz_gd:∀ (f:Nat) (L:List Nat) (K:Tk),(∀ i ∈ L,i<7)→Gd (coz f L K)
 | 0,L,K,_=>(wdz_gd _).and _ fun _=>Gd.rt _
 | f+1,L,K,h=>(chz_gd (op_ap.sub (op_sub h))).and _ fun i=>by
  split
  ·exact Gd.rt _
  ·exact (fdz_gd _ (opR_gd i)).and _ fun v=>coz_gd f _ _ (erase_lt h i)
def begL:List UInt8:=[98,101,103,105,110,10]
def op7:List Nat:=[0,1,2,3,4,5,6]
theorem op7_lt:∀ i ∈ op7,i<7:=by decide
def mkT (B:List Int) (s:Stp):Tk:=⟨B,begI s,0,-1,s,false,false,0,-1⟩
def tkz (F P:LRd):Par Tk:=andz (wdz begL) Z0 fun _=>andz (dgz F P) Z0 fun B=>andz agz Z0 fun s=>coz 7 op7 (mkT B s)
def rdz (F P:LRd) (m:List UInt8):Nat × Int:=if (tkz F P m).e≠0 then ((tkz F P m).n,(tkz F P m).e) else if (tkz F P m).n<m.length then ((tkz F P m).n,2) else ((tkz F P m).n,0)
theorem rdz_err {F P:LRd} {m:List UInt8} (h:(tkz F P m).e≠0):rdz F P m=((tkz F P m).n,(tkz F P m).e):=if_pos h
theorem rdz_beh {F P:LRd} {m:List UInt8} (h:(tkz F P m).e=0) (hl:(tkz F P m).n<m.length):rdz F P m=((tkz F P m).n,2):=by unfold rdz;rw [if_neg (fun c=>c h),if_pos hl]
theorem rdz_all {F P:LRd} {m:List UInt8} (h:(tkz F P m).e=0) (hl:¬ (tkz F P m).n<m.length):rdz F P m=((tkz F P m).n,0):=by unfold rdz;rw [if_neg (fun c=>c h),if_neg hl]
def dgN:Nat→Nat→List UInt8
 | 0,_=>[]
 | f+1,n=>if n<10 then [UInt8.ofNat (48+n)] else dgN f (n / 10)++[UInt8.ofNat (48+n % 10)]
theorem dgN_is:∀ (f n:Nat),n<10 ^ f→f≠0→dgN f n=Lib.decDigits n
 | 0,n,h,h0=>absurd rfl h0
 | f+1,n,h,_=>by
  rw [Lib.decDigits]
  unfold dgN
  by_cases hn:n<10
  ·rw [if_pos hn,dif_pos hn]
  ·rw [if_neg hn,dif_neg hn,dgN_is f (n / 10) (by rw [Nat.pow_succ] at h;omega) (by rintro rfl;simp at h;omega)]
theorem nb_chk:((List.range 1001).all fun n=>let l:=dgN 4 n;let a:=nbz 1 1000 (l++[10]);let b:=nbz 0 4 (l++[10]);(n == 0 || (a.n == l.length && (a.v == (n:Int) && a.e == 0))) && (4<n || (b.n == l.length && (b.v == (n:Int) && b.e == 0))))=true:=by decide +kernel
theorem Pz.eq3 {α:Type} {a:Pz α} {n:Nat} {v:α} {e:Int} (h1:a.n=n) (h2:a.v=v) (h3:a.e=e):a=⟨n,v,e⟩:=by cases a;simp_all
theorem Gd.behind {α:Type} {p:Par α} (h:Gd p) {l X:List UInt8} {v:α} {e:Int} (hp:p (l++[10])=⟨l.length,v,e⟩):p (l++10::X)=⟨l.length,v,e⟩:=by
 have:=h.more (l++[10]) X (by rw [hp];simp)
 rw [List.append_assoc] at this
 rw [show (10::X:List UInt8)=[10]++X from rfl,this,hp]
theorem nb_max {n:Nat} (h0:1≤n) (h:n≤1000):nbz 1 1000 (Lib.decDigits n++[10])=⟨(Lib.decDigits n).length,n,0⟩:=by
 have:=List.all_eq_true.1 nb_chk n (List.mem_range.2 (by omega))
 rw [← dgN_is 4 n (by omega) (by omega)]
 simp only [Bool.and_eq_true,Bool.or_eq_true,beq_iff_eq,decide_eq_true_eq] at this
 obtain ⟨h1,_⟩:=this
 rcases h1 with h1|⟨h1,h2,h3⟩
 ·omega
 ·exact Pz.eq3 h1 h2 h3
theorem nb_ret {n:Nat} (h:n≤4):nbz 0 4 (Lib.decDigits n++[10])=⟨(Lib.decDigits n).length,n,0⟩:=by
 have:=List.all_eq_true.1 nb_chk n (List.mem_range.2 (by omega))
 rw [← dgN_is 4 n (by omega) (by omega)]
 simp only [Bool.and_eq_true,Bool.or_eq_true,beq_iff_eq,decide_eq_true_eq] at this
 obtain ⟨_,h1⟩:=this
 rcases h1 with h1|⟨h1,h2,h3⟩
 ·omega
 ·exact Pz.eq3 h1 h2 h3
def caL (n:Nat):List UInt8:=(if n % 2=1 then [75] else [])++((if n / 2 % 2=1 then [81] else [])++((if n / 4 % 2=1 then [107] else [])++(if n / 8 % 2=1 then [113] else [])))
theorem lt_chk:((List.range 16).all fun n=>let a:=ltz (caL n++[10]);n == 0 || (a.n == (caL n).length && (a.v == (n:Int) && a.e == 0)))=true:=by decide +kernel
theorem lt_rd {n:Nat} (h0:1≤n) (h:n≤15):ltz (caL n++[10])=⟨(caL n).length,n,0⟩:=by
 have:=List.all_eq_true.1 lt_chk n (List.mem_range.2 (by omega))
 simp only [Bool.and_eq_true,Bool.or_eq_true,beq_iff_eq] at this
 rcases this with h1|⟨h1,h2,h3⟩
 ·omega
 ·exact Pz.eq3 h1 h2 h3
def nmL2 (n:Nat):List UInt8:=[(97+n % 8).toUInt8,(49+n / 8).toUInt8]
theorem sq_chk:((List.range 64).all fun n=>let a:=sqz (nmL2 n++[10]);(a.n == 2 && (a.v == (n:Int) && a.e == 0)))=true:=by decide +kernel
theorem sq_rd {n:Nat} (h:n<64):sqz (nmL2 n++[10])=⟨(nmL2 n).length,n,0⟩:=by
 have:=List.all_eq_true.1 sq_chk n (List.mem_range.2 h)
 simp only [Bool.and_eq_true,beq_iff_eq] at this
 exact Pz.eq3 this.1 this.2.1 this.2.2
theorem sd_rd {n:Nat} (h:n<2):sdz (sdW n++[10])=⟨(sdW n).length,n,0⟩:=by
 have:n=0∨n=1:=by omega
 rcases this with rfl|rfl <;> rfl
def vaL (i:Nat) (v:Int):List UInt8:=match i with
 | 0=>[]
 | 1=>[]
 | 2=>sdW v.toNat
 | 3=>Lib.decDigits v.toNat
 | 4=>caL v.toNat
 | 5=>nmL2 v.toNat
 | _=>Lib.decDigits v.toNat
def okV (i:Nat) (v:Int):Prop:=match i with
 | 0=>v=0
 | 1=>v=0
 | 2=>0≤v∧v<2
 | 3=>1≤v∧v≤1000
 | 4=>1≤v∧v≤15
 | 5=>0≤v∧v<64
 | _=>0≤v∧v≤4
theorem opR_rd:∀ (i:Nat) (v:Int),okV i v→opR i (vaL i v++[10])=⟨(vaL i v).length,v,0⟩
 | 0,v,h=>by
  have h:v=0:=h
  subst h;rfl
 | 1,v,h=>by
  have h:v=0:=h
  subst h;rfl
 | 2,v,h=>by
  have h:0≤v∧v<2:=h
  obtain ⟨n,rfl⟩:=Int.eq_ofNat_of_zero_le h.1
  exact sd_rd (n:=n) (by omega)
 | 3,v,h=>by
  have h:1≤v∧v≤1000:=h
  obtain ⟨n,rfl⟩:=Int.eq_ofNat_of_zero_le (show 0≤v by omega)
  exact nb_max (n:=n) (by omega) (by omega)
 | 4,v,h=>by
  have h:1≤v∧v≤15:=h
  obtain ⟨n,rfl⟩:=Int.eq_ofNat_of_zero_le (show 0≤v by omega)
  exact lt_rd (n:=n) (by omega) (by omega)
 | 5,v,h=>by
  have h:0≤v∧v<64:=h
  obtain ⟨n,rfl⟩:=Int.eq_ofNat_of_zero_le h.1
  exact sq_rd (n:=n) (by omega)
 | _+6,v,h=>by
  have h:0≤v∧v≤4:=h
  obtain ⟨n,rfl⟩:=Int.eq_ofNat_of_zero_le h.1
  exact nb_ret (n:=n) (by omega)
theorem fdz_rd {α:Type} {p:Par α} (hg:Gd p) (d:α) {l:List UInt8} {v:α} (h:p (l++[10])=⟨l.length,v,0⟩) (X:List UInt8):fdz p d (l++10::X)=⟨l.length+1,v,0⟩:=by
 have h2:=hg.behind (X:=X) h
 unfold fdz
 rw [andz_ok (by rw [h2]),h2]
 dsimp only
 have e1:(l++10::X).drop l.length=[10]++X:=by rw [List.drop_left];rfl
 have e2:(andz (wdz [10]) d fun _=>rtz v) ([10]++X)=⟨1,v,0⟩:=by
  rw [andz_ok (by rw [wdz_whole]),wdz_whole];rfl
 rw [e1,e2]
def olL (i:Nat) (v:Int):List UInt8:=opW i++(vaL i v++[10])
theorem opP_rd (i:Nat) (v:Int) (h:okV i v) (X:List UInt8):opP i (vaL i v++10::X)=⟨(vaL i v).length+1,v,0⟩:=fdz_rd (opR_gd i) 0 (opR_rd i v h) X
def endL:List UInt8:=[101,110,100,10]
theorem coz_rd:∀ (ls:List Nat) (f:Nat) (L:List Nat) (K:Tk) (V:Nat→Int) (X:List UInt8),ls.length≤f→ls.Nodup→(∀ i ∈ ls,i ∈ L)→(∀ i ∈ L,i<7)→(∀ i ∈ ls,okV i (V i)) →
  coz f L K (ls.flatMap (fun i=>olL i (V i))++(endL++X))=⟨(ls.flatMap (fun i=>olL i (V i))).length+4,ls.foldl (fun K i=>tlK i (V i) K) K,0⟩
 | [],f,L,K,V,X,_,_,_,hL,_=>by
  simp only [List.flatMap_nil,List.nil_append,List.foldl_nil,List.length_nil]
  cases f with
  | zero =>
   unfold coz
   have e:=wdz_whole (opW 7) X
   rw [show opW 7=endL from rfl] at e ⊢
   rw [andz_ok (by rw [e]),e]
   try rfl
  | succ f =>
   unfold coz
   have e:chz (7::L) opW (endL++X)=⟨4,7,0⟩:=chz_some (op_ap.sub (op_sub hL)) (i:=7) (by simp) (List.prefix_append endL X)
   rw [andz_ok (by rw [e]),e]
   try rfl
 | i::ls,0,L,K,V,X,h,_,_,_,_=>by simp at h
 | i::ls,f+1,L,K,V,X,h,hd,hs,hL,hv=>by
  obtain ⟨hd1,hd2⟩:=List.nodup_cons.1 hd
  have hi:=hs i (by simp)
  have h7:i≠7:=Nat.ne_of_lt (hL i hi)
  have e:((i::ls).flatMap fun i=>olL i (V i))++(endL++X)=opW i++(vaL i (V i)++10::((ls.flatMap fun i=>olL i (V i))++(endL++X))):=by
   simp only [List.flatMap_cons,olL,List.append_assoc,List.cons_append,List.nil_append]
  have hlen:((i::ls).flatMap fun i=>olL i (V i)).length=(opW i).length+((vaL i (V i)).length+1)+(ls.flatMap fun i=>olL i (V i)).length:=by
   simp only [List.flatMap_cons,olL,List.length_append,List.length_cons,List.length_nil]
   try omega
  rw [e,hlen]
  unfold coz
  have e1:chz (7::L) opW (opW i++(vaL i (V i)++10::((ls.flatMap fun i=>olL i (V i))++(endL++X))))=⟨(opW i).length,i,0⟩:=chz_some (op_ap.sub (op_sub hL)) (i:=i) (by simp [hi]) (List.prefix_append _ _)
  rw [andz_ok (by rw [e1]),e1]
  dsimp only
  rw [if_neg h7,List.drop_left]
  have e2:=opP_rd i (V i) (hv i (by simp)) ((ls.flatMap fun i=>olL i (V i))++(endL++X))
  rw [andz_ok (by rw [e2]),e2]
  dsimp only
  have e3:(vaL i (V i)++10::((ls.flatMap fun i=>olL i (V i))++(endL++X))).drop ((vaL i (V i)).length+1)=(ls.flatMap fun i=>olL i (V i))++(endL++X):=by
   rw [← List.drop_drop,List.drop_left]
   try rfl
  rw [e3,coz_rd ls f (L.erase i) (tlK i (V i) K) V X (by simpa using h) hd2 (fun j hj=>(List.mem_erase_of_ne (fun e=>hd1 (by rw [← e];exact hj))).2 (hs j (by simp [hj]))) (erase_lt hL i) (fun j hj=>hv j (by simp [hj]))]
  dsimp only
  rw [List.foldl_cons]
  congr 1;omega
def toldB (i:Nat) (K:Tk):Bool:=match i with
 | 0=>K.ty
 | 1=>K.se
 | 2=>K.tu != begI K.s
 | 3=>K.mx != 0
 | 4=>K.ca != 0
 | 5=>K.ep != -1
 | _=>K.re != -1
def toldV (K:Tk) (i:Nat):Int:=match i with
 | 0=>0
 | 1=>0
 | 2=>K.tu
 | 3=>K.mx
 | 4=>K.ca
 | 5=>K.ep
 | _=>K.re
def opL7 (K:Tk):List Nat:=op7.filter fun i=>toldB i K
def txO (K:Tk):List UInt8:=(opL7 K).flatMap fun i=>olL i (toldV K i)
structure OkT (K:Tk):Prop where
 tu:K.tu=0∨K.tu=1
 ca:0≤K.ca∧K.ca≤15
 ep:-1≤K.ep∧K.ep≤63
 s:okSt K.s=true
 mx:0≤K.mx∧K.mx≤1000
 re:-1≤K.re∧K.re≤4
theorem told_ok {K:Tk} (h:OkT K):∀ i ∈ opL7 K,okV i (toldV K i):=by
 intro i hi
 obtain ⟨h1,h2⟩:=List.mem_filter.1 hi
 have:i=0∨i=1∨i=2∨i=3∨i=4∨i=5∨i=6:=by simpa [op7] using h1
 have a1:=h.tu
 have a2:=h.ca
 have a3:=h.ep
 have a4:=h.mx
 have a5:=h.re
 rcases this with rfl|rfl|rfl|rfl|rfl|rfl|rfl
 all_goals simp only [toldB,bne_iff_ne,ne_eq] at h2
 all_goals simp only [okV,toldV]
 all_goals omega
theorem told_back (K:Tk):(opL7 K).foldl (fun K' i=>tlK i (toldV K i) K') (mkT K.B K.s)=K:=by
 unfold opL7
 rw [List.foldl_filter]
 obtain ⟨B,tu,ca,ep,s,ty,se,mx,re⟩:=K
 have e0:∀ x:Tk,(if ty=true then { x with ty:=true } else x)={ x with ty:=if ty=true then true else x.ty }:=fun x=>by split <;> rfl
 simp only [op7,List.foldl_cons,List.foldl_nil,toldB,toldV,tlK,mkT,bne_iff_ne,ne_eq]
 cases ty <;> cases se <;> simp only [if_true,if_false,Bool.false_eq_true]
 all_goals
  by_cases h1:tu=begI s <;> by_cases h2:mx=0 <;> by_cases h3:ca=0 <;> by_cases h4:ep=-1 <;> by_cases h5:re=-1 <;>
  simp [h1,h2,h3,h4,h5]
def txA (K:Tk):List UInt8:=10::(aimL++(bs (txT K.s)++10::(txO K++endL)))
def txR (i:Nat) (b:List UInt8) (K:Tk):List UInt8:=begL++(rowW i++(b++txA K))
theorem lnz_rd (F:LRd) {b X:List UInt8} (h10:(10:UInt8) ∉ b) {B:List Int} (h:F.f b=(B,b.length,0)):lnz F (b++10::X)=⟨b.length+1,B,0⟩:=by
 have e:lnF (b++10::X)=b.length:=by
  refine lnF_at (b:=10) (by rw [List.getElem?_append_right (by omega)];simp) rfl fun k hk=>?_
  rw [List.getElem?_append_left hk,List.getElem?_eq_getElem hk]
  intro e
  injection e with e
  exact h10 (e ▸ List.getElem_mem hk)
 unfold lnz
 rw [e,List.take_left,h]
 simp
theorem tk_rd (F P:LRd) (i:Nat) (hi:i<2) (b:List UInt8) (K:Tk) (h10:(10:UInt8) ∉ b) (hb:(if i=1 then P else F).f b=(K.B,b.length,0)) (hk:OkT K)
  (hs:spz (bs (txT K.s)++[10])=⟨(bs (txT K.s)).length,K.s,0⟩):tkz F P (txR i b K)=⟨(txR i b K).length,K,0⟩:=by
 have hlen:(txR i b K).length=6+((rowW i).length+(b.length+1)+(5+((bs (txT K.s)).length+1)+((txO K).length+4))):=by
  unfold txR txA begL aimL endL
  simp only [List.length_append,List.length_cons,List.length_nil]
  omega
 rw [hlen]
 unfold tkz
 have e1:wdz begL (txR i b K)=⟨6,0,0⟩:=wdz_whole begL _
 rw [andz_ok (by rw [e1]),e1]
 have e2:(txR i b K).drop 6=rowW i++(b++txA K):=rfl
 dsimp only
 rw [e2]
 have e3:dgz F P (rowW i++(b++txA K))=⟨(rowW i).length+(b.length+1),K.B,0⟩:=by
  unfold dgz
  have hm:i ∈ [0,1]:=by
   have:i=0∨i=1:=by omega
   rcases this with rfl|rfl <;> simp
  have e4:chz [0,1] rowW (rowW i++(b++txA K))=⟨(rowW i).length,i,0⟩:=chz_some row_ap hm (List.prefix_append _ _)
  rw [andz_ok (by rw [e4]),e4]
  dsimp only
  rw [List.drop_left]
  unfold txA
  rw [lnz_rd _ h10 hb]
 rw [andz_ok (by rw [e3]),e3]
 dsimp only
 have e5:(rowW i++(b++txA K)).drop ((rowW i).length+(b.length+1))=aimL++(bs (txT K.s)++10::(txO K++endL)):=by
  rw [← List.drop_drop,List.drop_left,← List.drop_drop,List.drop_left];rfl
 rw [e5]
 have e6:agz (aimL++(bs (txT K.s)++10::(txO K++endL)))=⟨5+((bs (txT K.s)).length+1),K.s,0⟩:=by
  unfold agz
  have e7:=wdz_whole aimL (bs (txT K.s)++10::(txO K++endL))
  rw [andz_ok (by rw [e7]),e7]
  dsimp only
  rw [List.drop_left,fdz_rd spz_gd Zt hs];rfl
 rw [andz_ok (by rw [e6]),e6]
 dsimp only
 have e8:(aimL++(bs (txT K.s)++10::(txO K++endL))).drop (5+((bs (txT K.s)).length+1))=txO K++(endL++[]):=by
  rw [← List.drop_drop,show (5:Nat)=aimL.length from rfl,List.drop_left,← List.drop_drop,List.drop_left,List.append_nil];rfl
 rw [e8]
 unfold txO
 rw [coz_rd (opL7 K) 7 op7 (mkT K.B K.s) (toldV K) [] (by have:=List.length_filter_le (fun i=>toldB i K) op7;exact this) ((show op7.Nodup by decide).filter _) (fun i hi=>(List.mem_filter.1 hi).1) op7_lt (told_ok hk),told_back]
end Go.Proofs.YtlbipjmmlobofaaGreatDoor
