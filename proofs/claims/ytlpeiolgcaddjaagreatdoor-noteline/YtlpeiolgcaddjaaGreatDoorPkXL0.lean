/- PaA · PaC · FoX · NoH · PaN · NoL: my texts, in their order. -/
import Derived.Test.YtlpeiolgcaddjaaGreatDoorPkXRLB0
import Derived.Test.YtlpeiolgcaddjaaGreatDoorPkXWLo0
import Derived.Test.YtlpeiolgcaddjaaGreatDoorPkXWL0
import Derived.Test.YtlpeiolgcaddjaaGreatDoorPkA
import Derived.Test.YtlpeiolgcaddjaaGreatDoorPkB
import Derived.Test.YtlpeiolgcaddjaaGreatDoorPkC
import Derived.Test.YtlpeiolgcaddjaaGreatDoorPkD
import Derived.Test.YtlpeiolgcaddjaaGreatDoorPkE
import Derived.Test.YtlpeiolgcaddjaaGreatDoorPkF
import Derived.Test.YtlpeiolgcaddjaaGreatDoorPkGa
import Derived.Test.YtlpeiolgcaddjaaGreatDoorPkGb
import Derived.Test.YtlpeiolgcaddjaaGreatDoorPkGc
import Derived.Test.YtlpeiolgcaddjaaGreatDoorPkGd
import Derived.Test.YtlpeiolgcaddjaaGreatDoorPkGe
import Derived.Test.YtlpeiolgcaddjaaGreatDoorPkGf
import Derived.Test.YtlpeiolgcaddjaaGreatDoorPkGg
import Derived.Test.YtlpeiolgcaddjaaGreatDoorPkGh
import Derived.Test.YtlpeiolgcaddjaaGreatDoorPkGj
import Derived.Test.YtlpeiolgcaddjaaGreatDoorPkH
import Derived.Test.YtlpeiolgcaddjaaGreatDoorPkI
import Derived.Test.YtlpeiolgcaddjaaGreatDoorPkJ
import Derived.Test.YtlpeiolgcaddjaaGreatDoorPkK
import Derived.Test.YtlpeiolgcaddjaaGreatDoorPkL
import Derived.Test.YtlpeiolgcaddjaaGreatDoorPkLa
import Derived.Test.YtlpeiolgcaddjaaGreatDoorPkLd
import Derived.Test.YtlpeiolgcaddjaaGreatDoorPkLe
import Derived.Test.YtlpeiolgcaddjaaGreatDoorPkLf
import Derived.Test.YtlpeiolgcaddjaaGreatDoorPkLg
import Derived.Test.YtlpeiolgcaddjaaGreatDoorPkLh
import Derived.Test.YtlpeiolgcaddjaaGreatDoorPkLi
import Derived.Test.YtlpeiolgcaddjaaGreatDoorPkLj
import Derived.Test.YtlpeiolgcaddjaaGreatDoorPkM
import Derived.Test.YtlpeiolgcaddjaaGreatDoorPkN
import Derived.Test.YtlpeiolgcaddjaaGreatDoorPkNa
import Derived.Test.YtlpeiolgcaddjaaGreatDoorPkNb
import Derived.Test.YtlpeiolgcaddjaaGreatDoorPkNc
import Derived.Test.YtlpeiolgcaddjaaGreatDoorPkNd
import Derived.Test.YtlpeiolgcaddjaaGreatDoorPkNf
import Derived.Test.YtlpeiolgcaddjaaGreatDoorPkNi
import Derived.Test.YtlpeiolgcaddjaaGreatDoorPkO
import Derived.Test.YtlpeiolgcaddjaaGreatDoorPkP
import Derived.Test.YtlpeiolgcaddjaaGreatDoorPkQ
import Derived.Test.YtlpeiolgcaddjaaGreatDoorPkR
import Derived.Test.YtlpeiolgcaddjaaGreatDoorPkU
import Derived.Test.YtlpeiolgcaddjaaGreatDoorPkV
import Derived.Test.YtlpeiolgcaddjaaGreatDoorPkY
import Derived.Lib.Join
import Derived.OwnWalk
import Derived.Deep.Slices
import Derived.ChangeSame
import Derived.DataShut
namespace Go.Proofs.YtlpeiolgcaddjaaGreatDoor
open Go.RowKit
set_option linter.unusedVariables false
set_option linter.unusedSimpArgs false
set_option maxRecDepth 100000
theorem drop_at {L:List Mv} {k:Nat} {m:Mv} (h:L[k]?=some m):L.drop k=m::L.drop (k+1):=by
 obtain ⟨h1,rfl⟩:=List.getElem?_eq_some_iff.1 h;exact List.drop_eq_getElem_cons h1
def endR:Ps→List Mv→Option Ps
 | p,[]=>some p
 | p,m::r=>if legB p m then endR (behP p m) r else none
theorem endR_app:∀ (a b:List Mv) (p:Ps),endR p (a++b)=(endR p a).bind fun q=>endR q b
 | [],b,p=>rfl
 | m::a,b,p=>by
  rw [List.cons_append,endR,endR];split
  ·exact endR_app a b _
  ·rfl
theorem endR_stop {p q:Ps} {l:List Mv} {k:Nat} {m:Mv} (h:endR p (l.take k)=some q) (hm:l[k]?=some m) (hl:legB q m=false):endR p l=none:=by
 have:l=l.take k++(m::l.drop (k+1)):=by rw [← drop_at hm,List.take_append_drop]
 rw [this,endR_app,h];show endR q _=none;rw [endR,if_neg (by rw [hl];decide)]
theorem endR_next {p q:Ps} {l:List Mv} {k:Nat} {m:Mv} (h:endR p (l.take k)=some q) (hm:l[k]?=some m) (hl:legB q m=true):endR p (l.take (k+1))=some (behP q m):=by
 rw [List.take_add_one,hm,endR_app,h];show endR q [m]=_;rw [endR,if_pos hl];rfl
theorem rbeh_is (p:Ps) (hB:Brd p.B) (h:pwI p=0) (m:Mv) (hl:legB p m=true) (w:World):Calls Tryz.prog 20 #[.agg (pl p).toArray,.agg (ml m).toArray] w (RetP w (behP p m)):=by
 obtain ⟨hqr,hqb,hok⟩:=Yg hB h hl;obtain ⟨f,t,F⟩:=Yt hB hok;obtain ⟨t01,⟨c0,c1⟩,_⟩:=Qt h;have:=behind_is p hB t01 c0 c1 (Yj h).2.2.2.1 m (Jz hok) F.prm f t F.hf F.ht w;rw [behP_eq F] at this;exact this
theorem tl_snoc (l:List ByteArray) (k:ByteArray):tl (l++[k])=tl l++[.string k]:=by simp [tl]
theorem infoStr:(Tryz.prog.info? 9).map (fun i=>(i.zero,i.size,i.bytes))=some (some (.string ⟨#[]⟩),1,16):=by kernel_rfl
theorem info_parts3 {P:Program} {t:TypeId} {z:Value} {n b:Nat} (h:(P.info? t).map (fun i=>(i.zero,i.size,i.bytes))=some (some z,n,b)) :
  ∃ i,P.info? t=some i∧i.zero=some z∧i.size=n∧i.bytes=b:=by
 cases hq:P.info? t with
 | none=>simp [hq] at h
 | some i=>simp [hq] at h;exact ⟨i,rfl,h.1,h.2.1,h.2.2⟩
def OwnsT (w:World) (base:Nat) (v:Value) (l:List ByteArray):Prop:=w.ownsRow base 9 1 v l.length (tl l)
theorem OwnsT.kept {w w':World} {base:Nat} {v:Value} {l:List ByteArray} (h:OwnsT w base v l) (k:Kept w w'):OwnsT w' base v l:=by
 obtain ⟨h1,h2⟩:=h;refine ⟨h1,?_⟩;rcases h2 with h2|⟨b,cap,cur,e1,e2,e3,e4⟩
 ·exact .inl h2
 ·exact .inr ⟨b,cap,cur,e1,e2,k.heap e3,e4⟩
theorem OwnsT.all {w:World} {base:Nat} {v:Value} {l:List ByteArray} (h:OwnsT w base v l) (hl:0<l.length) :
  ∃ g cap,v=.slice (some ⟨g,0,none⟩) l.length cap∧l.length≤cap∧g<w.heap.size∧∀ (j:Nat) x,l[j]?=some x→w.cell? ⟨g,0+j,none⟩=some (.string x):=by
 rcases h.2 with ⟨e,h0⟩|⟨g,cap',cur,e,hb,hh,hnc,_,hcs,ht⟩
 ·omega
 ·refine ⟨g,cap',e,hnc,Yc hh,fun j x hx=>?_⟩
  have hj:j<l.length:=by
   obtain ⟨hj,_⟩:=List.getElem?_eq_some_iff.1 hx;exact hj
  rw [Nat.zero_add,cell_of_row w g j cur _ (0,0) hh];have h2:(cur.toList.take (l.length*1))[j]?=(tl l)[j]?:=by rw [ht]
  rw [List.getElem?_take,if_pos (by omega)] at h2;simp only [Array.getElem?_toList] at h2;rw [h2];simp [tl,hx]
def Jp:Ps→List Mv→List ByteArray
 | _,[]=>[]
 | p,m::r=>ntB p m::Jp (behP p m) r
theorem notesL_len:∀ (l:List Mv) (p:Ps),(Jp p l).length=l.length
 | [],_=>rfl
 | m::r,p=>by rw [Jp,List.length_cons,List.length_cons,notesL_len r]
theorem notesL_snoc:∀ (l:List Mv) (p q:Ps) (m:Mv),endR p l=some q→Jp p (l++[m])=Jp p l++[ntB q m]
 | [],p,q,m,h=>by
  rw [endR] at h
  cases h
  rfl
 | x::l,p,q,m,h=>by
  rw [endR] at h;split at h
  ·rw [List.cons_append,Jp,Jp,notesL_snoc l _ q m h,List.cons_append]
  ·cases h
theorem notesL_next {p q:Ps} {l:List Mv} {k:Nat} {m:Mv} (h:endR p (l.take k)=some q) (hm:l[k]?=some m):Jp p (l.take (k+1))=Jp p (l.take k)++[ntB q m]:=by
 rw [take_one hm,notesL_snoc _ _ _ _ h]
theorem OwnsT.other {w w':World} {base:Nat} {v:Value} {l:List ByteArray} (h:OwnsT w base v l) (hb:∀ k,base≤k→k<w.heap.size→w'.heap[k]?=w.heap[k]?):OwnsT w' base v l:=by
 obtain ⟨h1,h2⟩:=h;refine ⟨h1,?_⟩;rcases h2 with h2|⟨b,cap,cur,e1,e2,e3,e4⟩
 ·exact .inl h2
 ·exact .inr ⟨b,cap,cur,e1,e2,(hb b e2 (Yc e3)).trans e3,e4⟩
theorem OwnsT.slice' {w:World} {base:Nat} {v:Value} {l:List ByteArray} (h:OwnsT w base v l):∃ a cap,v=.slice a l.length cap:=by
 rcases h.2 with ⟨e,h0⟩|⟨g,cap',cur,e,_⟩
 ·exact ⟨none,0,by rw [e,h0]⟩
 ·exact ⟨_,_,e⟩
theorem MAt.ne_text {w:World} {g base:Nat} {x:Mv} {v:Value} {l:List ByteArray} (h:MAt w g x) (ho:OwnsT w base v l) (e:some g=v.ownBlock):False:=by
 rcases ho.2 with ⟨e1,_⟩|⟨b,cap',cur,e1,_,e3,_⟩
 ·rw [e1] at e;simp [Value.ownBlock] at e
 ·rw [e1] at e
  simp [Value.ownBlock] at e;subst e;have:=h.at_;rw [e3] at this;have h2:=Option.some.inj this;injection h2 with _ t _
  exact absurd t (by decide)
theorem PAt.grown {w w':World} {g base:Nat} {p:Ps} {v:Value} {l:List ByteArray} (h:PAt w g p) (ho:OwnsT w base v l) (hg:w.grownBy w' v.ownBlock) (hb:g<base):PAt w' g p :=
 ⟨h.len,(hg.block g (Yc h.at_) (fun e=>by have:=(World.ownsRow.lt ho g e.symm).1;omega)).trans h.at_⟩
theorem Kept.setP {w wr:World} (h:Kept w wr) (c:Array Value):Kept w (wr.setRow w.heap.size c):=h.setRow (Nat.le_refl _) c
def lnL (p:Ps) (l:List Mv):List ByteArray:=if (endR p l).isSome then Jp p l else []
def lnE (p:Ps) (l:List Mv):Int:=if (endR p l).isSome then 0 else 5
def RetLE (w:World) (l:List ByteArray) (x:Int) (e:Ending) (w':World):Prop:=∃ v,e=.returned (.tuple #[v,.int .i64 x])∧OwnsT w' (w.heap.size+1) v l∧Kept w w'
set_option maxHeartbeats 8000000 in
theorem nline_wrong (g0:Nat) (v:Value) (l:List Mv) (hl10:l.length≤10) (p:Ps) (hB:Brd p.B) (h:pwI p≠0) (w:World) (hT:TabG w) (hL:LsM w g0 v l):Calls Tryz.prog 19 #[.agg (pl p).toArray,v] w (RetLE w [] (pwI p)):=by
 obtain ⟨av,cv,rfl⟩:=hL.slice;have HK1:=Qh ((Kept.refl w).alloc (.cells (pl p).toArray 26));have HP1:=Qh (PAt.new w hB.1);have HT:=Qh (hT.kept HK1.out);have HC:=Qh (fun w h=>Jx p hB w h);have hv:(pwI p != 0)=true:=bne_iff_ne.2 h;generalize pwI p=v at *;generalize l.length=n at *;clear hB hT h hL;go_enter Tryz.func19,Tryz.ntmps19;go_wp2_with (first|(refine Qc (by rfl) _ rfl _ rfl _ (HP1.out) ?_)|(refine Qd (by rfl) _ rfl _ rfl _ (HP1.out) ?_))
 refine (HC.out _ HT.out.tabm.tabs).mono ?_;rintro e w1 ⟨rfl,k1⟩;have HK2:=Qh (HK1.out.trans k1);clear k1;go_wp2;go_ret2;exact ⟨_,rfl,World.ownsRow_nil _ _ _ _,HK2.out⟩
set_option maxHeartbeats 8000000 in
theorem nline_right (g0:Nat) (v:Value) (l:List Mv) (hl10:l.length≤10) (p:Ps) (hB:Brd p.B) (hr:pwI p=0) (w:World) (hT:TabG w) (hL:LsM w g0 v l):Calls Tryz.prog 19 #[.agg (pl p).toArray,v] w (RetLE w (lnL p l) (lnE p l)):=by
 obtain ⟨av,cv,rfl⟩:=hL.slice;have HK1:=Qh ((Kept.refl w).alloc (.cells (pl p).toArray 26));have HP1:=Qh (PAt.new w hB.1);have HT:=Qh (hT.kept HK1.out);have HC:=Qh (fun w h=>Jx p hB w h);rw [hr] at HC;have hT':=Qh hT;have HL0:=Qh hL;have HB:=Qh hB;have HRt:=Qh hr;have H10:=Qh hl10;obtain ⟨i0,hi0,hz0,hz1,hz2⟩:=info_parts3 infoStr;generalize hn:l.length=n at *;have HN:=Qh hn;clear hB hT hr hL hn hl10;go_enter Tryz.func19,Tryz.ntmps19;go_wp2_with (first|(refine Qc (by rfl) _ rfl _ rfl _ (HP1.out) ?_)|(refine Qd (by rfl) _ rfl _ rfl _ (HP1.out) ?_))
 refine (HC.out _ HT.out.tabm.tabs).mono ?_;rintro e w2 ⟨rfl,k1⟩;have HK3:=Qh (HK1.out.trans k1);have HP3:=Qh (HP1.out.kept k1);clear k1;go_wp2
 go_loopw [7,19] (fun t7 t19 wr=>∃ (k:Nat) (q:Ps),k≤n∧t19=.int .i64 k∧endR p (l.take k)=some q∧Brd q.B∧pwI q=0∧PAt wr w.heap.size q∧OwnsT wr (w.heap.size+1) t7 (Jp p (l.take k))∧Kept w wr) (fun _ t19 _=>n-(intOf t19).toNat)
 case atStart=>exact ⟨0,p,Nat.zero_le _,rfl,by simp [endR],HB.out,HRt.out,HP3.out,World.ownsRow_nil _ _ _ _,HK3.out⟩
 case round =>
  obtain ⟨k,q,hk,rfl,hE,hqB,hqr,hP,hown,hK⟩:=hrel;have HE:=Qh hE;have HPr:=Qh hP;have HO:=Qh hown;have HK:=Qh hK;have HTr:=Qh (hT'.out.kept hK);have hql:Hid (q.B.length=64):=hqB.1;have HLn:=Qh (notesL_len (l.take k) p);obtain ⟨a7,c7,rfl⟩:=OwnsT.slice' hown;clear hE hP hown;by_cases hlt:k<n
  ·have hlt':(k:Int)<(n:Int):=by omega
   obtain ⟨x,hx⟩:∃ x,l[k]?=some x:=⟨_,List.getElem?_eq_getElem (by have:=HN.out;omega)⟩;obtain ⟨off,cap,he,hc1,hc2,h3⟩:=HL0.out.full (by have:=HN.out;omega);rw [HN.out] at he hc1;injection he with he1 he2 he3
   subst he1 he3;unfold maxLen at hc2;have HX:=Qh hx;have HRx:=Qh (range_i (Yf h3 hK) hx);have KB0:=Qh ((Kept.refl wr).alloc (.cells (ml x).toArray 28));have HMb:=Qh (MAt.new wr x);have HRn:=Qh (RAt.range HMb.out);have HKb:=Qh (hK.trans KB0.out);have HPb:=Qh (HPr.out.kept KB0.out);have HTb:=Qh (HTr.out.kept KB0.out);have HOb:=Qh (HO.out.kept KB0.out);clear h3 hx hK he2
   cases hl:legB q x
   ·have HSh:=Qh (fun w hT=>nshort_no q hqB x hqr hl w hT)
    have HV:=Qh (endR_stop HE.out HX.out hl);clear hl hqB hqr;generalize (Jp p (l.take k)).length=N at *;go_wp2_with (first|((with_reducible refine Qn rfl _ rfl g0 (off+k*3) ?_ x HRx.out ?_);exact rfl)|(with_reducible refine Ql rfl rfl ?_)|((with_reducible refine Qg rfl _ _ rfl Zm x ?_ ?_ ?_);exact rfl;exact rfl)|((with_reducible refine Qn rfl _ rfl wr.heap.size 0 ?_ x HRn.out ?_);exact rfl)|(refine Qc (by rfl) _ rfl _ rfl _ HPb.out ?_))
    refine (HSh.out _ HTb.out).mono ?_;rintro e w4 ⟨rfl,k4⟩;have HK4:=Qh (HKb.out.trans k4);clear k4;go_wp2;go_ret2;refine ⟨_,by unfold lnE;rw [HV.out];rfl,?_,HK4.out⟩;unfold lnL;rw [HV.out];exact World.ownsRow_nil _ _ _ _
   ·have HSh:=Qh (fun w hT=>nshort_yes q hqB x hqr hl w hT)
    have HNx:=Qh (notesL_next HE.out HX.out);have HV:=Qh (endR_next HE.out HX.out hl);obtain ⟨hq1,hq2,hok⟩:=Yg hqB hqr hl;have HAf:=Qh (fun w hT=>after_is q hqB x hok hq2.1 w hT);have HQ1:=Qh hq1;have HQ2:=Qh hq2;have hq2l:Hid ((behP q x).B.length=64):=hq2.1;clear hl hqB hqr hq1 hq2 hok;generalize behP q x=q' at *;generalize ntB q x=S at *;have HLe:Hid ((Jp p (l.take k)).length≤10):=by have:=HLn.out;rw [List.length_take] at this;have:=H10.out;show _≤_;omega
    generalize hNn:(Jp p (l.take k)).length=N at *;go_wp2_with (first|((with_reducible refine Qn rfl _ rfl g0 (off+k*3) ?_ x HRx.out ?_);exact rfl)|(with_reducible refine Ql rfl rfl ?_)|((with_reducible refine Qg rfl _ _ rfl Zm x ?_ ?_ ?_);exact rfl;exact rfl)|((with_reducible refine Qn rfl _ rfl wr.heap.size 0 ?_ x HRn.out ?_);exact rfl)|(refine Qc (by rfl) _ rfl _ rfl _ HPb.out ?_))
    refine (HSh.out _ HTb.out).mono ?_;rintro e w4 ⟨rfl,k4⟩;have HK4:=Qh (HKb.out.trans k4);have HP4:=Qh (HPb.out.kept k4);have HT4:=Qh (HTb.out.kept k4);have HO4:=Qh (HOb.out.kept k4);have HM4:=Qh (MAt.kept HMb.out k4);clear k4;have HKA:=Qh (HK4.out.alloc (.cells #[.string S] 9));have HOA:=Qh (HO4.out.kept ((Kept.refl _).alloc (.cells #[.string S] 9)));have HPA:=Qh (HP4.out.kept ((Kept.refl _).alloc (.cells #[.string S] 9)));have HMA:=Qh (MAt.kept HM4.out ((Kept.refl _).alloc (.cells #[.string S] 9)));have HSz:=Qh (HK4.out.size);have HPsz:=Qh (Yc HP4.out.at_);go_wp2_with (at_builtin;refine wpList_append_own _ rfl _ _ 43 rfl (w.heap.size+1) 9 i0 (.string ⟨#[]⟩) 1 16 Tryz.underlying43 hi0 hz0 hz1 hz2 rfl (by decide) _ _ _ rfl (by have:=HOA.out;unfold OwnsT at this;rw [hNn] at this;exact this) ⟨w4.heap.size,0,none⟩ 1 1 [.string S] rfl rfl ?c1 ?c2 ?c3 ?c4 ?c5 ?_)
    case c1 =>
     intro j u hj
     match j,hj with
     | 0,hj=>simp at hj;subst hj;simp [Addr.add]
    case c2=>intro u hu;simp at hu;subst hu;rfl
    case c3=>unfold maxLen;have:=HLe.out;omega
    case c4=>have:=HLe.out;omega
    case c5=>have:=HPsz.out;simp;omega
    intro v' w5 hown' hgrow _
    have HO5:Hid (OwnsT w5 (w.heap.size+1) v' (Jp p (l.take (k+1)))):=by
     refine Qh ?_;unfold OwnsT;rw [HNx.out,tl_snoc,List.length_append,hNn];exact hown'
    have HP5:=Qh (PAt.grown HPA.out HOA.out hgrow (Nat.lt_succ_self _));have HK5:Hid (Kept w w5):=HKA.out.grownBy hgrow (fun g hgv=>by have:=(World.ownsRow.lt HOA.out g hgv).1;omega);have HM5:Hid (MAt w5 wr.heap.size x):=⟨(hgrow.block _ (Yc HMA.out.at_) (fun e=>MAt.ne_text HMA.out HOA.out e)).trans HMA.out.at_⟩;have HT5:=Qh (hT'.out.kept HK5.out);obtain ⟨a',c',rfl⟩:=OwnsT.slice' HO5.out;clear hown' hgrow hNn;generalize (Jp p (l.take (k+1))).length=N2 at *;go_wp2_with (first|(refine Qc (by rfl) _ rfl _ rfl _ HP5.out ?_)|(refine Qe (by rfl) _ rfl _ rfl _ HM5.out ?_))
    refine (HAf.out _ HT5.out.tabm).mono ?_;rintro e w6 ⟨rfl,k6⟩;have HP6:=Qh (HP5.out.kept k6);have HK6:=Qh (HK5.out.trans k6);have HO6:=Qh (HO5.out.kept k6);clear k6;go_wp2_with (refine Yd rfl _ _ rfl w.heap.size q q' HP6.out hq2l.out rfl rfl ?_)
    go_roundw
    case rel=>exact ⟨k+1,q',by omega,by go_num,HV.out,HQ2.out,HQ1.out,HP6.out.setRow hq2l.out,OwnsT.other HO6.out (fun j hj _=>setRow_other _ _ _ _ (by omega)),HK6.out.setP _⟩
    case measure=>simp [intOf];omega
  ·clear hK
   obtain rfl:k=n:=by omega
   have HEn:Hid (endR p l=some q):=by have:=HE.out;rw [← HN.out,List.take_length] at this;exact this
   have HEq:Hid (Jp p (l.take k)=Jp p l):=by show _=_;rw [show l.take k=l by rw [← HN.out,List.take_length]]
   go_wp2;go_ret2;refine ⟨_,by unfold lnE;rw [HEn.out];rfl,?_,HK.out⟩;unfold lnL;rw [HEn.out];show OwnsT _ _ _ (Jp p l);rw [← HEq.out];exact HO.out
end Go.Proofs.YtlpeiolgcaddjaaGreatDoor
namespace Go.Proofs.YtlpeiolgcaddjaaGreatDoor
open Go.ChangeShapes Go.WideShapes Go.ChangeAt Go.RowKit
open Go.Joins Go.Deep
set_option linter.unusedVariables false
set_option linter.unusedSimpArgs false
set_option maxRecDepth 100000
section
variable {H:Type} {enc:TypeId × Value→H}
theorem trod_mv {W:World} {base:Nat} {sp:Nat→Bool} {hd:Bool} {fuel:Nat} {l:List Value} {x:DataW H × List MemPlace}
  (hl:l.length=3) (hf:DataW.trod enc Tryz.prog W base sp hd fuel 28 l=some x):∃ m,MvW m∧l=ml m∧x=(dM H m,[]):=by
 obtain ⟨y0,y1,y2,n,hx,hlen,h0,h1,h2⟩:=trod_struct3 Tryz.underlying28 hf;rw [Yk] at h0 h1 h2;obtain ⟨f,e0,rfl,w0⟩:=DataW.trod_int Tryz.underlying3 h0;obtain ⟨t,e1,rfl,w1⟩:=DataW.trod_int Tryz.underlying3 h1;obtain ⟨p,e2,rfl,w2⟩:=DataW.trod_int Tryz.underlying3 h2;refine ⟨⟨f,t,p⟩,⟨w0,w1,w2⟩,?_,?_⟩
 ·match l,hl with
  | [a,b,c],_ =>
   have q0:a=.int .i64 f:=by simpa using e0
   have q1:b=.int .i64 t:=by simpa using e1
   have q2:c=.int .i64 p:=by simpa using e2
   rw [q0,q1,q2];rfl
 ·rw [hx];rfl
theorem open_mvs {W:World} {r:Reach} {b0:Nat} {v:Value} {d:DataW H} {q:List MemPlace}
  (hv:Value.okWide Tryz.prog W r b0 38 v) (h:DataW.Trod enc Tryz.prog W 0 (fun _=>true) true 38 v d q) :
  ∃ (L:List Mv) (g:Nat),LsM W g v L∧∀ W',Kept W W'→DataW.Trod enc Tryz.prog W' 0 (fun b=>decide (b<W.heap.size)) true 38 v d q:=by
 obtain ⟨fuel,hf⟩:=h;obtain ⟨a0,len0,cap0,rfl⟩:=okWide_slice Tryz.underlying38 hv;have hc:(Value.slice a0 len0 cap0).cells.toList=[.slice a0 len0 cap0]:=rfl;rw [hc] at hf;rcases open_slice Tryz.underlying38 hf with ⟨e,hx⟩|⟨a,len,cap,m,n,D,Pl,hcs,hb,hl,hm,hmm,hx,hi⟩
 ·have e':Value.slice a0 len0 cap0=.slice none 0 0:=by simpa using e
  rw [e'];simp only [Prod.mk.injEq] at hx;rw [hx.1,hx.2];exact ⟨[],0,.inl ⟨rfl,rfl⟩,fun W' _=>shut_slice_nil Tryz.underlying38⟩
 ·have e':Value.slice a0 len0 cap0=.slice (some a) len cap:=by simpa using hcs
  rw [e'] at hv ⊢;have hmc:m=cap:=by simpa using hmm
  rw [hmc] at hx hi
  have hsp:a.spot=none∧a.block<W.heap.size:=by
   have hv':Cell.okWide Tryz.prog W r b0 38 (.slice (some a) len cap):=by simpa [Value.okWide,Tryz.underlying38] using hv
   have hv2:Cell.ok Tryz.prog W r b0 38 (.slice (some a) len cap):=by simpa [Cell.okWide,Tryz.underlying38] using hv'
   have hv3:len≤cap∧(cap:Int)≤IntKind.i64.max∧W.has Tryz.prog r b0 a 28 cap:=by simpa [Cell.ok,Tryz.underlying38] using hv2
   obtain ⟨_,_,_,h1,row,cells,h2,_⟩:=hv3;refine ⟨h1,?_⟩;unfold World.shape? at h2;rcases Nat.lt_or_ge a.block W.heap.size with h|h
   ·exact h
   ·rw [Array.getElem?_eq_none h] at h2
    cases h2
  obtain ⟨g,off,sp⟩:=a;obtain ⟨rfl,hgl⟩:=hsp;have c28:Tryz.prog.cellsOf 28=3:=cells28;rw [c28] at hx hi;have hadd:∀ k,(⟨g,off,none⟩:Addr).add k=⟨g,off+k,none⟩:=fun k=>by unfold Addr.add;split <;> simp_all
  have each:∀ i,i<cap→∃ mv,MvW mv∧W.rangeAt g (off+i*3) (ml mv)∧D i=dM H mv∧Pl i=[]:=by
   intro i hic;obtain ⟨cs',h1,h2⟩:=hi i hic;obtain ⟨_,hcl,hat⟩:=World.cells?_some h1;obtain ⟨mv,hw,rfl,hd⟩:=trod_mv hcl h2;simp only [Prod.mk.injEq] at hd;refine ⟨mv,hw,fun j u hu=>?_,hd.1,hd.2⟩;have hj:j<3:=(List.getElem?_eq_some_iff.1 hu).1;have h3:=hat j hj;rw [hadd,show (⟨g,off+i*3,none⟩:Addr).add j=⟨g,off+i*3+j,none⟩ from by unfold Addr.add;split <;> simp_all] at h3;rw [h3,hu]
  haveI:Inhabited Mv:=⟨⟨0,0,0⟩⟩
  obtain ⟨M,hM⟩:=choose_lt (α:=Mv) (p:=fun i mv=>MvW mv∧W.rangeAt g (off+i*3) (ml mv)∧D i=dM H mv∧Pl i=[]) each;refine ⟨(List.range len).map M,g,.inr ⟨off,cap,by simp,by simpa using hl,hm,fun j u hu=>?_⟩,fun W' k=>?_⟩
  ·have hjl:=(List.getElem?_eq_some_iff.1 hu).1
   rw [mlL_len,List.length_map,List.length_range] at hjl;have hq:j / 3<len:=by omega
   have hat:((List.range len).map M)[j / 3]?=some (M (j / 3)):=by simp [hq]
   have h2:=mlL_at _ (j / 3) (j % 3) _ hat (Nat.mod_lt _ (by decide));rw [show 3*(j / 3)+j % 3=j by omega,hu] at h2;have:=(hM (j / 3) (by omega)).2.1 (j % 3) u h2.symm;rwa [show off+j / 3*3+j % 3=off+j by omega] at this
  ·simp only [Prod.mk.injEq] at hx
   rw [hx.1,hx.2]
   have:=shut_slice_whole (enc:=enc) (P:=Tryz.prog) (w:=W') (base:=0) (spare:=fun b=>decide (b<W.heap.size)) (held:=true) (a:=⟨g,off,none⟩) Tryz.underlying38 (Nat.zero_le _) hl hm (by simpa using hgl) D Pl (fun i hic=>by
    obtain ⟨h1,h2,h3,h4⟩:=hM i hic;obtain ⟨nn,hnn⟩:=shut_move (enc:=enc) (W:=W') (base:=0) (sp:=fun b=>decide (b<W.heap.size)) (hd:=true) (M i) h1;refine ⟨ml (M i),nn,?_,by rw [h3,h4];exact hnn⟩;rw [c28,hadd];refine World.cells?_of_each (Nat.zero_le _) rfl (fun j hj=>?_);rw [show (⟨g,off+i*3,none⟩:Addr).add j=⟨g,off+i*3+j,none⟩ from by unfold Addr.add;split <;> simp_all];obtain ⟨u,hu⟩:∃ u,(ml (M i))[j]?=some u:=⟨_,List.getElem?_eq_getElem (by exact hj)⟩;rw [hu];exact Qa k (h2 j u hu))
   rw [c28] at this;exact this
end
end Go.Proofs.YtlpeiolgcaddjaaGreatDoor
namespace Go.Proofs.YtlpeiolgcaddjaaGreatDoor
open Go.RowKit
set_option linter.unusedVariables false
set_option linter.unusedSimpArgs false
set_option maxRecDepth 100000
theorem notes_at {p:Ps}:∀ {l:List Mv} {k:Nat} {q:Ps} {m:Mv},endR p (l.take k)=some q→l[k]?=some m→(Jp p l)[k]?=some (ntB q m):=by
 intro l k q m h hm;obtain ⟨h1,e⟩:=List.getElem?_eq_some_iff.1 hm;have e1:=notesL_next h hm;have hl:(Jp p (l.take k)).length=k:=by rw [notesL_len,List.length_take];omega
 have e2:∀ (r:List Mv) (p:Ps) (j:Nat),Jp p (r.take j)=(Jp p r).take j:=by
  intro r
  induction r with
  | nil=>intro p j;simp [Jp]
  | cons x r ih =>
   intro p j
   cases j with
   | zero=>rfl
   | succ j=>rw [List.take_succ_cons,Jp,Jp,List.take_succ_cons,ih]
 rw [e2,e2] at e1;have hk:k<(Jp p l).length:=by rw [notesL_len];exact h1
 rw [List.take_succ_eq_append_getElem hk] at e1;have:=List.append_cancel_left e1;rw [List.getElem?_eq_getElem hk];injection this with a
 rw [a]
theorem take_end {p:Ps} {l:List Mv} {k:Nat} {q:Ps} (h:endR p (l.take k)=some q) (hk:l.length≤k):endR p l=some q:=by
 rw [List.take_of_length_le hk] at h;exact h
set_option maxHeartbeats 8000000 in
theorem line_long (p:Ps) (hB:Brd p.B) (g0:Nat) (v:Value) (l:List Mv) (h10:10<l.length) (w:World) (hT:TabG w) (hL:LsM w g0 v l) :
  Calls Tryz.prog 6 #[.agg (pl p).toArray,v] w fun e w'=>e=.returned (.bool true)∧Kept w w':=by
 obtain ⟨av,cv,rfl⟩:=hL.slice;have HP:=Qh (PAt.new w hB.1);have HK0:=Qh ((Kept.refl w).alloc (.cells (pl p).toArray 26));have HT:=Qh (hT.kept HK0.out);have HL0:=Qh hL;have hq:(10:Int)<(l.length:Int):=by omega
 clear h10 hB hT hL HL0;generalize l.length=n at *;go_enter Tryz.func6,Tryz.ntmps6;go_wp2_with fail
 refine (Qaq _ HT.out).mono ?_;rintro e w1 ⟨rfl,k1⟩;have HK1:=Qh (HK0.out.trans k1);have HP1:=Qh (HP.out.kept k1);have HT1:=Qh (HT.out.kept k1);clear k1;go_wp2;go_ret;exact ⟨rfl,HK1.out⟩
set_option maxHeartbeats 8000000 in
theorem line_wrong (p:Ps) (hB:Brd p.B) (g0:Nat) (v:Value) (l:List Mv) (h10:l.length≤10) (h:pwI p≠0) (w:World) (hT:TabG w) (hL:LsM w g0 v l) :
  Calls Tryz.prog 6 #[.agg (pl p).toArray,v] w fun e w'=>e=.returned (.bool true)∧Kept w w':=by
 obtain ⟨av,cv,rfl⟩:=hL.slice;have HP:=Qh (PAt.new w hB.1);have HK0:=Qh ((Kept.refl w).alloc (.cells (pl p).toArray 26));have HT:=Qh (hT.kept HK0.out);have HL0:=Qh hL;have hq:¬ (10:Int)<(l.length:Int):=by omega
 have hq':decide ((10:Int)<(l.length:Int))=false:=decide_eq_false hq;have HWr:=Qh (fun w=>Qaz p hB w);have HLn:=Qh (fun w hT hL=>nline_wrong g0 (.slice av l.length cv) l h10 p hB h w hT hL);have hv:(pwI p != 0)=true:=bne_iff_ne.2 h;generalize pwI p=v at *;clear h10 hB hT h hL;generalize hn:l.length=n at *;clear hn;go_enter Tryz.func6,Tryz.ntmps6;go_wp2_with fail
 refine (Qaq _ HT.out).mono ?_;rintro e w1 ⟨rfl,k1⟩;have HK1:=Qh (HK0.out.trans k1);have HP1:=Qh (HP.out.kept k1);have HT1:=Qh (HT.out.kept k1);clear k1;go_wp2_with (refine Qc (by rfl) _ rfl _ rfl _ HP1.out ?_)
 refine (HLn.out _ HT1.out (HL0.out.kept HK1.out)).mono ?_;rintro e w2 ⟨v2,rfl,hown,k2⟩;obtain ⟨a2,c2,rfl⟩:=OwnsT.slice' hown;have HO2:=Qh hown;have HK2:=Qh (HK1.out.trans k2);have HP2:=Qh (HP1.out.kept k2);clear k2 hown;go_wp2_with (refine Qc (by rfl) _ rfl _ rfl _ HP2.out ?_)
 refine (HWr.out _).mono ?_;rintro e w3 ⟨rfl,k3⟩;have HK3:=Qh (HK2.out.trans k3);have HP3:=Qh (HP2.out.kept k3);have HO3:=Qh (HO2.out.kept k3);clear k3;go_wp2;go_ret;exact ⟨rfl,HK3.out⟩
set_option maxHeartbeats 8000000 in
theorem line_none (p:Ps) (hB:Brd p.B) (g0:Nat) (v:Value) (l:List Mv) (h10:l.length≤10) (hr:pwI p=0) (hs:endR p l=none) (w:World) (hT:TabG w) (hL:LsM w g0 v l) :
  Calls Tryz.prog 6 #[.agg (pl p).toArray,v] w fun e w'=>e=.returned (.bool true)∧Kept w w':=by
 obtain ⟨av,cv,rfl⟩:=hL.slice;have HP:=Qh (PAt.new w hB.1);have HK0:=Qh ((Kept.refl w).alloc (.cells (pl p).toArray 26));have HT:=Qh (hT.kept HK0.out);have HL0:=Qh hL;have hq:¬ (10:Int)<(l.length:Int):=by omega
 have hq':decide ((10:Int)<(l.length:Int))=false:=decide_eq_false hq;have HWr:=Qh (fun w=>Qaz p hB w);have HLn:=Qh (fun w hT hL=>nline_right g0 (.slice av l.length cv) l h10 p hB hr w hT hL);rw [show lnL p l=[] by unfold lnL;rw [hs];rfl,show lnE p l=5 by unfold lnE;rw [hs];rfl] at HLn;rw [hr] at HWr;have HS:=Qh hs;have HB:=Qh hB;have HRt:=Qh hr;have H10:=Qh h10;generalize hn:l.length=n at *;have HN:=Qh hn;clear h10 hB hT hr hs hL hn;go_enter Tryz.func6,Tryz.ntmps6;go_wp2_with fail
 refine (Qaq _ HT.out).mono ?_;rintro e w1 ⟨rfl,k1⟩;have HK1:=Qh (HK0.out.trans k1);have HP1:=Qh (HP.out.kept k1);have HT1:=Qh (HT.out.kept k1);clear k1;go_wp2_with (refine Qc (by rfl) _ rfl _ rfl _ HP1.out ?_)
 refine (HLn.out _ HT1.out (HL0.out.kept HK1.out)).mono ?_;rintro e w2 ⟨v2,rfl,hown,k2⟩;obtain ⟨a2,c2,rfl⟩:=OwnsT.slice' hown;have HO2:=Qh hown;have HK2:=Qh (HK1.out.trans k2);have HP2:=Qh (HP1.out.kept k2);clear k2 hown;go_wp2_with (refine Qc (by rfl) _ rfl _ rfl _ HP2.out ?_)
 refine (HWr.out _).mono ?_;rintro e w3 ⟨rfl,k3⟩;have HK3:=Qh (HK2.out.trans k3);have HP3:=Qh (HP2.out.kept k3);have HO3:=Qh (HO2.out.kept k3);clear k3;go_wp2
 go_loopw [35] (fun t35 wr=>∃ (k:Nat) (q:Ps),k≤n∧t35=.int .i64 k∧endR p (l.take k)=some q∧Brd q.B∧pwI q=0∧PAt wr w.heap.size q∧KB w3 w.heap.size wr) (fun t35 _=>n-(intOf t35).toNat)
 case atStart=>exact ⟨0,p,Nat.zero_le _,rfl,by simp [endR],HB.out,HRt.out,HP3.out,KB.refl _ _⟩
 case round =>
  obtain ⟨k,q,hk,rfl,hE,hqB,hqr,hP,hKB⟩:=hrel;have HE:=Qh hE;have HPr:=Qh hP;have HKB:=Qh hKB;have HKr:=Qh (hKB.below HK3.out (Nat.le_refl _));have hql:Hid (q.B.length=64):=hqB.1;clear hE hP;by_cases hlt:k<n
  ·have hlt':(k:Int)<(n:Int):=by omega
   obtain ⟨x,hx⟩:∃ x,l[k]?=some x:=⟨_,List.getElem?_eq_getElem (by have:=HN.out;omega)⟩;obtain ⟨off,cap,he,hc1,hc2,h3⟩:=HL0.out.full (by have:=HN.out;omega);rw [HN.out] at he hc1;injection he with he1 he2 he3
   subst he1 he3;unfold maxLen at hc2;have HX:=Qh hx;have HRx:=Qh (range_i (Yf h3 HKr.out) hx);have KB0:=Qh ((Kept.refl wr).alloc (.cells (ml x).toArray 28));have HMb:=Qh (MAt.new wr x);have HRn:=Qh (RAt.range HMb.out);have HPb:=Qh (HPr.out.kept KB0.out);have HLg:=Qh (fun w=>rlegal_is q hqB hqr x w);clear h3 hx hKB he2
   cases hl:legB q x
   ·rw [hl] at HLg
    have HV:=Qh (endR_stop HE.out HX.out hl);clear hl hqB hqr;go_wp2_with (first|((with_reducible refine Qn rfl _ rfl g0 (off+k*3) ?_ x HRx.out ?_);exact rfl)|(with_reducible refine Ql rfl rfl ?_)|((with_reducible refine Qg rfl _ _ rfl Zm x ?_ ?_ ?_);exact rfl;exact rfl)|((with_reducible refine Qn rfl _ rfl wr.heap.size 0 ?_ x HRn.out ?_);exact rfl)|(refine Qc (by rfl) _ rfl _ rfl _ HPb.out ?_))
    refine (HLg.out _).mono ?_;rintro e w4 ⟨rfl,k4⟩;have HK4:=Qh ((HKr.out.trans KB0.out).trans k4);clear k4;go_wp2;go_ret;exact ⟨rfl,HK4.out⟩
   ·rw [hl] at HLg
    have HBe:=Qh (fun w=>rbeh_is q hqB hqr x hl w);have HV:=Qh (endR_next HE.out HX.out hl);obtain ⟨hq1,hq2,_⟩:=Yg hqB hqr hl;have HQ1:=Qh hq1;have HQ2:=Qh hq2;have hq2l:Hid ((behP q x).B.length=64):=hq2.1;clear hl hqB hqr hq1 hq2;generalize behP q x=q' at *;go_wp2_with (first|((with_reducible refine Qn rfl _ rfl g0 (off+k*3) ?_ x HRx.out ?_);exact rfl)|(with_reducible refine Ql rfl rfl ?_)|((with_reducible refine Qg rfl _ _ rfl Zm x ?_ ?_ ?_);exact rfl;exact rfl)|((with_reducible refine Qn rfl _ rfl wr.heap.size 0 ?_ x HRn.out ?_);exact rfl)|(refine Qc (by rfl) _ rfl _ rfl _ HPb.out ?_))
    refine (HLg.out _).mono ?_;rintro e w4 ⟨rfl,k4⟩;have HP4:=Qh (HPb.out.kept k4);have HM4:=Qh (MAt.kept HMb.out k4);have HB4:=Qh (HKB.out.kept (KB0.out.trans k4));have KK4:=Qh (KB0.out.trans k4);clear k4;go_wp2;refine wp_region_held_drew (S:=Kept _) (by kernel_rfl) (Kept.refl _).drew (fun Qj=>?_);refine rT 0 51 (.int .i64 5) rfl rfl Qj ?_;simp only [Act.put,sA,sZ,sU];refine rT 1 52 (.bool false) rfl rfl Qj ?_;simp only [pA,pN,sZ,sU];refine rT 2 53 (.bool false) rfl rfl Qj ?_;simp only [pA,pN,sZ,sU];refine rN 3 54 rfl rfl Qj ?_;simp only [pA,pN,sZ,sU];refine rN 4 55 rfl rfl Qj ?_;simp only [pA,pN,sZ,sU];refine rN 5 56 rfl rfl Qj ?_;simp only [pA,pN,sZ,sU];refine rN 6 57 rfl rfl Qj ?_;simp only [pA,pN,sZ,sU];refine rN 7 58 rfl rfl Qj ?_;simp only [pA,pN,sZ,sU];refine rN 8 59 rfl rfl Qj ?_;simp only [pA,pN,sZ,sU];refine rN 9 60 rfl rfl Qj ?_;simp only [pA,pN,sZ,sU];refine rN 10 61 rfl rfl Qj ?_;simp only [pA,pN,sZ,sU];refine rN 11 62 rfl rfl Qj ?_;simp only [pA,pN,sZ,sU];refine rN 12 63 rfl rfl Qj ?_;simp only [pA,pN,sZ,sU];refine rN 13 64 rfl rfl Qj ?_;simp only [pA,pN,sZ,sU];refine rN 14 65 rfl rfl Qj ?_;simp only [pA,pN,sZ,sU];refine rN 15 66 rfl rfl Qj ?_;simp only [pA,pN,sZ,sU];refine rN 16 67 rfl rfl Qj ?_;simp only [pA,pN,sZ,sU];refine rN 17 68 rfl rfl Qj ?_;simp only [pA,pN,sZ,sU];refine rT 18 69 (.bool false) rfl rfl Qj ?_;simp only [pA,pN,sZ,sU];refine wpAnyH_done (by kernel_rfl) ?_ _;have HP5:=Qh (HP4.out.kept Qj);have HM5:=Qh (MAt.kept HM4.out Qj);have HB5:=Qh (HB4.out.kept Qj);clear Qj;go_wp2_with (first|(refine Qc (by rfl) _ rfl _ rfl _ HP5.out ?_)|(refine Qe (by rfl) _ rfl _ rfl _ HM5.out ?_))
    refine (HBe.out _).mono ?_;rintro e w6 ⟨rfl,k6⟩;have HP6:=Qh (HP5.out.kept k6);have HB6:=Qh (HB5.out.kept k6);clear k6;go_wp2_with (refine Yd rfl _ _ rfl w.heap.size q q' HP6.out hq2l.out rfl rfl ?_)
    go_roundw
    case rel=>exact ⟨k+1,q',by omega,by go_num,HV.out,HQ2.out,HQ1.out,HP6.out.setRow hq2l.out,KB.row HB6.out _⟩
    case measure=>simp [intOf];omega
  ·clear hKB
   obtain rfl:k=n:=by omega
   exfalso;have:=take_end HE.out (Nat.le_of_eq HN.out);rw [HS.out] at this
   cases this
set_option maxHeartbeats 8000000 in
theorem line_some (p:Ps) (hB:Brd p.B) (g0:Nat) (v:Value) (l:List Mv) (h10:l.length≤10) (hr:pwI p=0) (qe:Ps) (hs:endR p l=some qe) (w:World) (hT:TabG w) (hL:LsM w g0 v l) :
  Calls Tryz.prog 6 #[.agg (pl p).toArray,v] w fun e w'=>e=.returned (.bool true)∧Kept w w':=by
 obtain ⟨av,cv,rfl⟩:=hL.slice;have HP:=Qh (PAt.new w hB.1);have HK0:=Qh ((Kept.refl w).alloc (.cells (pl p).toArray 26));have HT:=Qh (hT.kept HK0.out);have HL0:=Qh hL;have hq:¬ (10:Int)<(l.length:Int):=by omega
 have hq':decide ((10:Int)<(l.length:Int))=false:=decide_eq_false hq;have HWr:=Qh (fun w=>Qaz p hB w);have HLn:=Qh (fun w hT hL=>nline_right g0 (.slice av l.length cv) l h10 p hB hr w hT hL);rw [show lnL p l=Jp p l by unfold lnL;rw [hs];rfl,show lnE p l=0 by unfold lnE;rw [hs];rfl] at HLn;rw [hr] at HWr;have HS:=Qh hs;have HB:=Qh hB;have HRt:=Qh hr;have H10:=Qh h10;generalize hn:l.length=n at *;have HN:=Qh hn;clear h10 hB hT hr hs hL hn;go_enter Tryz.func6,Tryz.ntmps6;go_wp2_with fail
 refine (Qaq _ HT.out).mono ?_;rintro e w1 ⟨rfl,k1⟩;have HK1:=Qh (HK0.out.trans k1);have HP1:=Qh (HP.out.kept k1);have HT1:=Qh (HT.out.kept k1);clear k1;go_wp2_with (refine Qc (by rfl) _ rfl _ rfl _ HP1.out ?_)
 refine (HLn.out _ HT1.out (HL0.out.kept HK1.out)).mono ?_;rintro e w2 ⟨v2,rfl,hown,k2⟩;obtain ⟨a2,c2,rfl⟩:=OwnsT.slice' hown;have HO2:=Qh hown;have HK2:=Qh (HK1.out.trans k2);have HP2:=Qh (HP1.out.kept k2);clear k2 hown;go_wp2_with (refine Qc (by rfl) _ rfl _ rfl _ HP2.out ?_)
 refine (HWr.out _).mono ?_;rintro e w3 ⟨rfl,k3⟩;have HK3:=Qh (HK2.out.trans k3);have HP3:=Qh (HP2.out.kept k3);have HO3:=Qh (HO2.out.kept k3);clear k3;have HNl:Hid ((Jp p l).length=n):=by show _=_;rw [notesL_len];exact HN.out
 rw [HNl.out];go_wp2
 go_loopw [35] (fun t35 wr=>∃ (k:Nat) (q:Ps),k≤n∧t35=.int .i64 k∧endR p (l.take k)=some q∧Brd q.B∧pwI q=0∧PAt wr w.heap.size q∧KB w3 w.heap.size wr) (fun t35 _=>n-(intOf t35).toNat)
 case atStart=>exact ⟨0,p,Nat.zero_le _,rfl,by simp [endR],HB.out,HRt.out,HP3.out,KB.refl _ _⟩
 case round =>
  obtain ⟨k,q,hk,rfl,hE,hqB,hqr,hP,hKB⟩:=hrel;have HE:=Qh hE;have HPr:=Qh hP;have HKB:=Qh hKB;have HKr:=Qh (hKB.below HK3.out (Nat.le_refl _));have hql:Hid (q.B.length=64):=hqB.1;clear hE hP;by_cases hlt:k<n
  ·have hlt':(k:Int)<(n:Int):=by omega
   obtain ⟨x,hx⟩:∃ x,l[k]?=some x:=⟨_,List.getElem?_eq_getElem (by have:=HN.out;omega)⟩;obtain ⟨off,cap,he,hc1,hc2,h3⟩:=HL0.out.full (by have:=HN.out;omega);rw [HN.out] at he hc1;injection he with he1 he2 he3
   subst he1 he3;unfold maxLen at hc2;have HX:=Qh hx;have HRx:=Qh (range_i (Yf h3 HKr.out) hx);have KB0:=Qh ((Kept.refl wr).alloc (.cells (ml x).toArray 28));have HMb:=Qh (MAt.new wr x);have HRn:=Qh (RAt.range HMb.out);have HPb:=Qh (HPr.out.kept KB0.out);have HLg:=Qh (fun w=>rlegal_is q hqB hqr x w);clear h3 hx hKB he2
   cases hl:legB q x
   ·rw [hl] at HLg
    have HV:=Qh (endR_stop HE.out HX.out hl);clear hl hqB hqr;exfalso;rw [HS.out] at HV;exact absurd HV.out (by simp)
   ·rw [hl] at HLg
    have HBe:=Qh (fun w=>rbeh_is q hqB hqr x hl w);have HV:=Qh (endR_next HE.out HX.out hl);obtain ⟨hq1,hq2,_⟩:=Yg hqB hqr hl;have HQ1:=Qh hq1;have HQ2:=Qh hq2;have hq2l:Hid ((behP q x).B.length=64):=hq2.1;have HRs:=Qh (fun w=>rshort_is q hqB hqr x hl w);rw [show shB q x (legL q)++markB (behP q x)=ntB q x from rfl] at HRs;have HAt:=Qh (notes_at HE.out HX.out);have hzS:((ntB q x).toList == (ntB q x).toList)=true:=by simp
    generalize ntB q x=S at *;clear hl hqB hqr hq1 hq2;generalize behP q x=q' at *;go_wp2_with (first|((with_reducible refine Qn rfl _ rfl g0 (off+k*3) ?_ x HRx.out ?_);exact rfl)|(with_reducible refine Ql rfl rfl ?_)|((with_reducible refine Qg rfl _ _ rfl Zm x ?_ ?_ ?_);exact rfl;exact rfl)|((with_reducible refine Qn rfl _ rfl wr.heap.size 0 ?_ x HRn.out ?_);exact rfl)|(refine Qc (by rfl) _ rfl _ rfl _ HPb.out ?_))
    refine (HLg.out _).mono ?_;rintro e w4 ⟨rfl,k4⟩;have HP4:=Qh (HPb.out.kept k4);have HM4:=Qh (MAt.kept HMb.out k4);have HB4:=Qh (HKB.out.kept (KB0.out.trans k4));have KK4:=Qh (KB0.out.trans k4);clear k4;obtain ⟨gv,cvv,hv,hcv,hgv,hcells⟩:=OwnsT.all HO3.out (by have:=HNl.out;omega);have hbs:=(World.ownsRow.lt HO3.out gv (by rw [hv];rfl)).1;have hgn:gv≠w.heap.size:=by have:=HK1.out.size;omega
    rw [HNl.out] at hv;injection hv with hv1 hv2 hv3
    subst hv1 hv3;have hcS:=hcells k S HAt.out;rw [Nat.zero_add] at hcS;have HcS:=Qh (Qa KK4.out ((KB.cell HKB.out hgn hcS)));clear hcells hcS;go_wp2;refine wp_region_held_drew (S:=Kept _) (by kernel_rfl) (Kept.refl _).drew (fun Qj=>?_);refine rT 0 51 (.int .i64 0) rfl rfl Qj ?_;simp only [Act.put,sA,sZ,sU];refine rT 1 52 (.bool true) rfl rfl Qj ?_;simp only [pA,pN,sZ,sU];refine rT 2 53 (.bool true) rfl rfl Qj ?_;simp only [pA,pN,sZ,sU];refine rT 3 54 (.slice (some ⟨gv,0,none⟩) n c2) rfl rfl Qj ?_;simp only [pA,pN,sZ,sU];refine rT 4 55 (.int .i64 (n:Int)) rfl rfl Qj ?_;simp only [pA,pN,sZ,sU];refine rT 5 56 (.slice (some ⟨g0,off,none⟩) n cv) rfl rfl Qj ?_;simp only [pA,pN,sZ,sU];refine rT 6 57 (.int .i64 (n:Int)) rfl rfl Qj ?_;simp only [pA,pN,sZ,sU];refine rT 7 58 (.bool false) rfl rfl Qj ?_;simp only [pA,pN,sZ,sU];refine rT 8 59 (.bool false) rfl rfl Qj ?_;simp only [pA,pN,sZ,sU];refine rT 9 60 (.slice (some ⟨gv,0,none⟩) n c2) rfl rfl Qj ?_;simp only [pA,pN,sZ,sU];refine rT 10 61 (.int .i64 (k:Int)) rfl rfl Qj ?_;simp only [pA,pN,sZ,sU];refine rT 11 62 (.pointer (some ⟨gv,k,none⟩)) rfl rfl Qj ?_;simp only [pA,pN,sZ,sU];refine rC 12 63 (.string S) rfl rfl (fun _ h=>Qa h (HcS.out)) Qj ?_;simp only [pA,pN,sZ,sU];refine rY 13 64 rfl rfl (Qk (by rfl) _ rfl _ rfl q hql.out (fun _ h=>(HP4.out).kept h)) Qj ?_;simp only [pA,pN,sZ,sU];refine rY 14 65 rfl rfl (Qm (by rfl) _ rfl _ rfl x (fun _ h=>MAt.kept (HM4.out) h)) Qj ?_;simp only [pA,pN,sZ,sU];refine rR 15 rfl (fun K hK=>?_);rw [if_pos (by rfl)];go_simp;refine (HRs.out _).mono ?_;rintro e x1 ⟨rfl,gx1⟩;refine hK.out _ _ (Qj.trans gx1) (fun _=>?_);replace Qj:=Qj.trans gx1;clear hK K;refine rT 16 67 (.bool false) rfl rfl Qj ?_;simp only [pA,pN,sZ,sU];refine rT 17 68 (.bool false) rfl rfl Qj ?_;simp only [pA,pN,sZ,sU];refine rT 18 69 (.bool false) rfl rfl Qj ?_;simp only [pA,pN,sZ,sU];refine wpAnyH_done (by kernel_rfl) ?_ _;have HP5:=Qh (HP4.out.kept Qj);have HM5:=Qh (MAt.kept HM4.out Qj);have HB5:=Qh (HB4.out.kept Qj);clear Qj;go_wp2_with (first|(refine Qc (by rfl) _ rfl _ rfl _ HP5.out ?_)|(refine Qe (by rfl) _ rfl _ rfl _ HM5.out ?_))
    refine (HBe.out _).mono ?_;rintro e w6 ⟨rfl,k6⟩;have HP6:=Qh (HP5.out.kept k6);have HB6:=Qh (HB5.out.kept k6);clear k6;go_wp2_with (refine Yd rfl _ _ rfl w.heap.size q q' HP6.out hq2l.out rfl rfl ?_)
    go_roundw
    case rel=>exact ⟨k+1,q',by omega,by go_num,HV.out,HQ2.out,HQ1.out,HP6.out.setRow hq2l.out,KB.row HB6.out _⟩
    case measure=>simp [intOf];omega
  ·clear hKB
   obtain rfl:k=n:=by omega
   go_wp2;go_ret;exact ⟨rfl,HKr.out⟩
theorem walkNoteLine (p:Ps) (hB:Brd p.B) (g0:Nat) (v:Value) (l:List Mv) (w:World) (hT:TabG w) (hL:LsM w g0 v l) :
  Calls Tryz.prog 6 #[.agg (pl p).toArray,v] w fun e w'=>e=.returned (.bool true)∧Kept w w':=by
 by_cases h10:l.length≤10
 ·by_cases h:pwI p=0
  ·cases hs:endR p l with
   | none=>exact line_none p hB g0 v l h10 h hs w hT hL
   | some qe=>exact line_some p hB g0 v l h10 h qe hs w hT hL
  ·exact line_wrong p hB g0 v l h10 h w hT hL
 ·exact line_long p hB g0 v l (by omega) w hT hL
end Go.Proofs.YtlpeiolgcaddjaaGreatDoor
