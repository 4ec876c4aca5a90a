/- AtM · WaA · AtA · AtB: my texts, in their order. -/
import Derived.Test.YtlbipjmmlobofaaGreatDoorPkA10
import Derived.Test.YtlbipjmmlobofaaGreatDoorPkA27
import Derived.Laws.EntriesVeiled
namespace Go.Proofs.YtlbipjmmlobofaaGreatDoor
set_option linter.unusedVariables false
set_option linter.unusedSimpArgs false
def backW (way:Nat):Nat:=if way<4 then (way+2) % 4 else if way<8 then 4+(way+2) % 4 else 8+(way+4) % 8
theorem back_way {way:Nat} (h:way<16):backW way<16∧wayF (backW way)=-wayF way∧wayR (backW way)=-wayR way∧backW (backW way)=way∧(backW way<8↔way<8)∧¬ (wayF way=0∧wayR way=0):=by
 have:∀ i:Fin 16,backW i<16∧wayF (backW i)=-wayF i∧wayR (backW i)=-wayR i∧backW (backW i)=i∧(backW i<8↔(i:Nat)<8)∧¬ (wayF i=0∧wayR i=0):=by decide +kernel
 exact this ⟨way,h⟩
theorem conv_in {a f:Int} {i:Nat} (h0:0≤a) (h8:a<8) (h1:0≤a+((i:Int)+1)*f) (h2:a+((i:Int)+1)*f<8):0≤a+f∧a+f<8:=by
 rw [Int.add_mul,Int.one_mul] at h1 h2
 rcases Int.le_total 0 f with hf|hf
 ·have:=Int.mul_nonneg (show 0≤(i:Int) by omega) hf
  omega
 ·have:=Int.mul_nonneg (show 0≤(i:Int) by omega) (show 0≤-f by omega)
  rw [Int.mul_neg] at this
  omega
theorem succ_mul_ (j:Nat) (f:Int):(((j+1:Nat):Int)+1)*f=f+((j:Int)+1)*f:=by
 rw [Int.natCast_add,Int.add_mul ((j:Int)+((1:Nat):Int)),Int.one_mul]
 show ((j:Int)+1)*f+f=_
 omega
theorem rayN_at:∀ (n:Nat) (s f r:Int) (i:Nat) (x:Int),0≤s→s<64→((rayN n s f r)[i]?=some x↔i<n∧0≤x∧x<64∧x % 8=s % 8+((i:Int)+1)*f∧x / 8=s / 8+((i:Int)+1)*r)
 | 0,s,f,r,i,x=>fun _ _=>by simp [rayN]
 | n+1,s,f,r,i,x=>fun h0 h1=>by
  unfold rayN
  rcases stI_cases s f r with ⟨_,_,c,d,e,g,hs⟩|⟨hs,h⟩
  ·rw [if_neg (by omega)]
   cases i with
   | zero =>
    rw [List.getElem?_cons_zero,Option.some_inj]
    have e1:(((0:Nat):Int)+1)*f=f:=by rw [Int.natCast_zero,Int.zero_add,Int.one_mul]
    have e2:(((0:Nat):Int)+1)*r=r:=by rw [Int.natCast_zero,Int.zero_add,Int.one_mul]
    rw [e1,e2,hs]
    omega
   | succ j =>
    rw [List.getElem?_cons_succ,rayN_at n _ f r j x (by omega) (by omega),succ_mul_,succ_mul_,hs]
    generalize ((j:Int)+1)*f=u
    generalize ((j:Int)+1)*r=v
    omega
  ·rw [if_pos (by omega)]
   simp only [List.getElem?_nil,false_iff,reduceCtorEq]
   rintro ⟨_,x0,x1,e1,e2⟩
   have a:=conv_in (a:=s % 8) (f:=f) (i:=i) (by omega) (by omega) (by omega) (by omega)
   have b:=conv_in (a:=s / 8) (f:=r) (i:=i) (by omega) (by omega) (by omega) (by omega)
   omega
theorem near_far {f:Int} {i:Nat} (h:f≠0) (h1:-7≤((i:Int)+1)*f) (h2:((i:Int)+1)*f≤7):i≤6:=by
 rw [Int.add_mul,Int.one_mul] at h1 h2
 rcases Int.le_total 0 f with hf|hf
 ·have:=Int.mul_le_mul_of_nonneg_left (show 1≤f by omega) (show 0≤(i:Int) by omega)
  omega
 ·have:=Int.mul_le_mul_of_nonneg_left (show 1≤-f by omega) (show 0≤(i:Int) by omega)
  rw [Int.mul_neg] at this
  omega
theorem rayL_at {s f r:Int} (h0:0≤s) (h1:s<64) (hn:¬ (f=0∧r=0)) (i:Nat) (x:Int) :
  (rayL s f r)[i]?=some x↔0≤x∧x<64∧x % 8=s % 8+((i:Int)+1)*f∧x / 8=s / 8+((i:Int)+1)*r:=by
 unfold rayL
 rw [if_neg hn,rayN_at 8 s f r i x h0 h1]
 constructor
 ·exact fun h=>h.2
 ·rintro ⟨a,b,c,d⟩
  refine ⟨?_,a,b,c,d⟩
  by_cases hf:f=0
  ·have:=near_far (f:=r) (i:=i) (fun hr=>hn ⟨hf,hr⟩) (by omega) (by omega)
   omega
  ·have:=near_far (f:=f) (i:=i) hf (by omega) (by omega)
   omega
theorem rayL_short {s f r:Int} (h0:0≤s) (h1:s<64) (hn:¬ (f=0∧r=0)) {i:Nat} {x:Int} (h:(rayL s f r)[i]?=some x):i≤6:=by
 obtain ⟨a,b,c,d⟩:=(rayL_at h0 h1 hn i x).1 h
 by_cases hf:f=0
 ·exact near_far (f:=r) (i:=i) (fun hr=>hn ⟨hf,hr⟩) (by omega) (by omega)
 ·exact near_far (f:=f) (i:=i) hf (by omega) (by omega)
def bAt (B:List Int) (x:Int):Int:=B.getD x.toNat 0
def rayW (s:Int) (way:Nat):List Int:=rayL s (wayF way) (wayR way)
def Sight (B:List Int) (s:Int) (way i:Nat) (x:Int):Prop:=(rayW s way)[i]?=some x∧∀ k,k<i→∀ y,(rayW s way)[k]?=some y→bAt B y=0
theorem rayW_at {s:Int} (h0:0≤s) (h1:s<64) {way:Nat} (hw:way<16) (i:Nat) (x:Int) :
  (rayW s way)[i]?=some x↔0≤x∧x<64∧x % 8=s % 8+((i:Int)+1)*wayF way∧x / 8=s / 8+((i:Int)+1)*wayR way :=
 rayL_at h0 h1 (back_way hw).2.2.2.2.2 i x
theorem Sight.on {B:List Int} {s x:Int} {way i:Nat} (h0:0≤s) (h1:s<64) (hw:way<16) (h:Sight B s way i x):0≤x∧x<64∧i≤6:=by
 obtain ⟨a,b,_⟩:=(rayW_at h0 h1 hw i x).1 h.1
 exact ⟨a,b,rayL_short h0 h1 (back_way hw).2.2.2.2.2 h.1⟩
theorem Sight.back {B:List Int} {s x:Int} {way i:Nat} (h0:0≤s) (h1:s<64) (hw:way<16) (h:Sight B s way i x):Sight B x (backW way) i s:=by
 obtain ⟨hx,hc⟩:=h
 obtain ⟨x0,x1,ex,ey⟩:=(rayW_at h0 h1 hw i x).1 hx
 obtain ⟨b1,b2,b3,b4,b5,b6⟩:=back_way hw
 refine ⟨(rayW_at x0 x1 b1 i s).2 ⟨h0,h1,?_,?_⟩,fun k hk y hy=>?_⟩
 ·rw [b2,Int.mul_neg];omega
 ·rw [b3,Int.mul_neg];omega
 ·obtain ⟨y0,y1,e1,e2⟩:=(rayW_at x0 x1 b1 k y).1 hy
  obtain ⟨j,rfl⟩:∃ j,i=k+1+j:=⟨i-(k+1),by omega⟩
  refine hc j (by omega) y ((rayW_at h0 h1 hw j y).2 ⟨y0,y1,?_,?_⟩)
  ·rw [b2,Int.mul_neg] at e1
   have:((((k+1+j:Nat):Int)+1))*wayF way=((k:Int)+1)*wayF way+((j:Int)+1)*wayF way:=by
    rw [← Int.add_mul];congr 1
   omega
  ·rw [b3,Int.mul_neg] at e2
   have:((((k+1+j:Nat):Int)+1))*wayR way=((k:Int)+1)*wayR way+((j:Int)+1)*wayR way:=by
    rw [← Int.add_mul];congr 1
   omega
theorem uniq_all:∀ a:Fin 16,∀ b:Fin 16,∀ i:Fin 7,∀ j:Fin 7,((a:Nat)<8 || (i:Nat) == 0)=true→((b:Nat)<8 || (j:Nat) == 0)=true →
  (((i:Nat):Int)+1)*wayF a=(((j:Nat):Int)+1)*wayF b→(((i:Nat):Int)+1)*wayR a=(((j:Nat):Int)+1)*wayR b→a=b∧i=j:=by decide +kernel
theorem way_uniq {s x:Int} (h0:0≤s) (h1:s<64) {a b i j:Nat} (ha:a<16) (hb:b<16) (h2:a<8∨i=0) (h3:b<8∨j=0) (h4:(rayW s a)[i]?=some x) (h5:(rayW s b)[j]?=some x):a=b∧i=j:=by
 have hi:=rayL_short h0 h1 (back_way ha).2.2.2.2.2 h4
 have hj:=rayL_short h0 h1 (back_way hb).2.2.2.2.2 h5
 obtain ⟨_,_,e1,e2⟩:=(rayW_at h0 h1 ha i x).1 h4
 obtain ⟨_,_,e3,e4⟩:=(rayW_at h0 h1 hb j x).1 h5
 have:=uniq_all ⟨a,ha⟩ ⟨b,hb⟩ ⟨i,by omega⟩ ⟨j,by omega⟩ (by simpa using h2) (by simpa using h3) (by show ((i:Int)+1)*wayF a=((j:Int)+1)*wayF b;omega) (by show ((i:Int)+1)*wayR a=((j:Int)+1)*wayR b;omega)
 exact ⟨Fin.mk.inj_iff.1 this.1,Fin.mk.inj_iff.1 this.2⟩
def uptoL (B:List Int):List Int→List Int
 | []=>[]
 | x::xs=>x::if bAt B x=0 then uptoL B xs else []
theorem mem_upto (B:List Int) (x:Int):∀ R:List Int,x ∈ uptoL B R↔∃ i:Nat,R[i]?=some x∧∀ k,k<i→∀ y,R[k]?=some y→bAt B y=0
 | []=>by simp [uptoL]
 | z::R=>by
  unfold uptoL
  rw [List.mem_cons]
  constructor
  ·rintro (rfl|h)
   ·exact ⟨0,by simp,fun k hk=>by omega⟩
   ·split at h
    ·next hz =>
     obtain ⟨i,hi,hc⟩:=(mem_upto B x R).1 h
     refine ⟨i+1,by simpa using hi,fun k hk y hy=>?_⟩
     cases k with
     | zero=>simp at hy;rw [← hy];exact hz
     | succ k=>exact hc k (by omega) y (by simpa using hy)
    ·cases h
  ·rintro ⟨i,hi,hc⟩
   cases i with
   | zero=>left;simpa using hi.symm
   | succ i =>
    right
    rw [if_pos (hc 0 (by omega) z (by simp))]
    exact (mem_upto B x R).2 ⟨i,by simpa using hi,fun k hk y hy=>hc (k+1) (by omega) y (by simpa using hy)⟩
def reachB (m:Int) (way far:Nat):Bool:=goesB m way && (far == 1 || slidesB m)
theorem slides_goes {m:Int} {way:Nat} (h:way<16) (h1:slidesB m=true) (h2:goesB m way=true):way<8:=by
 unfold slidesB at h1
 unfold goesB at h2
 simp only [Bool.or_eq_true,beq_iff_eq] at h1
 rcases h1 with (h1|h1)|h1 <;> rw [h1] at h2 <;> simp at h2 <;> omega
theorem reach_far {m:Int} {way i:Nat} (hw:way<16) (h:reachB m way (i+1)=true):way<8∨i=0:=by
 unfold reachB at h
 simp only [Bool.and_eq_true,Bool.or_eq_true,beq_iff_eq] at h
 rcases h.2 with h2|h2
 ·right;omega
 ·left;exact slides_goes hw h2 h.1
def strikeL (B:List Int) (s:Int):List Int:=(ofL (bAt B s) s).flatMap (uptoL B)
theorem mem_one (B:List Int) (x:Int) (l:List Int):(∃ a ∈ oneL l,x ∈ uptoL B a)↔x ∈ uptoL B l:=by
 unfold oneL
 split
 ·next h=>rw [List.eq_nil_of_length_eq_zero h];simp [uptoL]
 ·simp
theorem mem_strike (B:List Int) (s x:Int):x ∈ strikeL B s↔∃ way i,way<16∧reachB (bAt B s) way (i+1)=true∧Sight B s way i x:=by
 unfold strikeL ofL ofN
 generalize bAt B s=m
 rw [List.mem_flatMap]
 simp only [List.mem_flatMap,List.mem_filter,List.mem_range]
 constructor
 ·rintro ⟨l,⟨way,⟨hw,hg⟩,hl⟩,hx⟩
  have hx:=(mem_one B x _).1 ⟨l,hl,hx⟩
  obtain ⟨i,hi,hc⟩:=(mem_upto B x _).1 hx
  by_cases hs:slidesB m=true
  ·have h8:=slides_goes hw hs hg
   have e:cutL m (alongL way s)=rayW s way:=by unfold cutL alongL rayW;rw [if_pos hs,if_neg (by omega)]
   rw [e] at hi hc
   exact ⟨way,i,hw,by unfold reachB;rw [hg,hs];simp,hi,hc⟩
  ·have hs':slidesB m=false:=by simpa using hs
   have e:cutL m (alongL way s)=(rayW s way).take 1:=by
    unfold cutL alongL rayW
    rw [hs']
    simp only [Bool.false_eq_true,if_false]
    split
    ·rw [List.take_take];rfl
    ·rfl
   rw [e] at hi hc
   rw [List.getElem?_take] at hi
   split at hi
   ·next h1 =>
    obtain rfl:i=0:=by omega
    exact ⟨way,0,hw,by unfold reachB;rw [hg];simp,hi,fun k hk=>by omega⟩
   ·cases hi
 ·rintro ⟨way,i,hw,hr,hi,hc⟩
  have hr':=hr
  unfold reachB at hr
  simp only [Bool.and_eq_true,Bool.or_eq_true,beq_iff_eq] at hr
  obtain ⟨hg,hr⟩:=hr
  have key:x ∈ uptoL B (cutL m (alongL way s)):=by
   rw [mem_upto]
   by_cases hs:slidesB m=true
   ·have h8:=slides_goes hw hs hg
    have e:cutL m (alongL way s)=rayW s way:=by unfold cutL alongL rayW;rw [if_pos hs,if_neg (by omega)]
    rw [e]
    exact ⟨i,hi,hc⟩
   ·obtain rfl:i=0:=by rcases hr with h|h;omega;exact absurd h hs
    have hs':slidesB m=false:=by simpa using hs
    have e:cutL m (alongL way s)=(rayW s way).take 1:=by
     unfold cutL alongL rayW
     rw [hs']
     simp only [Bool.false_eq_true,if_false]
     split
     ·rw [List.take_take];rfl
     ·rfl
    rw [e]
    exact ⟨0,by rw [List.getElem?_take];exact hi,fun k hk=>by omega⟩
  obtain ⟨l,hl,hx⟩:=(mem_one B x _).2 key
  exact ⟨l,⟨way,⟨hw,hg⟩,hl⟩,hx⟩
def seeL (ans:Int→Nat→Nat→Bool) (B:List Int) (way:Nat):Nat→List Int→List (Int × Nat × Nat)
 | _,[]=>[]
 | far,t::ts=>(t,way,far)::if ans t way far && (bAt B t == 0) then seeL ans B way (far+1) ts else []
def lookN (ans:Int→Nat→Nat→Bool) (B:List Int) (s:Int) (n:Nat):List (Int × Nat × Nat):=(List.range n).flatMap fun way=>seeL ans B way 1 (rayW s way)
def lookL (ans:Int→Nat→Nat→Bool) (B:List Int) (s:Int):List (Int × Nat × Nat):=lookN ans B s 16
theorem lookN_succ (ans:Int→Nat→Nat→Bool) (B:List Int) (s:Int) (n:Nat):lookN ans B s (n+1)=lookN ans B s n++seeL ans B n 1 (rayW s n):=by
 unfold lookN;rw [List.range_succ,List.flatMap_append];simp
theorem mem_see (ans:Int→Nat→Nat→Bool) (B:List Int) (way:Nat) (c:Int × Nat × Nat):∀ (R:List Int) (f0:Nat),c ∈ seeL ans B way f0 R ↔
  c.2.1=way∧∃ i:Nat,c.2.2=f0+i∧R[i]?=some c.1∧∀ k,k<i→∀ y,R[k]?=some y→bAt B y=0∧ans y way (f0+k)=true
 | [],f0=>by simp [seeL]
 | z::R,f0=>by
  unfold seeL
  rw [List.mem_cons]
  constructor
  ·rintro (rfl|h)
   ·exact ⟨rfl,0,rfl,rfl,fun k hk=>by omega⟩
   ·split at h
    ·next hz =>
     simp only [Bool.and_eq_true,beq_iff_eq] at hz
     obtain ⟨e,i,hf,hi,hc⟩:=(mem_see ans B way c R (f0+1)).1 h
     refine ⟨e,i+1,by omega,by simpa using hi,fun k hk y hy=>?_⟩
     cases k with
     | zero=>simp at hy;rw [← hy];exact ⟨hz.2,hz.1⟩
     | succ k=>rw [show f0+(k+1)=f0+1+k by omega];exact hc k (by omega) y (by simpa using hy)
    ·cases h
  ·rintro ⟨e,i,hf,hi,hc⟩
   cases i with
   | zero =>
    left
    obtain ⟨c1,c2,c3⟩:=c
    simp at hi hf e
    subst hi hf e
    rfl
   | succ i =>
    right
    have h0:=hc 0 (by omega) z (by simp)
    rw [if_pos (by rw [Bool.and_eq_true,beq_iff_eq];exact ⟨h0.2,h0.1⟩)]
    refine (mem_see ans B way c R (f0+1)).2 ⟨e,i,by omega,by simpa using hi,fun k hk y hy=>?_⟩
    have:=hc (k+1) (by omega) y (by simpa using hy)
    rw [show f0+(k+1)=f0+1+k by omega] at this
    exact this
theorem see_order (ans:Int→Nat→Nat→Bool) (B:List Int) (way:Nat):∀ (R:List Int) (f0:Nat),(seeL ans B way f0 R).Pairwise fun a b=>a.2.2<b.2.2
 | [],f0=>by simp [seeL]
 | z::R,f0=>by
  unfold seeL
  rw [List.pairwise_cons]
  split
  ·refine ⟨fun c hc=>?_,see_order ans B way R (f0+1)⟩
   obtain ⟨_,i,hi,_⟩:=(mem_see ans B way c R (f0+1)).1 hc
   show f0<c.2.2
   omega
  ·simp
theorem mem_look (ans:Int→Nat→Nat→Bool) (B:List Int) (s:Int) (c:Int × Nat × Nat):c ∈ lookL ans B s ↔
  c.2.1<16∧∃ i:Nat,c.2.2=i+1∧Sight B s c.2.1 i c.1∧∀ k,k<i→∀ y,(rayW s c.2.1)[k]?=some y→ans y c.2.1 (k+1)=true:=by
 unfold lookL lookN
 rw [List.mem_flatMap]
 constructor
 ·rintro ⟨way,hw,h⟩
  obtain ⟨e,i,hf,hi,hc⟩:=(mem_see ans B way c _ 1).1 h
  subst e
  exact ⟨List.mem_range.1 hw,i,by omega,⟨hi,fun k hk y hy=>(hc k hk y hy).1⟩,fun k hk y hy=>by rw [Nat.add_comm];exact (hc k hk y hy).2⟩
 ·rintro ⟨hw,i,hf,⟨hi,hc⟩,ha⟩
  exact ⟨c.2.1,List.mem_range.2 hw,(mem_see ans B _ c _ 1).2 ⟨rfl,i,by omega,hi,fun k hk y hy=>⟨hc k hk y hy,by rw [Nat.add_comm];exact ha k hk y hy⟩⟩⟩
theorem look_nodup (ans:Int→Nat→Nat→Bool) (B:List Int) (s:Int):(lookL ans B s).Nodup:=by
 unfold lookL lookN List.Nodup
 rw [List.pairwise_flatMap]
 refine ⟨fun way _=>(see_order ans B way _ 1).imp fun h e=>by rw [e] at h;omega,List.pairwise_lt_range.imp fun {a b} hab x hx y hy e=>?_⟩
 have h1:=((mem_see ans B a x _ 1).1 hx).1
 have h2:=((mem_see ans B b y _ 1).1 hy).1
 rw [e] at h1
 omega
theorem told_nodup (ans:Int→Nat→Nat→Bool) (B:List Int) (s:Int) (h0:0≤s) (h1:s<64) (p:Int × Nat × Nat→Bool) (hp:∀ c ∈ lookL ans B s,p c=true→c.2.1<8∨c.2.2=1) :
  (((lookL ans B s).filter p).map (·.1)).Nodup:=by
 unfold List.Nodup
 rw [List.pairwise_map]
 refine List.Pairwise.imp_of_mem (R:=fun a b=>a≠b) (fun {a b} ha hb hne e=>hne ?_) ((look_nodup ans B s).filter p)
 obtain ⟨ha,pa⟩:=List.mem_filter.1 ha
 obtain ⟨hb,pb⟩:=List.mem_filter.1 hb
 have qa:=hp a ha pa
 have qb:=hp b hb pb
 obtain ⟨wa,i,ia,sa,_⟩:=(mem_look ans B s a).1 ha
 obtain ⟨wb,j,ib,sb,_⟩:=(mem_look ans B s b).1 hb
 rw [← e] at sb
 have:=way_uniq h0 h1 wa wb (i:=i) (j:=j) (by omega) (by omega) sa.1 sb.1
 obtain ⟨a1,a2,a3⟩:=a
 obtain ⟨b1,b2,b3⟩:=b
 simp at this ia ib e ⊢
 omega
def zn (l:List Nat):List Int:=l.map fun (n:Nat)=>(n:Int)
theorem sort_sel (L:List Int) (p:Nat→Bool) (hn:L.Nodup) (hm:∀ x:Int,x ∈ L↔∃ n:Nat,n<64∧x=(n:Int)∧p n=true):(L.mergeSort fun x y=>decide (x≤y))=zn (sel p 64):=by
 have hs:(zn (sel p 64)).Pairwise fun a b=>a<b:=by
  unfold zn sel
  rw [List.pairwise_map]
  exact (List.pairwise_lt_range.filter p).imp fun h=>by omega
 have hperm:L.Perm (zn (sel p 64)):=by
  rw [List.perm_ext_iff_of_nodup hn (hs.imp fun h=>by omega)]
  intro x
  rw [hm]
  unfold zn sel
  simp only [List.mem_map,List.mem_filter,List.mem_range]
  constructor
  ·rintro ⟨n,a,b,c⟩;exact ⟨n,⟨a,c⟩,b.symm⟩
  ·rintro ⟨n,⟨a,c⟩,b⟩;exact ⟨n,a,b.symm,c⟩
 refine List.Perm.eq_of_pairwise (le:=fun a b=>a≤b) (fun a b _ _ h1 h2=>by omega) ?_ (hs.imp fun h=>by omega) ((List.mergeSort_perm _ _).trans hperm)
 exact (List.pairwise_mergeSort (le:=fun x y:Int=>decide (x≤y)) (fun a b c h1 h2=>by simp at *;omega) (fun a b=>by simp;omega) L).imp fun h=>by simpa using h
def hitB (B:List Int) (s t:Int):Bool:=(strikeL B s).contains t
theorem hitB_iff (B:List Int) (s t:Int):hitB B s t=true↔t ∈ strikeL B s:=by unfold hitB;simp
def okS (s:Int):Bool:=decide (0≤s) && decide (s<64)
def byN (B:List Int) (s side:Int):List Nat:=sel (fun n=>(sideI (B.getD n 0) == side) && hitB B (n:Int) s) 64
def ansW:Int→Nat→Nat→Bool:=fun _ way _=>decide (way<8)
def toldW (B:List Int) (side:Int):Int × Nat × Nat→Bool:=fun c=>(sideI (bAt B c.1) == side) && reachB (bAt B c.1) (backW c.2.1) c.2.2
def tellL (B:List Int) (s side:Int):List (Int × Nat × Nat):=(lookL ansW B s).filter (toldW B side)
def outW (B:List Int) (s side:Int):List Int:=(tellL B s side).map (·.1)
theorem mem_tell {B:List Int} {s side:Int} {c:Int × Nat × Nat} (h0:0≤s) (h1:s<64):c ∈ tellL B s side ↔
  c.2.1<16∧∃ i:Nat,c.2.2=i+1∧(c.2.1<8∨i=0)∧Sight B s c.2.1 i c.1∧sideI (bAt B c.1)=side∧reachB (bAt B c.1) (backW c.2.1) (i+1)=true:=by
 unfold tellL
 rw [List.mem_filter,mem_look]
 unfold toldW ansW
 simp only [Bool.and_eq_true,beq_iff_eq]
 constructor
 ·rintro ⟨⟨hw,i,hi,hs,ha⟩,hsd,hr⟩
  rw [hi] at hr
  refine ⟨hw,i,hi,?_,hs,hsd,hr⟩
  have:=reach_far (back_way hw).1 hr
  have:=(back_way hw).2.2.2.2.1
  omega
 ·rintro ⟨hw,i,hi,h8,hs,hsd,hr⟩
  refine ⟨⟨hw,i,hi,hs,fun k hk y _=>?_⟩,hsd,by rw [hi];exact hr⟩
  simp;omega
theorem mem_outW (B:List Int) (s side x:Int) (h0:0≤s) (h1:s<64):x ∈ outW B s side↔0≤x∧x<64∧sideI (bAt B x)=side∧s ∈ strikeL B x:=by
 unfold outW
 rw [List.mem_map]
 constructor
 ·rintro ⟨c,hc,rfl⟩
  obtain ⟨hw,i,hi,h8,hs,hsd,hr⟩:=(mem_tell h0 h1).1 hc
  obtain ⟨a,b,_⟩:=hs.on h0 h1 hw
  exact ⟨a,b,hsd,(mem_strike B _ s).2 ⟨backW c.2.1,i,(back_way hw).1,hr,hs.back h0 h1 hw⟩⟩
 ·rintro ⟨a,b,hsd,h⟩
  obtain ⟨way,i,hw,hr,hs⟩:=(mem_strike B x s).1 h
  obtain ⟨b1,b2,b3,b4,b5,b6⟩:=back_way hw
  have h8:=reach_far hw hr
  refine ⟨(x,backW way,i+1),(mem_tell h0 h1).2 ⟨b1,i,rfl,?_,hs.back a b hw,hsd,?_⟩,rfl⟩
  ·show backW way<8∨i=0
   omega
  ·show reachB (bAt B x) (backW (backW way)) (i+1)=true
   rw [b4];exact hr
theorem sort_outW (B:List Int) (s side:Int) (h0:0≤s) (h1:s<64):((outW B s side).mergeSort fun x y=>decide (x≤y))=zn (byN B s side):=by
 unfold byN
 refine sort_sel _ _ (told_nodup _ B s h0 h1 _ fun c hc hp=>?_) fun x=>?_
 ·obtain ⟨hw,i,hi,h8,_⟩:=(mem_tell (side:=side) h0 h1).1 (List.mem_filter.2 ⟨hc,hp⟩)
  omega
 ·rw [mem_outW B s side x h0 h1]
  constructor
  ·rintro ⟨a,b,hsd,h⟩
   obtain ⟨n,rfl⟩:=Int.eq_ofNat_of_zero_le a
   refine ⟨n,by omega,rfl,?_⟩
   rw [Bool.and_eq_true,beq_iff_eq]
   exact ⟨hsd,(hitB_iff B _ s).2 h⟩
  ·rintro ⟨n,hn,rfl,h⟩
   rw [Bool.and_eq_true,beq_iff_eq] at h
   exact ⟨by omega,by omega,h.1,(hitB_iff B _ s).1 h.2⟩
end Go.Proofs.YtlbipjmmlobofaaGreatDoor
namespace Go.Proofs.YtlbipjmmlobofaaGreatDoor
open Go.RowKit
set_option linter.unusedVariables false
set_option linter.unusedSimpArgs false
theorem wayF_wf (way:Nat) (h:way<16):(Lit.int .i64 (wayF way)).wf=true∧(Lit.int .i64 (wayR way)).wf=true:=by
 have:∀ i:Fin 16,(Lit.int .i64 (wayF i)).wf=true∧(Lit.int .i64 (wayR i)).wf=true:=by decide +kernel
 exact this ⟨way,h⟩
theorem wright_yes (way:Nat) (h:way<16) (w:World):Calls Tryz.prog 202 #[.int .i64 way] w fun e w'=>e=.returned (.bool true)∧w=w':=by
 have h1:(0:Int)≤(way:Int):=by omega
 have h2:(way:Int)<16:=by omega
 go_enter Tryz.func202,Tryz.ntmps202
 go_wp2
 go_ret
 exact ⟨rfl,rfl⟩
theorem wstep_is (way:Nat) (h:way<16) (w:World) (hS:Steps w) :
  Calls Tryz.prog 201 #[.int .i64 way] w fun e w'=>e=.returned (.tuple #[.int .i64 (wayF way),.int .i64 (wayR way)])∧Kept w w':=by
 obtain ⟨hc1,hc2⟩:=hS way h
 have h1:(0:Int)≤(way:Int):=by omega
 have h2:(way:Int)<16:=by omega
 generalize wayF way=x at *
 generalize wayR way=y at *
 clear hS
 go_enter Tryz.func201,Tryz.ntmps201
 go_wp2_with fail
 refine (wright_yes way h _).mono ?_
 rintro e w' ⟨rfl,rfl⟩
 go_wp2
 go_quiet (fail)
 go_wp2
 go_ret2
 exact ⟨rfl,(Kept.refl w).drewN _⟩
theorem wback_is (way:Nat) (h:way<16) (w:World):Calls Tryz.prog 186 #[.int .i64 way] w fun e w'=>e=.returned (.int .i64 (backW way:Nat))∧w=w':=by
 have:∀ i:Fin 16,∀ w:World,Calls Tryz.prog 186 #[.int .i64 ((i:Nat):Int)] w fun e w'=>e=.returned (.int .i64 (backW i:Nat))∧w=w':=by
  intro i w
  have hi:=i.isLt
  rcases i with ⟨i,h⟩
  have hw:i<4∨(4≤i∧i<8)∨8≤i:=by omega
  have e:((backW i:Nat):Int)=if i<4 then ((i:Int)+2) % 4 else if i<8 then 4+((i:Int)+2) % 4 else 8+((i:Int)+4) % 8:=by
   unfold backW
   split
   ·omega
   ·split <;> omega
  have h16:(i:Int)<16:=by omega
  show Calls Tryz.prog 186 #[.int .i64 (i:Int)] w fun e w'=>e=.returned (.int .i64 (backW i:Nat))∧w=w'
  generalize backW i=b at *
  rcases hw with h1|⟨h1,h2⟩|h1
  ·rw [if_pos h1] at e
   have h1':(i:Int)<4:=by omega
   have q:Int.tmod ((i:Int)+2) 4=(b:Int):=by rw [e,Int.tmod_eq_emod_of_nonneg (by omega)]
   have HQ:=Qh e
   clear e
   go_enter Tryz.func186,Tryz.ntmps186
   go_wp2_with fail
   refine (wright_yes i h _).mono ?_
   rintro e w' ⟨rfl,rfl⟩
   go_wp2
   go_ret
   exact ⟨by rw [HQ.out];rfl,rfl⟩
  ·rw [if_neg (by omega),if_pos h2] at e
   have h1':¬ (i:Int)<4:=by omega
   have h2':(i:Int)<8:=by omega
   have HQ:=Qh e
   clear e
   go_enter Tryz.func186,Tryz.ntmps186
   go_wp2_with fail
   refine (wright_yes i h _).mono ?_
   rintro e w' ⟨rfl,rfl⟩
   go_wp2
   go_ret
   exact ⟨by rw [HQ.out];rfl,rfl⟩
  ·rw [if_neg (by omega),if_neg (by omega)] at e
   have h1':¬ (i:Int)<4:=by omega
   have h2':¬ (i:Int)<8:=by omega
   have HQ:=Qh e
   clear e
   go_enter Tryz.func186,Tryz.ntmps186
   go_wp2_with fail
   refine (wright_yes i h _).mono ?_
   rintro e w' ⟨rfl,rfl⟩
   go_wp2
   go_ret
   exact ⟨by rw [HQ.out];rfl,rfl⟩
 exact this ⟨way,h⟩ w
theorem wreach_pawn (m:Int) (way far:Nat) (h:way<16) (hf:1≤far) (hf2:far≤1000) (w:World) (hS:Steps w) (hm:knd m=1) :
  Calls Tryz.prog 185 #[.int .i64 m,.int .i64 way,.int .i64 far] w fun e w'=>e=.returned (.bool (reachB m way far))∧∃ d,w'=w.drewN d:=by
 have hk:=Qh (mknd_any m)
 have hp:=knd_pawn hm
 have hc:=(hS way h).2
 have e:reachB m way far=((decide (4≤way∧way<8) && wayR way == (if m<0 then -1 else 1)) && (far == 1)):=by
  unfold reachB goesB slidesB
  rw [hm]
  simp
 rw [hm] at hk
 have hW:(way:Int)<16:=by omega
 have hW0:(0:Int)≤(way:Int):=by omega
 have hF:¬ (far:Int)<1:=by omega
 generalize wayR way=y at *
 generalize reachB m way far=b at *
 clear hm hS
 by_cases hfar:far=1
 ·subst hfar
  by_cases h1:4≤way
  ·have h1':(4:Int)≤(way:Int):=by omega
   by_cases h2:way<8
   ·have h2':(way:Int)<8:=by omega
    rcases hp with rfl|rfl
    ·have HE:=Qh (show b=(y == 1) by rw [e];simp [h1,h2])
     clear e
     go_enter Tryz.func185,Tryz.ntmps185
     go_wp2_with fail
     refine (wright_yes way h _).mono ?_
     rintro e w' ⟨rfl,rfl⟩
     go_wp2_with fail
     refine (hk.out _).mono ?_
     rintro e w' ⟨rfl,rfl⟩
     go_wp2
     go_quiet (first|(go_at_call 133;exact quiet_same (mside_w 1 _ (by omega) (by omega)))|(go_at_call 203;exact quiet_same (ahead_w _)))
     go_wp2
     go_ret
     exact ⟨by rw [HE.out];rfl,_,rfl⟩
    ·have HE:=Qh (show b=(y == -1) by rw [e];simp [h1,h2])
     clear e
     go_enter Tryz.func185,Tryz.ntmps185
     go_wp2_with fail
     refine (wright_yes way h _).mono ?_
     rintro e w' ⟨rfl,rfl⟩
     go_wp2_with fail
     refine (hk.out _).mono ?_
     rintro e w' ⟨rfl,rfl⟩
     go_wp2
     go_quiet (first|(go_at_call 133;exact quiet_same (mside_b (-1) _ (by omega) (by omega)))|(go_at_call 203;exact quiet_same (ahead_b _)))
     go_wp2
     go_ret
     exact ⟨by rw [HE.out];rfl,_,rfl⟩
   ·have h2':decide ((way:Int)<8)=false:=by simp;omega
    have HE:=Qh (show b=false by rw [e];simp;omega)
    clear e
    go_enter Tryz.func185,Tryz.ntmps185
    go_wp2_with fail
    refine (wright_yes way h _).mono ?_
    rintro e w' ⟨rfl,rfl⟩
    go_wp2_with fail
    refine (hk.out _).mono ?_
    rintro e w' ⟨rfl,rfl⟩
    go_wp2
    go_quiet (fail)
    go_wp2
    go_ret
    exact ⟨by rw [HE.out];rfl,_,rfl⟩
  ·have h1':¬ (4:Int)≤(way:Int):=by omega
   have HE:=Qh (show b=false by rw [e];simp;omega)
   clear e
   go_enter Tryz.func185,Tryz.ntmps185
   go_wp2_with fail
   refine (wright_yes way h _).mono ?_
   rintro e w' ⟨rfl,rfl⟩
   go_wp2_with fail
   refine (hk.out _).mono ?_
   rintro e w' ⟨rfl,rfl⟩
   go_wp2
   go_quiet (fail)
   go_wp2
   go_ret
   exact ⟨by rw [HE.out];rfl,_,rfl⟩
 ·have hfar':((far:Int) == 1)=false:=by simp;omega
  have HE:=Qh (show b=false by rw [e];simp;omega)
  clear e hfar
  by_cases h1:4≤way
  ·have h1':(4:Int)≤(way:Int):=by omega
   go_enter Tryz.func185,Tryz.ntmps185
   go_wp2_with fail
   refine (wright_yes way h _).mono ?_
   rintro e w' ⟨rfl,rfl⟩
   go_wp2_with fail
   refine (hk.out _).mono ?_
   rintro e w' ⟨rfl,rfl⟩
   go_wp2
   go_quiet (fail)
   go_wp2
   go_ret
   exact ⟨by rw [HE.out];rfl,_,rfl⟩
  ·have h1':¬ (4:Int)≤(way:Int):=by omega
   go_enter Tryz.func185,Tryz.ntmps185
   go_wp2_with fail
   refine (wright_yes way h _).mono ?_
   rintro e w' ⟨rfl,rfl⟩
   go_wp2_with fail
   refine (hk.out _).mono ?_
   rintro e w' ⟨rfl,rfl⟩
   go_wp2
   go_quiet (fail)
   go_wp2
   go_ret
   exact ⟨by rw [HE.out];rfl,_,rfl⟩
set_option maxHeartbeats 2000000 in
theorem wreach_q (m:Int) (way far:Nat) (h:way<16) (hf:1≤far) (hf2:far≤1000) (w:World) (hS:Steps w) :
  Calls Tryz.prog 185 #[.int .i64 m,.int .i64 way,.int .i64 far] w fun e w'=>e=.returned (.bool (reachB m way far))∧∃ d,w'=w.drewN d:=by
 by_cases hm:knd m=1
 ·exact wreach_pawn m way far h hf hf2 w hS hm
 have hk:=Qh (mknd_any m)
 have hq:=knd_is m
 have e:reachB m way far=((if knd m=2 then decide (8≤way) else if knd m=3 then decide (4≤way∧way<8) else if knd m=4 then decide (way<4) else if knd m=0 then false else decide (way<8)) && (far == 1 || (knd m == 3 || knd m == 4 || knd m == 5))):=by unfold reachB goesB slidesB;rw [if_neg hm]
 generalize reachB m way far=b at *
 clear hS
 generalize knd m=q at *
 have hw:(way<4∧way<8)∨(4≤way∧way<8)∨(4≤way∧8≤way):=by omega
 have hW:(way:Int)<16:=by omega
 have hF:¬ (far:Int)<1:=by omega
 have hff:(far=1∧((far:Int) == 1)=true)∨(far≠1∧((far:Int) == 1)=false):=by
  by_cases h1:far=1
  ·left;exact ⟨h1,by simp;omega⟩
  ·right;exact ⟨h1,by simp;omega⟩
 rcases hq with rfl|rfl|rfl|rfl|rfl|rfl|rfl
 case inr.inl=>exact absurd rfl hm
 all_goals
  clear hm
  rcases hw with ⟨h1,h2⟩|⟨h1,h2⟩|⟨h1,h2⟩ <;> rcases hff with ⟨h3,h4⟩|⟨h3,h4⟩
 all_goals
  have hb:b=true∨b=false:=by cases b <;> simp
  have HE:=Qh e
  have H1:=Qh h1
  have H2:=Qh h2
  have H3:=Qh h3
  clear e h3
  go_enter Tryz.func185,Tryz.ntmps185
  go_wp2_with fail
  refine (wright_yes way h _).mono ?_
  rintro e w' ⟨rfl,rfl⟩
  go_wp2_with fail
  refine (hk.out _).mono ?_
  rintro e w' ⟨rfl,rfl⟩
  go_wp2
  all_goals
   have H1:=H1.out
   have H2:=H2.out
   have H3:=H3.out
   have HE:=HE.out
   first
    | (exfalso;omega)
    | (go_ret;refine ⟨?_,0,rfl⟩;rw [HE];simp [H1,H2,H3];done)
    | (go_ret;refine ⟨?_,0,rfl⟩;rw [HE];simp [H1,H2,H3];omega)
    | (have H4:¬ way<8:=(by omega);go_ret;refine ⟨?_,0,rfl⟩;rw [HE];simp [H3,H4];done)
    | (have H4:¬ way<8:=(by omega);go_ret;refine ⟨?_,0,rfl⟩;rw [HE];simp [H3,H4];omega)
    | (have H4:¬ way<4:=(by omega);go_ret;refine ⟨?_,0,rfl⟩;rw [HE];simp [H2,H3,H4];done)
    | (have H4:¬ 8≤way:=(by omega);go_ret;refine ⟨?_,0,rfl⟩;rw [HE];simp [H2,H3,H4];done)
    | (have H4:¬ 4≤way:=(by omega);go_ret;refine ⟨?_,0,rfl⟩;rw [HE];simp [H2,H3,H4];done)
theorem quiet_more {P:Program} {f:FuncId} {args:Array Value} {w:World} {n:Nat} {v:Value}
  (h:Calls P f args (w.drewN n) fun e w'=>e=.returned v∧∃ d,w'=(w.drewN n).drewN d):Calls P f args (w.drewN n) fun e w''=>e=.returned v∧∃ m,w''=w.drewN m :=
 h.mono fun _ _ ⟨he,d,hm⟩=>⟨he,n+d,by rw [hm];exact World.drewN_drewN _ _ _⟩
theorem Steps.drew {w:World} (h:Steps w) (n:Nat):Steps (w.drewN n):=h.kept ((Kept.refl w).drewN n)
def SeeMid (ans:Int→Nat→Nat→Bool) (B:List Int) (s:Int) (n:Nat) (l:List Int) (t:Int) (on:Bool) (D:List (Int × Nat × Nat)):Prop :=
 RayMid s (wayF n) (wayR n) l t on∧seeL ans B n 1 (rayW s n)=D++seeL ans B n (l.length+1) ((rayW s n).drop l.length)
theorem SeeMid.start {ans:Int→Nat→Nat→Bool} {B:List Int} {s t:Int} {n:Nat} {on:Bool} (h:RayMid s (wayF n) (wayR n) [] t on):SeeMid ans B s n [] t on []:=⟨h,rfl⟩
theorem RayMid.drop_on {s f r t:Int} {l:List Int} (h:RayMid s f r l t true):(rayL s f r).drop l.length=t::(rayL s f r).drop (l.length+1):=by
 rcases h with ⟨_,_,n,_,e⟩|⟨h,_⟩
 ·rw [e,List.drop_left,List.drop_append,List.drop_of_length_le (show l.length≤l.length+1 by omega)]
  simp
 ·cases h
theorem RayMid.at_on {s t:Int} {n:Nat} {l:List Int} (h:RayMid s (wayF n) (wayR n) l t true):(rayW s n)[l.length]?=some t:=by
 have e:=h.drop_on
 have:((rayL s (wayF n) (wayR n)).drop l.length)[0]?=some t:=by rw [e];rfl
 rw [List.getElem?_drop] at this
 unfold rayW
 simpa using this
theorem SeeMid.next {ans:Int→Nat→Nat→Bool} {B:List Int} {s t u:Int} {n:Nat} {l:List Int} {on:Bool} {D:List (Int × Nat × Nat)} (h:SeeMid ans B s n l t true D)
  (ha:ans t n (l.length+1)=true) (hb:bAt B t=0) (h':RayMid s (wayF n) (wayR n) (l++[t]) u on):SeeMid ans B s n (l++[t]) u on (D++[(t,n,l.length+1)]):=by
 refine ⟨h',?_⟩
 have e:(rayW s n).drop l.length=t::(rayW s n).drop (l.length+1):=h.1.drop_on
 rw [h.2,e,seeL,ha,hb,List.length_append,List.length_singleton]
 simp
theorem SeeMid.stop {ans:Int→Nat→Nat→Bool} {B:List Int} {s t:Int} {n:Nat} {l:List Int} {D:List (Int × Nat × Nat)} (h:SeeMid ans B s n l t true D)
  (ha:ans t n (l.length+1)=false∨bAt B t≠0):seeL ans B n 1 (rayW s n)=D++[(t,n,l.length+1)]:=by
 have e:(rayW s n).drop l.length=t::(rayW s n).drop (l.length+1):=h.1.drop_on
 rw [h.2,e,seeL,if_neg (by rw [Bool.and_eq_true,beq_iff_eq];rintro ⟨a,b⟩;rcases ha with h|h;rw [h] at a;cases a;exact h b)]
theorem SeeMid.off {ans:Int→Nat→Nat→Bool} {B:List Int} {s t:Int} {n:Nat} {l:List Int} {D:List (Int × Nat × Nat)} (h:SeeMid ans B s n l t false D):seeL ans B n 1 (rayW s n)=D:=by
 have e:rayW s n=l:=h.1.done
 rw [h.2,e,List.drop_length,seeL,List.append_nil]
theorem board_cell {w:World} {gb:Nat} {B:List Int} (hB:Brd B) (h:w.heap[gb]?=some (.cells (cl B).toArray 24 (0,0))) (k:Nat) (hk:k<64) :
  w.cell? ⟨gb,k,none⟩=some (.int .i8 (B.getD k 0)):=by
 rw [cell_of_row _ _ k _ _ (0,0) h]
 simpa using cl_get B k (by rw [hB.1];exact hk)
theorem see_len (ans:Int→Nat→Nat→Bool) (B:List Int) (way:Nat):∀ (R:List Int) (f0:Nat),(seeL ans B way f0 R).length≤R.length
 | [],f0=>by simp [seeL]
 | z::R,f0=>by
  unfold seeL
  split
  ·have:=see_len ans B way R (f0+1)
   simp;omega
  ·simp
theorem lookN_len (ans:Int→Nat→Nat→Bool) (B:List Int) (s:Int):∀ n,(lookN ans B s n).length≤8*n
 | 0=>by simp [lookN]
 | n+1=>by
  have h1:=lookN_len ans B s n
  have h2:=see_len ans B n (rayW s n) 1
  have h3:=rayL_len s (wayF n) (wayR n)
  rw [lookN_succ,List.length_append]
  unfold rayW at h2 ⊢
  omega
theorem SeeMid.len {ans:Int→Nat→Nat→Bool} {B:List Int} {s t:Int} {n:Nat} {l:List Int} {on:Bool} {D:List (Int × Nat × Nat)} (h:SeeMid ans B s n l t on D) (hn:n<16):(lookN ans B s n++D).length≤200:=by
 have h1:=lookN_len ans B s n
 have h2:=see_len ans B n (rayW s n) 1
 have h3:(rayW s n).length≤8:=rayL_len s (wayF n) (wayR n)
 have h4:=congrArg List.length h.2
 rw [List.length_append] at h4 ⊢
 omega
theorem fun_enters {f : FuncId} {fn : Func} {c : Code} (hf : Tryz.prog.funcs[f]? = some fn) (hname : (fn.name == "runtime.NumGoroutine") = false) (hb : fn.body = some c) (args : Array Value) (w : World) :
  (callFunc f args).run Tryz.prog w=.ok (.enter f args) w:=by
 have h1 : fn.name ≠ "runtime.NumGoroutine" := by simpa using hname
 simp [callFunc,hf,h1,hb]
structure Sees (B:List Int) (s:Int) (gb k:Nat) (caps:Array Value) (ans:Int→Nat→Nat→Bool) (Inv:List (Int × Nat × Nat)→World→Prop):Prop where
 ent:∀ args w,(callFunc k args).run Tryz.prog w=.ok (.enter k args) w
 keep:∀ l w w',Inv l w→Kept w w'→Inv l w'
 st:∀ l w,Inv l w→Steps w
 bd:∀ l w,Inv l w→w.heap[gb]?=some (.cells (cl B).toArray 24 (0,0))
 see:∀ (l:List (Int × Nat × Nat)) (t way far:Nat) (w:World),Inv l w→l.length≤200→t<64→way<16→1≤far→far≤8→(rayW s way)[far-1]?=some (t:Int) →
  Calls Tryz.prog k (#[.int .i64 (t:Int),.int .i64 (way:Int),.int .i64 (far:Int)]++caps) w fun e w'=>e=.returned (.bool (ans (t:Int) way far))∧Inv (l++[((t:Int),way,far)]) w'
set_option maxHeartbeats 2000000 in
theorem look_is (B:List Int) (hB:Brd B) (gb:Nat) (s:Int) (k:Nat) (caps:Array Value) (ans:Int→Nat→Nat→Bool) (Inv:List (Int × Nat × Nat)→World→Prop) (hS:Sees B s gb k caps ans Inv) (w:World) (hI:Inv [] w) :
  Calls Tryz.prog 183 #[.pointer (some ⟨gb,0,none⟩),.int .i64 s,.func (.func k) #[] caps] w fun e w'=>e=.returned (.tuple #[])∧Inv (lookL ans B s) w':=by
 have HB:=Qh hB
 have HS:=Qh hS
 have hent:=hS.ent
 have HI:=Qh hI
 clear hB hS hI
 go_enter Tryz.func183,Tryz.ntmps183
 go_wp2
 go_loopw [12] (fun t12 wr=>∃ n:Nat,n≤16∧t12=.int .i64 n∧Inv (lookN ans B s n) wr) (fun t12 _=>16-(intOf t12).toNat)
 case atStart=>exact ⟨0,by omega,rfl,HI.out⟩
 case round =>
  obtain ⟨n,hn,rfl,hI⟩:=hrel
  have HI:=Qh hI
  clear hI
  by_cases hlt:n<16
  ·have hlt':(n:Int)<16:=by omega
   have HNx:=Qh (lookN_succ ans B s n)
   have HP:=Qh (step_any · (wayF n) (wayR n) · (wayF_wf n hlt).1 (wayF_wf n hlt).2)
   have H0:=Qh (back_way hlt).2.2.2.2.2
   go_wp2_with fail
   refine (wstep_is n hlt _ (HS.out.st _ _ HI.out)).mono ?_
   rintro e w1 ⟨rfl,k1⟩
   have HI1:=Qh (HS.out.keep _ _ _ HI.out k1)
   clear k1
   go_wp2_with fail
   refine (HP.out _ _).mono ?_
   rintro e w' ⟨⟨t,on,rfl,ht⟩,rfl⟩
   have HM:=Qh (SeeMid.start (ans:=ans) (B:=B) (RayMid.first H0.out ht))
   clear ht
   go_wp2
   go_loopw [9,10,11] (fun t9 t10 t11 wr=>∃ (l:List Int) (D:List (Int × Nat × Nat)) (t:Int) (on:Bool) (far:Nat),t9=.int .i64 t∧t10=.bool on∧t11=.int .i64 far∧far=l.length+1∧SeeMid ans B s n l t on D∧Inv (lookN ans B s n++D) wr) (fun _ _ t11 _=>9-(intOf t11).toNat)
   case atStart=>exact ⟨[],[],t,on,1,rfl,rfl,rfl,rfl,HM.out,by rw [List.append_nil];exact HI1.out⟩
   case round =>
    obtain ⟨l,D,t,on,far,rfl,rfl,rfl,hfar,hm,hI2⟩:=hrel
    have HM:=Qh hm
    have HI2:=Qh hI2
    have HF:=Qh hfar
    clear hm hI2 hfar
    cases on
    ·have HN2:=Qh (show Inv (lookN ans B s (n+1)) _ by rw [HNx.out,HM.out.off];exact HI2.out)
     go_wp2
     go_roundw
     case rel=>exact ⟨n+1,by omega,by go_num,HN2.out⟩
     case measure=>simp [intOf];omega
    ·obtain ⟨t0,t1,hlen⟩:=HM.out.1.far H0.out
     obtain ⟨tn,rfl⟩:=Int.eq_ofNat_of_zero_le t0
     have ht64:tn<64:=by omega
     have hfar8:far≤8:=by have:=HF.out;omega
     have hsee:=HS.out.see _ tn n far _ HI2.out (HM.out.len hlt) ht64 hlt (by have:=HF.out;omega) hfar8 (by rw [HF.out,Nat.add_sub_cancel];exact HM.out.1.at_on)
     obtain ⟨a,ha⟩:∃ a,ans (tn:Int) n far=a:=⟨_,rfl⟩
     rw [ha] at hsee
     have HA:=Qh ha
     have HSee:=Qh hsee
     clear ha hsee
     cases a
     ·have HStop:=Qh (HM.out.stop (.inl (by rw [← HF.out];exact HA.out)))
      go_wp2_with fail
      refine HSee.out.mono ?_
      rintro e w3 ⟨rfl,hI3⟩
      have HN2:=Qh (show Inv (lookN ans B s (n+1)) w3 by rw [HNx.out,HStop.out,← HF.out,← List.append_assoc];exact hI3)
      clear hI3
      go_wp2
      go_roundw
      case rel=>exact ⟨n+1,by omega,by go_num,HN2.out⟩
      case measure=>simp [intOf];omega
     ·obtain ⟨x,hx⟩:∃ x,bAt B (tn:Int)=x:=⟨_,rfl⟩
      have hx':B.getD tn 0=x:=by rw [← hx];rfl
      have HX:=Qh hx
      by_cases h0:x=0
      ·have b0:(x == 0)=true:=by simpa using h0
       have H00:=Qh h0
       clear h0 hx
       go_wp2_with fail
       refine HSee.out.mono ?_
       rintro e w3 ⟨rfl,hI3⟩
       have hc:=board_cell HB.out (HS.out.bd _ _ hI3) tn ht64
       rw [hx'] at hc
       have HI3:=Qh hI3
       clear hI3 hx'
       go_wp2_with fail
       refine (HP.out _ _).mono ?_
       rintro e w' ⟨⟨u,on,rfl,hu⟩,rfl⟩
       have HU:=Qh (HM.out.1.next H0.out hu)
       clear hu
       have HM2:=Qh (HM.out.next (by rw [← HF.out];exact HA.out) (by rw [HX.out];exact H00.out) HU.out)
       go_wp2
       go_roundw
       case rel=>exact ⟨l++[(tn:Int)],D++[((tn:Int),n,l.length+1)],u,on,far+1,rfl,rfl,by go_num,by rw [HF.out];simp,HM2.out,by rw [← List.append_assoc,← HF.out];exact HI3.out⟩
       case measure=>simp [intOf];omega
      ·have b0:(x == 0)=false:=by simpa using h0
       have HStop:=Qh (HM.out.stop (.inr (by rw [hx];exact h0)))
       clear h0 hx
       go_wp2_with fail
       refine HSee.out.mono ?_
       rintro e w3 ⟨rfl,hI3⟩
       have hc:=board_cell HB.out (HS.out.bd _ _ hI3) tn ht64
       rw [hx'] at hc
       have HN2:=Qh (show Inv (lookN ans B s (n+1)) w3 by rw [HNx.out,HStop.out,← HF.out,← List.append_assoc];exact hI3)
       clear hI3 hx'
       go_wp2
       go_roundw
       case rel=>exact ⟨n+1,by omega,by go_num,HN2.out⟩
       case measure=>simp [intOf];omega
  ·have hlt':¬ (n:Int)<16:=by omega
   have HE:=Qh (show Inv (lookL ans B s) _ by unfold lookL;rw [show 16=n by omega];exact HI.out)
   go_wp2
   refine bodyPost_end (results_none rfl _ _ _) rfl ?_
   exact ⟨rfl,HE.out⟩
structure KB (W:World) (g:Nat) (w:World):Prop where
 os:w.os=W.os
 output:w.output=W.output
 size:W.heap.size≤w.heap.size
 block:∀ k,k<W.heap.size→k≠g→w.heap[k]?=W.heap[k]?
theorem KB.refl (W:World) (g:Nat):KB W g W:=⟨rfl,rfl,Nat.le_refl _,fun _ _ _=>rfl⟩
theorem KB.kept {W w w':World} {g:Nat} (h:KB W g w) (k:Kept w w'):KB W g w' :=
 ⟨k.os.trans h.os,k.output.trans h.output,Nat.le_trans h.size k.size,fun i hi hne=>(k.block i (Nat.lt_of_lt_of_le hi h.size)).trans (h.block i hi hne)⟩
theorem KB.heap {W w:World} {g k:Nat} {o:Obj} (h:KB W g w) (hne:k≠g) (hk:W.heap[k]?=some o):w.heap[k]?=some o :=
 (h.block k (lt_of_heap hk) hne).trans hk
theorem KB.cell {W w:World} {g:Nat} {a:Addr} {v:Value} (h:KB W g w) (hne:a.block≠g) (hk:W.cell? a=some v):w.cell? a=some v :=
 (World.cell?_of_block (h.block a.block (World.block_lt_of_cell? W a hk) hne)).trans hk
theorem KB.steps {W w:World} {g:Nat} (h:KB W g w) (hne:6≠g) (hk:Steps W):Steps w :=
 fun i hi=>⟨h.cell hne (hk i hi).1,h.cell hne (hk i hi).2⟩
theorem KB.below {V W w:World} {g:Nat} (h:KB W g w) (k:Kept V W) (hg:V.heap.size≤g):Kept V w :=
 ⟨h.os.trans k.os,h.output.trans k.output,Nat.le_trans k.size h.size,fun i hi=>(h.block i (Nat.lt_of_lt_of_le hi k.size) (by omega)).trans (k.block i hi)⟩
theorem cell_box {w:World} {g:Nat} {v:Value} {e:TypeId} (h:w.heap[g]?=some (.cells #[v] e (0,0))):w.cell? ⟨g,0,none⟩=some v:=by
 rw [cell_of_row _ _ 0 _ _ (0,0) h];rfl
theorem frozen_box {w:World} {g:Nat} {v:Value} {e:TypeId} (h:w.heap[g]?=some (.cells #[v] e (0,0))):w.frozen? ⟨g,0,none⟩=false:=by
 simp [World.frozen?,h]
end Go.Proofs.YtlbipjmmlobofaaGreatDoor
