/- SiA · LxI · LxF · LxJ: my texts, in their order. -/
import Derived.Test.YtlbipjmmlobofaaGreatDoorPkA02
import Derived.Lib.ItoaNum
import Derived.Deep.Slices
import Derived.ChangeSame
import Derived.DataShut
import Derived.OwnWalk
import Derived.Test.YtlbipjmmlobofaaGreatDoorShelf
import Derived.Laws.Strings2
import Derived.Sort.OwnSorted
namespace Go.Proofs.YtlbipjmmlobofaaGreatDoor
open Go.RowKit
set_option linter.unusedVariables false
set_option linter.unusedSimpArgs false
set_option maxRecDepth 100000
structure Stp where
 k:Int
 g:Int
 n:Int
 h:Bool
 deriving DecidableEq
def ql (s:Stp):List Value:=[.int .i64 s.k,.int .i64 s.g,.int .i64 s.n,.bool s.h]
def qv (s:Stp):Value:=.agg #[.int .i64 s.k,.int .i64 s.g,.int .i64 s.n,.bool s.h]
def Zt:Stp:=⟨0,0,0,false⟩
def kT (k:Int):ByteArray :=
 if k=2 then ⟨#[115]⟩ else if k=3 then ⟨#[114]⟩ else if k=4 then ⟨#[115,101,109,105,45,114]⟩ else if k=5 then ⟨#[104]⟩
 else if k=6 then ⟨#[115,101,114,45,104]⟩ else if k=7 then ⟨#[115,101,114,45]⟩ else if k=8 then ⟨#[100,105,97,32]⟩ else ⟨#[]⟩
def gT (g:Int):ByteArray:=if g=1 then ⟨#[35]⟩ else if g=2 then ⟨#[61]⟩ else ⟨#[]⟩
def dT (n:Int):ByteArray:=⟨(Lib.decDigits n.toNat).toArray⟩
def hfT:ByteArray:=⟨#[46,53]⟩
def opT (k g:Int):ByteArray:=kT k++gT g
def txT (s:Stp):ByteArray:=if s.h=true then (opT s.k s.g++dT s.n)++hfT else opT s.k s.g++dT s.n
def okG (k g:Int):Bool:=(decide (k=8) && decide (g=0)) || ((decide (1≤k) && decide (k≤7)) && (decide (1≤g) && decide (g≤2)))
def okN (k n:Int) (h:Bool):Bool:=if h=true then decide (k=5) && (decide (0≤n) && decide (n≤64)) else decide (0<n) && decide (n≤64)
def okSt (s:Stp):Bool:=okG s.k s.g && okN s.k s.n s.h
def begI (s:Stp):Int:=if okSt s=true then (if s.k=6∨(s.k=5∧s.h=false) then 1 else 0) else -1
def cmnU:List UInt8→List Nat→Nat
 | x::u,y::v=>if x.toNat=y then cmnU u v+1 else 0
 | _,_=>0
theorem cmnU_nil (l:List Nat):cmnU [] l=0:=by cases l <;> rfl
theorem cmnU_nil2 (l:List UInt8):cmnU l []=0:=by cases l <;> rfl
theorem cmnU_cc (x:UInt8) (u:List UInt8) (y:Nat) (v:List Nat):cmnU (x::u) (y::v)=if x.toNat=y then cmnU u v+1 else 0:=rfl
theorem cmn_nil (l:List UInt8):cmn [] l=0:=by cases l <;> rfl
theorem cmn_nil2 (l:List UInt8):cmn l []=0:=by cases l <;> rfl
theorem cmn_cc (x:UInt8) (u:List UInt8) (y:UInt8) (v:List UInt8):cmn (x::u) (y::v)=if x=y then cmn u v+1 else 0:=rfl
theorem cmnU_is:∀ (a:List UInt8) (l:List Nat),(∀ y ∈ l,y<256)→cmn a (l.map UInt8.ofNat)=cmnU a l
 | [],l,_=>by rw [cmn_nil,cmnU_nil]
 | x::a,[],_=>by rw [List.map_nil,cmn_nil2,cmnU_nil2]
 | x::a,y::l,h=>by
  have hy:y<256:=h y (by simp)
  rw [List.map_cons,cmn_cc,cmnU_cc,cmnU_is a l (fun z hz=>h z (by simp [hz]))]
  have e:(UInt8.ofNat y).toNat=y:=by simp;omega
  by_cases c:x.toNat=y
  ·rw [if_pos c,if_pos (UInt8.toNat.inj (by omega))]
  ·rw [if_neg c,if_neg (fun hx=>c (by rw [hx];exact e))]
def nmN (n:Nat) (h:Bool):List Nat:=(if n<10 then [48+n] else [48+n / 10,48+n % 10])++(if h=true then [46,53] else [])
def nmL (n:Int) (h:Bool):List UInt8:=bs (dT n)++(if h=true then bs hfT else [])
theorem dig_1 {n:Nat} (h:n<10):Lib.decDigits n=[UInt8.ofNat (48+n)]:=by unfold Lib.decDigits;rw [dif_pos h]
theorem dig_2 {n:Nat} (h:10≤n) (h2:n<100):Lib.decDigits n=[UInt8.ofNat (48+n / 10),UInt8.ofNat (48+n % 10)]:=by
 unfold Lib.decDigits
 rw [dif_neg (by omega),dig_1 (by omega)]
 rfl
theorem bs_dT (n:Int):bs (dT n)=Lib.decDigits n.toNat:=rfl
theorem nmL_is (n:Nat) (hn:n<100) (h:Bool):nmL n h=(nmN n h).map UInt8.ofNat:=by
 unfold nmL nmN
 rw [bs_dT,List.map_append]
 by_cases h1:n<10
 ·rw [show ((n:Int)).toNat=n from rfl,dig_1 h1,if_pos h1];cases h <;> rfl
 ·rw [show ((n:Int)).toNat=n from rfl,dig_2 (by omega) hn,if_neg h1];cases h <;> rfl
theorem nmN_low (n:Nat) (hn:n<100) (h:Bool):∀ y ∈ nmN n h,y<256:=by
 intro y hy
 unfold nmN at hy
 split at hy <;> cases h <;> simp at hy <;> omega
theorem cmn_nm (a:List UInt8) (n:Nat) (hn:n<100) (h:Bool):cmn a (nmL n h)=cmnU a (nmN n h):=by
 rw [nmL_is n hn,cmnU_is _ _ (nmN_low n hn h)]
theorem nm_len (n:Nat) (hn:n<100) (h:Bool):(nmL n h).length=(nmN n h).length:=by rw [nmL_is n hn,List.length_map]
def tl5 (hB:Bool) (m:List UInt8):Nat:=if hB=true then cmnU m [46,53] else 0
theorem tl5_le (hB:Bool) (m:List UInt8):tl5 hB m≤2:=by
 unfold tl5
 split
 ·rcases m with _|⟨a,_|⟨b,r⟩⟩
  ·simp [cmnU]
  ·simp only [cmnU];split <;> omega
  ·simp only [cmnU]
   split
   ·split <;> omega
   ·omega
 ·omega
def fin (hB:Bool) (p n:Nat) (m:List UInt8):Nat × Int × Nat × Bool :=
 (p+tl5 hB m,if tl5 hB m=2 then (p+2:Nat) else if n=0 then -1 else p,n,decide (tl5 hB m=2))
def nmP (hB:Bool):List UInt8→Nat × Int × Nat × Bool
 | []=>(0,-1,0,false)
 | b::r =>
  if b.toNat<48∨57<b.toNat∨(b.toNat=48∧hB=false) then (0,-1,0,false)
  else match r with
   | []=>fin hB 1 (b.toNat-48) []
   | c::r'=>if 48<b.toNat∧48≤c.toNat∧c.toNat≤57∧10*(b.toNat-48)+(c.toNat-48)≤64 then fin hB 2 (10*(b.toNat-48)+(c.toNat-48)) r' else fin hB 1 (b.toNat-48) (c::r')
def okM (hB:Bool) (n:Nat) (h:Bool):Prop:=n≤64∧(h=true→hB=true)∧(h=false→0<n)
structure TopN (hB:Bool) (m:List UInt8) (x:Nat × Int × Nat × Bool):Prop where
 up:∀ n h,okM hB n h→cmnU m (nmN n h)≤x.1
 at_:x.1=0∨∃ n h,okM hB n h∧cmnU m (nmN n h)=x.1
 no:x.2.1=-1→∀ n h,okM hB n h→cmnU m (nmN n h)≠(nmN n h).length
 yes:x.2.1≠-1→okM hB x.2.2.1 x.2.2.2∧x.2.1=((nmN x.2.2.1 x.2.2.2).length:Nat)∧cmnU m (nmN x.2.2.1 x.2.2.2)=(nmN x.2.2.1 x.2.2.2).length ∧
  ∀ n h,okM hB n h→cmnU m (nmN n h)=(nmN n h).length→(nmN n h).length≤(nmN x.2.2.1 x.2.2.2).length∧((nmN n h).length=(nmN x.2.2.1 x.2.2.2).length→n=x.2.2.1∧h=x.2.2.2)
theorem u5_le (m:List UInt8):cmnU m [46,53]≤2:=tl5_le true m
theorem nmN_ff {n:Nat} (h:n<10):nmN n false=[48+n]:=by unfold nmN;rw [if_pos h];rfl
theorem nmN_ft {n:Nat} (h:n<10):nmN n true=[48+n,46,53]:=by unfold nmN;rw [if_pos h];rfl
theorem nmN_tf {n:Nat} (h:¬ n<10):nmN n false=[48+n / 10,48+n % 10]:=by unfold nmN;rw [if_neg h];rfl
theorem nmN_tt {n:Nat} (h:¬ n<10):nmN n true=[48+n / 10,48+n % 10,46,53]:=by unfold nmN;rw [if_neg h];rfl
theorem nmN_cases {n:Nat} {h:Bool}:(n<10∧h=false∧nmN n h=[48+n])∨(n<10∧h=true∧nmN n h=[48+n,46,53])∨(10≤n∧h=false∧nmN n h=[48+n / 10,48+n % 10])∨(10≤n∧h=true∧nmN n h=[48+n / 10,48+n % 10,46,53]):=by
 by_cases h1:n<10
 ·cases h
  ·exact .inl ⟨h1,rfl,nmN_ff h1⟩
  ·exact .inr (.inl ⟨h1,rfl,nmN_ft h1⟩)
 ·cases h
  ·exact .inr (.inr (.inl ⟨by omega,rfl,nmN_tf h1⟩))
  ·exact .inr (.inr (.inr ⟨by omega,rfl,nmN_tt h1⟩))
theorem nmP_nil (hB:Bool):nmP hB []=(0,-1,0,false):=rfl
theorem nmP_no {hB:Bool} {b:UInt8} {r:List UInt8} (h:b.toNat<48∨57<b.toNat∨(b.toNat=48∧hB=false)):nmP hB (b::r)=(0,-1,0,false):=if_pos h
theorem nmP_end {hB:Bool} {b:UInt8} (h:¬ (b.toNat<48∨57<b.toNat∨(b.toNat=48∧hB=false))):nmP hB [b]=fin hB 1 (b.toNat-48) []:=if_neg h
theorem nmP_two {hB:Bool} {b c:UInt8} {r:List UInt8} (h:¬ (b.toNat<48∨57<b.toNat∨(b.toNat=48∧hB=false))) (h2:48<b.toNat∧48≤c.toNat∧c.toNat≤57∧10*(b.toNat-48)+(c.toNat-48)≤64):nmP hB (b::c::r)=fin hB 2 (10*(b.toNat-48)+(c.toNat-48)) r:=(if_neg h).trans (if_pos h2)
theorem nmP_one {hB:Bool} {b c:UInt8} {r:List UInt8} (h:¬ (b.toNat<48∨57<b.toNat∨(b.toNat=48∧hB=false))) (h2:¬ (48<b.toNat∧48≤c.toNat∧c.toNat≤57∧10*(b.toNat-48)+(c.toNat-48)≤64)):nmP hB (b::c::r)=fin hB 1 (b.toNat-48) (c::r):=(if_neg h).trans (if_neg h2)
theorem fin_one (hB:Bool) (b:UInt8) (m:List UInt8) (h0:48≤b.toNat) (h1:b.toNat≤57) (hz:b.toNat=48→hB=true)
  (hm:∀ c r,m=c::r→¬ (48<b.toNat∧48≤c.toNat∧c.toNat≤57∧10*(b.toNat-48)+(c.toNat-48)≤64)) :
  TopN hB (b::m) (fin hB 1 (b.toNat-48) m):=by
 have hu:=u5_le m
 have key:∀ n h,okM hB n h→(n<10→(h=false→cmnU (b::m) (nmN n h)=if b.toNat=48+n then 1 else 0)∧(h=true→cmnU (b::m) (nmN n h)=if b.toNat=48+n then cmnU m [46,53]+1 else 0))∧(10≤n→cmnU (b::m) (nmN n h)≤1):=by
  intro n h ⟨a1,a2,a3⟩
  refine ⟨fun hn=>⟨fun e=>?_,fun e=>?_⟩,fun hn=>?_⟩
  ·rw [e,nmN_ff hn,cmnU_cc,cmnU_nil2]
  ·rw [e,nmN_ft hn,cmnU_cc]
  ·have ht:∀ l:List Nat,cmnU (b::m) ((48+n / 10)::(48+n % 10)::l)≤1:=by
    intro l
    rw [cmnU_cc]
    rcases m with _|⟨c,r⟩
    ·rw [cmnU_nil];split <;> omega
    ·rw [cmnU_cc]
     have:=hm c r rfl
     split
     ·split
      ·omega
      ·omega
     ·omega
   cases h
   ·rw [nmN_tf (by omega)];exact ht []
   ·rw [nmN_tt (by omega)];exact ht [46,53]
 have k0:okM hB (b.toNat-48) true↔hB=true:=⟨fun x=>x.2.1 rfl,fun x=>⟨by omega,fun _=>x,fun e=>by simp at e⟩⟩
 have ht:hB=true→tl5 hB m=cmnU m [46,53]:=by rintro rfl;rfl
 have hf:hB=false→tl5 hB m=0:=by rintro rfl;rfl
 have hle:=tl5_le hB m
 have v1:okM hB (b.toNat-48) false↔48<b.toNat:=⟨fun x=>by have:=x.2.2 rfl;omega,fun x=>⟨by omega,fun e=>by simp at e,fun _=>by omega⟩⟩
 have c1:okM hB (b.toNat-48) false→cmnU (b::m) (nmN (b.toNat-48) false)=1:=by intro x;rw [((key _ _ x).1 (by omega)).1 rfl,if_pos (by omega)]
 have c2:okM hB (b.toNat-48) true→cmnU (b::m) (nmN (b.toNat-48) true)=cmnU m [46,53]+1:=by intro x;rw [((key _ _ x).1 (by omega)).2 rfl,if_pos (by omega)]
 have l1:(nmN (b.toNat-48) false).length=1:=by rw [nmN_ff (by omega)];rfl
 have l2:(nmN (b.toNat-48) true).length=3:=by rw [nmN_ft (by omega)];rfl
 have whole:∀ n h,okM hB n h→cmnU (b::m) (nmN n h)=(nmN n h).length→n=b.toNat-48∧(h=true→cmnU m [46,53]=2):=by
  intro n h hv hw
  have hk:=key n h hv
  rcases @nmN_cases n h with ⟨hn,e,e2⟩|⟨hn,e,e2⟩|⟨hn,e,e2⟩|⟨hn,e,e2⟩
  ·rw [(hk.1 hn).1 e,e2] at hw;simp at hw;exact ⟨by omega,fun x=>by rw [x] at e;simp at e⟩
  ·rw [(hk.1 hn).2 e,e2] at hw
   simp only [List.length_cons,List.length_nil] at hw
   split at hw
   ·exact ⟨by omega,fun _=>by omega⟩
   ·omega
  ·have:=hk.2 hn;rw [hw,e2] at this;simp at this
  ·have:=hk.2 hn;rw [hw,e2] at this;simp at this
 constructor
 ·intro n h hv
  show _≤1+tl5 hB m
  have hk:=key n h hv
  by_cases hn:n<10
  ·cases h
   ·rw [(hk.1 hn).1 rfl];split <;> omega
   ·rw [(hk.1 hn).2 rfl,ht (hv.2.1 rfl)];split <;> omega
  ·have:=hk.2 (by omega);omega
 ·right
  show ∃ n h,okM hB n h∧cmnU (b::m) (nmN n h)=1+tl5 hB m
  by_cases hh:hB=true
  ·exact ⟨_,true,k0.2 hh,by rw [c2 (k0.2 hh),ht hh];omega⟩
  ·have:48<b.toNat:=by
    rcases Nat.lt_or_ge 48 b.toNat with x|x
    ·exact x
    ·exact absurd (hz (by omega)) hh
   exact ⟨_,false,v1.2 this,by rw [c1 (v1.2 this),hf (by simpa using hh)]⟩
 ·intro hm1 n h hv hw
  have hww:=whole n h hv hw
  change (if tl5 hB m=2 then ((1+2:Nat):Int) else if b.toNat-48=0 then -1 else ((1:Nat):Int))=-1 at hm1
  by_cases h2:tl5 hB m=2
  ·rw [if_pos h2] at hm1;omega
  ·rw [if_neg h2] at hm1
   by_cases hz0:b.toNat-48=0
   ·cases h
    ·have:=hv.2.2 rfl;omega
    ·have:=hww.2 rfl;rw [← ht (hv.2.1 rfl)] at this;exact h2 this
   ·rw [if_neg hz0] at hm1;omega
 ·intro hm1
  change (if tl5 hB m=2 then ((1+2:Nat):Int) else if b.toNat-48=0 then -1 else ((1:Nat):Int))≠-1 at hm1
  show okM hB (b.toNat-48) (decide (tl5 hB m=2))∧(if tl5 hB m=2 then ((1+2:Nat):Int) else if b.toNat-48=0 then -1 else ((1:Nat):Int))=((nmN (b.toNat-48) (decide (tl5 hB m=2))).length:Nat) ∧
   cmnU (b::m) (nmN (b.toNat-48) (decide (tl5 hB m=2)))=(nmN (b.toNat-48) (decide (tl5 hB m=2))).length ∧
   ∀ n h,okM hB n h→cmnU (b::m) (nmN n h)=(nmN n h).length→(nmN n h).length≤(nmN (b.toNat-48) (decide (tl5 hB m=2))).length∧((nmN n h).length=(nmN (b.toNat-48) (decide (tl5 hB m=2))).length→n=b.toNat-48∧h=decide (tl5 hB m=2))
  by_cases h2:tl5 hB m=2
  ·have hh:hB=true:=by
    cases hB
    ·rw [hf rfl] at h2;omega
    ·rfl
   rw [if_pos h2,decide_eq_true h2,l2]
   refine ⟨k0.2 hh,rfl,?_,?_⟩
   ·rw [c2 (k0.2 hh),← ht hh,h2]
   ·intro n h hv hw
    obtain ⟨rfl,w2⟩:=whole n h hv hw
    cases h
    ·rw [l1];exact ⟨by omega,fun e=>by omega⟩
    ·rw [l2];exact ⟨by omega,fun e=>⟨rfl,rfl⟩⟩
  ·rw [if_neg h2] at hm1
   have hz0:b.toNat-48≠0:=by intro e;rw [if_pos e] at hm1;exact hm1 rfl
   rw [if_neg h2,if_neg hz0,decide_eq_false h2,l1]
   refine ⟨v1.2 (by omega),rfl,c1 (v1.2 (by omega)),?_⟩
   intro n h hv hw
   obtain ⟨rfl,w2⟩:=whole n h hv hw
   cases h
   ·rw [l1];exact ⟨by omega,fun _=>⟨rfl,rfl⟩⟩
   ·have:=w2 rfl;rw [← ht (hv.2.1 rfl)] at this;exact absurd this h2
theorem fin_two (hB:Bool) (b c:UInt8) (m:List UInt8) (h0:48<b.toNat) (h1:b.toNat≤57) (g0:48≤c.toNat) (g1:c.toNat≤57) (hz:10*(b.toNat-48)+(c.toNat-48)≤64) :
  TopN hB (b::c::m) (fin hB 2 (10*(b.toNat-48)+(c.toNat-48)) m):=by
 have hu:=u5_le m
 obtain ⟨N,hN⟩:∃ N,10*(b.toNat-48)+(c.toNat-48)=N:=⟨_,rfl⟩
 rw [hN] at hz ⊢
 have key:∀ n h,okM hB n h→(n<10→cmnU (b::c::m) (nmN n h)≤1)∧(10≤n→n≠N→cmnU (b::c::m) (nmN n h)≤1):=by
  intro n h ⟨a1,a2,a3⟩
  refine ⟨fun hn=>?_,fun hn hne=>?_⟩
  ·cases h
   ·rw [nmN_ff hn,cmnU_cc,cmnU_nil2];split <;> omega
   ·have hc:¬ c.toNat=46:=by omega
    rw [nmN_ft hn,cmnU_cc,cmnU_cc,if_neg hc];split <;> omega
  ·have ht:∀ l:List Nat,cmnU (b::c::m) ((48+n / 10)::(48+n % 10)::l)≤1:=by
    intro l
    rw [cmnU_cc,cmnU_cc]
    split
    ·split
     ·omega
     ·omega
    ·omega
   cases h
   ·rw [nmN_tf (by omega)];exact ht []
   ·rw [nmN_tt (by omega)];exact ht [46,53]
 have hN1:10≤N:=by omega
 have k0:okM hB N true↔hB=true:=⟨fun x=>x.2.1 rfl,fun x=>⟨by omega,fun _=>x,fun e=>by simp at e⟩⟩
 have ht:hB=true→tl5 hB m=cmnU m [46,53]:=by rintro rfl;rfl
 have hf:hB=false→tl5 hB m=0:=by rintro rfl;rfl
 have hle:=tl5_le hB m
 have v1:okM hB N false:=⟨by omega,fun e=>by simp at e,fun _=>by omega⟩
 have c1:cmnU (b::c::m) (nmN N false)=2:=by rw [nmN_tf (by omega),cmnU_cc,cmnU_cc,cmnU_nil2,if_pos (by omega),if_pos (by omega)]
 have c2:cmnU (b::c::m) (nmN N true)=cmnU m [46,53]+2:=by rw [nmN_tt (by omega),cmnU_cc,cmnU_cc,if_pos (by omega),if_pos (by omega)]
 have l1:(nmN N false).length=2:=by rw [nmN_tf (by omega)];rfl
 have l2:(nmN N true).length=4:=by rw [nmN_tt (by omega)];rfl
 have lo:∀ n h,okM hB n h→cmnU (b::c::m) (nmN n h)=(nmN n h).length→(n=N∧(h=true→cmnU m [46,53]=2))∨(nmN n h).length=1:=by
  intro n h hv hw
  have hk:=key n h hv
  by_cases e:n=N
  ·left
   refine ⟨e,fun x=>?_⟩
   rw [e,x,c2,l2] at hw;omega
  ·right
   have:(nmN n h).length≤1:=by
    rw [← hw]
    rcases Nat.lt_or_ge n 10 with x|x
    ·exact hk.1 x
    ·exact hk.2 x e
   rcases @nmN_cases n h with ⟨hn,_,e2⟩|⟨hn,_,e2⟩|⟨hn,_,e2⟩|⟨hn,_,e2⟩
   all_goals rw [e2] at this ⊢
   all_goals simp at this ⊢
 constructor
 ·intro n h hv
  show _≤2+tl5 hB m
  have hk:=key n h hv
  by_cases e:n=N
  ·cases h
   ·rw [e,c1];omega
   ·rw [e,c2,ht (hv.2.1 rfl)];omega
  ·rcases Nat.lt_or_ge n 10 with x|x
   ·have:=hk.1 x;omega
   ·have:=hk.2 x e;omega
 ·right
  show ∃ n h,okM hB n h∧cmnU (b::c::m) (nmN n h)=2+tl5 hB m
  by_cases hh:hB=true
  ·exact ⟨_,true,k0.2 hh,by rw [c2,ht hh];omega⟩
  ·exact ⟨_,false,v1,by rw [c1,hf (by simpa using hh)]⟩
 ·intro hm1
  change (if tl5 hB m=2 then ((2+2:Nat):Int) else if N=0 then -1 else ((2:Nat):Int))=-1 at hm1
  exfalso
  split at hm1
  ·omega
  ·split at hm1 <;> omega
 ·intro _
  show okM hB N (decide (tl5 hB m=2))∧(if tl5 hB m=2 then ((2+2:Nat):Int) else if N=0 then -1 else ((2:Nat):Int))=((nmN N (decide (tl5 hB m=2))).length:Nat) ∧
   cmnU (b::c::m) (nmN N (decide (tl5 hB m=2)))=(nmN N (decide (tl5 hB m=2))).length ∧
   ∀ n h,okM hB n h→cmnU (b::c::m) (nmN n h)=(nmN n h).length→(nmN n h).length≤(nmN N (decide (tl5 hB m=2))).length∧((nmN n h).length=(nmN N (decide (tl5 hB m=2))).length→n=N∧h=decide (tl5 hB m=2))
  by_cases h2:tl5 hB m=2
  ·have hh:hB=true:=by
    cases hB
    ·rw [hf rfl] at h2;omega
    ·rfl
   rw [if_pos h2,decide_eq_true h2,l2]
   refine ⟨k0.2 hh,rfl,?_,?_⟩
   ·rw [c2,← ht hh,h2]
   ·intro n h hv hw
    rcases lo n h hv hw with ⟨rfl,w2⟩|w3
    ·cases h
     ·rw [l1];exact ⟨by omega,fun e=>by omega⟩
     ·rw [l2];exact ⟨by omega,fun e=>⟨rfl,rfl⟩⟩
    ·rw [w3];exact ⟨by omega,fun e=>by omega⟩
  ·rw [if_neg h2,if_neg (by omega),decide_eq_false h2,l1]
   refine ⟨v1,rfl,c1,?_⟩
   intro n h hv hw
   rcases lo n h hv hw with ⟨rfl,w2⟩|w3
   ·cases h
    ·rw [l1];exact ⟨by omega,fun _=>⟨rfl,rfl⟩⟩
    ·have:=w2 rfl;rw [← ht (hv.2.1 rfl)] at this;exact absurd this h2
   ·rw [w3];exact ⟨by omega,fun e=>by omega⟩
theorem nmN_ne (n:Nat) (h:Bool):∃ x l,nmN n h=x::l∧(x=48+n∨(10≤n∧x=48+n / 10)):=by
 rcases @nmN_cases n h with ⟨hn,_,e⟩|⟨hn,_,e⟩|⟨hn,_,e⟩|⟨hn,_,e⟩
 ·exact ⟨_,_,e,.inl rfl⟩
 ·exact ⟨_,_,e,.inl rfl⟩
 ·exact ⟨_,_,e,.inr ⟨hn,rfl⟩⟩
 ·exact ⟨_,_,e,.inr ⟨hn,rfl⟩⟩
theorem nmN_lo {n:Nat} {h:Bool} {x:Nat} {l:List Nat} (e:nmN n h=x::l):(x=48+n∧n<10)∨(10≤n∧x=48+n / 10):=by
 rcases @nmN_cases n h with ⟨hn,_,e2⟩|⟨hn,_,e2⟩|⟨hn,_,e2⟩|⟨hn,_,e2⟩
 all_goals rw [e2] at e
 all_goals simp only [List.cons.injEq] at e
 ·exact .inl ⟨e.1.symm,hn⟩
 ·exact .inl ⟨e.1.symm,hn⟩
 ·exact .inr ⟨hn,e.1.symm⟩
 ·exact .inr ⟨hn,e.1.symm⟩
theorem zero_top {hB:Bool} {m:List UInt8} (h:∀ n h,okM hB n h→cmnU m (nmN n h)=0):TopN hB m (0,-1,0,false):=by
 constructor
 ·intro n b hv;rw [h n b hv];exact Nat.le_refl _
 ·exact .inl rfl
 ·intro _ n b hv
  obtain ⟨x,l,e,_⟩:=nmN_ne n b
  rw [h n b hv,e];simp
 ·intro h;exact absurd rfl h
theorem nmP_top (hB:Bool) (m:List UInt8):TopN hB m (nmP hB m):=by
 rcases m with _|⟨b,r⟩
 ·exact zero_top fun n h _=>cmnU_nil _
 ·by_cases h:b.toNat<48∨57<b.toNat∨(b.toNat=48∧hB=false)
  ·rw [nmP_no h]
   refine zero_top fun n hf hv=>?_
   obtain ⟨x,l,e,_⟩:=nmN_ne n hf
   have h1:=nmN_lo e
   obtain ⟨a1,a2,a3⟩:=hv
   rw [e,cmnU_cc,if_neg]
   intro ex
   rcases h with h|h|⟨h,h2⟩
   ·omega
   ·omega
   ·have:hf=false:=by
     cases hf
     ·rfl
     ·rw [h2] at a2;exact absurd (a2 rfl) (by simp)
    have:=a3 this
    omega
  ·have hz:b.toNat=48→hB=true:=by
    intro e
    cases hB
    ·exact absurd (.inr (.inr ⟨e,rfl⟩)) h
    ·rfl
   rcases r with _|⟨c,r⟩
   ·rw [nmP_end h];exact fin_one hB b [] (by omega) (by omega) hz (fun c r e=>by simp at e)
   ·by_cases h2:48<b.toNat∧48≤c.toNat∧c.toNat≤57∧10*(b.toNat-48)+(c.toNat-48)≤64
    ·rw [nmP_two h h2];exact fin_two hB b c r h2.1 (by omega) h2.2.1 h2.2.2.1 h2.2.2.2
    ·rw [nmP_one h h2];exact fin_one hB b (c::r) (by omega) (by omega) hz (fun c' r' e=>by simp only [List.cons.injEq] at e;rw [← e.1];exact h2)
set_option maxHeartbeats 4000000

def LsT (w:World) (v:Value) (l:List ByteArray):Prop :=
 (v=.slice none 0 0∧l=[])∨∃ g off cap,v=.slice (some ⟨g,off,none⟩) l.length cap∧g<w.heap.size∧l.length≤cap∧∀ j x,l[j]?=some x→w.cell? ⟨g,off+j,none⟩=some (.string x)
theorem LsT.kept {w w':World} {v:Value} {l:List ByteArray} (h:LsT w v l) (k:Kept w w'):LsT w' v l:=by
 rcases h with h|⟨g,off,cap,e,h1,h2,h3⟩
 ·exact .inl h
 ·exact .inr ⟨g,off,cap,e,Nat.lt_of_lt_of_le h1 k.size,h2,fun j x hx=>kept_cell k (h3 j x hx)⟩
theorem LsT.slice {w:World} {v:Value} {l:List ByteArray} (h:LsT w v l):∃ a cap,v=.slice a l.length cap:=by
 rcases h with ⟨rfl,rfl⟩|⟨g,off,cap,rfl,_⟩
 ·exact ⟨_,_,rfl⟩
 ·exact ⟨_,_,rfl⟩
theorem LsT.at_ {w:World} {v:Value} {l:List ByteArray} (h:LsT w v l) (hl:0<l.length) :
  ∃ g off cap,v=.slice (some ⟨g,off,none⟩) l.length cap∧g<w.heap.size∧l.length≤cap∧∀ j x,l[j]?=some x→w.cell? ⟨g,off+j,none⟩=some (.string x):=by
 rcases h with ⟨rfl,rfl⟩|h
 ·simp at hl
 ·exact h
def pf (h t:ByteArray):Bool:=(bs h).isPrefixOf (bs t)
theorem pf_iff (h t:ByteArray):pf h t=true↔bs h <+: bs t:=List.isPrefixOf_iff_prefix
theorem pf_no (h t:ByteArray):pf h t=false↔¬ bs h <+: bs t:=by rw [← pf_iff,Bool.not_eq_true]
set_option maxHeartbeats 4000000

theorem sclone_is (s:ByteArray) (hs:s.size≤1000) (w:World):Calls Tryz.prog 108 #[.string s] w fun e w'=>e=.returned (.string s)∧Kept w w':=by
 go_enter Tryz.func108,Tryz.ntmps108
 go_wp2_with fail
 refine (Tryz.stringslite_Clone s _ (by omega)).mono ?_
 rintro e w' ⟨rfl,hb⟩
 have HB:=Qh hb
 clear hb
 go_wp2
 go_ret
 exact ⟨rfl,Below.toKept HB.out⟩
theorem lrun_cut (t:ByteArray) (m n:Nat) (i j:Int) (hi:i=m) (hj:j=n) (hmn:m≤n) (hn:n≤t.size) (s:ByteArray) (hs:t.extract m n=s) (w:World) :
  (Instr.slice 9 (.string t) (some (.int .i64 i)) (some (.int .i64 j)) none).run Tryz.prog w=.ok (.string s) w:=by
 subst hi hj
 have:=run_slice_string (P:=Tryz.prog) (w:=w) 9 t .i64 .i64 (m:Int) (n:Int) Tryz.underlying9 (by omega) (by omega) (by omega)
 rw [this,← hs]
 rfl
theorem results_str_sp {fn:Func} {u s:Tmp} (h:fn.results=#[.tmp u,.cell s 64]) (tmps:Array Value) {w:World} {g:Nat} {m:Sp}
  (hp:tmps.getD s undef=.pointer (some ⟨g,0,none⟩)) (hg:SAt w g m):(results fn tmps).run Tryz.prog w=.ok (.tuple #[tmps.getD u undef,sv m]) w:=by
 have hp':tmps[s]?.getD undef=.pointer (some ⟨g,0,none⟩):=by simpa using hp
 have hl:(loadVar 64 ⟨g,0,none⟩).run Tryz.prog w=.ok (sv m) w:=run_loadVar_row w g _ _ (sl m).toArray (0,0) _ hg.at_ Tryz.underlying64 rfl (sl_sz m)
 simp [results,h,hp',asAddr,hl]
theorem ret_str {fn:Func} {u s:Tmp} (h:fn.results=#[.tmp u,.cell s 64]) {tmps:Array Value} {w:World} {g:Nat} {j m:Sp} (hg:SAt w g j)
  (hp:tmps.getD s undef=.pointer (some ⟨g,0,none⟩)):(results fn tmps).run Tryz.prog (w.setRow g (sl m).toArray)=.ok (.tuple #[tmps.getD u undef,sv m]) (w.setRow g (sl m).toArray):=results_str_sp h tmps hp (hg.row m)
theorem ln_at {t s:ByteArray} {m p:Nat} {b:UInt8} (hm:m≤t.size) (hbs:bs s=(bs t).drop m) (h:(bs s)[p]?=some b) (hb:b=10) (ha:∀ k,k<p→(bs s)[k]?≠some 10) :
  lnT t m=t.extract m (m+p)∧lnS t m=⟨(m:Int)+p+1,0,0⟩:=by
 have hin:inB t (m:Int)=true:=by simp [inB];omega
 have hf:=lnF_at h hb ha
 have hl:=(List.getElem?_eq_some_iff.1 h).1
 unfold lnT lnS
 rw [if_pos hin,if_pos hin]
 simp only [Int.toNat_natCast]
 rw [← hbs,hf,if_pos hl]
 exact ⟨rfl,rfl⟩
theorem ln_none {t s:ByteArray} {m:Nat} (hm:m≤t.size) (hbs:bs s=(bs t).drop m) (ha:∀ k,k<s.size→(bs s)[k]?≠some 10) :
  lnT t m=t.extract m t.size∧lnS t m=⟨t.size,0,1⟩:=by
 have hin:inB t (m:Int)=true:=by simp [inB];omega
 have hz:s.size=t.size-m:=by rw [← bs_len,hbs,List.length_drop,bs_len]
 have hf:=lnF_none (M:=bs s) (by rw [bs_len];exact ha)
 unfold lnT lnS
 rw [if_pos hin,if_pos hin]
 simp only [Int.toNat_natCast]
 rw [← hbs,hf,if_neg (by omega),bs_len,hz,show m+(t.size-m)=t.size by omega]
 exact ⟨rfl,rfl⟩
theorem lline_is (t:ByteArray) (i:Int) (ht:t.size≤1000) (w:World) :
  Calls Tryz.prog 76 #[.string t,.int .i64 i] w fun e w'=>e=.returned (.tuple #[.string (lnT t i),sv (lnS t i)])∧Kept w w':=by
 have HS:=Qh (SAt.new w Zs)
 have HI:=Qh (lwithin_is t i)
 cases hb:inB t i with
 | false =>
  rw [hb] at HI
  have HE:=Qh (show lnT t i=⟨#[]⟩∧lnS t i=argS by unfold lnT lnS;rw [if_neg (by rw [hb];decide),if_neg (by rw [hb];decide)];exact ⟨rfl,rfl⟩)
  clear hb
  go_enter Tryz.func76,Tryz.ntmps76
  go_wp2_with (with_reducible refine wpList_new_sp rfl rfl ?_)
  refine (HI.out _).mono ?_
  rintro e w1 ⟨rfl,rfl⟩
  go_wp2_with fail
  refine (refused_is _).mono ?_
  rintro e w2 ⟨rfl,k2⟩
  have H2:=Qh (HS.out.kept k2)
  have K2:=Qh (((Kept.refl w).alloc _).trans k2)
  clear k2
  go_wp2_with (refine wpList_store_sp rfl _ _ rfl w.heap.size Zs argS H2.out rfl rfl ?_)
  refine bodyPost_ret (v:=.tuple #[.string ⟨#[]⟩,sv argS]) ?_ rfl ⟨by rw [HE.out.1,HE.out.2],K2.out.setRow (by omega) _⟩
  exact (ret_str rfl H2.out rfl).trans rfl
 | true =>
  rw [hb] at HI
  obtain ⟨m,rfl,hm⟩:=inB_yes hb
  clear hb
  obtain ⟨s,hs⟩:∃ s,t.extract m t.size=s:=⟨_,rfl⟩
  obtain ⟨hz,hbs⟩:=rest_facts hm hs
  have hsl:=lrun_rest t m hm s hs
  have HBS:=Qh hbs
  have HSS:=Qh hs
  have HQ:=Qh (stuck_is t)
  clear hs hbs
  go_enter Tryz.func76,Tryz.ntmps76
  go_wp2_with (with_reducible refine wpList_new_sp rfl rfl ?_)
  refine (HI.out _).mono ?_
  rintro e w1 ⟨rfl,rfl⟩
  go_wp2
  go_loopw [6] (fun _ wr=>∃ p:Nat,It w wr s p∧∀ k,k<p→(bs s)[k]?≠some 10) (fun _ wr=>s.size-wr.iterPos (w.heap.size+1))
  case atStart=>exact ⟨0,It.start w s,fun k hk=>by omega⟩
  case round =>
   obtain ⟨p,hIt,hno⟩:=hrel
   have HIt:=Qh hIt
   have HNo:=Qh hno
   clear hIt hno
   by_cases hp:p<s.size
   ·obtain ⟨q,k,b,hd,hb,hk,hq,hqb,hin⟩:=sign_at s p hp
    have hnx:=fun ty=>next_at (P:=Tryz.prog) wr (w.heap.size+1) s p ty HIt.out.iter hp
    simp only [hd] at hnx
    clear hd
    by_cases hr:q=10
    ·have hb10:b=10:=UInt8.toNat.inj (by rcases hqb with h|h;exact h.2.1.symm.trans hr;omega)
     have HE:=Qh (ln_at hm HBS.out hb hb10 HNo.out)
     obtain ⟨c,hc⟩:∃ c,t.extract m (m+p)=c:=⟨_,rfl⟩
     have hcs:c.size≤1000:=by rw [← hc,ByteArray.size_extract];omega
     have hsl2:=lrun_cut t m (m+p) m ((m:Int)+p) rfl (by omega) (by omega) (by omega) c hc
     have HC:=Qh hc
     have HN:=Qh (HIt.out.next (p+k))
     have b1:((q:Int) == 10)=true:=beq_iff_eq.2 (by omega)
     clear hb hqb hin hc hb10
     go_wp2_with fail
     refine (sclone_is c hcs _).mono ?_
     rintro e w3 ⟨rfl,k3⟩
     have H3:=Qh (HN.out.cell.kept k3)
     have K3:=Qh (HN.out.kept.trans k3)
     clear k3
     go_wp2_with (first|(refine wpList_bt_sa rfl _ rfl ((m:Int)+p+1) rfl ?_)|(refine wpList_store_sp rfl _ _ rfl w.heap.size Zs ⟨(m:Int)+p+1,0,0⟩ H3.out rfl rfl ?_))
     refine bodyPost_ret (v:=.tuple #[.string c,sv ⟨(m:Int)+p+1,0,0⟩]) ?_ rfl ⟨by rw [HE.out.1,HE.out.2,HC.out],K3.out.setRow (by omega) _⟩
     exact (ret_str rfl H3.out rfl).trans rfl
    ·have b1:((q:Int) == 10)=false:=beq_eq_false_iff_ne.2 (by omega)
     have HN:=Qh (HIt.out.next (p+k))
     have HM:Hid (∀ j,j<p+k→(bs s)[j]?≠some 10):=by
      intro j hj
      rcases Nat.lt_trichotomy j p with h|h|h
      ·exact HNo.out j h
      ·subst h;rw [hb];intro e
       have e':b=10:=by simpa using e
       subst e'
       rcases hqb with h|h
       ·exact hr h.2.1
       ·have:¬ 128≤(10:UInt8).toNat:=by decide
        exact this h.2
      ·obtain ⟨c,h1,h2⟩:=hin j h hj
       rw [h1];intro e
       have e':c=10:=by simpa using e
       subst e'
       have:¬ 128≤(10:UInt8).toNat:=by decide
       exact this h2
     clear hb hqb hin hr
     go_wp2
     go_roundw
     case rel=>exact ⟨p+k,HN.out,HM.out⟩
     case measure=>simp [World.iterPos,HN.out.iter,HIt.out.iter];omega
   ·have hnx:=fun ty=>next_at_end (P:=Tryz.prog) wr (w.heap.size+1) s p ty HIt.out.iter hp
    have HE:=Qh (ln_none hm HBS.out (fun k hk=>HNo.out k (by omega)))
    have HV:=Qh (show stk t.size t.size=⟨t.size,0,1⟩ from if_pos rfl)
    have hcs:s.size≤1000:=by omega
    go_wp2_with fail
    refine (sclone_is s hcs _).mono ?_
    rintro e w2 ⟨rfl,k2⟩
    have H2:=Qh (HIt.out.cell.kept k2)
    have K2:=Qh (HIt.out.kept.trans k2)
    clear k2
    go_wp2_with fail
    refine (HQ.out _ _).mono ?_
    rintro e w3 ⟨rfl,k3⟩
    have H3:=Qh (H2.out.kept k3)
    have K3:=Qh (K2.out.trans k3)
    clear k3
    go_wp2_with (refine wpList_store_sp rfl _ _ rfl w.heap.size Zs _ H3.out rfl rfl ?_)
    refine bodyPost_ret (v:=.tuple #[.string s,sv (stk t.size t.size)]) ?_ rfl ⟨by rw [HE.out.1,HE.out.2,HV.out,HSS.out],K3.out.setRow (by omega) _⟩
    exact (ret_str rfl H3.out rfl).trans rfl

end Go.Proofs.YtlbipjmmlobofaaGreatDoor
namespace Go.Proofs.YtlbipjmmlobofaaGreatDoor
open Go.RowKit Go.Sort
set_option linter.unusedVariables false
set_option linter.unusedSimpArgs false
set_option maxRecDepth 100000
set_option maxHeartbeats 4000000

theorem own_block {w:World} {base n:Nat} {e:TypeId} {v:Value} {xs:List Value} (h:w.ownsRow base e 1 v n xs) (hn:0<n) :
  ∃ g cap cur,v=.slice (some ⟨g,0,none⟩) n cap∧base≤g∧w.heap[g]?=some (.cells cur e (0,0))∧n≤cap∧cap≤maxLen∧cur.size=cap*1∧cur.toList.take n=xs:=by
 rcases h.2 with ⟨_,h0⟩|⟨g,cap,cur,h1,h2,h3,h4,h5,h6,h7⟩
 ·omega
 ·exact ⟨g,cap,cur,h1,h2,h3,h4,h5,h6,by rw [← h7,Nat.mul_one]⟩
theorem row_cell {w:World} {g:Nat} {cur:Array Value} {e:TypeId} {n:Nat} {xs:List Value} (hh:w.heap[g]?=some (.cells cur e (0,0))) (ht:cur.toList.take n=xs) (j:Nat) (x:Value) (hx:xs[j]?=some x):w.cell? ⟨g,j,none⟩=some x:=by
 rw [cell_of_row w g j cur _ (0,0) hh]
 have h2:(cur.toList.take n)[j]?=some x:=by rw [ht];exact hx
 rw [List.getElem?_take] at h2
 split at h2
 ·simpa using h2
 ·cases h2
theorem enc_bs (l:List ByteArray):(l.map bs).map encStr=l.map Value.string:=by
 rw [List.map_map]
 apply List.map_congr_left
 intro x _
 show Value.string ⟨x.data.toList.toArray⟩=_
 rw [Array.toArray_toList]
theorem sort_texts (ws:List ByteArray) (w:World) (g cap:Nat) (cur:Array Value) (hh:w.heap[g]?=some (.cells cur 9 (0,0))) (ht:cur.toList.take ws.length=ws.map Value.string) (hn:ws.length≤20) (hsz:ws.length≤cur.size) :
  Calls Tryz.prog 126 #[.slice (some ⟨g,0,none⟩) ws.length cap] w fun e w'=>e=.returned (.tuple #[]) ∧
   ∃ S:List ByteArray,S.length=ws.length∧(S.map bs).Perm (ws.map bs)∧(S.map bs).Pairwise (·≤·)∧(∀ j x,S[j]?=some x→w'.cell? ⟨g,j,none⟩=some (.string x))∧∀ V:World,V.heap.size≤g→Kept V w→Kept V w':=by
 have hlen:(ws.map bs).length=ws.length:=List.length_map ..
 have hH:Holds encStr w g 0 (ws.map bs).toArray:=holds_of_block hh (by rw [hlen,ht,enc_bs])
 have h:=Tryz.slices_Sort_string g 0 cap (ws.map bs) w hH (lt_of_heap hh) (by rw [hlen];omega)
 rw [hlen] at h
 refine h.mono ?_
 rintro e w' ⟨he,n,os,rfl⟩
 refine ⟨he,?_⟩
 have hperm:((ws.map bs).mergeSort fun x y=>decide (x≤y)).Perm (ws.map bs):=List.mergeSort_perm ..
 have hsort:((ws.map bs).mergeSort fun x y=>decide (x≤y)).Pairwise fun a b=>decide (a≤b)=true :=
  List.pairwise_mergeSort (le:=fun x y:List UInt8=>decide (x≤y)) (fun (a b c:List UInt8) h1 h2=>by
   have h3:a≤b:=of_decide_eq_true h1
   have h4:b≤c:=of_decide_eq_true h2
   exact decide_eq_true (List.le_trans h3 h4)) (fun (a b:List UInt8)=>by
   rcases List.le_total a b with h|h
   ·simp [decide_eq_true h]
   ·simp [decide_eq_true h]) _
 generalize ((ws.map bs).mergeSort fun x y=>decide (x≤y))=L at *
 have hL:(L.map fun l=>(⟨l.toArray⟩:ByteArray)).map bs=L:=by
  rw [List.map_map]
  have:(bs ∘ fun l:List UInt8=>(⟨l.toArray⟩:ByteArray))=id:=by funext l;simp [bs]
  rw [this,List.map_id]
 have hLl:L.length=ws.length:=by rw [hperm.length_eq,hlen]
 refine ⟨L.map fun l=>(⟨l.toArray⟩:ByteArray),by simpa using hLl,by rw [hL];exact hperm,by rw [hL];exact hsort.imp fun h=>of_decide_eq_true h,?_,?_⟩
 ·intro j x hx
  refine row_cell (heap_sorted _ hh) (take_putCells cur L (by omega)) j _ ?_
  rw [List.getElem?_map] at hx ⊢
  cases hq:L[j]? with
  | none=>rw [hq] at hx;cases hx
  | some y=>rw [hq] at hx;simp only [Option.map_some,Option.some.injEq] at hx ⊢;rw [← hx]
 ·intro V hV k
  exact k.grownBy (grownBy_sorted _) (fun q hq=>by cases hq;exact hV)
theorem hasprefix_is (s p:ByteArray) (w:World):Calls Tryz.prog 142 #[.string s,.string p] w fun e w'=>e=.returned (.bool (pf p s))∧w=w' :=
 (Tryz.strings_HasPrefix s p w).mono fun _ _ ⟨h1,h2⟩=>⟨h1,h2.symm⟩
theorem apart_is (ws:List ByteArray) (v:Value) (w:World) (hv:LsT w v ws) (hn:ws.length≤20) :
  Calls Tryz.prog 104 #[v] w fun e w'=>e=.returned (.bool (apB ws))∧Kept w w':=by
 by_cases h0:ws=[]
 ·obtain ⟨a,cap,rfl⟩:=hv.slice
  have HE:Hid (apB ws=false):=by
   show _=_
   rw [apB_no]
   intro h
   exact h.1 h0
  have hz:((ws.length:Int) == 0)=true:=by rw [h0];rfl
  clear hv h0
  go_enter Tryz.func104,Tryz.ntmps104
  go_wp2
  go_ret
  exact ⟨by rw [HE.out];first|done|rfl,Kept.refl _⟩
 ·have hpos:0<ws.length:=List.length_pos_iff.2 h0
  obtain ⟨g,off,cap,rfl,hg,hcap,hcell⟩:=hv.at_ hpos
  have HCl:=Qh (fun w1 (k:Kept w w1)=>Tryz.slices_Clone_string g off ws.length cap ws w1 (Nat.le_refl _) (by omega) (fun j hj=>by
   rw [kept_cell k (hcell j _ (List.getElem?_eq_getElem hj))]
   simp [List.getD,hj]))
  have hz:((ws.length:Int) == 0)=false:=beq_eq_false_iff_ne.2 (by omega)
  clear hv h0 hcell
  go_enter Tryz.func104,Tryz.ntmps104
  go_wp2_with fail
  refine (HCl.out _ (Kept.refl _)).mono ?_
  rintro e w1 ⟨v1,rfl,hown,_,hbel⟩
  rw [List.take_length] at hown
  obtain ⟨g1,cap1,cur,rfl,hg1,hh,hc1,hc2,hcs,ht⟩:=own_block hown hpos
  have HSo:=Qh (sort_texts ws w1 g1 cap1 cur hh ht hn (by omega))
  have K1:=Qh (Below.toKept hbel)
  clear hown hbel hh hcs ht
  by_cases hq1:cap1=1
  ·subst hq1
   go_wp2_with fail
   refine HSo.out.mono ?_
   rintro e w2 ⟨rfl,S,hSl,hperm,hsort,hcell,hk⟩
   have K2:=Qh (hk w hg1 K1.out)
   have HCe:=Qh hcell
   have HAp:=Qh (apart_sorted ws (S.map bs) hperm hsort)
   clear hk hcell hperm hsort
   go_wp2
   go_loopw [16] (fun t16 wr=>∃ k:Nat,t16=.int .i64 k∧k≤ws.length-1∧(∀ j,j<k→¬ (S.map bs).getD j [] <+: (S.map bs).getD (j+1) [])∧Kept w2 wr) (fun t16 _=>20-(intOf t16).toNat)
   case atStart=>exact ⟨0,rfl,by omega,fun j hj=>by omega,Kept.refl _⟩
   case round =>
    obtain ⟨k,rfl,hk,hno,hK⟩:=hrel
    have HNo:=Qh hno
    have HK:=Qh hK
    clear hno hK
    by_cases hlt:k<ws.length-1
    ·exfalso;omega
    ·obtain ⟨x,hx⟩:∃ x,S[0]?=some x:=⟨_,List.getElem?_eq_getElem (by omega)⟩
     have c1:=kept_cell HK.out (HCe.out 0 x hx)
     have ex:(S.map bs).getD 0 []=bs x:=by simp [List.getD,hx]
     have HNear:Hid (nearB (S.map bs)):=by
      intro j hj
      rw [List.length_map] at hj
      exact HNo.out j (by omega)
     have hS0:S.map bs≠[]:=by
      intro e
      have:=congrArg List.length e
      rw [List.length_map,List.length_nil] at this
      omega
     have hge:((ws.length-1:Nat):Int)≤k:=by omega
     by_cases he:x=⟨#[]⟩
     ·have hb:(x.toList == ([]:List UInt8))=true:=by rw [he,ByteArray.toList_eq];rfl
      have HE:Hid (apB ws=false):=by
       show _=_
       rw [apB_no]
       intro h
       refine ((HAp.out).1 h).2.2 ?_
       rw [ex,he];rfl
      clear he ex hx hS0
      go_wp2
      go_ret
      exact ⟨by rw [HE.out];first|done|rfl,K2.out.trans HK.out⟩
     ·have hne:bs x≠[]:=fun h=>he (bs_inj h)
      have hb:(x.toList == ([]:List UInt8))=false:=by rw [beq_eq_false_iff_ne,ByteArray.toList_eq];exact hne
      have HE:Hid (apB ws=true):=by
       show _=_
       rw [apB_iff]
       exact (HAp.out).2 ⟨hS0,HNear.out,by rw [ex];exact hne⟩
      clear he hne ex hx hS0
      go_wp2
      go_ret
      exact ⟨by rw [HE.out];first|done|rfl,K2.out.trans HK.out⟩
  ·have hq2:1<cap1:=by omega
   go_wp2_with fail
   refine HSo.out.mono ?_
   rintro e w2 ⟨rfl,S,hSl,hperm,hsort,hcell,hk⟩
   have K2:=Qh (hk w hg1 K1.out)
   have HCe:=Qh hcell
   have HAp:=Qh (apart_sorted ws (S.map bs) hperm hsort)
   clear hk hcell hperm hsort
   go_wp2
   go_loopw [16] (fun t16 wr=>∃ k:Nat,t16=.int .i64 k∧k≤ws.length-1∧(∀ j,j<k→¬ (S.map bs).getD j [] <+: (S.map bs).getD (j+1) [])∧Kept w2 wr) (fun t16 _=>20-(intOf t16).toNat)
   case atStart=>exact ⟨0,rfl,by omega,fun j hj=>by omega,Kept.refl _⟩
   case round =>
    obtain ⟨k,rfl,hk,hno,hK⟩:=hrel
    have HNo:=Qh hno
    have HK:=Qh hK
    clear hno hK
    by_cases hlt:k<ws.length-1
    ·obtain ⟨x,hx⟩:∃ x,S[k]?=some x:=⟨_,List.getElem?_eq_getElem (by omega)⟩
     obtain ⟨y,hy⟩:∃ y,S[k+1]?=some y:=⟨_,List.getElem?_eq_getElem (by omega)⟩
     have c1:=kept_cell HK.out (HCe.out k x hx)
     have c2:=kept_cell HK.out (HCe.out (k+1) y hy)
     have c3:=c2
     rw [Nat.add_comm k 1] at c3
     have ex:(S.map bs).getD k []=bs x:=by simp [List.getD,hx]
     have ey:(S.map bs).getD (k+1) []=bs y:=by simp [List.getD,hy]
     have HB:=Qh (hasprefix_is y x)
     cases hp:pf x y with
     | true =>
      rw [hp] at HB
      have HE:Hid (apB ws=false):=by
       show _=_
       rw [apB_no]
       intro h
       have:=((HAp.out).1 h).2.1 k (by rw [List.length_map];omega)
       rw [ex,ey] at this
       exact this ((pf_iff _ _).1 hp)
      clear hp ex ey hx hy
      go_wp2_with fail
      refine (HB.out _).mono ?_
      rintro e w3 ⟨rfl,rfl⟩
      go_wp2
      go_ret
      exact ⟨by rw [HE.out];first|done|rfl,K2.out.trans HK.out⟩
     | false =>
      rw [hp] at HB
      have HNo2:Hid (∀ j,j<k+1→¬ (S.map bs).getD j [] <+: (S.map bs).getD (j+1) []):=by
       intro j hj
       rcases Nat.lt_succ_iff_lt_or_eq.1 hj with h|h
       ·exact HNo.out j h
       ·subst h
        rw [ex,ey]
        exact (pf_no _ _).1 hp
      clear hp ex ey hx hy
      go_wp2_with fail
      refine (HB.out _).mono ?_
      rintro e w3 ⟨rfl,rfl⟩
      go_wp2
      go_roundw
      case rel=>exact ⟨k+1,by go_num,by omega,HNo2.out,HK.out⟩
      case measure=>simp [intOf];omega
    ·obtain ⟨x,hx⟩:∃ x,S[0]?=some x:=⟨_,List.getElem?_eq_getElem (by omega)⟩
     have c1:=kept_cell HK.out (HCe.out 0 x hx)
     have ex:(S.map bs).getD 0 []=bs x:=by simp [List.getD,hx]
     have HNear:Hid (nearB (S.map bs)):=by
      intro j hj
      rw [List.length_map] at hj
      exact HNo.out j (by omega)
     have hS0:S.map bs≠[]:=by
      intro e
      have:=congrArg List.length e
      rw [List.length_map,List.length_nil] at this
      omega
     have hge:((ws.length-1:Nat):Int)≤k:=by omega
     by_cases he:x=⟨#[]⟩
     ·have hb:(x.toList == ([]:List UInt8))=true:=by rw [he,ByteArray.toList_eq];rfl
      have HE:Hid (apB ws=false):=by
       show _=_
       rw [apB_no]
       intro h
       refine ((HAp.out).1 h).2.2 ?_
       rw [ex,he];rfl
      clear he ex hx hS0
      go_wp2
      go_ret
      exact ⟨by rw [HE.out];first|done|rfl,K2.out.trans HK.out⟩
     ·have hne:bs x≠[]:=fun h=>he (bs_inj h)
      have hb:(x.toList == ([]:List UInt8))=false:=by rw [beq_eq_false_iff_ne,ByteArray.toList_eq];exact hne
      have HE:Hid (apB ws=true):=by
       show _=_
       rw [apB_iff]
       exact (HAp.out).2 ⟨hS0,HNear.out,by rw [ex];exact hne⟩
      clear he hne ex hx hS0
      go_wp2
      go_ret
      exact ⟨by rw [HE.out];first|done|rfl,K2.out.trans HK.out⟩
end Go.Proofs.YtlbipjmmlobofaaGreatDoor
