/- SqD · LxA · Kp · LxB: my texts, in their order. -/
import Derived.Test.YtlbipjmmlobofaaGreatDoorPkA00
import Derived.Laws.RangeAny
import Derived.Lib.DecodeN
import Derived.Below
import Derived.Deep.Draws
import Derived.Laws.AppendOwn
import Derived.ChangeSame
import Derived.Deep.RegionHeld3
import Derived.Laws.Tables
import Derived.Laws.Strings3
import Derived.Deep.QuietTactic
import Derived.Deep.WholeRow
namespace Go.Proofs.YtlbipjmmlobofaaGreatDoor
open Go.RowKit
set_option linter.unusedVariables false
def SqSt (s:ByteArray) (pos:Nat) (f r:Int):Prop :=
 (pos=0∧f=-1∧r=-1)
 ∨ (0<s.size∧pos=(Utf8.decode s 0).2∧f=(Utf8.decode s 0).1-97∧r=-1)
 ∨ (1<s.size∧(Utf8.decode s 0).2=1∧pos=1+(Utf8.decode s 1).2∧f=(Utf8.decode s 0).1-97∧r=(Utf8.decode s 1).1-49)
theorem St_0 {s:ByteArray} {f r:Int} (h:SqSt s 0 f r) (h0:0<s.size):f=-1∧r=-1∧SqSt s ((Utf8.decode s 0).2) ((Utf8.decode s 0).1-97) (-1):=by
 have hw:=width_pos s 0 h0
 rcases h with h|h|h
 ·exact ⟨h.2.1,h.2.2,.inr (.inl ⟨h0,rfl,rfl,rfl⟩)⟩
 ·omega
 ·omega
theorem St_1 {s:ByteArray} {f r:Int} (h:SqSt s 1 f r) (h1:1<s.size):f=(Utf8.decode s 0).1-97∧r=-1∧SqSt s (1+(Utf8.decode s 1).2) ((Utf8.decode s 0).1-97) ((Utf8.decode s 1).1-49):=by
 have hw:=width_pos s 1 h1
 rcases h with h|h|h
 ·omega
 ·exact ⟨h.2.2.1,h.2.2.2,.inr (.inr ⟨h1,h.2.1.symm,rfl,rfl,rfl⟩)⟩
 ·omega
theorem two_bytes (s:ByteArray) (h:s.size=2):s=⟨#[s[0],s[1]]⟩:=by
 obtain ⟨⟨l⟩⟩:=s
 match l,h with
 | [a,b],_=>rfl
theorem St_end {s:ByteArray} {pos:Nat} {f r:Int} (h:SqSt s pos f r) (he:¬ pos<s.size) (hn:∀ n:Nat,n<64→s≠nameOf n):f<0∨8≤f∨r<0∨8≤r:=by
 rcases h with h|h|h
 ·omega
 ·omega
 ·obtain ⟨h1,hw0,hp,hf,hr⟩:=h
  by_cases hall:f<0∨8≤f∨r<0∨8≤r
  ·exact hall
  ·exfalso
   have a0:(s[0]'(by omega)).toNat<128:=by
    by_cases g:(s[0]'(by omega)).toNat<128
    ·exact g
    ·have:=(decode_high s 0 (by omega) (by omega)).1;omega
   have a1:(s[1]'(by omega)).toNat<128:=by
    by_cases g:(s[1]'(by omega)).toNat<128
    ·exact g
    ·have:=(decode_high s 1 (by omega) (by omega)).1;omega
   have d0:=decode_ascii s 0 (by omega) a0
   have d1:=decode_ascii s 1 (by omega) a1
   rw [d0] at hf
   rw [d1] at hr hp
   simp only at hf hr hp
   have hs:s.size=2:=by omega
   refine hn (((s[1]'(by omega)).toNat-49)*8+((s[0]'(by omega)).toNat-97)) (by omega) ?_
   rw [nameOf]
   conv=>lhs;rw [two_bytes s hs]
   congr 3
   ·apply UInt8.toNat.inj
    simp
    omega
   ·congr 1
    apply UInt8.toNat.inj
    simp
    omega
theorem parse_no (s:ByteArray) (w:World) (hn:∀ n:Nat,n<64→s≠nameOf n) :
  Calls Tryz.prog 216 #[.string s] w fun e w'=>e=.returned (.tuple #[.int .i64 0,.bool false])∧Grown w w':=by
 have HN:=Qh hn
 clear hn
 go_enter Tryz.func216,Tryz.ntmps216
 go_wp2
 go_loopw [4,5] (fun t4 t5 w'=>∃ (pos:Nat) (f r:Int),w'=w.iter s pos∧t4=.int .i64 f∧t5=.int .i64 r∧SqSt s pos f r) (fun _ _ w'=>s.size-w'.iterPos w.heap.size)
 case atStart=>exact ⟨0,-1,-1,rfl,rfl,rfl,.inl ⟨rfl,rfl,rfl⟩⟩
 case round =>
  obtain ⟨pos,f,r,rfl,rfl,rfl,hst⟩:=hrel
  by_cases hp:pos<s.size
  ·have hnx:∀ ty,(Instr.next (.pointer (some ⟨w.heap.size,0,none⟩)) true ty).run Tryz.prog (w.iter s pos)=_:=fun ty=>run_next_any w s pos ty hp
   have hwd:=width_pos s pos hp
   have hle:=decode_le s pos
   by_cases h0:pos=0
   ·subst h0
    obtain ⟨rfl,rfl,hst'⟩:=St_0 hst hp
    clear hst
    go_wp2
    go_roundw
    case rel=>exact ⟨_,_,_,rfl,rfl,rfl,hst'⟩
    case measure=>simp;omega
   ·by_cases h1:pos=1
    ·subst h1
     obtain ⟨rfl,rfl,hst'⟩:=St_1 hst hp
     have hle0:=decode_le s 0
     clear hst h0
     go_wp2
     go_roundw
     case rel=>exact ⟨_,_,_,rfl,rfl,rfl,hst'⟩
     case measure=>simp;omega
    ·have b0:((pos:Int) == 0)=false:=beq_eq_false_iff_ne.2 (by omega)
     have b1:((pos:Int) == 1)=false:=beq_eq_false_iff_ne.2 (by omega)
     clear hst h0 h1
     go_wp2
     go_ret2
     exact ⟨rfl,grown_iter _ _ _⟩
  ·have hnx:∀ ty,(Instr.next (.pointer (some ⟨w.heap.size,0,none⟩)) true ty).run Tryz.prog (w.iter s pos)=_:=fun ty=>run_next_end w s pos ty hp
   have H:=Qh (St_end hst hp HN.out)
   clear hst
   go_wp2_with fail
   refine (at_no _ _ _ H.out).mono ?_
   rintro e w' ⟨rfl,rfl⟩
   go_wp2
   go_ret2
   exact ⟨rfl,grown_iter _ _ _⟩
set_option linter.unusedSimpArgs false
set_option maxRecDepth 100000
structure Sp where
 a:Int
 n:Int
 e:Int
def sl (x:Sp):List Value:=[.int .i64 x.a,.int .i64 x.n,.int .i64 x.e]
def sv (x:Sp):Value:=.agg #[.int .i64 x.a,.int .i64 x.n,.int .i64 x.e]
def bs (t:ByteArray):List UInt8:=t.data.toList
theorem bs_len (t:ByteArray):(bs t).length=t.size:=rfl
theorem bs_inj {a b:ByteArray} (h:bs a=bs b):a=b:=WideShapes.bytes_inj h
theorem bs_getq (t:ByteArray) (j:Nat) (h:j<t.size):(bs t)[j]?=some (t[j]'h):=by
 rw [List.getElem?_eq_getElem (by rw [bs_len];exact h)]
 simp [bs,ByteArray.getElem_eq_getElem_data]
theorem bs_extract (t:ByteArray) (i j:Nat):bs (t.extract i j)=((bs t).take j).drop i:=by
 unfold bs
 rw [ByteArray.data_extract,Array.toList_extract,List.extract_eq_take_drop,List.drop_take]
theorem bs_rest (t:ByteArray) (i:Nat):bs (t.extract i t.size)=(bs t).drop i:=by
 rw [bs_extract,List.take_of_length_le (by rw [bs_len];exact Nat.le_refl _)]
theorem bs_append (a b:ByteArray):bs (a++b)=bs a++bs b:=by simp [bs]
def inB (t:ByteArray) (i:Int):Bool:=decide (0≤i) && decide (i≤t.size)
def argS:Sp:=⟨0,0,5⟩
def stk (z:Nat) (i:Int):Sp:=if i=z then ⟨i,0,1⟩ else ⟨i,0,2⟩

def cmn:List UInt8→List UInt8→Nat
 | x::u,y::v=>if x=y then cmn u v+1 else 0
 | _,_=>0
theorem cmn_l:∀ (a b:List UInt8),cmn a b≤a.length
 | [],_=>by simp [cmn]
 | _::_,[]=>by simp [cmn]
 | x::a,y::b=>by
  unfold cmn
  split
  ·have:=cmn_l a b;simp;omega
  ·simp
theorem cmn_r:∀ (a b:List UInt8),cmn a b≤b.length
 | [],_=>by simp [cmn]
 | _::_,[]=>by simp [cmn]
 | x::a,y::b=>by
  unfold cmn
  split
  ·have:=cmn_r a b;simp;omega
  ·simp
theorem cmn_end (a b:List UInt8) (n:Nat) (h:¬ (n<a.length∧n<b.length)):cmn (a.drop n) (b.drop n)=0:=by
 by_cases h1:n<a.length
 ·rw [show b.drop n=[] from List.drop_eq_nil_of_le (by omega)]
  cases a.drop n <;> rfl
 ·rw [show a.drop n=[] from List.drop_eq_nil_of_le (by omega)]
  rfl
theorem cmn_same (a b:List UInt8) (n:Nat) (x:UInt8) (h1:a[n]?=some x) (h2:b[n]?=some x):cmn (a.drop n) (b.drop n)=cmn (a.drop (n+1)) (b.drop (n+1))+1:=by
 obtain ⟨l1,e1⟩:=List.getElem?_eq_some_iff.1 h1
 obtain ⟨l2,e2⟩:=List.getElem?_eq_some_iff.1 h2
 rw [List.drop_eq_getElem_cons l1,List.drop_eq_getElem_cons l2,e1,e2]
 simp [cmn]
theorem cmn_diff (a b:List UInt8) (n:Nat) (x y:UInt8) (h1:a[n]?=some x) (h2:b[n]?=some y) (hn:x≠y):cmn (a.drop n) (b.drop n)=0:=by
 obtain ⟨l1,e1⟩:=List.getElem?_eq_some_iff.1 h1
 obtain ⟨l2,e2⟩:=List.getElem?_eq_some_iff.1 h2
 rw [List.drop_eq_getElem_cons l1,List.drop_eq_getElem_cons l2,e1,e2]
 simp [cmn,hn]
theorem cmn_full:∀ (a b:List UInt8),cmn a b=b.length↔b <+: a
 | [],[]=>by simp [cmn]
 | x::a,[]=>by simp [cmn]
 | [],y::b=>by simp [cmn]
 | x::a,y::b=>by
  unfold cmn
  rw [List.cons_prefix_cons]
  split
  ·next h=>rw [← cmn_full a b];simp [h]
  ·next h =>
   simp
   intro h2;exact absurd h2.symm h
theorem cmn_more:∀ (a b c:List UInt8),cmn a b<a.length→cmn (a++c) b=cmn a b
 | [],b,c,h=>by simp at h
 | x::a,[],c,_=>by simp [cmn]
 | x::a,y::b,c,h=>by
  simp only [List.cons_append]
  unfold cmn at h ⊢
  split
  ·next e =>
   rw [if_pos e] at h
   simp at h
   rw [cmn_more a b c h]
  ·rfl
theorem cmn_le_more:∀ (a b c:List UInt8),cmn a b≤cmn (a++c) b
 | [],b,c=>by simp [cmn]
 | x::a,[],c=>by simp [cmn]
 | x::a,y::b,c=>by
  simp only [List.cons_append]
  unfold cmn
  split
  ·have:=cmn_le_more a b c;omega
  ·exact Nat.le_refl _
def wordP (t w:ByteArray) (i:Int):Sp :=
 if inB t i=true then (if cmn ((bs t).drop i.toNat) (bs w)=w.size then ⟨i+cmn ((bs t).drop i.toNat) (bs w),0,0⟩ else stk t.size (i+cmn ((bs t).drop i.toNat) (bs w))) else argS
def oneGo (z:Nat) (i:Int) (M:List UInt8):List ByteArray→Nat→Nat→Sp
 | [],_,far=>stk z (i+far)
 | w::ws,k,far=>if cmn M (bs w)=w.size then ⟨i+cmn M (bs w),k,0⟩ else oneGo z i M ws (k+1) (max far (cmn M (bs w)))
def Apart (ws:List ByteArray):Prop:=ws≠[]∧(∀ x ∈ ws,bs x≠[])∧ws.Pairwise fun a b=>¬ bs a <+: bs b∧¬ bs b <+: bs a
noncomputable def apB (ws:List ByteArray):Bool:=@decide (Apart ws) (Classical.propDecidable _)
theorem apB_iff (ws:List ByteArray):apB ws=true↔Apart ws:=by unfold apB;exact @decide_eq_true_iff _ (Classical.propDecidable _)
theorem apB_no (ws:List ByteArray):apB ws=false↔¬ Apart ws:=by rw [← apB_iff,Bool.not_eq_true]
noncomputable def oneP (t:ByteArray) (ws:List ByteArray) (i:Int):Sp:=if inB t i=true∧apB ws=true then oneGo t.size i ((bs t).drop i.toNat) ws 0 0 else argS
theorem lex_between:∀ (a b c:List UInt8),a≤b→b≤c→a <+: c→a <+: b
 | [],_,_,_,_,_=>List.nil_prefix
 | x::a,[],_,h,_,_=>by simp at h
 | x::a,y::b,[],_,_,h=>by simp at h
 | x::a,y::b,z::c,h1,h2,h3=>by
  rw [List.cons_prefix_cons] at h3 ⊢
  rw [List.cons_le_cons_iff] at h1 h2
  obtain ⟨rfl,h3⟩:=h3
  have exy:x=y:=by
   rcases h1 with h1|h1
   ·rcases h2 with h2|h2
    ·exact absurd h1 (UInt8.not_lt.2 (UInt8.le_of_lt h2))
    ·exact h2.1.symm
   ·exact h1.1
  subst exy
  refine ⟨rfl,lex_between a b c ?_ ?_ h3⟩
  ·rcases h1 with h1|h1
   ·exact absurd h1 (UInt8.lt_irrefl _)
   ·exact h1.2
  ·rcases h2 with h2|h2
   ·exact absurd h2 (UInt8.lt_irrefl _)
   ·exact h2.2
theorem prefix_le:∀ {a b:List UInt8},a <+: b→a≤b
 | [],_,_=>List.nil_le _
 | x::a,[],h=>by simp at h
 | x::a,y::b,h=>by
  rw [List.cons_prefix_cons] at h
  rw [List.cons_le_cons_iff]
  exact .inr ⟨h.1,prefix_le h.2⟩
theorem gD {α:Type} {l:List α} {i:Nat} (d:α) (h:i<l.length):l.getD i d=l[i]:=by simp [List.getD,h]
def nearB (S:List (List UInt8)):Prop:=∀ j,j+1<S.length→¬ S.getD j [] <+: S.getD (j+1) []
theorem near_all (S:List (List UInt8)) (hs:S.Pairwise (·≤·)) (hn:nearB S):S.Pairwise fun a b=>¬ a <+: b∧¬ b <+: a:=by
 rw [List.pairwise_iff_getElem] at hs ⊢
 intro i k hi hk hik
 have key:¬ S[i] <+: S[k]:=by
  intro h
  refine hn i (by omega) ?_
  rw [gD _ hi,gD _ (by omega)]
  by_cases e:i+1=k
  ·subst e;exact h
  ·exact lex_between _ _ _ (hs i (i+1) hi (by omega) (by omega)) (hs (i+1) k (by omega) hk (by omega)) h
 refine ⟨key,fun h=>?_⟩
 have h1:=prefix_le h
 have h2:=hs i k hi hk hik
 exact key (by rw [List.le_antisymm h2 h1];exact List.prefix_refl _)
theorem pair_map (ws:List ByteArray):(ws.Pairwise fun a b=>¬ bs a <+: bs b∧¬ bs b <+: bs a)↔(ws.map bs).Pairwise fun a b=>¬ a <+: b∧¬ b <+: a:=by
 rw [List.pairwise_map]
theorem apart_sorted (ws:List ByteArray) (S:List (List UInt8)) (hp:S.Perm (ws.map bs)) (hs:S.Pairwise (·≤·)) :
  Apart ws↔(S≠[]∧nearB S∧S.getD 0 []≠[]):=by
 have hsym:∀ {a b:List UInt8},(¬ a <+: b∧¬ b <+: a)→(¬ b <+: a∧¬ a <+: b):=fun h=>⟨h.2,h.1⟩
 have hlen:S.length=ws.length:=by simpa using hp.length_eq
 constructor
 ·rintro ⟨h0,h1,h2⟩
  have hS:S≠[]:=by intro e;rw [e] at hlen;exact h0 (List.eq_nil_of_length_eq_zero hlen.symm)
  rw [pair_map,← hp.pairwise_iff hsym] at h2
  refine ⟨hS,?_,?_⟩
  ·intro j hj h
   rw [gD _ (by omega),gD _ hj] at h
   exact ((List.pairwise_iff_getElem.1 h2) j (j+1) (by omega) hj (by omega)).1 h
  ·have hl:0<S.length:=List.length_pos_iff.2 hS
   rw [gD _ hl]
   have:S[0] ∈ ws.map bs:=hp.mem_iff.1 (List.getElem_mem hl)
   obtain ⟨x,hx,e⟩:=List.mem_map.1 this
   rw [← e];exact h1 x hx
 ·rintro ⟨h0,h1,h2⟩
  have hl:0<S.length:=List.length_pos_iff.2 h0
  refine ⟨fun e=>by rw [e,List.length_nil] at hlen;omega,?_,?_⟩
  ·intro x hx e
   have hm:bs x ∈ S:=hp.mem_iff.2 (List.mem_map_of_mem hx)
   rw [e] at hm
   obtain ⟨k,hk,ek⟩:=List.getElem_of_mem hm
   rw [gD _ hl] at h2
   by_cases hk0:k=0
   ·subst hk0;exact h2 ek
   ·have:=(List.pairwise_iff_getElem.1 hs) 0 k hl hk (by omega)
    rw [ek] at this
    exact h2 (List.le_antisymm this (List.nil_le _))
  ·rw [pair_map,← hp.pairwise_iff hsym]
   exact near_all S hs h1
theorem apart_two {ws:List ByteArray} (h:Apart ws) {i k:Nat} {a b:ByteArray} (hi:ws[i]?=some a) (hk:ws[k]?=some b) (hn:i≠k):¬ bs a <+: bs b:=by
 obtain ⟨l1,e1⟩:=List.getElem?_eq_some_iff.1 hi
 obtain ⟨l2,e2⟩:=List.getElem?_eq_some_iff.1 hk
 have hp:=List.pairwise_iff_getElem.1 h.2.2
 rcases Nat.lt_or_gt_of_ne hn with h1|h1
 ·have:=(hp i k l1 l2 h1).1
  rwa [e1,e2] at this
 ·have:=(hp k i l2 l1 h1).2
  rwa [e1,e2] at this

def isD (b:UInt8):Bool:=decide (48≤b.toNat) && decide (b.toNat≤57)
def numGo (z:Nat) (i least most:Int):List UInt8→Nat→Int→Sp
 | [],j,n=>if 0<j∧least≤n then ⟨i+j,n,0⟩ else ⟨i+j,0,1⟩
 | b::r,j,n =>
  if isD b=true then
   (if 0<j∧n=0 then ⟨i+j,0,2⟩
    else if most<10*n+(b.toNat-48)∨(j=0∧10*n+((b.toNat:Int)-48)=0∧0<least) then ⟨i+j,0,2⟩
    else numGo z i least most r (j+1) (10*n+(b.toNat-48)))
  else if 0<j∧least≤n then ⟨i+j,n,0⟩ else ⟨i+j,0,2⟩
def numB (t:ByteArray) (i least most:Int):Bool:=inB t i && (decide (0≤least) && (decide (least≤most) && decide (most≤1000000)))
def numP (t:ByteArray) (i least most:Int):Sp:=if numB t i least most=true then numGo t.size i least most ((bs t).drop i.toNat) 0 0 else argS

def sqGo (i:Int):List UInt8→Sp
 | []=>⟨i,0,1⟩
 | a::r=>if a.toNat<97∨104<a.toNat then ⟨i,0,2⟩ else match r with
  | []=>⟨i+1,0,1⟩
  | b::_=>if b.toNat<49∨56<b.toNat then ⟨i+1,0,2⟩ else ⟨i+2,8*(b.toNat-49)+(a.toNat-97),0⟩
def sqP (t:ByteArray) (i:Int):Sp:=if inB t i=true then sqGo i ((bs t).drop i.toNat) else argS

def lnF (M:List UInt8):Nat:=M.findIdx (· == 10)
def lnS (t:ByteArray) (i:Int):Sp :=
 if inB t i=true then (if lnF ((bs t).drop i.toNat)<((bs t).drop i.toNat).length then ⟨i+lnF ((bs t).drop i.toNat)+1,0,0⟩ else ⟨t.size,0,1⟩) else argS
def lnT (t:ByteArray) (i:Int):ByteArray :=
 if inB t i=true then t.extract i.toNat (i.toNat+lnF ((bs t).drop i.toNat)) else ⟨#[]⟩
theorem lnF_at {M:List UInt8} {j:Nat} {b:UInt8} (h:M[j]?=some b) (hb:b=10) (ha:∀ k,k<j→M[k]?≠some 10):lnF M=j:=by
 obtain ⟨hj,e⟩:=List.getElem?_eq_some_iff.1 h
 unfold lnF
 rw [List.findIdx_eq hj]
 refine ⟨by rw [e,hb];rfl,fun k hk=>?_⟩
 have:=ha k hk
 rw [List.getElem?_eq_getElem (by omega)] at this
 simpa using this
theorem lnF_none {M:List UInt8} (ha:∀ k,k<M.length→M[k]?≠some 10):lnF M=M.length:=by
 unfold lnF
 rw [List.findIdx_eq_length]
 intro x hx
 obtain ⟨k,hk,rfl⟩:=List.getElem_of_mem hx
 have:=ha k hk
 rw [List.getElem?_eq_getElem hk] at this
 simpa using this

theorem sign_high (s:ByteArray) (p:Nat) (hp:p<s.size) (h:¬ (s[p]'hp).toNat<128):∀ k,p≤k→k<p+(Utf8.decode s p).2→∃ b,(bs s)[k]?=some b∧128≤b.toNat:=by
 have hget:∀ k,(hk:k<s.size)→s.get! k=s[k]'hk:=fun k hk=>by have:=get_at s k hk;simpa using this
 have hb0:(s.get! p).toNat=(s[p]'hp).toNat:=by rw [hget p hp]
 have fin:∀ k,(hk:k<s.size)→128≤(s.get! k).toNat→∃ b,(bs s)[k]?=some b∧128≤b.toNat:=fun k hk h1=>⟨_,bs_getq s k hk,by rw [← hget k hk];exact h1⟩
 have f0:=fin p hp (by omega)
 have hd:=Lib.decode_at s p
 unfold Lib.decodeN at hd
 rw [if_neg (by omega)] at hd
 intro k hk1 hk2
 have hk:k=p∨k=p+1∨k=p+2∨k=p+3∨p+4≤k:=by omega
 repeat' split at hd
 all_goals rw [hd] at hk2
 all_goals dsimp only at hk2
 all_goals rcases hk with rfl|rfl|rfl|rfl|hk
 all_goals first
  | exact f0
  | (exfalso;omega)
  | exact fin _ (by omega) (by omega)
structure Kept (w w':World):Prop where
 os:w'.os=w.os
 output:w'.output=w.output
 size:w.heap.size≤w'.heap.size
 block:∀ k,k<w.heap.size→w'.heap[k]?=w.heap[k]?
theorem Kept.refl (w:World):Kept w w:=⟨rfl,rfl,Nat.le_refl _,fun _ _=>rfl⟩
theorem Kept.trans {a b c:World} (h:Kept a b) (k:Kept b c):Kept a c :=
 ⟨k.os.trans h.os,k.output.trans h.output,Nat.le_trans h.size k.size,fun i hi=>(k.block i (Nat.lt_of_lt_of_le hi h.size)).trans (h.block i hi)⟩
theorem Kept.alloc {a w:World} (h:Kept a w) (o:Obj):Kept a (w.alloc o) :=
 h.trans ⟨rfl,rfl,by simp,fun k hk=>Below.heap_alloc _ _ _ hk⟩
theorem Kept.setCell {a w:World} (h:Kept a w) {p:Addr} (hp:a.heap.size≤p.block) (u:Value):Kept a (w.setCell p u) :=
 ⟨h.os,h.output,by simpa [World.setCell] using h.size,fun k hk=>(Below.heap_setCell w p u k (by omega)).trans (h.block k hk)⟩
theorem Kept.drew {a w:World} (h:Kept a w):Kept a w.drew:=⟨h.os,h.output,h.size,h.block⟩
theorem Kept.drewN {a w:World} (h:Kept a w) (n:Nat):Kept a (w.drewN n):=⟨h.os,h.output,h.size,h.block⟩
theorem Kept.grownBy {a w w':World} {row:Option Nat} (h:Kept a w) (hg:w.grownBy w' row) (hr:∀ k,row=some k→a.heap.size≤k):Kept a w' :=
 ⟨hg.os.trans h.os,hg.output.trans h.output,Nat.le_trans h.size hg.size,fun k hk=>(hg.block k (Nat.lt_of_lt_of_le hk h.size) (fun e=>by have:=hr k e.symm;omega)).trans (h.block k hk)⟩
theorem Kept.of_grown {a w:World} (g:Grown a w):Kept a w:=by
 refine ⟨g.1.1,g.1.2.1,g.2.2,fun k hk=>?_⟩
 have hb:=g.1.2.2 k hk
 split at hb
 ·next c t fr c' t' fr' h1 h2 =>
  obtain ⟨rfl,rfl,hs,hc⟩:=hb
  rw [h1,h2]
  have:c'=c:=Array.ext_getElem? fun j=>hc j (fun f=>f)
  rw [this]
 ·next es clock es' clock' h1 h2 =>
  rcases hb with hb|⟨rfl,rfl⟩
  ·exact hb.elim
  ·rw [h1,h2]
 ·exact hb
theorem Kept.frame {W w':World} (h:Kept W w') (may:MemPlace→Prop):W.keptBut w' may:=by
 refine ⟨h.os,h.output,fun i hi=>?_⟩
 rw [h.block i hi]
 split <;> simp_all
theorem Kept.heap {a w:World} (h:Kept a w) {g:Nat} {o:Obj} (hg:a.heap[g]?=some o):w.heap[g]?=some o :=
 (h.block g (lt_of_heap hg)).trans hg
theorem post_kept {H:Type} {enc:TypeId × Value→H} {P:Program} {f:Func} {s:ChangeSpec} {W W':World} {args:Array Value} {v:Value} {ds gs:List (DataW H)} {before pa pv:List MemPlace}
  (hW:DataW.Whole enc P f.params.toList s.vars false W args.toList ds gs before)
  (hres:DataW.TrodAll enc P W' W.heap.size (fun _=>false) false f.resultTypes.toList (v.resultList f.resultTypes.size) (s.fn H (ds++gs)).results [])
  (hargs:DataW.TrodAll enc P W' 0 (fun b=>decide (b<W.heap.size)) true f.params.toList args.toList (s.fn H (ds++gs)).args pa)
  (hvars:DataW.TrodVars enc P W' (fun b=>decide (b<W.heap.size)) s.vars (s.fn H (ds++gs)).vars pv)
  (hk:Kept W W'):s.post enc P f false true false false W args v W' :=
 ⟨ds,gs,before,[],pa,pv,hW,hres,hargs,hvars,hk.frame _,fun h=>by cases h⟩
theorem kept_cell {w w':World} (k:Kept w w') {a:Addr} {v:Value} (h:w.cell? a=some v):w'.cell? a=some v :=
 (World.cell?_of_block (k.block a.block (World.block_lt_of_cell? w a h))).trans h
theorem rg_take {P:Program} {ops:Array Oper} {Q:Exit→Act→World→Prop} {md:Region.Mode} {S:World→Prop} {i:Nat} {oi:Oper} {v:Value} {fuel:Nat} {listed:Array Bool} {a:Act} {w:World} (dst:Option Tmp)
  (hi:ops[i]?=some oi) (hd:oi.dst=dst) (hs:Region.noSelect ops=true) (hf:Region.free md ops listed i=true) (hr:(Region.ready md ops listed).contains i=true)
  (hQ:∀ c a w,Q (.panic c) (a.put dst v) w→Q (.panic c) a w) (hy:YieldsIf P ops S oi v a) (hS:S w)
  (h:wpAnyH P md ops Q S fuel (listed.setIfInBounds i true) (a.put dst v) w):wpAnyH P md ops Q S (fuel+1) listed a w:=by
 subst hd
 exact wpAnyH_take hi hs hf hr hQ hy hS h
theorem quiet_same {P:Program} {f:FuncId} {args:Array Value} {w:World} {n:Nat} {v:Value}
  (h:Calls P f args (w.drewN n) fun e w'=>e=.returned v∧w.drewN n=w'):Calls P f args (w.drewN n) fun e w''=>e=.returned v∧∃ m,w''=w.drewN m :=
 h.mono fun _ _ ⟨he,hm⟩=>⟨he,n,hm.symm⟩
section
variable {P:Program} {ops:Array Oper} {Q:Exit→Act→World→Prop} {md:Region.Mode} {S:World→Prop} {oi:Oper} {v:Value} {fuel:Nat} {listed:Array Bool} {a:Act} {w:World}
theorem rY (i:Nat) (d:Tmp) (hi:ops[i]?=some oi) (hd:oi.dst=some d) (hy:YieldsIf P ops S oi v a) (hS:S w)
  (h:wpAnyH P md ops Q S fuel (listed.setIfInBounds i true) (a.put (some d) v) w) (hs:Region.noSelect ops=true:=by kernel_rfl) (hf:Region.free md ops listed i=true:=by kernel_rfl) (hr:(Region.ready md ops listed).contains i=true:=by kernel_rfl)
  (hQ:∀ c a w,Q (.panic c) (a.put (some d) v) w→Q (.panic c) a w:=by exact fun _ _ _ h=>h):wpAnyH P md ops Q S (fuel+1) listed a w :=
 rg_take (some d) hi hd hs hf hr hQ hy hS h
theorem rT (i:Nat) (d:Tmp) (v:Value) (hi:ops[i]?=some oi) (hd:oi.dst=some d) (hS:S w)
  (h:wpAnyH P md ops Q S fuel (listed.setIfInBounds i true) (a.put (some d) v) w) (hs:Region.noSelect ops=true:=by kernel_rfl) (hf:Region.free md ops listed i=true:=by kernel_rfl) (hr:(Region.ready md ops listed).contains i=true:=by kernel_rfl)
  (hQ:∀ c a w,Q (.panic c) (a.put (some d) v) w→Q (.panic c) a w:=by exact fun _ _ _ h=>h)
  (hw:Region.wanted oi (yielded ops a.tmps)=true:=by rfl) (hy:∀ w,S w→(execOp a.eval oi).run P w=.ok (.value v) w:=by intro _ _;go_simp):wpAnyH P md ops Q S (fuel+1) listed a w :=
 rg_take (some d) hi hd hs hf hr hQ (.inl ⟨hw,hy⟩) hS h
theorem rC (i:Nat) (d:Tmp) (v:Value) (hi:ops[i]?=some oi) (hd:oi.dst=some d) {A:Addr} {u:Value} (hc:∀ w,S w→w.cell? A=some u) (hS:S w)
  (h:wpAnyH P md ops Q S fuel (listed.setIfInBounds i true) (a.put (some d) v) w) (hs:Region.noSelect ops=true:=by kernel_rfl) (hf:Region.free md ops listed i=true:=by kernel_rfl) (hr:(Region.ready md ops listed).contains i=true:=by kernel_rfl)
  (hQ:∀ c a w,Q (.panic c) (a.put (some d) v) w→Q (.panic c) a w:=by exact fun _ _ _ h=>h)
  (hw:Region.wanted oi (yielded ops a.tmps)=true:=by rfl) (hy:∀ w,w.cell? A=some u→(execOp a.eval oi).run P w=.ok (.value v) w:=by intro _ h';go_simp):wpAnyH P md ops Q S (fuel+1) listed a w :=
 rg_take (some d) hi hd hs hf hr hQ (.inl ⟨hw,fun w hS=>hy w (hc w hS)⟩) hS h
theorem rN (i:Nat) (d:Tmp) (hi:ops[i]?=some oi) (hd:oi.dst=some d) (hS:S w)
  (h:wpAnyH P md ops Q S fuel (listed.setIfInBounds i true) (a.put (some d) undef) w) (hs:Region.noSelect ops=true:=by kernel_rfl) (hf:Region.free md ops listed i=true:=by kernel_rfl) (hr:(Region.ready md ops listed).contains i=true:=by kernel_rfl)
  (hQ:∀ c a w,Q (.panic c) (a.put (some d) undef) w→Q (.panic c) a w:=by exact fun _ _ _ h=>h)
  (hw:Region.wanted oi (yielded ops a.tmps)=false:=by rfl):wpAnyH P md ops Q S (fuel+1) listed a w :=
 rg_take (some d) hi hd hs hf hr hQ (.inr ⟨hw,rfl⟩) hS h
theorem rR (i:Nat) (ho:ops[i]?=some oi)
  (h:∀ K':Act→World→Prop,Shut (∀ a w,S w→(S w→wpAnyH P md ops Q S fuel (listed.setIfInBounds i true) a w)→K' a w)→if Region.wanted oi (yielded ops a.tmps)=true then Oper.wp P oi a w K' Q else K' (a.put oi.dst undef) w)
  (hr:Region.ready md ops listed=[i]:=by kernel_rfl):wpAnyH P md ops Q S (fuel+1) listed a w :=
 wpAnyH_ready hr (by simp) (AllReadyH.cons ho h AllReadyH.nil)
end
theorem pA (l:List Value) (ds:List Deferred) (d:Nat) (v:Value):Act.put ⟨l.toArray,ds⟩ (some d) v=⟨(l.set d v).toArray,ds⟩:=by simp [Act.put]
theorem pN (a:Act) (v:Value):a.put none v=a:=rfl
theorem sZ (x y:Value) (l:List Value):(x::l).set 0 y=y::l:=rfl
theorem sU (x y:Value) (l:List Value) (n:Nat):(x::l).set (n+1) y=x::l.set n y:=rfl
theorem Kept.setRow {a w:World} (h:Kept a w) {g:Nat} (hg:a.heap.size≤g) (c:Array Value):Kept a (w.setRow g c) :=
 ⟨h.os,h.output,by simpa using h.size,fun k hk=>(setRow_other w g k c (by omega)).trans (h.block k hk)⟩
theorem wpList_built {P:Program} {ops:Array Oper} {rest:List Oper} {o:Oper} {a:Act} {w:World} {Q:Exit→Act→World→Prop} (hg:o.guard=none) (t:TypeId) (parts:Array (Nat × Operand)) (ho:o.op=.build t parts)
  (cells:Array Value) (hf:P.built t (parts.map fun (i,x)=>(i,a.eval x)).toList=some cells)
  (h:wpList P ops Q rest (a.put o.dst (.agg cells)) w):wpList P ops Q (o::rest) a w :=
 wpList_build hg t parts ho (by rw [hf];rfl) (by rw [hf];exact h)
theorem Kept.iterAt {a w:World} (h:Kept a w) {i:Nat} (hi:a.heap.size≤i) (s:ByteArray) (q:Nat):Kept a (iterAt w i s q) :=
 ⟨h.os,h.output,by show _≤(w.heap.setIfInBounds i _).size;rw [Array.size_setIfInBounds];exact h.size,fun k hk=>by
  show (w.heap.setIfInBounds i _)[k]?=_
  rw [Array.getElem?_setIfInBounds_ne (by omega)]
  exact h.block k hk⟩
theorem Below.toKept {w w':World} (h:Below w.heap.size w w'):Kept w w':=⟨h.os,h.output,h.size,h.block⟩
def Zs:Sp:=⟨0,0,0⟩
structure SAt (w:World) (g:Nat) (x:Sp):Prop where
 at_:w.heap[g]?=some (.cells (sl x).toArray 64 (0,0))
theorem SAt.kept {w w':World} {g:Nat} {x:Sp} (h:SAt w g x) (k:Kept w w'):SAt w' g x:=⟨k.heap h.at_⟩
theorem SAt.new (w:World) (x:Sp):SAt (w.alloc (.cells (sl x).toArray 64)) w.heap.size x:=⟨heap_alloc_new w _⟩
theorem SAt.row {w:World} {g:Nat} {x:Sp} (h:SAt w g x) (y:Sp):SAt (w.setRow g (sl y).toArray) g y:=⟨setRow_heap _ _ _ _ _ _ h.at_⟩
theorem sizeS:(Tryz.prog.info? 64).map (·.size)=some 3:=by kernel_rfl
theorem sl_sz (x:Sp):(Tryz.prog.info? 64).map (·.size)=some (sl x).toArray.size:=by rw [sizeS];rfl
theorem sl_one (x:Sp):(sl x).toArray.all (·.oneCell')=true:=by
 rw [Array.all_eq_true_iff_forall_mem]
 intro v hv
 simp only [List.mem_toArray,sl,List.mem_cons,List.not_mem_nil,or_false] at hv
 rcases hv with rfl|rfl|rfl <;> rfl
theorem sv_sl (x:Sp):sv x=.agg (sl x).toArray:=rfl
theorem zeroSp:(Tryz.prog.info? 64).map (fun i=>(i.zero,i.size))=some (some (.agg (sl Zs).toArray),3):=by kernel_rfl
theorem run_zero_sp (w:World):(zeroValue 64).run Tryz.prog w=.ok (.agg (sl Zs).toArray) w:=(zero_of_info zeroSp).1 w
theorem wpList_new_sp {ops:Array Oper} {rest:List Oper} {o:Oper} {a:Act} {w:World} {Q:Exit→Act→World→Prop} (hgd:o.guard=none) (ho:o.op=.alloc 64)
  (h:wpList Tryz.prog ops Q rest (a.put o.dst (.pointer (some ⟨w.heap.size,0,none⟩))) (w.alloc (.cells (sl Zs).toArray 64))):wpList Tryz.prog ops Q (o::rest) a w:=by
 refine wpList_plain hgd fun _ hK=>?_
 unfold Oper.wp execOp
 simp only [ho,Instr.alloc,Sem.run_bind,run_zero_sp,Result.andThen_ok,newVar,newRow,Value.cells]
 exact hK _ _ h
theorem wpList_store_sp {ops:Array Oper} {rest:List Oper} {o:Oper} {a:Act} {w:World} {Q:Exit→Act→World→Prop} (hgd:o.guard=none) (x y:Operand) (ho:o.op=.store 64 x y)
  (g:Nat) (j m:Sp) (hg:SAt w g j) (hx:a.eval x=.pointer (some ⟨g,0,none⟩)) (hy:a.eval y=sv m)
  (h:wpList Tryz.prog ops Q rest (a.put o.dst undef) (w.setRow g (sl m).toArray)):wpList Tryz.prog ops Q (o::rest) a w :=
 wpList_store_row hgd 64 x y ho g (sl m).toArray hx hy 64 _ hg.at_ (sl_sz m) rfl (sl_one _) h
theorem bt_sa (a:Int):Tryz.prog.built 64 [(0,.int .i64 a)]=some (sl ⟨a,0,0⟩).toArray:=by kernel_rfl
theorem bt_sn (a n:Int):Tryz.prog.built 64 [(0,.int .i64 a),(1,.int .i64 n)]=some (sl ⟨a,n,0⟩).toArray:=by kernel_rfl
theorem bt_se (a e:Int):Tryz.prog.built 64 [(0,.int .i64 a),(2,.int .i64 e)]=some (sl ⟨a,0,e⟩).toArray:=by kernel_rfl
theorem bt_s5 (e:Int):Tryz.prog.built 64 [(2,.int .i64 e)]=some (sl ⟨0,0,e⟩).toArray:=by kernel_rfl
section
variable {ops:Array Oper} {rest:List Oper} {o:Oper} {a:Act} {w:World} {Q:Exit→Act→World→Prop}
theorem wpList_bt_sa (hg:o.guard=none) (x0:Operand) (ho:o.op=.build 64 #[(0,x0)]) (i:Int) (h0:a.eval x0=.int .i64 i)
  (h:wpList Tryz.prog ops Q rest (a.put o.dst (sv ⟨i,0,0⟩)) w):wpList Tryz.prog ops Q (o::rest) a w :=
 wpList_built hg _ _ ho _ (by
  have:((#[(0,x0)]:Array (Nat × Operand)).map fun (i,x)=>(i,a.eval x)).toList=[(0,.int .i64 i)]:=by simp [h0]
  rw [this];exact bt_sa i) h
theorem wpList_bt_sn (hg:o.guard=none) (x0 x1:Operand) (ho:o.op=.build 64 #[(0,x0),(1,x1)]) (i n:Int) (h0:a.eval x0=.int .i64 i) (h1:a.eval x1=.int .i64 n)
  (h:wpList Tryz.prog ops Q rest (a.put o.dst (sv ⟨i,n,0⟩)) w):wpList Tryz.prog ops Q (o::rest) a w :=
 wpList_built hg _ _ ho _ (by
  have:((#[(0,x0),(1,x1)]:Array (Nat × Operand)).map fun (i,x)=>(i,a.eval x)).toList=[(0,.int .i64 i),(1,.int .i64 n)]:=by simp [h0,h1]
  rw [this];exact bt_sn i n) h
theorem wpList_bt_se (hg:o.guard=none) (x0 x1:Operand) (ho:o.op=.build 64 #[(0,x0),(2,x1)]) (i n:Int) (h0:a.eval x0=.int .i64 i) (h1:a.eval x1=.int .i64 n)
  (h:wpList Tryz.prog ops Q rest (a.put o.dst (sv ⟨i,0,n⟩)) w):wpList Tryz.prog ops Q (o::rest) a w :=
 wpList_built hg _ _ ho _ (by
  have:((#[(0,x0),(2,x1)]:Array (Nat × Operand)).map fun (i,x)=>(i,a.eval x)).toList=[(0,.int .i64 i),(2,.int .i64 n)]:=by simp [h0,h1]
  rw [this];exact bt_se i n) h
theorem wpList_bt_s5 (hg:o.guard=none) (x0:Operand) (ho:o.op=.build 64 #[(2,x0)]) (i:Int) (h0:a.eval x0=.int .i64 i)
  (h:wpList Tryz.prog ops Q rest (a.put o.dst (sv ⟨0,0,i⟩)) w):wpList Tryz.prog ops Q (o::rest) a w :=
 wpList_built hg _ _ ho _ (by
  have:((#[(2,x0)]:Array (Nat × Operand)).map fun (i,x)=>(i,a.eval x)).toList=[(2,.int .i64 i)]:=by simp [h0]
  rw [this];exact bt_s5 i) h
end
theorem results_sp {fn:Func} {s:Tmp} (h:fn.results=#[.cell s 64]) (tmps:Array Value) {w:World} {g:Nat} {m:Sp}
  (hp:tmps.getD s undef=.pointer (some ⟨g,0,none⟩)) (hg:SAt w g m):(results fn tmps).run Tryz.prog w=.ok (sv m) w:=by
 have hp':tmps[s]?.getD undef=.pointer (some ⟨g,0,none⟩):=by simpa using hp
 have hl:(loadVar 64 ⟨g,0,none⟩).run Tryz.prog w=.ok (sv m) w:=run_loadVar_row w g _ _ (sl m).toArray (0,0) _ hg.at_ Tryz.underlying64 rfl (sl_sz m)
 simp [results,h,hp',asAddr,hl]
theorem ret_sp {fn:Func} {s:Tmp} (h:fn.results=#[.cell s 64]) {tmps:Array Value} {w:World} {g:Nat} {j m:Sp} (hg:SAt w g j)
  (hp:tmps.getD s undef=.pointer (some ⟨g,0,none⟩)):(results fn tmps).run Tryz.prog (w.setRow g (sl m).toArray)=.ok (sv m) (w.setRow g (sl m).toArray):=results_sp h tmps hp (hg.row m)
theorem run_idx (s:ByteArray) (n:Int) (i:Nat) (hn:n=i) (c:UInt8) (hc:(bs s)[i]?=some c) (w:World) :
  (Instr.index 9 (.string s) (.int .i64 n)).run Tryz.prog w=.ok (.int .u8 (c.toNat:Nat)) w:=by
 subst hn
 obtain ⟨⟨l⟩⟩:=s
 obtain ⟨h1,h2⟩:=List.getElem?_eq_some_iff.1 hc
 have h1':i<(ByteArray.mk ⟨l⟩).size:=h1
 rw [run_index_string (h:=Tryz.underlying9),dif_pos ⟨by omega,by omega⟩]
 have e:(ByteArray.mk ⟨l⟩)[((i:Nat):Int).toNat]'(by omega)=c:=h2
 rw [e]
theorem lwithin_is (t:ByteArray) (i:Int) (w:World):Calls Tryz.prog 69 #[.string t,.int .i64 i] w fun e w'=>e=.returned (.bool (inB t i))∧w=w':=by
 by_cases h0:0≤i
 ·by_cases h1:i≤(t.size:Int)
  ·have HE:=Qh (show inB t i=true by simp [inB,h0,h1])
   go_enter Tryz.func69,Tryz.ntmps69
   go_wp2
   go_ret
   exact ⟨by rw [HE.out];first|done|rfl,rfl⟩
  ·have HE:=Qh (show inB t i=false by simp [inB,h1])
   go_enter Tryz.func69,Tryz.ntmps69
   go_wp2
   go_ret
   exact ⟨by rw [HE.out];first|done|rfl,rfl⟩
 ·have HE:=Qh (show inB t i=false by simp [inB,h0])
  go_enter Tryz.func69,Tryz.ntmps69
  go_wp2
  go_ret
  exact ⟨by rw [HE.out];first|done|rfl,rfl⟩
theorem refused_is (w:World):Calls Tryz.prog 70 #[] w fun e w'=>e=.returned (sv argS)∧Kept w w':=by
 have HS:=Qh (SAt.new w Zs)
 go_enter Tryz.func70,Tryz.ntmps70
 go_wp2_with (first|(with_reducible refine wpList_new_sp rfl rfl ?_)|(refine wpList_bt_s5 rfl _ rfl 5 rfl ?_)|(refine wpList_store_sp rfl _ _ rfl w.heap.size Zs argS HS.out rfl rfl ?_))
 refine bodyPost_ret (v:=sv argS) ?_ rfl ⟨rfl,((Kept.refl w).alloc _).setRow (by omega) _⟩
 exact (ret_sp rfl HS.out rfl).trans rfl
theorem stuck_is (t:ByteArray) (i:Int) (w:World):Calls Tryz.prog 72 #[.string t,.int .i64 i] w fun e w'=>e=.returned (sv (stk t.size i))∧Kept w w':=by
 have HS:=Qh (SAt.new w Zs)
 by_cases h:i=(t.size:Int)
 ·have hb:(i == (t.size:Int))=true:=beq_iff_eq.2 h
  have HE:=Qh (show stk t.size i=⟨i,0,1⟩ by unfold stk;rw [if_pos h])
  clear h
  go_enter Tryz.func72,Tryz.ntmps72
  go_wp2_with (first|(with_reducible refine wpList_new_sp rfl rfl ?_)|(refine wpList_bt_se rfl _ _ rfl i 1 rfl rfl ?_)|(refine wpList_store_sp rfl _ _ rfl w.heap.size Zs ⟨i,0,1⟩ HS.out rfl rfl ?_))
  refine bodyPost_ret (v:=sv ⟨i,0,1⟩) ?_ rfl ⟨by rw [HE.out];first|done|rfl,((Kept.refl w).alloc _).setRow (by omega) _⟩
  exact (ret_sp rfl HS.out rfl).trans rfl
 ·have hb:(i == (t.size:Int))=false:=beq_eq_false_iff_ne.2 h
  have HE:=Qh (show stk t.size i=⟨i,0,2⟩ by unfold stk;rw [if_neg h])
  clear h
  go_enter Tryz.func72,Tryz.ntmps72
  go_wp2_with (first|(with_reducible refine wpList_new_sp rfl rfl ?_)|(refine wpList_bt_se rfl _ _ rfl i 2 rfl rfl ?_)|(refine wpList_store_sp rfl _ _ rfl w.heap.size Zs ⟨i,0,2⟩ HS.out rfl rfl ?_))
  refine bodyPost_ret (v:=sv ⟨i,0,2⟩) ?_ rfl ⟨by rw [HE.out];first|done|rfl,((Kept.refl w).alloc _).setRow (by omega) _⟩
  exact (ret_sp rfl HS.out rfl).trans rfl
theorem common_is (a b:ByteArray) (ha:a.size≤1000) (hb:b.size≤1000) (w:World):Calls Tryz.prog 71 #[.string a,.string b] w fun e w'=>e=.returned (.int .i64 (cmn (bs a) (bs b):Nat))∧Kept w w':=by
 have ea:=bs_len a
 have eb:=bs_len b
 rcases (Int.lt_or_le (b.size:Int) (a.size:Int)) with hm|hm
 ·go_enter Tryz.func71,Tryz.ntmps71
  go_wp2
  go_loopw [13] (fun t wr=>∃ k:Nat,t=.int .i64 k∧k≤a.size∧k≤b.size∧cmn (bs a) (bs b)=k+cmn ((bs a).drop k) ((bs b).drop k)∧Kept w wr) (fun t _=>1000-(intOf t).toNat)
  case atStart=>exact ⟨0,rfl,by omega,by omega,by simp,Kept.refl _⟩
  case round =>
   obtain ⟨k,rfl,hka,hkb,hc,hK⟩:=hrel
   have HC:=Qh hc
   have HK:=Qh hK
   clear hc hK
   by_cases hlt:k<a.size∧k<b.size
   ·obtain ⟨l1,l2⟩:=hlt
    obtain ⟨x,hx⟩:∃ x,(bs a)[k]?=some x:=⟨_,bs_getq a k l1⟩
    obtain ⟨y,hy⟩:∃ y,(bs b)[k]?=some y:=⟨_,bs_getq b k l2⟩
    have ia:=run_idx a k k rfl x hx
    have ib:=run_idx b k k rfl y hy
    by_cases he:x=y
    ·have H:=Qh (cmn_same (bs a) (bs b) k x hx (by rw [he];exact hy))
     have hne:(((x.toNat:Nat):Int) != ((y.toNat:Nat):Int))=false:=by rw [he];simp
     clear hx hy he
     go_wp2_with fail
     go_quiet (fail)
     go_wp2
     go_roundw
     case rel=>exact ⟨k+1,by go_num,by omega,by omega,by rw [HC.out,H.out];omega,by first|exact HK.out.drewN _|exact HK.out.drew|exact HK.out⟩
     case measure=>simp [intOf];omega
    ·have H:=Qh (cmn_diff (bs a) (bs b) k x y hx hy he)
     have hne:(((x.toNat:Nat):Int) != ((y.toNat:Nat):Int))=true:=by
      rw [bne_iff_ne];intro e;exact he (UInt8.toNat.inj (by omega))
     clear hx hy he
     go_wp2_with fail
     go_quiet (fail)
     go_wp2
     go_ret
     exact ⟨by rw [HC.out,H.out];rfl,by first|exact HK.out.drewN _|exact HK.out.drew|exact HK.out⟩
   ·have H:=Qh (cmn_end (bs a) (bs b) k (by rw [ea,eb];exact hlt))
    have hk':(k:Int)=a.size∨(k:Int)=b.size:=by omega
    go_wp2
    go_ret
    exact ⟨by rw [HC.out,H.out];first|(simp;omega)|rfl,HK.out⟩
 ·go_enter Tryz.func71,Tryz.ntmps71
  go_wp2
  go_loopw [13] (fun t wr=>∃ k:Nat,t=.int .i64 k∧k≤a.size∧k≤b.size∧cmn (bs a) (bs b)=k+cmn ((bs a).drop k) ((bs b).drop k)∧Kept w wr) (fun t _=>1000-(intOf t).toNat)
  case atStart=>exact ⟨0,rfl,by omega,by omega,by simp,Kept.refl _⟩
  case round =>
   obtain ⟨k,rfl,hka,hkb,hc,hK⟩:=hrel
   have HC:=Qh hc
   have HK:=Qh hK
   clear hc hK
   by_cases hlt:k<a.size∧k<b.size
   ·obtain ⟨l1,l2⟩:=hlt
    obtain ⟨x,hx⟩:∃ x,(bs a)[k]?=some x:=⟨_,bs_getq a k l1⟩
    obtain ⟨y,hy⟩:∃ y,(bs b)[k]?=some y:=⟨_,bs_getq b k l2⟩
    have ia:=run_idx a k k rfl x hx
    have ib:=run_idx b k k rfl y hy
    by_cases he:x=y
    ·have H:=Qh (cmn_same (bs a) (bs b) k x hx (by rw [he];exact hy))
     have hne:(((x.toNat:Nat):Int) != ((y.toNat:Nat):Int))=false:=by rw [he];simp
     clear hx hy he
     go_wp2_with fail
     go_quiet (fail)
     go_wp2
     go_roundw
     case rel=>exact ⟨k+1,by go_num,by omega,by omega,by rw [HC.out,H.out];omega,by first|exact HK.out.drewN _|exact HK.out.drew|exact HK.out⟩
     case measure=>simp [intOf];omega
    ·have H:=Qh (cmn_diff (bs a) (bs b) k x y hx hy he)
     have hne:(((x.toNat:Nat):Int) != ((y.toNat:Nat):Int))=true:=by
      rw [bne_iff_ne];intro e;exact he (UInt8.toNat.inj (by omega))
     clear hx hy he
     go_wp2_with fail
     go_quiet (fail)
     go_wp2
     go_ret
     exact ⟨by rw [HC.out,H.out];rfl,by first|exact HK.out.drewN _|exact HK.out.drew|exact HK.out⟩
   ·have H:=Qh (cmn_end (bs a) (bs b) k (by rw [ea,eb];exact hlt))
    have hk':(k:Int)=a.size∨(k:Int)=b.size:=by omega
    go_wp2
    go_ret
    exact ⟨by rw [HC.out,H.out];first|(simp;omega)|rfl,HK.out⟩
end Go.Proofs.YtlbipjmmlobofaaGreatDoor
