/- FoK · TsM · BoN · TsN: my texts, in their order. -/
import Derived.Test.YtlbipjmmlobofaaGreatDoorPkA11
import Derived.Test.YtlbipjmmlobofaaGreatDoorPkA18
import Derived.Lib.Join
namespace Go.Proofs.YtlbipjmmlobofaaGreatDoor
open Go.RowKit
set_option linter.unusedVariables false
set_option maxRecDepth 100000
set_option linter.unusedSimpArgs false
def feed (o:Option St) (l:List UInt8):Option St:=l.foldl (fun o c=>o.bind (stp c)) o
theorem says_feed (l:List UInt8):says l=feed (some ([],0,0)) l:=rfl
theorem feed_append (o:Option St) (a b:List UInt8):feed o (a++b)=feed (feed o a) b:=List.foldl_append
def dig (k:Nat):List UInt8:=if k=0 then [] else [UInt8.ofNat (48+k)]
def ordN (m:Int):Nat:=(if 0<m then 6-m else 12+m).toNat
def lettM (m:Int):List UInt8:=if m=0 then [] else (lettN (ordN m)).data.toList
theorem ordN_lt (m:Int) (h:manB m=true):ordN m<12∧inOrd (ordN m)=m:=by
 have:=(manB_iff m).1 h
 unfold ordN inOrd
 split <;> split <;> omega
theorem dig_feed (S:List Int) (rows k g:Nat) (h:k+g≤8):feed (some (S,rows,k)) (dig g)=some (S++List.replicate g 0,rows,k+g):=by
 unfold dig
 by_cases h0:g=0
 ·subst h0;simp [feed]
 ·rw [if_neg h0]
  have e:(UInt8.ofNat (48+g)).toNat=48+g:=by simp;omega
  simp only [feed,List.foldl_cons,List.foldl_nil,Option.bind_some]
  unfold stp
  rw [if_neg (by omega),if_pos (by omega),e,if_pos (by simp;omega)]
  simp
theorem letter_byte (n:Nat) (h:n<12):(lettN n).data.toList=[(runeL n).toUInt8]∧(runeL n).toUInt8.toNat≠47∧56<(runeL n).toUInt8.toNat:=by
 have:∀ n:Fin 12,(runeL n.val).toUInt8.toNat≠47∧56<(runeL n.val).toUInt8.toNat:=by decide +kernel
 exact ⟨rfl,this ⟨n,h⟩⟩
theorem lett_feed (S:List Int) (rows k:Nat) (m:Int) (hm:manB m=true) (h:k<8):feed (some (S,rows,k)) (lettM m)=some (S++[m],rows,k+1):=by
 obtain ⟨h1,h2⟩:=ordN_lt m hm
 obtain ⟨h3,h4,h5⟩:=letter_byte _ h1
 have h0:m≠0:=((manB_iff m).1 hm).1
 have e:manOf (runeL (ordN m)).toUInt8=m:=by
  have:manOf (runeL (ordN m)).toUInt8=ofT (lettN (ordN m)):=rfl
  rw [this,ofT_letter _ h1,h2]
 unfold lettM
 rw [if_neg h0,h3]
 simp only [feed,List.foldl_cons,List.foldl_nil,Option.bind_some]
 unfold stp
 rw [if_neg h4,if_neg (by omega),if_neg (by rw [e];exact h0),if_pos h,e]
theorem lettM_len (m:Int):(lettM m).length≤1:=by
 unfold lettM lettN
 split <;> simp
theorem dig_len (g:Nat):(dig g).length≤1:=by unfold dig;split <;> simp
def rowGo:List Int→Nat→List UInt8
 | [],g=>dig g
 | m::ms,g=>if m=0 then rowGo ms (g+1) else dig g++lettM m++rowGo ms 0
theorem rowGo_len:∀ (l:List Int) (g:Nat),(rowGo l g).length≤2*l.length+1
 | [],g=>by have:=dig_len g;simpa [rowGo] using this
 | m::ms,g=>by
  unfold rowGo
  split
  ·have:=rowGo_len ms (g+1);simp;omega
  ·have:=rowGo_len ms 0;have:=dig_len g;have:=lettM_len m;simp;omega
theorem rowGo_feed (rows:Nat):∀ (l:List Int) (g k:Nat) (S:List Int),(∀ x ∈ l,okB x=true)→k+g+l.length≤8 →
  feed (some (S,rows,k)) (rowGo l g)=some (S++List.replicate g 0++l,rows,k+g+l.length)
 | [],g,k,S,_,h=>by rw [rowGo,dig_feed S rows k g (by simpa using h)];simp
 | m::ms,g,k,S,hok,h=>by
  simp at h
  have hm:=hok m (by simp)
  have ih:=fun g k S=>rowGo_feed rows ms g k S (fun x hx=>hok x (by simp [hx]))
  unfold rowGo
  split
  ·rename_i h0
   rw [ih (g+1) k S (by omega),h0]
   simp [List.replicate_succ']
   omega
  ·rename_i h0
   have hmm:manB m=true:=by
    unfold okB at hm
    have:(m == 0)=false:=by simpa using h0
    simpa [this] using hm
   rw [feed_append,feed_append,dig_feed S rows k g (by omega),lett_feed _ rows (k+g) m hmm (by omega),ih 0 (k+g+1) _ (by omega)]
   simp
   omega
def rowL (B:List Int) (r:Nat):List Int:=(List.range 8).map fun f=>B.getD (8*r+f) 0
def rowT (B:List Int) (r:Nat):List UInt8:=rowGo (rowL B r) 0
theorem rowL_len (B:List Int) (r:Nat):(rowL B r).length=8:=by simp [rowL]
theorem rowL_get (B:List Int) (r f:Nat) (h:f<8):(rowL B r).getD f 0=B.getD (8*r+f) 0:=by
 simp [rowL,List.getD,h]
theorem rowT_len (B:List Int) (r:Nat):(rowT B r).length≤17:=by
 have:=rowGo_len (rowL B r) 0
 rw [rowL_len] at this
 exact this
def txt (B:List Int):Nat→List UInt8
 | 0=>[]
 | n+1=>txt B n++rowT B (7-n)++[47]
def writeT (B:List Int):List UInt8:=txt B 7++rowT B 0
theorem txt_len (B:List Int):∀ n,(txt B n).length≤18*n
 | 0=>by simp [txt]
 | n+1=>by have:=txt_len B n;have:=rowT_len B (7-n);simp [txt];omega
theorem writeT_len (B:List Int):(writeT B).length≤200:=by
 have:=txt_len B 7
 have:=rowT_len B 0
 simp [writeT];omega
theorem writeT_join (B:List Int):Lib.join ((List.range 8).map fun i=>rowT B (7-i)) [47]=writeT B:=by
 have:List.range 8=[0,1,2,3,4,5,6,7]:=by decide
 rw [this]
 simp only [List.map_cons,List.map_nil,Lib.join_cons,Lib.joinTail,writeT,txt,List.flatten_cons,List.flatten_nil]
 simp
def sqs (B:List Int):Nat→List Int
 | 0=>[]
 | n+1=>sqs B n++rowL B (7-n)
theorem sqs_len (B:List Int):∀ n,(sqs B n).length=8*n
 | 0=>rfl
 | n+1=>by simp [sqs,sqs_len B n,rowL_len];omega
theorem sqs_get (B:List Int):∀ n j,n≤8→j<8*n→(sqs B n).getD j 0=B.getD (8*(7-j / 8)+j % 8) 0
 | 0,j,_,h=>by omega
 | n+1,j,hn,h=>by
  unfold sqs
  by_cases hj:j<8*n
  ·rw [← sqs_get B n j (by omega) hj,List.getD,List.getD,List.getElem?_append_left (by rw [sqs_len];exact hj)]
  ·rw [List.getD,List.getElem?_append_right (by rw [sqs_len];omega),sqs_len]
   have:=rowL_get B (7-n) (j-8*n) (by omega)
   rw [List.getD] at this
   rw [this]
   congr 1
   omega
theorem row_ok {B:List Int} (h:∀ i,i<64→okB (B.getD i 0)=true) (r:Nat) (hr:r<8):∀ x ∈ rowL B r,okB x=true:=by
 intro x hx
 unfold rowL at hx
 obtain ⟨f,hf,rfl⟩:=List.mem_map.1 hx
 have:=List.mem_range.1 hf
 exact h _ (by omega)
theorem txt_feed {B:List Int} (h:∀ i,i<64→okB (B.getD i 0)=true):∀ n,n≤7→feed (some ([],0,0)) (txt B n)=some (sqs B n,n,0)
 | 0,_=>rfl
 | n+1,hn=>by
  unfold txt
  rw [feed_append,feed_append,txt_feed h n (by omega),rowT,rowGo_feed n (rowL B (7-n)) 0 0 _ (row_ok h _ (by omega)) (by rw [rowL_len];omega)]
  simp only [feed,List.foldl_cons,List.foldl_nil,Option.bind_some]
  unfold stp
  rw [if_pos (by decide),if_pos ⟨by simp [rowL_len],by simp;omega⟩]
  simp [sqs]
theorem writeT_says {B:List Int} (h:∀ i,i<64→okB (B.getD i 0)=true):says (writeT B)=some (sqs B 8,7,8):=by
 rw [says_feed,writeT,feed_append,txt_feed h 7 (by omega),rowT,rowGo_feed 7 (rowL B 0) 0 0 _ (row_ok h _ (by omega)) (by rw [rowL_len];omega)]
 simp [sqs,rowL_len]
theorem sw_lt (i:Nat) (h:i<64):sw i<64:=by unfold sw;omega
theorem sw_sw (i:Nat) (h:i<64):8*(7-sw i / 8)+sw i % 8=i:=by unfold sw;omega
theorem bd_sqs {B:List Int} (hB:B.length=64):bd (sqs B 8)=B:=by
 rw [← tab_of B hB]
 refine tab_ext fun i hi=>?_
 rw [tab_of B hB,sqs_get B 8 _ (by omega) (by have:=sw_lt i hi;omega),sw_sw i hi]
theorem writeT_reads {B:List Int} (hB:B.length=64) (h:rightB B=true):Reads (writeT B) B (writeT B).length 0 :=
 .inr ⟨_,writeT_says ((rightB_iff B hB).1 h),rfl,.inr ⟨by simp [sqs_len],(bd_sqs hB).symm,rfl⟩⟩
theorem stop_ex {α:Type} (f:List UInt8→Option α) (m:List UInt8) (h0:(f []).isSome=true):∀ k,f (m.take k)=none→∃ n,n<k∧n<m.length∧(∃ s,f (m.take n)=some s)∧f (m.take (n+1))=none
 | 0,h=>by rw [List.take_zero] at h;rw [h] at h0;cases h0
 | k+1,h=>by
  cases hk:f (m.take k) with
  | none =>
   obtain ⟨n,h1,h2,h3,h4⟩:=stop_ex f m h0 k hk
   exact ⟨n,by omega,h2,h3,h4⟩
  | some s =>
   refine ⟨k,by omega,?_,⟨s,hk⟩,h⟩
   rcases Nat.lt_or_ge k m.length with hl|hl
   ·exact hl
   ·rw [List.take_of_length_le hl] at hk
    rw [List.take_of_length_le (by omega),hk] at h
    cases h
theorem fs_ex (m:List UInt8):∃ x:List Int × Nat × Int,Reads m x.1 x.2.1 x.2.2:=by
 cases h:says m with
 | none =>
  obtain ⟨n,_,h2,h3,h4⟩:=stop_ex says m (by rw [says_nil];rfl) m.length (by rw [List.take_length];exact h)
  exact ⟨(Zb,n,2),.inl ⟨h2,h3,h4,rfl,rfl⟩⟩
 | some s =>
  by_cases h64:s.1.length<64
  ·exact ⟨(Zb,m.length,1),.inr ⟨s,h,rfl,.inl ⟨h64,rfl,rfl⟩⟩⟩
  ·exact ⟨(bd s.1,m.length,0),.inr ⟨s,h,rfl,.inr ⟨by omega,rfl,rfl⟩⟩⟩
noncomputable def fsF (m:List UInt8):List Int × Nat × Int:=Classical.choose (fs_ex m)
theorem fsF_reads (m:List UInt8):Reads m (fsF m).1 (fsF m).2.1 (fsF m).2.2:=Classical.choose_spec (fs_ex m)
theorem fsF_is {m:List UInt8} {B:List Int} {n:Nat} {e:Int} (h:Reads m B n e):fsF m=(B,n,e):=by
 obtain ⟨h1,h2,h3⟩:=(fsF_reads m).uniq h
 exact Prod.ext h1 (Prod.ext h2 h3)
theorem says_pre {m X:List UInt8} {s:St} (h:says m=some s) {k:Nat} (hk:k≤m.length):∃ s',says ((m++X).take k)=some s':=by
 rw [List.take_append_of_le_length hk]
 exact says_some (a:=m.take k) (b:=m.drop k) (by rw [List.take_append_drop];exact h)
noncomputable def fsL:LRd where
 f:=fsF
 es m:=by
  rcases fsF_reads m with ⟨h1,_,_,_,h2⟩|⟨s,_,h1,⟨_,_,h2⟩|⟨_,_,h2⟩⟩
  ·exact .inl ⟨h2,h1⟩
  ·exact .inr ⟨.inr h2,h1⟩
  ·exact .inr ⟨.inl h2,h1⟩
 more m X h:=by
  rcases fsF_reads m with ⟨h1,h3,h4,_,h2⟩|⟨s,_,h1,⟨_,_,h2⟩|⟨_,_,h2⟩⟩
  ·have:Reads (m++X) Zb (fsF m).2.1 2:=.inl ⟨by rw [List.length_append];omega,by rw [List.take_append_of_le_length (by omega)];exact h3,by rw [List.take_append_of_le_length (by omega)];exact h4,rfl,rfl⟩
   rw [fsF_is this]
   exact ⟨rfl,rfl⟩
  ·rw [h2] at h;simp at h
  ·rw [h2] at h;simp at h
 far m X h:=by
  have hs:∃ s,says m=some s:=by
   rcases fsF_reads m with ⟨_,_,_,_,h2⟩|⟨s,h1,_⟩
   ·exact absurd h2 h
   ·exact ⟨s,h1⟩
  obtain ⟨s,hs⟩:=hs
  rcases fsF_reads (m++X) with ⟨h1,h3,h4,_,h2⟩|⟨s',_,h1,_⟩
  ·rcases Nat.lt_or_ge (fsF (m++X)).2.1 m.length with hl|hl
   ·obtain ⟨s',hs'⟩:=says_pre (X:=X) hs (show (fsF (m++X)).2.1+1≤m.length from hl)
    rw [hs'] at h4;cases h4
   ·exact hl
  ·rw [h1,List.length_append];omega
theorem RAll.none {t:List UInt8} {n:Nat} {r:RS} {h:n<t.length} (h1:rfeed r0 (t.take n)=some r) (h2:rst t[n] r=none):rfeed r0 (t.take (n+1))=none:=by
 rw [rfeed_take _ _ _ h,h1];exact h2
theorem RAll.uniq {t:List UInt8} {B B':List Int} {n n':Nat} {e e':Int} (h:RAll t B n e) (h':RAll t B' n' e'):B=B'∧n=n'∧e=e':=by
 rcases h with ⟨h1,r,h2,h3,rfl,rfl⟩|⟨r,h1,rfl,h2⟩ <;> rcases h' with ⟨k1,r',k2,k3,rfl,rfl⟩|⟨r',k1,rfl,k2⟩
 ·refine ⟨rfl,?_,rfl⟩
  rcases Nat.lt_trichotomy n n' with hl|hl|hl
  ·obtain ⟨y,hy⟩:=rfeed_some k2 (show n+1≤n' from hl)
   rw [RAll.none h2 h3] at hy;cases hy
  ·exact hl
  ·obtain ⟨y,hy⟩:=rfeed_some h2 (show n'+1≤n from hl)
   rw [RAll.none k2 k3] at hy;cases hy
 ·obtain ⟨y,hy⟩:=rfeed_some (l:=t) (m:=t.length) (by rw [List.take_length];exact k1) (show n+1≤t.length from h1)
  rw [RAll.none h2 h3] at hy;cases hy
 ·obtain ⟨y,hy⟩:=rfeed_some (l:=t) (m:=t.length) (by rw [List.take_length];exact h1) (show n'+1≤t.length from k1)
  rw [RAll.none k2 k3] at hy;cases hy
 ·rw [h1] at k1;cases k1
  rcases h2 with ⟨a,rfl,rfl⟩|⟨a,rfl,rfl⟩ <;> rcases k2 with ⟨b,rfl,rfl⟩|⟨b,rfl,rfl⟩
  ·exact ⟨rfl,rfl,rfl⟩
  ·rw [a] at b;cases b
  ·rw [a] at b;cases b
  ·exact ⟨rfl,rfl,rfl⟩
theorem rl_ex (m:List UInt8):∃ x:List Int × Nat × Int,RAll m x.1 x.2.1 x.2.2:=by
 cases h:rfeed r0 m with
 | none =>
  obtain ⟨n,_,h2,⟨s,h3⟩,h4⟩:=stop_ex (rfeed r0) m (by rw [rfeed_nil];rfl) m.length (by rw [List.take_length];exact h)
  refine ⟨(Zb,n,2),.inl ⟨h2,s,h3,?_,rfl,rfl⟩⟩
  rw [rfeed_take _ _ _ h2,h3] at h4
  exact h4
 | some s =>
  cases he:s.ends with
  | false=>exact ⟨(Zb,m.length,1),.inr ⟨s,h,rfl,.inl ⟨he,rfl,rfl⟩⟩⟩
  | true=>exact ⟨(s.B,m.length,0),.inr ⟨s,h,rfl,.inr ⟨he,rfl,rfl⟩⟩⟩
noncomputable def rlF (m:List UInt8):List Int × Nat × Int:=Classical.choose (rl_ex m)
theorem rlF_reads (m:List UInt8):RAll m (rlF m).1 (rlF m).2.1 (rlF m).2.2:=Classical.choose_spec (rl_ex m)
theorem rlF_is {m:List UInt8} {B:List Int} {n:Nat} {e:Int} (h:RAll m B n e):rlF m=(B,n,e):=by
 obtain ⟨h1,h2,h3⟩:=(rlF_reads m).uniq h
 exact Prod.ext h1 (Prod.ext h2 h3)
noncomputable def rlL:LRd where
 f:=rlF
 es m:=by
  rcases rlF_reads m with ⟨h1,_,_,_,_,h2⟩|⟨s,_,h1,⟨_,_,h2⟩|⟨_,_,h2⟩⟩
  ·exact .inl ⟨h2,h1⟩
  ·exact .inr ⟨.inr h2,h1⟩
  ·exact .inr ⟨.inl h2,h1⟩
 more m X h:=by
  rcases rlF_reads m with ⟨h1,r,h3,h4,_,h2⟩|⟨s,_,h1,⟨_,_,h2⟩|⟨_,_,h2⟩⟩
  ·have:RAll (m++X) Zb (rlF m).2.1 2:=.inl ⟨by rw [List.length_append];omega,r,by rw [List.take_append_of_le_length (by omega)];exact h3,by rw [List.getElem_append_left h1];exact h4,rfl,rfl⟩
   rw [rlF_is this]
   exact ⟨rfl,rfl⟩
  ·rw [h2] at h;simp at h
  ·rw [h2] at h;simp at h
 far m X h:=by
  have hs:∃ s,rfeed r0 m=some s:=by
   rcases rlF_reads m with ⟨_,_,_,_,_,h2⟩|⟨s,h1,_⟩
   ·exact absurd h2 h
   ·exact ⟨s,h1⟩
  obtain ⟨s,hs⟩:=hs
  rcases rlF_reads (m++X) with ⟨h1,r,h3,h4,_,h2⟩|⟨s',_,h1,_⟩
  ·rcases Nat.lt_or_ge (rlF (m++X)).2.1 m.length with hl|hl
   ·obtain ⟨s',hs'⟩:=rfeed_some (l:=m) (m:=m.length) (by rw [List.take_length];exact hs) (show (rlF (m++X)).2.1+1≤m.length from hl)
    have:=RAll.none h3 h4
    rw [List.take_append_of_le_length (by omega),hs'] at this;cases this
   ·exact hl
  ·rw [h1,List.length_append];omega
theorem fs_brd (m:List UInt8):Brd (fsF m).1:=(fsF_reads m).brd
theorem rl_brd (m:List UInt8):Brd (rlF m).1:=by
 rcases rlF_reads m with ⟨_,_,_,_,h,_⟩|⟨s,hs,_,⟨_,h,_⟩|⟨_,h,_⟩⟩
 ·rw [h];exact Zb_brd
 ·rw [h];exact Zb_brd
 ·rw [h];exact (rfeed_inv r0_inv hs).brd
theorem fs_read (t:ByteArray) (ht:t.size≤1000) (w:World):Calls Tryz.prog 74 #[.string t] w fun e w'=>e=.returned (.tuple #[.agg (cl (fsF (bs t)).1).toArray,.int .i64 (fsF (bs t)).2.1,.int .i64 (fsF (bs t)).2.2])∧Kept w w':=by
 refine (read_is t ht w).mono ?_
 rintro e w' ⟨B,n,x,rfl,hR,k⟩
 rw [fsF_is (show Reads (bs t) B n x from hR)]
 exact ⟨rfl,k⟩
theorem rl_read (t:ByteArray) (ht:t.size≤1000) (w:World):Calls Tryz.prog 75 #[.string t] w fun e w'=>e=.returned (.tuple #[.agg (cl (rlF (bs t)).1).toArray,.int .i64 (rlF (bs t)).2.1,.int .i64 (rlF (bs t)).2.2])∧Kept w w' :=
 rollall_is t (by omega) _ _ _ (rlF_reads (bs t)) w
theorem line_bs {t:ByteArray} {i:Nat} (h:i≤t.size):bs (lnT t i)=((bs t).drop i).take (lnF ((bs t).drop i)):=by
 unfold lnT
 rw [if_pos (inB_at h),Int.toNat_natCast,bs_extract,List.drop_take]
 congr 1
 omega
theorem line_small {t:ByteArray} (ht:t.size≤1000) (i:Nat) (h:i≤t.size):(lnT t i).size≤1000:=by
 rw [← bs_len,line_bs h,List.length_take,List.length_drop,bs_len];omega
theorem wpList_store_new {ops:Array Oper} {rest:List Oper} {o:Oper} {a:Act} {w:World} {Q:Exit→Act→World→Prop} (hgd:o.guard=none) (x y:Operand) (ho:o.op=.store 24 x y)
  (A B:List Int) (hA:A.length=64) (hB:B.length=64) (hx:a.eval x=.pointer (some ⟨w.heap.size,0,none⟩)) (hy:a.eval y=.agg (cl B).toArray)
  (h:wpList Tryz.prog ops Q rest (a.put o.dst undef) (w.alloc (.cells (cl B).toArray 24))):wpList Tryz.prog ops Q (o::rest) a (w.alloc (.cells (cl A).toArray 24)):=by
 refine wpList_store_row hgd 24 x y ho w.heap.size (cl B).toArray hx hy 24 _ (heap_alloc_new w _) (size_cl hB) (by rw [cl_size _ hA,cl_size _ hB]) (cl_one _) ?_
 rw [World.setRow_alloc_new]
 exact h
set_option maxHeartbeats 16000000

def fsT:ByteArray:=⟨#[102,111,114,115,121,116,104,32]⟩
def pcT:ByteArray:=⟨#[112,105,101,99,101,115,32]⟩
def rwT (i:Nat):ByteArray:=match i with|0=>fsT|_=>pcT
theorem rwT_W:(fun i=>bs (rwT i))=rowW:=by funext i;match i with|0=>rfl|_+1=>rfl
theorem rw_small:∀ (j:Nat) (x:ByteArray),[fsT,pcT][j]?=some x→x.size≤1000:=by
 intro j x hx
 have:=List.mem_of_getElem? hx
 simp only [List.mem_cons,List.not_mem_nil,or_false] at this
 rcases this with rfl|rfl <;> decide
theorem ls_rw {w:World} {g:Nat} (hg:w.heap[g]?=some (.cells #[.string fsT,.string pcT] 9 (0,0))):LsT w (.slice (some ⟨g,0,none⟩) 2 2) [fsT,pcT]:=by
 refine .inr ⟨g,0,2,rfl,lt_of_heap hg,by simp,fun j x hx=>?_⟩
 rw [Nat.zero_add,cell_of_row _ _ _ _ _ (0,0) hg]
 match j,hx with
 | 0,hx=>simpa using hx
 | 1,hx=>simpa using hx
theorem lnz_2 {F:LRd} {M:List UInt8} {B:List Int} {n:Nat} {e:Int} (hF:F.f (M.take (lnF M))=(B,n,e)) (h:e=2):lnz F M=⟨n,[],2⟩:=by unfold lnz;rw [hF,if_pos h]
theorem lnz_1 {F:LRd} {M:List UInt8} {B:List Int} {n:Nat} {e:Int} (hF:F.f (M.take (lnF M))=(B,n,e)) (h:e≠2) (hl:¬ lnF M<M.length):lnz F M=⟨M.length,[],1⟩:=by
 unfold lnz;rw [hF,if_neg h,if_pos (by have:=lnF_le M;omega)]
theorem lnz_0 {F:LRd} {M:List UInt8} {B:List Int} {n:Nat} {e:Int} (hF:F.f (M.take (lnF M))=(B,n,e)) (h:e=0) (hl:lnF M<M.length):lnz F M=⟨lnF M+1,B,0⟩:=by
 unfold lnz;rw [hF,if_neg (by simp [h]),if_neg (by omega),if_pos h]
theorem lnz_3 {F:LRd} {M:List UInt8} {B:List Int} {n:Nat} {e:Int} (hF:F.f (M.take (lnF M))=(B,n,e)) (h:e≠2) (h0:e≠0) (hl:lnF M<M.length):lnz F M=⟨n,[],2⟩:=by
 unfold lnz;rw [hF,if_neg h,if_neg (by omega),if_neg h0]
def BdR (g:Nat) (K:Tk) (j:Nat) (r:Pz (List Int)) (w w':World) (x:Sp):Prop :=
 x.a=((j+r.n:Nat):Int)∧x.e=r.e∧(∃ K',KAt w' g K'∧(r.e=0→K'={ K with B:=r.v }))∧KeptB g w w'
theorem diagram_is (g:Nat) (t:ByteArray) (j:Nat) (ht:t.size≤1000) (hj:j≤t.size) (K:Tk) (w:World) (hK:KAt w g K) :
  Calls Tryz.prog 35 #[.pointer (some ⟨g,0,none⟩),.string t,.int .i64 j] w fun e w'=>∃ x,e=.returned (sv x)∧BdR g K j (dgz fsL rlL ((bs t).drop j)) w w' x:=by
 have HGL:=Qh (lt_of_heap hK.at_)
 have HS:=Qh (SAt.new w Zs)
 have HKA:=Qh (hK.heap ((Kept.refl w).alloc (.cells (sl Zs).toArray 64)))
 have HKB:=Qh ((Kept.refl w).alloc (.cells (sl Zs).toArray 64))
 have ho:=one_in hj (n:=2) (by omega) (T:=rwT) (by rw [rwT_W];exact row_ap)
 rw [rwT_W] at ho
 have hoT:oneP t [fsT,pcT] j=oneP t ((List.range 2).map rwT) j:=rfl
 rw [← hoT] at ho
 have HO:=Qh (fun v w hv=>oneOf_is t j [fsT,pcT] v w hv ht (by decide) rw_small)
 have hdg:dgz fsL rlL ((bs t).drop j)=andz (chz (List.range 2) rowW) [] (fun i=>lnz (if i=1 then rlL else fsL)) ((bs t).drop j):=rfl
 generalize hQ:chz (List.range 2) rowW ((bs t).drop j)=q at *
 generalize oneP t [fsT,pcT] j=o at *
 clear hK hoT
 by_cases hq:q.e=0
 ·have hdg2:dgz fsL rlL ((bs t).drop j)=⟨q.n+(lnz (if q.v=1 then rlL else fsL) ((bs t).drop (j+q.n))).n,(lnz (if q.v=1 then rlL else fsL) ((bs t).drop (j+q.n))).v,(lnz (if q.v=1 then rlL else fsL) ((bs t).drop (j+q.n))).e⟩:=by
   rw [hdg,andz_ok (by rw [hQ];exact hq),hQ,List.drop_drop]
  obtain ⟨c1,_,_⟩:=chz_ok (L:=List.range 2) (W:=rowW) (M:=(bs t).drop j) (by rw [hQ];exact hq)
  rw [hQ] at c1
  have hn4:j+q.n≤t.size:=by
   have h1:=(chz_gd row_ap).le ((bs t).drop j)
   rw [show chz [0,1] rowW ((bs t).drop j)=q from hQ] at h1
   have:=rest_len hj
   omega
  have hm4:=rest_len hn4
  have hlb:=line_bs hn4
  have hls:=line_small ht (j+q.n) hn4
  have HLN:=Qh (fun w=>lline_is t ((j+q.n:Nat):Int) ht w)
  have hlnS:lnS t ((j+q.n:Nat):Int)=if lnF ((bs t).drop (j+q.n))<((bs t).drop (j+q.n)).length then ⟨((j+q.n+lnF ((bs t).drop (j+q.n))+1:Nat):Int),0,0⟩ else ⟨(t.size:Int),0,1⟩:=by
   unfold lnS
   rw [if_pos (inB_at hn4),Int.toNat_natCast]
   split <;> simp
  have hoe:o.e=0:=by rw [ho];exact hq
  have hoa:o.a=((j+q.n:Nat):Int):=by rw [ho]
  have hon:o.n=(q.v:Nat):=by rw [ho]
  have HF0:=Qh (fun w=>fs_read (lnT t ((j+q.n:Nat):Int)) hls w)
  have HF1:=Qh (fun w=>rl_read (lnT t ((j+q.n:Nat):Int)) hls w)
  rw [hlb] at HF0 HF1
  generalize lnT t ((j+q.n:Nat):Int)=T at *
  generalize hx4:lnS t ((j+q.n:Nat):Int)=x4 at *
  have hv:q.v=0∨q.v=1:=by have:=List.mem_range.1 c1;omega
  have HOA:=Qh hoa
  have HX4:=Qh hlnS
  have HM4:=Qh hm4
  have HN4:=Qh hn4
  generalize hM:(bs t).drop (j+q.n)=M at *
  generalize hTz:t.size=tz at *
  clear hdg ho hQ c1 hlb hls hlnS hx4 hm4 hn4 hq hM
  have hTz2:tz≤1000:=ht
  generalize hqa:j+q.n=jq at *
  have hjq:jq≤tz:=HN4.out
  go_enter Tryz.func35,Tryz.ntmps35
  go_upto_region 1 with (with_reducible refine wpList_new_sp rfl rfl ?_)
  generalize w.alloc (.cells (sl Zs).toArray 64)=W at *
  have H1:=Qh (heap_alloc_new W (.cells #[.string fsT,.string pcT] 9))
  have K1:=Qh ((Kept.refl W).alloc (.cells #[.string fsT,.string pcT] 9))
  go_wp2_with (refine wpList_bslice_2 rfl fsT pcT rfl (by kernel_rfl) ?_)
  generalize W.alloc (.cells #[.string fsT,.string pcT] 9)=W1 at *
  generalize W.heap.size=g1 at *
  refine (HO.out _ _ (ls_rw H1.out)).mono ?_
  rintro e w3 ⟨rfl,k3⟩
  have A3:=Qh ((HKB.out.trans (K1.out.trans k3)).alloc (.cells (sl o).toArray 64))
  have B3:=Qh (HKA.out.heap ((K1.out.trans k3).alloc (.cells (sl o).toArray 64)))
  have R3:=Qh (HS.out.kept ((K1.out.trans k3).alloc (.cells (sl o).toArray 64)))
  have X3:=Qh (SAt.new w3 o)
  have c3:=X3.out.err
  have cn3:=X3.out.num
  have ca3:=X3.out.place
  rw [hoe] at c3
  rw [hon] at cn3
  rw [hoa] at ca3
  clear k3 hoe hon hoa
  go_upto_region 2 with (first|(with_reducible refine wpList_new_sp rfl rfl ?_)|((with_reducible refine wpList_store_newsp rfl _ _ rfl Zs o ?_ ?_ ?_);exact rfl;exact rfl))
  generalize w3.alloc (.cells (sl o).toArray 64)=W3 at *
  generalize w3.heap.size=g9 at *
  obtain ⟨F,hFd⟩:∃ F,F=(if q.v=1 then rlL else fsL):=⟨_,rfl⟩
  have HFD:=Qh hFd
  have HDG:=Qh hdg2
  rw [← hFd] at HDG
  clear hdg2
  rcases hv with hv|hv
  all_goals
   first
    | (
      have hh:fsF (M.take (lnF M))=F.f (M.take (lnF M)):=by rw [hFd,hv];rfl
      rw [hh] at HF0
      have HBr:Hid ((F.f (M.take (lnF M))).1.length=64):=Qh (by rw [← hh];exact (fs_brd _).1)
      clear hh)
    | (
      have hh:rlF (M.take (lnF M))=F.f (M.take (lnF M)):=by rw [hFd,hv];rfl
      rw [hh] at HF1
      have HBr:Hid ((F.f (M.take (lnF M))).1.length=64):=Qh (by rw [← hh];exact (rl_brd _).1)
      clear hh)
   have hes:=F.es (M.take (lnF M))
   rw [take_le] at hes
   clear hFd
   generalize hz:F.f (M.take (lnF M))=z at *
   obtain ⟨B,n,er⟩:=z
   have HZ:=Qh hz
   have hn2:n≤1000:=by have:=lnF_le M;have:=HM4.out;dsimp only at hes;omega
   dsimp only at HF0 HF1 HBr
   clear hz hes
   rw [hv] at cn3
   go_wp2_with fail
   refine (HLN.out _).mono ?_
   rintro e w4 ⟨rfl,k4⟩
   dsimp only
   have A4:=Qh ((A3.out.trans k4).alloc (.cells (sl x4).toArray 64))
   have B4:=Qh ((B3.out.heap k4).heap ((Kept.refl w4).alloc (.cells (sl x4).toArray 64)))
   have R4:=Qh ((R3.out.kept k4).kept ((Kept.refl w4).alloc (.cells (sl x4).toArray 64)))
   have X4:=Qh (SAt.new w4 x4)
   have ca4:=kept_cell (k4.alloc (.cells (sl x4).toArray 64)) ca3
   clear k4
   go_upto_region 8 with (first|(with_reducible refine wpList_new_sp rfl rfl ?_)|((with_reducible refine wpList_store_newsp rfl _ _ rfl Zs x4 ?_ ?_ ?_);exact rfl;exact rfl))
   generalize w4.alloc (.cells (sl x4).toArray 64)=W4 at *
   generalize w4.heap.size=g10 at *
   clear ca3 cn3 c3
   go_wp2_with fail
   first|refine (HF0.out _).mono ?_|refine (HF1.out _).mono ?_
   rintro e w5 ⟨rfl,k5⟩
   dsimp only
   have A6:=Qh ((A4.out.trans k5).alloc (.cells (cl B).toArray 24))
   have B6:=Qh ((B4.out.heap k5).heap ((Kept.refl w5).alloc (.cells (cl B).toArray 24)))
   have R6:=Qh ((R4.out.kept k5).kept ((Kept.refl w5).alloc (.cells (cl B).toArray 24)))
   have X6:=Qh ((X4.out.kept k5).kept ((Kept.refl w5).alloc (.cells (cl B).toArray 24)))
   have ca6:=kept_cell (k5.alloc (.cells (cl B).toArray 24)) ca4
   have HB6:=Qh (heap_alloc_new w5 (.cells (cl B).toArray 24))
   clear k5 ca4
   go_upto_region 9 with (first|(with_reducible refine wpList_new_b rfl rfl ?_)|(refine wpList_store_new rfl _ _ rfl Zb B Zb_brd.1 HBr.out rfl rfl ?_))
   generalize w5.alloc (.cells (cl B).toArray 24)=W6 at *
   generalize w5.heap.size=g11 at *
   by_cases h2:er=2
   ·have hb2:(er == 2)=true:=beq_iff_eq.2 h2
    have hRes:Hid (dgz fsL rlL ((bs t).drop j)=⟨q.n+n,[],2⟩):=Qh (by rw [HDG.out,lnz_2 HZ.out h2])
    have H2:=Qh h2
    clear h2
    go_wp2_with (first|(refine wpList_bt_se rfl _ _ rfl ((jq:Int)+n) er rfl rfl ?_)|((with_reducible refine wpList_store_sp rfl _ _ rfl w.heap.size Zs ⟨(jq:Int)+n,0,er⟩ R6.out ?_ ?_ ?_);exact rfl;exact rfl))
    refine bodyPost_ret (v:=sv ⟨(jq:Int)+n,0,er⟩) ?_ rfl ⟨_,rfl,by rw [hRes.out];dsimp only;omega,by rw [hRes.out];exact H2.out,⟨K,B6.out.other ((KeptB.refl w.heap.size _).row _) (by have:=HGL.out;omega),fun c=>by rw [hRes.out] at c;simp at c⟩,(KeptB.of A6.out).rowNew (Nat.le_refl _) _⟩
    exact (ret_sp rfl R6.out rfl).trans rfl
   ·have hb2:(er == 2)=false:=beq_eq_false_iff_ne.2 h2
    have H2:=Qh h2
    clear h2
    by_cases hf:lnF M<M.length
    ·have hx4:x4=⟨((jq+lnF M+1:Nat):Int),0,0⟩:=by rw [HX4.out,if_pos hf]
     have ce6:=X6.out.err
     rw [show x4.e=0 by rw [hx4]] at ce6
     have HXX:=Qh hx4
     clear hx4
     by_cases h0:er=0
     ·have hb0:(er != 0)=false:=by rw [h0];rfl
      have hRes:Hid (dgz fsL rlL ((bs t).drop j)=⟨q.n+(lnF M+1),B,0⟩):=Qh (by rw [HDG.out,lnz_0 HZ.out h0 hf])
      have hth:=Qh (show W6.there g 0 (cl B).toArray.size by rw [cl_size _ HBr.out];exact B6.out.thereAt 0 64 (by omega))
      have B7:=Qh (B6.out.setBoard B HBr.out)
      have KB7:=Qh (KeptB.setCells (cl B).toArray.toList W6 0 (KeptB.refl g W6))
      have R7:=Qh (R6.out.otherB KB7.out (by have:=HGL.out;omega))
      have X7:=Qh (X6.out.otherB KB7.out (B6.out.neS X6.out))
      have A7:=Qh ((KeptB.of (g:=g) A6.out).trans KB7.out)
      clear h0
      go_wp2_with (first|(refine wpList_load_w (by rfl) _ rfl g11 rfl B HB6.out (size_cl HBr.out) ?_)|(refine wpList_store_mid rfl 24 _ _ rfl g 0 (cl B).toArray rfl rfl hth.out (size_cl HBr.out) (cl_one _) ?_)|((with_reducible refine wpList_load_sp rfl _ rfl g10 0 ?_ x4 X7.out.range ?_);exact rfl)|((with_reducible refine wpList_store_sp rfl _ _ rfl w.heap.size Zs x4 R7.out ?_ ?_ ?_);exact rfl;exact rfl))
      refine bodyPost_ret (v:=sv x4) ?_ rfl ⟨_,rfl,by rw [hRes.out,HXX.out];dsimp only;omega,by rw [hRes.out,HXX.out],⟨_,B7.out.other ((KeptB.refl w.heap.size _).row _) (by have:=HGL.out;omega),fun c=>by rw [hRes.out]⟩,A7.out.rowNew (Nat.le_refl _) _⟩
      exact (ret_sp rfl R7.out rfl).trans rfl
     ·have hb0:(er != 0)=true:=bne_iff_ne.2 h0
      have hRes:Hid (dgz fsL rlL ((bs t).drop j)=⟨q.n+n,[],2⟩):=Qh (by rw [HDG.out,lnz_3 HZ.out H2.out h0 hf])
      clear h0
      go_wp2_with (first|(refine wpList_bt_se rfl _ _ rfl ((jq:Int)+n) 2 rfl rfl ?_)|((with_reducible refine wpList_store_sp rfl _ _ rfl w.heap.size Zs ⟨(jq:Int)+n,0,2⟩ R6.out ?_ ?_ ?_);exact rfl;exact rfl))
      refine bodyPost_ret (v:=sv ⟨(jq:Int)+n,0,2⟩) ?_ rfl ⟨_,rfl,by rw [hRes.out];dsimp only;omega,by rw [hRes.out],⟨K,B6.out.other ((KeptB.refl w.heap.size _).row _) (by have:=HGL.out;omega),fun c=>by rw [hRes.out] at c;simp at c⟩,(KeptB.of A6.out).rowNew (Nat.le_refl _) _⟩
      exact (ret_sp rfl R6.out rfl).trans rfl
    ·have hx4:x4=⟨(tz:Int),0,1⟩:=by rw [HX4.out,if_neg hf]
     have ce6:=X6.out.err
     rw [show x4.e=1 by rw [hx4]] at ce6
     have hRes:Hid (dgz fsL rlL ((bs t).drop j)=⟨q.n+M.length,[],1⟩):=Qh (by rw [HDG.out,lnz_1 HZ.out H2.out hf])
     have HXX:=Qh hx4
     clear hx4
     go_wp2_with (first|((with_reducible refine wpList_load_sp rfl _ rfl g10 0 ?_ x4 X6.out.range ?_);exact rfl)|((with_reducible refine wpList_store_sp rfl _ _ rfl w.heap.size Zs x4 R6.out ?_ ?_ ?_);exact rfl;exact rfl))
     refine bodyPost_ret (v:=sv x4) ?_ rfl ⟨_,rfl,by rw [hRes.out,HXX.out];have:=HM4.out;dsimp only;omega,by rw [hRes.out,HXX.out],⟨K,B6.out.other ((KeptB.refl w.heap.size _).row _) (by have:=HGL.out;omega),fun c=>by rw [hRes.out] at c;simp at c⟩,(KeptB.of A6.out).rowNew (Nat.le_refl _) _⟩
     exact (ret_sp rfl R6.out rfl).trans rfl
 ·have hRes:Hid (dgz fsL rlL ((bs t).drop j)=⟨q.n,[],q.e⟩):=Qh (by rw [hdg,andz_no (by rw [hQ];exact hq),hQ])
  have hoe:(o.e != 0)=true:=by rw [ho];exact bne_iff_ne.2 hq
  have hoa:Hid (o.a=((j+q.n:Nat):Int)∧o.e=q.e):=Qh (by rw [ho];exact ⟨rfl,rfl⟩)
  clear hdg ho hQ
  go_enter Tryz.func35,Tryz.ntmps35
  go_upto_region 1 with (with_reducible refine wpList_new_sp rfl rfl ?_)
  generalize w.alloc (.cells (sl Zs).toArray 64)=W at *
  have H1:=Qh (heap_alloc_new W (.cells #[.string fsT,.string pcT] 9))
  have K1:=Qh ((Kept.refl W).alloc (.cells #[.string fsT,.string pcT] 9))
  go_wp2_with (refine wpList_bslice_2 rfl fsT pcT rfl (by kernel_rfl) ?_)
  generalize W.alloc (.cells #[.string fsT,.string pcT] 9)=W1 at *
  generalize W.heap.size=g1 at *
  refine (HO.out _ _ (ls_rw H1.out)).mono ?_
  rintro e w3 ⟨rfl,k3⟩
  have A3:=Qh ((HKB.out.trans (K1.out.trans k3)).alloc (.cells (sl o).toArray 64))
  have B3:=Qh (HKA.out.heap ((K1.out.trans k3).alloc (.cells (sl o).toArray 64)))
  have R3:=Qh (HS.out.kept ((K1.out.trans k3).alloc (.cells (sl o).toArray 64)))
  have X3:=Qh (SAt.new w3 o)
  have c3:=X3.out.err
  clear k3
  go_upto_region 2 with (first|(with_reducible refine wpList_new_sp rfl rfl ?_)|((with_reducible refine wpList_store_newsp rfl _ _ rfl Zs o ?_ ?_ ?_);exact rfl;exact rfl))
  generalize w3.alloc (.cells (sl o).toArray 64)=W3 at *
  generalize w3.heap.size=g9 at *
  go_wp2_with (first|((with_reducible refine wpList_load_sp rfl _ rfl g9 0 ?_ o X3.out.range ?_);exact rfl)|((with_reducible refine wpList_store_sp rfl _ _ rfl w.heap.size Zs o R3.out ?_ ?_ ?_);exact rfl;exact rfl))
  refine bodyPost_ret (v:=sv o) ?_ rfl ⟨_,rfl,by rw [hRes.out];exact hoa.out.1,by rw [hRes.out];exact hoa.out.2,⟨K,B3.out.other ((KeptB.refl w.heap.size _).row _) (by have:=HGL.out;omega),fun c=>by rw [hRes.out] at c;exact absurd c hq⟩,(KeptB.of A3.out).rowNew (Nat.le_refl _) _⟩
  exact (ret_sp rfl R3.out rfl).trans rfl
end Go.Proofs.YtlbipjmmlobofaaGreatDoor
