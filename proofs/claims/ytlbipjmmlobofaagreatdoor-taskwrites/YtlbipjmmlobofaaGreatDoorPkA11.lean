/- BoM · FoA · FoB · FoC: my texts, in their order. -/
import Derived.Test.YtlbipjmmlobofaaGreatDoorPkA07
import Derived.Test.YtlbipjmmlobofaaGreatDoorPkA10
namespace Go.Proofs.YtlbipjmmlobofaaGreatDoor
open Go.RowKit
set_option linter.unusedVariables false
set_option linter.unusedSimpArgs false
set_option maxRecDepth 100000
theorem results_board_tmp {fn:Func} {p t:Tmp} (h:fn.results=#[.cell p 24,.tmp t]) (tmps:Array Value) (w:World) (g:Nat) (B:List Int) (hB:B.length=64)
  (hp:tmps.getD p undef=.pointer (some ⟨g,0,none⟩)) (hg:w.heap[g]?=some (.cells (cl B).toArray 24 (0,0))) :
  (results fn tmps).run Tryz.prog w=.ok (.tuple #[.agg (cl B).toArray,tmps.getD t undef]) w:=by
 have hp':tmps[p]?.getD undef=.pointer (some ⟨g,0,none⟩):=by simpa using hp
 simp [results,h,hp',asAddr,run_load_cl hB hg]
theorem put_yes (B:List Int) (hB:Brd B) (k:Nat) (m:Int) (hk:k<64) (hm:okB m=true) (w:World) :
  Calls Tryz.prog 165 #[.agg (cl B).toArray,.int .i64 k,.int .i64 m] w fun e w'=>e=.returned (.tuple #[.agg (cl (B.set k m)).toArray,.int .i64 0])∧Kept w w':=by
 have h00:=heap_alloc2_old w (.cells (cl B).toArray 24) (.cells (cl Zb).toArray 24)
 have h01:=heap_alloc2_new w (.cells (cl B).toArray 24) (.cells (cl Zb).toArray 24)
 have hlen:(B.set k m).length=64:=by simpa using hB.1
 have hz:=Qh (size_cl hlen)
 have hc:=cell_cl hB.1 h00 k hk
 have hf:=frozen_of_row _ w.heap.size k _ _ h00
 have hset:=cl_set B k m
 have hg0:=Qh (heap_alloc2_old w (.cells (cl (B.set k m)).toArray 24) (.cells (cl Zb).toArray 24))
 have hg1:=Qh (heap_alloc2_new w (.cells (cl (B.set k m)).toArray 24) (.cells (cl Zb).toArray 24))
 have hK:=Qh ((((Kept.refl w).alloc (.cells (cl (B.set k m)).toArray 24)).alloc (.cells (cl Zb).toArray 24)).setRow (g:=w.heap.size+1) (by omega) (cl (B.set k m)).toArray)
 have hlen':=Qh hlen
 generalize B.getD k 0=y at hc
 clear h00 h01 hlen hB
 by_cases h0:(m != 0)=true
 ·have hmm:manB m=true:=by
   unfold okB at hm
   have:(m == 0)=false:=by simpa using h0
   simpa [this] using hm
  have hbd:=(manB_iff m).1 hmm
  obtain ⟨_,hbl,hbh⟩:=hbd
  have hwr:IntKind.i8.wrap m=m:=by
   have:m=-6∨m=-5∨m=-4∨m=-3∨m=-2∨m=-1∨m=0∨m=1∨m=2∨m=3∨m=4∨m=5∨m=6:=by omega
   rcases this with rfl|rfl|rfl|rfl|rfl|rfl|rfl|rfl|rfl|rfl|rfl|rfl|rfl <;> decide
  clear hm
  go_enter Tryz.func165,Tryz.ntmps165
  go_wp2_with (first|(with_reducible refine wpList_new_b rfl rfl ?_))
  refine (right_yes _ _ (by omega) (by omega)).mono ?_
  rintro e w' ⟨rfl,rfl⟩
  go_wp2_with fail
  refine (mright_any _ _).mono ?_
  rintro e w' ⟨rfl,rfl⟩
  go_wp2_with (first|(refine wpList_load_w (by rfl) _ rfl _ rfl _ hg0.out hz.out ?_)|(refine wpList_store_row rfl 24 _ _ rfl (w.heap.size+1) (cl (B.set k m)).toArray rfl rfl 24 _ hg1.out hz.out (by rw [cl_size _ hlen'.out];rfl) (cl_one _) ?_))
  refine bodyPost_ret (v:=.tuple #[.agg (cl (B.set k m)).toArray,.int .i64 0]) ?_ rfl ⟨rfl,hK.out⟩
  exact (results_board_tmp (p:=6) (t:=7) rfl _ _ (w.heap.size+1) _ hlen'.out rfl (setRow_heap _ _ _ _ _ _ hg1.out)).trans rfl
 ·have h0':(m != 0)=false:=by simpa using h0
  obtain rfl:m=0:=by simpa using h0'
  clear h0 h0' hm
  go_enter Tryz.func165,Tryz.ntmps165
  go_wp2_with (first|(with_reducible refine wpList_new_b rfl rfl ?_))
  refine (right_yes _ _ (by omega) (by omega)).mono ?_
  rintro e w' ⟨rfl,rfl⟩
  go_wp2_with (first|(refine wpList_load_w (by rfl) _ rfl _ rfl _ hg0.out hz.out ?_)|(refine wpList_store_row rfl 24 _ _ rfl (w.heap.size+1) (cl (B.set k 0)).toArray rfl rfl 24 _ hg1.out hz.out (by rw [cl_size _ hlen'.out];rfl) (cl_one _) ?_))
  refine bodyPost_ret (v:=.tuple #[.agg (cl (B.set k 0)).toArray,.int .i64 0]) ?_ rfl ⟨rfl,hK.out⟩
  exact (results_board_tmp (p:=6) (t:=7) rfl _ _ (w.heap.size+1) _ hlen'.out rfl (setRow_heap _ _ _ _ _ _ hg1.out)).trans rfl
abbrev St:=List Int × Nat × Nat
def manOf (c:UInt8):Int:=ofT ⟨#[c]⟩
def stp (c:UInt8) (s:St):Option St :=
 if c.toNat=47 then (if s.2.2=8∧s.2.1≠7 then some (s.1,s.2.1+1,0) else none)
 else if 49≤c.toNat∧c.toNat≤56 then (if s.2.2+(c.toNat-48)≤8 then some (s.1++List.replicate (c.toNat-48) 0,s.2.1,s.2.2+(c.toNat-48)) else none)
 else if manOf c=0 then none
 else if s.2.2<8 then some (s.1++[manOf c],s.2.1,s.2.2+1) else none
def says (l:List UInt8):Option St:=l.foldl (fun o c=>o.bind (stp c)) (some ([],0,0))
theorem says_nil:says []=some ([],0,0):=rfl
theorem says_snoc (l:List UInt8) (c:UInt8):says (l++[c])=(says l).bind (stp c):=by simp [says]
theorem says_take (l:List UInt8) (n:Nat) (h:n<l.length):says (l.take (n+1))=(says (l.take n)).bind (stp l[n]):=by
 rw [List.take_add_one,List.getElem?_eq_getElem h]
 exact says_snoc _ _
theorem says_none {a:List UInt8} (b:List UInt8) (h:says a=none):says (a++b)=none:=by
 unfold says at h ⊢
 rw [List.foldl_append,h]
 induction b with
 | nil=>rfl
 | cons x b ih=>exact ih
theorem says_some {a b:List UInt8} {s:St} (h:says (a++b)=some s):∃ s',says a=some s':=by
 cases e:says a with
 | none=>rw [says_none b e] at h;cases h
 | some s'=>exact ⟨s',rfl⟩
theorem manOf_man (c:UInt8) (h:manOf c≠0):∃ n,n<12∧(⟨#[c]⟩:ByteArray)=lettN n∧manOf c=inOrd n:=by
 obtain ⟨n,hn,hx⟩:=ofT_inv _ h
 rcases hx with hx|hx
 ·exact ⟨n,hn,hx,by unfold manOf;rw [hx,ofT_letter n hn]⟩
 ·have:=congrArg ByteArray.size hx
  simp [signN,ByteArray.size] at this
theorem manOf_bd (c:UInt8):-6≤manOf c∧manOf c≤6:=by
 by_cases h:manOf c=0
 ·omega
 ·obtain ⟨n,hn,_,e⟩:=manOf_man c h
  rw [e];exact (inOrd_man n hn).2
structure Inv (s:St):Prop where
 len:s.1.length=8*s.2.1+s.2.2
 row:s.2.2≤8
 rows:s.2.1≤7
 men:∀ x ∈ s.1,-6≤x∧x≤6
theorem stp_inv {c:UInt8} {s s':St} (h:stp c s=some s') (hi:Inv s):Inv s':=by
 unfold stp at h
 obtain ⟨h1,h2,h3,h4⟩:=hi
 repeat' split at h
 all_goals simp only [reduceCtorEq,Option.some.injEq] at h
 all_goals subst h
 ·exact ⟨by simp;omega,by simp,by simp;omega,h4⟩
 ·refine ⟨by simp;omega,by simp;omega,h3,fun x hx=>?_⟩
  rcases List.mem_append.1 hx with hx|hx
  ·exact h4 x hx
  ·rw [(List.mem_replicate.1 hx).2];omega
 ·refine ⟨by simp;omega,by simp;omega,h3,fun x hx=>?_⟩
  rcases List.mem_append.1 hx with hx|hx
  ·exact h4 x hx
  ·rw [List.mem_singleton.1 hx];exact manOf_bd c
theorem says_inv_aux (l:List UInt8):∀ (o:Option St),(∀ s,o=some s→Inv s)→∀ s,l.foldl (fun o c=>o.bind (stp c)) o=some s→Inv s:=by
 induction l with
 | nil=>intro o h s e;exact h s e
 | cons c l ih =>
  intro o h s e
  refine ih (o.bind (stp c)) (fun s' e'=>?_) s e
  cases o with
  | none=>simp at e'
  | some s0=>exact stp_inv e' (h s0 rfl)
theorem says_inv {l:List UInt8} {s:St} (h:says l=some s):Inv s :=
 says_inv_aux l _ (fun s e=>by cases e;exact ⟨rfl,by simp,by simp,by simp⟩) s h
def sw (k:Nat):Nat:=8*(7-k / 8)+k % 8
def bd (S:List Int):List Int:=tab fun k=>S.getD (sw k) 0
theorem bd_length (S:List Int):(bd S).length=64:=tab_length _
theorem bd_brd (S:List Int) (h:∀ x ∈ S,-6≤x∧x≤6):Brd (bd S):=by
 refine tab_brd fun i _=>?_
 rw [List.getD]
 cases e:S[sw i]? with
 | none=>simp
 | some x=>have:=h x (List.mem_of_getElem? e);simp;omega
theorem bd_nil:bd []=Zb:=by decide +kernel
theorem bd_zeros (S:List Int) (d:Nat):bd (S++List.replicate d 0)=bd S:=by
 refine tab_ext fun i _=>?_
 by_cases h:sw i<S.length
 ·rw [List.getD,List.getD,List.getElem?_append_left h]
 ·rw [List.getD,List.getD,List.getElem?_append_right (by omega),List.getElem?_eq_none (show S.length≤sw i by omega),List.getElem?_replicate]
  split <;> rfl
theorem bd_man (S:List Int) (rows row:Nat) (m:Int) (h:S.length=8*rows+row) (h1:row<8) (h2:rows≤7):bd (S++[m])=(bd S).set (8*(7-rows)+row) m:=by
 unfold bd
 rw [tab_set]
 refine tab_ext fun i hi=>?_
 by_cases e:i=8*(7-rows)+row
 ·rw [if_pos e]
  have:sw i=S.length:=by unfold sw;omega
  rw [this]
  simp [List.getD]
 ·rw [if_neg e]
  have:sw i≠S.length:=by unfold sw;omega
  by_cases h':sw i<S.length
  ·rw [List.getD,List.getD,List.getElem?_append_left h']
  ·rw [List.getD,List.getD,List.getElem?_append_right (by omega),List.getElem?_eq_none (show S.length≤sw i by omega),List.getElem?_eq_none (by simp;omega)]
def Reads (t:List UInt8) (B:List Int) (n:Nat) (e:Int):Prop :=
 (n<t.length∧(∃ s,says (t.take n)=some s)∧says (t.take (n+1))=none∧B=Zb∧e=2) ∨
 ∃ s,says t=some s∧n=t.length∧((s.1.length<64∧B=Zb∧e=1)∨(64≤s.1.length∧B=bd s.1∧e=0))
theorem says_le {t:List UInt8} {a b:Nat} (h:a≤b) (hn:says (t.take a)=none):says (t.take b)=none:=by
 have e:t.take b=t.take a++(t.take b).drop a:=by
  have:=List.take_append_drop a (t.take b)
  rw [List.take_take,Nat.min_eq_left h] at this
  exact this.symm
 rw [e];exact says_none _ hn
theorem Reads.uniq {t:List UInt8} {B B':List Int} {n n':Nat} {e e':Int} (h:Reads t B n e) (h':Reads t B' n' e'):B=B'∧n=n'∧e=e':=by
 rcases h with ⟨h1,⟨s,h2⟩,h3,rfl,rfl⟩|⟨s,h1,rfl,h2⟩ <;> rcases h' with ⟨k1,⟨s',k2⟩,k3,rfl,rfl⟩|⟨s',k1,rfl,k2⟩
 ·refine ⟨rfl,?_,rfl⟩
  rcases Nat.lt_trichotomy n n' with hl|hl|hl
  ·rw [says_le hl h3] at k2;cases k2
  ·exact hl
  ·rw [says_le hl k3] at h2;cases h2
 ·have:=says_le (b:=t.length) h1 h3
  rw [List.take_length,k1] at this;cases this
 ·have:=says_le (b:=t.length) k1 k3
  rw [List.take_length,h1] at this;cases this
 ·rw [h1] at k1;cases k1
  rcases h2 with ⟨a,rfl,rfl⟩|⟨a,rfl,rfl⟩ <;> rcases k2 with ⟨b,rfl,rfl⟩|⟨b,rfl,rfl⟩ <;> first|exact ⟨rfl,rfl,rfl⟩|omega
theorem Reads.brd {t:List UInt8} {B:List Int} {n:Nat} {e:Int} (h:Reads t B n e):Brd B:=by
 rcases h with ⟨_,_,_,rfl,_⟩|⟨s,h1,_,⟨_,rfl,_⟩|⟨_,rfl,_⟩⟩
 ·exact Zb_brd
 ·exact Zb_brd
 ·exact bd_brd _ (says_inv h1).men
theorem enc_low (c:UInt8) (h:c.toNat<128):Utf8.encode (c.toNat:Nat)=⟨#[c]⟩:=by
 have:∀ k:Fin 128,Utf8.encode ((k.val:Nat):Int)=⟨#[UInt8.ofNat k.val]⟩:=by decide +kernel
 have:=this ⟨c.toNat,h⟩
 simp only [UInt8.ofNat_toNat] at this
 exact this
theorem enc_high (q:Nat) (h:128≤q):2≤(Utf8.encode (q:Int)).size:=by
 unfold Utf8.encode
 have:¬ (if Utf8.valid (q:Int) then (q:Int).toNat else Utf8.runeError)<128:=by
  split
  ·simp;omega
  ·simp [Utf8.runeError]
 simp only [this,if_false]
 repeat' split
 all_goals simp [ByteArray.size]
theorem manOf_high (c:UInt8) (h:128≤c.toNat):manOf c=0:=by
 refine Classical.byContradiction fun h0=>?_
 obtain ⟨n,hn,e,_⟩:=manOf_man c h0
 have:=runeL_lt n hn
 unfold lettN at e
 have e':=congrArg (fun b:ByteArray=>b.data.toList) e
 simp at e'
 rw [e'] at h
 simp at h
 omega
theorem stp_high (c:UInt8) (s:St) (h:128≤c.toNat):stp c s=none:=by
 unfold stp
 rw [if_neg (by omega),if_neg (by omega),if_pos (manOf_high c h)]
structure KeptB (g:Nat) (w w':World):Prop where
 os:w'.os=w.os
 output:w'.output=w.output
 size:w.heap.size≤w'.heap.size
 block:∀ k,k<w.heap.size→k≠g→w'.heap[k]?=w.heap[k]?
theorem KeptB.of {g:Nat} {w w':World} (h:Kept w w'):KeptB g w w':=⟨h.os,h.output,h.size,fun k hk _=>h.block k hk⟩
theorem KeptB.refl (g:Nat) (w:World):KeptB g w w:=KeptB.of (Kept.refl w)
theorem KeptB.trans {g:Nat} {a b c:World} (h:KeptB g a b) (k:KeptB g b c):KeptB g a c :=
 ⟨k.os.trans h.os,k.output.trans h.output,Nat.le_trans h.size k.size,fun i hi hn=>(k.block i (Nat.lt_of_lt_of_le hi h.size) hn).trans (h.block i hi hn)⟩
theorem KeptB.setCell {g:Nat} {a w:World} (h:KeptB g a w) (k:Nat) (u:Value):KeptB g a (w.setCell ⟨g,k,none⟩ u) :=
 ⟨h.os,h.output,by simpa [World.setCell] using h.size,fun i hi hn=>(Below.heap_setCell w ⟨g,k,none⟩ u i (by exact fun e=>hn e)).trans (h.block i hi hn)⟩
theorem KeptB.setCells {g:Nat} {a:World}:∀ (vs:List Value) (w:World) (k:Nat),KeptB g a w→KeptB g a (w.setCells g k vs)
 | [],w,k,h=>by simpa [World.setCells] using h
 | v::vs,w,k,h=>by rw [World.setCells];exact KeptB.setCells vs _ _ (h.setCell k v)
theorem KeptB.kept {g:Nat} {a w w':World} (k:KeptB g w w') (h:Kept a w) (hg:a.heap.size≤g):Kept a w' :=
 ⟨k.os.trans h.os,k.output.trans h.output,Nat.le_trans h.size k.size,fun i hi=>(k.block i (Nat.lt_of_lt_of_le hi h.size) (by omega)).trans (h.block i hi)⟩
theorem KeptB.heap {g:Nat} {w w':World} (k:KeptB g w w') {j:Nat} {o:Obj} (hj:j≠g) (h:w.heap[j]?=some o):w'.heap[j]?=some o :=
 (k.block j (lt_of_heap h) hj).trans h
theorem heap_setCells (g:Nat) (t:TypeId):∀ (vs old pre post:List Value) (w:World),old.length=vs.length→w.heap[g]?=some (.cells (pre++old++post).toArray t (0,0)) →
  (w.setCells g pre.length vs).heap[g]?=some (.cells (pre++vs++post).toArray t (0,0))
 | [],[],pre,post,w,_,h=>by simpa [World.setCells] using h
 | [],_::_,pre,post,w,hl,_=>by simp at hl
 | _::_,[],pre,post,w,hl,_=>by simp at hl
 | v::vs,o::old,pre,post,w,hl,h=>by
  rw [World.setCells]
  have h1:(w.setCell ⟨g,pre.length,none⟩ v).heap[g]?=some (.cells ((pre++[v])++old++post).toArray t (0,0)):=by
   rw [heap_setCell_same w g pre.length _ t _ h]
   congr 2
   simp
  have:=heap_setCells g t vs old (pre++[v]) post _ (by simpa using hl) h1
  simpa using this
def rc (B:List Int) (f r:Int):List Value:=cl B++[.int .i64 f,.int .i64 r]
structure Rd (w:World) (g:Nat) (B:List Int) (f r:Int):Prop where
 len:B.length=64
 at_:w.heap[g]?=some (.cells (rc B f r).toArray 125 (0,0))
theorem Rd.cell {w:World} {g:Nat} {B:List Int} {f r:Int} (h:Rd w g B f r) (k:Nat):w.cell? ⟨g,k,none⟩=(rc B f r)[k]?:=by
 rw [cell_of_row _ _ k _ _ (0,0) h.at_];simp
theorem Rd.file {w:World} {g:Nat} {B:List Int} {f r:Int} (h:Rd w g B f r):w.cell? ⟨g,64,none⟩=some (.int .i64 f):=by
 rw [h.cell]
 have:=cl_length B
 have:=h.len
 unfold rc
 rw [List.getElem?_append_right (by omega),show 64-(cl B).length=0 by omega];rfl
theorem Rd.rank {w:World} {g:Nat} {B:List Int} {f r:Int} (h:Rd w g B f r):w.cell? ⟨g,65,none⟩=some (.int .i64 r):=by
 rw [h.cell]
 have:=cl_length B
 have:=h.len
 unfold rc
 rw [List.getElem?_append_right (by omega),show 65-(cl B).length=1 by omega];rfl
theorem Rd.frozen {w:World} {g:Nat} {B:List Int} {f r:Int} (h:Rd w g B f r) (k:Nat):w.frozen? ⟨g,k,none⟩=false :=
 frozen_of_row w g k _ _ h.at_
theorem Rd.setFile {w:World} {g:Nat} {B:List Int} {f r:Int} (h:Rd w g B f r) (x:Int):Rd (w.setCell ⟨g,64,none⟩ (.int .i64 x)) g B x r:=by
 refine ⟨h.len,?_⟩
 have hl:(cl B).length=64:=by rw [cl_length,h.len]
 rw [heap_setCell_same w g 64 _ _ _ h.at_]
 congr 2
 simp [rc,hl]
theorem Rd.setRank {w:World} {g:Nat} {B:List Int} {f r:Int} (h:Rd w g B f r) (x:Int):Rd (w.setCell ⟨g,65,none⟩ (.int .i64 x)) g B f x:=by
 refine ⟨h.len,?_⟩
 have hl:(cl B).length=64:=by rw [cl_length,h.len]
 rw [heap_setCell_same w g 65 _ _ _ h.at_]
 congr 2
 simp [rc,hl]
theorem Rd.range {w:World} {g:Nat} {B:List Int} {f r:Int} (h:Rd w g B f r):w.rangeAt g 0 (cl B):=by
 intro j v hv
 rw [Nat.zero_add,h.cell]
 unfold rc
 have:j<(cl B).length:=by
  obtain ⟨hj,_⟩:=List.getElem?_eq_some_iff.1 hv
  exact hj
 rw [List.getElem?_append_left this,hv]
theorem Rd.there {w:World} {g:Nat} {B:List Int} {f r:Int} (h:Rd w g B f r):w.there g 0 64:=by
 intro j hj
 refine ⟨?_,h.frozen _⟩
 rw [h.cell]
 have:=cl_length B
 have:=h.len
 simp [rc];omega
theorem Rd.setBoard {w:World} {g:Nat} {B:List Int} {f r:Int} (h:Rd w g B f r) (B':List Int) (hB':B'.length=64):Rd (w.setCells g 0 (cl B').toArray.toList) g B' f r:=by
 refine ⟨hB',?_⟩
 have:=heap_setCells g 125 (cl B') (cl B) [] [.int .i64 f,.int .i64 r] w (by rw [cl_length,cl_length,h.len,hB']) (by simpa [rc] using h.at_)
 simpa [rc] using this
theorem Rd.heap {w w':World} {g:Nat} {B:List Int} {f r:Int} (h:Rd w g B f r) (k:Kept w w'):Rd w' g B f r:=⟨h.len,k.heap h.at_⟩
theorem whole_is (w:World) (g:Nat) (B:List Int) (f r:Int) (h:Rd w g B f r) (h0:0≤f) (h1:f≤8) (h2:0≤r) (h3:r≤7) :
  Calls Tryz.prog 106 #[.pointer (some ⟨g,0,none⟩)] w fun e w'=>e=.returned (.bool ((f == 8) && (r == 0)))∧w=w':=by
 have c1:=h.file
 have c2:=h.rank
 clear h
 by_cases e:(f == 8)=true
 ·by_cases e':(r == 0)=true
  ·rw [e,e']
   go_enter Tryz.func106,Tryz.ntmps106
   go_wp2
   go_ret
   exact ⟨rfl,rfl⟩
  ·have e'':(r == 0)=false:=by simpa using e'
   rw [e,e'']
   clear e'
   go_enter Tryz.func106,Tryz.ntmps106
   go_wp2
   go_ret
   exact ⟨rfl,rfl⟩
 ·have e'':(f == 8)=false:=by simpa using e
  rw [e'',Bool.false_and]
  clear e
  go_enter Tryz.func106,Tryz.ntmps106
  go_wp2
  go_ret
  exact ⟨rfl,rfl⟩
theorem down_no (w:World) (g:Nat) (B:List Int) (f r:Int) (h:Rd w g B f r) (hn:f<8∨r=0) :
  Calls Tryz.prog 143 #[.pointer (some ⟨g,0,none⟩)] w fun e w'=>e=.returned (.bool false)∧w=w':=by
 have c1:=h.file
 have c2:=h.rank
 clear h
 by_cases e:f<8
 ·clear hn
  go_enter Tryz.func143,Tryz.ntmps143
  go_wp2
  go_ret
  exact ⟨rfl,rfl⟩
 ·obtain rfl:r=0:=hn.resolve_left e
  clear hn
  go_enter Tryz.func143,Tryz.ntmps143
  go_wp2
  go_ret
  exact ⟨rfl,rfl⟩
theorem down_yes (w:World) (g:Nat) (B:List Int) (f r:Int) (h:Rd w g B f r) (h0:8≤f) (h1:0<r) (h2:r≤7) :
  Calls Tryz.prog 143 #[.pointer (some ⟨g,0,none⟩)] w fun e w'=>e=.returned (.bool true)∧Rd w' g B 0 (r-1)∧KeptB g w w':=by
 have c1:=h.file
 have c2:=h.rank
 have f1:=h.frozen 64
 have f2:=h.frozen 65
 have H:=Qh h
 have H1:=Qh (h.setFile 0)
 have c3:=H1.out.rank
 have f3:=H1.out.frozen 65
 have b1:¬ f<8:=by omega
 have b2:(r == 0)=false:=beq_eq_false_iff_ne.2 (by omega)
 clear h
 go_enter Tryz.func143,Tryz.ntmps143
 go_wp2
 go_ret
 exact ⟨rfl,H1.out.setRank _,((KeptB.refl g w).setCell 64 _).setCell 65 _⟩
theorem skip_no (w:World) (g:Nat) (B:List Int) (f r m:Int) (h:Rd w g B f r) (h0:0≤f) (h1:f≤8) (hm:0≤m) (hm':m≤8) (hn:8<f+m) :
  Calls Tryz.prog 144 #[.pointer (some ⟨g,0,none⟩),.int .i64 m] w fun e w'=>e=.returned (.bool false)∧w=w':=by
 have c1:=h.file
 clear h
 have hx:8-f<m:=by omega
 go_enter Tryz.func144,Tryz.ntmps144
 go_wp2
 go_ret
 exact ⟨rfl,rfl⟩
theorem skip_yes (w:World) (g:Nat) (B:List Int) (f r m:Int) (h:Rd w g B f r) (h0:0≤f) (h1:f≤8) (hm:0≤m) (hm':m≤8) (hn:f+m≤8) :
  Calls Tryz.prog 144 #[.pointer (some ⟨g,0,none⟩),.int .i64 m] w fun e w'=>e=.returned (.bool true)∧Rd w' g B (f+m) r∧KeptB g w w':=by
 have c1:=h.file
 have f1:=h.frozen 64
 have H:=Qh h
 clear h
 have hx:¬ 8-f<m:=by omega
 go_enter Tryz.func144,Tryz.ntmps144
 go_wp2
 go_ret
 exact ⟨rfl,H.out.setFile _,(KeptB.refl g w).setCell 64 _⟩
theorem stand_no_of (w:World) (g:Nat) (q:Nat) (h:ofT (Utf8.encode (q:Int))=0) :
  Calls Tryz.prog 145 #[.pointer (some ⟨g,0,none⟩),.int .i32 q] w fun e w'=>e=.returned (.bool false)∧Kept w w':=by
 have hs:=encode_size_le (q:Int)
 go_enter Tryz.func145,Tryz.ntmps145
 go_wp2_with fail
 refine (of_no _ _ (by omega) h).mono ?_
 rintro e w1 ⟨rfl,gw1⟩
 go_wp2
 go_ret
 exact ⟨rfl,Kept.of_grown gw1⟩
theorem stand_no_sign (w:World) (g:Nat) (q n:Nat) (hn:n<12) (h:Utf8.encode (q:Int)=signN n) :
  Calls Tryz.prog 145 #[.pointer (some ⟨g,0,none⟩),.int .i32 q] w fun e w'=>e=.returned (.bool false)∧Kept w w':=by
 have b1:((lettN n).toList == (signN n).toList)=false:=str_eq_false (lett_sign n n)
 go_enter Tryz.func145,Tryz.ntmps145
 go_wp2_with fail
 refine (of_yes _ (inOrd n) _ (by rw [signN];simp [ByteArray.size]) (ofT_sign n hn) (inOrd_man n hn).1).mono ?_
 rintro e w1 ⟨rfl,gw1⟩
 go_wp2_with fail
 refine (letter_yes n hn _).mono ?_
 rintro e w2 ⟨rfl,gw2⟩
 go_wp2
 go_ret
 exact ⟨rfl,(Kept.of_grown gw1).trans (Kept.of_grown gw2)⟩
theorem stand_no_full (w:World) (g:Nat) (B:List Int) (f r:Int) (h:Rd w g B f r) (f0:8≤f) (q n:Nat) (hn:n<12) (hq:Utf8.encode (q:Int)=lettN n) :
  Calls Tryz.prog 145 #[.pointer (some ⟨g,0,none⟩),.int .i32 q] w fun e w'=>e=.returned (.bool false)∧Kept w w':=by
 have H:=Qh h
 clear h
 go_enter Tryz.func145,Tryz.ntmps145
 go_wp2_with fail
 refine (of_yes _ (inOrd n) _ (by rw [lettN];simp [ByteArray.size]) (ofT_letter n hn) (inOrd_man n hn).1).mono ?_
 rintro e w1 ⟨rfl,gw1⟩
 go_wp2_with fail
 refine (letter_yes n hn _).mono ?_
 rintro e w2 ⟨rfl,gw2⟩
 have H2:=Qh (H.out.heap ((Kept.of_grown gw1).trans (Kept.of_grown gw2)))
 have c1:=H2.out.file
 have c2:=H2.out.rank
 go_wp2
 go_quiet ((go_at_call 83;exact quiet_same (at_no _ _ _ (by omega))))
 go_wp2
 go_ret
 exact ⟨rfl,((Kept.of_grown gw1).trans (Kept.of_grown gw2)).drewN _⟩
theorem stand_yes (w:World) (g:Nat) (B:List Int) (hB:Brd B) (f r:Int) (h:Rd w g B f r) (f0:0≤f) (f1:f<8) (r0:0≤r) (r1:r≤7) (q n:Nat) (hn:n<12) (hq:Utf8.encode (q:Int)=lettN n) :
  Calls Tryz.prog 145 #[.pointer (some ⟨g,0,none⟩),.int .i32 q] w fun e w'=>e=.returned (.bool true)∧Rd w' g (B.set (r*8+f).toNat (inOrd n)) (f+1) r∧KeptB g w w':=by
 have H:=Qh h
 have HB:=Qh hB
 have hok:okB (inOrd n)=true:=by
  have:=inOrd_man n hn
  unfold okB
  rw [(manB_iff _).2 this,Bool.or_true]
 have HO:=Qh hok
 obtain ⟨k,hk⟩:∃ k:Nat,(k:Int)=r*8+f:=⟨(r*8+f).toNat,by omega⟩
 have hk64:k<64:=by omega
 rw [← hk,Int.toNat_natCast]
 have HK:=Qh hk
 have hlen:=Qh (show (B.set k (inOrd n)).length=64 by simpa using hB.1)
 clear h hB hok hk
 go_enter Tryz.func145,Tryz.ntmps145
 go_wp2_with fail
 refine (of_yes _ (inOrd n) _ (by rw [lettN];simp [ByteArray.size]) (ofT_letter n hn) (inOrd_man n hn).1).mono ?_
 rintro e w1 ⟨rfl,gw1⟩
 go_wp2_with fail
 refine (letter_yes n hn _).mono ?_
 rintro e w2 ⟨rfl,gw2⟩
 have hk2:=(Kept.of_grown gw1).trans (Kept.of_grown gw2)
 have H2:=Qh (H.out.heap hk2)
 have K2:=Qh hk2
 have c1:=H2.out.file
 have c2:=H2.out.rank
 clear gw1 gw2 hk2
 go_wp2
 go_quiet ((go_at_call 83;exact quiet_same (at_yes _ _ _ (by omega) (by omega) (by omega) (by omega))))
 rw [← HK.out]
 generalize hwd:w2.drewN nq=w3
 have H3:=Qh (show Rd w3 g B f r by rw [← hwd];exact H2.out.heap ((Kept.refl _).drewN _))
 have K3:=Qh (show Kept w w3 by rw [← hwd];exact K2.out.drewN _)
 clear c1 c2 hwd H2 K2
 go_wp2_with (refine wpList_load_mid rfl 24 _ rfl g 0 rfl (cl B) _ H3.out.range Tryz.underlying24 rfl (by rw [size24,cl_length,HB.out.1]) ?_)
 refine (put_yes B HB.out k (inOrd n) hk64 HO.out _).mono ?_
 rintro e w4 ⟨rfl,g4⟩
 have H4:=Qh (H3.out.heap g4)
 have K4:=Qh (K3.out.trans g4)
 clear g4
 go_wp2_with (refine wpList_store_mid rfl 24 _ _ rfl g 0 (cl (B.set k (inOrd n))).toArray rfl rfl (by rw [cl_size _ hlen.out];exact H4.out.there) (by rw [size24,cl_size _ hlen.out]) (cl_one _) ?_;refine Hid.out ?_)
 refine Qh ?_
 have H5:=Qh (H4.out.setBoard _ hlen.out)
 have K5:=Qh (KeptB.setCells (cl (B.set k (inOrd n))).toArray.toList w4 0 (KeptB.of (g:=g) K4.out))
 generalize w4.setCells g 0 (cl (B.set k (inOrd n))).toArray.toList=w5 at *
 have c1:=H5.out.file
 have f1:=H5.out.frozen 64
 go_wp2
 go_ret
 exact ⟨rfl,H5.out.setFile _,K5.out.setCell 64 _⟩
end Go.Proofs.YtlbipjmmlobofaaGreatDoor
