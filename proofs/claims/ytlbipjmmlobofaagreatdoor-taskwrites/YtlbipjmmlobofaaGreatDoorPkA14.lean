/- RoE · RoF · TsE · SiH: my texts, in their order. -/
import Derived.Test.YtlbipjmmlobofaaGreatDoorPkA01
import Derived.Test.YtlbipjmmlobofaaGreatDoorPkA05
import Derived.Test.YtlbipjmmlobofaaGreatDoorPkA12
import Derived.Test.YtlbipjmmlobofaaGreatDoorPkA13
namespace Go.Proofs.YtlbipjmmlobofaaGreatDoor
open Go.RowKit
set_option linter.unusedVariables false
set_option maxRecDepth 100000
set_option linter.unusedSimpArgs false
theorem capK_rune (c:UInt8) (h:capK c≠0):(c.toNat:Nat)=runeL (6-capK c):=by
 unfold capK at *
 repeat' split
 all_goals first
  | (rename_i hh;rw [hh];rfl)
  | skip
 all_goals simp_all
theorem reads_sign (w:World) (g:Nat) (r r':RS) (hi:RInv r) (h:Rr w g r) (c:UInt8) (hs:rst c r=some r') :
  Calls Tryz.prog (nf r.next) #[.pointer (some ⟨g,0,none⟩),.int .i32 (c.toNat:Nat)] w fun e w'=>e=.returned (.bool true)∧Rr w' g r'∧KeptB g w w':=by
 unfold rst at hs
 split at hs
 ·rename_i hn
  rw [hn]
  split at hs
  ·cases hs
  ·rename_i d rest hl
   split at hs
   ·rename_i hc
    subst hc
    have hlen:=hi.len
    rw [hl] at hlen
    split at hs
    ·rename_i hr
     cases hs
     subst hr
     exact inWord_end w g r h c hl
    ·rename_i hr
     cases hs
     exact inWord_mid w g r h c rest hl hr (by simp at hlen;omega)
   ·cases hs
 ·rename_i hn
  rw [hn]
  split at hs
  ·rename_i hc
   cases hs
   subst hc
   exact behind_yes w g r h
  ·cases hs
 ·rename_i hn
  rw [hn]
  split at hs
  ·rename_i hc
   cases hs
   obtain ⟨h0,rfl⟩:=hc
   exact item_black w g r h h0
  ·split at hs
   ·cases hs
   ·rename_i hk
    cases hs
    have:=capK_le c
    have h1:=item_man w g r h hi.side (6-capK c) (by omega)
    rw [← capK_rune c hk,show 6-(6-capK c)=capK c by omega] at h1
    exact h1
 ·rename_i hn
  rw [hn]
  split at hs
  ·rename_i hc
   cases hs
   exact inFile_yes w g r h c.toNat hc.1 hc.2
  ·cases hs
 ·rename_i hn
  rw [hn]
  split at hs
  ·rename_i hc
   cases hs
   have hf:=hi.file hn
   exact inRank_yes w g r h hi.brd hi.man hf.1 hf.2 c hc.1 hc.2.1 hc.2.2
  ·cases hs
 ·cases hs
theorem reads_twice (w:World) (g:Nat) (r:RS) (hi:RInv r) (h:Rr w g r) (c:UInt8) (hs:rtwice c r) :
  Calls Tryz.prog (nf r.next) #[.pointer (some ⟨g,0,none⟩),.int .i32 (c.toNat:Nat)] w fun e w'=>e=.returned (.bool false)∧Kept w w':=by
 obtain ⟨hn,h0,h1,h2⟩:=hs
 have hf:=hi.file hn
 rw [hn]
 exact inRank_twice w g r h hi.brd hf.1 hf.2 c h0 h1 h2
theorem call_enters {f : FuncId} {fn : Func} {c : Code} (hf : Tryz.prog.funcs[f]? = some fn) (hname : (fn.name == "runtime.NumGoroutine") = false) (hb : fn.body = some c) (args : Array Value) (w : World) :
  (callFunc f args).run Tryz.prog w=.ok (.enter f args) w:=by
 have h1 : fn.name ≠ "runtime.NumGoroutine" := by simpa using hname
 simp [callFunc,hf,h1,hb]
theorem nf_enters (n:Nat) (args:Array Value) (w:World):(callFunc (nf n) args).run Tryz.prog w=.ok (.enter (nf n) args) w:=by
 unfold nf
 split
 ·exact call_enters Tryz.func107 (by kernel_rfl) rfl args w
 ·exact call_enters Tryz.func166 (by kernel_rfl) rfl args w
 ·exact call_enters Tryz.func189 (by kernel_rfl) rfl args w
 ·exact call_enters Tryz.func204 (by kernel_rfl) rfl args w
 ·exact call_enters Tryz.func210 (by kernel_rfl) rfl args w
def rz:List Value:=cl Zb++[.int .i64 0,.string ⟨#[]⟩,.int .i64 0,.int .i32 0,.nilFunc,.bool false]
def ri:List Value:=cl Zb++rtl r0
theorem info_rr:(Tryz.prog.info? 130).map (fun i=>(i.zero,i.size))=some (some (.agg rz.toArray),70):=by kernel_rfl
theorem ri_size:ri.toArray.size=70:=by decide +kernel
theorem rz_size:rz.toArray.size=70:=by decide +kernel
theorem ri_one:ri.toArray.all (·.oneCell')=true:=by decide +kernel
theorem wpList_build_rr {ops:Array Oper} {rest:List Oper} {o:Oper} {a:Act} {w:World} {Q:Exit→Act→World→Prop} (hw:Region.wanted o (yielded ops a.tmps)=true) (x y z:Operand) (ho:o.op=.build 130 #[(1,x),(2,y),(5,z)]) (hx:a.eval x=.int .i64 0)
  (hy:a.eval y=.string ⟨#[119,104,105,116,101]⟩) (hz:a.eval z=.func (.func 107) #[] #[])
  (h:wpList Tryz.prog ops Q rest (a.put o.dst (.agg ri.toArray)) w):wpList Tryz.prog ops Q (o::rest) a w :=
 wpList_step fun _ hK=>by
  rw [if_pos hw]
  have hf':Tryz.prog.built 130 [(1,.int .i64 0),(2,.string ⟨#[119,104,105,116,101]⟩),(5,.func (.func 107) #[] #[])]=some ri.toArray:=by kernel_rfl
  have hf:Tryz.prog.built 130 ((#[(1,x),(2,y),(5,z)]:Array (Nat × Operand)).map fun (i,x)=>(i,a.eval x)).toList=some ri.toArray:=by
   rw [← hf'];simp [hx,hy,hz]
  exact wp_build _ _ ho (by rw [hf];rfl) (by rw [hf];exact hK _ _ h)
theorem wpList_new_rr {ops:Array Oper} {rest:List Oper} {o:Oper} {a:Act} {w:World} {Q:Exit→Act→World→Prop} (hgd:o.guard=none) (ho:o.op=.alloc 130)
  (h:wpList Tryz.prog ops Q rest (a.put o.dst (.pointer (some ⟨w.heap.size,0,none⟩))) (w.alloc (.cells rz.toArray 130))):wpList Tryz.prog ops Q (o::rest) a w:=by
 refine wpList_plain hgd fun _ hK=>?_
 unfold Oper.wp execOp
 simp only [ho,Instr.alloc,Sem.run_bind,(zero_of_info info_rr).1,Result.andThen_ok,newVar,newRow,Value.cells]
 exact hK _ _ h
theorem wpList_store_rr {ops:Array Oper} {rest:List Oper} {o:Oper} {a:Act} {w:World} {Q:Exit→Act→World→Prop} (hgd:o.guard=none) (x y:Operand) (ho:o.op=.store 130 x y)
  (hx:a.eval x=.pointer (some ⟨w.heap.size,0,none⟩)) (hy:a.eval y=.agg ri.toArray)
  (h:wpList Tryz.prog ops Q rest (a.put o.dst undef) (w.alloc (.cells ri.toArray 130))):wpList Tryz.prog ops Q (o::rest) a (w.alloc (.cells rz.toArray 130)):=by
 refine wpList_store_row hgd 130 x y ho w.heap.size ri.toArray hx hy 130 _ (heap_alloc_new w _) (by rw [ri_size];kernel_rfl) (by rw [ri_size,rz_size]) ri_one ?_
 rw [World.setRow_alloc_new]
 exact h
structure RMid (t:ByteArray) (w wr:World) (pos:Nat) (r:RS):Prop where
 le:pos≤t.size
 fed:rfeed r0 (t.data.toList.take pos)=some r
 iter:wr.heap[w.heap.size+1+1]?=some (.stringIter t pos)
 rd:Rr wr (w.heap.size+1) r
 res:wr.heap[w.heap.size]?=some (.cells (cl Zb).toArray 24 (0,0))
 kept:Kept w wr
theorem RMid.start (t:ByteArray) (w:World):RMid t w (((w.alloc (.cells (cl Zb).toArray 24)).alloc (.cells ri.toArray 130)).iter t 0) 0 r0:=by
 have k:=Kept.of_grown (grown_iter ((w.alloc (.cells (cl Zb).toArray 24)).alloc (.cells ri.toArray 130)) t 0)
 refine ⟨by omega,rfl,?_,⟨Zb_brd.1,?_⟩,?_,?_⟩
 ·simpa using World.iter_heap ((w.alloc (.cells (cl Zb).toArray 24)).alloc (.cells ri.toArray 130)) t 0
 ·exact k.heap (heap_alloc2_new _ _ _)
 ·exact k.heap (heap_alloc2_old _ _ _)
 ·exact (((Kept.refl w).alloc _).alloc _).trans k
theorem RMid.inv {t:ByteArray} {w wr:World} {pos:Nat} {r:RS} (h:RMid t w wr pos r):RInv r:=rfeed_inv r0_inv h.fed
theorem RMid.next {t:ByteArray} {w wr:World} {pos:Nat} {r:RS} (h:RMid t w wr pos r) (p:Nat):Rr (iterAt wr (w.heap.size+1+1) t p) (w.heap.size+1) r :=
 ⟨h.rd.len,(iterAt_other t p (by omega)).trans h.rd.at_⟩
theorem RMid.keptN {t:ByteArray} {w wr:World} {pos:Nat} {r:RS} (h:RMid t w wr pos r) (p:Nat):Kept w (iterAt wr (w.heap.size+1+1) t p):=h.kept.iterAt (by omega) t p
theorem RMid.resN {t:ByteArray} {w wr:World} {pos:Nat} {r:RS} (h:RMid t w wr pos r) (p:Nat):(iterAt wr (w.heap.size+1+1) t p).heap[w.heap.size]?=some (.cells (cl Zb).toArray 24 (0,0)) :=
 (iterAt_other t p (by omega)).trans h.res
theorem RMid.step {t:ByteArray} {w wr w2:World} {pos:Nat} {r r':RS} (h:RMid t w wr pos r) (hp:pos<t.size) (hs:rst (t[pos]'hp) r=some r')
  (hr:Rr w2 (w.heap.size+1) r') (hk:KeptB (w.heap.size+1) (iterAt wr (w.heap.size+1+1) t (pos+1)) w2):RMid t w w2 (pos+1) r':=by
 refine ⟨by omega,?_,hk.heap (by omega) (iterAt_heap h.iter t (pos+1)),hr,hk.heap (by omega) (h.resN _),hk.kept (h.keptN _) (by omega)⟩
 rw [rfeed_take _ _ _ (by rw [len_size];exact hp),h.fed,at_size t pos hp]
 exact hs
theorem name_bytes (s:Nat) (h:s<64):∃ a b:UInt8,(nameOf (s:Nat)).data.toList=[a,b]∧a.toNat=97+s % 8∧b.toNat=49+s / 8:=by
 refine ⟨_,_,rfl,?_,?_⟩
 ·simp;omega
 ·simp;omega
theorem inWord_no (w:World) (g:Nat) (r:RS) (h:Rr w g r) (d:UInt8) (rest:List UInt8) (hl:r.left=d::rest) (q:Nat) (hq:q≠d.toNat) :
  Calls Tryz.prog 107 #[.pointer (some ⟨g,0,none⟩),.int .i32 q] w fun e w'=>e=.returned (.bool false)∧Kept w w':=by
 have c1:=h.cell 1 rfl
 rw [hl] at c1
 obtain ⟨s,hs⟩:∃ s:ByteArray,s=⟨(d::rest).toArray⟩:=⟨_,rfl⟩
 have hz:0<s.size:=by rw [hs];show 0<((d::rest).toArray).size;simp
 have h0:s[0]=d:=by subst hs;rfl
 have hne:((q:Int) != wrap32 (s[0].toNat:Int))=true:=by
  rw [h0]
  have:=d.toNat_lt
  have e:wrap32 (d.toNat:Int)=(d.toNat:Int):=by unfold wrap32;omega
  rw [e,bne_iff_ne];omega
 rw [← hs] at c1
 clear h hs h0 hl hq
 go_enter Tryz.func107,Tryz.ntmps107
 go_wp2
 go_ret
 exact ⟨rfl,Kept.refl w⟩
theorem behind_no (w:World) (a:Addr) (q:Nat) (hq:q≠32) :
  Calls Tryz.prog 166 #[.pointer (some a),.int .i32 q] w fun e w'=>e=.returned (.bool false)∧Kept w w':=by
 have hne:((q:Int) != 32)=true:=by rw [bne_iff_ne];omega
 clear hq
 go_enter Tryz.func166,Tryz.ntmps166
 go_wp2
 go_ret
 exact ⟨rfl,Kept.refl w⟩
theorem inFile_no (w:World) (a:Addr) (q:Nat) (hq:q<97∨104<q) :
  Calls Tryz.prog 204 #[.pointer (some a),.int .i32 q] w fun e w'=>e=.returned (.bool false)∧Kept w w':=by
 go_enter Tryz.func204,Tryz.ntmps204
 by_cases h0:(q:Int)<97
 ·go_wp2
  go_ret
  exact ⟨rfl,Kept.refl w⟩
 ·have h1:(104:Int)<(q:Int):=by omega
  clear hq
  go_wp2
  go_ret
  exact ⟨rfl,Kept.refl w⟩
theorem inRank_bad (w:World) (g:Nat) (r:RS) (h:Rr w g r) (q:Nat) (hq:q<49∨56<q) (f0:97≤r.file) (f1:r.file≤104) :
  Calls Tryz.prog 210 #[.pointer (some ⟨g,0,none⟩),.int .i32 q] w fun e w'=>e=.returned (.bool false)∧Kept w w':=by
 have d3:=h.cell 3 rfl
 have hs1:=encode_size_le (r.file:Int)
 have hs2:=encode_size_le (q:Int)
 have s1:¬ 9223372036854775807<(Utf8.encode (r.file:Int)).size+(Utf8.encode (q:Int)).size:=by omega
 have hne:∀ n:Nat,n<64→Utf8.encode (r.file:Int)++Utf8.encode (q:Int)≠nameOf n:=by
  intro n hn e
  obtain ⟨c,hc⟩:∃ c:UInt8,c.toNat=r.file:=⟨UInt8.ofNat r.file,by simp;omega⟩
  have e1:Utf8.encode (r.file:Int)=⟨#[c]⟩:=by rw [← hc];exact enc_low c (by omega)
  rcases Nat.lt_or_ge q 128 with h1|h1
  ·obtain ⟨d,hd⟩:∃ d:UInt8,d.toNat=q:=⟨UInt8.ofNat q,by simp;omega⟩
   have e2:Utf8.encode (q:Int)=⟨#[d]⟩:=by rw [← hd];exact enc_low d (by omega)
   rw [e1,e2] at e
   have e3:(nameOf n).data.toList=[c,d]:=by rw [← e];rfl
   obtain ⟨a,b,e4,_,e5⟩:=name_bytes n hn
   rw [e3] at e4
   injection e4 with _ e4
   injection e4 with e4 _
   subst e4
   omega
  ·have h2:=enc_high q h1
   have:=congrArg ByteArray.size e
   rw [ByteArray.size_append,e1] at this
   have h3:(nameOf n).size=2:=rfl
   have h4:(⟨#[c]⟩:ByteArray).size=1:=rfl
   omega
 have HP:=Qh (fun w=>parse_no _ w hne)
 clear h hne hq
 go_enter Tryz.func210,Tryz.ntmps210
 go_wp2_with fail
 refine (HP.out _).mono ?_
 rintro e w1 ⟨rfl,gw1⟩
 have K1:=Qh (Kept.of_grown gw1)
 clear gw1
 go_wp2
 go_ret
 exact ⟨rfl,K1.out⟩
theorem item_no (w:World) (g:Nat) (r:RS) (h:Rr w g r) (q:Nat) (hb:¬ (r.side=0∧q=98)) (hn:∀ n,n<6→q≠runeL n) :
  Calls Tryz.prog 189 #[.pointer (some ⟨g,0,none⟩),.int .i32 q] w fun e w'=>e=.returned (.bool false)∧Kept w w':=by
 have hs:=encode_size_le (q:Int)
 obtain ⟨sd,hsd⟩:∃ sd,sd=r.side:=⟨_,rfl⟩
 have c0:w.cell? ⟨g,64,none⟩=some (.int .i64 sd):=by rw [hsd];exact h.cell 0 rfl
 rw [← hsd] at hb
 have HB:Hid ((sd == 0)=true→((q:Int) == wrap32 (((⟨#[98,108,97,99,107]⟩:ByteArray)[0]'(by decide)).toNat:Int))=false):=by
  refine Qh fun e=>?_
  rw [black0]
  have:sd=0:=by simpa using e
  rw [← Bool.not_eq_true,beq_iff_eq]
  intro e2
  exact hb ⟨this,by omega⟩
 have HN:=Qh hn
 clear h hsd hb hn
 obtain ⟨z,hz⟩:∃ z,(sd == 0)=z:=⟨_,rfl⟩
 by_cases ho:ofT (Utf8.encode (q:Int))=0
 ·go_enter Tryz.func189,Tryz.ntmps189
  cases z
  ·skip
   go_wp2_with fail
   refine (of_no _ _ (by omega) ho).mono ?_
   rintro e w1 ⟨rfl,gw1⟩
   go_wp2
   go_ret
   exact ⟨rfl,Kept.of_grown gw1⟩
  ·have b1:=HB.out hz
   go_wp2_with fail
   refine (of_no _ _ (by omega) ho).mono ?_
   rintro e w1 ⟨rfl,gw1⟩
   go_wp2
   go_ret
   exact ⟨rfl,Kept.of_grown gw1⟩
 ·obtain ⟨n,h12,he⟩:=ofT_inv _ ho
  by_cases h6:n<6
  ·have hsg:Utf8.encode (q:Int)=signN n:=by
    rcases he with he|he
    ·exfalso
     have hq1:q<128:=by
      rcases Nat.lt_or_ge q 128 with h1|h1
      ·exact h1
      ·have h2:=enc_high q h1
       rw [he] at h2
       have h3:(lettN n).size=1:=rfl
       omega
     obtain ⟨d,hd⟩:∃ d:UInt8,d.toNat=q:=⟨UInt8.ofNat q,by simp;omega⟩
     have e2:Utf8.encode (q:Int)=⟨#[d]⟩:=by rw [← hd];exact enc_low d (by omega)
     rw [e2] at he
     have e3:d=(runeL n).toUInt8:=by
      have:=congrArg (fun x:ByteArray=>x.data.toList) he
      unfold lettN at this
      simpa using this
     have:=runeL_lt n h12
     refine HN.out n h6 ?_
     rw [← hd,e3]
     simp;omega
    ·exact he
   have b1:((lettN n).toList == (Utf8.encode (q:Int)).toList)=false:=by rw [hsg];exact str_eq_false (lett_sign n n)
   have hof:=Qh (show ofT (Utf8.encode (q:Int))=inOrd n by rw [hsg];exact ofT_sign n h12)
   clear he hsg ho
   go_enter Tryz.func189,Tryz.ntmps189
   cases z
   all_goals
    try have b2:=HB.out hz
    go_wp2_with fail
    refine (of_yes _ (inOrd n) _ (by omega) hof.out (inOrd_man n h12).1).mono ?_
    rintro e w1 ⟨rfl,gw1⟩
    go_wp2_with fail
    refine (mside_n n h6 _).mono ?_
    rintro e w' ⟨rfl,rfl⟩
    go_wp2_with fail
    refine (letter_yes n h12 _).mono ?_
    rintro e w2 ⟨rfl,gw2⟩
    go_wp2
    go_ret
    exact ⟨rfl,(Kept.of_grown gw1).trans (Kept.of_grown gw2)⟩
  ·have hof:=Qh (show ofT (Utf8.encode (q:Int))=inOrd n by
    rcases he with he|he
    ·rw [he];exact ofT_letter n h12
    ·rw [he];exact ofT_sign n h12)
   have hsd:=Qh (fun w=>mside_ord n h12 w)
   rw [show (n:Int) / 6=1 by omega] at hsd
   clear he ho
   go_enter Tryz.func189,Tryz.ntmps189
   cases z
   all_goals
    try have b2:=HB.out hz
    go_wp2_with fail
    refine (of_yes _ (inOrd n) _ (by omega) hof.out (inOrd_man n h12).1).mono ?_
    rintro e w1 ⟨rfl,gw1⟩
    go_wp2_with fail
    refine (hsd.out _).mono ?_
    rintro e w2 ⟨rfl,rfl⟩
    go_wp2
    go_ret
    exact ⟨rfl,Kept.of_grown gw1⟩
def RIn (r:RS):Prop:=r.next≤4∧(r.next=0→r.left≠[])
theorem rin_full (r:RS):RIn r.full:=⟨by show 1≤4;omega,fun h=>by have h:(1:Nat)=0:=h;omega⟩
theorem rst_in {c:UInt8} {r r':RS} (h:rst c r=some r'):RIn r':=by
 unfold rst at h
 split at h
 ·rename_i hn
  split at h
  ·cases h
  ·split at h
   ·split at h
    ·cases h;exact rin_full _
    ·rename_i hr;cases h;exact ⟨by dsimp only;omega,fun _=>hr⟩
   ·cases h
 ·split at h
  ·cases h;exact ⟨by dsimp only;omega,fun e=>by dsimp only at e;omega⟩
  ·cases h
 ·split at h
  ·cases h;exact ⟨by dsimp only;omega,fun e=>by simp⟩
  ·split at h
   ·cases h
   ·cases h;exact ⟨by dsimp only;omega,fun e=>by dsimp only at e;omega⟩
 ·split at h
  ·cases h;exact ⟨by dsimp only;omega,fun e=>by dsimp only at e;omega⟩
  ·cases h
 ·split at h
  ·cases h;exact rin_full _
  ·cases h
 ·cases h
theorem rin_feed {l:List UInt8} {x:RS} (h:rfeed r0 l=some x):RIn x:=by
 rcases List.eq_nil_or_concat l with rfl|⟨L,b,rfl⟩
 ·rw [rfeed_nil] at h;cases h;exact ⟨by decide,fun _=>by decide⟩
 ·rw [List.concat_eq_append,rfeed_app] at h
  cases hq:rfeed r0 L with
  | none=>rw [hq] at h;cases h
  | some y =>
   rw [hq] at h
   have h:rfeed y [b]=some x:=h
   rw [rfeed_cons] at h
   cases hc:rst b y with
   | none=>rw [hc] at h;cases h
   | some z =>
    rw [hc] at h
    have h:some z=some x:=h
    cases h
    exact rst_in hc
theorem rst_byte {c:UInt8} {r:RS} (i:RIn r) (h:rst c r=none):(r.next=0∧∃ d rest,r.left=d::rest∧c≠d)∨(r.next=1∧c≠32)∨(r.next=2∧¬ (r.side=0∧c=98)∧capK c=0)∨(r.next=3∧¬ (97≤c.toNat∧c.toNat≤104)) ∨
  (r.next=4∧¬ (49≤c.toNat∧c.toNat≤56))∨rtwice c r:=by
 have hx:=i.1
 unfold rst at h
 split at h
 ·rename_i hn
  refine .inl ⟨hn,?_⟩
  split at h
  ·rename_i hl;exact absurd hl (i.2 hn)
  ·rename_i d rest hl
   refine ⟨d,rest,hl,fun e=>?_⟩
   rw [if_pos e] at h
   split at h <;> cases h
 ·rename_i hn
  refine .inr (.inl ⟨hn,fun e=>?_⟩)
  rw [if_pos e] at h;cases h
 ·rename_i hn
  refine .inr (.inr (.inl ⟨hn,?_⟩))
  split at h
  ·cases h
  ·rename_i h1
   refine ⟨h1,?_⟩
   split at h
   ·assumption
   ·cases h
 ·rename_i hn
  refine .inr (.inr (.inr (.inl ⟨hn,fun e=>?_⟩)))
  rw [if_pos e] at h;cases h
 ·rename_i hn
  by_cases h1:49≤c.toNat∧c.toNat≤56
  ·refine .inr (.inr (.inr (.inr (.inr ⟨hn,h1.1,h1.2,fun e=>?_⟩))))
   rw [if_pos ⟨h1.1,h1.2,e⟩] at h;cases h
  ·exact .inr (.inr (.inr (.inr (.inl ⟨hn,h1⟩))))
 ·rename_i h0 h1 h2 h3 h4
  exfalso
  have hx':r.next=0∨r.next=1∨r.next=2∨r.next=3∨r.next=4:=by omega
  rcases hx' with e|e|e|e|e
  ·exact h0 e
  ·exact h1 e
  ·exact h2 e
  ·exact h3 e
  ·exact h4 e
theorem capK_0 {c:UInt8} (h:capK c=0):∀ n,n<6→c.toNat≠runeL n:=by
 intro n hn e
 have:n=0∨n=1∨n=2∨n=3∨n=4∨n=5:=by omega
 unfold capK at h
 rcases this with rfl|rfl|rfl|rfl|rfl|rfl
 all_goals
  simp only [runeL,List.getD_cons_zero,List.getD_cons_succ] at e
  rw [e] at h
  simp at h
theorem refuse_sign (w:World) (g:Nat) (r:RS) (hi:RInv r) (hn2:RIn r) (h:Rr w g r) (c:UInt8) (hs:rst c r=none) :
  Calls Tryz.prog (nf r.next) #[.pointer (some ⟨g,0,none⟩),.int .i32 (c.toNat:Nat)] w fun e w'=>e=.returned (.bool false)∧Kept w w':=by
 rcases rst_byte hn2 hs with ⟨hn,d,rest,hl,hc⟩|⟨hn,hc⟩|⟨hn,h1,h2⟩|⟨hn,h1⟩|⟨hn,h1⟩|h1
 ·rw [hn]
  exact inWord_no w g r h d rest hl c.toNat (fun e=>hc (UInt8.toNat_inj.1 e))
 ·rw [hn]
  exact behind_no w _ c.toNat (fun e=>hc (UInt8.toNat_inj.1 e))
 ·rw [hn]
  exact item_no w g r h c.toNat (fun e=>h1 ⟨e.1,UInt8.toNat_inj.1 e.2⟩) (capK_0 h2)
 ·rw [hn]
  exact inFile_no w _ c.toNat (by omega)
 ·rw [hn]
  have hf:=hi.file hn
  exact inRank_bad w g r h c.toNat (by omega) hf.1 hf.2
 ·exact reads_twice w g r hi h c h1
theorem refuse_high (w:World) (g:Nat) (r:RS) (hi:RInv r) (hn2:RIn r) (h:Rr w g r) (q:Nat) (hq:128≤q) :
  Calls Tryz.prog (nf r.next) #[.pointer (some ⟨g,0,none⟩),.int .i32 (q:Nat)] w fun e w'=>e=.returned (.bool false)∧Kept w w':=by
 have hx:r.next=0∨r.next=1∨r.next=2∨r.next=3∨r.next=4:=by have:=hn2.1;omega
 rcases hx with hn|hn|hn|hn|hn
 ·rw [hn]
  have hlen:=hi.len
  rcases hl:r.left with _|⟨d,rest⟩
  ·exact absurd hl (hn2.2 hn)
  ·refine inWord_no w g r h d rest hl q ?_
   have:=hi.left d (by rw [hl];simp)
   omega
 ·rw [hn];exact behind_no w _ q (by omega)
 ·rw [hn];exact item_no w g r h q (by omega) (fun n hn e=>by have:=runeL_lt n (by omega);omega)
 ·rw [hn];exact inFile_no w _ q (by omega)
 ·rw [hn]
  have hf:=hi.file hn
  exact inRank_bad w g r h q (by omega) hf.1 hf.2
def RAll (t:List UInt8) (B:List Int) (n:Nat) (e:Int):Prop :=
 (∃ h:n<t.length,∃ r,rfeed r0 (t.take n)=some r∧rst t[n] r=none∧B=Zb∧e=2)
 ∨ (∃ r,rfeed r0 t=some r∧n=t.length∧((r.ends=false∧B=Zb∧e=1)∨(r.ends=true∧B=r.B∧e=0)))
theorem RAll.at {t:ByteArray} {B:List Int} {n:Nat} {x:Int} (h:RAll t.data.toList B n x) {pos:Nat} {r:RS} (hf:rfeed r0 (t.data.toList.take pos)=some r) (hn:pos≤n) (hp:pos<t.size) :
  (pos<n∧∃ r',rst (t[pos]'hp) r=some r')∨(pos=n∧rst (t[pos]'hp) r=none∧B=Zb∧x=2):=by
 have hl:pos<t.data.toList.length:=by rw [len_size];exact hp
 have hstep:∀ {m:Nat} {y:RS},pos<m→rfeed r0 (t.data.toList.take m)=some y→∃ r',rst (t[pos]'hp) r=some r':=fun {m y} hm hy=>by
  obtain ⟨z,hz⟩:=rfeed_some hy (show pos+1≤m from hm)
  rw [rfeed_take _ _ _ hl,hf,at_size t pos hp] at hz
  exact ⟨z,hz⟩
 rcases h with ⟨hlt,r1,h1,h2,h3,h4⟩|⟨r1,h1,h2,h3⟩
 ·by_cases he:pos=n
  ·subst he
   rw [h1] at hf
   cases hf
   refine .inr ⟨rfl,?_,h3,h4⟩
   rwa [at_size t pos hp] at h2
  ·exact .inl ⟨by omega,hstep (show pos<n by omega) h1⟩
 ·refine .inl ⟨by rw [h2,len_size];exact hp,hstep (y:=r1) hl ?_⟩
  rw [List.take_length];exact h1
theorem RAll.end {t:ByteArray} {B:List Int} {n:Nat} {x:Int} (h:RAll t.data.toList B n x) {pos:Nat} {r:RS} (hf:rfeed r0 (t.data.toList.take pos)=some r) (hn:pos≤n) (hp:¬ pos<t.size) :
  n=t.size∧((r.ends=false∧B=Zb∧x=1)∨(r.ends=true∧B=r.B∧x=0)):=by
 rcases h with ⟨hlt,_⟩|⟨r1,h1,h2,h3⟩
 ·rw [len_size] at hlt;omega
 ·rw [List.take_of_length_le (by rw [len_size];omega),h1] at hf
  cases hf
  exact ⟨by rw [h2,len_size],h3⟩
theorem rollall_is (t:ByteArray) (hm:t.size≤1000000) (B:List Int) (n:Nat) (x:Int) (hR:RAll t.data.toList B n x) (w:World) :
  Calls Tryz.prog 75 #[.string t] w fun e w'=>e=.returned (.tuple #[.agg (cl B).toArray,.int .i64 n,.int .i64 x])∧Kept w w':=by
 have hz:=Qh (size_cl Zb_brd.1)
 have HR:=Qh hR
 clear hR
 go_enter Tryz.func75,Tryz.ntmps75
 go_wp2_with (first|(with_reducible refine wpList_new_b rfl rfl ?_)|(refine wpList_build_rr (by rfl) _ _ _ rfl rfl rfl rfl ?_)|(with_reducible refine wpList_new_rr rfl rfl ?_)|((with_reducible refine wpList_store_rr rfl _ _ rfl ?_ ?_ ?_);exact rfl;exact rfl))
 go_loopw [6] (fun _ wr=>∃ (pos:Nat) (r:RS),pos≤n∧RMid t w wr pos r) (fun _ wr=>t.size-wr.iterPos (w.heap.size+1+1))
 case atStart=>exact ⟨0,_,by omega,RMid.start t w⟩
 case round =>
  obtain ⟨pos,r,hpn,hM⟩:=hrel
  have HM:=Qh hM
  have hI:=Qh hM.inv
  clear hM
  by_cases hp:pos<t.size
  ·have HA:=HR.out.at HM.out.fed hpn hp
   have c4:=(HM.out.next (pos+1)).cell 4 rfl
   obtain ⟨fi,hfi⟩:∃ fi,nf r.next=fi:=⟨_,rfl⟩
   simp only [nv,hfi] at c4
   have hent:=nf_enters r.next
   rw [hfi] at hent
   rcases HA with ⟨hlt,r',hs⟩|⟨rfl,hs,rfl,rfl⟩
   ·have HC:=Qh (rst_low hs hI.out)
    have hd:=decode_ascii t pos hp HC.out
    have hnx:∀ ty,(Instr.next (.pointer (some ⟨w.heap.size+1+1,0,none⟩)) true ty).run Tryz.prog _=_:=fun ty=>next_at _ (w.heap.size+1+1) t pos ty HM.out.iter hp
    rw [hd] at hnx
    clear hd
    have HS:=Qh hs
    have hcall:=Qh (fun w0=>reads_sign w0 (w.heap.size+1) r r' hI.out)
    rw [hfi] at hcall
    clear hs hfi
    generalize hcc:t[pos]'hp=c at *
    have HCC:=Qh hcc
    clear hcc
    go_wp2_with fail
    refine (hcall.out _ (HM.out.next _) c HS.out).mono ?_
    rintro e w2 ⟨rfl,hr,hk⟩
    have HN:=Qh (HM.out.step hp (by rw [HCC.out];exact HS.out) hr hk)
    clear hr hk c4
    go_wp2
    go_roundw
    case rel=>exact ⟨pos+1,r',by omega,HN.out⟩
    case measure=>simp [World.iterPos,HN.out.iter,HM.out.iter];omega
   ·have HIN:=Qh (rin_feed HM.out.fed)
    by_cases hc:(t[pos]'hp).toNat<128
    ·have HC:=Qh hc
     clear hc
     have hd:=decode_ascii t pos hp HC.out
     have hnx:∀ ty,(Instr.next (.pointer (some ⟨w.heap.size+1+1,0,none⟩)) true ty).run Tryz.prog _=_:=fun ty=>next_at _ (w.heap.size+1+1) t pos ty HM.out.iter hp
     rw [hd] at hnx
     clear hd
     have HS:=Qh hs
     have hcall:=Qh (fun w0=>refuse_sign w0 (w.heap.size+1) r hI.out HIN.out)
     rw [hfi] at hcall
     clear hs hfi
     generalize hcc:t[pos]'hp=c at *
     clear hcc
     go_wp2_with fail
     refine (hcall.out _ (HM.out.next _) c HS.out).mono ?_
     rintro e w2 ⟨rfl,g2⟩
     have h01:=Qh (g2.heap (HM.out.resN (pos+1)))
     have K2:=Qh ((HM.out.keptN (pos+1)).trans g2)
     clear g2 c4
     go_wp2_with (first|(refine wpList_zero_w (by rfl) rfl ?_)|(refine wpList_store_row rfl 24 _ _ rfl w.heap.size (cl Zb).toArray rfl rfl 24 _ h01.out hz.out rfl (cl_one _) ?_))
     refine bodyPost_ret (v:=.tuple #[.agg (cl Zb).toArray,.int .i64 pos,.int .i64 2]) ?_ rfl ⟨rfl,K2.out.setRow (by omega) _⟩
     exact (results_board_tmp2 (p:=2) (t:=3) (u:=4) rfl _ _ w.heap.size Zb Zb_brd.1 rfl (setRow_heap _ _ _ _ _ _ h01.out)).trans rfl
    ·have hq:=Qh (decode_high t pos hp (by omega)).1
     have hnx:∀ ty,(Instr.next (.pointer (some ⟨w.heap.size+1+1,0,none⟩)) true ty).run Tryz.prog _=_:=fun ty=>next_at _ (w.heap.size+1+1) t pos ty HM.out.iter hp
     generalize (Utf8.decode t pos).1=q at *
     generalize (Utf8.decode t pos).2=k at *
     have c4:=(HM.out.next (pos+k)).cell 4 rfl
     simp only [nv,hfi] at c4
     have hcall:=Qh (fun w0=>refuse_high w0 (w.heap.size+1) r hI.out HIN.out)
     rw [hfi] at hcall
     clear hs hfi hc
     go_wp2_with fail
     refine (hcall.out _ (HM.out.next _) q hq.out).mono ?_
     rintro e w2 ⟨rfl,g2⟩
     have h01:=Qh (g2.heap (HM.out.resN (pos+k)))
     have K2:=Qh ((HM.out.keptN (pos+k)).trans g2)
     clear g2 c4
     go_wp2_with (first|(refine wpList_zero_w (by rfl) rfl ?_)|(refine wpList_store_row rfl 24 _ _ rfl w.heap.size (cl Zb).toArray rfl rfl 24 _ h01.out hz.out rfl (cl_one _) ?_))
     refine bodyPost_ret (v:=.tuple #[.agg (cl Zb).toArray,.int .i64 pos,.int .i64 2]) ?_ rfl ⟨rfl,K2.out.setRow (by omega) _⟩
     exact (results_board_tmp2 (p:=2) (t:=3) (u:=4) rfl _ _ w.heap.size Zb Zb_brd.1 rfl (setRow_heap _ _ _ _ _ _ h01.out)).trans rfl
  ·have hnx:∀ ty,(Instr.next (.pointer (some ⟨w.heap.size+1+1,0,none⟩)) true ty).run Tryz.prog _=_:=fun ty=>next_at_end _ (w.heap.size+1+1) t pos ty HM.out.iter hp
   obtain ⟨hn,HE⟩:=HR.out.end HM.out.fed hpn hp
   subst hn
   have h01:=Qh HM.out.res
   have hR:=Qh HM.out.rd
   have hK:=Qh HM.out.kept
   have c5:=HM.out.rd.cell 5 rfl
   have hlen:=Qh HM.out.rd.len
   rcases HE with ⟨he,rfl,rfl⟩|⟨he,rfl,rfl⟩
   ·rw [he] at c5
    go_wp2_with (first|(refine wpList_zero_w (by rfl) rfl ?_)|(refine wpList_store_row rfl 24 _ _ rfl w.heap.size (cl Zb).toArray rfl rfl 24 _ h01.out hz.out rfl (cl_one _) ?_))
    refine bodyPost_ret (v:=.tuple #[.agg (cl Zb).toArray,.int .i64 t.size,.int .i64 1]) ?_ rfl ⟨rfl,hK.out.setRow (by omega) _⟩
    exact (results_board_tmp2 (p:=2) (t:=3) (u:=4) rfl _ _ w.heap.size Zb Zb_brd.1 rfl (setRow_heap _ _ _ _ _ _ h01.out)).trans rfl
   ·rw [he] at c5
    go_wp2_with (first|(refine wpList_load_mid rfl 24 _ rfl (w.heap.size+1) 0 rfl (cl r.B) _ hR.out.range Tryz.underlying24 rfl (by rw [size24,cl_length,hlen.out]) ?_)|(refine wpList_store_row rfl 24 _ _ rfl w.heap.size (cl r.B).toArray rfl rfl 24 _ h01.out (by rw [size24,cl_size _ hlen.out]) (by rw [cl_size _ hlen.out];rfl) (cl_one _) ?_))
    refine bodyPost_ret (v:=.tuple #[.agg (cl r.B).toArray,.int .i64 t.size,.int .i64 0]) ?_ rfl ⟨rfl,hK.out.setRow (by omega) _⟩
    exact (results_board_tmp2 (p:=2) (t:=3) (u:=4) rfl _ _ w.heap.size _ hlen.out rfl (setRow_heap _ _ _ _ _ _ h01.out)).trans rfl
set_option maxHeartbeats 4000000

theorem itoa_is (n:Nat) (hn:n<100) (w:World):Calls Tryz.prog 45 #[.int .i64 n] w fun e w'=>e=.returned (.string (dT n))∧Kept w w':=by
 refine (Tryz.strconv_Itoa_small n hn w).mono ?_
 rintro e w' ⟨rfl,rfl⟩
 exact ⟨rfl,Kept.refl _⟩
theorem kT_size (k:Int):(kT k).size≤6:=by
 unfold kT
 repeat' split
 all_goals decide
theorem gT_size (g:Int):(gT g).size≤1:=by
 unfold gT
 repeat' split
 all_goals decide
theorem opT_sz (k g:Int):(opT k g).size≤7:=by
 have h1:=kT_size k
 have h2:=gT_size g
 unfold opT
 rw [ByteArray.size_append];omega
theorem dT_size (n:Nat) (hn:n<100):(dT n).size≤2:=by
 rw [← bs_len,bs_dT,show ((n:Int)).toNat=n from rfl]
 by_cases h:n<10
 ·rw [dig_1 h];simp
 ·rw [dig_2 (by omega) hn];simp
def wrT (s:Stp):ByteArray:=if okSt s=true then txT s else ⟨#[]⟩
theorem write_is (s:Stp) (w:World) (hT:TabS w):Calls Tryz.prog 15 #[qv s] w fun e w'=>e=.returned (.tuple #[.string (wrT s),.bool (okSt s)])∧Kept w w':=by
 have HW:=Qh (TAt.new w s)
 have HK:=Qh ((Kept.refl w).alloc (.cells (ql s).toArray 28))
 have HT:=Qh hT
 clear hT
 obtain ⟨k,g,n,h⟩:=s
 unfold qv
 unfold ql at HK
 dsimp only at HK ⊢
 have HR:=Qh (right_is ⟨k,g,n,h⟩)
 obtain ⟨b,hb⟩:∃ b,okSt ⟨k,g,n,h⟩=b:=⟨_,rfl⟩
 cases b
 ·have HE:=Qh (show wrT ⟨k,g,n,h⟩=⟨#[]⟩ by unfold wrT;rw [if_neg (by rw [hb];simp)])
  have HB:=Qh hb
  clear hb
  go_enter Tryz.func15,Tryz.ntmps15
  go_wp2_with (refine wpList_load_q (by rfl) _ rfl _ 0 rfl ⟨k,g,n,h⟩ HW.out.range ?_)
  refine (HR.out _).mono ?_
  rw [HB.out]
  rintro e w2 ⟨rfl,g2⟩
  have HK2:=Qh (HK.out.trans g2)
  clear g2
  go_wp2
  go_ret2
  exact ⟨by rw [HE.out,HB.out];first|done|rfl,HK2.out⟩
 ·have hbb:=okS_M hb
  have hgg:okG k g=true:=by unfold okSt at hb;rw [Bool.and_eq_true] at hb;exact hb.1
  obtain ⟨N,rfl⟩:∃ N:Nat,n=N:=⟨n.toNat,by have:=hbb.1;dsimp only at this;omega⟩
  have hN:N<100:=by have:=hbb.2.1;dsimp only [Int.toNat_natCast] at this;omega
  have z1:=opT_sz k g
  have z2:=dT_size N hN
  have z12:(opT k g).size+(dT N).size≤9223372036854775807:=by omega
  have HE:Hid (wrT ⟨k,g,N,h⟩=txT ⟨k,g,N,h⟩):=Qh (by unfold wrT;rw [if_pos hb])
  have HB:=Qh hb
  clear hb hbb
  go_enter Tryz.func15,Tryz.ntmps15
  go_wp2_with (refine wpList_load_q (by rfl) _ rfl _ 0 rfl ⟨k,g,N,h⟩ HW.out.range ?_)
  refine (HR.out _).mono ?_
  rw [HB.out]
  rintro e w2 ⟨rfl,g2⟩
  have HK2:=Qh (HK.out.trans g2)
  have HW2:=Qh (HW.out.kept g2)
  clear g2
  go_wp2_with fail
  refine wp_region_held_drew (S:=Kept _) (by kernel_rfl) (Kept.refl _).drew (fun Qj=>?_)
  refine rY 0 8 rfl rfl (take_load_q (by rfl) _ rfl w.heap.size 0 rfl ⟨k,g,N,h⟩ (fun _ h=>TAt.range (TAt.kept (HW2.out) h))) Qj ?_
  simp only [pA,pN,sZ,sU]
  refine rT 2 10 (.pointer (some ⟨w.heap.size,2,none⟩)) rfl rfl Qj ?_
  simp only [pA,pN,sZ,sU]
  refine rC 3 11 (.int .i64 N) rfl rfl (fun _ h=>kept_cell h (HW2.out.n)) Qj ?_
  simp only [pA,pN,sZ,sU]
  refine rR 1 rfl (fun K hK=>?_)
  go_simp
  refine ((head_is k g N h hgg _ (HT.out.kept (HK2.out.trans Qj)))).mono ?_
  rintro e w3 ⟨rfl,gw3⟩
  refine hK.out _ _ (Qj.trans gw3) (fun _=>?_)
  replace Qj:=Qj.trans gw3
  clear hK K
  refine rR 4 rfl (fun K hK=>?_)
  go_simp
  refine ((itoa_is N hN _)).mono ?_
  rintro e w4 ⟨rfl,gw4⟩
  refine hK.out _ _ (Qj.trans gw4) (fun _=>?_)
  replace Qj:=Qj.trans gw4
  clear hK K
  refine rT 5 13 (.string (opT k g++dT N)) rfl rfl Qj ?_
  simp only [pA,pN,sZ,sU]
  refine rT 6 4 (.string (opT k g++dT N)) rfl rfl Qj ?_
  simp only [pA,pN,sZ,sU]
  refine wpAnyH_done (by kernel_rfl) ?_ _
  have HK3:=Qh (HK2.out.trans Qj)
  have hw3:=(HW2.out.kept Qj).h
  clear Qj
  cases h
  ·go_wp2
   go_ret2
   exact ⟨by rw [HE.out,HB.out];first|done|rfl,HK3.out⟩
  ·have z3:(opT k g++dT N).size≤9:=by rw [ByteArray.size_append];omega
   go_wp2
   go_ret2
   exact ⟨by rw [HE.out,HB.out];first|done|rfl,HK3.out⟩
end Go.Proofs.YtlbipjmmlobofaaGreatDoor
