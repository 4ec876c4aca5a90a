/- FoD · FoE · RoA · SqP: my texts, in their order. -/
import Derived.Test.YtlbipjmmlobofaaGreatDoorPkA00
import Derived.Test.YtlbipjmmlobofaaGreatDoorPkA11
import Derived.Laws.RangeAny
namespace Go.Proofs.YtlbipjmmlobofaaGreatDoor
open Go.RowKit
set_option linter.unusedVariables false
set_option maxRecDepth 100000
set_option linter.unusedSimpArgs false
theorem take_slash (w:World) (g:Nat) (b:Bool) (R:World→Prop) (h:Calls Tryz.prog 143 #[.pointer (some ⟨g,0,none⟩)] w fun e w'=>e=.returned (.bool b)∧R w') :
  Calls Tryz.prog 105 #[.pointer (some ⟨g,0,none⟩),.int .i32 47] w fun e w'=>e=.returned (.bool b)∧R w':=by
 go_enter Tryz.func105,Tryz.ntmps105
 go_wp2_with fail
 refine h.mono ?_
 rintro e w1 ⟨rfl,hR⟩
 go_wp2
 go_ret
 exact ⟨rfl,hR⟩
theorem take_digit (w:World) (g:Nat) (b:Bool) (R:World→Prop) (q:Int) (h0:49≤q) (h1:q≤56) (h:Calls Tryz.prog 144 #[.pointer (some ⟨g,0,none⟩),.int .i64 (q-48)] w fun e w'=>e=.returned (.bool b)∧R w') :
  Calls Tryz.prog 105 #[.pointer (some ⟨g,0,none⟩),.int .i32 q] w fun e w'=>e=.returned (.bool b)∧R w':=by
 have b0:(q == 47)=false:=beq_eq_false_iff_ne.2 (by omega)
 have e1:IntKind.i32.wrap (q-48)=q-48:=by
  have:q=49∨q=50∨q=51∨q=52∨q=53∨q=54∨q=55∨q=56:=by omega
  rcases this with rfl|rfl|rfl|rfl|rfl|rfl|rfl|rfl <;> decide
 have e2:IntKind.i64.wrap (q-48)=q-48:=by
  have:q=49∨q=50∨q=51∨q=52∨q=53∨q=54∨q=55∨q=56:=by omega
  rcases this with rfl|rfl|rfl|rfl|rfl|rfl|rfl|rfl <;> decide
 go_enter Tryz.func105,Tryz.ntmps105
 go_wp2_with fail
 refine h.mono ?_
 rintro e w1 ⟨rfl,hR⟩
 go_wp2
 go_ret
 exact ⟨rfl,hR⟩
theorem take_other (w:World) (g:Nat) (b:Bool) (R:World→Prop) (q:Int) (h47:q≠47) (hn:q<49∨56<q) (h:Calls Tryz.prog 145 #[.pointer (some ⟨g,0,none⟩),.int .i32 q] w fun e w'=>e=.returned (.bool b)∧R w') :
  Calls Tryz.prog 105 #[.pointer (some ⟨g,0,none⟩),.int .i32 q] w fun e w'=>e=.returned (.bool b)∧R w':=by
 have b0:(q == 47)=false:=beq_eq_false_iff_ne.2 h47
 clear h47
 by_cases h0:q<49
 ·have b1:¬ 49≤q:=by omega
  clear hn h0
  go_enter Tryz.func105,Tryz.ntmps105
  go_wp2_with fail
  refine h.mono ?_
  rintro e w1 ⟨rfl,hR⟩
  go_wp2
  go_ret
  exact ⟨rfl,hR⟩
 ·have b1:49≤q:=by omega
  have b2:¬ q≤56:=by omega
  clear hn h0
  go_enter Tryz.func105,Tryz.ntmps105
  go_wp2_with fail
  refine h.mono ?_
  rintro e w1 ⟨rfl,hR⟩
  go_wp2
  go_ret
  exact ⟨rfl,hR⟩
def RdS (w:World) (g:Nat) (s:St):Prop:=Rd w g (bd s.1) (s.2.2:Int) (7-(s.2.1:Int))
theorem take_yes (w:World) (g:Nat) (s s':St) (hi:Inv s) (h:RdS w g s) (c:UInt8) (hs:stp c s=some s') :
  Calls Tryz.prog 105 #[.pointer (some ⟨g,0,none⟩),.int .i32 (c.toNat:Nat)] w fun e w'=>e=.returned (.bool true)∧(RdS w' g s'∧KeptB g w w'):=by
 obtain ⟨i1,i2,i3,i4⟩:=hi
 unfold stp at hs
 by_cases h47:c.toNat=47
 ·rw [if_pos h47] at hs
  split at hs
  ·rename_i hh
   cases hs
   rw [h47]
   refine take_slash w g true _ ((down_yes w g _ _ _ h (by omega) (by omega) (by omega)).mono ?_)
   rintro e w' ⟨rfl,a,b⟩
   refine ⟨rfl,?_,b⟩
   unfold RdS
   have:(7:Int)-((s.2.1+1:Nat):Int)=7-(s.2.1:Int)-1:=by omega
   simp only [this]
   exact a
  ·cases hs
 ·rw [if_neg h47] at hs
  by_cases hd:49≤c.toNat∧c.toNat≤56
  ·rw [if_pos hd] at hs
   split at hs
   ·rename_i hh
    cases hs
    refine take_digit w g true _ _ (by omega) (by omega) ((skip_yes w g _ _ _ _ h (by omega) (by omega) (by omega) (by omega) (by omega)).mono ?_)
    rintro e w' ⟨rfl,a,b⟩
    refine ⟨rfl,?_,b⟩
    unfold RdS
    rw [bd_zeros]
    have:((s.2.2+(c.toNat-48):Nat):Int)=(s.2.2:Int)+((c.toNat:Int)-48):=by omega
    simp only [this]
    exact a
   ·cases hs
  ·rw [if_neg hd] at hs
   split at hs
   ·cases hs
   ·rename_i hm
    split at hs
    ·rename_i hr
     cases hs
     obtain ⟨n,hn,e1,e2⟩:=manOf_man c hm
     have hlow:c.toNat<128:=by
      refine Classical.byContradiction fun hh=>hm (manOf_high c (by omega))
     refine take_other w g true _ _ (by omega) (by omega) ((stand_yes w g _ (bd_brd _ i4) _ _ h (by omega) (by omega) (by omega) (by omega) c.toNat n hn (by rw [enc_low c hlow,e1])).mono ?_)
     rintro e w' ⟨rfl,a,b⟩
     refine ⟨rfl,?_,b⟩
     unfold RdS
     have e3:((7-(s.2.1:Int))*8+(s.2.2:Int)).toNat=8*(7-s.2.1)+s.2.2:=by omega
     rw [e3,← e2,← bd_man s.1 s.2.1 s.2.2 (manOf c) i1 hr i3] at a
     exact a
    ·cases hs
theorem take_no (w:World) (g:Nat) (s:St) (hi:Inv s) (h:RdS w g s) (c:UInt8) (hc:c.toNat<128) (hs:stp c s=none) :
  Calls Tryz.prog 105 #[.pointer (some ⟨g,0,none⟩),.int .i32 (c.toNat:Nat)] w fun e w'=>e=.returned (.bool false)∧Kept w w':=by
 obtain ⟨i1,i2,i3,i4⟩:=hi
 unfold stp at hs
 by_cases h47:c.toNat=47
 ·rw [if_pos h47] at hs
  split at hs
  ·cases hs
  ·rw [h47]
   refine take_slash w g false _ ((down_no w g _ _ _ h (by omega)).mono ?_)
   rintro e w' ⟨rfl,rfl⟩
   exact ⟨rfl,Kept.refl _⟩
 ·rw [if_neg h47] at hs
  by_cases hd:49≤c.toNat∧c.toNat≤56
  ·rw [if_pos hd] at hs
   split at hs
   ·cases hs
   ·refine take_digit w g false _ _ (by omega) (by omega) ((skip_no w g _ _ _ _ h (by omega) (by omega) (by omega) (by omega) (by omega)).mono ?_)
    rintro e w' ⟨rfl,rfl⟩
    exact ⟨rfl,Kept.refl _⟩
  ·rw [if_neg hd] at hs
   split at hs
   ·rename_i hm
    exact take_other w g false _ _ (by omega) (by omega) (stand_no_of w g c.toNat (by rw [enc_low c hc];exact hm))
   ·rename_i hm
    split at hs
    ·cases hs
    ·obtain ⟨n,hn,e1,e2⟩:=manOf_man c hm
     exact take_other w g false _ _ (by omega) (by omega) (stand_no_full w g _ _ _ h (by omega) c.toNat n hn (by rw [enc_low c hc,e1]))
theorem take_high (w:World) (g:Nat) (q:Nat) (hq:128≤q) :
  Calls Tryz.prog 105 #[.pointer (some ⟨g,0,none⟩),.int .i32 (q:Nat)] w fun e w'=>e=.returned (.bool false)∧Kept w w':=by
 refine take_other w g false _ _ (by omega) (by omega) ?_
 by_cases h:ofT (Utf8.encode (q:Int))=0
 ·exact stand_no_of w g q h
 ·obtain ⟨n,hn,hx⟩:=ofT_inv _ h
  rcases hx with hx|hx
  ·have:=enc_high q hq
   rw [hx] at this
   simp [lettN,ByteArray.size] at this
  ·exact stand_no_sign w g q n hn hx
theorem info_rd:(Tryz.prog.info? 125).map (fun i=>(i.zero,i.size))=some (some (.agg (rc Zb 0 0).toArray),66):=by kernel_rfl
theorem rc_size (B:List Int) (h:B.length=64) (f r:Int):(rc B f r).toArray.size=66:=by simp [rc,cl_length,h]
theorem rc_one (B:List Int) (f r:Int):(rc B f r).toArray.all (·.oneCell')=true:=by
 refine all_oneCell_toArray fun v hv=>?_
 unfold rc at hv
 rcases List.mem_append.1 hv with hv|hv
 ·unfold cl at hv
  obtain ⟨x,_,rfl⟩:=List.mem_map.1 hv
  rfl
 ·simp at hv
  rcases hv with rfl|rfl <;> rfl
theorem wpList_build_rd {ops:Array Oper} {rest:List Oper} {o:Oper} {a:Act} {w:World} {Q:Exit→Act→World→Prop} (hw:Region.wanted o (yielded ops a.tmps)=true) (x:Operand) (ho:o.op=.build 125 #[(2,x)]) (hx:a.eval x=.int .i64 7)
  (h:wpList Tryz.prog ops Q rest (a.put o.dst (.agg (rc Zb 0 7).toArray)) w):wpList Tryz.prog ops Q (o::rest) a w :=
 wpList_step fun _ hK=>by
  rw [if_pos hw]
  have hf':Tryz.prog.built 125 [(2,.int .i64 7)]=some (rc Zb 0 7).toArray:=by kernel_rfl
  have hf:Tryz.prog.built 125 ((#[(2,x)]:Array (Nat × Operand)).map fun (i,x)=>(i,a.eval x)).toList=some (rc Zb 0 7).toArray:=by
   rw [← hf'];simp [hx]
  exact wp_build _ _ ho (by rw [hf];rfl) (by rw [hf];exact hK _ _ h)
theorem wpList_new_rd {ops:Array Oper} {rest:List Oper} {o:Oper} {a:Act} {w:World} {Q:Exit→Act→World→Prop} (hgd:o.guard=none) (ho:o.op=.alloc 125)
  (h:wpList Tryz.prog ops Q rest (a.put o.dst (.pointer (some ⟨w.heap.size,0,none⟩))) (w.alloc (.cells (rc Zb 0 0).toArray 125))):wpList Tryz.prog ops Q (o::rest) a w:=by
 refine wpList_plain hgd fun _ hK=>?_
 unfold Oper.wp execOp
 simp only [ho,Instr.alloc,Sem.run_bind,(zero_of_info info_rd).1,Result.andThen_ok,newVar,newRow,Value.cells]
 exact hK _ _ h
theorem wpList_store_rd {ops:Array Oper} {rest:List Oper} {o:Oper} {a:Act} {w:World} {Q:Exit→Act→World→Prop} (hgd:o.guard=none) (x y:Operand) (ho:o.op=.store 125 x y)
  (hx:a.eval x=.pointer (some ⟨w.heap.size,0,none⟩)) (hy:a.eval y=.agg (rc Zb 0 7).toArray)
  (h:wpList Tryz.prog ops Q rest (a.put o.dst undef) (w.alloc (.cells (rc Zb 0 7).toArray 125))):wpList Tryz.prog ops Q (o::rest) a (w.alloc (.cells (rc Zb 0 0).toArray 125)):=by
 refine wpList_store_row hgd 125 x y ho w.heap.size (rc Zb 0 7).toArray hx hy 125 _ (heap_alloc_new w _) (by rw [rc_size _ Zb_brd.1];kernel_rfl) (by rw [rc_size _ Zb_brd.1,rc_size _ Zb_brd.1]) (rc_one _ _ _) ?_
 rw [World.setRow_alloc_new]
 exact h
theorem iterAt_other {w:World} {i j:Nat} (s:ByteArray) (p:Nat) (h:j≠i):(iterAt w i s p).heap[j]?=w.heap[j]?:=by
 show (w.heap.setIfInBounds i _)[j]?=_
 rw [Array.getElem?_setIfInBounds_ne (by omega)]
theorem results_board_tmp2 {fn:Func} {p t u:Tmp} (h:fn.results=#[.cell p 24,.tmp t,.tmp u]) (tmps:Array Value) (w:World) (g:Nat) (B:List Int) (hB:B.length=64)
  (hp:tmps.getD p undef=.pointer (some ⟨g,0,none⟩)) (hg:w.heap[g]?=some (.cells (cl B).toArray 24 (0,0))) :
  (results fn tmps).run Tryz.prog w=.ok (.tuple #[.agg (cl B).toArray,tmps.getD t undef,tmps.getD u undef]) w:=by
 have hp':tmps[p]?.getD undef=.pointer (some ⟨g,0,none⟩):=by simpa using hp
 simp [results,h,hp',asAddr,run_load_cl hB hg]
structure Mid (t:ByteArray) (w wr:World) (pos:Nat) (s:St):Prop where
 le:pos≤t.size
 says:says (t.data.toList.take pos)=some s
 iter:wr.heap[w.heap.size+1+1]?=some (.stringIter t pos)
 rd:RdS wr (w.heap.size+1) s
 res:wr.heap[w.heap.size]?=some (.cells (cl Zb).toArray 24 (0,0))
 kept:Kept w wr
theorem Mid.start (t:ByteArray) (w:World):Mid t w (((w.alloc (.cells (cl Zb).toArray 24)).alloc (.cells (rc Zb 0 7).toArray 125)).iter t 0) 0 ([],0,0):=by
 have k:=Kept.of_grown (grown_iter ((w.alloc (.cells (cl Zb).toArray 24)).alloc (.cells (rc Zb 0 7).toArray 125)) t 0)
 refine ⟨by omega,rfl,?_,⟨bd_length _,?_⟩,?_,?_⟩
 ·simpa using World.iter_heap ((w.alloc (.cells (cl Zb).toArray 24)).alloc (.cells (rc Zb 0 7).toArray 125)) t 0
 ·rw [bd_nil]
  exact k.heap (heap_alloc2_new _ _ _)
 ·exact k.heap (heap_alloc2_old _ _ _)
 ·exact (((Kept.refl w).alloc _).alloc _).trans k
theorem Mid.inv {t:ByteArray} {w wr:World} {pos:Nat} {s:St} (h:Mid t w wr pos s):Inv s:=says_inv h.says
theorem Mid.next {t:ByteArray} {w wr:World} {pos:Nat} {s:St} (h:Mid t w wr pos s) (p:Nat):RdS (iterAt wr (w.heap.size+1+1) t p) (w.heap.size+1) s :=
 ⟨h.rd.len,(iterAt_other t p (by omega)).trans h.rd.at_⟩
theorem Mid.keptN {t:ByteArray} {w wr:World} {pos:Nat} {s:St} (h:Mid t w wr pos s) (p:Nat):Kept w (iterAt wr (w.heap.size+1+1) t p):=h.kept.iterAt (by omega) t p
theorem Mid.resN {t:ByteArray} {w wr:World} {pos:Nat} {s:St} (h:Mid t w wr pos s) (p:Nat):(iterAt wr (w.heap.size+1+1) t p).heap[w.heap.size]?=some (.cells (cl Zb).toArray 24 (0,0)) :=
 (iterAt_other t p (by omega)).trans h.res
theorem len_size (t:ByteArray):t.data.toList.length=t.size:=Array.length_toList
theorem at_size (t:ByteArray) (pos:Nat) (h:pos<t.size):t.data.toList[pos]'(by rw [len_size];exact h)=t[pos]'h:=by simp;rfl
theorem Mid.step {t:ByteArray} {w wr w2:World} {pos:Nat} {s s':St} (h:Mid t w wr pos s) (hp:pos<t.size) (hs:stp (t[pos]'hp) s=some s')
  (hr:RdS w2 (w.heap.size+1) s') (hk:KeptB (w.heap.size+1) (iterAt wr (w.heap.size+1+1) t (pos+1)) w2):Mid t w w2 (pos+1) s':=by
 refine ⟨by omega,?_,hk.heap (by omega) (iterAt_heap h.iter t (pos+1)),hr,hk.heap (by omega) (h.resN _),hk.kept (h.keptN _) (by omega)⟩
 rw [says_take _ _ (by rw [len_size];exact hp),h.says,at_size t pos hp]
 exact hs
theorem Mid.stop {t:ByteArray} {w wr:World} {pos:Nat} {s:St} (h:Mid t w wr pos s) (hp:pos<t.size) (hs:stp (t[pos]'hp) s=none):Reads t.data.toList Zb pos 2:=by
 refine .inl ⟨by rw [len_size];exact hp,⟨s,h.says⟩,?_,rfl,rfl⟩
 rw [says_take _ _ (by rw [len_size];exact hp),h.says,at_size t pos hp]
 exact hs
theorem Mid.all {t:ByteArray} {w wr:World} {pos:Nat} {s:St} (h:Mid t w wr pos s) (hp:¬ pos<t.size):Go.Proofs.YtlbipjmmlobofaaGreatDoor.says t.data.toList=some s∧pos=t.size:=by
 have e:pos=t.size:=by have:=h.le;omega
 refine ⟨?_,e⟩
 have:=h.says
 rwa [e,← len_size,List.take_length] at this
theorem read_is (t:ByteArray) (hm:t.size≤1000) (w:World) :
  Calls Tryz.prog 74 #[.string t] w fun e w'=>∃ (B:List Int) (n:Nat) (x:Int),e=.returned (.tuple #[.agg (cl B).toArray,.int .i64 n,.int .i64 x])∧Reads t.data.toList B n x∧Kept w w':=by
 have hz:=Qh (size_cl Zb_brd.1)
 go_enter Tryz.func74,Tryz.ntmps74
 go_wp2_with (first|(with_reducible refine wpList_new_b rfl rfl ?_)|(refine wpList_build_rd (by rfl) _ rfl rfl ?_)|(with_reducible refine wpList_new_rd rfl rfl ?_)|((with_reducible refine wpList_store_rd rfl _ _ rfl ?_ ?_ ?_);exact rfl;exact rfl))
 go_loopw [6] (fun _ wr=>∃ (pos:Nat) (s:St),Mid t w wr pos s) (fun _ wr=>t.size-wr.iterPos (w.heap.size+1+1))
 case atStart=>exact ⟨0,_,Mid.start t w⟩
 case round =>
  obtain ⟨pos,s,hM⟩:=hrel
  have HM:=Qh hM
  have hI:=Qh hM.inv
  clear hM
  by_cases hp:pos<t.size
  ·by_cases hc:(t[pos]'hp).toNat<128
   ·have hd:=decode_ascii t pos hp hc
    have hnx:∀ ty,(Instr.next (.pointer (some ⟨w.heap.size+1+1,0,none⟩)) true ty).run Tryz.prog _=_:=fun ty=>next_at _ (w.heap.size+1+1) t pos ty HM.out.iter hp
    rw [hd] at hnx
    clear hd
    cases hs:stp (t[pos]'hp) s with
    | some s' =>
     have HS:=Qh hs
     clear hs
     generalize hcc:t[pos]'hp=c at *
     have HC:=Qh hcc
     clear hcc
     go_wp2_with fail
     refine (take_yes _ _ s s' hI.out (HM.out.next _) c HS.out).mono ?_
     rintro e w2 ⟨rfl,hr,hk⟩
     have HN:=Qh (HM.out.step hp (by rw [HC.out];exact HS.out) hr hk)
     clear hr hk
     go_wp2
     go_roundw
     case rel=>exact ⟨pos+1,s',HN.out⟩
     case measure=>simp [World.iterPos,HN.out.iter,HM.out.iter];omega
    | none =>
     have HS:=Qh (HM.out.stop hp hs)
     have HS':=Qh hs
     clear hs
     generalize hcc:t[pos]'hp=c at *
     clear hcc
     go_wp2_with fail
     refine (take_no _ _ s hI.out (HM.out.next _) c hc HS'.out).mono ?_
     rintro e w2 ⟨rfl,g2⟩
     have h01:=Qh (g2.heap (HM.out.resN (pos+1)))
     have K2:=Qh ((HM.out.keptN (pos+1)).trans g2)
     clear g2
     go_wp2_with (first|(refine wpList_zero_w (by rfl) rfl ?_)|(refine wpList_store_row rfl 24 _ _ rfl w.heap.size (cl Zb).toArray rfl rfl 24 _ h01.out hz.out rfl (cl_one _) ?_))
     refine bodyPost_ret (v:=.tuple #[.agg (cl Zb).toArray,.int .i64 pos,.int .i64 2]) ?_ rfl ⟨Zb,pos,2,rfl,HS.out,K2.out.setRow (by omega) _⟩
     exact (results_board_tmp2 (p:=2) (t:=3) (u:=4) rfl _ _ w.heap.size Zb Zb_brd.1 rfl (setRow_heap _ _ _ _ _ _ h01.out)).trans rfl
   ·have hq:=(decode_high t pos hp (by omega)).1
    have HS:=Qh (HM.out.stop hp (stp_high _ s (by omega)))
    have hnx:∀ ty,(Instr.next (.pointer (some ⟨w.heap.size+1+1,0,none⟩)) true ty).run Tryz.prog _=_:=fun ty=>next_at _ (w.heap.size+1+1) t pos ty HM.out.iter hp
    generalize (Utf8.decode t pos).1=q at *
    generalize (Utf8.decode t pos).2=k at *
    clear hc
    go_wp2_with fail
    refine (take_high _ _ q hq).mono ?_
    rintro e w2 ⟨rfl,g2⟩
    have h01:=Qh (g2.heap (HM.out.resN (pos+k)))
    have K2:=Qh ((HM.out.keptN (pos+k)).trans g2)
    clear g2
    go_wp2_with (first|(refine wpList_zero_w (by rfl) rfl ?_)|(refine wpList_store_row rfl 24 _ _ rfl w.heap.size (cl Zb).toArray rfl rfl 24 _ h01.out hz.out rfl (cl_one _) ?_))
    refine bodyPost_ret (v:=.tuple #[.agg (cl Zb).toArray,.int .i64 pos,.int .i64 2]) ?_ rfl ⟨Zb,pos,2,rfl,HS.out,K2.out.setRow (by omega) _⟩
    exact (results_board_tmp2 (p:=2) (t:=3) (u:=4) rfl _ _ w.heap.size Zb Zb_brd.1 rfl (setRow_heap _ _ _ _ _ _ h01.out)).trans rfl
  ·have hnx:∀ ty,(Instr.next (.pointer (some ⟨w.heap.size+1+1,0,none⟩)) true ty).run Tryz.prog _=_:=fun ty=>next_at_end _ (w.heap.size+1+1) t pos ty HM.out.iter hp
   have HA:=Qh (HM.out.all hp)
   obtain ⟨i1,i2,i3,i4⟩:=hI.out
   have HB:=Qh i4
   have HL:=Qh i1
   clear i1 i4
   have h01:=Qh HM.out.res
   have hR:=Qh HM.out.rd
   have hK:=Qh HM.out.kept
   go_wp2_with fail
   refine (whole_is _ _ _ _ _ hR.out (by omega) (by omega) (by omega) (by omega)).mono ?_
   by_cases hw:s.2.2=8∧s.2.1=7
   ·have hwb:(((s.2.2:Int) == 8) && ((7-(s.2.1:Int)) == 0))=true:=by
     rw [Bool.and_eq_true,beq_iff_eq,beq_iff_eq];omega
    rw [hwb]
    rintro e w' ⟨rfl,rfl⟩
    have HE:Hid (Reads t.data.toList (bd s.1) t.size 0):=by
     refine .inr ⟨s,HA.out.1,(len_size t).symm,.inr ⟨?_,rfl,rfl⟩⟩
     have:=HL.out;omega
    have hlen:=Qh (bd_length s.1)
    clear hwb hw hnx
    go_wp2_with (first|(refine wpList_load_mid rfl 24 _ rfl (w.heap.size+1) 0 rfl (cl (bd s.1)) _ hR.out.range Tryz.underlying24 rfl (by rw [size24,cl_length,hlen.out]) ?_)|(refine wpList_store_row rfl 24 _ _ rfl w.heap.size (cl (bd s.1)).toArray rfl rfl 24 _ h01.out (by rw [size24,cl_size _ hlen.out]) (by rw [cl_size _ hlen.out];rfl) (cl_one _) ?_))
    refine bodyPost_ret (v:=.tuple #[.agg (cl (bd s.1)).toArray,.int .i64 t.size,.int .i64 0]) ?_ rfl ⟨bd s.1,t.size,0,rfl,HE.out,hK.out.setRow (by omega) _⟩
    exact (results_board_tmp2 (p:=2) (t:=3) (u:=4) rfl _ _ w.heap.size _ hlen.out rfl (setRow_heap _ _ _ _ _ _ h01.out)).trans rfl
   ·have hwb:(((s.2.2:Int) == 8) && ((7-(s.2.1:Int)) == 0))=false:=by
     rw [← Bool.not_eq_true,Bool.and_eq_true,beq_iff_eq,beq_iff_eq];omega
    rw [hwb]
    rintro e w' ⟨rfl,rfl⟩
    have HE:Hid (Reads t.data.toList Zb t.size 1):=by
     refine .inr ⟨s,HA.out.1,(len_size t).symm,.inl ⟨?_,rfl,rfl⟩⟩
     have:=HL.out;omega
    clear hwb hw hnx
    go_wp2_with (first|(refine wpList_zero_w (by rfl) rfl ?_)|(refine wpList_store_row rfl 24 _ _ rfl w.heap.size (cl Zb).toArray rfl rfl 24 _ h01.out hz.out rfl (cl_one _) ?_))
    refine bodyPost_ret (v:=.tuple #[.agg (cl Zb).toArray,.int .i64 t.size,.int .i64 1]) ?_ rfl ⟨Zb,t.size,1,rfl,HE.out,hK.out.setRow (by omega) _⟩
    exact (results_board_tmp2 (p:=2) (t:=3) (u:=4) rfl _ _ w.heap.size Zb Zb_brd.1 rfl (setRow_heap _ _ _ _ _ _ h01.out)).trans rfl
structure RS where
 B:List Int
 side:Int
 left:List UInt8
 man:Int
 file:Nat
 next:Nat
 ends:Bool
def RS.full (r:RS):RS:={ r with next:=1,ends:=r.side == 1 }
def capK (c:UInt8):Nat:=if c.toNat=80 then 1 else if c.toNat=78 then 2 else if c.toNat=66 then 3 else if c.toNat=82 then 4 else if c.toNat=81 then 5 else if c.toNat=75 then 6 else 0
def sideM (s:Int) (k:Nat):Int:=if s=0 then (k:Int) else -(k:Int)
def rsq (file:Nat) (c:UInt8):Nat:=(c.toNat-49)*8+(file-97)
def rst (c:UInt8) (r:RS):Option RS :=
 match r.next with
 | 0=>match r.left with
  | []=>none
  | d::rest=>if c=d then (if rest=[] then some ({ r with left:=[] }:RS).full else some { r with left:=rest }) else none
 | 1=>if c=32 then some { r with next:=2,ends:=false } else none
 | 2=>if r.side=0∧c=98 then some { r with side:=1,left:=[108,97,99,107],next:=0 }
  else if capK c=0 then none else some { r with man:=sideM r.side (capK c),next:=3 }
 | 3=>if 97≤c.toNat∧c.toNat≤104 then some { r with file:=c.toNat,next:=4 } else none
 | 4=>if 49≤c.toNat∧c.toNat≤56∧r.B.getD (rsq r.file c) 0=0 then some ({ r with B:=r.B.set (rsq r.file c) r.man }:RS).full else none
 | _=>none
def rtwice (c:UInt8) (r:RS):Prop:=r.next=4∧49≤c.toNat∧c.toNat≤56∧r.B.getD (rsq r.file c) 0≠0
def r0:RS:={ B:=Zb,side:=0,left:=[119,104,105,116,101],man:=0,file:=0,next:=0,ends:=false }
def rfeed (r:RS) (l:List UInt8):Option RS:=l.foldl (fun o c=>o.bind (rst c)) (some r)
theorem rfeed_nil (r:RS):rfeed r []=some r:=rfl
theorem rfeed_none (l:List UInt8):l.foldl (fun o c=>o.bind (rst c)) (none:Option RS)=none:=by
 induction l with
 | nil=>rfl
 | cons c l ih=>simpa using ih
theorem rfeed_app (r:RS) (a b:List UInt8):rfeed r (a++b)=(rfeed r a).bind fun r'=>rfeed r' b:=by
 unfold rfeed
 rw [List.foldl_append]
 cases h:a.foldl (fun o c=>o.bind (rst c)) (some r) with
 | none=>exact rfeed_none b
 | some r'=>rfl
theorem rfeed_cons (r:RS) (c:UInt8) (l:List UInt8):rfeed r (c::l)=(rst c r).bind fun r'=>rfeed r' l:=by
 rw [show c::l=[c]++l from rfl,rfeed_app];rfl
theorem rfeed_take (r:RS) (l:List UInt8) (n:Nat) (h:n<l.length):rfeed r (l.take (n+1))=(rfeed r (l.take n)).bind (rst l[n]):=by
 rw [List.take_succ_eq_append_getElem h,rfeed_app]
 rfl
theorem rfeed_some {r:RS} {l:List UInt8} {n m:Nat} {x:RS} (h:rfeed r (l.take m)=some x) (hn:n≤m):∃ y,rfeed r (l.take n)=some y:=by
 cases hq:rfeed r (l.take n) with
 | some y=>exact ⟨y,rfl⟩
 | none =>
  exfalso
  have:l.take m=l.take n++(l.take m).drop n:=by
   conv=>lhs;rw [← List.take_append_drop n (l.take m)]
   rw [List.take_take,Nat.min_eq_left hn]
  rw [this,rfeed_app,hq] at h
  cases h
structure RInv (r:RS):Prop where
 brd:Brd r.B
 side:r.side=0∨r.side=1
 left:∀ x ∈ r.left,x.toNat<128
 len:r.left.length≤5
 man:okB r.man=true
 file:r.next=4→97≤r.file∧r.file≤104
theorem sideM_ok (s:Int) (k:Nat) (h:k≤6):okB (sideM s k)=true∧-6≤sideM s k∧sideM s k≤6:=by
 have:k=0∨k=1∨k=2∨k=3∨k=4∨k=5∨k=6:=by omega
 unfold sideM
 split <;> rcases this with rfl|rfl|rfl|rfl|rfl|rfl|rfl <;> decide
theorem capK_le (c:UInt8):capK c≤6:=by
 unfold capK
 repeat' split
 all_goals omega
theorem okB_bd {m:Int} (h:okB m=true):-6≤m∧m≤6:=by
 unfold okB at h
 rw [Bool.or_eq_true,manB_iff] at h
 rcases h with h|h
 ·have:m=0:=by simpa using h
  omega
 ·exact h.2
theorem set_brd {B:List Int} (h:Brd B) (k:Nat) (m:Int) (hm:-128≤m∧m≤127):Brd (B.set k m):=by
 refine ⟨by simpa using h.1,fun i hi=>?_⟩
 have hl:=h.1
 rw [getD_at _ _ (by simp;omega),List.getElem_set]
 split
 ·exact hm
 ·rw [← getD_at _ _ (by omega)];exact h.2 i hi
theorem r0_inv:RInv r0:=⟨Zb_brd,.inl rfl,by decide,by decide,by decide,by decide⟩
theorem rst_inv {c:UInt8} {r r':RS} (h:rst c r=some r') (i:RInv r):RInv r':=by
 unfold rst at h
 split at h
 ·split at h
  ·cases h
  ·rename_i d rest hl
   have il:=i.left
   have il2:=i.len
   rw [hl] at il il2
   split at h
   ·split at h <;> cases h
    ·exact ⟨i.brd,i.side,by simp [RS.full],by simp [RS.full],i.man,by simp [RS.full]⟩
    ·exact ⟨i.brd,i.side,fun x hx=>il x (by simp [hx]),by simp at il2 ⊢;omega,i.man,by simp [*]⟩
   ·cases h
 ·split at h <;> cases h
  exact ⟨i.brd,i.side,i.left,i.len,i.man,by simp⟩
 ·split at h
  ·cases h
   exact ⟨i.brd,.inr rfl,show ∀ x ∈ ([108,97,99,107]:List UInt8),x.toNat<128 by decide,show ([108,97,99,107]:List UInt8).length≤5 by decide,i.man,by simp⟩
  ·split at h <;> cases h
   exact ⟨i.brd,i.side,i.left,i.len,(sideM_ok _ _ (capK_le c)).1,by simp⟩
 ·split at h
  ·cases h
   exact ⟨i.brd,i.side,i.left,i.len,i.man,fun _=>by assumption⟩
  ·cases h
 ·split at h
  ·cases h
   exact ⟨set_brd i.brd _ _ (by have:=okB_bd i.man;omega),i.side,i.left,i.len,i.man,by simp [RS.full]⟩
  ·cases h
 ·cases h
theorem rst_low {c:UInt8} {r r':RS} (h:rst c r=some r') (i:RInv r):c.toNat<128:=by
 unfold rst at h
 split at h
 ·split at h
  ·cases h
  ·rename_i d rest hl
   split at h
   ·rename_i hc;rw [hc];exact i.left d (by rw [hl];simp)
   ·cases h
 ·split at h
  ·rename_i hc;rw [hc];decide
  ·cases h
 ·split at h
  ·rename_i hc;rw [hc.2];decide
  ·split at h
   ·cases h
   ·rename_i _ hk
    by_cases hc:c.toNat<128
    ·exact hc
    ·exfalso;apply hk;unfold capK;repeat' split
     all_goals omega
 ·split at h
  ·omega
  ·cases h
 ·split at h
  ·omega
  ·cases h
 ·cases h
theorem rfeed_inv {r:RS} (i:RInv r):∀ {l:List UInt8} {x:RS},rfeed r l=some x→RInv x:=by
 intro l
 induction l generalizing r with
 | nil=>intro x h;cases h;exact i
 | cons c l ih =>
  intro x h
  rw [rfeed_cons] at h
  cases hc:rst c r with
  | none=>rw [hc] at h;cases h
  | some r'=>rw [hc] at h;exact ih (rst_inv hc i) h
def PSt (s:ByteArray) (pos:Nat) (f r:Int):Prop :=
 (pos=0∧f=-1∧r=-1)
 ∨ (0<s.size∧pos=(Utf8.decode s 0).2∧f=(Utf8.decode s 0).1-97∧r=-1)
 ∨ (1<s.size∧(Utf8.decode s 0).2=1∧pos=1+(Utf8.decode s 1).2∧f=(Utf8.decode s 0).1-97∧r=(Utf8.decode s 1).1-49)
theorem PSt_0 {s:ByteArray} {f r:Int} (h:PSt s 0 f r) (h0:0<s.size):f=-1∧r=-1∧PSt s ((Utf8.decode s 0).2) ((Utf8.decode s 0).1-97) (-1):=by
 have hw:=width_pos s 0 h0
 rcases h with h|h|h
 ·exact ⟨h.2.1,h.2.2,.inr (.inl ⟨h0,rfl,rfl,rfl⟩)⟩
 ·omega
 ·omega
theorem PSt_1 {s:ByteArray} {f r:Int} (h:PSt s 1 f r) (h1:1<s.size):f=(Utf8.decode s 0).1-97∧r=-1∧PSt s (1+(Utf8.decode s 1).2) ((Utf8.decode s 0).1-97) ((Utf8.decode s 1).1-49):=by
 have hw:=width_pos s 1 h1
 rcases h with h|h|h
 ·omega
 ·exact ⟨h.2.2.1,h.2.2.2,.inr (.inr ⟨h1,h.2.1.symm,rfl,rfl,rfl⟩)⟩
 ·omega
theorem PSt_name {n pos:Nat} (hn:n<64) {f r:Int} (h:PSt (nameOf n) pos f r) (he:¬ pos<2):f=n % 8∧r=n / 8:=by
 have e0:((nameOf n)[0]'(by show 0<2;omega)).toNat=97+n % 8:=by
  show ((97+((n:Int) % 8).toNat).toUInt8).toNat=_
  simp;omega
 have e1:((nameOf n)[1]'(by show 1<2;omega)).toNat=49+n / 8:=by
  show ((49+((n:Int) / 8).toNat).toUInt8).toNat=_
  simp;omega
 have d0:=decode_ascii (nameOf n) 0 (by show 0<2;omega) (by omega)
 have d1:=decode_ascii (nameOf n) 1 (by show 1<2;omega) (by omega)
 rw [e0] at d0
 rw [e1] at d1
 unfold PSt at h
 rw [d0,d1] at h
 simp only at h
 rcases h with h|h|h
 ·omega
 ·omega
 ·omega
theorem pname_size (n:Int):(nameOf n).size=2:=rfl
theorem parse_name (n:Nat) (w:World) (hn:n<64) :
  Calls Tryz.prog 216 #[.string (nameOf n)] w fun e w'=>e=.returned (.tuple #[.int .i64 n,.bool true])∧Grown w w':=by
 have hsz:=pname_size n
 have HS:=Qh (fun (pos:Nat) (f r:Int) (h:PSt (nameOf n) pos f r) (he:¬ pos<2)=>PSt_name hn h he)
 have hq:n / 8*8+n % 8=n:=by omega
 have HQ:=Qh hq
 clear hq
 generalize nameOf n=s at *
 have hsl:s.size≤2:=by omega
 have hsg:2≤s.size:=by omega
 clear hsz
 go_enter Tryz.func216,Tryz.ntmps216
 go_wp2
 go_loopw [4,5] (fun t4 t5 w'=>∃ (pos:Nat) (f r:Int),w'=w.iter s pos∧t4=.int .i64 f∧t5=.int .i64 r∧PSt s pos f r) (fun _ _ w'=>s.size-w'.iterPos w.heap.size)
 case atStart=>exact ⟨0,-1,-1,rfl,rfl,rfl,.inl ⟨rfl,rfl,rfl⟩⟩
 case round =>
  obtain ⟨pos,f,r,rfl,rfl,rfl,hst⟩:=hrel
  by_cases hp:pos<s.size
  ·have hnx:∀ ty,(Instr.next (.pointer (some ⟨w.heap.size,0,none⟩)) true ty).run Tryz.prog (w.iter s pos)=_:=fun ty=>run_next_any w s pos ty hp
   have hwd:=width_pos s pos hp
   have hle:=decode_le s pos
   by_cases h0:pos=0
   ·subst h0
    obtain ⟨rfl,rfl,hst'⟩:=PSt_0 hst hp
    clear hst
    go_wp2
    go_roundw
    case rel=>exact ⟨_,_,_,rfl,rfl,rfl,hst'⟩
    case measure=>simp;omega
   ·obtain rfl:pos=1:=by omega
    obtain ⟨rfl,rfl,hst'⟩:=PSt_1 hst hp
    have hle0:=decode_le s 0
    clear hst h0
    go_wp2
    go_roundw
    case rel=>exact ⟨_,_,_,rfl,rfl,rfl,hst'⟩
    case measure=>simp;omega
  ·have hnx:∀ ty,(Instr.next (.pointer (some ⟨w.heap.size,0,none⟩)) true ty).run Tryz.prog (w.iter s pos)=_:=fun ty=>run_next_end w s pos ty hp
   obtain ⟨rfl,rfl⟩:=HS.out _ _ _ hst (by omega)
   clear hst
   go_wp2_with fail
   refine (at_yes _ _ _ (by omega) (by omega) (by omega) (by omega)).mono ?_
   rintro e w' ⟨rfl,rfl⟩
   go_wp2
   go_ret2
   exact ⟨congrArg (fun i=>Ending.returned (.tuple #[.int .i64 i,.bool true])) (by omega),grown_iter _ _ _⟩
end Go.Proofs.YtlbipjmmlobofaaGreatDoor
