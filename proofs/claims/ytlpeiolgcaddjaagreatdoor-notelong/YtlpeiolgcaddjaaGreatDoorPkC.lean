/- AtA · AtB · AtC · AtD · AtE · AtF · AtG · AtH · AtL · RbC · BoO: my texts, in their order. -/
import Derived.Test.YtlpeiolgcaddjaaGreatDoorPkA
import Derived.Test.YtlpeiolgcaddjaaGreatDoorPkB
import Derived.Laws.EntriesVeiled
import Derived.Test.YtlpeiolgcaddjaaGreatDoorShelf
import Derived.Sort.OwnSortedInts
import Derived.Lib.LaidTab
import Derived.Deep.DeepHandedRow
import Derived.ProofKit
import Derived.OpenShut
import Derived.DataBytes
namespace Go.Proofs.YtlpeiolgcaddjaaGreatDoor
open Go.RowKit
set_option linter.unusedVariables false
set_option linter.unusedSimpArgs false
def SeeMid (ans:Int→Nat→Nat→Bool) (B:List Int) (s:Int) (n:Nat) (l:List Int) (t:Int) (on:Bool) (D:List (Int × Nat × Nat)):Prop :=
 Yz s (wayF n) (wayR n) l t on∧seeL ans B n 1 (rayW s n)=D++seeL ans B n (l.length+1) ((rayW s n).drop l.length)
theorem SeeMid.start {ans:Int→Nat→Nat→Bool} {B:List Int} {s t:Int} {n:Nat} {on:Bool} (h:Yz s (wayF n) (wayR n) [] t on):SeeMid ans B s n [] t on []:=⟨h,rfl⟩
theorem Yz.drop_on {s f r t:Int} {l:List Int} (h:Yz s f r l t true):(rayL s f r).drop l.length=t::(rayL s f r).drop (l.length+1):=by
 rcases h with ⟨_,_,n,_,e⟩|⟨h,_⟩
 ·rw [e,List.drop_left,List.drop_append,List.drop_of_length_le (show l.length≤l.length+1 by omega)]
  simp
 ·cases h
theorem Yz.at_on {s t:Int} {n:Nat} {l:List Int} (h:Yz s (wayF n) (wayR n) l t true):(rayW s n)[l.length]?=some t:=by
 have e:=h.drop_on;have:((rayL s (wayF n) (wayR n)).drop l.length)[0]?=some t:=by rw [e];rfl
 rw [List.getElem?_drop] at this;unfold rayW;simpa using this
theorem SeeMid.next {ans:Int→Nat→Nat→Bool} {B:List Int} {s t u:Int} {n:Nat} {l:List Int} {on:Bool} {D:List (Int × Nat × Nat)} (h:SeeMid ans B s n l t true D)
  (ha:ans t n (l.length+1)=true) (hb:bAt B t=0) (h':Yz s (wayF n) (wayR n) (l++[t]) u on):SeeMid ans B s n (l++[t]) u on (D++[(t,n,l.length+1)]):=by
 refine ⟨h',?_⟩;have e:(rayW s n).drop l.length=t::(rayW s n).drop (l.length+1):=h.1.drop_on;rw [h.2,e,seeL,ha,hb,List.length_append,List.length_singleton];simp
theorem SeeMid.stop {ans:Int→Nat→Nat→Bool} {B:List Int} {s t:Int} {n:Nat} {l:List Int} {D:List (Int × Nat × Nat)} (h:SeeMid ans B s n l t true D)
  (ha:ans t n (l.length+1)=false∨bAt B t≠0):seeL ans B n 1 (rayW s n)=D++[(t,n,l.length+1)]:=by
 have e:(rayW s n).drop l.length=t::(rayW s n).drop (l.length+1):=h.1.drop_on;rw [h.2,e,seeL,if_neg (by rw [Bool.and_eq_true,beq_iff_eq];rintro ⟨a,b⟩;rcases ha with h|h;rw [h] at a;cases a;exact h b)]
theorem SeeMid.off {ans:Int→Nat→Nat→Bool} {B:List Int} {s t:Int} {n:Nat} {l:List Int} {D:List (Int × Nat × Nat)} (h:SeeMid ans B s n l t false D):seeL ans B n 1 (rayW s n)=D:=by
 have e:rayW s n=l:=h.1.done;rw [h.2,e,List.drop_length,seeL,List.append_nil]
theorem Yr {w:World} {gb:Nat} {B:List Int} (hB:Brd B) (h:w.heap[gb]?=some (.cells (cl B).toArray 24 (0,0))) (k:Nat) (hk:k<64) :
  w.cell? ⟨gb,k,none⟩=some (.int .i8 (B.getD k 0)):=by
 rw [cell_of_row _ _ k _ _ (0,0) h];simpa using cl_get B k (by rw [hB.1];exact hk)
theorem see_len (ans:Int→Nat→Nat→Bool) (B:List Int) (way:Nat):∀ (R:List Int) (f0:Nat),(seeL ans B way f0 R).length≤R.length
 | [],f0=>by simp [seeL]
 | z::R,f0=>by
  unfold seeL;split
  ·have:=see_len ans B way R (f0+1)
   simp;omega
  ·simp
theorem lookN_len (ans:Int→Nat→Nat→Bool) (B:List Int) (s:Int):∀ n,(lookN ans B s n).length≤8*n
 | 0=>by simp [lookN]
 | n+1=>by
  have h1:=lookN_len ans B s n;have h2:=see_len ans B n (rayW s n) 1;have h3:=rayL_len s (wayF n) (wayR n);rw [lookN_succ,List.length_append];unfold rayW at h2 ⊢;omega
theorem SeeMid.len {ans:Int→Nat→Nat→Bool} {B:List Int} {s t:Int} {n:Nat} {l:List Int} {on:Bool} {D:List (Int × Nat × Nat)} (h:SeeMid ans B s n l t on D) (hn:n<16):(lookN ans B s n++D).length≤200:=by
 have h1:=lookN_len ans B s n;have h2:=see_len ans B n (rayW s n) 1;have h3:(rayW s n).length≤8:=rayL_len s (wayF n) (wayR n);have h4:=congrArg List.length h.2;rw [List.length_append] at h4 ⊢;omega
theorem Qac {f : FuncId} {fn : Func} {c : Code} (hf : Tryz.prog.funcs[f]? = some fn) (hname : (fn.name == "runtime.NumGoroutine") = false) (hb : fn.body = some c) (args : Array Value) (w : World) :
  (callFunc f args).run Tryz.prog w=.ok (.enter f args) w:=by
 have h1 : fn.name ≠ "runtime.NumGoroutine" := by simpa using hname
 simp [callFunc,hf,h1,hb]
structure Sees (B:List Int) (s:Int) (gb k:Nat) (caps:Array Value) (ans:Int→Nat→Nat→Bool) (Inv:List (Int × Nat × Nat)→World→Prop):Prop where
 ent:∀ args w,(callFunc k args).run Tryz.prog w=.ok (.enter k args) w
 keep:∀ l w w',Inv l w→Kept w w'→Inv l w'
 st:∀ l w,Inv l w→Steps w
 bd:∀ l w,Inv l w→w.heap[gb]?=some (.cells (cl B).toArray 24 (0,0))
 see:∀ (l:List (Int × Nat × Nat)) (t way far:Nat) (w:World),Inv l w→l.length≤200→t<64→way<16→1≤far→far≤8→(rayW s way)[far-1]?=some (t:Int) →
  Calls Tryz.prog k (#[.int .i64 (t:Int),.int .i64 (way:Int),.int .i64 (far:Int)]++caps) w fun e w'=>e=.returned (.bool (ans (t:Int) way far))∧Inv (l++[((t:Int),way,far)]) w'
set_option maxHeartbeats 2000000 in
theorem look_is (B:List Int) (hB:Brd B) (gb:Nat) (s:Int) (k:Nat) (caps:Array Value) (ans:Int→Nat→Nat→Bool) (Inv:List (Int × Nat × Nat)→World→Prop) (hS:Sees B s gb k caps ans Inv) (w:World) (hI:Inv [] w) :
  Calls Tryz.prog 169 #[.pointer (some ⟨gb,0,none⟩),.int .i64 s,.func (.func k) #[] caps] w fun e w'=>e=.returned (.tuple #[])∧Inv (lookL ans B s) w':=by
 have HB:=Qh hB;have HS:=Qh hS;have hent:=hS.ent;have HI:=Qh hI;clear hB hS hI;go_enter Tryz.func169,Tryz.ntmps169;go_wp2
 go_loopw [12] (fun t12 wr=>∃ n:Nat,n≤16∧t12=.int .i64 n∧Inv (lookN ans B s n) wr) (fun t12 _=>16-(intOf t12).toNat)
 case atStart=>exact ⟨0,by omega,rfl,HI.out⟩
 case round =>
  obtain ⟨n,hn,rfl,hI⟩:=hrel;have HI:=Qh hI;clear hI;by_cases hlt:n<16
  ·have hlt':(n:Int)<16:=by omega
   have HNx:=Qh (lookN_succ ans B s n);have HP:=Qh (step_any · (wayF n) (wayR n) · (wayF_wf n hlt).1 (wayF_wf n hlt).2);have H0:=Qh (back_way hlt).2.2.2.2.2;go_wp2_with fail
   refine (wstep_is n hlt _ (HS.out.st _ _ HI.out)).mono ?_;rintro e w1 ⟨rfl,k1⟩;have HI1:=Qh (HS.out.keep _ _ _ HI.out k1);clear k1;go_wp2_with fail
   refine (HP.out _ _).mono ?_;rintro e w' ⟨⟨t,on,rfl,ht⟩,rfl⟩;have HM:=Qh (SeeMid.start (ans:=ans) (B:=B) (Yz.first H0.out ht));clear ht;go_wp2
   go_loopw [9,10,11] (fun t9 t10 t11 wr=>∃ (l:List Int) (D:List (Int × Nat × Nat)) (t:Int) (on:Bool) (far:Nat),t9=.int .i64 t∧t10=.bool on∧t11=.int .i64 far∧far=l.length+1∧SeeMid ans B s n l t on D∧Inv (lookN ans B s n++D) wr) (fun _ _ t11 _=>9-(intOf t11).toNat)
   case atStart=>exact ⟨[],[],t,on,1,rfl,rfl,rfl,rfl,HM.out,by rw [List.append_nil];exact HI1.out⟩
   case round =>
    obtain ⟨l,D,t,on,far,rfl,rfl,rfl,hfar,hm,hI2⟩:=hrel;have HM:=Qh hm;have HI2:=Qh hI2;have HF:=Qh hfar;clear hm hI2 hfar
    cases on
    ·have HN2:=Qh (show Inv (lookN ans B s (n+1)) _ by rw [HNx.out,HM.out.off];exact HI2.out)
     go_wp2;go_roundw
     case rel=>exact ⟨n+1,by omega,by go_num,HN2.out⟩
     case measure=>simp [intOf];omega
    ·obtain ⟨t0,t1,hlen⟩:=HM.out.1.far H0.out
     obtain ⟨tn,rfl⟩:=Int.eq_ofNat_of_zero_le t0;have ht64:tn<64:=by omega
     have hfar8:far≤8:=by have:=HF.out;omega
     have hsee:=HS.out.see _ tn n far _ HI2.out (HM.out.len hlt) ht64 hlt (by have:=HF.out;omega) hfar8 (by rw [HF.out,Nat.add_sub_cancel];exact HM.out.1.at_on);obtain ⟨a,ha⟩:∃ a,ans (tn:Int) n far=a:=⟨_,rfl⟩;rw [ha] at hsee;have HA:=Qh ha;have HSee:=Qh hsee;clear ha hsee
     cases a
     ·have HStop:=Qh (HM.out.stop (.inl (by rw [← HF.out];exact HA.out)))
      go_wp2_with fail
      refine HSee.out.mono ?_;rintro e w3 ⟨rfl,hI3⟩;have HN2:=Qh (show Inv (lookN ans B s (n+1)) w3 by rw [HNx.out,HStop.out,← HF.out,← List.append_assoc];exact hI3);clear hI3;go_wp2;go_roundw
      case rel=>exact ⟨n+1,by omega,by go_num,HN2.out⟩
      case measure=>simp [intOf];omega
     ·obtain ⟨x,hx⟩:∃ x,bAt B (tn:Int)=x:=⟨_,rfl⟩
      have hx':B.getD tn 0=x:=by rw [← hx];rfl
      have HX:=Qh hx;by_cases h0:x=0
      ·have b0:(x == 0)=true:=by simpa using h0
       have H00:=Qh h0;clear h0 hx;go_wp2_with fail
       refine HSee.out.mono ?_;rintro e w3 ⟨rfl,hI3⟩;have hc:=Yr HB.out (HS.out.bd _ _ hI3) tn ht64;rw [hx'] at hc;have HI3:=Qh hI3;clear hI3 hx';go_wp2_with fail
       refine (HP.out _ _).mono ?_;rintro e w' ⟨⟨u,on,rfl,hu⟩,rfl⟩;have HU:=Qh (HM.out.1.next H0.out hu);clear hu;have HM2:=Qh (HM.out.next (by rw [← HF.out];exact HA.out) (by rw [HX.out];exact H00.out) HU.out);go_wp2;go_roundw
       case rel=>exact ⟨l++[(tn:Int)],D++[((tn:Int),n,l.length+1)],u,on,far+1,rfl,rfl,by go_num,by rw [HF.out];simp,HM2.out,by rw [← List.append_assoc,← HF.out];exact HI3.out⟩
       case measure=>simp [intOf];omega
      ·have b0:(x == 0)=false:=by simpa using h0
       have HStop:=Qh (HM.out.stop (.inr (by rw [hx];exact h0)));clear h0 hx;go_wp2_with fail
       refine HSee.out.mono ?_;rintro e w3 ⟨rfl,hI3⟩;have hc:=Yr HB.out (HS.out.bd _ _ hI3) tn ht64;rw [hx'] at hc;have HN2:=Qh (show Inv (lookN ans B s (n+1)) w3 by rw [HNx.out,HStop.out,← HF.out,← List.append_assoc];exact hI3);clear hI3 hx';go_wp2;go_roundw
       case rel=>exact ⟨n+1,by omega,by go_num,HN2.out⟩
       case measure=>simp [intOf];omega
  ·have hlt':¬ (n:Int)<16:=by omega
   have HE:=Qh (show Inv (lookL ans B s) _ by unfold lookL;rw [show 16=n by omega];exact HI.out);go_wp2;refine bodyPost_end (results_none rfl _ _ _) rfl ?_;exact ⟨rfl,HE.out⟩
structure KB (W:World) (g:Nat) (w:World):Prop where
 os:w.os=W.os
 output:w.output=W.output
 size:W.heap.size≤w.heap.size
 block:∀ k,k<W.heap.size→k≠g→w.heap[k]?=W.heap[k]?
theorem KB.refl (W:World) (g:Nat):KB W g W:=⟨rfl,rfl,Nat.le_refl _,fun _ _ _=>rfl⟩
theorem KB.kept {W w w':World} {g:Nat} (h:KB W g w) (k:Kept w w'):KB W g w' :=
 ⟨k.os.trans h.os,k.output.trans h.output,Nat.le_trans h.size k.size,fun i hi hne=>(k.block i (Nat.lt_of_lt_of_le hi h.size)).trans (h.block i hi hne)⟩
theorem KB.heap {W w:World} {g k:Nat} {o:Obj} (h:KB W g w) (hne:k≠g) (hk:W.heap[k]?=some o):w.heap[k]?=some o :=
 (h.block k (Yc hk) hne).trans hk
theorem KB.cell {W w:World} {g:Nat} {a:Addr} {v:Value} (h:KB W g w) (hne:a.block≠g) (hk:W.cell? a=some v):w.cell? a=some v :=
 (World.cell?_of_block (h.block a.block (World.block_lt_of_cell? W a hk) hne)).trans hk
theorem KB.steps {W w:World} {g:Nat} (h:KB W g w) (hne:7≠g) (hk:Steps W):Steps w :=
 fun i hi=>⟨h.cell hne (hk i hi).1,h.cell hne (hk i hi).2⟩
theorem KB.below {V W w:World} {g:Nat} (h:KB W g w) (k:Kept V W) (hg:V.heap.size≤g):Kept V w :=
 ⟨h.os.trans k.os,h.output.trans k.output,Nat.le_trans k.size h.size,fun i hi=>(h.block i (Nat.lt_of_lt_of_le hi k.size) (by omega)).trans (k.block i hi)⟩
structure OutBox (W:World) (go:Nat) (l:List Int) (w:World):Prop where
 kb:KB W go w
 low:go<W.heap.size
 box:∃ v,w.heap[go]?=some (.cells #[v] 84 (0,0))∧OwnZ w W.heap.size v l
theorem OutBox.kept {W w w':World} {go:Nat} {l:List Int} (h:OutBox W go l w) (k:Kept w w'):OutBox W go l w':=by
 obtain ⟨v,h1,h2⟩:=h.box;exact ⟨h.kb.kept k,h.low,v,k.heap h1,h2.kept k⟩
theorem OutBox.start {W:World} {go:Nat} (h:W.heap[go]?=some (.cells #[.slice none 0 0] 84 (0,0))):OutBox W go [] W :=
 ⟨KB.refl _ _,Yc h,_,h,OwnZ.nil _ _⟩
theorem Qo {w:World} {g:Nat} {v:Value} {e:TypeId} (h:w.heap[g]?=some (.cells #[v] e (0,0))):w.cell? ⟨g,0,none⟩=some v:=by
 rw [cell_of_row _ _ 0 _ _ (0,0) h];rfl
theorem Qz {w:World} {g:Nat} {v:Value} {e:TypeId} (h:w.heap[g]?=some (.cells #[v] e (0,0))):w.frozen? ⟨g,0,none⟩=false:=by
 simp [World.frozen?,h]
theorem OwnZ.other {w w':World} {base:Nat} {v:Value} {l:List Int} (h:OwnZ w base v l) (hb:∀ k,base≤k→k<w.heap.size→w'.heap[k]?=w.heap[k]?):OwnZ w' base v l:=by
 obtain ⟨h1,h2⟩:=h;refine ⟨h1,?_⟩;rcases h2 with h2|⟨b,cap,cur,e1,e2,e3,e4⟩
 ·exact .inl h2
 ·exact .inr ⟨b,cap,cur,e1,e2,(hb b e2 (Yc e3)).trans e3,e4⟩
theorem OutBox.push {W w w1 w2:World} {go:Nat} {l l':List Int} {v v':Value} (h:OutBox W go l w) (k:Kept w w1) (hv:OwnZ w1 W.heap.size v l) (hg:w1.grownBy w2 v.ownBlock)
  (hown:OwnZ w2 W.heap.size v' l'):OutBox W go l' (w2.setCell ⟨go,0,none⟩ v'):=by
 obtain ⟨v0,h1,h2⟩:=h.box;have hlo:∀ g,v.ownBlock=some g→W.heap.size≤g:=fun g hg'=>(World.ownsRow.lt hv g hg').1
 have k1:=h.kb.kept k;have hlow:=h.low
 have hgo:w2.heap[go]?=some (.cells #[v0] 84 (0,0)) :=
  (hg.block go (Nat.lt_of_lt_of_le h.low k1.size) (fun e=>by have:=hlo go e.symm;omega)).trans (k.heap h1)
 refine ⟨⟨hg.os.trans k1.os,hg.output.trans k1.output,?_,fun i hi hne=>?_⟩,h.low,v',?_,?_⟩
 ·have:=hg.size;have:=k1.size;simp [World.setCell];omega
 ·rw [heap_setCell_other _ _ _ _ (by simpa using hne),hg.block i (Nat.lt_of_lt_of_le hi k1.size) (fun e=>by have:=hlo i e.symm;omega)]
  exact k1.block i hi hne
 ·rw [heap_setCell_same _ _ _ _ _ _ hgo];rfl
 ·exact hown.other fun b hb _=>heap_setCell_other _ _ _ _ (by simp;omega)
def srt (l:List Int):List Int:=l.mergeSort fun x y=>decide (x≤y)
theorem srt_len (l:List Int):(srt l).length=l.length:=(List.mergeSort_perm l _).length_eq
theorem sort_own (w:World) (base:Nat) (v:Value) (l:List Int) (h:OwnZ w base v l) (hl:l.length≤1000) :
  Calls Tryz.prog 198 #[v] w fun e w'=>e=.returned (.tuple #[])∧OwnZ w' base v (srt l)∧w.grownBy w' v.ownBlock:=by
 rcases h.2 with ⟨rfl,h0⟩|⟨g,cap,cur,rfl,hb,hh,h1,h2,h3,h4⟩
 ·refine (Tryz.slices_Sort_int_none none 0 w).mono ?_
  rintro e w' ⟨rfl,rfl⟩;have:l=[]:=List.eq_nil_of_length_eq_zero h0;subst this;exact ⟨rfl,by simpa [srt] using h,rfl,rfl,rfl,Nat.le_refl _,fun _ _ _=>rfl⟩
 ·have hH:=holds_of_blockI (ss:=l) hh (by rw [Nat.mul_one] at h4;exact h4)
  refine (Tryz.slices_Sort_int g 0 cap l w hH (Yc hh) (by omega)).mono ?_;rintro e w' ⟨rfl,n,os,rfl⟩;refine ⟨rfl,?_,grownBy_sortedI _⟩;have:=ownsRow_sortedI (n:=n) (os:=os) (ss:=l) (ts:=srt l) (base:=base) (srt_len l) hb hh h1 h2 h3;unfold OwnZ zl;rw [srt_len];exact this
theorem OutBox.sorted {W w w':World} {go:Nat} {l:List Int} {v:Value} (h:OutBox W go l w) (h1:w.heap[go]?=some (.cells #[v] 84 (0,0))) (h2:OwnZ w W.heap.size v l) (hs:OwnZ w' W.heap.size v (srt l)) (hg:w.grownBy w' v.ownBlock) :
  w'.heap[go]?=some (.cells #[v] 84 (0,0))∧KB W go w':=by
 have hlo:∀ g,v.ownBlock=some g→W.heap.size≤g:=fun g hg'=>(World.ownsRow.lt h2 g hg').1
 have hsz:=h.kb.size;have hlow:=h.low;refine ⟨(hg.block go (by omega) (fun e=>by have:=hlo go e.symm;omega)).trans h1,hg.os.trans h.kb.os,hg.output.trans h.kb.output,Nat.le_trans h.kb.size hg.size,fun i hi hne=>?_⟩;rw [hg.block i (by omega) (fun e=>by have:=hlo i e.symm;omega)];exact h.kb.block i hi hne
set_option maxHeartbeats 1000000 in
theorem strikes1_is (W:World) (go gm:Nat) (m:Int) (l:List Int) (t way far:Nat) (w:World) (hO:OutBox W go l w) (hl:l.length≤1000) (hm:w.cell? ⟨gm,0,none⟩=some (.int .i64 m)) (hS:Steps w) (hw:way<16) (hf:1≤far) (hf8:far≤8) :
  Calls Tryz.prog 197 #[.int .i64 (t:Int),.int .i64 (way:Int),.int .i64 (far:Int),.pointer (some ⟨gm,0,none⟩),.pointer (some ⟨go,0,none⟩)] w fun e w' =>
   e=.returned (.bool (Jd m way far))∧OutBox W go (if Jd m way far=true then l++[(t:Int)] else l) w':=by
 have HR:=Qh (wreach_is m way far hw hf (by omega) w hS);have HO:=Qh hO;clear hO hS;generalize Jd m way far=b at *
 cases b
 ·go_enter Tryz.func197,Tryz.ntmps197
  go_wp2_with fail
  refine HR.out.mono ?_;rintro e w1 ⟨rfl,k1⟩;have HO1:=Qh (HO.out.kept k1);clear k1;go_wp2;go_ret;exact ⟨rfl,HO1.out⟩
 ·go_enter Tryz.func197,Tryz.ntmps197
  go_wp2_with fail
  refine HR.out.mono ?_;rintro e w1 ⟨rfl,k1⟩;have hO1:=HO.out.kept k1;obtain ⟨v,h1,h2⟩:=hO1.box;have hc:=Qo h1;have HO1:=Qh hO1;have H2:=Qh h2;have hsz:=Qh hO1.kb.size;clear k1 hO1 h1 h2 hm;obtain ⟨a,cap,rfl⟩:=H2.out.slice;have KA:=Qh ((Kept.refl w1).alloc (.cells #[.int .i64 (t:Int)] 3));have HA:=Qh (H2.out.kept KA.out);go_wp2_with (at_builtin;refine Qs rfl _ _ rfl W.heap.size w1.heap.size _ _ l [(t:Int)] rfl rfl HA.out (LsZ.lit _ [(t:Int)] (by simp)) ?c1 ?c2 ?_)
  case c1=>simp;omega
  case c2=>have:=hsz.out;simp;omega
  intro v' w2 hown hg;have hP:=HO1.out.push KA.out HA.out hg hown;have hgo:=Qh hP
  have hq:w2.frozen? ⟨go,0,none⟩=false:=by
   have hlow:=HO1.out.low;have:=(World.ownsRow.lt HA.out);obtain ⟨v0,q1,q2⟩:=(HO1.out.kept KA.out).box;have hb:=hg.block go (by have:=hsz.out;simp;omega) (fun e=>by have:=(this go e.symm).1;omega);exact Qz (hb.trans q1)
  have hq2:∃ u,w2.cell? ⟨go,0,none⟩=some u:=by
   have hlow:=HO1.out.low;have:=(World.ownsRow.lt HA.out);obtain ⟨v0,q1,q2⟩:=(HO1.out.kept KA.out).box;have hb:=hg.block go (by have:=hsz.out;simp;omega) (fun e=>by have:=(this go e.symm).1;omega);exact ⟨v0,Qo (hb.trans q1)⟩
  obtain ⟨u,hq2⟩:=hq2;obtain ⟨a',cap',rfl⟩:=hown.slice;clear hown hg hP;go_wp2;go_ret;exact ⟨rfl,by have h:=hgo.out;rw [List.length_append,List.length_singleton] at h;exact h⟩
structure Tells (s:Int) (go k:Nat) (caps:Array Value) (Inv:World→List (Int × Nat × Nat)→World→Prop):Prop where
 ent:∀ args w,(callFunc k args).run Tryz.prog w=.ok (.enter k args) w
 keep:∀ W l w w',Inv W l w→Kept w w'→Inv W l w'
 kb:∀ W l w,Inv W l w→KB W go w
 tell:∀ (W:World) (l:List (Int × Nat × Nat)) (t way far:Nat) (w:World),Inv W l w→l.length≤200→t<64→way<16→1≤far→far≤8→(rayW s way)[far-1]?=some (t:Int) →
  Calls Tryz.prog k (#[.int .i64 (t:Int),.int .i64 (way:Int),.int .i64 (far:Int)]++caps) w fun e w'=>e=.returned (.tuple #[])∧Inv W (l++[((t:Int),way,far)]) w'
theorem filter_snoc {α:Type} (p:α→Bool) (l:List α) (x:α):(l++[x]).filter p=l.filter p++if p x then [x] else []:=by
 rw [List.filter_append];congr 1;by_cases h:p x <;> simp [h]
set_option maxHeartbeats 2000000 in
theorem strikers1_is (B:List Int) (hB:Brd B) (s side:Int) (gb go k n:Nat) (caps:Array Value) (Inv:World→List (Int × Nat × Nat)→World→Prop) (hT:Tells s go k caps Inv) (W:World)
  (hgb:W.heap[gb]?=some (.cells (cl B).toArray 24 (0,0))) (h1:W.cell? ⟨n,0,none⟩=some (.pointer (some ⟨gb,0,none⟩))) (h2:W.cell? ⟨n+1,0,none⟩=some (.int .i64 side)) (h3:W.cell? ⟨n+1+1,0,none⟩=some (.func (.func k) #[] caps))
  (hS:Steps W) (g0:7≠go) (g1:gb≠go) (g2:go<n)
  (l:List (Int × Nat × Nat)) (t way far:Nat) (w:World) (hI:Inv W (l.filter (toldW B side)) w) (hl:l.length≤200) (ht:t<64) (hw:way<16) (hf:1≤far) (hf8:far≤8) (hr:(rayW s way)[far-1]?=some (t:Int)) :
  Calls Tryz.prog 170 #[.int .i64 (t:Int),.int .i64 (way:Int),.int .i64 (far:Int),.pointer (some ⟨n,0,none⟩),.pointer (some ⟨n+1,0,none⟩),.pointer (some ⟨n+1+1,0,none⟩)] w fun e w' =>
   e=.returned (.bool (ansW (t:Int) way far))∧Inv W ((l++[((t:Int),way,far)]).filter (toldW B side)) w':=by
 have hkb:=hT.kb _ _ _ hI;have c1:=hkb.cell (by simp;omega) h1;have c2:=hkb.cell (by simp;omega) h2;have c3:=hkb.cell (by simp;omega) h3;have c4:=Yr hB (hkb.heap g1 hgb) t ht;have HSt:=Qh (hkb.steps g0 hS);have hent:=hT.ent;obtain ⟨hb1,hb2⟩:=hB.2 t ht;have HTell:=Qh (fun w' (h:Kept w w')=>hT.tell W _ t way far w' (hT.keep _ _ _ _ hI h) (Nat.le_trans (List.length_filter_le _ _) hl) ht hw hf hf8 hr);have HKeep:=Qh (fun w' (h:Kept w w')=>hT.keep _ _ _ _ hI h);have hbk:=Qh (wback_is way hw);have hans:ansW (t:Int) way far=decide ((way:Int)<8):=by unfold ansW;simp;omega
 have HFil:=Qh (filter_snoc (toldW B side) l ((t:Int),way,far));obtain ⟨x,hx⟩:∃ x,B.getD t 0=x:=⟨_,rfl⟩;have hp:toldW B side ((t:Int),way,far)=((sideI x == side) && Jd x (backW way) far):=by unfold toldW;simp only [bAt,Int.toNat_natCast,hx]
 rw [hx] at c4 hb1 hb2;rw [hp] at HFil;have HR:=Qh (fun n=>quiet_more (wreach_q x (backW way) far (back_way hw).1 hf (by omega) (w.drewN n) (HSt.out.drew n)));rw [hans];clear hkb hB hT hI h1 h2 h3 hS hgb hp hx hans hr;generalize Jd x (backW way) far=b at *;have hW8:((way:Int)<8)∨¬ ((way:Int)<8):=by omega
 by_cases hsd:(sideI x == side)=true
 ·rw [hsd,Bool.true_and] at HFil
  cases b
  ·go_enter Tryz.func170,Tryz.ntmps170
   go_wp2
   go_quiet (first|(go_at_call 132;exact Qah (mside_any x _))|(go_at_call 172;exact Qah (hbk.out _))|(go_at_call 171;exact HR.out _))
   go_wp2;go_ret;exact ⟨rfl,by rw [HFil.out];simp only [Bool.false_eq_true,if_false,List.append_nil];exact HKeep.out _ ((Kept.refl w).drewN _)⟩
  ·go_enter Tryz.func170,Tryz.ntmps170
   go_wp2
   go_quiet (first|(go_at_call 132;exact Qah (mside_any x _))|(go_at_call 172;exact Qah (hbk.out _))|(go_at_call 171;exact HR.out _))
   go_wp2_with fail
   refine (HTell.out _ ((Kept.refl w).drewN _)).mono ?_;rintro e w3 ⟨rfl,hI3⟩;have HI3:=Qh hI3;clear hI3;go_wp2;go_ret;exact ⟨rfl,by rw [HFil.out];exact HI3.out⟩
 ·have hsd':(sideI x == side)=false:=by simpa using hsd
  rw [hsd',Bool.false_and] at HFil;clear hsd;go_enter Tryz.func170,Tryz.ntmps170;go_wp2
  go_quiet (first|(go_at_call 132;exact Qah (mside_any x _)))
  go_wp2;go_ret;exact ⟨rfl,by rw [HFil.out];simp only [Bool.false_eq_true,if_false,List.append_nil];exact HKeep.out _ ((Kept.refl w).drewN _)⟩
set_option maxHeartbeats 1000000 in
theorem strikers_is (B:List Int) (hB:Brd B) (s side:Int) (gb go k:Nat) (caps:Array Value) (Inv:World→List (Int × Nat × Nat)→World→Prop) (hT:Tells s go k caps Inv) (w:World)
  (hgb:w.heap[gb]?=some (.cells (cl B).toArray 24 (0,0))) (hS:Steps w) (g0:7≠go) (g1:gb≠go) (g2:go<w.heap.size) (hstart:∀ w1,Kept w w1→Inv w1 [] w1) :
  Calls Tryz.prog 149 #[.pointer (some ⟨gb,0,none⟩),.int .i64 s,.int .i64 side,.func (.func k) #[] caps] w fun e w'=>e=.returned (.tuple #[])∧∃ W,Kept w W∧Inv W (tellL B s side) w':=by
 obtain ⟨W,eW⟩:∃ W,W=((w.alloc (.cells #[.pointer (some ⟨gb,0,none⟩)] 140)).alloc (.cells #[.int .i64 side] 3)).alloc (.cells #[.func (.func k) #[] caps] 141):=⟨_,rfl⟩;have HW:=Qh eW;have hK:Kept w W:=by rw [eW];exact (((Kept.refl w).alloc _).alloc _).alloc _
 have e1:W.heap[w.heap.size]?=some (.cells #[.pointer (some ⟨gb,0,none⟩)] 140 (0,0)):=by
  rw [eW];exact (((Kept.refl _).alloc _).alloc _).heap (heap_alloc_new w _)
 have e2:W.heap[w.heap.size+1]?=some (.cells #[.int .i64 side] 3 (0,0)):=by
  rw [eW];have:=((Kept.refl _).alloc (.cells #[.func (.func k) #[] caps] 141)).heap (heap_alloc_new (w.alloc (.cells #[.pointer (some ⟨gb,0,none⟩)] 140)) (.cells #[.int .i64 side] 3));simpa using this
 have e3:W.heap[w.heap.size+1+1]?=some (.cells #[.func (.func k) #[] caps] 141 (0,0)):=by
  rw [eW];have:=heap_alloc_new ((w.alloc (.cells #[.pointer (some ⟨gb,0,none⟩)] 140)).alloc (.cells #[.int .i64 side] 3)) (.cells #[.func (.func k) #[] caps] 141);simpa using this
 have HC:=Qh (Qo e1)
 have hSees:Sees B s gb 170 #[.pointer (some ⟨w.heap.size,0,none⟩),.pointer (some ⟨w.heap.size+1,0,none⟩),.pointer (some ⟨w.heap.size+1+1,0,none⟩)] ansW (fun l w'=>Inv W (l.filter (toldW B side)) w'):=by
  refine ⟨fun args w=>Qac Tryz.func170 (by kernel_rfl) rfl args w,fun l w w' h k=>hT.keep _ _ _ _ h k,fun l w' h=>(hT.kb _ _ _ h).steps g0 (hS.kept hK),fun l w' h=>(hT.kb _ _ _ h).heap g1 (hK.heap hgb),?_⟩;intro l t way far w' hI hl ht hw hf hf8 hr;exact strikers1_is B hB s side gb go k w.heap.size caps Inv hT W (hK.heap hgb) (Qo e1) (Qo e2) (Qo e3) (hS.kept hK) g0 g1 g2 l t way far w' hI hl ht hw hf hf8 hr
 have HL:=Qh (look_is B hB gb s 170 _ ansW _ hSees W (hstart W hK));have HK:=Qh hK;clear eW hSees hT hgb hS hstart hK e1 e2 e3;go_enter Tryz.func149,Tryz.ntmps149;go_wp2_with fail
 rw [← HW.out];refine HL.out.mono ?_;rintro e w3 ⟨rfl,hI3⟩;have HI3:=Qh hI3;clear hI3;go_wp2;refine bodyPost_end (results_none rfl _ _ _) rfl ?_;exact ⟨rfl,W,HK.out,HI3.out⟩
theorem okS_yes {s:Int} (h0:0≤s) (h1:s<64):okS s=true:=by unfold okS;simp [h0,h1]
theorem okS_no {s:Int} (h:s<0∨64≤s):okS s=false:=by unfold okS;simp;omega
theorem okS_iff {s:Int}:okS s=true↔0≤s∧s<64:=by unfold okS;simp
theorem Steps.low {w:World} (h:Steps w):7<w.heap.size:=World.block_lt_of_cell? w _ (h 0 (by omega)).1
theorem sees_is (a:Addr) (B:List Int) (hB:Brd B) (s:Int) (w:World) :
  Calls Tryz.prog 148 #[.pointer (some a),.agg (cl B).toArray,.int .i64 s] w fun e w'=>e=.returned (.bool (okS s && Jq B))∧Kept w w':=by
 have hz:=Qh (Jf hB.1);have hbl:=Qh (heap_alloc_new w (.cells (cl B).toArray 24));have HB:=Qh hB;clear hB;by_cases hs:s<0∨64≤s
 ·rw [okS_no hs,Bool.false_and]
  have HS:=Qh hs;clear hs;go_enter Tryz.func148,Tryz.ntmps148;go_wp2_with fail
  refine (right_no _ _ HS.out).mono ?_;rintro e w' ⟨rfl,rfl⟩;go_wp2;go_ret;exact ⟨rfl,(Kept.refl _).alloc _⟩
 ·rw [okS_yes (by omega) (by omega),Bool.true_and]
  go_enter Tryz.func148,Tryz.ntmps148;go_wp2_with fail
  refine (Qaf _ _ (by omega) (by omega)).mono ?_;rintro e w' ⟨rfl,rfl⟩;go_wp2_with (refine Qf (by rfl) _ rfl _ rfl _ (hbl.out) hz.out ?_)
  refine (bright_is B HB.out _).mono ?_;rintro e w1 ⟨rfl,k1⟩;have HK:=Qh (((Kept.refl w).alloc _).trans k1);clear k1;go_wp2;go_ret;exact ⟨rfl,HK.out⟩
theorem told_snoc (m:Int) (l:List (Int × Nat × Nat)) (t:Int) (way far:Nat) :
  ((l++[(t,way,far)]).filter (toldM m)).map (·.1)=if Jd m way far=true then (l.filter (toldM m)).map (·.1)++[t] else (l.filter (toldM m)).map (·.1):=by
 rw [filter_snoc];show ((l.filter (toldM m))++if Jd m way far=true then [(t,way,far)] else []).map (·.1)=_;split <;> simp
set_option maxHeartbeats 2000000 in
set_option maxRecDepth 100000 in
theorem strikes_is (a:Addr) (B:List Int) (hB:Brd B) (s:Int) (w:World) (hS:Steps w) :
  Calls Tryz.prog 178 #[.pointer (some a),.agg (cl B).toArray,.int .i64 s] w (NewZ w (if okS s && Jq B then zn (Yv B s) else [])):=by
 have hz:=Qh (Jf hB.1);have hbl:=Qh (heap_alloc_new w (.cells (cl B).toArray 24));have HB:=Qh hB;have HSt:=Qh hS;have hSee:=Qh (sees_is a B hB s);clear hS
 cases hc:okS s && Jq B
 ·rw [hc] at hSee
  clear hB hc;rw [if_neg (by simp)];go_enter Tryz.func178,Tryz.ntmps178;go_wp2_with (refine Qf (by rfl) _ rfl _ rfl _ (hbl.out) hz.out ?_)
  refine (hSee.out _).mono ?_;rintro e w1 ⟨rfl,k1⟩;have HK:=Qh (((Kept.refl w).alloc _).trans k1);clear k1;go_wp2;go_ret;exact ⟨_,rfl,OwnZ.nil _ _,HK.out⟩
 ·rw [hc] at hSee
  rw [if_pos rfl];obtain ⟨h0,h1⟩:=okS_iff.1 (Bool.and_eq_true _ _ ▸ hc).1;obtain ⟨n,rfl⟩:=Int.eq_ofNat_of_zero_le h0;have hn:n<64:=by omega
  obtain ⟨hb1,hb2⟩:=hB.2 n hn;have hOut:=Qh (sort_outM B (n:Int) h0 h1);have hx:bAt B (n:Int)=B.getD n 0:=rfl
  have hlen:(outM B (n:Int)).length≤1000:=by
   unfold outM lookL;have h1:=List.length_filter_le (toldM (bAt B (n:Int))) (lookN (ansM (bAt B (n:Int))) B n 16);have h2:=lookN_len (ansM (bAt B (n:Int))) B n 16;rw [List.length_map];omega
  have HLen:=Qh hlen;have HLk:=Qh (show ∀ (k:Nat) (caps:Array Value) (Inv:List (Int × Nat × Nat)→World→Prop) (hS:Sees B (n:Int) w.heap.size k caps (ansM (bAt B (n:Int))) Inv) (W:World) (hI:Inv [] W),_ from fun k caps Inv hS W hI=>look_is B hB w.heap.size (n:Int) k caps _ Inv hS W hI);have HO:Hid (((lookL (ansM (bAt B (n:Int))) B (n:Int)).filter (toldM (bAt B (n:Int)))).map (·.1)=outM B (n:Int)):=rfl;rw [hx] at HLk HO;clear hB hc hx hlen;generalize hxx:B.getD n 0=x at *;go_enter Tryz.func178,Tryz.ntmps178;go_wp2_with (refine Qf (by rfl) _ rfl _ rfl _ (hbl.out) hz.out ?_)
  refine (hSee.out _).mono ?_;rintro e w1 ⟨rfl,k1⟩;have hb1':=k1.heap hbl.out;have hcell:=Yr HB.out hb1' n hn;rw [hxx] at hcell;replace hcell:=Qa ((Kept.refl w1).alloc (.cells #[.slice none 0 0] 84)) hcell;have hwlt:w.heap.size<w1.heap.size:=Yc hb1';obtain ⟨W,eW⟩:∃ W,W=(w1.alloc (.cells #[.slice none 0 0] 84)).alloc (.cells #[.int .i64 x] 3):=⟨_,rfl⟩;have HW:=Qh eW;have hKW:Kept w1 W:=by rw [eW];exact ((Kept.refl _).alloc _).alloc _
  have hgo:W.heap[w1.heap.size]?=some (.cells #[.slice none 0 0] 84 (0,0)):=by rw [eW];exact ((Kept.refl _).alloc _).heap (heap_alloc_new w1 _)
  have hgm:W.heap[w1.heap.size+1]?=some (.cells #[.int .i64 x] 3 (0,0)):=by
   rw [eW];have:=heap_alloc_new (w1.alloc (.cells #[.slice none 0 0] 84)) (.cells #[.int .i64 x] 3);simpa using this
  have hKw:Kept w W:=((Kept.refl w).alloc _).trans (k1.trans hKW);have hStW:=HSt.out.kept hKw;have hlowG:=HSt.out.low
  have hSees:Sees B (n:Int) w.heap.size 197 #[.pointer (some ⟨w1.heap.size+1,0,none⟩),.pointer (some ⟨w1.heap.size,0,none⟩)] (ansM x) (fun l w'=>OutBox W w1.heap.size ((l.filter (toldM x)).map (·.1)) w'):=by
   refine ⟨fun args w=>Qac Tryz.func197 (by kernel_rfl) rfl args w,fun l w w' h k=>h.kept k,fun l w' h=>h.kb.steps (by omega) hStW,fun l w' h=>h.kb.heap (by omega) (hKW.heap hb1'),?_⟩;intro l t way far w' hI hl ht hw hf hf8 hr;rw [told_snoc];exact strikes1_is W w1.heap.size (w1.heap.size+1) x _ t way far w' hI (by rw [List.length_map];have:=List.length_filter_le (toldM x) l;omega) (hI.kb.cell (by simp) (Qo hgm)) (hI.kb.steps (by omega) hStW) hw hf hf8
  have HLook:=Qh (HLk.out _ _ _ hSees W (OutBox.start hgo));have HKw:=Qh hKw;have Hlt:=Qh (Nat.le_of_lt hwlt);clear hSees hStW hKw hgo hgm hKW eW k1 hb1' hxx hwlt hlowG;go_wp2_with fail
  rw [← HW.out];refine HLook.out.mono ?_;rintro e w3 ⟨rfl,hI3⟩;rw [HO.out] at hI3;obtain ⟨v,q1,q2⟩:=hI3.box;have c3:=Qo q1;have HI3:=Qh hI3;have Q1:=Qh q1;have Q2:=Qh q2;clear hI3 q1 q2 hcell;go_wp2_with fail
  refine (sort_own w3 W.heap.size v _ Q2.out HLen.out).mono ?_;rintro e w4 ⟨rfl,ho4,hg4⟩;obtain ⟨q4,kb4⟩:=HI3.out.sorted Q1.out Q2.out ho4 hg4;have c4:=Qo q4;have HO4:=Qh ho4;have HK4:=Qh (kb4.below HKw.out Hlt.out);clear ho4 hg4 q4 kb4;go_wp2;go_ret;exact ⟨_,rfl,by rw [← hOut.out];exact HO4.out.low HKw.out.size,HK4.out⟩
structure YesBox (W:World) (go:Nat) (b:Bool) (w:World):Prop where
 kb:KB W go w
 low:go<W.heap.size
 box:w.heap[go]?=some (.cells #[.bool b] 4 (0,0))
theorem YesBox.kept {W w w':World} {go:Nat} {b:Bool} (h:YesBox W go b w) (k:Kept w w'):YesBox W go b w':=⟨h.kb.kept k,h.low,k.heap h.box⟩
theorem YesBox.set {W w:World} {go:Nat} {b:Bool} (h:YesBox W go b w) (c:Bool):YesBox W go c (w.setCell ⟨go,0,none⟩ (.bool c)):=by
 refine ⟨⟨h.kb.os,h.kb.output,?_,fun i hi hne=>?_⟩,h.low,?_⟩
 ·have:=h.kb.size;simpa [World.setCell] using this
 ·rw [heap_setCell_other _ _ _ _ (by simpa using hne)];exact h.kb.block i hi hne
 ·rw [heap_setCell_same _ _ _ _ _ _ h.box];rfl
theorem struck1_is (W:World) (go:Nat) (b:Bool) (t way far:Nat) (w:World) (hO:YesBox W go b w) :
  Calls Tryz.prog 150 #[.int .i64 (t:Int),.int .i64 (way:Int),.int .i64 (far:Int),.pointer (some ⟨go,0,none⟩)] w fun e w' =>
   e=.returned (.tuple #[])∧YesBox W go true w':=by
 have hc:=Qo hO.box;have hf:=Qz hO.box;have HO:=Qh (hO.set true);clear hO;go_enter Tryz.func150,Tryz.ntmps150;go_wp2;refine bodyPost_end (results_none rfl _ _ _) rfl ?_;exact ⟨rfl,HO.out⟩
theorem tells_struck (s:Int) (go:Nat):Tells s go 150 #[.pointer (some ⟨go,0,none⟩)] (fun W l w=>YesBox W go (!l.isEmpty) w):=by
 refine ⟨fun args w=>Qac Tryz.func150 (by kernel_rfl) rfl args w,fun W l w w' h k=>h.kept k,fun W l w h=>h.kb,?_⟩;intro W l t way far w hI hl ht hw hf hf8 hr;rw [show (!(l++[((t:Int),way,far)]).isEmpty)=true by simp];exact struck1_is W go _ t way far w hI
def Jl (B:List Int) (s side:Int):Bool:=okS s && Jq B && !(tellL B s side).isEmpty
theorem tell_by (B:List Int) (s side:Int) (h0:0≤s) (h1:s<64):(tellL B s side).length=(byN B s side).length:=by
 have h:=congrArg List.length (sort_outW B s side h0 h1);rw [List.length_mergeSort] at h;simpa [outW,zn] using h
set_option maxRecDepth 100000 in
set_option maxHeartbeats 2000000 in
theorem struck_is (a:Addr) (B:List Int) (hB:Brd B) (s side:Int) (w:World) (hS:Steps w) :
  Calls Tryz.prog 110 #[.pointer (some a),.agg (cl B).toArray,.int .i64 s,.int .i64 side] w fun e w'=>e=.returned (.bool (Jl B s side))∧Kept w w':=by
 have hz:=Qh (Jf hB.1);have hbl:=Qh (heap_alloc_new w (.cells (cl B).toArray 24));have HB:=Qh hB;have HSt:=Qh hS;have hSee:=Qh (sees_is a B hB s);clear hS;unfold Jl
 cases hc:okS s && Jq B
 ·rw [hc] at hSee
  clear hB hc;rw [Bool.false_and];go_enter Tryz.func110,Tryz.ntmps110;go_wp2_with (refine Qf (by rfl) _ rfl _ rfl _ (hbl.out) hz.out ?_)
  refine (hSee.out _).mono ?_;rintro e w1 ⟨rfl,k1⟩;have HK:=Qh (((Kept.refl w).alloc _).trans k1);clear k1;go_wp2;go_ret;exact ⟨rfl,HK.out⟩
 ·rw [hc] at hSee
  rw [Bool.true_and];clear hc;go_enter Tryz.func110,Tryz.ntmps110;go_wp2_with (refine Qf (by rfl) _ rfl _ rfl _ (hbl.out) hz.out ?_)
  refine (hSee.out _).mono ?_;rintro e w1 ⟨rfl,k1⟩;have hb1':=k1.heap hbl.out;have hwlt:w.heap.size<w1.heap.size:=Yc hb1';obtain ⟨W1,eW⟩:∃ W,W=w1.alloc (.cells #[.bool false] 4):=⟨_,rfl⟩;have HW:=Qh eW;have hKW:Kept w1 W1:=by rw [eW];exact (Kept.refl _).alloc _
  have hgo:W1.heap[w1.heap.size]?=some (.cells #[.bool false] 4 (0,0)):=by rw [eW];exact heap_alloc_new w1 _
  have hKw:Kept w W1:=((Kept.refl w).alloc _).trans (k1.trans hKW);have hStW:=HSt.out.kept hKw;have hlowG:=HSt.out.low;have HStr:=Qh (strikers_is B HB.out s side w.heap.size w1.heap.size _ _ _ (tells_struck s w1.heap.size) W1 (hKW.heap hb1') hStW (by omega) (by omega) (Yc hgo) (fun w2 k=>⟨KB.refl _ _,Nat.lt_of_lt_of_le (Yc hgo) k.size,k.heap hgo⟩));have HKw:=Qh hKw;have Hlt:=Qh (Nat.le_of_lt hwlt);clear hStW hKw hgo hKW eW k1 hb1' hwlt hlowG hB;go_wp2_with fail
  rw [← HW.out];refine HStr.out.mono ?_;rintro e w3 ⟨rfl,W,hKW,hI3⟩;have c3:=Qo hI3.box;have HK4:=Qh (hI3.kb.below (HKw.out.trans hKW) Hlt.out);clear hI3 hKW;go_wp2;go_ret;exact ⟨rfl,HK4.out⟩
theorem rside_any (m:Int) (w:World):Calls Tryz.prog 122 #[.int .i64 m] w fun e w'=>e=.returned (.int .i64 (sideI m))∧w=w':=by
 have hk:=Qh (rknd_any m);unfold sideI;by_cases h:manB m=true
 ·have hm:=(Jk m).1 h
  have h0:(knd m == 0)=false:=by
   unfold knd;rw [if_neg (by omega)];split <;> simp <;> omega
  rw [if_pos h];generalize knd m=q at *;by_cases hp:0<m
  ·have hp':¬ m<0:=by omega
   rw [if_pos hp];clear h hm;go_enter Tryz.func122,Tryz.ntmps122;go_wp2_with fail
   refine (hk.out _).mono ?_;rintro e w' ⟨rfl,rfl⟩;go_wp2;go_ret;exact ⟨rfl,rfl⟩
  ·have hp':m<0:=by omega
   rw [if_neg hp];clear h hm;go_enter Tryz.func122,Tryz.ntmps122;go_wp2_with fail
   refine (hk.out _).mono ?_;rintro e w' ⟨rfl,rfl⟩;go_wp2;go_ret;exact ⟨rfl,rfl⟩
 ·have hm:=(manB_not m).1 (by simpa using h)
  rw [if_neg h];rw [knd_none hm] at hk;clear h hm;go_enter Tryz.func122,Tryz.ntmps122;go_wp2_with fail
  refine (hk.out _).mono ?_;rintro e w' ⟨rfl,rfl⟩;go_wp2;go_ret;exact ⟨rfl,rfl⟩
theorem ofL_mem {m s:Int} {l:List Int} (h:l ∈ ofL m s) {x:Int} (hx:x ∈ l):0≤x∧x<64:=by
 unfold ofL ofN at h;obtain ⟨way,_,hl⟩:=List.mem_flatMap.1 h;unfold oneL at hl;split at hl
 ·cases hl
 ·rw [List.mem_singleton] at hl
  subst hl;unfold cutL at hx;split at hx
  ·exact alongL_mem hx
  ·exact alongL_mem (List.mem_of_mem_take hx)
theorem hit_found {B:List Int} {s to:Int} {i k:Nat} {l:List Int} (hl:(ofL (bAt B s) s)[i]?=some l) (hk:l[k]?=some to) (hc:∀ j,j<k→∀ y,l[j]?=some y→bAt B y=0):hitB B s to=true:=by
 rw [hitB_iff];unfold Jv;rw [List.mem_flatMap];exact ⟨l,List.mem_of_getElem? hl,(mem_upto B to l).2 ⟨k,hk,hc⟩⟩
theorem hit_none {B:List Int} {s to:Int} (h:∀ (i:Nat) (l:List Int),(ofL (bAt B s) s)[i]?=some l→to ∉ uptoL B l):hitB B s to=false:=by
 rw [Bool.eq_false_iff];intro hc;rw [hitB_iff] at hc;unfold Jv at hc;obtain ⟨l,hl,hx⟩:=List.mem_flatMap.1 hc;obtain ⟨i,hi,e⟩:=List.mem_iff_getElem.1 hl;exact h i l (by rw [List.getElem?_eq_getElem hi,e]) hx
theorem upto_end {B:List Int} {to:Int} {l:List Int} (h:∀ j,j<l.length→l[j]?≠some to):to ∉ uptoL B l:=by
 rw [mem_upto];rintro ⟨i,hi,_⟩;obtain ⟨hlt,_⟩:=List.getElem?_eq_some_iff.1 hi;exact h i hlt hi
theorem upto_stop {B:List Int} {to y:Int} {l:List Int} {k:Nat} (h:∀ j,j<k→l[j]?≠some to) (hy:l[k]?=some y) (hne:y≠to) (hb:bAt B y≠0):to ∉ uptoL B l:=by
 rw [mem_upto];rintro ⟨i,hi,hc⟩;by_cases h1:i<k
 ·exact h i h1 hi
 ·by_cases h2:i=k
  ·subst h2;rw [hy] at hi;exact hne (Option.some.inj hi)
  ·exact hb (hc k (by omega) y hy)
set_option maxRecDepth 100000 in
set_option maxHeartbeats 2000000 in
theorem hits_is (B:List Int) (hB:Brd B) (s:Nat) (hs:s<64) (to:Int) (w:World) :
  Calls Tryz.prog 82 #[.agg (cl B).toArray,.int .i64 (s:Int),.int .i64 to] w fun e w'=>e=.returned (.bool (hitB B (s:Int) to))∧Kept w w':=by
 have hbl:=heap_alloc_new w (.cells (cl B).toArray 24);have hc0:=Yr hB hbl s hs;obtain ⟨hb1,hb2⟩:=hB.2 s hs;have HB:=Qh hB;have HBl:=Qh hbl;have HF:=Qh (fun (i k:Nat) (l:List Int)=>hit_found (B:=B) (s:=(s:Int)) (to:=to) (i:=i) (k:=k) (l:=l));have HN:=Qh (hit_none (B:=B) (s:=(s:Int)) (to:=to));have HMem:=Qh (fun (l:List Int) (h:l ∈ ofL (bAt B (s:Int)) (s:Int)) (x:Int) (hx:x ∈ l)=>ofL_mem h hx);have hx:bAt B (s:Int)=B.getD s 0:=rfl;rw [hx] at HF HN HMem;have hOf:=Qh (rof_is (B.getD s 0) (s:Int));generalize hitB B (s:Int) to=hb at *;generalize B.getD s 0=x at *;clear hB hbl hx;generalize ofL x (s:Int)=L at *;go_enter Tryz.func82,Tryz.ntmps82;go_wp2_with fail
 refine (hOf.out _).mono ?_;rintro e W ⟨v,rfl,hR,hK⟩;have HK:=Qh (((Kept.refl w).alloc _).trans hK);have HBW:=Qh (hK.heap HBl.out);clear hK;by_cases hL:0<L.length
 ·obtain ⟨g7,c7,rfl,hn1,hn2,hrow⟩:=hR.read hL
  unfold maxLen at hn2;have HRow:=Qh hrow;generalize hN:L.length=N at *;have HNN:=Qh hN;clear hR hrow hN hc0;go_wp2
  go_loop [8] (fun t8=>∃ i:Nat,i≤N∧t8=.int .i64 i∧∀ j l,j<i→L[j]?=some l→to ∉ uptoL B l) (fun t8=>N-(intOf t8).toNat)
  case atStart=>exact ⟨0,by omega,rfl,fun j l hj=>by omega⟩
  case round =>
   obtain ⟨i,hi,rfl,hno⟩:=hrel;have HNo:=Qh hno;clear hno;by_cases hlt:i<N
   ·have hlt':(i:Int)<(N:Int):=by omega
    obtain ⟨l,hl⟩:∃ l,L[i]?=some l:=⟨_,List.getElem?_eq_getElem (by have:=HNN.out;omega)⟩;obtain ⟨u,g,hcu,hls,_⟩:=HRow.out i l hl;have HMl:=Qh (HMem.out l (List.mem_of_getElem? hl));have Hl:=Qh hl;clear hl;obtain ⟨au,cu,rfl⟩:=hls.slice;have HLs:=Qh hls;clear hls;generalize hM:l.length=M at *;have HMM:=Qh hM;clear hM;go_wp2
    go_loop [9] (fun t9=>∃ k:Nat,k≤M∧t9=.int .i64 k∧∀ j,j<k→l[j]?≠some to∧∀ y,l[j]?=some y→bAt B y=0) (fun t9=>M-(intOf t9).toNat)
    case atStart=>exact ⟨0,by omega,rfl,fun j hj=>by omega⟩
    case round =>
     obtain ⟨k,hk,rfl,hin⟩:=hrel;have HIn:=Qh hin;clear hin;by_cases hkl:k<M
     ·have hkl':(k:Int)<(M:Int):=by omega
      obtain ⟨y,hy⟩:∃ y,l[k]?=some y:=⟨_,List.getElem?_eq_getElem (by have:=HMM.out;omega)⟩;obtain ⟨off,cu',e6,hk1,hk2,hcell⟩:=HLs.out.full (by have:=HMM.out;omega);injection e6 with e61 e62 e63
      have HE62:=Qh e62;subst e61 e63;clear e62;have d1:=hcell k _ hy;obtain ⟨y0,y1⟩:=HMl.out y (List.mem_of_getElem? hy);obtain ⟨yn,rfl⟩:=Int.eq_ofNat_of_zero_le y0;have hyn:yn<64:=by omega
      have d2:=Yr HB.out HBW.out yn hyn;have HY:=Qh hy;have hbm:M≤9223372036854775807:=by unfold maxLen at hk2;have:=HMM.out;omega
      clear hy hcell hk1 hk2;by_cases hto:(yn:Int)=to
      ·have b0:((yn:Int) == to)=true:=by simpa using hto
       have HE:=Qh (HF.out i k l Hl.out (by rw [HY.out,hto]) (fun j hj y hy=>(HIn.out j hj).2 y hy));clear hto d2;go_wp2;go_ret;exact ⟨by rw [HE.out];rfl,HK.out⟩
      ·have b0:((yn:Int) == to)=false:=by simpa using hto
       have HTo:=Qh hto;clear hto;obtain ⟨z,hz⟩:∃ z,B.getD yn 0=z:=⟨_,rfl⟩;rw [hz] at d2;by_cases h0:z=0
       ·have b1:(z != 0)=false:=by simpa using h0
        have HZ:=Qh (show bAt B (yn:Int)=0 by show B.getD yn 0=0;rw [hz];exact h0);clear h0 hz;go_wp2
        go_round
        case rel=>exact ⟨k+1,by omega,by go_num,fun j hj=>by
         by_cases hji:j<k
         ·exact HIn.out j hji
         ·obtain rfl:j=k:=by omega
          rw [HY.out];exact ⟨fun e=>HTo.out (Option.some.inj e),fun y e=>by rw [← Option.some.inj e];exact HZ.out⟩⟩
        case measure=>simp [intOf];omega
       ·have b1:(z != 0)=true:=by simpa using h0
        have HSt:=Qh (upto_stop (fun j hj=>(HIn.out j hj).1) HY.out HTo.out (show bAt B (yn:Int)≠0 by show B.getD yn 0≠0;rw [hz];exact h0));clear h0 hz;go_wp2
        go_round
        case rel=>exact ⟨i+1,by omega,by go_num,fun j l' hj hl'=>by
         by_cases hji:j<i
         ·exact HNo.out j l' hji hl'
         ·obtain rfl:j=i:=by omega
          rw [Hl.out] at hl';rw [← Option.some.inj hl'];exact HSt.out⟩
        case measure=>simp [intOf];omega
     ·have hkl':¬ (k:Int)<(M:Int):=by omega
      have HSt:=Qh (upto_end (B:=B) (to:=to) (l:=l) (fun j hj=>(HIn.out j (by have:=HMM.out;omega)).1));go_wp2
      go_round
      case rel=>exact ⟨i+1,by omega,by go_num,fun j l' hj hl'=>by
       by_cases hji:j<i
       ·exact HNo.out j l' hji hl'
       ·obtain rfl:j=i:=by omega
        rw [Hl.out] at hl';rw [← Option.some.inj hl'];exact HSt.out⟩
      case measure=>simp [intOf];omega
   ·have hlt':¬ (i:Int)<(N:Int):=by omega
    have HE:=Qh (HN.out (fun j l hl=>HNo.out j l (by obtain ⟨h,_⟩:=List.getElem?_eq_some_iff.1 hl;have:=HNN.out;omega) hl));go_wp2;go_ret;exact ⟨by rw [HE.out];rfl,HK.out⟩
 ·have h0:L=[]:=List.eq_nil_of_length_eq_zero (by omega)
  subst h0;obtain ⟨a7,c7,rfl⟩:=hR.slice;have HE:=Qh (HN.out (fun j l hl=>by simp at hl));clear hR hc0;go_wp2
  go_loop [8] (fun t8=>t8=.int .i64 0) (fun _=>0)
  case atStart=>exact rfl
  case round =>
   obtain rfl:=hrel;go_wp2;go_ret;exact ⟨by rw [HE.out];rfl,HK.out⟩
theorem zn_yes {p:Nat→Bool} {k:Nat} (h:p k=true):zn (sel p (k+1))=zn (sel p k)++[(k:Int)]:=by unfold zn;rw [sel_yes h];simp
theorem zn_no {p:Nat→Bool} {k:Nat} (h:p k=false):zn (sel p (k+1))=zn (sel p k):=by rw [sel_no h]
theorem zn_len (p:Nat→Bool) (k:Nat):(zn (sel p k)).length≤k:=by unfold zn;rw [List.length_map];exact sel_le p k
set_option maxRecDepth 100000 in
set_option maxHeartbeats 2000000 in
theorem rby_is (B:List Int) (hB:Brd B) (s side:Int) (w:World) :
  Calls Tryz.prog 79 #[.agg (cl B).toArray,.int .i64 s,.int .i64 side] w (NewZ w (if okS s && Jq B then zn (byN B s side) else [])):=by
 have hz:=Qh (Jf hB.1);have hbl:=Qh (heap_alloc_new w (.cells (cl B).toArray 24));have HB:=Qh hB;have hRt:=Qh (rright_is B hB);clear hB;by_cases hs:s<0∨64≤s
 ·rw [okS_no hs,Bool.false_and,if_neg (by simp)]
  rcases hs with hs|hs
  ·go_enter Tryz.func79,Tryz.ntmps79
   go_wp2;go_ret;exact ⟨_,rfl,OwnZ.nil _ _,(Kept.refl _).alloc _⟩
  ·have hs':¬ s<0:=by omega
   have hs2:63<s:=by omega
   go_enter Tryz.func79,Tryz.ntmps79;go_wp2;go_ret;exact ⟨_,rfl,OwnZ.nil _ _,(Kept.refl _).alloc _⟩
 ·have hs':¬ s<0:=by omega
  have hs2:¬ 63<s:=by omega
  rw [okS_yes (by omega) (by omega),Bool.true_and]
  cases hr:Jq B
  ·rw [hr] at hRt
   rw [if_neg (by simp)];clear hr hs;go_enter Tryz.func79,Tryz.ntmps79;go_wp2_with (refine Qf (by rfl) _ rfl _ rfl _ (hbl.out) hz.out ?_)
   refine (hRt.out _).mono ?_;rintro e w1 ⟨rfl,k1⟩;have HK:=Qh (((Kept.refl w).alloc _).trans k1);clear k1;go_wp2;go_ret;exact ⟨_,rfl,OwnZ.nil _ _,HK.out⟩
  ·rw [hr] at hRt
   rw [if_pos rfl];have HHit:=Qh (fun (k:Nat) (hk:k<64)=>hits_is B HB.out k hk s);obtain ⟨p,hp⟩:∃ p:Nat→Bool,p=fun (k:Nat)=>(sideI (B.getD k 0) == side) && hitB B (k:Int) s:=⟨_,rfl⟩
   have HM:Hid (zn (byN B s side)=zn (sel p 64)):=by rw [hp];rfl
   have HP:=Qh (fun k=>congrFun hp k);clear hr hs hp;go_enter Tryz.func79,Tryz.ntmps79;go_wp2_with (refine Qf (by rfl) _ rfl _ rfl _ (hbl.out) hz.out ?_)
   refine (hRt.out _).mono ?_;rintro e W ⟨rfl,k1⟩;have HBW:=Qh (k1.heap hbl.out);have HKW:=Qh (((Kept.refl w).alloc _).trans k1);clear k1;go_wp2
   go_loopw [7,8] (fun t7 t8 wr=>∃ k:Nat,k≤64∧t8=.int .i64 k∧OwnZ wr W.heap.size t7 (zn (sel p k))∧Kept W wr) (fun _ t8 _=>64-(intOf t8).toNat)
   case atStart=>exact ⟨0,by omega,rfl,OwnZ.nil _ _,Kept.refl _⟩
   case round =>
    obtain ⟨k,hk,rfl,hown,hK⟩:=hrel;obtain ⟨a,cap,rfl⟩:=hown.slice;have hlen:=zn_len p k;have HO:=Qh hown;have HK:=Qh hK;clear hown hK;by_cases hlt:k<64
    ·have hlt':(k:Int)<64:=by omega
     have hc0:=Yr HB.out (HK.out.heap HBW.out) k hlt;obtain ⟨hb1,hb2⟩:=HB.out.2 k hlt;have hh:=HHit.out k hlt;have hpk:=HP.out k;generalize hitB B (k:Int) s=hb at *;generalize B.getD k 0=x at *
     cases hsd:(sideI x == side)
     ·rw [hsd,Bool.false_and] at hpk
      have HE:=Qh (zn_no hpk);clear hh hpk;generalize (zn (sel p k)).length=N at *;go_wp2_with fail
      refine (rside_any x _).mono ?_;rintro e w' ⟨rfl,rfl⟩;go_wp2;go_roundw
      case rel=>exact ⟨k+1,by omega,by go_num,by rw [HE.out];exact HO.out,HK.out⟩
      case measure=>simp [intOf];omega
     ·rw [hsd,Bool.true_and] at hpk
      have Hh:=Qh hh;have hsz0:=HBW.out;clear hh
      cases hb
      ·have HE:=Qh (zn_no hpk)
       clear hpk;generalize (zn (sel p k)).length=N at *;go_wp2_with fail
       refine (rside_any x _).mono ?_;rintro e w' ⟨rfl,rfl⟩;go_wp2_with (refine Qf (by rfl) _ rfl _ rfl _ (HK.out.heap HBW.out) hz.out ?_)
       refine (Hh.out _).mono ?_;rintro e w2 ⟨rfl,k2⟩;have HO2:=Qh (HO.out.kept k2);have HK2:=Qh (HK.out.trans k2);clear k2 hc0;go_wp2;go_roundw
       case rel=>exact ⟨k+1,by omega,by go_num,by rw [HE.out];exact HO2.out,HK2.out⟩
       case measure=>simp [intOf];omega
      ·have HE:=Qh (zn_yes hpk)
       clear hpk;generalize hN:(zn (sel p k)).length=N at *;go_wp2_with fail
       refine (rside_any x _).mono ?_;rintro e w' ⟨rfl,rfl⟩;go_wp2_with (refine Qf (by rfl) _ rfl _ rfl _ (HK.out.heap HBW.out) hz.out ?_)
       refine (Hh.out _).mono ?_;rintro e w2 ⟨rfl,k2⟩;have HK2:=Qh (HK.out.trans k2);have HA:=Qh (HK2.out.alloc (.cells #[.int .i64 (k:Int)] 3));have HOA:=Qh (HO.out.kept (k2.alloc (.cells #[.int .i64 (k:Int)] 3)));clear k2 hc0;go_wp2_with (at_builtin;refine Qs rfl _ _ rfl W.heap.size w2.heap.size _ _ (zn (sel p k)) [(k:Int)] rfl rfl HOA.out (LsZ.lit _ [(k:Int)] (by simp)) ?c1 ?c2 ?_)
       case c1=>simp;omega
       case c2=>exact HA.out.size
       intro v' w3 hown' hg;have HK3:=Qh (HOA.out.grown HA.out (Nat.le_refl _) hg);obtain ⟨a',cap',rfl⟩:=hown'.slice;have HO3:=Qh hown';clear hown' hg hN;generalize (zn (sel p k)++[(k:Int)]).length=N2 at *;go_wp2;go_roundw
       case rel=>exact ⟨k+1,by omega,by go_num,by rw [HE.out];exact HO3.out,HK3.out⟩
       case measure=>simp [intOf];omega
    ·have hlt':¬ (k:Int)<64:=by omega
     have HE:=Qh (show zn (byN B s side)=zn (sel p k) by rw [HM.out,show 64=k by omega]);generalize (zn (sel p k)).length=N at *;go_wp2;go_ret;exact ⟨_,rfl,by rw [HE.out];exact HO.out.low HKW.out.size,HKW.out.trans HK.out⟩
def kingI (B:List Int) (side:Int):Int:=if side=0 then headI (Yq B 6) else if side=1 then headI (Yq B (-6)) else -1
theorem kingI_bd (B:List Int) (side:Int):-1≤kingI B side∧kingI B side<64:=by
 unfold kingI;split
 ·exact headI_bd B 6
 ·split
  ·exact headI_bd B (-6)
  ·omega
theorem king_any (B:List Int) (hB:Brd B) (side:Int) (w:World) :
  Calls Tryz.prog 107 #[.agg (cl B).toArray,.int .i64 side] w fun e w'=>e=.returned (.int .i64 (kingI B side))∧Kept w w':=by
 unfold kingI;by_cases h0:side=0
 ·subst h0;rw [if_pos rfl];exact king_w B hB w
 ·rw [if_neg h0]
  by_cases h1:side=1
  ·subst h1;rw [if_pos rfl];exact king_b B hB w
  ·rw [if_neg h1];exact king_no B side h0 h1 w
def Qw (side:Int):Int:=if side=0 then 1 else if side=1 then 0 else -1
theorem Ye (side:Int) (w:World):Calls Tryz.prog 96 #[.int .i64 side] w fun e w'=>e=.returned (.int .i64 (Qw side))∧Kept w w':=by
 unfold Qw;by_cases h0:side=0
 ·subst h0;rw [if_pos rfl];exact (other_w w).mono fun _ _ ⟨a,b⟩=>⟨a,b ▸ Kept.refl _⟩
 ·rw [if_neg h0]
  by_cases h1:side=1
  ·subst h1;rw [if_pos rfl];exact (other_b w).mono fun _ _ ⟨a,b⟩=>⟨a,b ▸ Kept.refl _⟩
  ·rw [if_neg h1];exact (other_no side w h0 h1).mono fun _ _ ⟨a,b⟩=>⟨a,b ▸ Kept.refl _⟩
def Qq (B:List Int) (side:Int):Bool:=Jl B (kingI B side) (Qw side)
set_option maxHeartbeats 1000000 in
theorem check_is (a:Addr) (B:List Int) (hB:Brd B) (side:Int) (w:World) (hS:Steps w) :
  Calls Tryz.prog 115 #[.pointer (some a),.agg (cl B).toArray,.int .i64 side] w fun e w'=>e=.returned (.bool (Qq B side))∧Kept w w':=by
 have hbl:=Qh (heap_alloc_new w (.cells (cl B).toArray 24));have HB:=Qh hB;have HSt:=Qh (hS.kept ((Kept.refl w).alloc (.cells (cl B).toArray 24)));clear hB hS;unfold Qq;go_enter Tryz.func115,Tryz.ntmps115;go_wp2;refine wp_region_held_drew (S:=Kept _) (by kernel_rfl) (Kept.refl _).drew (fun Qj=>?_);refine rT 0 7 (.pointer (some a)) rfl rfl Qj ?_;simp only [pA,pN,sZ,sU];refine rY 1 8 rfl rfl (take_load (by rfl) _ rfl _ rfl B HB.out.1 (fun _ h=>h.heap (hbl.out))) Qj ?_;simp only [pA,pN,sZ,sU];refine rY 2 9 rfl rfl (take_load (by rfl) _ rfl _ rfl B HB.out.1 (fun _ h=>h.heap (hbl.out))) Qj ?_;simp only [pA,pN,sZ,sU];refine rT 3 10 (.int .i64 side) rfl rfl Qj ?_;simp only [pA,pN,sZ,sU];refine rT 5 12 (.int .i64 side) rfl rfl Qj ?_;simp only [pA,pN,sZ,sU];refine rR 4 rfl (fun K hK=>?_);go_simp;refine (king_any B HB.out side _).mono ?_;rintro e w1 ⟨rfl,gw1⟩;refine hK.out _ _ (Qj.trans gw1) (fun _=>?_);replace Qj:=Qj.trans gw1;clear hK K;refine rR 6 rfl (fun K hK=>?_);go_simp;refine (Ye side _).mono ?_;rintro e w2 ⟨rfl,gw2⟩;refine hK.out _ _ (Qj.trans gw2) (fun _=>?_);replace Qj:=Qj.trans gw2;clear hK K;refine rR 7 rfl (fun K hK=>?_);go_simp;refine (struck_is a B HB.out (kingI B side) (Qw side) _ (HSt.out.kept Qj)).mono ?_;rintro e w3 ⟨rfl,gw3⟩;refine hK.out _ _ (Qj.trans gw3) (fun _=>?_);replace Qj:=Qj.trans gw3;clear hK K;refine rT 8 6 (.bool (Jl B (kingI B side) (Qw side))) rfl rfl Qj ?_;simp only [pA,pN,sZ,sU];refine wpAnyH_done (by kernel_rfl) ?_ _;go_wp2;go_ret;exact ⟨rfl,((Kept.refl _).alloc _).trans Qj⟩
theorem headI_none {l:List Nat} (h:l.length=0):headI l=-1:=by rw [List.eq_nil_of_length_eq_zero h];rfl
theorem headI_some {l:List Nat} (h:0<l.length):headI l=(l.getD 0 0:Nat):=by
 cases l with
 | nil=>simp at h
 | cons a l=>rfl
set_option maxRecDepth 100000 in
set_option maxHeartbeats 1000000 in
theorem rking_is (B:List Int) (hB:Brd B) (side:Int) (w:World) :
  Calls Tryz.prog 32 #[.agg (cl B).toArray,.int .i64 side] w fun e w'=>e=.returned (.int .i64 (kingI B side))∧Kept w w':=by
 have hz:=Qh (Jf hB.1);have hbl:=Qh (heap_alloc_new w (.cells (cl B).toArray 24));have HW:=Qh (Qao B hB);have HLen:=Qh (fun m=>(show (Yq B m).length≤64 from sel_le _ 64));clear hB;have hcase:side=1∨side=0∨side<0∨1<side:=by omega
 by_cases h1:side=1
 ·subst h1
  have hk:kingI B 1=headI (Yq B (-6)):=rfl;rw [hk];by_cases hl:0<(Yq B (-6)).length
  ·rw [headI_some hl]
   have HLn:=Qh (HLen.out (-6));have HWm:=Qh (HW.out (-6));generalize Yq B (-6)=Lw at *;obtain ⟨y,hy⟩:∃ y,Lw.getD 0 0=y:=⟨_,rfl⟩;rw [hy];go_enter Tryz.func32,Tryz.ntmps32;go_wp2_with (refine Qf (by rfl) _ rfl _ rfl _ (hbl.out) hz.out ?_)
   refine (HWm.out _).mono ?_;rintro e w1 ⟨v,rfl,hown,k1⟩;obtain ⟨a,cap,rfl⟩:=hown.slice;obtain ⟨g,rfl,hc⟩:=hown.at_ 0 hl;rw [hy] at hc;have HK:=Qh (((Kept.refl w).alloc _).trans k1)
   skip
   have hl2:((Lw.length:Int) == 0)=false:=by rw [beq_eq_false_iff_ne];omega
   clear hown k1 hy;generalize Lw.length=N at *;go_wp2;go_ret;exact ⟨rfl,HK.out⟩
  ·rw [headI_none (by omega)]
   have hl0:(Yq B (-6)).length=0:=by omega
   go_enter Tryz.func32,Tryz.ntmps32;go_wp2_with (refine Qf (by rfl) _ rfl _ rfl _ (hbl.out) hz.out ?_)
   refine (HW.out (-6) _).mono ?_;rintro e w1 ⟨v,rfl,hown,k1⟩;obtain ⟨a,cap,rfl⟩:=hown.slice;have HK:=Qh (((Kept.refl w).alloc _).trans k1);clear hown k1;rw [hl0];clear hl0 hl;go_wp2;go_ret;exact ⟨rfl,HK.out⟩
 ·have h1':(side == 1)=false:=by simpa using h1
  by_cases h0:side=0
  ·subst h0
   have hk:kingI B 0=headI (Yq B 6):=rfl;rw [hk];by_cases hl:0<(Yq B 6).length
   ·rw [headI_some hl]
    have HLn:=Qh (HLen.out 6);have HWm:=Qh (HW.out 6);generalize Yq B 6=Lw at *;obtain ⟨y,hy⟩:∃ y,Lw.getD 0 0=y:=⟨_,rfl⟩;rw [hy];go_enter Tryz.func32,Tryz.ntmps32;go_wp2_with (refine Qf (by rfl) _ rfl _ rfl _ (hbl.out) hz.out ?_)
    refine (HWm.out _).mono ?_;rintro e w1 ⟨v,rfl,hown,k1⟩;obtain ⟨a,cap,rfl⟩:=hown.slice;obtain ⟨g,rfl,hc⟩:=hown.at_ 0 hl;rw [hy] at hc;have HK:=Qh (((Kept.refl w).alloc _).trans k1);have hl2:((Lw.length:Int) == 0)=false:=by rw [beq_eq_false_iff_ne];omega
    clear hown k1 hy;generalize Lw.length=N at *;go_wp2;go_ret;exact ⟨rfl,HK.out⟩
   ·rw [headI_none (by omega)]
    have hl0:(Yq B 6).length=0:=by omega
    go_enter Tryz.func32,Tryz.ntmps32;go_wp2_with (refine Qf (by rfl) _ rfl _ rfl _ (hbl.out) hz.out ?_)
    refine (HW.out 6 _).mono ?_;rintro e w1 ⟨v,rfl,hown,k1⟩;obtain ⟨a,cap,rfl⟩:=hown.slice;have HK:=Qh (((Kept.refl w).alloc _).trans k1);clear hown k1;rw [hl0];clear hl0 hl;go_wp2;go_ret;exact ⟨rfl,HK.out⟩
  ·have hk:kingI B side=-1:=by unfold kingI;rw [if_neg h0,if_neg h1]
   rw [hk];have HLn:=Qh (HLen.out 6);go_enter Tryz.func32,Tryz.ntmps32;go_wp2_with (refine Qf (by rfl) _ rfl _ rfl _ (hbl.out) hz.out ?_)
   refine (HW.out 6 _).mono ?_;rintro e w1 ⟨v,rfl,hown,k1⟩;obtain ⟨a,cap,rfl⟩:=hown.slice;have HK:=Qh (((Kept.refl w).alloc _).trans k1);clear hown k1 hk;generalize (Yq B 6).length=N at *;by_cases hN:N=0
   ·subst hN
    go_wp2;go_ret;exact ⟨rfl,HK.out⟩
   ·have hN':((N:Int) == 0)=false:=by simp;omega
    by_cases hs:side<0
    ·go_wp2
     go_ret;exact ⟨rfl,HK.out⟩
    ·have hs2:1<side:=by omega
     go_wp2;go_ret;exact ⟨rfl,HK.out⟩
theorem struck_by (B:List Int) (k side:Int):decide (0<(if okS k && Jq B then zn (byN B k side) else ([]:List Int)).length)=Jl B k side:=by
 unfold Jl
 cases h:okS k && Jq B
 ·simp
 ·obtain ⟨h0,h1⟩:=okS_iff.1 (Bool.and_eq_true _ _ ▸ h).1
  have e:=tell_by B k side h0 h1;rw [if_pos rfl,Bool.true_and];unfold zn;rw [List.length_map,← e]
  cases tellL B k side <;> simp
set_option maxRecDepth 100000 in
set_option maxHeartbeats 1000000 in
theorem Jo (B:List Int) (hB:Brd B) (side:Int) (hs:side=0∨side=1) (w:World) :
  Calls Tryz.prog 33 #[.agg (cl B).toArray,.int .i64 side] w fun e w'=>e=.returned (.bool (Qq B side))∧Kept w w':=by
 have hz:=Qh (Jf hB.1);have hbl:=Qh (heap_alloc_new w (.cells (cl B).toArray 24));have HKg:=Qh (rking_is B hB side);have ho:Qw side=1-side:=by rcases hs with rfl|rfl <;> rfl
 have HBy:=Qh (rby_is B hB (kingI B side) (1-side));have HE:=Qh (struck_by B (kingI B side) (1-side))
 have hlen:(if okS (kingI B side) && Jq B then zn (byN B (kingI B side) (1-side)) else ([]:List Int)).length≤64:=by
  split
  ·exact zn_len _ 64
  ·simp
 unfold Qq;rw [ho]
 have hno:kingI B side<0→Jl B (kingI B side) (1-side)=false:=by
  intro h;unfold Jl;rw [okS_no (.inl h)];rfl
 obtain ⟨kb1,kb2⟩:=kingI_bd B side;generalize Jl B (kingI B side) (1-side)=sb at *;generalize (if okS (kingI B side) && Jq B then zn (byN B (kingI B side) (1-side)) else ([]:List Int))=Z at *;generalize kingI B side=k at *;clear hB ho;by_cases hk:k<0
 ·have HN:=Qh (hno hk)
  have hk':¬ 0≤k:=by omega
  clear hno HE HBy;go_enter Tryz.func33,Tryz.ntmps33;go_wp2_with (refine Qf (by rfl) _ rfl _ rfl _ (hbl.out) hz.out ?_)
  refine (HKg.out _).mono ?_;rintro e w1 ⟨rfl,k1⟩;have HK:=Qh (((Kept.refl w).alloc _).trans k1);clear k1;go_wp2;go_ret;exact ⟨by rw [HN.out];rfl,HK.out⟩
 ·have hk':0≤k:=by omega
  clear hno;go_enter Tryz.func33,Tryz.ntmps33;go_wp2_with (refine Qf (by rfl) _ rfl _ rfl _ (hbl.out) hz.out ?_)
  refine (HKg.out _).mono ?_;rintro e w1 ⟨rfl,k1⟩;have HK:=Qh (((Kept.refl w).alloc _).trans k1);have hb1:=Qh (k1.heap hbl.out);clear k1;go_wp2_with (refine Qf (by rfl) _ rfl _ rfl _ (hb1.out) hz.out ?_)
  refine (HBy.out _).mono ?_;rintro e w2 ⟨v,rfl,hown,k2⟩;obtain ⟨a,cap,rfl⟩:=hown.slice;have HK2:=Qh (HK.out.trans k2);clear hown k2;generalize Z.length=N at *;go_wp2;go_ret;exact ⟨by rw [← HE.out];simp,HK2.out⟩
theorem new_is (w:World):Calls Tryz.prog 54 #[] w fun e w'=>(∃ a,e=.returned (.pointer (some a)))∧Kept w w':=by
 go_enter Tryz.func54,Tryz.ntmps54;go_wp2;go_ret;exact ⟨⟨_,rfl⟩,(Kept.refl _).alloc _⟩
end Go.Proofs.YtlpeiolgcaddjaaGreatDoor
namespace Go.Proofs.YtlpeiolgcaddjaaGreatDoor
open Go.RowKit Go.ChangeShapes
set_option linter.unusedVariables false
theorem pairs_at {H:Type} {enc:TypeId × Value→H} {P:Program} {w:World} {base:Nat} {sp:Nat→Bool} {held:Bool} {fuel:Nat} {t e:TypeId} {n:Nat} {k:IntKind} {f0 f1:Field} {cs:List Value} {D:List (DataW H)} {p:List MemPlace}
  (ht:P.underlying t=some (.array n e)) (he:P.underlying e=some (.struct #[f0,f1])) (o0:f0.offset=0) (o1:f1.offset=1) (h0:P.underlying f0.type=some (.int k)) (h1:P.underlying f1.type=some (.int k)) (c0:P.cellsOf f0.type=1) (c1:P.cellsOf f1.type=1) (ce:P.cellsOf e=2)
  (h:DataW.trod enc P w base sp held fuel t cs=some (.agg D,p)) (i:Nat) (hi:i<n) (a b:Int) (hD:D[i]?=some (.agg [.lit (.int k a),.lit (.int k b)])):cs[i*2]?=some (.int k a)∧cs[i*2+1]?=some (.int k b):=by
 cases fuel with
 | zero=>simp [DataW.trod] at h
 | succ fuel =>
  simp only [DataW.trod,ht,ce] at h;split at h
  ·obtain ⟨xs,hm,hx⟩:=Option.map_eq_some_iff.1 h
   have hxs:xs.map (·.1)=D:=by
    have:=congrArg Prod.fst hx;simpa using this
   obtain ⟨y,hy,hf⟩:=Lib.mapM_at hm i i (by simp [hi]);obtain ⟨y0,y1,m,rfl,hl,g0,g1⟩:=trod_struct2 he hf;obtain ⟨a',e0,rfl,_⟩:=DataW.trod_int h0 g0;obtain ⟨b',e1,rfl,_⟩:=DataW.trod_int h1 g1;have h2:(xs.map (·.1))[i]?=some (DataW.agg [.lit (.int k a'),.lit (.int k b')]:DataW H):=by simp [hy]
   rw [hxs,hD] at h2;simp at h2;obtain ⟨rfl,rfl⟩:=h2;have q0:=congrArg (·[0]?) e0;have q1:=congrArg (·[0]?) e1;simp [c0,c1,o0,o1,List.getElem?_drop] at q0 q1;exact ⟨q0,q1⟩
  ·cases h
theorem gSteps : Tryz.prog.globalNamed "alfil/ways.steps" = some 7 := by kernel_rfl
theorem gStepsType:(Tryz.prog.globals[7]?).map (·.type)=some 183:=by kernel_rfl
theorem cellsStep:Tryz.prog.cellsOf 182=2:=by kernel_rfl
theorem Yk:Tryz.prog.cellsOf 3=1:=by kernel_rfl
def stepsD:List (DataW Unit):=(List.range 16).map fun i=>.agg [.lit (.int .i64 (wayF i)),.lit (.int .i64 (wayR i))]
theorem steps_of {W : World} (h : laidMetH Tryz.prog [("alfil/ways.steps", Rows.laid_alfil_ways_steps)] W) : Steps W := by
 obtain ⟨ps,⟨g',t',cs,fuel,p,q,hg',ht',hvar,hd,_,_⟩,_⟩:=h;obtain rfl:=Option.some.inj (gSteps.symm.trans hg');obtain rfl:=Option.some.inj (gStepsType.symm.trans ht');intro i hi;have hD:stepsD[i]?=some (.agg [.lit (.int .i64 (wayF i)),.lit (.int .i64 (wayR i))]):=by simp [stepsD,hi]
 obtain ⟨q1,q2⟩:=pairs_at Tryz.underlying183 Tryz.underlying182 rfl rfl Tryz.underlying3 Tryz.underlying3 Yk Yk cellsStep hd i hi _ _ hD;have v1:=World.var?_cell gSteps hvar (i*2);have v2:=World.var?_cell gSteps hvar (i*2+1);rw [v1,v2];exact ⟨by simpa using q1,by simpa using q2⟩
end Go.Proofs.YtlpeiolgcaddjaaGreatDoor
namespace Go.Proofs.YtlpeiolgcaddjaaGreatDoor
set_option maxRecDepth 100000
open Go.ChangeShapes Go.WideShapes Go.ChangeAt Go.RowKit
set_option linter.unusedVariables false
section
variable {H:Type} {enc:TypeId × Value→H}
def dB (H:Type) (B:List Int):DataW H:=.agg (B.map fun x=>.lit (.int .i8 x))
theorem wf_i8 (x:Int):(Lit.int .i8 x).wf=true↔-128≤x∧x≤127:=by
 have e1:IntKind.i8.min=-128:=by decide
 have e2:IntKind.i8.max=127:=by decide
 simp [Lit.wf,e1,e2]
theorem chunk {cs:List Value} {i:Nat} (h:i<cs.length):(cs.drop (i*1)).take 1=[cs[i]]:=by
 rw [Nat.mul_one,List.drop_eq_getElem_cons h];rfl
set_option maxRecDepth 100000 in
theorem shut_board {W:World} {base:Nat} {sp:Nat→Bool} {hd:Bool} (B:List Int) (hB:Brd B):DataW.Trod enc Tryz.prog W base sp hd 24 (.agg (cl B).toArray) (dB H B) []:=by
 refine ⟨2,?_⟩;have hc:(Value.agg (cl B).toArray).cells.toList=cl B:=rfl;rw [hc]
 have step:∀ i ∈ List.range 64,DataW.trod enc Tryz.prog W base sp hd 1 22 (((cl B).drop (i*Tryz.prog.cellsOf 22)).take (Tryz.prog.cellsOf 22))=some ((DataW.lit (.int .i8 (B.getD i 0)),[]):DataW H × List MemPlace):=by
  intro i hi;have hi64:i<64:=by simpa using hi
  have hlt:i<(cl B).length:=by rw [Yp,hB.1];exact hi64
  rw [cells22,chunk hlt];have h3:=cl_get B i (by rw [hB.1];exact hi64);rw [List.getElem?_eq_getElem hlt] at h3;rw [Option.some.inj h3];have hw:=(wf_i8 _).2 (hB.2 i hi64);unfold DataW.trod;rw [Tryz.underlying22];simp only [hw,and_self,if_true]
 have hm:=mapM_some_of_forall (f:=fun i=>DataW.trod enc Tryz.prog W base sp hd 1 22 (((cl B).drop (i*Tryz.prog.cellsOf 22)).take (Tryz.prog.cellsOf 22))) (List.range 64) step;unfold DataW.trod;rw [Tryz.underlying24];simp only [Yp,hB.1,cells24,if_true,hm,Option.map_some,Option.some.injEq,Prod.mk.injEq];refine ⟨?_,?_⟩
 ·unfold dB
  congr 1
  refine List.ext_getElem (by simp [hB.1]) fun i h1 h2=>?_
  have h3:i<B.length:=by simpa using h2
  simp [List.getD,List.getElem?_eq_getElem h3]
 ·rw [List.flatMap_eq_nil_iff]
  intro x hx;simp only [List.mem_map] at hx;obtain ⟨i,_,rfl⟩:=hx;rfl
end
end Go.Proofs.YtlpeiolgcaddjaaGreatDoor
