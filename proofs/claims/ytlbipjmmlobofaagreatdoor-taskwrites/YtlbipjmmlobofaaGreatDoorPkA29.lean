/- AtC · AtD · AtE: my texts, in their order. -/
import Derived.Test.YtlbipjmmlobofaaGreatDoorPkA28
namespace Go.Proofs.YtlbipjmmlobofaaGreatDoor
open Go.RowKit
set_option linter.unusedVariables false
set_option linter.unusedSimpArgs false
structure Tells (s:Int) (go k:Nat) (caps:Array Value) (Inv:World→List (Int × Nat × Nat)→World→Prop):Prop where
 ent:∀ args w,(callFunc k args).run Tryz.prog w=.ok (.enter k args) w
 keep:∀ W l w w',Inv W l w→Kept w w'→Inv W l w'
 kb:∀ W l w,Inv W l w→KB W go w
 tell:∀ (W:World) (l:List (Int × Nat × Nat)) (t way far:Nat) (w:World),Inv W l w→l.length≤200→t<64→way<16→1≤far→far≤8→(rayW s way)[far-1]?=some (t:Int) →
  Calls Tryz.prog k (#[.int .i64 (t:Int),.int .i64 (way:Int),.int .i64 (far:Int)]++caps) w fun e w'=>e=.returned (.tuple #[])∧Inv W (l++[((t:Int),way,far)]) w'
theorem filter_snoc {α:Type} (p:α→Bool) (l:List α) (x:α):(l++[x]).filter p=l.filter p++if p x then [x] else []:=by
 rw [List.filter_append];congr 1;by_cases h:p x <;> simp [h]
set_option maxHeartbeats 2000000 in
theorem strikers1_is (B:List Int) (hB:Brd B) (s side:Int) (gb go k n:Nat) (caps:Array Value) (Inv:World→List (Int × Nat × Nat)→World→Prop) (hT:Tells s go k caps Inv) (W:World)
  (hgb:W.heap[gb]?=some (.cells (cl B).toArray 24 (0,0))) (h1:W.cell? ⟨n,0,none⟩=some (.pointer (some ⟨gb,0,none⟩))) (h2:W.cell? ⟨n+1,0,none⟩=some (.int .i64 side)) (h3:W.cell? ⟨n+1+1,0,none⟩=some (.func (.func k) #[] caps))
  (hS:Steps W) (g0:6≠go) (g1:gb≠go) (g2:go<n)
  (l:List (Int × Nat × Nat)) (t way far:Nat) (w:World) (hI:Inv W (l.filter (toldW B side)) w) (hl:l.length≤200) (ht:t<64) (hw:way<16) (hf:1≤far) (hf8:far≤8) (hr:(rayW s way)[far-1]?=some (t:Int)) :
  Calls Tryz.prog 184 #[.int .i64 (t:Int),.int .i64 (way:Int),.int .i64 (far:Int),.pointer (some ⟨n,0,none⟩),.pointer (some ⟨n+1,0,none⟩),.pointer (some ⟨n+1+1,0,none⟩)] w fun e w' =>
   e=.returned (.bool (ansW (t:Int) way far))∧Inv W ((l++[((t:Int),way,far)]).filter (toldW B side)) w':=by
 have hkb:=hT.kb _ _ _ hI
 have c1:=hkb.cell (by simp;omega) h1
 have c2:=hkb.cell (by simp;omega) h2
 have c3:=hkb.cell (by simp;omega) h3
 have c4:=board_cell hB (hkb.heap g1 hgb) t ht
 have HSt:=Qh (hkb.steps g0 hS)
 have hent:=hT.ent
 obtain ⟨hb1,hb2⟩:=hB.2 t ht
 have HTell:=Qh (fun w' (h:Kept w w')=>hT.tell W _ t way far w' (hT.keep _ _ _ _ hI h) (Nat.le_trans (List.length_filter_le _ _) hl) ht hw hf hf8 hr)
 have HKeep:=Qh (fun w' (h:Kept w w')=>hT.keep _ _ _ _ hI h)
 have hbk:=Qh (wback_is way hw)
 have hans:ansW (t:Int) way far=decide ((way:Int)<8):=by unfold ansW;simp;omega
 have HFil:=Qh (filter_snoc (toldW B side) l ((t:Int),way,far))
 obtain ⟨x,hx⟩:∃ x,B.getD t 0=x:=⟨_,rfl⟩
 have hp:toldW B side ((t:Int),way,far)=((sideI x == side) && reachB x (backW way) far):=by unfold toldW;simp only [bAt,Int.toNat_natCast,hx]
 rw [hx] at c4 hb1 hb2
 rw [hp] at HFil
 have HR:=Qh (fun n=>quiet_more (wreach_q x (backW way) far (back_way hw).1 hf (by omega) (w.drewN n) (HSt.out.drew n)))
 rw [hans]
 clear hkb hB hT hI h1 h2 h3 hS hgb hp hx hans hr
 generalize reachB x (backW way) far=b at *
 have hW8:((way:Int)<8)∨¬ ((way:Int)<8):=by omega
 by_cases hsd:(sideI x == side)=true
 ·rw [hsd,Bool.true_and] at HFil
  cases b
  ·go_enter Tryz.func184,Tryz.ntmps184
   go_wp2
   go_quiet (first|(go_at_call 133;exact quiet_same (mside_any x _))|(go_at_call 186;exact quiet_same (hbk.out _))|(go_at_call 185;exact HR.out _))
   go_wp2
   go_ret
   exact ⟨rfl,by rw [HFil.out];simp only [Bool.false_eq_true,if_false,List.append_nil];exact HKeep.out _ ((Kept.refl w).drewN _)⟩
  ·go_enter Tryz.func184,Tryz.ntmps184
   go_wp2
   go_quiet (first|(go_at_call 133;exact quiet_same (mside_any x _))|(go_at_call 186;exact quiet_same (hbk.out _))|(go_at_call 185;exact HR.out _))
   go_wp2_with fail
   refine (HTell.out _ ((Kept.refl w).drewN _)).mono ?_
   rintro e w3 ⟨rfl,hI3⟩
   have HI3:=Qh hI3
   clear hI3
   go_wp2
   go_ret
   exact ⟨rfl,by rw [HFil.out];exact HI3.out⟩
 ·have hsd':(sideI x == side)=false:=by simpa using hsd
  rw [hsd',Bool.false_and] at HFil
  clear hsd
  go_enter Tryz.func184,Tryz.ntmps184
  go_wp2
  go_quiet (first|(go_at_call 133;exact quiet_same (mside_any x _)))
  go_wp2
  go_ret
  exact ⟨rfl,by rw [HFil.out];simp only [Bool.false_eq_true,if_false,List.append_nil];exact HKeep.out _ ((Kept.refl w).drewN _)⟩
set_option maxHeartbeats 1000000 in
theorem strikers_is (B:List Int) (hB:Brd B) (s side:Int) (gb go k:Nat) (caps:Array Value) (Inv:World→List (Int × Nat × Nat)→World→Prop) (hT:Tells s go k caps Inv) (w:World)
  (hgb:w.heap[gb]?=some (.cells (cl B).toArray 24 (0,0))) (hS:Steps w) (g0:6≠go) (g1:gb≠go) (g2:go<w.heap.size) (hstart:∀ w1,Kept w w1→Inv w1 [] w1) :
  Calls Tryz.prog 158 #[.pointer (some ⟨gb,0,none⟩),.int .i64 s,.int .i64 side,.func (.func k) #[] caps] w fun e w'=>e=.returned (.tuple #[])∧∃ W,Kept w W∧Inv W (tellL B s side) w':=by
 obtain ⟨W,eW⟩:∃ W,W=((w.alloc (.cells #[.pointer (some ⟨gb,0,none⟩)] 168)).alloc (.cells #[.int .i64 side] 3)).alloc (.cells #[.func (.func k) #[] caps] 169):=⟨_,rfl⟩
 have HW:=Qh eW
 have hK:Kept w W:=by rw [eW];exact (((Kept.refl w).alloc _).alloc _).alloc _
 have e1:W.heap[w.heap.size]?=some (.cells #[.pointer (some ⟨gb,0,none⟩)] 168 (0,0)):=by
  rw [eW];exact (((Kept.refl _).alloc _).alloc _).heap (heap_alloc_new w _)
 have e2:W.heap[w.heap.size+1]?=some (.cells #[.int .i64 side] 3 (0,0)):=by
  rw [eW]
  have:=((Kept.refl _).alloc (.cells #[.func (.func k) #[] caps] 169)).heap (heap_alloc_new (w.alloc (.cells #[.pointer (some ⟨gb,0,none⟩)] 168)) (.cells #[.int .i64 side] 3))
  simpa using this
 have e3:W.heap[w.heap.size+1+1]?=some (.cells #[.func (.func k) #[] caps] 169 (0,0)):=by
  rw [eW]
  have:=heap_alloc_new ((w.alloc (.cells #[.pointer (some ⟨gb,0,none⟩)] 168)).alloc (.cells #[.int .i64 side] 3)) (.cells #[.func (.func k) #[] caps] 169)
  simpa using this
 have HC:=Qh (cell_box e1)
 have hSees:Sees B s gb 184 #[.pointer (some ⟨w.heap.size,0,none⟩),.pointer (some ⟨w.heap.size+1,0,none⟩),.pointer (some ⟨w.heap.size+1+1,0,none⟩)] ansW (fun l w'=>Inv W (l.filter (toldW B side)) w'):=by
  refine ⟨fun args w=>fun_enters Tryz.func184 (by kernel_rfl) rfl args w,fun l w w' h k=>hT.keep _ _ _ _ h k,fun l w' h=>(hT.kb _ _ _ h).steps g0 (hS.kept hK),fun l w' h=>(hT.kb _ _ _ h).heap g1 (hK.heap hgb),?_⟩
  intro l t way far w' hI hl ht hw hf hf8 hr
  exact strikers1_is B hB s side gb go k w.heap.size caps Inv hT W (hK.heap hgb) (cell_box e1) (cell_box e2) (cell_box e3) (hS.kept hK) g0 g1 g2 l t way far w' hI hl ht hw hf hf8 hr
 have HL:=Qh (look_is B hB gb s 184 _ ansW _ hSees W (hstart W hK))
 have HK:=Qh hK
 clear eW hSees hT hgb hS hstart hK e1 e2 e3
 go_enter Tryz.func158,Tryz.ntmps158
 go_wp2_with fail
 rw [← HW.out]
 refine HL.out.mono ?_
 rintro e w3 ⟨rfl,hI3⟩
 have HI3:=Qh hI3
 clear hI3
 go_wp2
 refine bodyPost_end (results_none rfl _ _ _) rfl ?_
 exact ⟨rfl,W,HK.out,HI3.out⟩
theorem okS_yes {s:Int} (h0:0≤s) (h1:s<64):okS s=true:=by unfold okS;simp [h0,h1]
theorem okS_no {s:Int} (h:s<0∨64≤s):okS s=false:=by unfold okS;simp;omega
theorem okS_iff {s:Int}:okS s=true↔0≤s∧s<64:=by unfold okS;simp
theorem Steps.low {w:World} (h:Steps w):6<w.heap.size:=World.block_lt_of_cell? w _ (h 0 (by omega)).1
theorem sees_is (a:Addr) (B:List Int) (hB:Brd B) (s:Int) (w:World) :
  Calls Tryz.prog 157 #[.pointer (some a),.agg (cl B).toArray,.int .i64 s] w fun e w'=>e=.returned (.bool (okS s && rightB B))∧Kept w w':=by
 have hz:=Qh (size_cl hB.1)
 have hbl:=Qh (heap_alloc_new w (.cells (cl B).toArray 24))
 have HB:=Qh hB
 clear hB
 by_cases hs:s<0∨64≤s
 ·rw [okS_no hs,Bool.false_and]
  have HS:=Qh hs
  clear hs
  go_enter Tryz.func157,Tryz.ntmps157
  go_wp2_with fail
  refine (right_no _ _ HS.out).mono ?_
  rintro e w' ⟨rfl,rfl⟩
  go_wp2
  go_ret
  exact ⟨rfl,(Kept.refl _).alloc _⟩
 ·rw [okS_yes (by omega) (by omega),Bool.true_and]
  go_enter Tryz.func157,Tryz.ntmps157
  go_wp2_with fail
  refine (right_yes _ _ (by omega) (by omega)).mono ?_
  rintro e w' ⟨rfl,rfl⟩
  go_wp2_with (refine wpList_load_w (by rfl) _ rfl _ rfl _ (hbl.out) hz.out ?_)
  refine (bright_is B HB.out _).mono ?_
  rintro e w1 ⟨rfl,k1⟩
  have HK:=Qh (((Kept.refl w).alloc _).trans k1)
  clear k1
  go_wp2
  go_ret
  exact ⟨rfl,HK.out⟩
structure YesBox (W:World) (go:Nat) (b:Bool) (w:World):Prop where
 kb:KB W go w
 low:go<W.heap.size
 box:w.heap[go]?=some (.cells #[.bool b] 4 (0,0))
theorem YesBox.kept {W w w':World} {go:Nat} {b:Bool} (h:YesBox W go b w) (k:Kept w w'):YesBox W go b w':=⟨h.kb.kept k,h.low,k.heap h.box⟩
theorem YesBox.set {W w:World} {go:Nat} {b:Bool} (h:YesBox W go b w) (c:Bool):YesBox W go c (w.setCell ⟨go,0,none⟩ (.bool c)):=by
 refine ⟨⟨h.kb.os,h.kb.output,?_,fun i hi hne=>?_⟩,h.low,?_⟩
 ·have:=h.kb.size;simpa [World.setCell] using this
 ·rw [heap_setCell_other _ _ _ _ (by simpa using hne)];exact h.kb.block i hi hne
 ·rw [heap_setCell_same _ _ _ _ _ _ h.box];rfl
theorem struck1_is (W:World) (go:Nat) (b:Bool) (t way far:Nat) (w:World) (hO:YesBox W go b w) :
  Calls Tryz.prog 159 #[.int .i64 (t:Int),.int .i64 (way:Int),.int .i64 (far:Int),.pointer (some ⟨go,0,none⟩)] w fun e w' =>
   e=.returned (.tuple #[])∧YesBox W go true w':=by
 have hc:=cell_box hO.box
 have hf:=frozen_box hO.box
 have HO:=Qh (hO.set true)
 clear hO
 go_enter Tryz.func159,Tryz.ntmps159
 go_wp2
 refine bodyPost_end (results_none rfl _ _ _) rfl ?_
 exact ⟨rfl,HO.out⟩
theorem tells_struck (s:Int) (go:Nat):Tells s go 159 #[.pointer (some ⟨go,0,none⟩)] (fun W l w=>YesBox W go (!l.isEmpty) w):=by
 refine ⟨fun args w=>fun_enters Tryz.func159 (by kernel_rfl) rfl args w,fun W l w w' h k=>h.kept k,fun W l w h=>h.kb,?_⟩
 intro W l t way far w hI hl ht hw hf hf8 hr
 rw [show (!(l++[((t:Int),way,far)]).isEmpty)=true by simp]
 exact struck1_is W go _ t way far w hI
def struckB (B:List Int) (s side:Int):Bool:=okS s && rightB B && !(tellL B s side).isEmpty
theorem tell_by (B:List Int) (s side:Int) (h0:0≤s) (h1:s<64):(tellL B s side).length=(byN B s side).length:=by
 have h:=congrArg List.length (sort_outW B s side h0 h1)
 rw [List.length_mergeSort] at h
 simpa [outW,zn] using h
set_option maxRecDepth 100000 in
set_option maxHeartbeats 2000000 in
theorem struck_is (a:Addr) (B:List Int) (hB:Brd B) (s side:Int) (w:World) (hS:Steps w) :
  Calls Tryz.prog 138 #[.pointer (some a),.agg (cl B).toArray,.int .i64 s,.int .i64 side] w fun e w'=>e=.returned (.bool (struckB B s side))∧Kept w w':=by
 have hz:=Qh (size_cl hB.1)
 have hbl:=Qh (heap_alloc_new w (.cells (cl B).toArray 24))
 have HB:=Qh hB
 have HSt:=Qh hS
 have hSee:=Qh (sees_is a B hB s)
 clear hS
 unfold struckB
 cases hc:okS s && rightB B
 ·rw [hc] at hSee
  clear hB hc
  rw [Bool.false_and]
  go_enter Tryz.func138,Tryz.ntmps138
  go_wp2_with (refine wpList_load_w (by rfl) _ rfl _ rfl _ (hbl.out) hz.out ?_)
  refine (hSee.out _).mono ?_
  rintro e w1 ⟨rfl,k1⟩
  have HK:=Qh (((Kept.refl w).alloc _).trans k1)
  clear k1
  go_wp2
  go_ret
  exact ⟨rfl,HK.out⟩
 ·rw [hc] at hSee
  rw [Bool.true_and]
  clear hc
  go_enter Tryz.func138,Tryz.ntmps138
  go_wp2_with (refine wpList_load_w (by rfl) _ rfl _ rfl _ (hbl.out) hz.out ?_)
  refine (hSee.out _).mono ?_
  rintro e w1 ⟨rfl,k1⟩
  have hb1':=k1.heap hbl.out
  have hwlt:w.heap.size<w1.heap.size:=lt_of_heap hb1'
  obtain ⟨W1,eW⟩:∃ W,W=w1.alloc (.cells #[.bool false] 4):=⟨_,rfl⟩
  have HW:=Qh eW
  have hKW:Kept w1 W1:=by rw [eW];exact (Kept.refl _).alloc _
  have hgo:W1.heap[w1.heap.size]?=some (.cells #[.bool false] 4 (0,0)):=by rw [eW];exact heap_alloc_new w1 _
  have hKw:Kept w W1:=((Kept.refl w).alloc _).trans (k1.trans hKW)
  have hStW:=HSt.out.kept hKw
  have hlowG:=HSt.out.low
  have HStr:=Qh (strikers_is B HB.out s side w.heap.size w1.heap.size _ _ _ (tells_struck s w1.heap.size) W1 (hKW.heap hb1') hStW (by omega) (by omega) (lt_of_heap hgo) (fun w2 k=>⟨KB.refl _ _,Nat.lt_of_lt_of_le (lt_of_heap hgo) k.size,k.heap hgo⟩))
  have HKw:=Qh hKw
  have Hlt:=Qh (Nat.le_of_lt hwlt)
  clear hStW hKw hgo hKW eW k1 hb1' hwlt hlowG hB
  go_wp2_with fail
  rw [← HW.out]
  refine HStr.out.mono ?_
  rintro e w3 ⟨rfl,W,hKW,hI3⟩
  have c3:=cell_box hI3.box
  have HK4:=Qh (hI3.kb.below (HKw.out.trans hKW) Hlt.out)
  clear hI3 hKW
  go_wp2
  go_ret
  exact ⟨rfl,HK4.out⟩
end Go.Proofs.YtlbipjmmlobofaaGreatDoor
