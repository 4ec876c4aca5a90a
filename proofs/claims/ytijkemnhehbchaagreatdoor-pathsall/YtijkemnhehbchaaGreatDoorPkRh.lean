/- PaG: my texts, in their order. -/
import Derived.Test.YtijkemnhehbchaaGreatDoorPkRb
import Derived.Test.YtijkemnhehbchaaGreatDoorPkRg
namespace Go.Proofs.YtijkemnhehbchaaGreatDoor
open Go.RowKit
set_option linter.unusedVariables false
set_option linter.unusedSimpArgs false
set_option maxRecDepth 100000
theorem upto1_enters (args:Array Value) (w:World):(callFunc 41 args).run Tryz.prog w=.ok (.enter 41 args) w :=
 fun_enters Tryz.func41 (by kernel_rfl) rfl args w
theorem wp_rangeA {g:Operand} {s d:Tmp} {id:Nat} {ty:TypeId} {pos:String} {body:Code} {Q:Exit→Act→World→Prop} {a:Act} {w:World} {gp gn:Nat} {p:Ps} {n:Nat}
  (hg:a.eval g=.func (.func 41) #[] (upB gp gn)) (hs:s<a.tmps.size) (hB:Brd p.B) (hr:pwI p=0) (hn:n≤8) (hU:UpAt w gp gn p n)
  (ans:List (List Mv)→List Mv→Bool) (I:List (List Mv)→(Nat→Prop)→World→Prop) (Ix:(Nat→Prop)→World→Prop)
  (hI:∀ A X X' w w',I A X w→Sm (fun k=>¬ X k) w w'→(∀ k,X' k→X k∨w.heap.size≤k)→(∀ k,X' k→k<w'.heap.size)→I A X' w')
  (hIx:∀ X X' w w',Ix X w→Sm (fun k=>¬ X k) w w'→(∀ k,X' k→X k∨w.heap.size≤k)→(∀ k,X' k→k<w'.heap.size)→Ix X' w')
  (hIb:∀ A X w,I A X w→∀ k,X k→k<w.heap.size) (hIxb:∀ X w,Ix X w→∀ k,X k→k<w.heap.size)
  (hTb:∀ A X w,I A X w→UpAt w gp gn p n)
  (h0:I [] (fun _=>False) w)
  (hbody:∀ (l:Nat) (A:List (List Mv)) (X:Nat→Prop) (x:List Mv) (v:Value) (W:World),I A X W→PathG W X v x→A++[x] <+: upL n p →
   body.wpIn (Fence.wide.inRound l) 0 Tryz.prog (postR ans I Ix A x X W) ((⟨a.tmps.setIfInBounds s v,[]⟩:Act).put (some d) v) W)
  (hdone:goesAll ans [] (upL n p)=true→∀ (D:Nat) (X:Nat→Prop) (W:World),w.heap.size≤D→X D→I (upL n p) X W→W.heap[D]?=some (.deferred (some []))→Q .normal { a with defers:={ target:=.collected D,args:=#[] }::a.defers } W)
  (hstop:goesAll ans [] (upL n p)=false→∀ (D:Nat) (X:Nat→Prop) (W:World),w.heap.size≤D→X D→Ix X W→W.heap[D]?=some (.deferred (some []))→Q .ret { a with defers:={ target:=.collected D,args:=#[] }::a.defers } W) :
  (Code.rangeFunc g #[s] (Code.region id #[{ dst:=some d,op:=.assign (.tmp s),type:=ty,pos:=pos,after:=#[],guard:=none }] false) body).wp Tryz.prog Q a w:=by
 refine wp_rangeT hg upto1_enters rfl ans PathG (fun w=>UpAt w gp gn p n) (upL n p) I Ix (fun _ _ _ _ _ h hX=>h.mono hX) (fun _ _ _ _ _ h hs=>h.sm hs) hI hIx hIb hIxb hTb h0 (fun v=>(⟨a.tmps.setIfInBounds s v,[]⟩:Act).put (some d) v) ?_ hbody
  (fun W1 k1=>upto1_is ans gp gn p hB hr n hn W1 (hU.kept k1)) hdone hstop
 intro l v W K hK
 rw [show (#[s].zip #[v]).foldl (fun t (p,v)=>t.setIfInBounds p v) a.tmps=a.tmps.setIfInBounds s v from by simp]
 refine list_round (by simp [noDefer]) (fun a w h=>h) ?_
 refine wpList_plain rfl fun _ hK'=>?_
 refine plain_value (u:=v) (w':=W) ?_ (hK' _ _ ?_)
 ·unfold execOp
  simp [Act.eval,hs]
 ·exact hK
structure CtI (w0:World) (gL gM:Nat) (left many:Int) (X:Nat→Prop) (wr:World):Prop where
 sm:Sm (fun k=>k<w0.heap.size∧k≠gL∧k≠gM) w0 wr
 l:RAt wr gL [.int .i64 left] 3
 m:RAt wr gM [.int .i64 many] 3
 x:∀ k,X k→w0.heap.size≤k∧k<wr.heap.size
theorem CtI.step {w0 w w':World} {gL gM:Nat} {left many:Int} {X X':Nat→Prop} (h:CtI w0 gL gM left many X w) (hL:gL<w0.heap.size) (hM:gM<w0.heap.size) (s:Sm (fun k=>¬ X k) w w')
  (h1:∀ k,X' k→X k∨w.heap.size≤k) (h2:∀ k,X' k→k<w'.heap.size):CtI w0 gL gM left many X' w':=by
 have hx:∀ k,k<w0.heap.size→¬ X k:=fun k hk hX=>by have:=(h.x k hX).1;omega
 refine ⟨h.sm.trans (s.mono fun k _ hk=>hx k hk.1),h.l.sm s (hx _ hL),h.m.sm s (hx _ hM),fun k hk=>⟨?_,h2 k hk⟩⟩
 rcases h1 k hk with h'|h'
 ·exact (h.x k h').1
 ·exact Nat.le_trans h.sm.size h'
theorem CtI.setM {w0 W:World} {gL gM:Nat} {left many:Int} {X:Nat→Prop} (h:CtI w0 gL gM left many X W) (hM:gM<w0.heap.size) (hne:gL≠gM) (v:Int) :
  CtI w0 gL gM left v X (W.setCell ⟨gM,0,none⟩ (.int .i64 v))∧Sm X W (W.setCell ⟨gM,0,none⟩ (.int .i64 v)) :=
 ⟨⟨h.sm.setCell (by exact fun e=>e.2.2 rfl) _,h.l.setOther hne _,h.m.set 0 _,fun k hk=>⟨(h.x k hk).1,by simpa [World.setCell] using (h.x k hk).2⟩⟩,(Sm.refl X W).setCell (by exact fun e=>by have:=(h.x gM e).1;omega) _⟩
theorem CtI.setL {w0 W:World} {gL gM:Nat} {left many:Int} {X:Nat→Prop} (h:CtI w0 gL gM left many X W) (hL:gL<w0.heap.size) (hne:gL≠gM) (v:Int) :
  CtI w0 gL gM v many X (W.setCell ⟨gL,0,none⟩ (.int .i64 v))∧Sm X W (W.setCell ⟨gL,0,none⟩ (.int .i64 v)) :=
 ⟨⟨h.sm.setCell (by exact fun e=>e.2.1 rfl) _,h.l.set 0 _,h.m.setOther hne.symm _,fun k hk=>⟨(h.x k hk).1,by simpa [World.setCell] using (h.x k hk).2⟩⟩,(Sm.refl X W).setCell (by exact fun e=>by have:=(h.x gL e).1;omega) _⟩
theorem short_pre {n b:Nat} {p:Ps} {A:List (List Mv)} {x:List Mv} (hb:((upL n p).filter (shortB n)).length≤b) (h:A++[x] <+: upL n p) (hx:shortB n x=true):(A.filter (shortB n)).length+1≤b:=by
 obtain ⟨B,hB⟩:=h
 rw [← hB,List.filter_append,List.filter_append,List.length_append,List.length_append] at hb
 simp [hx] at hb
 omega
theorem full_pre {n m:Nat} {p:Ps} {A:List (List Mv)} {x:List Mv} (hb:(upL n p).length≤m) (h:A++[x] <+: upL n p):(A.filter fun x=>x.length == n).length+1≤m:=by
 obtain ⟨B,hB⟩:=h
 have h1:=List.length_filter_le (fun x:List Mv=>x.length == n) A
 rw [← hB] at hb
 simp at hb
 omega
theorem Kept.of_sm {v w0 wr:World} {Z:Nat→Prop} (k:Kept v w0) (h:Sm Z w0 wr) (hZ:∀ i,i<v.heap.size→Z i):Kept v wr:=h.toKept k hZ
theorem allocs4 (w:World) (o1 o2 o3 o4:Obj):((((w.alloc o1).alloc o2).alloc o3).alloc o4).heap[w.heap.size]?=some o1∧((((w.alloc o1).alloc o2).alloc o3).alloc o4).heap[w.heap.size+1]?=some o2 ∧
  ((((w.alloc o1).alloc o2).alloc o3).alloc o4).heap[w.heap.size+1+1]?=some o3∧((((w.alloc o1).alloc o2).alloc o3).alloc o4).heap[w.heap.size+1+1+1]?=some o4:=by
 have a1:=World.alloc_heap_new w o1
 have a2:=World.alloc_heap_new (w.alloc o1) o2
 have a3:=World.alloc_heap_new ((w.alloc o1).alloc o2) o3
 have a4:=World.alloc_heap_new (((w.alloc o1).alloc o2).alloc o3) o4
 rw [World.size_alloc] at a2
 rw [World.size_alloc,World.size_alloc] at a3
 rw [World.size_alloc,World.size_alloc,World.size_alloc] at a4
 have k2:=((Kept.refl ((w.alloc o1).alloc o2)).alloc o3).alloc o4
 have k3:=(Kept.refl (((w.alloc o1).alloc o2).alloc o3)).alloc o4
 exact ⟨(((Kept.refl (w.alloc o1)).alloc o2).trans k2).heap a1,k2.heap a2,k3.heap a3,a4⟩
theorem results_cc {fn:Func} {s t:Tmp} {ta tb:TypeId} (h:fn.results=#[.cell s ta,.cell t tb]) (tmps:Array Value) (w:World) {g6 g7:Nat} {u v:Value}
  (hs:tmps.getD s undef=.pointer (some ⟨g6,0,none⟩)) (ht:tmps.getD t undef=.pointer (some ⟨g7,0,none⟩)) (lu:(loadVar ta ⟨g6,0,none⟩).run Tryz.prog w=.ok u w) (lv:(loadVar tb ⟨g7,0,none⟩).run Tryz.prog w=.ok v w) :
  (results fn tmps).run Tryz.prog w=.ok (.tuple #[u,v]) w:=by
 have hs':tmps[s]?.getD undef=.pointer (some ⟨g6,0,none⟩):=by simpa using hs
 have ht':tmps[t]?.getD undef=.pointer (some ⟨g7,0,none⟩):=by simpa using ht
 simp [results,h,hs',ht',asAddr,lu,lv]
def CtS (w:World) (p:Ps) (n b:Nat) (s3 s4 s6 s7 s9 s10:Value) (wc:World):Prop :=
 ∃ gp gN g6 g7 g9 g10:Nat,s3=.pointer (some ⟨gp,0,none⟩)∧s4=.pointer (some ⟨gN,0,none⟩)∧s6=.pointer (some ⟨g6,0,none⟩)∧s7=.pointer (some ⟨g7,0,none⟩)∧s9=.pointer (some ⟨g9,0,none⟩)∧s10=.pointer (some ⟨g10,0,none⟩) ∧
  PAt wc gp p∧RAt wc gN [.int .i64 n] 3∧RAt wc g6 [.int .i64 0] 3∧RAt wc g7 [.int .i64 0] 29∧RAt wc g9 [.int .i64 b] 3∧RAt wc g10 [.int .i64 0] 3 ∧
  Kept w wc∧(w.heap.size≤gp∧gp<gN∧gN<g6∧g6<g7∧g7<g9∧g9<g10)
set_option maxHeartbeats 8000000 in
theorem count_ok (p:Ps) (hB:Brd p.B) (hr:pwI p=0) (n b:Nat) (hn:n≤8) (hb:((upL n p).filter (shortB n)).length≤b) (hb6:b≤1000000) (hL:(upL n p).length≤1000000) (w:World) (hT:TabG w) :
  Calls Tryz.prog 16 #[.agg (pl p).toArray,.int .i64 n,.int .i64 b] w fun e w'=>e=.returned (.tuple #[.int .i64 ((upL n p).filter fun x=>x.length == n).length,.int .i64 0])∧Kept w w':=by
 have HP:=Qh (PAt.new w hB.1)
 have HT:=Qh hT
 have HB:=Qh hB
 have HRt:=Qh hr
 have HC:=Qh (fun w hT=>pwr_is p hB (n:Int) w hT)
 rw [wrE_ok hr (by omega) (by omega)] at HC
 have HBs:=Qh hb
 have HLs:=Qh hL
 clear hB hr hT hb hL
 refine calls_marked Tryz.func16 rfl ?_
 simp only [Tryz.ntmps16,List.size_toArray,List.length_cons,List.length_nil,Nat.reduceAdd,Nat.reduceSub,Array.replicate_succ,
   Array.replicate_zero,List.push_toArray,List.append_toArray,List.nil_append,List.cons_append]
 have KA:=Qh (((((Kept.refl w).alloc (.cells (pl p).toArray 26)).alloc (.cells #[.int .i64 n] 3)).alloc (.cells #[.int .i64 0] 3)).alloc (.cells #[.int .i64 0] 29))
 have HPa:=Qh (HP.out.kept ((((Kept.refl _).alloc (.cells #[.int .i64 n] 3)).alloc (.cells #[.int .i64 0] 3)).alloc (.cells #[.int .i64 0] 29)))
 go_wp2_with (refine wpList_load_ps (by rfl) _ rfl _ rfl _ HPa.out ?_)
 refine (HC.out _ (HT.out.kept KA.out)).mono ?_
 rintro e w1 ⟨rfl,k1⟩
 obtain ⟨_,b4,b6,b7⟩:=allocs4 w (.cells (pl p).toArray 26) (.cells #[.int .i64 n] 3) (.cells #[.int .i64 0] 3) (.cells #[.int .i64 0] 29)
 have HP1:=Qh (HPa.out.kept k1)
 have H4:=Qh (RAt.mk (l:=[.int .i64 n]) (k1.heap b4))
 have H6:=Qh (RAt.mk (l:=[.int .i64 0]) (k1.heap b6))
 have H7:=Qh (RAt.mk (l:=[.int .i64 0]) (k1.heap b7))
 have HK1:=Qh (KA.out.trans k1)
 have HS1:=Qh (lt_of_heap H7.out.at_)
 clear k1 b4 b6 b7 HC HP HPa KA
 have hmx:max (b:Int) 0=(b:Int):=by omega
 go_upto_region 4 with fail
 go_cut [3,4,6,7,9,10] from 3 (fun s3 s4 s6 s7 s9 s10 wc=>CtS w p n b s3 s4 s6 s7 s9 s10 wc)
 case first =>
  go_wp2
  go_meet
  case rel =>
   have ha:=World.alloc_heap_new w1 (.cells #[.int .i64 b] 3)
   have hb:=World.alloc_heap_new (w1.alloc (.cells #[.int .i64 b] 3)) (.cells #[.int .i64 0] 3)
   rw [World.size_alloc] at hb
   have k2:=((Kept.refl w1).alloc (.cells #[.int .i64 b] 3)).alloc (.cells #[.int .i64 0] 3)
   exact ⟨_,_,_,_,_,_,rfl,rfl,rfl,rfl,rfl,rfl,HP1.out.kept k2,H4.out.kept k2,H6.out.kept k2,H7.out.kept k2,⟨((Kept.refl (w1.alloc (.cells #[.int .i64 b] 3))).alloc _).heap ha⟩,⟨hb⟩,HK1.out.trans k2,by have:=HS1.out;omega⟩
 case rest =>
 obtain ⟨gp,gN,g6,g7,g9,g10,rfl,rfl,rfl,rfl,rfl,rfl,hP,h4,h6,h7,h9,h10,hK,hord⟩:=hcut
 clear HP1 H4 H6 H7 HK1 HS1 hmx
 have HP:=Qh hP
 have H4:=Qh h4
 have H6:=Qh h6
 have H7:=Qh h7
 have H9:=Qh h9
 have H10:=Qh h10
 have HK:=Qh hK
 have HO:=Qh hord
 have y4:=h4.cellK 0
 clear hP h4 h6 h7 h9 h10 hK hord
 go_wp2_with (refine wpList_load_ps (by rfl) _ rfl _ rfl _ HP.out ?_)
 refine (upto_is p HB.out n _ (HT.out.kept HK.out)).mono ?_
 rintro e w2 ⟨gq,gn,rfl,hU,k2,q1,q2,q3,q4⟩
 have HU:=Qh hU
 have HK2:=Qh (HK.out.trans k2)
 have H42:=Qh (H4.out.kept k2)
 have H62:=Qh (H6.out.kept k2)
 have H72:=Qh (H7.out.kept k2)
 have H92:=Qh (H9.out.kept k2)
 have HA2:=Qh (H10.out.kept k2)
 have HQ:=Qh (show g10<w2.heap.size∧g10<gq∧g10<gn∧gq<w2.heap.size∧gn<w2.heap.size∧w.heap.size≤w2.heap.size by
  have h1:=lt_of_heap H10.out.at_
  have h2:=k2.size
  have h3:=HK.out.size
  omega)
 clear k2 hU H4 H6 H7 H9 H10 y4 HP q1 q2 q3 q4
 go_wp2_with fail
 have hgo:goesAll (ansB (shortB n) b) [] (upL n p)=true:=by rw [count_goes];exact decide_eq_true HBs.out
 have HGo:=Qh hgo
 clear hgo
 have HIn:=Qh (show ∀ k,k<w2.heap.size→k≠g9→k≠g10→(fun k=>k<w2.heap.size∧k≠g9∧k≠g10) k from fun k a b c=>⟨a,b,c⟩)
 refine wp_rangeA (gp:=gq) (gn:=gn) rfl (by simp) HB.out HRt.out hn HU.out (ansB (shortB n) b)
  (fun A X wr=>CtI w2 g9 g10 ((b:Int)-(A.filter (shortB n)).length) ((A.filter fun x=>x.length == n).length) X wr) (fun _ _=>False)
  (fun A X X' w w' h s h1 h2=>h.step (by have:=HQ.out;have:=HO.out;omega) (by have:=HQ.out;omega) s h1 h2) (fun _ _ _ _ h=>h.elim) (fun A X w h k hk=>(h.x k hk).2) (fun _ _ h=>h.elim) ?_ ?_ ?_ ?_ (fun h=>by rw [HGo.out] at h;cases h)
 ·intro A X wr h
  have hk:Kept w wr:=Kept.of_sm HK2.out h.sm (fun i hi=>by have:=HQ.out;have:=HO.out;exact ⟨by omega,by omega,by omega⟩)
  exact ⟨HU.out.pos.sm h.sm (by have:=HQ.out;have:=HO.out;exact ⟨by omega,by omega,by omega⟩),h.sm.cell (p:=⟨gn,0,none⟩) (by have:=HQ.out;have:=HO.out;exact ⟨by show gn<_;omega,by show gn≠_;omega,by show gn≠_;omega⟩) HU.out.len,HT.out.kept hk⟩
 ·refine ⟨Sm.refl _ _,?_,?_,fun k h=>h.elim⟩
  ·simpa using H92.out
  ·simpa using HA2.out
 ·intro l A X x v W hI hG hpre
  obtain ⟨g,hls,_⟩:=hG
  obtain ⟨av,cv,rfl⟩:=hls.slice
  have HI:=Qh hI
  have HPre:=Qh hpre
  have z4:=(H42.out.sm hI.sm (by have:=HQ.out;have:=HO.out;exact ⟨by omega,by omega,by omega⟩)).cellK 0
  have z9:=hI.l.cellK 0
  have f9:=hI.l.frozen 0
  have zA:=hI.m.cellK 0
  have fA:=hI.m.frozen 0
  clear hls hI hpre
  simp only [sA,Act.put,sZ,sU]
  by_cases hx:x.length=n
  ·have HS:=Qh (show shortB n x=false by unfold shortB;simp [hx])
   have hbd:=full_pre HLs.out HPre.out
   have HE:=Qh (show (((A++[x]).filter fun x=>x.length == n).length:Int)=((A.filter fun x=>x.length == n).length:Int)+1 by simp [hx])
   have HE2:=Qh (show ((A++[x]).filter (shortB n)).length=(A.filter (shortB n)).length by rw [List.filter_append];simp [HS.out])
   have HM:=Qh (HI.out.setM (by have:=HQ.out;omega) (by have:=HO.out;omega) (((A.filter fun x=>x.length == n).length:Int)+1))
   rw [hx]
   generalize (A.filter fun x=>x.length == n).length=many at *
   generalize (A.filter (shortB n)).length=sh at *
   refine wpIn_block (wpIn_block (wpIn_seq (list_round (by simp [noDefer]) (fun a w h=>h) ?_)))
   go_wp2
   refine wpIn_cond_true rfl ?_
   refine list_round (by simp [noDefer]) (fun a w h=>h) ?_
   go_wp2
   exact ⟨by unfold ansB;rw [HS.out];rfl,by show CtI _ _ _ _ _ _ _;rw [HE.out,HE2.out];exact HM.out.1,HM.out.2⟩
  ·have HS:=Qh (show shortB n x=true by unfold shortB;simp [hx])
   have hbd:=short_pre HBs.out HPre.out HS.out
   have HE:=Qh (show (((A++[x]).filter (shortB n)).length:Int)=((A.filter (shortB n)).length:Int)+1 by rw [List.filter_append];simp [HS.out])
   have HE2:=Qh (show ((A++[x]).filter (fun x=>x.length == n)).length=(A.filter (fun x=>x.length == n)).length by rw [List.filter_append];simp [hx])
   have HM:=Qh (HI.out.setL (by have:=HQ.out;have:=HO.out;omega) (by have:=HO.out;omega) ((b:Int)-(A.filter (shortB n)).length-1))
   have HAn:=Qh (show ansB (shortB n) b A x=true by unfold ansB;rw [decide_eq_true (by omega)];simp)
   have hxn:(x.length == n)=false:=by simpa using hx
   have hxi:((x.length:Int) == (n:Int))=false:=beq_eq_false_iff_ne.2 (by omega)
   generalize x.length=q at *
   generalize (A.filter fun x=>x.length == n).length=many at *
   generalize (A.filter (shortB n)).length=sh at *
   have hne:((b:Int)-sh == 0)=false:=by simp;omega
   have hw1:IntKind.i64.wrap ((b:Int)-sh-1)=(b:Int)-sh-1:=IntWalk.i64_in _ (by omega)
   clear hx
   refine wpIn_block (wpIn_block (wpIn_seq (list_round (by simp [noDefer]) (fun a w h=>h) ?_)))
   go_wp2
   refine wpIn_cond_false rfl ?_
   refine wpIn_seq (list_round (by simp [noDefer]) (fun a w h=>h) ?_)
   go_wp2
   refine wpIn_cond_false rfl ?_
   refine list_round (by simp [noDefer]) (fun a w h=>h) ?_
   go_wp2
   exact ⟨HAn.out,by show CtI _ _ _ _ _ _ _;rw [HE.out,HE2.out,show (b:Int)-(sh+1)=(b:Int)-sh-1 by omega];exact HM.out.1,HM.out.2⟩
 ·intro _ D X W hD hXD hI hDf
  have HI:=Qh hI
  have zA:=hI.m.cellK 0
  have fA:=hI.m.frozen 0
  have H6w:=Qh (H62.out.sm hI.sm (by have:=HQ.out;have:=HO.out;exact ⟨by omega,by omega,by omega⟩))
  have H7w:=Qh (H72.out.sm hI.sm (by have:=HQ.out;have:=HO.out;exact ⟨by omega,by omega,by omega⟩))
  have z6:=H6w.out.cellK 0
  have f6:=H6w.out.frozen 0
  have z7:=H7w.out.cellK 0
  have f7:=H7w.out.frozen 0
  have HDf:=Qh hDf
  have HDl:=Qh hD
  clear hI hDf hD
  have HMn:Hid ((upL n p).filter (fun x=>x.length == n)=(upL n p).filter (fun x=>x.length == n)):=rfl
  obtain ⟨many,hmany⟩:∃ many,((upL n p).filter fun x=>x.length == n).length=many:=⟨_,rfl⟩
  rw [hmany] at zA HI
  have HMany:=Qh hmany
  clear hmany HMn
  have hne67:g6≠g7:=by have:=HO.out;omega
  simp only [Exit.inBlock,Exit.then]
  go_wp2
  have h6a:=Qh ((H6w.out.set 0 (.int .i64 many)).setOther (k:=g7) (i:=0) hne67 (.int .i64 0))
  have h7a:=Qh (RAt.set (RAt.setOther H7w.out (k:=g6) (i:=0) (fun e=>hne67 e.symm) (.int .i64 many)) 0 (.int .i64 0))
  have hne6:g6≠D:=by have:=HDl.out;have:=HQ.out;have:=HO.out;omega
  have hne7:g7≠D:=by have:=HDl.out;have:=HQ.out;have:=HO.out;omega
  have HSm:=Qh ((((HI.out.sm.mono (Y:=fun k=>k<w.heap.size) fun k _ hk=>by have:=HQ.out;have:=HO.out;exact ⟨by omega,by omega,by omega⟩).setCell (p:=⟨g6,0,none⟩) (by have:=HO.out;show ¬ g6<_;omega) (.int .i64 many)).setCell (p:=⟨g7,0,none⟩) (by have:=HO.out;show ¬ g7<_;omega) (.int .i64 0)).putObj (.deferred none) (l:=D) (by have:=HDl.out;have:=HQ.out;show ¬ D<_;omega))
  have HDd:=Qh (show ((W.setCell ⟨g6,0,none⟩ (.int .i64 many)).setCell ⟨g7,0,none⟩ (.int .i64 0)).heap[D]?=some (.deferred (some [])) by
   rw [Below.heap_setCell _ ⟨g7,0,none⟩ _ D (by exact fun e=>hne7 e.symm),Below.heap_setCell _ ⟨g6,0,none⟩ _ D (by exact fun e=>hne6 e.symm)];exact HDf.out)
  generalize (W.setCell ⟨g6,0,none⟩ (.int .i64 many)).setCell ⟨g7,0,none⟩ (.int .i64 0)=W2 at *
  have e6:(W2.putObj D (.deferred none)).cell? ⟨g6,0,none⟩=some (.int .i64 many):=(World.cell?_of_block (World.putObj_heap_other (by exact hne6))).trans (h6a.out.cellK 0)
  have e7:(W2.putObj D (.deferred none)).cell? ⟨g7,0,none⟩=some (.int .i64 0):=(World.cell?_of_block (World.putObj_heap_other (by exact hne7))).trans (h7a.out.cellK 0)
  refine body_marked HDd.out (results_cc (s:=6) (t:=7) (u:=.int .i64 many) (v:=.int .i64 0) rfl _ _ rfl rfl (by go_simp) (by go_simp)) ⟨by rw [HMany.out],HSm.out.toKept HK2.out (fun i hi=>hi)⟩
end Go.Proofs.YtijkemnhehbchaaGreatDoor
