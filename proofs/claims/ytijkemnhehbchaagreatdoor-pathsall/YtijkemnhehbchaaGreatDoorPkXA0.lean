/- GeA · GeK · GeM · GeP · LeJ · PaR · PaA · PaH · PaI · PaJ · PaM: my texts, in their order. -/
import Derived.Test.YtijkemnhehbchaaGreatDoorPkXAE0
import Derived.Test.YtijkemnhehbchaaGreatDoorPkXAE1
import Derived.Test.YtijkemnhehbchaaGreatDoorPkXAE2
import Derived.Test.YtijkemnhehbchaaGreatDoorPkXAE3
import Derived.Test.YtijkemnhehbchaaGreatDoorPkXAO0
import Derived.Test.YtijkemnhehbchaaGreatDoorPkA
import Derived.Test.YtijkemnhehbchaaGreatDoorPkB
import Derived.Test.YtijkemnhehbchaaGreatDoorPkC
import Derived.Test.YtijkemnhehbchaaGreatDoorPkD
import Derived.Test.YtijkemnhehbchaaGreatDoorPkE
import Derived.Test.YtijkemnhehbchaaGreatDoorPkF
import Derived.Test.YtijkemnhehbchaaGreatDoorPkGa
import Derived.Test.YtijkemnhehbchaaGreatDoorPkGb
import Derived.Test.YtijkemnhehbchaaGreatDoorPkGc
import Derived.Test.YtijkemnhehbchaaGreatDoorPkGd
import Derived.Test.YtijkemnhehbchaaGreatDoorPkGe
import Derived.Test.YtijkemnhehbchaaGreatDoorPkGh
import Derived.Test.YtijkemnhehbchaaGreatDoorPkH
import Derived.Test.YtijkemnhehbchaaGreatDoorPkI
import Derived.Test.YtijkemnhehbchaaGreatDoorPkJ
import Derived.Test.YtijkemnhehbchaaGreatDoorPkK
import Derived.Test.YtijkemnhehbchaaGreatDoorPkL
import Derived.Test.YtijkemnhehbchaaGreatDoorPkLa
import Derived.Test.YtijkemnhehbchaaGreatDoorPkLd
import Derived.Test.YtijkemnhehbchaaGreatDoorPkLe
import Derived.Test.YtijkemnhehbchaaGreatDoorPkLf
import Derived.Test.YtijkemnhehbchaaGreatDoorPkLg
import Derived.Test.YtijkemnhehbchaaGreatDoorPkLh
import Derived.Test.YtijkemnhehbchaaGreatDoorPkM
import Derived.Test.YtijkemnhehbchaaGreatDoorPkR
import Derived.Test.YtijkemnhehbchaaGreatDoorPkRa
import Derived.Test.YtijkemnhehbchaaGreatDoorPkRb
import Derived.Test.YtijkemnhehbchaaGreatDoorPkRd
import Derived.Test.YtijkemnhehbchaaGreatDoorPkRe
import Derived.Test.YtijkemnhehbchaaGreatDoorPkRf
import Derived.Test.YtijkemnhehbchaaGreatDoorPkRg
import Derived.Test.YtijkemnhehbchaaGreatDoorPkRh
import Derived.Test.YtijkemnhehbchaaGreatDoorPkRk
import Derived.RangeFuncLeaves
import Derived.RangeFuncRecord
import Derived.RangeFuncSeq
import Derived.RangeFuncCalls
import Derived.OrdersIn
import Derived.Deep.CutRange
namespace Go.Proofs.YtijkemnhehbchaaGreatDoor
open Go.RowKit
set_option linter.unusedVariables false
set_option linter.unusedSimpArgs false
set_option maxRecDepth 100000
theorem allN_sorted (p:Ps) (n:Nat):(allN p n).Pairwise fun a b=>lessB a b=true:=by
 unfold allN
 rw [List.pairwise_flatMap]
 refine ⟨fun f _=>fromN_sorted p f,List.pairwise_lt_range.imp fun {a b} hab x hx y hy=>?_⟩
 have x1:=(mem_fromN.1 hx).1
 have y1:=(mem_fromN.1 hy).1
 exact (less_iff _ _).2 (.inl (by omega))
def hitL (D:List Int):List Value:=(List.range 64).map fun (n:Nat)=>.bool (D.contains (n:Int))
theorem hitL_len (D:List Int):(hitL D).length=64:=by simp [hitL]
theorem hitL_get (D:List Int) {n:Nat} (h:n<64):(hitL D)[n]?=some (.bool (D.contains (n:Int))):=by simp [hitL,h]
theorem hitL_set (D:List Int) {y:Nat} (h:y<64):(hitL D).set y (.bool true)=hitL (D++[(y:Int)]):=by
 refine List.ext_getElem? fun n=>?_
 by_cases hn:n<64
 ·rw [hitL_get _ hn,List.getElem?_set]
  by_cases e:y=n
  ·subst e
   rw [if_pos rfl,if_pos (by rw [hitL_len];exact h)]
   simp
  ·rw [if_neg e,hitL_get _ hn]
   have:((n:Int) == (y:Int))=false:=by rw [beq_eq_false_iff_ne];omega
   simp [List.contains_eq_mem]
   omega
 ·rw [List.getElem?_eq_none (by rw [List.length_set,hitL_len];omega),List.getElem?_eq_none (by rw [hitL_len];omega)]
theorem sizeHt (D:List Int):(Tryz.prog.info? 96).map (·.size)=some (hitL D).toArray.size:=by
 have:(Tryz.prog.info? 96).map (·.size)=some 64:=by kernel_rfl
 rw [this];simp [hitL_len]
theorem zeroHt:(Tryz.prog.info? 96).map (fun i=>(i.zero,i.size))=some (some (.agg (hitL []).toArray),64):=by kernel_rfl
theorem run_zero_ht (w:World):(zeroValue 96).run Tryz.prog w=.ok (.agg (hitL []).toArray) w:=(zero_of_info zeroHt).1 w
theorem ht_one (D:List Int):(hitL D).toArray.all (·.oneCell')=true:=by
 rw [Array.all_eq_true_iff_forall_mem]
 intro v hv
 simp only [List.mem_toArray,hitL,List.mem_map] at hv
 obtain ⟨n,_,rfl⟩:=hv
 rfl
theorem wpList_new_ht {ops:Array Oper} {rest:List Oper} {o:Oper} {a:Act} {w:World} {Q:Exit→Act→World→Prop} (hgd:o.guard=none) (ho:o.op=.alloc 96)
  (h:wpList Tryz.prog ops Q rest (a.put o.dst (.pointer (some ⟨w.heap.size,0,none⟩))) (w.alloc (.cells (hitL []).toArray 96))):wpList Tryz.prog ops Q (o::rest) a w:=by
 refine wpList_plain hgd fun _ hK=>?_
 unfold Oper.wp execOp
 simp only [ho,Instr.alloc,Sem.run_bind,run_zero_ht,Result.andThen_ok,newVar,newRow,Value.cells]
 exact hK _ _ h
theorem wpList_store_newht {ops:Array Oper} {rest:List Oper} {o:Oper} {a:Act} {w:World} {Q:Exit→Act→World→Prop} (hgd:o.guard=none) (x y:Operand) (ho:o.op=.store 96 x y)
  (D:List Int) (hx:a.eval x=.pointer (some ⟨w.heap.size,0,none⟩)) (hy:a.eval y=.agg (hitL D).toArray)
  (h:wpList Tryz.prog ops Q rest (a.put o.dst undef) (w.alloc (.cells (hitL D).toArray 96))):wpList Tryz.prog ops Q (o::rest) a (w.alloc (.cells (hitL []).toArray 96)):=by
 refine wpList_store_row hgd 96 x y ho w.heap.size (hitL D).toArray hx hy 96 _ (heap_alloc_new w _) (sizeHt D) (by simp [hitL_len]) (ht_one D) ?_
 rw [World.setRow_alloc_new]
 exact h
theorem upto_all {B:List Int}:∀ {l:List Int},(∀ (j:Nat) (y:Int),l[j]?=some y→bAt B y=0)→uptoL B l=l
 | [],_=>rfl
 | x::l,h=>by
  unfold uptoL
  rw [if_pos (h 0 x rfl),upto_all fun j y hy=>h (j+1) y (by simpa using hy)]
theorem upto_cut {B:List Int}:∀ {l:List Int} {k:Nat} {y:Int},(∀ j,j<k→∀ z,l[j]?=some z→bAt B z=0)→l[k]?=some y→bAt B y≠0→uptoL B l=l.take (k+1)
 | [],_,_,_,hy,_=>by simp at hy
 | x::l,0,y,_,hy,hn=>by
  have:x=y:=by simpa using hy
  subst this
  unfold uptoL
  rw [if_neg hn];rfl
 | x::l,k+1,y,h,hy,hn=>by
  unfold uptoL
  rw [if_pos (h 0 (by omega) x rfl),upto_cut (l:=l) (k:=k) (y:=y) (fun j hj z hz=>h (j+1) (by omega) z (by simpa using hz)) (by simpa using hy) hn]
  rfl
theorem RowsZ.readB {e:TypeId} {w:World} {base:Nat} {v:Value} {L:List (List Int)} (h:RowsZ e w base v L) (hL:0<L.length) :
  ∃ go cap,v=.slice (some ⟨go,0,none⟩) L.length cap∧L.length≤cap∧cap≤maxLen∧base≤go∧∀ (i:Nat) (l:List Int),L[i]?=some l→∃ u g,w.cell? ⟨go,i,none⟩=some u∧LsZ w g u l∧(0<l.length→base≤g∧g<w.heap.size):=by
 obtain ⟨go,cap,e1,e2,e3,e4⟩:=h.read hL
 refine ⟨go,cap,e1,e2,e3,?_,e4⟩
 obtain ⟨vs,gs,h⟩:=h
 rcases h.own.2 with ⟨ev,h0⟩|⟨go',cap',cur,ev,hb,_⟩
 ·have:=h.len;omega
 ·rw [e1] at ev
  injection ev with e _ _
  injection e with e
  injection e with e _ _
  omega
theorem take_snoc2 {l:List Int} {k:Nat} {y:Int} (h:l[k]?=some y):l.take (k+1)=l.take k++[y]:=by rw [List.take_add_one,h];rfl
theorem flat_snoc {B:List Int} {L:List (List Int)} {i:Nat} {l:List Int} (h:L[i]?=some l):(L.take (i+1)).flatMap (uptoL B)=(L.take i).flatMap (uptoL B)++uptoL B l:=by
 rw [List.take_add_one,h];simp
set_option maxHeartbeats 4000000 in
theorem struckR_is (B:List Int) (hB:Brd B) (s:Nat) (hs:s<64) (w:World) :
  Calls Tryz.prog 78 #[.agg (cl B).toArray,.int .i64 (s:Int)] w fun e w'=>e=.returned (.agg (hitL (strikeL B (s:Int))).toArray)∧Kept w w':=by
 have hbl:=heap_alloc_new w (.cells (cl B).toArray 24)
 have K2:=((Kept.refl (w.alloc (.cells (cl B).toArray 24))).alloc (.cells (hitL []).toArray 96)).alloc (.cells (hitL []).toArray 96)
 have hc0:=kept_cell K2 (board_cell hB hbl s hs)
 have HBl:=Qh (K2.heap hbl)
 have HK2:=Qh (((Kept.refl w).alloc (.cells (cl B).toArray 24)).trans K2)
 have hs1:(w.alloc (.cells (cl B).toArray 24)).heap.size=w.heap.size+1:=by simp
 have HR1:Hid (RAt (((w.alloc (.cells (cl B).toArray 24)).alloc (.cells (hitL []).toArray 96)).alloc (.cells (hitL []).toArray 96)) (w.heap.size+1) (hitL []) 96):=by
  have h:=heap_alloc2_old (w.alloc (.cells (cl B).toArray 24)) (.cells (hitL []).toArray 96) (.cells (hitL []).toArray 96)
  rw [hs1] at h
  exact ⟨h⟩
 have HR2:Hid (RAt (((w.alloc (.cells (cl B).toArray 24)).alloc (.cells (hitL []).toArray 96)).alloc (.cells (hitL []).toArray 96)) (w.heap.size+2) (hitL []) 96):=by
  have h:=heap_alloc2_new (w.alloc (.cells (cl B).toArray 24)) (.cells (hitL []).toArray 96) (.cells (hitL []).toArray 96)
  rw [hs1] at h
  exact ⟨h⟩
 clear hs1
 obtain ⟨hb1,hb2⟩:=hB.2 s hs
 have HB:=Qh hB
 have hx:bAt B (s:Int)=B.getD s 0:=rfl
 have HMem:=Qh (fun (l:List Int) (h:l ∈ ofL (bAt B (s:Int)) (s:Int)) (x:Int) (hx:x ∈ l)=>ofL_mem h hx)
 have HPos:=Qh (fun l (hl:l ∈ ofL (bAt B (s:Int)) (s:Int))=>(ofL_pos hl).1)
 have HV:Hid (strikeL B (s:Int)=((ofL (B.getD s 0) (s:Int)).take (ofL (B.getD s 0) (s:Int)).length).flatMap (uptoL B)):=by show _=_;rw [List.take_length];rfl
 rw [hx] at HMem HPos
 have hOf:=Qh (rof_is (B.getD s 0) (s:Int))
 generalize strikeL B (s:Int)=SL at *
 generalize ofL (B.getD s 0) (s:Int)=L at *
 generalize B.getD s 0=x at *
 clear hB hbl hx K2
 have hsI:(s:Int)<64:=by omega
 go_enter Tryz.func78,Tryz.ntmps78
 go_wp2_with (with_reducible refine wpList_new_ht rfl rfl ?_)
 refine (hOf.out _).mono ?_
 rintro e W ⟨v,rfl,hR,hK⟩
 have hsz:(((w.alloc (.cells (cl B).toArray 24)).alloc (.cells (hitL []).toArray 96)).alloc (.cells (hitL []).toArray 96)).heap.size=w.heap.size+3:=by simp
 rw [hsz] at hR
 have HKW:=Qh (HK2.out.trans hK)
 have HBW:=Qh (hK.heap HBl.out)
 have HR1W:=Qh (HR1.out.kept hK)
 have HR2W:=Qh (HR2.out.kept hK)
 have HsW:Hid (w.heap.size+3≤W.heap.size):=by show _≤_;have:=hK.size;omega
 clear hK hsz hc0
 by_cases hL:0<L.length
 ·obtain ⟨g7,c7,rfl,hn1,hn2,hg7,hrow⟩:=hR.readB hL
  unfold maxLen at hn2
  have HRow:=Qh hrow
  have Hg7:=Qh hg7
  generalize hN:L.length=N at *
  have HNN:=Qh hN
  clear hR hrow hN hg7
  go_wp2
  go_loopw [7] (fun t7 wr=>∃ i:Nat,i≤N∧t7=.int .i64 i∧RAt wr (w.heap.size+2) (hitL ((L.take i).flatMap (uptoL B))) 96∧KB W (w.heap.size+2) wr) (fun t7 _=>N-(intOf t7).toNat)
  case atStart=>exact ⟨0,by omega,rfl,HR2W.out,KB.refl _ _⟩
  case round =>
   obtain ⟨i,hi,rfl,hA,hKB⟩:=hrel
   have HA:=Qh hA
   have HKB:=Qh hKB
   clear hA hKB
   by_cases hlt:i<N
   ·have hlt':(i:Int)<(N:Int):=by omega
    obtain ⟨l,hl⟩:∃ l,L[i]?=some l:=⟨_,List.getElem?_eq_getElem (by have:=HNN.out;omega)⟩
    obtain ⟨u,g,hcu,hls,hgb⟩:=HRow.out i l hl
    have hpos:=HPos.out l (List.mem_of_getElem? hl)
    have HMl:=Qh (HMem.out l (List.mem_of_getElem? hl))
    obtain ⟨off,cu,rfl,hk1,hk2,hcell⟩:=hls.full hpos
    have hgb':=hgb hpos
    have HS:=Qh (flat_snoc (B:=B) hl)
    generalize (L.take i).flatMap (uptoL B)=D at *
    have Hl:=Qh hl
    have HCu:=Qh hcu
    have HCell:=Qh hcell
    have Hgb:=Qh hgb'
    have hbm:l.length≤9223372036854775807:=by unfold maxLen at hk2;omega
    generalize hM:l.length=M at *
    have HMM:=Qh hM
    clear hl hcu hls hgb hcell hgb' hk2 hM
    go_wp2
    go_loopw [8] (fun t8 wr=>∃ k:Nat,k≤M∧t8=.int .i64 k∧(∀ j,j<k→∀ z,l[j]?=some z→bAt B z=0)∧RAt wr (w.heap.size+2) (hitL (D++l.take k)) 96∧KB W (w.heap.size+2) wr) (fun t8 _=>M-(intOf t8).toNat)
    case atStart=>exact ⟨0,by omega,rfl,fun j hj=>by omega,by rw [List.take_zero,List.append_nil];exact HA.out,HKB.out⟩
    case round =>
     obtain ⟨k,hk,rfl,hin,hA2,hKB2⟩:=hrel
     have HIn:=Qh hin
     have HA2:=Qh hA2
     have HKB2:=Qh hKB2
     have d0:=hKB2.cell (by have:=Hg7.out;show g7≠_;omega) HCu.out
     clear hin hA2 hKB2
     by_cases hkl:k<M
     ·have hkl':(k:Int)<(M:Int):=by omega
      obtain ⟨y,hy⟩:∃ y,l[k]?=some y:=⟨_,List.getElem?_eq_getElem (by have:=HMM.out;omega)⟩
      obtain ⟨y0,y1⟩:=HMl.out y (List.mem_of_getElem? hy)
      obtain ⟨yn,rfl⟩:=Int.eq_ofNat_of_zero_le y0
      have hyn:yn<64:=by omega
      have d1:=HKB2.out.cell (by have:=Hgb.out;show g≠_;omega) (HCell.out k _ hy)
      have c1:=HA2.out.cellK yn
      rw [hitL_get _ hyn] at c1
      have f1:=HA2.out.frozen yn
      have HKB3:=Qh (HKB2.out.set yn (.bool true))
      have e0:=HKB3.out.cell (by have:=Hg7.out;show g7≠_;omega) HCu.out
      have e1:=HKB3.out.cell (by have:=Hgb.out;show g≠_;omega) (HCell.out k _ hy)
      have e2:=HKB3.out.cell (a:=⟨w.heap.size,yn,none⟩) (by show w.heap.size≠_;omega) (board_cell HB.out HBW.out yn hyn)
      have HA3:Hid (RAt (_:World) (w.heap.size+2) (hitL (D++l.take (k+1))) 96):=⟨by
       rw [heap_setCell_same _ _ yn _ _ _ HA2.out.at_,List.setIfInBounds_toArray,hitL_set _ hyn,take_snoc2 hy,List.append_assoc]⟩
      have HY:=Qh hy
      have hbz:bAt B (yn:Int)=B.getD yn 0:=rfl
      generalize (D++l.take k).contains (yn:Int)=cb at *
      generalize B.getD yn 0=z at *
      clear hy
      by_cases h0:z=0
      ·have b1:(z != 0)=false:=by simpa using h0
       have HZ:=Qh (hbz.trans h0)
       clear h0 hbz
       go_wp2
       go_roundw
       case rel=>exact ⟨k+1,by omega,by go_num,fun j hj y hy'=>by
        by_cases hji:j<k
        ·exact HIn.out j hji y hy'
        ·obtain rfl:j=k:=by omega
         rw [HY.out] at hy'
         rw [← Option.some.inj hy'];exact HZ.out,HA3.out,HKB3.out⟩
       case measure=>simp [intOf];omega
      ·have b1:(z != 0)=true:=by simpa using h0
       have HU:=Qh (upto_cut HIn.out HY.out (by rw [hbz];exact h0))
       clear h0 hbz
       go_wp2
       go_roundw
       case rel=>exact ⟨i+1,by omega,by go_num,by rw [HS.out,HU.out];exact HA3.out,HKB3.out⟩
       case measure=>simp [intOf];omega
     ·have hkl':¬ (k:Int)<(M:Int):=by omega
      obtain rfl:k=M:=by omega
      have HU:Hid (uptoL B l=l.take k):=by
       show _=_
       rw [List.take_of_length_le (by have:=HMM.out;omega)]
       exact upto_all fun j y hy=>HIn.out j (by have:=(List.getElem?_eq_some_iff.1 hy).1;have:=HMM.out;omega) y hy
      go_wp2
      go_roundw
      case rel=>exact ⟨i+1,by omega,by go_num,by rw [HS.out,HU.out];exact HA2.out,HKB2.out⟩
      case measure=>simp [intOf];omega
   ·obtain rfl:i=N:=by omega
    have hlt':¬ (i:Int)<(i:Int):=by omega
    rw [← HV.out] at HA
    have H1:=Qh (HR1W.out.kb HKB.out (by omega))
    go_wp2_with (first|(refine wpList_load_mid rfl 96 _ rfl (w.heap.size+2) 0 rfl (hitL SL) _ HA.out.range Tryz.underlying96 rfl (by rw [sizeHt SL];simp) ?_)|(refine wpList_store_row rfl 96 _ _ rfl (w.heap.size+1) (hitL SL).toArray rfl rfl 96 _ H1.out.at_ (sizeHt SL) (by simp [hitL_len]) (ht_one _) ?_))
    refine bodyPost_ret (v:=.agg (hitL SL).toArray) ?_ rfl ⟨rfl,?_⟩
    ·exact results_cell_row rfl _ _ (w.heap.size+1) 96 _ (0,0) _ rfl (setRow_heap _ _ _ _ _ _ H1.out.at_) Tryz.underlying96 rfl (sizeHt SL)
    ·exact (HKB.out.below HKW.out (by omega)).setRow (by omega) _
 ·have h0:L=[]:=List.eq_nil_of_length_eq_zero (by omega)
  subst h0
  obtain ⟨a7,c7,rfl⟩:=hR.slice
  have HV':Hid (SL=[]):=HV.out
  rw [← HV'.out] at HR2W
  clear hR HV
  go_wp2
  go_loopw [7] (fun t7 wr=>t7=.int .i64 0∧wr=W) (fun _ _=>0)
  case atStart=>exact ⟨rfl,rfl⟩
  case round =>
   obtain ⟨rfl,rfl⟩:=hrel
   go_wp2_with (first|(refine wpList_load_mid rfl 96 _ rfl (w.heap.size+2) 0 rfl (hitL SL) _ HR2W.out.range Tryz.underlying96 rfl (by rw [sizeHt SL];simp) ?_)|(refine wpList_store_row rfl 96 _ _ rfl (w.heap.size+1) (hitL SL).toArray rfl rfl 96 _ HR1W.out.at_ (sizeHt SL) (by simp [hitL_len]) (ht_one _) ?_))
   refine bodyPost_ret (v:=.agg (hitL SL).toArray) ?_ rfl ⟨rfl,?_⟩
   ·exact results_cell_row rfl _ _ (w.heap.size+1) 96 _ (0,0) _ rfl (setRow_heap _ _ _ _ _ _ HR1W.out.at_) Tryz.underlying96 rfl (sizeHt SL)
   ·exact HKW.out.setRow (by omega) _
set_option maxHeartbeats 2000000 in
theorem sameM_yes (g1 g2:Nat) (v1 v2:Value) (l:List Mv) (w:World) (h1:LsM w g1 v1 l) (h2:LsM w g2 v2 l) :
  Calls Tryz.prog 10 #[v1,v2] w fun e w'=>e=.returned (.bool true)∧Kept w w':=by
 by_cases hl:0<l.length
 ·obtain ⟨o1,c1,rfl,a1,b1,k1⟩:=h1.full hl
  obtain ⟨o2,c2,rfl,a2,b2,k2⟩:=h2.full hl
  have K1:=Qh k1
  have K2:=Qh k2
  generalize hn:l.length=n at *
  have HN:=Qh hn
  have hm:n≤maxLen:=by omega
  unfold maxLen at hm
  clear k1 k2 h1 h2 hn b1 b2
  go_enter Tryz.func10,Tryz.ntmps10
  go_wp2
  go_loopw [5] (fun t5 wr=>∃ k:Nat,k≤n∧t5=.int .i64 k∧Kept w wr) (fun t5 _=>n-(intOf t5).toNat)
  case atStart=>exact ⟨0,Nat.zero_le _,rfl,Kept.refl _⟩
  case round =>
   obtain ⟨k,hk,rfl,hK⟩:=hrel
   have HK:=Qh hK
   by_cases hlt:k<n
   ·have hlt':(k:Int)<(n:Int):=by omega
    obtain ⟨x,hx⟩:∃ x,l[k]?=some x:=⟨_,List.getElem?_eq_getElem (by have:=HN.out;omega)⟩
    have HR1:=Qh (range_i (range_kept K1.out hK) hx)
    have HR2:=Qh (range_i (range_kept K2.out hK) hx)
    have Hb:Hid ((!beqM x x)=false):=by show _=_;rw [beqM_refl];rfl
    clear hx hK
    go_wp2
    refine wp_region_held_drew (S:=Kept _) (by kernel_rfl) (Kept.refl _).drew (fun Qj=>?_)
    refine rT 0 17 (.slice (some ⟨g1,o1,none⟩) n c1) rfl rfl Qj ?_
    simp only [pA,pN,sZ,sU]
    refine rT 1 18 (.int .i64 (k:Int)) rfl rfl Qj ?_
    simp only [pA,pN,sZ,sU]
    refine rT 2 19 (.pointer (some ⟨g1,o1+k*3,none⟩)) rfl rfl Qj ?_
    simp only [pA,pN,sZ,sU]
    refine rY 3 20 rfl rfl (take_load_mvi (by rfl) _ rfl g1 (o1+k*3) rfl x (fun _ h=>range_kept (HR1.out) h)) Qj ?_
    simp only [pA,pN,sZ,sU]
    refine rT 4 21 (.slice (some ⟨g2,o2,none⟩) n c2) rfl rfl Qj ?_
    simp only [pA,pN,sZ,sU]
    refine rT 5 22 (.int .i64 (k:Int)) rfl rfl Qj ?_
    simp only [pA,pN,sZ,sU]
    refine rT 6 23 (.pointer (some ⟨g2,o2+k*3,none⟩)) rfl rfl Qj ?_
    simp only [pA,pN,sZ,sU]
    refine rY 7 24 rfl rfl (take_load_mvi (by rfl) _ rfl g2 (o2+k*3) rfl x (fun _ h=>range_kept (HR2.out) h)) Qj ?_
    simp only [pA,pN,sZ,sU]
    refine rY 8 25 rfl rfl (take_neq_mv (by rfl) _ _ _ rfl x x rfl rfl (Hb.out)) Qj ?_
    simp only [pA,pN,sZ,sU]
    refine wpAnyH_done (by kernel_rfl) ?_ _
    have HK2:=Qh (HK.out.trans Qj)
    clear Qj
    go_wp2
    go_roundw
    case rel=>exact ⟨k+1,by omega,by go_num,HK2.out⟩
    case measure=>simp [intOf];omega
   ·clear hK
    go_wp2
    go_ret
    exact ⟨rfl,HK.out⟩
 ·have h0:l=[]:=List.eq_nil_of_length_eq_zero (by omega)
  subst h0
  obtain ⟨a1,c1,rfl⟩:=h1.slice
  obtain ⟨a2,c2,rfl⟩:=h2.slice
  go_enter Tryz.func10,Tryz.ntmps10
  go_wp2
  go_loopw [5] (fun t5 wr=>t5=.int .i64 0∧wr=w) (fun _ _=>0)
  case atStart=>exact ⟨rfl,rfl⟩
  case round =>
   obtain ⟨rfl,rfl⟩:=hrel
   go_wp2
   go_ret
   exact ⟨rfl,Kept.refl _⟩
theorem RAt.beside {w w':World} {g b':Nat} {l:List Value} {T:TypeId} {vm:Value} {M:List Mv} (h:RAt w g l T) (hT:T≠54) (hm:OwnM w b' vm M) (hg:w.grownBy w' vm.ownBlock):RAt w' g l T:=by
 refine ⟨(hg.block g (lt_of_heap h.at_) (fun e=>?_)).trans h.at_⟩
 rcases hm.2 with ⟨q,_⟩|⟨gm,cm,curm,q1,_,q3,_⟩
 ·rw [q] at e;cases e
 ·rw [q1] at e
  have:g=gm:=by simpa [Value.ownBlock] using e
  have h2:=h.at_
  rw [this,q3] at h2
  simp at h2
  exact hT h2.2.symm
theorem wpList_load_mvu {ops:Array Oper} {rest:List Oper} {op:Oper} {a:Act} {w:World} {Q:Exit→Act→World→Prop} (hgd:op.guard=none) (x:Operand) (ho:op.op=.load 54 x)
  (g:Nat) (hx:a.eval x=.pointer (some ⟨g,0,none⟩)) (m:Mv) (hg:MAt w g m)
  (h:wpList Tryz.prog ops Q rest (a.put op.dst (.agg (ml m).toArray)) w):wpList Tryz.prog ops Q (op::rest) a w :=
 wpList_plain hgd fun _ hK=>wp_load_mid 54 x ho g 0 hx (ml m) _ (RAt.range hg) Tryz.underlying54 rfl sizeM (hK _ _ h)
def toQ (p:Ps) (f n:Nat):List Mv:=(List.range n).flatMap (toN p f)
theorem toQ_succ (p:Ps) (f n:Nat):toQ p f (n+1)=toQ p f n++toN p f n:=by simp [toQ,List.range_succ]
theorem toQ_len (p:Ps) (f n:Nat):(toQ p f n).length≤6*n:=by
 have:=flatM_len (toN p f) 6 (toN_len p f) (List.range n)
 rw [List.length_range] at this
 exact this
def toP (p:Ps) (f t j:Nat):List Mv:=((prK.take j).map fun k=>(⟨(f:Int),(t:Int),k⟩:Mv)).filter (goesM p)
theorem toP_end (p:Ps) (f t:Nat):toP p f t 6=toN p f t:=rfl
theorem prK_at {j:Nat} (h:j<6):prK[j]?=some (5-(j:Int)):=by
 have:j=0∨j=1∨j=2∨j=3∨j=4∨j=5:=by omega
 rcases this with rfl|rfl|rfl|rfl|rfl|rfl <;> rfl
theorem toP_yes {p:Ps} {f t j:Nat} {q:Int} (hj:j<6) (hq:q=5-(j:Int)) (h:goesM p ⟨f,t,q⟩=true):toP p f t (j+1)=toP p f t j++[⟨f,t,q⟩]:=by
 unfold toP
 rw [List.take_add_one,prK_at hj,← hq]
 simp [h]
theorem toP_no {p:Ps} {f t j:Nat} {q:Int} (hj:j<6) (hq:q=5-(j:Int)) (h:goesM p ⟨f,t,q⟩=false):toP p f t (j+1)=toP p f t j:=by
 unfold toP
 rw [List.take_add_one,prK_at hj,← hq]
 simp [h]
theorem toP_len (p:Ps) (f t j:Nat):(toP p f t j).length≤6:=by
 unfold toP
 refine Nat.le_trans (List.length_filter_le _ _) ?_
 rw [List.length_map,List.length_take]
 exact Nat.min_le_right _ _
set_option maxHeartbeats 8000000 in
theorem rall_is (p:Ps) (hB:Brd p.B) (hr:pwI p=0) (w:World):Calls Tryz.prog 50 #[.agg (pl p).toArray] w (NewM w (allL p)):=by
 have HP:=Qh (PAt.new w hB.1)
 have HK0:=Qh ((Kept.refl w).alloc (.cells (pl p).toArray 26))
 obtain ⟨W,eW⟩:∃ W,W=w.alloc (.cells (pl p).toArray 26):=⟨_,rfl⟩
 have HW:=Qh eW
 rw [← eW] at HP HK0
 have HFo:=Qh (fun m w=>rformed_is p hB (right_t hr).1 m w)
 have HB:=Qh hB
 have HRi:=Qh hr
 have HV:Hid (allL p=allN p 64):=by rfl
 have t01:=Qh (right_t hr).1
 clear hB hr eW
 go_enter Tryz.func50,Tryz.ntmps50
 go_wp2
 rw [← HW.out]
 go_loopw [3,4] (fun t3 t4 wr=>∃ f:Nat,f≤64∧t4=.int .i64 f∧OwnM wr W.heap.size t3 (allN p f)∧Kept W wr) (fun _ t4 _=>64-(intOf t4).toNat)
 case atStart=>exact ⟨0,by omega,rfl,OwnM.nil _ _,Kept.refl _⟩
 case round =>
  obtain ⟨f,hf,rfl,hO,hK⟩:=hrel
  obtain ⟨ao,co,rfl⟩:=hO.slice
  have HO0:=Qh hO
  have HK00:=Qh hK
  have HPr:=Qh (HP.out.kept hK)
  generalize hln:(allN p f).length=q0 at *
  have HQ0:=Qh hln
  clear hO hK hln
  by_cases hlt:f<64
  ·have hlt':(f:Int)<64:=by omega
   have hsq:=HPr.out.sq f hlt
   by_cases h0:p.B.getD f 0=0
   ·rw [h0] at hsq
    have HNo:Hid (allN p (f+1)=allN p f):=by
     show _=_
     rw [allN_succ,from_none (by unfold manA bAt;rw [if_pos (by omega),Int.toNat_natCast,h0,side_zero];have:=t01.out;omega),List.append_nil]
    clear h0
    go_wp2
    go_roundw
    case rel=>exact ⟨f+1,by omega,by go_num,by rw [HNo.out];exact HO0.out,HK00.out⟩
    case measure=>simp [intOf];omega
   ·have hb0:(p.B.getD f 0 == 0)=false:=beq_eq_false_iff_ne.2 h0
    have HSt:=Qh (fun w=>struckR_is p.B HB.out f hlt w)
    have HPw:=Qh (fun w=>rpawn_is p.B HB.out f hlt w)
    have HS:=Qh (allN_succ p f)
    have HAl:=Qh (allN_len p f)
    have Hkk:Hid (∃ kk,(kindI (p.B.getD f 0) == 1)=kk):=⟨_,rfl⟩
    generalize hA:allN p f=A at *
    clear h0 hA
    generalize hxx:p.B.getD f 0=xx at hsq hb0
    clear hxx
    go_wp2_with (refine wpList_load_pb (by rfl) _ rfl _ rfl _ HPr.out ?_)
    refine (HSt.out _).mono ?_
    rintro e w1 ⟨rfl,k1⟩
    have HKa:=Qh ((HK00.out.trans k1).alloc (.cells (hitL (strikeL p.B (f:Int))).toArray 96))
    have HOa:=Qh ((HO0.out.kept k1).kept ((Kept.refl w1).alloc (.cells (hitL (strikeL p.B (f:Int))).toArray 96)))
    have HAa:Hid (RAt (w1.alloc (.cells (hitL (strikeL p.B (f:Int))).toArray 96)) w1.heap.size (hitL (strikeL p.B (f:Int))) 96):=⟨heap_alloc_new w1 _⟩
    clear k1 hsq
    go_wp2_with (first|(with_reducible refine wpList_new_ht rfl rfl ?_)|((with_reducible refine wpList_store_newht rfl _ _ rfl (strikeL p.B (f:Int)) ?_ ?_ ?_);exact rfl;exact rfl))
    go_loopw [3,6] (fun t3 t6 wr=>∃ t:Nat,t≤64∧t6=.int .i64 t∧OwnM wr W.heap.size t3 (A++toQ p f t)∧Kept W wr∧RAt wr w1.heap.size (hitL (strikeL p.B (f:Int))) 96) (fun _ t6 _=>64-(intOf t6).toNat)
    case atStart=>exact ⟨0,by omega,rfl,by rw [show toQ p f 0=[] from rfl,List.append_nil];exact HOa.out,HKa.out,HAa.out⟩
    case round =>
     obtain ⟨t,ht,rfl,hO,hK,hAr⟩:=hrel
     obtain ⟨ao,co,rfl⟩:=hO.slice
     have HO1:=Qh hO
     have HK1:=Qh hK
     have HA1:=Qh hAr
     have HQl:=Qh (toQ_len p f t)
     generalize hln:(A++toQ p f t).length=q1 at *
     have HQ1:=Qh hln
     clear hO hK hAr hln
     by_cases htl:t<64
     ·have htl':(t:Int)<64:=by omega
      have HSq:=Qh (toQ_succ p f t)
      go_wp2
      go_loopw [3,7] (fun t3 t7 wr=>∃ (j:Nat) (q:Int),q=5-(j:Int)∧j≤6∧t7=.int .i64 q∧OwnM wr W.heap.size t3 (A++toQ p f t++toP p f t j)∧Kept W wr∧RAt wr w1.heap.size (hitL (strikeL p.B (f:Int))) 96) (fun _ t7 _=>(intOf t7+1).toNat)
      case atStart=>exact ⟨0,5,by omega,by omega,rfl,by rw [show toP p f t 0=[] from rfl,List.append_nil];exact HO1.out,HK1.out,HA1.out⟩
      case round =>
       obtain ⟨j,q,hq,hj,rfl,hO,hK,hAr⟩:=hrel
       obtain ⟨ao,co,rfl⟩:=hO.slice
       have HQ:=Qh hq
       have HLn:Hid (f≤64∧t≤64):=⟨hf,ht⟩
       by_cases hjl:0≤q
       ·have hj6:=Qh (show j<6 by omega)
        have hqb:q≤5:=by omega
        have KB0:=Qh ((Kept.refl wr).alloc (.cells (ml ⟨(f:Int),(t:Int),q⟩).toArray 54))
        have HP2:=Qh (HP.out.kept (hK.trans KB0.out))
        have HM2:Hid (MAt _ _ _):=MAt.new wr ⟨(f:Int),(t:Int),q⟩
        have HK2:=Qh (hK.trans KB0.out)
        have HO2:=Qh (hO.kept KB0.out)
        have HA2:=Qh (hAr.kept KB0.out)
        have HFm:=Qh (HFo.out ⟨(f:Int),(t:Int),q⟩)
        generalize hln:(A++toQ p f t++toP p f t j).length=q2 at *
        clear hO hK hAr hln hq
        cases hfo:formB p ⟨(f:Int),(t:Int),q⟩
        ·rw [hfo] at HFm
         have HG:=Qh (goes_not hfo)
         clear hfo
         go_wp2_with (first|(refine wpList_bt_mv3 rfl _ _ _ rfl (f:Int) (t:Int) q rfl rfl rfl ?_)|(with_reducible refine wpList_new_mv rfl rfl ?_)|((with_reducible refine wpList_store_newmv rfl _ _ rfl Zm ⟨(f:Int),(t:Int),q⟩ ?_ ?_ ?_);exact rfl;exact rfl)|(refine wpList_load_ps (by rfl) _ rfl _ rfl _ HP2.out ?_)|(refine wpList_load_pb (by rfl) _ rfl _ rfl _ HP2.out ?_)|(refine wpList_load_mv (by rfl) _ rfl _ rfl _ HM2.out ?_))
         refine (HFm.out _).mono ?_
         rintro e w3 ⟨rfl,k3⟩
         have HP3:=Qh (HP2.out.kept k3)
         have HM3:=Qh (MAt.kept HM2.out k3)
         have HK3:=Qh (HK2.out.trans k3)
         have HO3:=Qh (HO2.out.kept k3)
         have HA3:=Qh (HA2.out.kept k3)
         clear k3
         go_wp2
         go_roundw
         case rel=>exact ⟨j+1,q-1,by have:=HQ.out;omega,by have:=hj6.out;omega,by go_num,by rw [toP_no hj6.out HQ.out HG.out];exact HO3.out,HK3.out,HA3.out⟩
         case measure=>simp [intOf];omega
        ·rw [hfo] at HFm
         have hok:okM p ⟨(f:Int),(t:Int),q⟩=true:=by unfold okM;rw [HRi.out,hfo];rfl
         obtain ⟨f',t',F⟩:=form_of HB.out hok
         obtain rfl:f'=f:=by have:=F.hf;dsimp only at this;omega
         obtain rfl:t'=t:=by have:=F.ht;dsimp only at this;omega
         cases hk:(kindI (p.B.getD f' 0) == 1)
         ·have HPn:=Qh HPw.out
          rw [hk] at HPn
          have HRt:=Qh (fun w=>rightR_is p HB.out (right_t HRi.out).2.1.1 (right_t HRi.out).2.1.2 (right_pos HRi.out).2.2.2.1 ⟨(f':Int),(t':Int),q⟩ f' t' rfl rfl hlt htl w)
          have hgt:=right_gt (p:=p) (m:=⟨(f':Int),(t':Int),q⟩)
          have hG:=goes_man hfo (by rw [F.pb,hk])
          rw [← hgt] at hG
          have hh2:_=some (Value.bool (hitB p.B (f':Int) (t':Int))):=(HA2.out.cellK t').trans (hitL_get _ htl)
          clear hgt hk hfo hok F
          cases hhb:hitB p.B (f':Int) (t':Int)
          ·rw [hhb] at hG hh2
           generalize hR (castN p ⟨(f':Int),(t':Int),q⟩)=x at *
           rw [Bool.false_or] at hG
           cases hx:decide (0<x)
           ·rw [hx] at hG
            have HG:=Qh hG
            have hx':¬ 0<x:=by simpa using hx
            clear hG hx
            go_wp2_with (first|(refine wpList_bt_mv3 rfl _ _ _ rfl (f':Int) (t':Int) q rfl rfl rfl ?_)|(with_reducible refine wpList_new_mv rfl rfl ?_)|((with_reducible refine wpList_store_newmv rfl _ _ rfl Zm ⟨(f':Int),(t':Int),q⟩ ?_ ?_ ?_);exact rfl;exact rfl)|(refine wpList_load_ps (by rfl) _ rfl _ rfl _ HP2.out ?_)|(refine wpList_load_pb (by rfl) _ rfl _ rfl _ HP2.out ?_)|(refine wpList_load_mv (by rfl) _ rfl _ rfl _ HM2.out ?_))
            refine (HFm.out _).mono ?_
            rintro e w3 ⟨rfl,k3⟩
            have HP3:=Qh (HP2.out.kept k3)
            have HM3:=Qh (MAt.kept HM2.out k3)
            have HK3:=Qh (HK2.out.trans k3)
            have HO3:=Qh (HO2.out.kept k3)
            have HA3:=Qh (HA2.out.kept k3)
            have hh3:=kept_cell k3 hh2
            clear k3 hh2
            go_wp2_with (first|(refine wpList_bt_mv3 rfl _ _ _ rfl (f':Int) (t':Int) q rfl rfl rfl ?_)|(with_reducible refine wpList_new_mv rfl rfl ?_)|((with_reducible refine wpList_store_newmv rfl _ _ rfl Zm ⟨(f':Int),(t':Int),q⟩ ?_ ?_ ?_);exact rfl;exact rfl)|(refine wpList_load_ps (by rfl) _ rfl _ rfl _ HP3.out ?_)|(refine wpList_load_pb (by rfl) _ rfl _ rfl _ HP3.out ?_)|(refine wpList_load_mv (by rfl) _ rfl _ rfl _ HM3.out ?_))
            refine (HPn.out _).mono ?_
            rintro e w4 ⟨rfl,k4⟩
            have HP4:=Qh (HP3.out.kept k4)
            have HM4:=Qh (MAt.kept HM3.out k4)
            have HK4:=Qh (HK3.out.trans k4)
            have HO4:=Qh (HO3.out.kept k4)
            have HA4:=Qh (HA3.out.kept k4)
            have hh4:=kept_cell k4 hh3
            clear k4 hh3
            go_wp2_with (first|(refine wpList_bt_mv3 rfl _ _ _ rfl (f':Int) (t':Int) q rfl rfl rfl ?_)|(with_reducible refine wpList_new_mv rfl rfl ?_)|((with_reducible refine wpList_store_newmv rfl _ _ rfl Zm ⟨(f':Int),(t':Int),q⟩ ?_ ?_ ?_);exact rfl;exact rfl)|(refine wpList_load_ps (by rfl) _ rfl _ rfl _ HP4.out ?_)|(refine wpList_load_pb (by rfl) _ rfl _ rfl _ HP4.out ?_)|(refine wpList_load_mv (by rfl) _ rfl _ rfl _ HM4.out ?_))
            refine (HPn.out _).mono ?_
            rintro e w5 ⟨rfl,k5⟩
            have HP5:=Qh (HP4.out.kept k5)
            have HM5:=Qh (MAt.kept HM4.out k5)
            have HK5:=Qh (HK4.out.trans k5)
            have HO5:=Qh (HO4.out.kept k5)
            have HA5:=Qh (HA4.out.kept k5)
            have hh5:=kept_cell k5 hh4
            clear k5 hh4
            go_wp2_with (first|(refine wpList_bt_mv3 rfl _ _ _ rfl (f':Int) (t':Int) q rfl rfl rfl ?_)|(with_reducible refine wpList_new_mv rfl rfl ?_)|((with_reducible refine wpList_store_newmv rfl _ _ rfl Zm ⟨(f':Int),(t':Int),q⟩ ?_ ?_ ?_);exact rfl;exact rfl)|(refine wpList_load_ps (by rfl) _ rfl _ rfl _ HP5.out ?_)|(refine wpList_load_pb (by rfl) _ rfl _ rfl _ HP5.out ?_)|(refine wpList_load_mv (by rfl) _ rfl _ rfl _ HM5.out ?_))
            refine (HRt.out _).mono ?_
            rintro e w6 ⟨rfl,k6⟩
            have HP6:=Qh (HP5.out.kept k6)
            have HM6:=Qh (MAt.kept HM5.out k6)
            have HK6:=Qh (HK5.out.trans k6)
            have HO6:=Qh (HO5.out.kept k6)
            have HA6:=Qh (HA5.out.kept k6)
            clear k6
            go_wp2
            go_roundw
            case rel=>exact ⟨j+1,q-1,by have:=HQ.out;omega,by have:=hj6.out;omega,by go_num,by rw [toP_no hj6.out HQ.out HG.out];exact HO6.out,HK6.out,HA6.out⟩
            case measure=>simp [intOf];omega
           ·rw [hx] at hG
            have HG:=Qh hG
            have hx':0<x:=by simpa using hx
            clear hG hx
            go_wp2_with (first|(refine wpList_bt_mv3 rfl _ _ _ rfl (f':Int) (t':Int) q rfl rfl rfl ?_)|(with_reducible refine wpList_new_mv rfl rfl ?_)|((with_reducible refine wpList_store_newmv rfl _ _ rfl Zm ⟨(f':Int),(t':Int),q⟩ ?_ ?_ ?_);exact rfl;exact rfl)|(refine wpList_load_ps (by rfl) _ rfl _ rfl _ HP2.out ?_)|(refine wpList_load_pb (by rfl) _ rfl _ rfl _ HP2.out ?_)|(refine wpList_load_mv (by rfl) _ rfl _ rfl _ HM2.out ?_))
            refine (HFm.out _).mono ?_
            rintro e w3 ⟨rfl,k3⟩
            have HP3:=Qh (HP2.out.kept k3)
            have HM3:=Qh (MAt.kept HM2.out k3)
            have HK3:=Qh (HK2.out.trans k3)
            have HO3:=Qh (HO2.out.kept k3)
            have HA3:=Qh (HA2.out.kept k3)
            have hh3:=kept_cell k3 hh2
            clear k3 hh2
            go_wp2_with (first|(refine wpList_bt_mv3 rfl _ _ _ rfl (f':Int) (t':Int) q rfl rfl rfl ?_)|(with_reducible refine wpList_new_mv rfl rfl ?_)|((with_reducible refine wpList_store_newmv rfl _ _ rfl Zm ⟨(f':Int),(t':Int),q⟩ ?_ ?_ ?_);exact rfl;exact rfl)|(refine wpList_load_ps (by rfl) _ rfl _ rfl _ HP3.out ?_)|(refine wpList_load_pb (by rfl) _ rfl _ rfl _ HP3.out ?_)|(refine wpList_load_mv (by rfl) _ rfl _ rfl _ HM3.out ?_))
            refine (HPn.out _).mono ?_
            rintro e w4 ⟨rfl,k4⟩
            have HP4:=Qh (HP3.out.kept k4)
            have HM4:=Qh (MAt.kept HM3.out k4)
            have HK4:=Qh (HK3.out.trans k4)
            have HO4:=Qh (HO3.out.kept k4)
            have HA4:=Qh (HA3.out.kept k4)
            have hh4:=kept_cell k4 hh3
            clear k4 hh3
            go_wp2_with (first|(refine wpList_bt_mv3 rfl _ _ _ rfl (f':Int) (t':Int) q rfl rfl rfl ?_)|(with_reducible refine wpList_new_mv rfl rfl ?_)|((with_reducible refine wpList_store_newmv rfl _ _ rfl Zm ⟨(f':Int),(t':Int),q⟩ ?_ ?_ ?_);exact rfl;exact rfl)|(refine wpList_load_ps (by rfl) _ rfl _ rfl _ HP4.out ?_)|(refine wpList_load_pb (by rfl) _ rfl _ rfl _ HP4.out ?_)|(refine wpList_load_mv (by rfl) _ rfl _ rfl _ HM4.out ?_))
            refine (HPn.out _).mono ?_
            rintro e w5 ⟨rfl,k5⟩
            have HP5:=Qh (HP4.out.kept k5)
            have HM5:=Qh (MAt.kept HM4.out k5)
            have HK5:=Qh (HK4.out.trans k5)
            have HO5:=Qh (HO4.out.kept k5)
            have HA5:=Qh (HA4.out.kept k5)
            have hh5:=kept_cell k5 hh4
            clear k5 hh4
            go_wp2_with (first|(refine wpList_bt_mv3 rfl _ _ _ rfl (f':Int) (t':Int) q rfl rfl rfl ?_)|(with_reducible refine wpList_new_mv rfl rfl ?_)|((with_reducible refine wpList_store_newmv rfl _ _ rfl Zm ⟨(f':Int),(t':Int),q⟩ ?_ ?_ ?_);exact rfl;exact rfl)|(refine wpList_load_ps (by rfl) _ rfl _ rfl _ HP5.out ?_)|(refine wpList_load_pb (by rfl) _ rfl _ rfl _ HP5.out ?_)|(refine wpList_load_mv (by rfl) _ rfl _ rfl _ HM5.out ?_))
            refine (HRt.out _).mono ?_
            rintro e w6 ⟨rfl,k6⟩
            have HP6:=Qh (HP5.out.kept k6)
            have HM6:=Qh (MAt.kept HM5.out k6)
            have HK6:=Qh (HK5.out.trans k6)
            have HO6:=Qh (HO5.out.kept k6)
            have HA6:=Qh (HA5.out.kept k6)
            clear k6
            have KA:=Qh ((Kept.refl w6).alloc (.cells (ml ⟨(f':Int),(t':Int),q⟩).toArray 54))
            go_wp2_with (first|((with_reducible refine wpList_load_mvu rfl _ rfl _ ?_ _ HM6.out ?_);exact rfl)|((with_reducible refine wpList_bslice_mv rfl _ rfl ⟨(f':Int),(t':Int),q⟩ ?_ ?_);exact rfl)|(at_builtin;refine wpList_append_m rfl _ _ rfl W.heap.size w6.heap.size _ _ (A++toQ p f' t'++toP p f' t' j) [⟨(f':Int),(t':Int),q⟩] rfl rfl (HO6.out.kept KA.out) (LsM.lit _ _) ?c1 ?c2 ?_))
            case c1=>have:=HLn.out;have:=toP_len p f' t' j;have:=HAl.out;have:=HQl.out;simp only [List.length_append,List.length_singleton];omega
            case c2=>have:=HK6.out.size;simp;omega
            intro v' w9 hO' hg
            have hK9:=(HO6.out.kept KA.out).grown (HK6.out.trans KA.out) (Nat.le_refl _) hg
            have HA9:=Qh ((HA6.out.kept KA.out).beside (by decide) (HO6.out.kept KA.out) hg)
            replace hO':OwnM w9 W.heap.size v' (A++toQ p f' t'++toP p f' t' (j+1)):=by rw [toP_yes hj6.out HQ.out HG.out];simpa only [List.append_assoc] using hO'
            obtain ⟨a',cap',rfl⟩:=hO'.slice
            have HO9:=Qh hO'
            have HK9:=Qh hK9
            clear hO' hK9 hg
            generalize (A++toQ p f' t'++toP p f' t' (j+1)).length=q' at *
            go_wp2
            go_roundw
            case rel=>exact ⟨j+1,q-1,by have:=HQ.out;omega,by have:=hj6.out;omega,by go_num,HO9.out,HK9.out,HA9.out⟩
            case measure=>simp [intOf];omega
          ·rw [hhb] at hG hh2
           rw [Bool.true_or] at hG
           have HG:=Qh hG
           clear hG
           go_wp2_with (first|(refine wpList_bt_mv3 rfl _ _ _ rfl (f':Int) (t':Int) q rfl rfl rfl ?_)|(with_reducible refine wpList_new_mv rfl rfl ?_)|((with_reducible refine wpList_store_newmv rfl _ _ rfl Zm ⟨(f':Int),(t':Int),q⟩ ?_ ?_ ?_);exact rfl;exact rfl)|(refine wpList_load_ps (by rfl) _ rfl _ rfl _ HP2.out ?_)|(refine wpList_load_pb (by rfl) _ rfl _ rfl _ HP2.out ?_)|(refine wpList_load_mv (by rfl) _ rfl _ rfl _ HM2.out ?_))
           refine (HFm.out _).mono ?_
           rintro e w3 ⟨rfl,k3⟩
           have HP3:=Qh (HP2.out.kept k3)
           have HM3:=Qh (MAt.kept HM2.out k3)
           have HK3:=Qh (HK2.out.trans k3)
           have HO3:=Qh (HO2.out.kept k3)
           have HA3:=Qh (HA2.out.kept k3)
           have hh3:=kept_cell k3 hh2
           clear k3 hh2
           go_wp2_with (first|(refine wpList_bt_mv3 rfl _ _ _ rfl (f':Int) (t':Int) q rfl rfl rfl ?_)|(with_reducible refine wpList_new_mv rfl rfl ?_)|((with_reducible refine wpList_store_newmv rfl _ _ rfl Zm ⟨(f':Int),(t':Int),q⟩ ?_ ?_ ?_);exact rfl;exact rfl)|(refine wpList_load_ps (by rfl) _ rfl _ rfl _ HP3.out ?_)|(refine wpList_load_pb (by rfl) _ rfl _ rfl _ HP3.out ?_)|(refine wpList_load_mv (by rfl) _ rfl _ rfl _ HM3.out ?_))
           refine (HPn.out _).mono ?_
           rintro e w4 ⟨rfl,k4⟩
           have HP4:=Qh (HP3.out.kept k4)
           have HM4:=Qh (MAt.kept HM3.out k4)
           have HK4:=Qh (HK3.out.trans k4)
           have HO4:=Qh (HO3.out.kept k4)
           have HA4:=Qh (HA3.out.kept k4)
           have hh4:=kept_cell k4 hh3
           clear k4 hh3
           go_wp2_with (first|(refine wpList_bt_mv3 rfl _ _ _ rfl (f':Int) (t':Int) q rfl rfl rfl ?_)|(with_reducible refine wpList_new_mv rfl rfl ?_)|((with_reducible refine wpList_store_newmv rfl _ _ rfl Zm ⟨(f':Int),(t':Int),q⟩ ?_ ?_ ?_);exact rfl;exact rfl)|(refine wpList_load_ps (by rfl) _ rfl _ rfl _ HP4.out ?_)|(refine wpList_load_pb (by rfl) _ rfl _ rfl _ HP4.out ?_)|(refine wpList_load_mv (by rfl) _ rfl _ rfl _ HM4.out ?_))
           refine (HPn.out _).mono ?_
           rintro e w5 ⟨rfl,k5⟩
           have HP5:=Qh (HP4.out.kept k5)
           have HM5:=Qh (MAt.kept HM4.out k5)
           have HK5:=Qh (HK4.out.trans k5)
           have HO5:=Qh (HO4.out.kept k5)
           have HA5:=Qh (HA4.out.kept k5)
           have hh5:=kept_cell k5 hh4
           clear k5 hh4
           have KA:=Qh ((Kept.refl w5).alloc (.cells (ml ⟨(f':Int),(t':Int),q⟩).toArray 54))
           go_wp2_with (first|((with_reducible refine wpList_load_mvu rfl _ rfl _ ?_ _ HM5.out ?_);exact rfl)|((with_reducible refine wpList_bslice_mv rfl _ rfl ⟨(f':Int),(t':Int),q⟩ ?_ ?_);exact rfl)|(at_builtin;refine wpList_append_m rfl _ _ rfl W.heap.size w5.heap.size _ _ (A++toQ p f' t'++toP p f' t' j) [⟨(f':Int),(t':Int),q⟩] rfl rfl (HO5.out.kept KA.out) (LsM.lit _ _) ?c1 ?c2 ?_))
           case c1=>have:=HLn.out;have:=toP_len p f' t' j;have:=HAl.out;have:=HQl.out;simp only [List.length_append,List.length_singleton];omega
           case c2=>have:=HK5.out.size;simp;omega
           intro v' w9 hO' hg
           have hK9:=(HO5.out.kept KA.out).grown (HK5.out.trans KA.out) (Nat.le_refl _) hg
           have HA9:=Qh ((HA5.out.kept KA.out).beside (by decide) (HO5.out.kept KA.out) hg)
           replace hO':OwnM w9 W.heap.size v' (A++toQ p f' t'++toP p f' t' (j+1)):=by rw [toP_yes hj6.out HQ.out HG.out];simpa only [List.append_assoc] using hO'
           obtain ⟨a',cap',rfl⟩:=hO'.slice
           have HO9:=Qh hO'
           have HK9:=Qh hK9
           clear hO' hK9 hg
           generalize (A++toQ p f' t'++toP p f' t' (j+1)).length=q' at *
           go_wp2
           go_roundw
           case rel=>exact ⟨j+1,q-1,by have:=HQ.out;omega,by have:=hj6.out;omega,by go_num,HO9.out,HK9.out,HA9.out⟩
           case measure=>simp [intOf];omega
         ·have HPn:=Qh HPw.out
          rw [hk] at HPn
          have HPg:=Qh (fun w=>rpgo_is p ⟨(f':Int),(t':Int),q⟩ f' t' (F.pf (beq_iff_eq.1 hk)) w)
          have hG:=goes_pawn hfo (by rw [F.pb,hk])
          clear hk hfo hok F
          cases hpg:pgoB p ⟨(f':Int),(t':Int),q⟩
          ·rw [hpg] at hG HPg
           have HG:=Qh hG
           clear hG hpg
           go_wp2_with (first|(refine wpList_bt_mv3 rfl _ _ _ rfl (f':Int) (t':Int) q rfl rfl rfl ?_)|(with_reducible refine wpList_new_mv rfl rfl ?_)|((with_reducible refine wpList_store_newmv rfl _ _ rfl Zm ⟨(f':Int),(t':Int),q⟩ ?_ ?_ ?_);exact rfl;exact rfl)|(refine wpList_load_ps (by rfl) _ rfl _ rfl _ HP2.out ?_)|(refine wpList_load_pb (by rfl) _ rfl _ rfl _ HP2.out ?_)|(refine wpList_load_mv (by rfl) _ rfl _ rfl _ HM2.out ?_))
           refine (HFm.out _).mono ?_
           rintro e w3 ⟨rfl,k3⟩
           have HP3:=Qh (HP2.out.kept k3)
           have HM3:=Qh (MAt.kept HM2.out k3)
           have HK3:=Qh (HK2.out.trans k3)
           have HO3:=Qh (HO2.out.kept k3)
           have HA3:=Qh (HA2.out.kept k3)
           clear k3
           go_wp2_with (first|(refine wpList_bt_mv3 rfl _ _ _ rfl (f':Int) (t':Int) q rfl rfl rfl ?_)|(with_reducible refine wpList_new_mv rfl rfl ?_)|((with_reducible refine wpList_store_newmv rfl _ _ rfl Zm ⟨(f':Int),(t':Int),q⟩ ?_ ?_ ?_);exact rfl;exact rfl)|(refine wpList_load_ps (by rfl) _ rfl _ rfl _ HP3.out ?_)|(refine wpList_load_pb (by rfl) _ rfl _ rfl _ HP3.out ?_)|(refine wpList_load_mv (by rfl) _ rfl _ rfl _ HM3.out ?_))
           refine (HPn.out _).mono ?_
           rintro e w4 ⟨rfl,k4⟩
           have HP4:=Qh (HP3.out.kept k4)
           have HM4:=Qh (MAt.kept HM3.out k4)
           have HK4:=Qh (HK3.out.trans k4)
           have HO4:=Qh (HO3.out.kept k4)
           have HA4:=Qh (HA3.out.kept k4)
           clear k4
           go_wp2_with (first|(refine wpList_bt_mv3 rfl _ _ _ rfl (f':Int) (t':Int) q rfl rfl rfl ?_)|(with_reducible refine wpList_new_mv rfl rfl ?_)|((with_reducible refine wpList_store_newmv rfl _ _ rfl Zm ⟨(f':Int),(t':Int),q⟩ ?_ ?_ ?_);exact rfl;exact rfl)|(refine wpList_load_ps (by rfl) _ rfl _ rfl _ HP4.out ?_)|(refine wpList_load_pb (by rfl) _ rfl _ rfl _ HP4.out ?_)|(refine wpList_load_mv (by rfl) _ rfl _ rfl _ HM4.out ?_))
           refine (HPg.out _).mono ?_
           rintro e w5 ⟨rfl,k5⟩
           have HP5:=Qh (HP4.out.kept k5)
           have HM5:=Qh (MAt.kept HM4.out k5)
           have HK5:=Qh (HK4.out.trans k5)
           have HO5:=Qh (HO4.out.kept k5)
           have HA5:=Qh (HA4.out.kept k5)
           clear k5
           go_wp2_with (first|(refine wpList_bt_mv3 rfl _ _ _ rfl (f':Int) (t':Int) q rfl rfl rfl ?_)|(with_reducible refine wpList_new_mv rfl rfl ?_)|((with_reducible refine wpList_store_newmv rfl _ _ rfl Zm ⟨(f':Int),(t':Int),q⟩ ?_ ?_ ?_);exact rfl;exact rfl)|(refine wpList_load_ps (by rfl) _ rfl _ rfl _ HP5.out ?_)|(refine wpList_load_pb (by rfl) _ rfl _ rfl _ HP5.out ?_)|(refine wpList_load_mv (by rfl) _ rfl _ rfl _ HM5.out ?_))
           refine (HPn.out _).mono ?_
           rintro e w6 ⟨rfl,k6⟩
           have HP6:=Qh (HP5.out.kept k6)
           have HM6:=Qh (MAt.kept HM5.out k6)
           have HK6:=Qh (HK5.out.trans k6)
           have HO6:=Qh (HO5.out.kept k6)
           have HA6:=Qh (HA5.out.kept k6)
           clear k6
           go_wp2
           go_roundw
           case rel=>exact ⟨j+1,q-1,by have:=HQ.out;omega,by have:=hj6.out;omega,by go_num,by rw [toP_no hj6.out HQ.out HG.out];exact HO6.out,HK6.out,HA6.out⟩
           case measure=>simp [intOf];omega
          ·rw [hpg] at hG HPg
           have HG:=Qh hG
           clear hG hpg
           go_wp2_with (first|(refine wpList_bt_mv3 rfl _ _ _ rfl (f':Int) (t':Int) q rfl rfl rfl ?_)|(with_reducible refine wpList_new_mv rfl rfl ?_)|((with_reducible refine wpList_store_newmv rfl _ _ rfl Zm ⟨(f':Int),(t':Int),q⟩ ?_ ?_ ?_);exact rfl;exact rfl)|(refine wpList_load_ps (by rfl) _ rfl _ rfl _ HP2.out ?_)|(refine wpList_load_pb (by rfl) _ rfl _ rfl _ HP2.out ?_)|(refine wpList_load_mv (by rfl) _ rfl _ rfl _ HM2.out ?_))
           refine (HFm.out _).mono ?_
           rintro e w3 ⟨rfl,k3⟩
           have HP3:=Qh (HP2.out.kept k3)
           have HM3:=Qh (MAt.kept HM2.out k3)
           have HK3:=Qh (HK2.out.trans k3)
           have HO3:=Qh (HO2.out.kept k3)
           have HA3:=Qh (HA2.out.kept k3)
           clear k3
           go_wp2_with (first|(refine wpList_bt_mv3 rfl _ _ _ rfl (f':Int) (t':Int) q rfl rfl rfl ?_)|(with_reducible refine wpList_new_mv rfl rfl ?_)|((with_reducible refine wpList_store_newmv rfl _ _ rfl Zm ⟨(f':Int),(t':Int),q⟩ ?_ ?_ ?_);exact rfl;exact rfl)|(refine wpList_load_ps (by rfl) _ rfl _ rfl _ HP3.out ?_)|(refine wpList_load_pb (by rfl) _ rfl _ rfl _ HP3.out ?_)|(refine wpList_load_mv (by rfl) _ rfl _ rfl _ HM3.out ?_))
           refine (HPn.out _).mono ?_
           rintro e w4 ⟨rfl,k4⟩
           have HP4:=Qh (HP3.out.kept k4)
           have HM4:=Qh (MAt.kept HM3.out k4)
           have HK4:=Qh (HK3.out.trans k4)
           have HO4:=Qh (HO3.out.kept k4)
           have HA4:=Qh (HA3.out.kept k4)
           clear k4
           go_wp2_with (first|(refine wpList_bt_mv3 rfl _ _ _ rfl (f':Int) (t':Int) q rfl rfl rfl ?_)|(with_reducible refine wpList_new_mv rfl rfl ?_)|((with_reducible refine wpList_store_newmv rfl _ _ rfl Zm ⟨(f':Int),(t':Int),q⟩ ?_ ?_ ?_);exact rfl;exact rfl)|(refine wpList_load_ps (by rfl) _ rfl _ rfl _ HP4.out ?_)|(refine wpList_load_pb (by rfl) _ rfl _ rfl _ HP4.out ?_)|(refine wpList_load_mv (by rfl) _ rfl _ rfl _ HM4.out ?_))
           refine (HPg.out _).mono ?_
           rintro e w5 ⟨rfl,k5⟩
           have HP5:=Qh (HP4.out.kept k5)
           have HM5:=Qh (MAt.kept HM4.out k5)
           have HK5:=Qh (HK4.out.trans k5)
           have HO5:=Qh (HO4.out.kept k5)
           have HA5:=Qh (HA4.out.kept k5)
           clear k5
           have KA:=Qh ((Kept.refl w5).alloc (.cells (ml ⟨(f':Int),(t':Int),q⟩).toArray 54))
           go_wp2_with (first|((with_reducible refine wpList_load_mvu rfl _ rfl _ ?_ _ HM5.out ?_);exact rfl)|((with_reducible refine wpList_bslice_mv rfl _ rfl ⟨(f':Int),(t':Int),q⟩ ?_ ?_);exact rfl)|(at_builtin;refine wpList_append_m rfl _ _ rfl W.heap.size w5.heap.size _ _ (A++toQ p f' t'++toP p f' t' j) [⟨(f':Int),(t':Int),q⟩] rfl rfl (HO5.out.kept KA.out) (LsM.lit _ _) ?c1 ?c2 ?_))
           case c1=>have:=HLn.out;have:=toP_len p f' t' j;have:=HAl.out;have:=HQl.out;simp only [List.length_append,List.length_singleton];omega
           case c2=>have:=HK5.out.size;simp;omega
           intro v' w9 hO' hg
           have hK9:=(HO5.out.kept KA.out).grown (HK5.out.trans KA.out) (Nat.le_refl _) hg
           have HA9:=Qh ((HA5.out.kept KA.out).beside (by decide) (HO5.out.kept KA.out) hg)
           replace hO':OwnM w9 W.heap.size v' (A++toQ p f' t'++toP p f' t' (j+1)):=by rw [toP_yes hj6.out HQ.out HG.out];simpa only [List.append_assoc] using hO'
           obtain ⟨a',cap',rfl⟩:=hO'.slice
           have HO9:=Qh hO'
           have HK9:=Qh hK9
           clear hO' hK9 hg
           generalize (A++toQ p f' t'++toP p f' t' (j+1)).length=q' at *
           go_wp2
           go_roundw
           case rel=>exact ⟨j+1,q-1,by have:=HQ.out;omega,by have:=hj6.out;omega,by go_num,HO9.out,HK9.out,HA9.out⟩
           case measure=>simp [intOf];omega
       ·obtain rfl:j=6:=by omega
        have HO2:=Qh hO
        have HK2:=Qh hK
        have HA2:=Qh hAr
        generalize hln:(A++toQ p f t++toP p f t 6).length=q2 at *
        clear hO hK hAr hln hq
        go_wp2
        go_roundw
        case rel=>exact ⟨t+1,by omega,by go_num,by rw [HSq.out,← toP_end,← List.append_assoc];exact HO2.out,HK2.out,HA2.out⟩
        case measure=>simp [intOf];omega
     ·obtain rfl:t=64:=by omega
      go_wp2
      go_roundw
      case rel=>exact ⟨f+1,by omega,by go_num,by rw [HS.out];exact HO1.out,HK1.out⟩
      case measure=>simp [intOf];omega
  ·obtain rfl:f=64:=by omega
   go_wp2
   go_ret
   exact ⟨_,rfl,by rw [HV.out];exact HO0.out.low HK0.out.size,HK0.out.trans HK00.out⟩
def stayP (p:Ps) (L:List Mv) (k:Nat):List Mv:=(L.take k).filter (stayB p)
theorem stayP_yes {p:Ps} {L:List Mv} {k:Nat} {x:Mv} (h:L[k]?=some x) (hb:stayB p x=true):stayP p L (k+1)=stayP p L k++[x]:=by
 unfold stayP;rw [take_one h];simp [hb]
theorem stayP_no {p:Ps} {L:List Mv} {k:Nat} {x:Mv} (h:L[k]?=some x) (hb:stayB p x=false):stayP p L (k+1)=stayP p L k:=by
 unfold stayP;rw [take_one h];simp [hb]
theorem stayP_long (p:Ps) (L:List Mv) (k:Nat):(stayP p L k).length≤L.length:=by
 unfold stayP
 refine Nat.le_trans (List.length_filter_le _ _) ?_
 rw [List.length_take];omega
theorem stayP_end (p:Ps):stayP p (allL p) (allL p).length=legL p:=by unfold stayP legL;rw [List.take_length]
set_option maxHeartbeats 4000000 in
theorem rmoves_is (p:Ps) (hB:Brd p.B) (hr:pwI p=0) (w:World):Calls Tryz.prog 28 #[.agg (pl p).toArray] w (NewM w (legL p)):=by
 have HP:=Qh (PAt.new w hB.1)
 have HK0:=Qh ((Kept.refl w).alloc (.cells (pl p).toArray 26))
 have hpl:Hid (p.B.length=64):=hB.1
 have HAl:=Qh (fun w=>rall_is p hB hr w)
 have HS:=Qh (fun m (h:m ∈ allL p) w=>rstays_is p hB hr m ((mem_allN (right_t hr).1).1 h) w)
 have HEnd:=Qh (stayP_end p)
 have HLl:Hid ((allL p).length≤24576):=allN_len p 64
 generalize allL p=L at *
 clear hB hr
 go_enter Tryz.func28,Tryz.ntmps28
 go_wp2_with (first|(refine wpList_load_ps (by rfl) _ rfl _ rfl _ (HP.out) ?_)|(refine wpList_load_pb (by rfl) _ rfl _ rfl _ (HP.out) ?_))
 refine (HAl.out _).mono ?_
 rintro e X ⟨v,rfl,hOX,kX⟩
 obtain ⟨gl,hls,_⟩:=hOX.ls
 obtain ⟨a0,c0,rfl⟩:=hOX.slice
 have HLs:=Qh hls
 have HKX:=Qh (HK0.out.trans kX)
 have HPX:=Qh (HP.out.kept kX)
 generalize hn:L.length=n at *
 have HN:=Qh hn
 clear hOX kX hls hn
 go_wp2
 go_loopw [3,5] (fun t3 t5 wr=>∃ k:Nat,k≤n∧t5=.int .i64 k∧OwnM wr X.heap.size t3 (stayP p L k)∧Kept X wr) (fun _ t5 _=>n-(intOf t5).toNat)
 case atStart=>exact ⟨0,Nat.zero_le _,rfl,OwnM.nil _ _,Kept.refl _⟩
 case round =>
  obtain ⟨k,hk,rfl,hown,hK⟩:=hrel
  obtain ⟨a3,c3,rfl⟩:=hown.slice
  have HK:=Qh hK
  have HO:=Qh hown
  have HLn:=Qh (stayP_long p L k)
  clear hown
  by_cases hlt:k<n
  ·have hlt':(k:Int)<(n:Int):=by omega
   obtain ⟨x,hx⟩:∃ x,L[k]?=some x:=⟨_,List.getElem?_eq_getElem (by have:=HN.out;omega)⟩
   have hmx:=List.mem_of_getElem? hx
   obtain ⟨off,cap,he,hc1,hc2,h3⟩:=HLs.out.full (by have:=HN.out;omega)
   rw [HN.out] at he
   injection he with he1 he2 he3
   subst he1 he3
   rw [HN.out] at hc1
   unfold maxLen at hc2
   have HX:=Qh hx
   have HRx:=Qh (range_i (range_kept h3 hK) hx)
   have HPk:=Qh (HPX.out.kept hK)
   have HSx:=Qh (HS.out x hmx)
   clear h3 hx hK hmx
   cases hb:stayB p x
   ·rw [hb] at HSx
    have HY:=Qh (stayP_no HX.out hb)
    clear hb
    generalize (stayP p L k).length=N at *
    go_wp2
    refine wp_region_held_drew (S:=Kept _) (by kernel_rfl) (Kept.refl _).drew (fun Qj=>?_)
    refine rY 0 14 rfl rfl (take_load_ps (by rfl) _ rfl _ rfl p hpl.out (fun _ h=>(HPk.out).kept h)) Qj ?_
    simp only [Act.put,sA,sZ,sU]
    refine rT 1 15 (.slice (some ⟨gl,off,none⟩) n c0) rfl rfl Qj ?_
    simp only [pA,pN,sZ,sU]
    refine rT 2 16 (.int .i64 (k:Int)) rfl rfl Qj ?_
    simp only [pA,pN,sZ,sU]
    refine rT 3 17 (.pointer (some ⟨gl,off+k*3,none⟩)) rfl rfl Qj ?_
    simp only [pA,pN,sZ,sU]
    refine rY 4 18 rfl rfl (take_load_mvi (by rfl) _ rfl gl (off+k*3) rfl x (fun _ h=>range_kept (HRx.out) h)) Qj ?_
    simp only [pA,pN,sZ,sU]
    refine rR 5 rfl (fun K hK=>?_)
    go_simp
    refine (HSx.out _).mono ?_
    rintro e x1 ⟨rfl,gx1⟩
    refine hK.out _ _ (Qj.trans gx1) (fun _=>?_)
    replace Qj:=Qj.trans gx1
    clear hK K
    refine wpAnyH_done (by kernel_rfl) ?_ _
    have HK1:=Qh (HK.out.trans Qj)
    have HO1:=Qh (HO.out.kept Qj)
    clear Qj gx1
    go_wp2
    go_roundw
    case rel=>exact ⟨k+1,by omega,by go_num,by rw [HY.out];exact HO1.out,HK1.out⟩
    case measure=>simp [intOf];omega
   ·rw [hb] at HSx
    have HY:=Qh (stayP_yes HX.out hb)
    clear hb
    generalize hNn:(stayP p L k).length=N at *
    go_wp2
    refine wp_region_held_drew (S:=Kept _) (by kernel_rfl) (Kept.refl _).drew (fun Qj=>?_)
    refine rY 0 14 rfl rfl (take_load_ps (by rfl) _ rfl _ rfl p hpl.out (fun _ h=>(HPk.out).kept h)) Qj ?_
    simp only [pA,pN,sZ,sU]
    refine rT 1 15 (.slice (some ⟨gl,off,none⟩) n c0) rfl rfl Qj ?_
    simp only [pA,pN,sZ,sU]
    refine rT 2 16 (.int .i64 (k:Int)) rfl rfl Qj ?_
    simp only [pA,pN,sZ,sU]
    refine rT 3 17 (.pointer (some ⟨gl,off+k*3,none⟩)) rfl rfl Qj ?_
    simp only [pA,pN,sZ,sU]
    refine rY 4 18 rfl rfl (take_load_mvi (by rfl) _ rfl gl (off+k*3) rfl x (fun _ h=>range_kept (HRx.out) h)) Qj ?_
    simp only [pA,pN,sZ,sU]
    refine rR 5 rfl (fun K hK=>?_)
    go_simp
    refine (HSx.out _).mono ?_
    rintro e x1 ⟨rfl,gx1⟩
    refine hK.out _ _ (Qj.trans gx1) (fun _=>?_)
    replace Qj:=Qj.trans gx1
    clear hK K
    refine wpAnyH_done (by kernel_rfl) ?_ _
    have HK1:=Qh (HK.out.trans Qj)
    have HRy:=Qh (range_kept HRx.out Qj)
    have KA:=Qh ((Kept.refl x1).alloc (.cells (ml x).toArray 54))
    have HOA:=Qh ((HO.out.kept Qj).kept KA.out)
    have HLe:Hid ((stayP p L k).length=N):=hNn
    clear Qj gx1 hNn
    go_wp2_with (first|((with_reducible refine wpList_load_mvo rfl _ rfl gl (off+k*3) ?_ x HRy.out ?_);exact rfl)|((with_reducible refine wpList_bslice_mv rfl _ rfl x ?_ ?_);exact rfl)|(at_builtin;refine wpList_append_m rfl _ _ rfl X.heap.size x1.heap.size _ _ (stayP p L k) [x] rfl rfl HOA.out (LsM.lit _ _) ?c1 ?c2 ?_))
    case c1=>have:=HLl.out;have:=HN.out;have:=HLn.out;have:=HLe.out;simp only [List.length_singleton];omega
    case c2=>have:=HK1.out.size;simp;omega
    intro v' w9 hO' hg
    have HK9:=Qh (HOA.out.grown (HK1.out.trans KA.out) (Nat.le_refl _) hg)
    rw [← HY.out] at hO'
    obtain ⟨a',cap',rfl⟩:=hO'.slice
    have HO9:=Qh hO'
    clear hO' hg
    generalize (stayP p L (k+1)).length=N2 at *
    go_wp2
    go_roundw
    case rel=>exact ⟨k+1,by omega,by go_num,HO9.out,HK9.out⟩
    case measure=>simp [intOf];omega
  ·clear hK
   obtain rfl:k=n:=by omega
   generalize (stayP p L k).length=N at *
   go_wp2
   go_ret
   exact ⟨_,rfl,by rw [← HEnd.out];exact HO.out.low HKX.out.size,HKX.out.trans HK.out⟩
theorem held_round {id n l:Nat} {ops:Array Oper} {Q:Exit→Act→World→Prop} {P:Program} {S:World→Prop} {a:Act} {w:World} (hd:ops.all noDefer=true) (hno:∀ a w,¬ Q .outgrown a w)
  (hm:P.follows .mixedOrders=true) (hS:S w.drew) (h:S w.drew→wpAnyH P .any ops Q S ops.size (Array.replicate ops.size false) a w.drew):(Code.region id ops true).wpIn (Fence.wide.inRound l) n P Q a w :=
 wpIn_region_draw fun t=>by
  simp only [Region.schedule,hm,Bool.true_or,if_true]
  exact ops_round hd hno _ a _ (wpAny_sound ops.size t _ a _ (wpAny_of_held _ _ _ _ (h hS)))
theorem body_plain {f:Func} {R:Ending→World→Prop} {tmps:Array Value} {W:World} {v:Value} (hr:(results f tmps).run Tryz.prog W=.ok v W) (h:R (.returned v) W) :
  bodyPostM Fence.wide 1 Tryz.prog f R .ret { tmps:=tmps,defers:=[] } W:=⟨v,hr,h⟩
theorem refL_len:∀ (n:Nat) (p:Ps) (x:List Mv),x ∈ refL n p→x.length=n
 | 0,p,x,h=>by simp [refL] at h;rw [h];rfl
 | n+1,p,x,h=>by
  rw [refL,List.mem_flatMap] at h
  obtain ⟨m,_,h⟩:=h
  obtain ⟨y,hy,rfl⟩:=List.mem_map.1 h
  rw [List.length_cons,refL_len n _ y hy]
def fullB (n:Nat) (x:List Mv):Bool:=!decide (x.length<n)
theorem all_goes (n most:Nat) (p:Ps):goesAll (ansB (fullB n) most) [] (upL n p)=decide ((refL n p).length≤most):=by
 rw [goesUp _ _ _ _ (Nat.zero_le _),List.nil_append]
 have:(upL n p).filter (fullB n)=refL n p:=upL_full n p
 rw [this]
theorem legR_sorted (p:Ps):(legR p).Pairwise fun a b=>lessB a b=true:=by
 unfold legR
 split
 ·unfold legL;exact (allN_sorted p 64).filter _
 ·exact List.Pairwise.nil
theorem refL_sorted:∀ (n:Nat) (p:Ps),(refL n p).Pairwise fun a b=>lessP a b=true
 | 0,p=>by simp [refL]
 | n+1,p=>by
  rw [refL,List.pairwise_flatMap]
  refine ⟨fun m _=>?_,(legR_sorted p).imp fun {a b} hab x hx y hy=>?_⟩
  ·rw [List.pairwise_map]
   exact (refL_sorted n _).imp fun {x y} h=>by rw [lessP_same _ _ (beqM_refl m)];exact h
  ·obtain ⟨x',_,rfl⟩:=List.mem_map.1 hx
   obtain ⟨y',_,rfl⟩:=List.mem_map.1 hy
   rw [lessP_diff _ _ (less_not hab).2]
   exact hab
theorem refL_next {n:Nat} {p:Ps} {i:Nat} {a b:List Mv} (ha:(refL n p)[i]?=some a) (hb:(refL n p)[i+1]?=some b):lessP a b=true:=by
 obtain ⟨h1,rfl⟩:=List.getElem?_eq_some_iff.1 ha
 obtain ⟨h2,rfl⟩:=List.getElem?_eq_some_iff.1 hb
 exact List.pairwise_iff_getElem.1 (refL_sorted n p) i (i+1) h1 h2 (by omega)
theorem run_append_any {t e ty:TypeId} {i0:TypeInfo} {z:Value} {size bytes:Nat} (ht:Tryz.prog.underlying t=some (.slice e)) (hi:Tryz.prog.info? e=some i0) (hz0:i0.zero=some z) (hz1:i0.size=size) (hz2:i0.bytes=bytes) (hzs:z.cells.size=size) (hsz:0<size) (hby:bytes≤1000)
  (base:Nat) (v:Value) (n:Nat) (xs:List Value) (w:World) (hown:w.ownsRow base e size v n xs) (hb:base≤w.heap.size) (g off c:Nat) (news:List Value) (hl:news.length=size) (hcell:w.rangeAt g off news) (h1:∀ u ∈ news,u.oneCell'=true) (hlen:n≤1000000000) :
  ∃ v' w',(Builtin.append_ #[t,t] ty #[v,.slice (some ⟨g,off,none⟩) 1 c]).run Tryz.prog w=.ok v' w'∧w'.ownsRow base e size v' (n+1) (xs++news)∧w.grownBy w' v.ownBlock ∧
   ∀ k,v'.ownBlock=some k→v.ownBlock=some k∨w.heap.size≤k:=by
 have hn:∀ j u,news[j]?=some u→w.cell? ((⟨g,off,none⟩:Addr).add j)=some u:=by
  intro j u hu
  rw [show (⟨g,off,none⟩:Addr).add j=⟨g,off+j,none⟩ by unfold Addr.add;split <;> simp_all]
  exact hcell j u hu
 have hb2:(n+1)*bytes≤140737488355328:=Nat.le_trans (Nat.mul_le_mul (show n+1≤1000000001 by omega) hby) (by decide)
 have go:=fun base hb (ho:w.ownsRow base e size v n xs)=>run_append_own (P:=Tryz.prog) w base t ty e i0 z size bytes ht hi hz0 hz1 hz2 hzs hsz v n xs ho ⟨g,off,none⟩ 1 c news (by rw [hl,Nat.one_mul]) hn h1 (by unfold maxLen;omega) hb2 hb
 obtain ⟨v',w',hr,h2,h3,_⟩:=go base hb hown
 refine ⟨v',w',hr,h2,h3,fun k hk=>?_⟩
 rcases hown.2 with ⟨ev,h0⟩|⟨gb,cap,cur,ev,hb,hh,hnc,hcm,hcs,htk⟩
 ·right
  have hx0:xs=[]:=List.eq_nil_of_length_eq_zero (by rw [hown.1,h0,Nat.zero_mul])
  obtain ⟨v2,w2,hr2,h22,_⟩:=go w.heap.size (Nat.le_refl _) (by rw [ev,hx0,h0];exact World.ownsRow_nil _ _ _ _)
  rw [hr] at hr2
  injection hr2 with e1 e2
  subst e1 e2
  exact (World.ownsRow.lt h22 k hk).1
 ·by_cases hroom:n+1≤cap
  ·left
   have hr2:=run_append_room (P:=Tryz.prog) w t ty e i0 ht hi gb n cap cur hh ⟨g,off,none⟩ 1 c news (by rw [hz1,hl,Nat.one_mul]) hn h1 hroom (by rw [hz1,hcs,hl,← Nat.succ_mul];exact Nat.mul_le_mul_right _ hroom)
   rw [← ev,hr] at hr2
   injection hr2 with e1 e2
   rw [e1] at hk
   rw [ev]
   exact hk
  ·right
   have hr2:=run_append_grow (P:=Tryz.prog) w t ty e i0 z ht hi hz0 ⟨gb,0,none⟩ n cap xs (by rw [hz1];exact hown.1) (hown.cells (g:=gb) (by rw [ev];rfl)) ⟨g,off,none⟩ 1 c news (by rw [hz1,hl,Nat.one_mul]) hn (by omega) (by omega) (growslice_fits (by omega) (by rw [hz2];exact hb2))
   rw [← ev,hr] at hr2
   injection hr2 with e1 e2
   rw [e1] at hk
   simp [Value.ownBlock] at hk
   omega
theorem infoSl:(Tryz.prog.info? 37).map (fun i=>(i.zero,i.size,i.bytes))=some (some (.slice none 0 0),1,24):=by kernel_rfl
def RowsM (Z:Nat→Prop) (w:World) (base:Nat) (v:Value) (L:List (List Mv)):Prop :=
 ∃ vs,w.ownsRow base 37 1 v L.length vs∧(∀ k,v.ownBlock=some k→¬ Z k) ∧
  ∀ (i:Nat) (u:Value) (l:List Mv),vs[i]?=some u→L[i]?=some l→∃ g,LsM w g u l∧(0<l.length→base≤g∧¬ Z g∧∃ c,w.heap[g]?=some (.cells c 54 (0,0)))
section
variable {Z Z':Nat→Prop} {w w':World} {base:Nat} {v:Value} {L:List (List Mv)}
theorem RowsM.nil (Z:Nat→Prop) (w:World) (base:Nat):RowsM Z w base (.slice none 0 0) [] :=
 ⟨[],World.ownsRow_nil _ _ _ _,fun k hk=>by simp [Value.ownBlock] at hk,fun i u l h=>by simp at h⟩
theorem LsM.same {g:Nat} {u:Value} {l:List Mv} (h:LsM w g u l) (hk:0<l.length→w'.heap[g]?=w.heap[g]?):LsM w' g u l:=by
 rcases h with h|⟨off,cap,e,h1,h2,h3⟩
 ·exact .inl h
 ·refine .inr ⟨off,cap,e,h1,h2,fun i x hx=>?_⟩
  have hl:0<l.length:=by have:=(List.getElem?_eq_some_iff.1 hx).1;rw [mlL_len] at this;omega
  rw [World.cell?_of_block (a:=⟨g,off+i,none⟩) (hk hl)]
  exact h3 i x hx
theorem RowsM.apart (h:RowsM Z w base v L) (hk:∀ k,base≤k→¬ Z k→k<w.heap.size→w'.heap[k]?=w.heap[k]?) (hz:∀ k,base≤k→k<w.heap.size→¬ Z k→¬ Z' k):RowsM Z' w' base v L:=by
 obtain ⟨vs,ho,hb,he⟩:=h
 refine ⟨vs,?_,fun k hv=>?_,fun i u l hu hl=>?_⟩
 ·obtain ⟨h1,h2⟩:=ho
  refine ⟨h1,?_⟩
  rcases h2 with h2|⟨b,cap,cur,e1,e2,e3,e4⟩
  ·exact .inl h2
  ·exact .inr ⟨b,cap,cur,e1,e2,(hk b e2 (hb b (by rw [e1];rfl)) (lt_of_heap e3)).trans e3,e4⟩
 ·obtain ⟨a,b⟩:=World.ownsRow.lt ho k hv
  exact hz k a b (hb k hv)
 ·obtain ⟨g,a,b⟩:=he i u l hu hl
  refine ⟨g,a.same (fun hp=>?_),fun hp=>?_⟩
  ·obtain ⟨c1,c2,c,c3⟩:=b hp
   exact hk g c1 c2 (lt_of_heap c3)
  ·obtain ⟨c1,c2,c,c3⟩:=b hp
   exact ⟨c1,hz g c1 (lt_of_heap c3) c2,c,(hk g c1 c2 (lt_of_heap c3)).trans c3⟩
theorem RowsM.kept (h:RowsM Z w base v L) (k:Kept w w'):RowsM Z w' base v L:=h.apart (fun i _ _ hi=>k.block i hi) (fun _ _ _ h=>h)
theorem RowsM.slice (h:RowsM Z w base v L):∃ a cap,v=.slice a L.length cap:=by
 obtain ⟨vs,h,_⟩:=h
 rcases h.2 with ⟨e,h0⟩|⟨g,cap,cur,e,_⟩
 ·exact ⟨none,0,by rw [e,h0]⟩
 ·exact ⟨_,_,e⟩
theorem RowsM.low {b:Nat} (h:RowsM Z w base v L) (hb:b≤base):RowsM Z w b v L:=by
 obtain ⟨vs,ho,h1,h2⟩:=h
 refine ⟨vs,?_,h1,fun i u l hu hl=>?_⟩
 ·obtain ⟨a,c⟩:=ho
  refine ⟨a,?_⟩
  rcases c with c|⟨g,cap,cur,e1,e2,e3⟩
  ·exact .inl c
  ·exact .inr ⟨g,cap,cur,e1,by omega,e3⟩
 ·obtain ⟨g,a,c⟩:=h2 i u l hu hl
  exact ⟨g,a,fun hp=>⟨by have:=(c hp).1;omega,(c hp).2⟩⟩
theorem RowsM.push (h:RowsM Z w base v L) {u:Value} {l:List Mv} {gu:Nat} (hu:LsM w gu u l) (hn:0<l.length→base≤gu∧¬ Z gu∧∃ c,w.heap[gu]?=some (.cells c 54 (0,0)))
  {v':Value} {vs:List Value} (hvs:w.ownsRow base 37 1 v L.length vs∧(∀ k,v.ownBlock=some k→¬ Z k)∧∀ (i:Nat) (u:Value) (l:List Mv),vs[i]?=some u→L[i]?=some l→∃ g,LsM w g u l∧(0<l.length→base≤g∧¬ Z g∧∃ c,w.heap[g]?=some (.cells c 54 (0,0))))
  {w1:World} (k:Kept w w1) (ho:w'.ownsRow base 37 1 v' (L.length+1) (vs++[u])) (hg:w1.grownBy w' v.ownBlock) (hv:∀ k,v'.ownBlock=some k→v.ownBlock=some k∨w1.heap.size≤k) (hZ:∀ k,Z k→k<w1.heap.size) :
  RowsM Z w' base v' (L++[l]):=by
 obtain ⟨h1,h2,h3⟩:=hvs
 have hblk:∀ (g:Nat) (c:Array Value),w.heap[g]?=some (.cells c 54 (0,0))→w'.heap[g]?=w.heap[g]?:=by
  intro g c hc
  have hc1:=k.heap hc
  rw [hg.block g (lt_of_heap hc1) ?_,hc1,hc]
  intro hvb
  rcases h1.2 with ⟨ev,_⟩|⟨b,cap,cur,ev,_,e3,_⟩
  ·rw [ev] at hvb;simp [Value.ownBlock] at hvb
  ·rw [ev] at hvb
   simp [Value.ownBlock] at hvb
   subst hvb
   rw [hc] at e3
   simp at e3
 refine ⟨vs++[u],by simpa using ho,fun i hi=>?_,fun i y m hy hm=>?_⟩
 ·rcases hv i hi with e|e
  ·exact h2 i e
  ·exact fun hz=>by have:=hZ i hz;omega
 ·have hvl:vs.length=L.length:=by have:=h1.1;omega
  by_cases hi:i<L.length
  ·rw [List.getElem?_append_left (by omega)] at hy hm
   obtain ⟨g,a,b⟩:=h3 i y m hy hm
   refine ⟨g,a.same (fun hp=>?_),fun hp=>?_⟩
   ·obtain ⟨_,_,c,c3⟩:=b hp
    exact hblk g c c3
   ·obtain ⟨c1,c2,c,c3⟩:=b hp
    exact ⟨c1,c2,c,(hblk g c c3).trans c3⟩
  ·have hil:i=L.length:=by
    obtain ⟨hi',_⟩:=List.getElem?_eq_some_iff.1 hm
    simp at hi';omega
   subst hil
   rw [List.getElem?_append_right (by omega)] at hy hm
   simp [hvl] at hy hm
   subst hy hm
   refine ⟨gu,hu.same (fun hp=>?_),fun hp=>?_⟩
   ·obtain ⟨_,_,c,c3⟩:=hn hp
    exact hblk gu c c3
   ·obtain ⟨c1,c2,c,c3⟩:=hn hp
    exact ⟨c1,c2,c,(hblk gu c c3).trans c3⟩
theorem RowsM.at_ (h:RowsM Z w base v L) {i:Nat} {l:List Mv} (hl:L[i]?=some l):∃ go cap u g,v=.slice (some ⟨go,0,none⟩) L.length cap∧L.length≤cap∧cap≤maxLen∧w.cell? ⟨go,i,none⟩=some u∧LsM w g u l:=by
 obtain ⟨vs,ho,hb,he⟩:=h
 have hi:=(List.getElem?_eq_some_iff.1 hl).1
 have hvl:vs.length=L.length:=by have:=ho.1;omega
 obtain ⟨u,hu⟩:∃ u,vs[i]?=some u:=⟨_,List.getElem?_eq_getElem (by omega)⟩
 obtain ⟨g,hls,_⟩:=he i u l hu hl
 rcases ho.2 with ⟨e,h0⟩|⟨go,cap,cur,e,hb,hh,hnc,hcm,hcs,ht⟩
 ·omega
 ·refine ⟨go,cap,u,g,e,hnc,hcm,?_,hls⟩
  rw [cell_of_row w go i cur _ (0,0) hh]
  have h2:(cur.toList.take (L.length*1))[i]?=vs[i]?:=by rw [ht]
  rw [List.getElem?_take,if_pos (by omega)] at h2
  simp only [Array.getElem?_toList] at h2
  rw [h2,hu]
end
theorem run_bslice0 (w:World):(Instr.buildSlice 37 0 #[]).run Tryz.prog w=.ok (.slice (some ⟨w.heap.size,0,none⟩) 0 0) (w.alloc (.cells #[] 54)):=by
 have hs:(sizeOf 54).run Tryz.prog w=.ok 3 w:=by
  cases hq:Tryz.prog.info? 54 with
  | none=>have:=sizeM;simp [hq] at this
  | some i=>have:=sizeM;simp [hq] at this;simp [sizeOf,typeInfo,hq,this]
 simp only [Instr.buildSlice,Sem.run_bind,run_underlying Tryz.underlying37,Result.andThen_ok,hs,run_zero_mv,Sem.run_pure,Value.cells]
 have hr:Array.range 0=(#[]:Array Nat):=by simp [← Array.toList_inj]
 simp [run_zero_mv,newRow,hs,Instr.fill,hr]
def CloneE (w:World) (l:List Mv) (e:Ending) (w':World):Prop :=
 ∃ u g,e=.returned u∧LsM w' g u l∧Kept w w'∧(0<l.length→w.heap.size≤g∧∃ c,w'.heap[g]?=some (.cells c 54 (0,0)))
theorem OwnM.new {w:World} {base:Nat} {v:Value} {l:List Mv} (h:OwnM w base v l):∃ g,LsM w g v l∧(0<l.length→base≤g∧∃ c,w.heap[g]?=some (.cells c 54 (0,0))):=by
 obtain ⟨g,hls,hg⟩:=h.ls
 rcases h.2 with ⟨e,h0⟩|⟨g',cap,cur,e,hb,hh,_⟩
 ·exact ⟨g,hls,fun hl=>by omega⟩
 ·refine ⟨g,hls,fun hl=>⟨(hg hl).1,cur,?_⟩⟩
  obtain ⟨off,cap',e',_⟩:=hls.full hl
  rw [e] at e'
  injection e' with e1 e2 e3
  injection e1 with e1
  injection e1 with e1
  rw [← e1];exact hh
theorem run_eql_nil (w:World) (a:Option Addr) (l c:Nat):(binOp .eql 37 (.slice a l c) (.slice none 0 0)).run Tryz.prog w=.ok (.bool a.isNone) w:=by
 simp only [binOp]
 simp [run_equal_slice_nil w 37 54 a l c Tryz.underlying37]
set_option maxHeartbeats 2000000 in
theorem clone_is (g:Nat) (v:Value) (l:List Mv) (w:World) (h:LsM w g v l) (hl:l.length≤1000) :
  Calls Tryz.prog 20 #[v] w (CloneE w l):=by
 rcases h with ⟨rfl,rfl⟩|⟨off,cap,rfl,h1,h2,h3⟩
 ·go_enter Tryz.func20,Tryz.ntmps20
  have hsl:=run_eql_nil w none 0 0
  go_wp2
  go_ret
  exact ⟨_,0,rfl,.inl ⟨rfl,rfl⟩,Kept.refl _,fun h=>by simp at h⟩
 ·have HL:Hid (LsM w g (.slice (some ⟨g,off,none⟩) l.length cap) l):=.inr ⟨off,cap,rfl,h1,h2,h3⟩
  have HN:=Qh hl
  clear h1 h2 h3 hl
  have HK:=Qh ((Kept.refl w).alloc (.cells #[] 54))
  have HO:Hid (OwnM (w.alloc (.cells #[] 54)) w.heap.size (.slice (some ⟨w.heap.size,0,none⟩) 0 0) []):=World.ownsRow_made (size:=3) w #[] 0 (Nat.le_refl _) (by unfold maxLen;omega) (by simp)
  have HLa:=Qh (HL.out.kept HK.out)
  go_enter Tryz.func20,Tryz.ntmps20
  have hb0:=run_bslice0 w
  have hsl:=run_eql_nil w (some ⟨g,off,none⟩) l.length cap
  go_wp2_with (at_builtin;refine wpList_append_m rfl _ _ rfl w.heap.size g _ _ [] l rfl rfl HO.out HLa.out ?c1 ?c2 ?_)
  case c1=>have:=HN.out;simp;omega
  case c2=>exact HK.out.size
  intro v' w' hown' hg
  have HK2:=Qh (HO.out.grown HK.out (Nat.le_refl _) hg)
  obtain ⟨g',hls,hnw⟩:=OwnM.new hown'
  obtain ⟨av,cv,rfl⟩:=hown'.slice
  have HLs:=Qh hls
  have HNw:=Qh hnw
  clear hls hnw hown' hg hb0
  generalize hq:l.length=q at *
  have HQ:=Qh hq
  clear hq
  go_wp2
  go_ret
  exact ⟨_,g',rfl,HLs.out,HK2.out,fun h=>HNw.out (by rw [← HQ.out];exact h)⟩
def AllE (w:World) (L:List (List Mv)) (err:Int) (e:Ending) (w':World):Prop :=
 ∃ v,e=.returned (.tuple #[v,.int .i64 err])∧RowsM (fun _=>False) w' w.heap.size v L∧Kept w w'
theorem allocs5 (w:World) (o1 o2 o3 o4 o5:Obj):(((((w.alloc o1).alloc o2).alloc o3).alloc o4).alloc o5).heap[w.heap.size+1]?=some o2∧(((((w.alloc o1).alloc o2).alloc o3).alloc o4).alloc o5).heap[w.heap.size+1+1]?=some o3 ∧
  (((((w.alloc o1).alloc o2).alloc o3).alloc o4).alloc o5).heap[w.heap.size+1+1+1]?=some o4∧(((((w.alloc o1).alloc o2).alloc o3).alloc o4).alloc o5).heap[w.heap.size+1+1+1+1]?=some o5:=by
 obtain ⟨_,b2,b3,b4⟩:=allocs4 w o1 o2 o3 o4
 have a5:=World.alloc_heap_new ((((w.alloc o1).alloc o2).alloc o3).alloc o4) o5
 rw [World.size_alloc,World.size_alloc,World.size_alloc,World.size_alloc] at a5
 have k:=(Kept.refl ((((w.alloc o1).alloc o2).alloc o3).alloc o4)).alloc o5
 exact ⟨k.heap b2,k.heap b3,k.heap b4,a5⟩
set_option maxHeartbeats 4000000 in
theorem all_wr (p:Ps) (hB:Brd p.B) (n m:Int) (h:wrE p n≠0) (w:World) (hT:TabG w) :
  Calls Tryz.prog 7 #[.agg (pl p).toArray,.int .i64 n,.int .i64 m] w (AllE w [] (wrE p n)):=by
 have HT:=Qh hT
 have HC:=Qh (fun w hT=>pwr_is p hB n w hT)
 have hv:(wrE p n != 0)=true:=bne_iff_ne.2 h
 have hpl:Hid (p.B.length=64):=hB.1
 generalize wrE p n=x at *
 clear hB hT h
 refine calls_marked Tryz.func7 rfl ?_
 simp only [Tryz.ntmps7,List.size_toArray,List.length_cons,List.length_nil,Nat.reduceAdd,Nat.reduceSub,Array.replicate_succ,
   Array.replicate_zero,List.push_toArray,List.append_toArray,List.nil_append,List.cons_append]
 have KA:=Qh ((((((Kept.refl w).alloc (.cells (pl p).toArray 26)).alloc (.cells #[.int .i64 n] 3)).alloc (.cells #[.int .i64 m] 3)).alloc (.cells #[.slice none 0 0] 28)).alloc (.cells #[.int .i64 0] 29))
 have HPa:=Qh ((PAt.new w hpl.out).kept (((((Kept.refl _).alloc (.cells #[.int .i64 n] 3)).alloc (.cells #[.int .i64 m] 3)).alloc (.cells #[.slice none 0 0] 28)).alloc (.cells #[.int .i64 0] 29)))
 go_wp2_with (refine wpList_load_ps (by rfl) _ rfl _ rfl _ HPa.out ?_)
 refine (HC.out _ (HT.out.kept KA.out)).mono ?_
 rintro e w1 ⟨rfl,k1⟩
 obtain ⟨_,_,b6,b7⟩:=allocs5 w (.cells (pl p).toArray 26) (.cells #[.int .i64 n] 3) (.cells #[.int .i64 m] 3) (.cells #[.slice none 0 0] 28) (.cells #[.int .i64 0] 29)
 have H6:=Qh (RAt.mk (l:=[.slice none 0 0]) (k1.heap b6))
 have H7:=Qh (RAt.mk (l:=[.int .i64 0]) (k1.heap b7))
 have HK1:=Qh (KA.out.trans k1)
 have z6:=H6.out.cellK 0
 have f6:=H6.out.frozen 0
 have z7:=H7.out.cellK 0
 have f7:=H7.out.frozen 0
 have hne:w.heap.size+1+1+1≠w.heap.size+1+1+1+1:=by omega
 clear k1 b6 b7 HC HPa KA
 go_wp2
 have h6a:=Qh ((H6.out.set 0 (.slice none 0 0)).setOther (k:=w.heap.size+1+1+1+1) (i:=0) hne (.int .i64 x))
 have h7a:=Qh (RAt.set (RAt.setOther H7.out (k:=w.heap.size+1+1+1) (i:=0) (fun e=>hne e.symm) (.slice none 0 0)) 0 (.int .i64 x))
 have HKe:=Qh ((HK1.out.setCell (p:=⟨w.heap.size+1+1+1,0,none⟩) (by show _≤w.heap.size+1+1+1;omega) (.slice none 0 0)).setCell (p:=⟨w.heap.size+1+1+1+1,0,none⟩) (by show _≤w.heap.size+1+1+1+1;omega) (.int .i64 x))
 generalize (w1.setCell ⟨w.heap.size+1+1+1,0,none⟩ (.slice none 0 0)).setCell ⟨w.heap.size+1+1+1+1,0,none⟩ (.int .i64 x)=W2 at *
 have e6:=h6a.out.cellK 0
 have e7:=h7a.out.cellK 0
 refine body_plain (results_cc (s:=6) (t:=7) (u:=.slice none 0 0) (v:=.int .i64 x) rfl _ _ rfl rfl (by go_simp) (by go_simp)) ⟨_,rfl,RowsM.nil _ _ _,HKe.out⟩
set_option maxHeartbeats 4000000 in
theorem all_mo (p:Ps) (hB:Brd p.B) (n m:Int) (h:wrE p n=0) (hm:m<0∨10000<m) (w:World) (hT:TabG w) :
  Calls Tryz.prog 7 #[.agg (pl p).toArray,.int .i64 n,.int .i64 m] w (AllE w [] 3):=by
 have HT:=Qh hT
 have HC:=Qh (fun w hT=>pwr_is p hB n w hT)
 rw [h] at HC
 have hpl:Hid (p.B.length=64):=hB.1
 clear hB hT h
 by_cases hm0:m<0
 all_goals
  have hm1:¬ m<0→10000<m:=fun h'=>by omega
  first
  | (have hm2:10000<m:=hm1 hm0;clear hm hm1)
  | clear hm hm1
  refine calls_marked Tryz.func7 rfl ?_
  simp only [Tryz.ntmps7,List.size_toArray,List.length_cons,List.length_nil,Nat.reduceAdd,Nat.reduceSub,Array.replicate_succ,
    Array.replicate_zero,List.push_toArray,List.append_toArray,List.nil_append,List.cons_append]
  have KA:=Qh ((((((Kept.refl w).alloc (.cells (pl p).toArray 26)).alloc (.cells #[.int .i64 n] 3)).alloc (.cells #[.int .i64 m] 3)).alloc (.cells #[.slice none 0 0] 28)).alloc (.cells #[.int .i64 0] 29))
  have HPa:=Qh ((PAt.new w hpl.out).kept (((((Kept.refl _).alloc (.cells #[.int .i64 n] 3)).alloc (.cells #[.int .i64 m] 3)).alloc (.cells #[.slice none 0 0] 28)).alloc (.cells #[.int .i64 0] 29)))
  go_wp2_with (refine wpList_load_ps (by rfl) _ rfl _ rfl _ HPa.out ?_)
  refine (HC.out _ (HT.out.kept KA.out)).mono ?_
  rintro e w1 ⟨rfl,k1⟩
  obtain ⟨_,b5,b6,b7⟩:=allocs5 w (.cells (pl p).toArray 26) (.cells #[.int .i64 n] 3) (.cells #[.int .i64 m] 3) (.cells #[.slice none 0 0] 28) (.cells #[.int .i64 0] 29)
  have H5:=Qh (RAt.mk (l:=[.int .i64 m]) (k1.heap b5))
  have H6:=Qh (RAt.mk (l:=[.slice none 0 0]) (k1.heap b6))
  have H7:=Qh (RAt.mk (l:=[.int .i64 0]) (k1.heap b7))
  have HK1:=Qh (KA.out.trans k1)
  have z5:=H5.out.cellK 0
  have z6:=H6.out.cellK 0
  have f6:=H6.out.frozen 0
  have z7:=H7.out.cellK 0
  have f7:=H7.out.frozen 0
  have hne:w.heap.size+1+1+1≠w.heap.size+1+1+1+1:=by omega
  clear k1 b5 b6 b7 HC HPa KA
  go_wp2
  have h6a:=Qh ((H6.out.set 0 (.slice none 0 0)).setOther (k:=w.heap.size+1+1+1+1) (i:=0) hne (.int .i64 3))
  have h7a:=Qh (RAt.set (RAt.setOther H7.out (k:=w.heap.size+1+1+1) (i:=0) (fun e=>hne e.symm) (.slice none 0 0)) 0 (.int .i64 3))
  have HKe:=Qh ((HK1.out.setCell (p:=⟨w.heap.size+1+1+1,0,none⟩) (by show _≤w.heap.size+1+1+1;omega) (.slice none 0 0)).setCell (p:=⟨w.heap.size+1+1+1+1,0,none⟩) (by show _≤w.heap.size+1+1+1+1;omega) (.int .i64 3))
  generalize (w1.setCell ⟨w.heap.size+1+1+1,0,none⟩ (.slice none 0 0)).setCell ⟨w.heap.size+1+1+1+1,0,none⟩ (.int .i64 3)=W2 at *
  have e6:=h6a.out.cellK 0
  have e7:=h7a.out.cellK 0
  refine body_plain (results_cc (s:=6) (t:=7) (u:=.slice none 0 0) (v:=.int .i64 3) rfl _ _ rfl rfl (by go_simp) (by go_simp)) ⟨_,rfl,RowsM.nil _ _ _,HKe.out⟩
structure AlI (w0:World) (go:Nat) (l:List (List Mv)) (X:Nat→Prop) (wr:World):Prop where
 sm:Sm (fun k=>k<w0.heap.size∧k≠go) w0 wr
 out:∃ v,RAt wr go [v] 28∧RowsM X wr w0.heap.size v l
 x:∀ k,X k→w0.heap.size≤k∧k<wr.heap.size
theorem AlI.step {w0 w w':World} {go:Nat} {l:List (List Mv)} {X X':Nat→Prop} (h:AlI w0 go l X w) (hg:go<w0.heap.size) (s:Sm (fun k=>¬ X k) w w')
  (h1:∀ k,X' k→X k∨w.heap.size≤k) (h2:∀ k,X' k→k<w'.heap.size):AlI w0 go l X' w':=by
 have hx:∀ k,k<w0.heap.size→¬ X k:=fun k hk hX=>by have:=(h.x k hX).1;omega
 obtain ⟨v,hv,hr⟩:=h.out
 refine ⟨h.sm.trans (s.mono fun k _ hk=>hx k hk.1),⟨v,hv.sm s (hx _ hg),hr.apart (fun k _ hn hk=>s.block k hk hn) (fun k _ hk hn hX=>?_)⟩,fun k hk=>⟨?_,h2 k hk⟩⟩
 ·rcases h1 k hX with h'|h'
  ·exact hn h'
  ·omega
 ·rcases h1 k hk with h'|h'
  ·exact (h.x k h').1
  ·exact Nat.le_trans h.sm.size h'
theorem AlI.push {w0 W w1 w2:World} {go:Nat} {L:List (List Mv)} {l:List Mv} {X:Nat→Prop} (h:AlI w0 go L X W) (hgo:go<w0.heap.size) {v v' u:Value} {gu:Nat} {vs:List Value} (hr:RowsM X W w0.heap.size v L)
  (hvs:W.ownsRow w0.heap.size 37 1 v L.length vs∧(∀ k,v.ownBlock=some k→¬ X k)∧∀ (i:Nat) (u:Value) (l:List Mv),vs[i]?=some u→L[i]?=some l→∃ g,LsM W g u l∧(0<l.length→w0.heap.size≤g∧¬ X g∧∃ c,W.heap[g]?=some (.cells c 54 (0,0))))
  {V:World} (kV:Kept W V) (hu:LsM V gu u l) (hn:0<l.length→W.heap.size≤gu∧∃ c,V.heap[gu]?=some (.cells c 54 (0,0))) (k:Kept V w1) (ho:w2.ownsRow w0.heap.size 37 1 v' (L.length+1) (vs++[u])) (hg:w1.grownBy w2 v.ownBlock)
  (hv:∀ k,v'.ownBlock=some k→v.ownBlock=some k∨w1.heap.size≤k) :
  AlI w0 go (L++[l]) X (w2.setCell ⟨go,0,none⟩ v')∧Sm X W (w2.setCell ⟨go,0,none⟩ v'):=by
 have hk1:=kV.trans k
 have hX1:∀ i,X i→i<w1.heap.size:=fun i hi=>Nat.lt_of_lt_of_le (h.x i hi).2 hk1.size
 have hrowlt:=fun i hi=>World.ownsRow.lt hvs.1 i hi
 have hvsV:V.ownsRow w0.heap.size 37 1 v L.length vs∧(∀ k,v.ownBlock=some k→¬ X k)∧∀ (i:Nat) (u:Value) (l:List Mv),vs[i]?=some u→L[i]?=some l→∃ g,LsM V g u l∧(0<l.length→w0.heap.size≤g∧¬ X g∧∃ c,V.heap[g]?=some (.cells c 54 (0,0))):=by
  obtain ⟨a,b,c⟩:=hvs
  refine ⟨?_,b,fun i u l hu hl=>?_⟩
  ·obtain ⟨h1,h2⟩:=a
   refine ⟨h1,?_⟩
   rcases h2 with h2|⟨b,cap,cur,e1,e2,e3,e4⟩
   ·exact .inl h2
   ·exact .inr ⟨b,cap,cur,e1,e2,kV.heap e3,e4⟩
  ·obtain ⟨g,q1,q2⟩:=c i u l hu hl
   exact ⟨g,q1.kept kV,fun hp=>by obtain ⟨c1,c2,c,c3⟩:=q2 hp;exact ⟨c1,c2,c,kV.heap c3⟩⟩
 have hp:=RowsM.push (hr.kept kV) hu (fun hp=>by
  obtain ⟨c1,c2⟩:=hn hp
  exact ⟨Nat.le_trans h.sm.size c1,fun hX=>by have:=(h.x gu hX).2;omega,c2⟩) hvsV k ho hg hv hX1
 have hgo1:∀ i,v.ownBlock=some i→i≠go:=fun i hi e=>by have:=(hrowlt i hi).1;omega
 have hgX:¬ X go:=fun hX=>by have:=(h.x go hX).1;omega
 obtain ⟨v0,hv0,_⟩:=h.out
 have hat:RAt w2 go [v0] 28:=⟨(hg.block go (lt_of_heap (hk1.heap hv0.at_)) (fun e=>hgo1 go e.symm rfl)).trans (hk1.heap hv0.at_)⟩
 refine ⟨⟨?_,⟨v',hat.set 0 v',hp.apart (fun i hi _ _=>Below.heap_setCell w2 ⟨go,0,none⟩ v' i (by exact fun e=>by have:i=go:=e;omega)) (fun _ _ _ h=>h)⟩,fun i hi=>⟨(h.x i hi).1,?_⟩⟩,?_⟩
 ·exact (((h.sm.kept hk1).grownBy hg (fun i hi hz=>by have:=(hrowlt i hi).1;omega))).setCell (by exact fun e=>e.2 rfl) v'
 ·have h1:=hX1 i hi
  have h2:=hg.size
  simp [World.setCell];omega
 ·exact ((Sm.of_kept X hk1).grownBy hg (fun i hi hz=>(hvs.2.1 i hi hz).elim)).setCell (by exact hgX) v'
structure AlX (w0:World) (go g6 g7:Nat) (X:Nat→Prop) (wr:World):Prop where
 sm:Sm (fun k=>k<w0.heap.size∧k≠go∧k≠g6∧k≠g7) w0 wr
 r6:RAt wr g6 [.slice none 0 0] 28
 r7:RAt wr g7 [.int .i64 3] 29
 x:∀ k,X k→w0.heap.size≤k∧k<wr.heap.size
theorem AlX.step {w0 w w':World} {go g6 g7:Nat} {X X':Nat→Prop} (h:AlX w0 go g6 g7 X w) (h6:g6<w0.heap.size) (h7:g7<w0.heap.size) (s:Sm (fun k=>¬ X k) w w')
  (h1:∀ k,X' k→X k∨w.heap.size≤k) (h2:∀ k,X' k→k<w'.heap.size):AlX w0 go g6 g7 X' w':=by
 have hx:∀ k,k<w0.heap.size→¬ X k:=fun k hk hX=>by have:=(h.x k hX).1;omega
 refine ⟨h.sm.trans (s.mono fun k _ hk=>hx k hk.1),h.r6.sm s (hx _ h6),h.r7.sm s (hx _ h7),fun k hk=>⟨?_,h2 k hk⟩⟩
 rcases h1 k hk with h'|h'
 ·exact (h.x k h').1
 ·exact Nat.le_trans h.sm.size h'
theorem wp_append_rows {o:Oper} {a:Act} {w:World} {K:Act→World→Prop} {Q:Exit→Act→World→Prop} (s x:Operand)
  (ho:o.op=.call { callee:=.builtin .append,args:=#[s,x],argTypes:=#[28,28] })
  (base:Nat) (v:Value) (n:Nat) (vs:List Value) (u:Value) (g off c:Nat) (hs:a.eval s=v) (hx:a.eval x=.slice (some ⟨g,off,none⟩) 1 c) (hown:w.ownsRow base 37 1 v n vs) (hb:base≤w.heap.size)
  (hcell:w.rangeAt g off [u]) (h1:u.oneCell'=true) (hlen:n≤1000000000)
  (h:∀ v' w',w'.ownsRow base 37 1 v' (n+1) (vs++[u])→w.grownBy w' v.ownBlock→(∀ k,v'.ownBlock=some k→v.ownBlock=some k∨w.heap.size≤k)→K (a.put o.dst v') w'):o.wp Tryz.prog a w K Q:=by
 obtain ⟨i0,hi0,hz0,hz1,hz2⟩:=partsZ infoSl
 obtain ⟨v',w',hr,h2,h3,h4⟩:=run_append_any (ty:=o.type) Tryz.underlying28 hi0 hz0 hz1 hz2 rfl (by decide) (by decide) base v n vs w hown hb g off c [u] rfl hcell (fun y hy=>by simp at hy;subst hy;exact h1) hlen
 unfold Oper.wp execOp
 simp only [ho,resolve,invoke,builtin,Sem.run_bind,Sem.run_pure,Result.andThen_ok,List.map_toArray,List.map_cons,List.map_nil,hs,hx,hr]
 exact h v' w' h2 h3 h4
theorem full_all {n m:Nat} {p:Ps} {A:List (List Mv)} {x:List Mv} (h:A++[x] <+: upL n p):x.length≤n:=by
 obtain ⟨B,hB⟩:=h
 exact upL_len (n:=n) (p:=p) (by rw [← hB];simp)
def AlS (w:World) (p:Ps) (n m:Nat) (s3 s4 s5 s6 s7 s9:Value) (wc:World):Prop :=
 ∃ gp gN gM g6 g7 g9:Nat,s3=.pointer (some ⟨gp,0,none⟩)∧s4=.pointer (some ⟨gN,0,none⟩)∧s5=.pointer (some ⟨gM,0,none⟩)∧s6=.pointer (some ⟨g6,0,none⟩)∧s7=.pointer (some ⟨g7,0,none⟩)∧s9=.pointer (some ⟨g9,0,none⟩) ∧
  PAt wc gp p∧RAt wc gN [.int .i64 n] 3∧RAt wc gM [.int .i64 m] 3∧RAt wc g6 [.slice none 0 0] 28∧RAt wc g7 [.int .i64 0] 29∧RAt wc g9 [.slice none 0 0] 28 ∧
  Kept w wc∧(w.heap.size≤gp∧gp<gN∧gN<gM∧gM<g6∧g6<g7∧g7<g9)
set_option maxHeartbeats 16000000 in
theorem pall_in (p:Ps) (hB:Brd p.B) (hr:pwI p=0) (n m:Nat) (hn:n≤8) (hm:m≤10000) (w:World) (hT:TabG w) :
  Calls Tryz.prog 7 #[.agg (pl p).toArray,.int .i64 n,.int .i64 m] w (AllE w (if (refL n p).length≤m then refL n p else []) (if (refL n p).length≤m then 0 else 3)):=by
 have HP:=Qh (PAt.new w hB.1)
 have HT:=Qh hT
 have HB:=Qh hB
 have HRt:=Qh hr
 have HC:=Qh (fun w hT=>pwr_is p hB (n:Int) w hT)
 rw [wrE_ok hr (by omega) (by omega)] at HC
 have HRf:=Qh (upL_full n p)
 obtain ⟨RL,hRL⟩:∃ RL,(if (refL n p).length≤m then refL n p else [])=RL:=⟨_,rfl⟩
 obtain ⟨RE,hRE⟩:∃ RE:Int,(if (refL n p).length≤m then 0 else 3)=RE:=⟨_,rfl⟩
 rw [hRL,hRE]
 have HRL:=Qh hRL
 have HRE:=Qh hRE
 clear hB hr hT hRL hRE
 refine calls_marked Tryz.func7 rfl ?_
 simp only [Tryz.ntmps7,List.size_toArray,List.length_cons,List.length_nil,Nat.reduceAdd,Nat.reduceSub,Array.replicate_succ,
   Array.replicate_zero,List.push_toArray,List.append_toArray,List.nil_append,List.cons_append]
 have KA:=Qh ((((((Kept.refl w).alloc (.cells (pl p).toArray 26)).alloc (.cells #[.int .i64 n] 3)).alloc (.cells #[.int .i64 m] 3)).alloc (.cells #[.slice none 0 0] 28)).alloc (.cells #[.int .i64 0] 29))
 have HPa:=Qh (HP.out.kept (((((Kept.refl _).alloc (.cells #[.int .i64 n] 3)).alloc (.cells #[.int .i64 m] 3)).alloc (.cells #[.slice none 0 0] 28)).alloc (.cells #[.int .i64 0] 29)))
 go_wp2_with (refine wpList_load_ps (by rfl) _ rfl _ rfl _ HPa.out ?_)
 refine (HC.out _ (HT.out.kept KA.out)).mono ?_
 rintro e w1 ⟨rfl,k1⟩
 obtain ⟨b4,b5,b6,b7⟩:=allocs5 w (.cells (pl p).toArray 26) (.cells #[.int .i64 n] 3) (.cells #[.int .i64 m] 3) (.cells #[.slice none 0 0] 28) (.cells #[.int .i64 0] 29)
 have HP1:=Qh (HPa.out.kept k1)
 have H4:=Qh (RAt.mk (l:=[.int .i64 n]) (k1.heap b4))
 have H5:=Qh (RAt.mk (l:=[.int .i64 m]) (k1.heap b5))
 have H6:=Qh (RAt.mk (l:=[.slice none 0 0]) (k1.heap b6))
 have H7:=Qh (RAt.mk (l:=[.int .i64 0]) (k1.heap b7))
 have HK1:=Qh (KA.out.trans k1)
 have HS1:=Qh (lt_of_heap H7.out.at_)
 have z5:=H5.out.cellK 0
 clear k1 b4 b5 b6 b7 HC HP HPa KA
 have hm0:¬ (m:Int)<0:=by omega
 have hm1:¬ (10000:Int)<(m:Int):=by omega
 have hm2:¬ 10000<m:=by omega
 go_upto_region 6 with fail
 go_cut [3,4,5,6,7,9] from 3 (fun s3 s4 s5 s6 s7 s9 wc=>AlS w p n m s3 s4 s5 s6 s7 s9 wc)
 case first =>
  go_wp2
  go_meet
  case rel =>
   have ha:=World.alloc_heap_new w1 (.cells #[.slice none 0 0] 28)
   have k2:=(Kept.refl w1).alloc (.cells #[.slice none 0 0] 28)
   exact ⟨_,_,_,_,_,_,rfl,rfl,rfl,rfl,rfl,rfl,HP1.out.kept k2,H4.out.kept k2,H5.out.kept k2,H6.out.kept k2,H7.out.kept k2,⟨ha⟩,HK1.out.trans k2,by have:=HS1.out;omega⟩
 case rest =>
 obtain ⟨gp,gN,gM,g6,g7,g9,rfl,rfl,rfl,rfl,rfl,rfl,hP,h4,h5,h6,h7,h9,hK,hord⟩:=hcut
 clear HP1 H4 H5 H6 H7 HK1 HS1 z5 hm0 hm1 hm2
 have HP:=Qh hP
 have H4:=Qh h4
 have H5:=Qh h5
 have H6:=Qh h6
 have H7:=Qh h7
 have H9:=Qh h9
 have HK:=Qh hK
 have HO:=Qh hord
 have y4:=h4.cellK 0
 clear hP h4 h5 h6 h7 h9 hK hord
 go_wp2_with (refine wpList_load_ps (by rfl) _ rfl _ rfl _ HP.out ?_)
 refine (upto_is p HB.out n _ (HT.out.kept HK.out)).mono ?_
 rintro e w2 ⟨gq,gn,rfl,hU,k2,q1,q2,q3,q4⟩
 have HU:=Qh hU
 have HK2:=Qh (HK.out.trans k2)
 have H42:=Qh (H4.out.kept k2)
 have H52:=Qh (H5.out.kept k2)
 have H62:=Qh (H6.out.kept k2)
 have H72:=Qh (H7.out.kept k2)
 have H92:=Qh (H9.out.kept k2)
 have HQ:=Qh (show g9<w2.heap.size∧g9<gq∧g9<gn∧gq<w2.heap.size∧gn<w2.heap.size∧w.heap.size≤w2.heap.size by
  have h1:=lt_of_heap H9.out.at_
  have h2:=k2.size
  have h3:=HK.out.size
  omega)
 clear k2 hU H4 H5 H6 H7 H9 y4 HP q1 q2 q3 q4
 go_wp2_with fail
 refine wp_rangeA (gp:=gq) (gn:=gn) rfl (by simp) HB.out HRt.out hn HU.out (ansB (fullB n) m)
  (fun A X wr=>AlI w2 g9 (A.filter (fullB n)) X wr∧(A.filter (fullB n)).length≤m) (fun X wr=>AlX w2 g9 g6 g7 X wr)
  (fun A X X' w w' h s h1 h2=>⟨h.1.step (by have:=HQ.out;omega) s h1 h2,h.2⟩) (fun X X' w w' h s h1 h2=>h.step (by have:=HQ.out;have:=HO.out;omega) (by have:=HQ.out;have:=HO.out;omega) s h1 h2)
  (fun A X w h k hk=>(h.1.x k hk).2) (fun X w h k hk=>(h.x k hk).2) ?_ ?_ ?_ ?_ ?_
 ·rintro A X wr ⟨h,_⟩
  have hk:Kept w wr:=Kept.of_sm HK2.out h.sm (fun i hi=>by have:=HQ.out;have:=HO.out;exact ⟨by omega,by omega⟩)
  exact ⟨HU.out.pos.sm h.sm (by have:=HQ.out;have:=HO.out;exact ⟨by omega,by omega⟩),h.sm.cell (p:=⟨gn,0,none⟩) (by have:=HQ.out;have:=HO.out;exact ⟨by show gn<_;omega,by show gn≠_;omega⟩) HU.out.len,HT.out.kept hk⟩
 ·exact ⟨⟨Sm.refl _ _,⟨_,H92.out,RowsM.nil _ _ _⟩,fun k h=>h.elim⟩,Nat.zero_le _⟩
 ·intro l A X x v W hI hG hpre
  obtain ⟨g,hls,_⟩:=hG
  obtain ⟨av,cv,rfl⟩:=hls.slice
  have HLs:=Qh hls
  have HI:=Qh hI.1
  have HLe:=Qh hI.2
  have HPre:=Qh hpre
  have HXl:=Qh (full_all (m:=m) hpre)
  have z4:=(H42.out.sm hI.1.sm (by have:=HQ.out;have:=HO.out;exact ⟨by omega,by omega⟩)).cellK 0
  have z5:=(H52.out.sm hI.1.sm (by have:=HQ.out;have:=HO.out;exact ⟨by omega,by omega⟩)).cellK 0
  have H6w:=Qh (H62.out.sm hI.1.sm (by have:=HQ.out;have:=HO.out;exact ⟨by omega,by omega⟩))
  have H7w:=Qh (H72.out.sm hI.1.sm (by have:=HQ.out;have:=HO.out;exact ⟨by omega,by omega⟩))
  obtain ⟨vo,hvo,hro⟩:=hI.1.out
  obtain ⟨ao,co,rfl⟩:=hro.slice
  have HVo:=Qh hvo
  have HRo:=Qh hro
  have z9:=hvo.cellK 0
  clear hls hI hpre hvo hro
  simp only [sA,Act.put,sZ,sU]
  by_cases hx:x.length<n
  ·have HS:=Qh (show fullB n x=false by unfold fullB;simp [hx])
   have HE2:=Qh (show (A++[x]).filter (fullB n)=A.filter (fullB n) by rw [List.filter_append];simp [HS.out])
   generalize x.length=q at *
   have hx':(q:Int)<(n:Int):=by omega
   refine wpIn_block (wpIn_seq (wpIn_seq (list_round (by simp [noDefer]) (fun a w h=>h) ?_)))
   go_wp2
   refine wpIn_cond_true rfl (wpIn_exit ?_)
   simp only [Exit.then,Exit.inBlock,if_true]
   exact ⟨by unfold ansB;rw [HS.out];rfl,by show AlI _ _ _ _ _∧_;rw [HE2.out];exact ⟨HI.out,HLe.out⟩,Sm.refl _ _⟩
  ·have hxe:x.length=n:=by have:=HXl.out;omega
   have HS:=Qh (show fullB n x=true by unfold fullB;simp [hx])
   have HE2:=Qh (show (A++[x]).filter (fullB n)=A.filter (fullB n)++[x] by rw [List.filter_append];simp [HS.out])
   have HXe:=Qh hxe
   have hxn:¬ (n:Int)<(n:Int):=by omega
   rw [hxe]
   clear hx hxe
   generalize hF:A.filter (fullB n)=F at *
   have HF:=Qh hF
   clear hF
   by_cases hfm:F.length=m
   ·have HAn:=Qh (show ansB (fullB n) m A x=false by unfold ansB;rw [HS.out,HF.out,decide_eq_false (by omega)];rfl)
    have z6:=H6w.out.cellK 0
    have f6:=H6w.out.frozen 0
    have z7:=H7w.out.cellK 0
    have f7:=H7w.out.frozen 0
    rw [hfm] at z9
    have hne:g6≠g7:=by have:=HO.out;omega
    clear hfm
    refine wpIn_block (wpIn_seq (wpIn_seq (list_round (by simp [noDefer]) (fun a w h=>h) ?_)))
    go_wp2
    refine wpIn_cond_false rfl (wpIn_skip ?_)
    simp only [Exit.then,Exit.inBlock]
    refine wpIn_seq (wpIn_seq (list_round (by simp [noDefer]) (fun a w h=>h) ?_))
    go_wp2
    refine wpIn_cond_true rfl (wpIn_seq (list_round (by simp [noDefer]) (fun a w h=>h) ?_))
    go_wp2
    refine wpIn_ret ?_
    simp only [Exit.then,Exit.inBlock]
    have hgX:∀ i,i<w2.heap.size→¬ X i:=fun i hi hX=>by have:=(HI.out.x i hX).1;omega
    refine ⟨HAn.out,⟨?_,(H6w.out.set 0 (.slice none 0 0)).setOther (k:=g7) (i:=0) hne _,RAt.set (RAt.setOther H7w.out (k:=g6) (i:=0) (fun e=>hne e.symm) _) 0 (.int .i64 3),fun i hi=>⟨(HI.out.x i hi).1,by simpa [World.setCell] using (HI.out.x i hi).2⟩⟩,?_⟩
    ·exact (((HI.out.sm.mono (Y:=fun k=>k<w2.heap.size∧k≠g9∧k≠g6∧k≠g7) fun k _ hk=>⟨hk.1,hk.2.1⟩).setCell (p:=⟨g6,0,none⟩) (by exact fun e=>e.2.2.1 rfl) _).setCell (p:=⟨g7,0,none⟩) (by exact fun e=>e.2.2.2 rfl) _)
    ·exact ((Sm.refl X W).setCell (p:=⟨g6,0,none⟩) (hgX g6 (by have:=HQ.out;have:=HO.out;omega)) _).setCell (p:=⟨g7,0,none⟩) (hgX g7 (by have:=HQ.out;have:=HO.out;omega)) _
   ·have HAn:=Qh (show ansB (fullB n) m A x=true by unfold ansB;rw [HF.out,decide_eq_true (by have:=HLe.out;omega)];simp)
    have hfi:((F.length:Int) == (m:Int))=false:=beq_eq_false_iff_ne.2 (by omega)
    have hfi2:(F.length == m)=false:=beq_eq_false_iff_ne.2 hfm
    have HFl:=Qh (show F.length+1≤m by have:=HLe.out;omega)
    obtain ⟨vs,hvs⟩:=HRo.out
    have HVs:=Qh hvs
    clear hfm hvs
    rw [HXe.out] at HLs
    obtain ⟨fl,hfl⟩:∃ fl,F.length=fl:=⟨_,rfl⟩
    rw [hfl] at z9 hfi hfi2 HRo HVs HVo HFl
    have HFe:=Qh hfl
    clear hfl
    refine wpIn_block (wpIn_seq (wpIn_seq (list_round (by simp [noDefer]) (fun a w h=>h) ?_)))
    go_wp2
    refine wpIn_cond_false rfl (wpIn_skip ?_)
    simp only [Exit.then,Exit.inBlock]
    refine wpIn_seq (wpIn_seq (list_round (by simp [noDefer]) (fun a w h=>h) ?_))
    go_wp2
    refine wpIn_cond_false rfl (wpIn_skip ?_)
    simp only [Exit.then,Exit.inBlock]
    refine held_round (S:=fun _=>True) (by simp [noDefer]) (fun a w h=>h) (by kernel_rfl) trivial (fun Qj=>?_)
    have HKV:=Qh (Kept.refl W).drew
    have y9:=kept_cell HKV.out z9
    have HLv:=Qh (HLs.out.kept HKV.out)
    generalize W.drew=V at *
    refine rT 1 36 (.slice av n cv) rfl rfl Qj ?_
    simp only [Act.put,sA,sZ,sU]
    refine wpAnyH_ready (rs:=[0,2]) (by kernel_rfl) (by simp) ?_
    refine AllReadyH.cons rfl (fun K hK=>?_) (AllReadyH.cons rfl (fun K hK=>?_) AllReadyH.nil)
    ·go_simp
     refine hK.out _ _ trivial (fun _=>?_)
     clear hK K
     refine rR 2 rfl (fun K hK=>?_)
     go_simp
     refine (clone_is g _ x _ HLv.out (by rw [HXe.out];omega)).mono ?_
     rintro e y1 ⟨u,gu,rfl,hu,kc,hnw⟩
     obtain ⟨au,cu,rfl⟩:=hu.slice
     have HKc:=Qh kc
     have HUu:=Qh hu
     have HNw:=Qh hnw
     refine hK.out _ _ trivial (fun _=>?_)
     clear hK K kc hu hnw
     refine rR 3 rfl (fun K hK=>?_)
     go_simp
     have HKd:=Qh ((Kept.refl y1).alloc (.cells #[.slice au x.length cu] 37))
     have HSl:=Qh (show (y1.alloc (.cells #[.slice au x.length cu] 37)).rangeAt y1.heap.size 0 [.slice au x.length cu] from RAt.range (T:=37) ⟨heap_alloc_new y1 _⟩)
     refine hK.out _ _ trivial (fun _=>?_)
     clear hK K
     generalize y1.alloc (.cells #[.slice au x.length cu] 37)=y2 at *
     generalize y1.heap.size=gs at *
     have HKy:=Qh ((HKV.out.trans HKc.out).trans HKd.out)
     refine rR 4 rfl (fun K hK=>?_)
     rw [if_pos (by rfl)]
     refine wp_append_rows _ _ rfl w2.heap.size (.slice ao fl co) fl vs (.slice au x.length cu) gs 0 1 rfl rfl (by
      obtain ⟨q1,q2⟩:=HVs.out.1
      refine ⟨q1,?_⟩
      rcases q2 with q2|⟨b,cap,cur,e1,e2,e3,e4⟩
      ·exact .inl q2
      ·exact .inr ⟨b,cap,cur,e1,e2,HKy.out.heap e3,e4⟩) (Nat.le_trans HI.out.sm.size HKy.out.size) HSl.out rfl (by have:=HFl.out;omega) (fun v3 w3 ho3 hg3 hv3=>?_)
     refine hK.out _ _ trivial (fun _=>?_)
     clear hK K
     simp only [List.getElem_toArray,List.getElem_cons_succ,List.getElem_cons_zero,Act.put,sA,sZ,sU]
     obtain ⟨a3,c3,hv3e⟩:∃ a c,v3=.slice a (fl+1) c:=by
      rcases ho3.2 with ⟨e,h0⟩|⟨b,cap,cur,e,_⟩
      ·omega
      ·exact ⟨_,_,e⟩
     subst hv3e
     have HPu:=Qh (HI.out.push (l:=x) (by have:=HQ.out;omega) (v:=.slice ao fl co) (by rw [HFe.out] at *;exact HRo.out) (vs:=vs) (by rw [HFe.out];exact HVs.out) (HKV.out.trans HKc.out) HUu.out (fun hp=>by obtain ⟨c1,c2⟩:=HNw.out hp;exact ⟨Nat.le_trans HKV.out.size c1,c2⟩) HKd.out (by rw [HFe.out];exact ho3) hg3 hv3)
     have hat:RAt w3 g9 [.slice ao fl co] 28:=⟨(hg3.block g9 (lt_of_heap (HKy.out.heap HVo.out.at_)) (fun e=>by have h1:=(World.ownsRow.lt HVs.out.1 g9 e.symm).1;have:=HQ.out;omega)).trans (HKy.out.heap HVo.out.at_)⟩
     have w9:=hat.cellK 0
     have f9:=hat.frozen 0
     refine rR 5 rfl (fun K hK=>?_)
     go_simp
     refine hK.out _ _ trivial (fun _=>?_)
     clear hK K w9 f9 hat
     refine wpAnyH_done (by kernel_rfl) ?_ _
     simp only [Exit.then,Exit.inBlock]
     exact ⟨HAn.out,by show AlI _ _ _ _ _∧_;rw [HE2.out,List.length_append,List.length_singleton,HFe.out];exact ⟨HPu.out.1,HFl.out⟩,HPu.out.2⟩
    ·go_simp
     refine (clone_is g _ x _ HLv.out (by rw [HXe.out];omega)).mono ?_
     rintro e y1 ⟨u,gu,rfl,hu,kc,hnw⟩
     obtain ⟨au,cu,rfl⟩:=hu.slice
     have HKc:=Qh kc
     have HUu:=Qh hu
     have HNw:=Qh hnw
     refine hK.out _ _ trivial (fun _=>?_)
     clear hK K kc hu hnw
     have y10:=kept_cell HKc.out y9
     have y11:=kept_cell ((Kept.refl y1).alloc (.cells #[.slice au x.length cu] 37)) y10
     refine two_ready 0 3 35 38 (.slice ao fl co) (.slice (some ⟨y1.heap.size,0,none⟩) 1 1) (y1.alloc (.cells #[.slice au x.length cu] 37)) rfl rfl rfl rfl (by decide) (by decide) (by go_simp) (by go_simp) (by go_simp) (by go_simp) trivial trivial ?_
     simp only [List.getElem_toArray,List.getElem_cons_succ,List.getElem_cons_zero,Act.put,sA,sZ,sU]
     clear y10 y11
     have HKd:=Qh ((Kept.refl y1).alloc (.cells #[.slice au x.length cu] 37))
     have HSl:=Qh (show (y1.alloc (.cells #[.slice au x.length cu] 37)).rangeAt y1.heap.size 0 [.slice au x.length cu] from RAt.range (T:=37) ⟨heap_alloc_new y1 _⟩)
     generalize y1.alloc (.cells #[.slice au x.length cu] 37)=y2 at *
     generalize y1.heap.size=gs at *
     have HKy:=Qh ((HKV.out.trans HKc.out).trans HKd.out)
     refine rR 4 rfl (fun K hK=>?_)
     rw [if_pos (by rfl)]
     refine wp_append_rows _ _ rfl w2.heap.size (.slice ao fl co) fl vs (.slice au x.length cu) gs 0 1 rfl rfl (by
      obtain ⟨q1,q2⟩:=HVs.out.1
      refine ⟨q1,?_⟩
      rcases q2 with q2|⟨b,cap,cur,e1,e2,e3,e4⟩
      ·exact .inl q2
      ·exact .inr ⟨b,cap,cur,e1,e2,HKy.out.heap e3,e4⟩) (Nat.le_trans HI.out.sm.size HKy.out.size) HSl.out rfl (by have:=HFl.out;omega) (fun v3 w3 ho3 hg3 hv3=>?_)
     refine hK.out _ _ trivial (fun _=>?_)
     clear hK K
     simp only [List.getElem_toArray,List.getElem_cons_succ,List.getElem_cons_zero,Act.put,sA,sZ,sU]
     obtain ⟨a3,c3,hv3e⟩:∃ a c,v3=.slice a (fl+1) c:=by
      rcases ho3.2 with ⟨e,h0⟩|⟨b,cap,cur,e,_⟩
      ·omega
      ·exact ⟨_,_,e⟩
     subst hv3e
     have HPu:=Qh (HI.out.push (l:=x) (by have:=HQ.out;omega) (v:=.slice ao fl co) (by rw [HFe.out] at *;exact HRo.out) (vs:=vs) (by rw [HFe.out];exact HVs.out) (HKV.out.trans HKc.out) HUu.out (fun hp=>by obtain ⟨c1,c2⟩:=HNw.out hp;exact ⟨Nat.le_trans HKV.out.size c1,c2⟩) HKd.out (by rw [HFe.out];exact ho3) hg3 hv3)
     have hat:RAt w3 g9 [.slice ao fl co] 28:=⟨(hg3.block g9 (lt_of_heap (HKy.out.heap HVo.out.at_)) (fun e=>by have h1:=(World.ownsRow.lt HVs.out.1 g9 e.symm).1;have:=HQ.out;omega)).trans (HKy.out.heap HVo.out.at_)⟩
     have w9:=hat.cellK 0
     have f9:=hat.frozen 0
     refine rR 5 rfl (fun K hK=>?_)
     go_simp
     refine hK.out _ _ trivial (fun _=>?_)
     clear hK K w9 f9 hat
     refine wpAnyH_done (by kernel_rfl) ?_ _
     simp only [Exit.then,Exit.inBlock]
     exact ⟨HAn.out,by show AlI _ _ _ _ _∧_;rw [HE2.out,List.length_append,List.length_singleton,HFe.out];exact ⟨HPu.out.1,HFl.out⟩,HPu.out.2⟩
 ·intro hgo D X W hD hXD hI hDf
  have hle:(refL n p).length≤m:=by rw [all_goes] at hgo;exact of_decide_eq_true hgo
  have HI:=Qh hI.1
  obtain ⟨vo,hvo,hro⟩:=hI.1.out
  rw [show (upL n p).filter (fullB n)=refL n p from HRf.out] at hro
  obtain ⟨ao,co,rfl⟩:=hro.slice
  have HRo:=Qh hro
  have z9:=hvo.cellK 0
  have HR1:=Qh (show RL=refL n p by rw [← HRL.out,if_pos hle])
  have HR2:=Qh (show RE=0 by rw [← HRE.out,if_pos hle])
  have H6w:=Qh (H62.out.sm hI.1.sm (by have:=HQ.out;have:=HO.out;exact ⟨by omega,by omega⟩))
  have H7w:=Qh (H72.out.sm hI.1.sm (by have:=HQ.out;have:=HO.out;exact ⟨by omega,by omega⟩))
  have z6:=H6w.out.cellK 0
  have f6:=H6w.out.frozen 0
  have z7:=H7w.out.cellK 0
  have f7:=H7w.out.frozen 0
  have HDf:=Qh hDf
  have HDl:=Qh hD
  have HXD:=Qh hXD
  clear hI hDf hD hXD hgo hle hvo hro
  have hne67:g6≠g7:=by have:=HO.out;omega
  generalize (refL n p).length=fl at *
  simp only [Exit.inBlock,Exit.then]
  go_wp2
  have h6a:=Qh ((H6w.out.set 0 (.slice ao fl co)).setOther (k:=g7) (i:=0) hne67 (.int .i64 0))
  have h7a:=Qh (RAt.set (RAt.setOther H7w.out (k:=g6) (i:=0) (fun e=>hne67 e.symm) (.slice ao fl co)) 0 (.int .i64 0))
  have hne6:g6≠D:=by have:=HDl.out;have:=HQ.out;have:=HO.out;omega
  have hne7:g7≠D:=by have:=HDl.out;have:=HQ.out;have:=HO.out;omega
  have HSm:=Qh ((((HI.out.sm.mono (Y:=fun k=>k<w.heap.size) fun k _ hk=>by have:=HQ.out;have:=HO.out;exact ⟨by omega,by omega⟩).setCell (p:=⟨g6,0,none⟩) (by have:=HO.out;show ¬ g6<_;omega) (.slice ao fl co)).setCell (p:=⟨g7,0,none⟩) (by have:=HO.out;show ¬ g7<_;omega) (.int .i64 0)).putObj (.deferred none) (l:=D) (by have:=HDl.out;have:=HQ.out;show ¬ D<_;omega))
  have HDd:=Qh (show ((W.setCell ⟨g6,0,none⟩ (.slice ao fl co)).setCell ⟨g7,0,none⟩ (.int .i64 0)).heap[D]?=some (.deferred (some [])) by
   rw [Below.heap_setCell _ ⟨g7,0,none⟩ _ D (by exact fun e=>hne7 e.symm),Below.heap_setCell _ ⟨g6,0,none⟩ _ D (by exact fun e=>hne6 e.symm)];exact HDf.out)
  have HRw:=Qh (show RowsM (fun _=>False) (((W.setCell ⟨g6,0,none⟩ (.slice ao fl co)).setCell ⟨g7,0,none⟩ (.int .i64 0)).putObj D (.deferred none)) w.heap.size (.slice ao fl co) (refL n p) from by
   refine RowsM.low (RowsM.apart HRo.out (fun i hi hX _=>?_) (fun _ _ _ _ h=>h)) (by have:=HQ.out;omega)
   have hiD:i≠D:=fun e=>hX (e ▸ HXD.out)
   have hi6:i≠g6:=by have:=HQ.out;have:=HO.out;omega
   have hi7:i≠g7:=by have:=HQ.out;have:=HO.out;omega
   rw [World.putObj_heap_other hiD,Below.heap_setCell _ ⟨g7,0,none⟩ _ i (by exact hi7),Below.heap_setCell _ ⟨g6,0,none⟩ _ i (by exact hi6)])
  generalize (W.setCell ⟨g6,0,none⟩ (.slice ao fl co)).setCell ⟨g7,0,none⟩ (.int .i64 0)=W2 at *
  have e6:(W2.putObj D (.deferred none)).cell? ⟨g6,0,none⟩=some (.slice ao fl co):=(World.cell?_of_block (World.putObj_heap_other (by exact hne6))).trans (h6a.out.cellK 0)
  have e7:(W2.putObj D (.deferred none)).cell? ⟨g7,0,none⟩=some (.int .i64 0):=(World.cell?_of_block (World.putObj_heap_other (by exact hne7))).trans (h7a.out.cellK 0)
  refine body_marked HDd.out (results_cc (s:=6) (t:=7) (u:=.slice ao fl co) (v:=.int .i64 0) rfl _ _ rfl rfl (by go_simp) (by go_simp)) ⟨_,by rw [HR2.out],by rw [HR1.out];exact HRw.out,HSm.out.toKept HK2.out (fun i hi=>hi)⟩
 ·intro hgo D X W hD hXD hI hDf
  have hle:¬ (refL n p).length≤m:=by rw [all_goes] at hgo;exact of_decide_eq_false hgo
  have HR1:=Qh (show RL=[] by rw [← HRL.out,if_neg hle])
  have HR2:=Qh (show RE=3 by rw [← HRE.out,if_neg hle])
  have hne6:g6≠D:=by have:=HQ.out;have:=HO.out;omega
  have hne7:g7≠D:=by have:=HQ.out;have:=HO.out;omega
  have HSm:=Qh ((hI.sm.mono (Y:=fun k=>k<w.heap.size) fun k _ hk=>by have:=HQ.out;have:=HO.out;exact ⟨by omega,by omega,by omega,by omega⟩).putObj (.deferred none) (l:=D) (by have:=HQ.out;show ¬ D<_;omega))
  have e6:(W.putObj D (.deferred none)).cell? ⟨g6,0,none⟩=some (.slice none 0 0):=(World.cell?_of_block (World.putObj_heap_other (by exact hne6))).trans (hI.r6.cellK 0)
  have e7:(W.putObj D (.deferred none)).cell? ⟨g7,0,none⟩=some (.int .i64 3):=(World.cell?_of_block (World.putObj_heap_other (by exact hne7))).trans (hI.r7.cellK 0)
  simp only [Exit.inBlock,Exit.then]
  refine body_marked hDf (results_cc (s:=6) (t:=7) (u:=.slice none 0 0) (v:=.int .i64 3) rfl _ _ rfl rfl (by go_simp) (by go_simp)) ⟨_,by rw [HR2.out],by rw [HR1.out];exact RowsM.nil _ _ _,HSm.out.toKept HK2.out (fun i hi=>hi)⟩
theorem refL_long:∀ (n:Nat) (p:Ps),(refL n p).length≤24576 ^ n
 | 0,p=>by simp [refL]
 | n+1,p=>by
  rw [refL,List.length_flatMap]
  have:∀ l:List Mv,(l.map fun m=>((refL n (behP p m)).map (m::·)).length).sum≤l.length*24576 ^ n:=by
   intro l
   induction l with
   | nil=>simp
   | cons a l ih =>
    rw [List.map_cons,List.sum_cons,List.length_map,List.length_cons,Nat.succ_mul]
    have:=refL_long n (behP p a)
    omega
  refine Nat.le_trans (this _) ?_
  rw [Nat.pow_succ,Nat.mul_comm]
  exact Nat.mul_le_mul_left _ (legR_long p)
def refK (n:Nat) (p:Ps) (i:Nat):List (List Mv):=((legR p).take i).flatMap fun m=>(refL n (behP p m)).map (m::·)
theorem refK_zero (n:Nat) (p:Ps):refK n p 0=[]:=by simp [refK]
theorem refK_succ {n:Nat} {p:Ps} {i:Nat} {m:Mv} (h:(legR p)[i]?=some m):refK n p (i+1)=refK n p i++(refL n (behP p m)).map (m::·):=by
 unfold refK;rw [List.take_add_one,h];simp
theorem refK_end (n:Nat) (p:Ps):refK n p (legR p).length=refL (n+1) p:=by unfold refK;rw [List.take_length];rfl
theorem refK_long {n:Nat} {p:Ps} {i:Nat} (hn:n≤1):(refK n p i).length≤700000000:=by
 have h1:(refK n p i).length≤(refL (n+1) p).length:=by
  rw [← refK_end]
  unfold refK
  rw [List.take_length]
  have:(legR p).take i++(legR p).drop i=legR p:=List.take_append_drop i _
  conv=>rhs;rw [← this]
  rw [List.flatMap_append,List.length_append]
  omega
 have h2:=refL_long (n+1) p
 have h3:24576 ^ (n+1)≤24576 ^ 2:=Nat.pow_le_pow_right (by decide) (by omega)
 have h4:24576 ^ 2=603979776:=by decide
 omega
def refJ (n:Nat) (p:Ps) (i:Nat) (m:Mv) (k:Nat):List (List Mv):=refK n p i++((refL n (behP p m)).take k).map (m::·)
theorem refJ_zero (n:Nat) (p:Ps) (i:Nat) (m:Mv):refJ n p i m 0=refK n p i:=by simp [refJ]
theorem refJ_succ {n:Nat} {p:Ps} {i:Nat} {m:Mv} {k:Nat} {x:List Mv} (h:(refL n (behP p m))[k]?=some x):refJ n p i m (k+1)=refJ n p i m k++[m::x]:=by
 unfold refJ;rw [List.take_add_one,h];simp
theorem refJ_end {n:Nat} {p:Ps} {i:Nat} {m:Mv} (h:(legR p)[i]?=some m):refJ n p i m (refL n (behP p m)).length=refK n p (i+1):=by unfold refJ;rw [List.take_length,refK_succ h]
theorem refJ_long {n:Nat} {p:Ps} {i:Nat} {m:Mv} {k:Nat} (hn:n≤1):(refJ n p i m k).length≤800000000:=by
 unfold refJ
 rw [List.length_append,List.length_map,List.length_take]
 have h1:=refK_long (p:=p) (i:=i) hn
 have h2:=refL_long n (behP p m)
 have h3:24576 ^ n≤24576 ^ 1:=Nat.pow_le_pow_right (by decide) hn
 omega
def fz:Array Value:=#[.slice none 0 0,.int .i64 0]
theorem zeroFd:(Tryz.prog.info? 34).map (fun i=>(i.zero,i.size))=some (some (.agg fz),2):=by kernel_rfl
theorem run_zero_fd (w:World):(zeroValue 34).run Tryz.prog w=.ok (.agg fz) w:=(zero_of_info zeroFd).1 w
theorem sizeFd:(Tryz.prog.info? 34).map (·.size)=some 2:=by kernel_rfl
def fdl (v:Value) (s:Int):List Value:=[v,.int .i64 s]
theorem fdl_one (a:Option Addr) (n c:Nat) (s:Int):(fdl (.slice a n c) s).toArray.all (·.oneCell')=true:=by simp [fdl,Value.oneCell']
theorem wpList_new_fd {ops:Array Oper} {rest:List Oper} {o:Oper} {a:Act} {w:World} {Q:Exit→Act→World→Prop} (hgd:o.guard=none) (ho:o.op=.alloc 34)
  (h:wpList Tryz.prog ops Q rest (a.put o.dst (.pointer (some ⟨w.heap.size,0,none⟩))) (w.alloc (.cells fz 34))):wpList Tryz.prog ops Q (o::rest) a w:=by
 refine wpList_plain hgd fun _ hK=>?_
 unfold Oper.wp execOp
 simp only [ho,Instr.alloc,Sem.run_bind,run_zero_fd,Result.andThen_ok,newVar,newRow,Value.cells]
 exact hK _ _ h
theorem wp_new_fd {o:Oper} {a:Act} {w:World} {K:Act→World→Prop} {Q:Exit→Act→World→Prop} (ho:o.op=.alloc 34)
  (h:K (a.put o.dst (.pointer (some ⟨w.heap.size,0,none⟩))) (w.alloc (.cells fz 34))):o.wp Tryz.prog a w K Q:=by
 unfold Oper.wp execOp
 simp only [ho,Instr.alloc,Sem.run_bind,run_zero_fd,Result.andThen_ok,newVar,newRow,Value.cells]
 exact h
theorem wpList_load_fd {ops:Array Oper} {rest:List Oper} {op:Oper} {a:Act} {w:World} {Q:Exit→Act→World→Prop} (hgd:op.guard=none) (x:Operand) (ho:op.op=.load 34 x)
  (g:Nat) (hx:a.eval x=.pointer (some ⟨g,0,none⟩)) (v:Value) (s:Int) (hg:RAt w g (fdl v s) 34)
  (h:wpList Tryz.prog ops Q rest (a.put op.dst (.agg (fdl v s).toArray)) w):wpList Tryz.prog ops Q (op::rest) a w :=
 wpList_plain hgd fun _ hK=>wp_load_mid 34 x ho g 0 hx (fdl v s) _ (RAt.range hg) Tryz.underlying34 rfl sizeFd (hK _ _ h)
theorem wpList_store_fd {ops:Array Oper} {rest:List Oper} {o:Oper} {a:Act} {w:World} {Q:Exit→Act→World→Prop} (hgd:o.guard=none) (x y:Operand) (ho:o.op=.store 34 x y)
  (g:Nat) (v0:Value) (s0:Int) (b:Option Addr) (n c:Nat) (s:Int) (hg:RAt w g (fdl v0 s0) 34) (hx:a.eval x=.pointer (some ⟨g,0,none⟩)) (hy:a.eval y=.agg (fdl (.slice b n c) s).toArray)
  (h:wpList Tryz.prog ops Q rest (a.put o.dst undef) (w.setRow g (fdl (.slice b n c) s).toArray)):wpList Tryz.prog ops Q (o::rest) a w :=
 wpList_store_row hgd 34 x y ho g (fdl (.slice b n c) s).toArray hx hy 34 _ hg.at_ sizeFd rfl (fdl_one b n c s) h
theorem wpList_store_newfd {ops:Array Oper} {rest:List Oper} {o:Oper} {a:Act} {w:World} {Q:Exit→Act→World→Prop} (hgd:o.guard=none) (x y:Operand) (ho:o.op=.store 34 x y)
  (b:Option Addr) (n c:Nat) (s:Int) (hx:a.eval x=.pointer (some ⟨w.heap.size,0,none⟩)) (hy:a.eval y=.agg (fdl (.slice b n c) s).toArray)
  (h:wpList Tryz.prog ops Q rest (a.put o.dst undef) (w.alloc (.cells (fdl (.slice b n c) s).toArray 34))):wpList Tryz.prog ops Q (o::rest) a (w.alloc (.cells fz 34)):=by
 refine wpList_store_row hgd 34 x y ho w.heap.size (fdl (.slice b n c) s).toArray hx hy 34 _ (heap_alloc_new w _) sizeFd rfl (fdl_one b n c s) ?_
 rw [World.setRow_alloc_new]
 exact h
def RefE (w:World) (L:List (List Mv)) (e:Ending) (w':World):Prop:=∃ v s,e=.returned (.agg (fdl v s).toArray)∧RowsM (fun _=>False) w' w.heap.size v L∧Kept w w'
theorem results_fd {fn:Func} {s:Tmp} (h:fn.results=#[.cell s 34]) (tmps:Array Value) {w:World} {g:Nat} {v:Value} {x:Int} (hp:tmps.getD s undef=.pointer (some ⟨g,0,none⟩)) (hg:RAt w g (fdl v x) 34) :
  (results fn tmps).run Tryz.prog w=.ok (.agg (fdl v x).toArray) w :=
 results_cell_row h tmps w g 34 _ (0,0) _ hp hg.at_ Tryz.underlying34 rfl sizeFd
theorem RowsM.one (w:World) (base:Nat) (hb:base≤w.heap.size):RowsM (fun _=>False) (w.alloc (.cells #[.slice none 0 0] 37)) base (.slice (some ⟨w.heap.size,0,none⟩) 1 1) [[]]:=by
 refine ⟨[.slice none 0 0],⟨rfl,.inr ⟨w.heap.size,1,#[.slice none 0 0],rfl,hb,heap_alloc_new w _,Nat.le_refl _,by unfold maxLen;omega,rfl,rfl⟩⟩,fun _ _ h=>h,fun i u l hu hl=>?_⟩
 match i,hu,hl with
 | 0,hu,hl =>
  simp at hu hl
  subst hu hl
  exact ⟨0,.inl ⟨rfl,rfl⟩,fun h=>by simp at h⟩
set_option maxHeartbeats 4000000 in
theorem rall_zero (p:Ps) (hB:Brd p.B) (w:World):Calls Tryz.prog 9 #[.agg (pl p).toArray,.int .i64 0] w (RefE w (refL 0 p)):=by
 have HK1:=Qh (((Kept.refl w).alloc (.cells (pl p).toArray 26)).alloc (.cells fz 34))
 have HF:Hid (RAt ((w.alloc (.cells (pl p).toArray 26)).alloc (.cells fz 34)) (w.heap.size+1) (fdl (.slice none 0 0) 0) 34):=⟨by
  have h:=heap_alloc_new (w.alloc (.cells (pl p).toArray 26)) (.cells fz 34)
  rwa [World.size_alloc] at h⟩
 have hsz:Hid (((w.alloc (.cells (pl p).toArray 26)).alloc (.cells fz 34)).heap.size=w.heap.size+1+1):=by show _=_;simp
 clear hB
 go_enter Tryz.func9,Tryz.ntmps9
 have HR:=Qh (RowsM.one ((w.alloc (.cells (pl p).toArray 26)).alloc (.cells fz 34)) (w.heap.size+1+1) (Nat.le_of_eq hsz.out.symm))
 rw [hsz.out] at HR
 have HK2:=Qh (HK1.out.alloc (.cells #[.slice none 0 0] 37))
 have HF2:=Qh (HF.out.kept ((Kept.refl _).alloc (.cells #[.slice none 0 0] 37)))
 go_wp2_with (first|(with_reducible refine wpList_new_fd rfl rfl ?_)|((with_reducible refine wpList_store_fd rfl _ _ rfl (w.heap.size+1) (.slice none 0 0) 0 (some ⟨w.heap.size+1+1,0,none⟩) 1 1 0 HF2.out ?_ ?_ ?_);exact rfl;exact rfl))
 refine bodyPost_ret (v:=.agg (fdl (.slice (some ⟨w.heap.size+1+1,0,none⟩) 1 1) 0).toArray) (results_fd rfl _ rfl ⟨setRow_heap _ _ _ _ _ _ HF2.out.at_⟩) rfl ⟨_,0,rfl,?_,HK2.out.setRow (by omega) _⟩
 exact RowsM.low (RowsM.apart HR.out (fun i hi _ _=>setRow_other _ _ _ _ (by omega)) (fun _ _ _ h=>h)) (by omega)
theorem RowsM.at2 {Z:Nat→Prop} {w:World} {base:Nat} {v:Value} {L:List (List Mv)} (h:RowsM Z w base v L) {i:Nat} {l:List Mv} (hl:L[i]?=some l) :
  ∃ go cap u g,v=.slice (some ⟨go,0,none⟩) L.length cap∧L.length≤cap∧cap≤maxLen∧base≤go∧go<w.heap.size∧w.cell? ⟨go,i,none⟩=some u∧LsM w g u l∧(0<l.length→base≤g∧g<w.heap.size):=by
 obtain ⟨vs,ho,hb,he⟩:=h
 have hi:=(List.getElem?_eq_some_iff.1 hl).1
 have hvl:vs.length=L.length:=by have:=ho.1;omega
 obtain ⟨u,hu⟩:∃ u,vs[i]?=some u:=⟨_,List.getElem?_eq_getElem (by omega)⟩
 obtain ⟨g,hls,hg⟩:=he i u l hu hl
 rcases ho.2 with ⟨e,h0⟩|⟨go,cap,cur,e,hb,hh,hnc,hcm,hcs,ht⟩
 ·omega
 ·refine ⟨go,cap,u,g,e,hnc,hcm,hb,lt_of_heap hh,?_,hls,fun hp=>?_⟩
  ·rw [cell_of_row w go i cur _ (0,0) hh]
   have h2:(cur.toList.take (L.length*1))[i]?=vs[i]?:=by rw [ht]
   rw [List.getElem?_take,if_pos (by omega)] at h2
   simp only [Array.getElem?_toList] at h2
   rw [h2,hu]
  ·obtain ⟨c1,_,c,c3⟩:=hg hp
   exact ⟨c1,lt_of_heap c3⟩
theorem wpList_append_rows {ops:Array Oper} {rest:List Oper} {o:Oper} {a:Act} {w:World} {Q:Exit→Act→World→Prop} (hgd:o.guard=none) (s x:Operand)
  (ho:o.op=.call { callee:=.builtin .append,args:=#[s,x],argTypes:=#[28,28] })
  (base:Nat) (v:Value) (n:Nat) (vs:List Value) (u:Value) (g off c:Nat) (hs:a.eval s=v) (hx:a.eval x=.slice (some ⟨g,off,none⟩) 1 c) (hown:w.ownsRow base 37 1 v n vs) (hb:base≤w.heap.size)
  (hcell:w.rangeAt g off [u]) (h1:u.oneCell'=true) (hlen:n≤1000000000)
  (h:∀ v' w',w'.ownsRow base 37 1 v' (n+1) (vs++[u])→w.grownBy w' v.ownBlock→(∀ k,v'.ownBlock=some k→v.ownBlock=some k∨w.heap.size≤k)→wpList Tryz.prog ops Q rest (a.put o.dst v') w'):wpList Tryz.prog ops Q (o::rest) a w :=
 wpList_plain hgd fun _ hK=>wp_append_rows s x ho base v n vs u g off c hs hx hown hb hcell h1 hlen fun v' w' a b c=>hK _ _ (h v' w' a b c)
theorem rows_push {W V w1 w2:World} {g5 base gu:Nat} {Z:Nat→Prop} {v v' u v0:Value} {s:Int} {L:List (List Mv)} {l:List Mv} {vs:List Value} (hr:RowsM Z W base v L)
  (hvs:W.ownsRow base 37 1 v L.length vs∧(∀ k,v.ownBlock=some k→¬ Z k)∧∀ (i:Nat) (u:Value) (l:List Mv),vs[i]?=some u→L[i]?=some l→∃ g,LsM W g u l∧(0<l.length→base≤g∧¬ Z g∧∃ c,W.heap[g]?=some (.cells c 54 (0,0))))
  (kV:Kept W V) (hu:LsM V gu u l) (hn:0<l.length→W.heap.size≤gu∧∃ c,V.heap[gu]?=some (.cells c 54 (0,0))) (k:Kept V w1) (ho:w2.ownsRow base 37 1 v' (L.length+1) (vs++[u])) (hg:w1.grownBy w2 v.ownBlock)
  (hv:∀ k,v'.ownBlock=some k→v.ownBlock=some k∨w1.heap.size≤k) (hZ:∀ k,Z k→k<W.heap.size) (hb:base≤W.heap.size) (h5:g5<base) (hat:RAt W g5 (fdl v0 s) 34) :
  RAt w2 g5 (fdl v0 s) 34∧RowsM Z (w2.setCell ⟨g5,0,none⟩ v') base v' (L++[l])∧RAt (w2.setCell ⟨g5,0,none⟩ v') g5 (fdl v' s) 34 ∧
   ∀ S:Nat→Prop,(∀ i,S i→i≠g5)→(∀ i,S i→i<base∨Z i)→Sm S W (w2.setCell ⟨g5,0,none⟩ v'):=by
 have hk1:=kV.trans k
 have hrowlt:=fun i hi=>World.ownsRow.lt hvs.1 i hi
 have hvsV:V.ownsRow base 37 1 v L.length vs∧(∀ k,v.ownBlock=some k→¬ Z k)∧∀ (i:Nat) (u:Value) (l:List Mv),vs[i]?=some u→L[i]?=some l→∃ g,LsM V g u l∧(0<l.length→base≤g∧¬ Z g∧∃ c,V.heap[g]?=some (.cells c 54 (0,0))):=by
  obtain ⟨a,b,c⟩:=hvs
  refine ⟨?_,b,fun i u l hu hl=>?_⟩
  ·obtain ⟨h1,h2⟩:=a
   refine ⟨h1,?_⟩
   rcases h2 with h2|⟨b,cap,cur,e1,e2,e3,e4⟩
   ·exact .inl h2
   ·exact .inr ⟨b,cap,cur,e1,e2,kV.heap e3,e4⟩
  ·obtain ⟨g,q1,q2⟩:=c i u l hu hl
   exact ⟨g,q1.kept kV,fun hp=>by obtain ⟨c1,c2,c,c3⟩:=q2 hp;exact ⟨c1,c2,c,kV.heap c3⟩⟩
 have hp:=RowsM.push (hr.kept kV) hu (fun hp=>by
  obtain ⟨c1,c2⟩:=hn hp
  exact ⟨Nat.le_trans hb c1,fun hz=>by have:=hZ gu hz;omega,c2⟩) hvsV k ho hg hv (fun i hi=>Nat.lt_of_lt_of_le (hZ i hi) hk1.size)
 have hat2:RAt w2 g5 (fdl v0 s) 34:=⟨(hg.block g5 (lt_of_heap (hk1.heap hat.at_)) (fun e=>by have:=(hrowlt g5 e.symm).1;omega)).trans (hk1.heap hat.at_)⟩
 refine ⟨hat2,hp.apart (fun i hi _ _=>Below.heap_setCell w2 ⟨g5,0,none⟩ v' i (by exact fun e=>by have:i=g5:=e;omega)) (fun _ _ _ h=>h),hat2.set 0 v',fun S h1 h2=>?_⟩
 exact ((Sm.of_kept S hk1).grownBy hg (fun i hi hS=>by
  rcases h2 i hS with h|h
  ·have:=(hrowlt i hi).1;omega
  ·exact (hvs.2.1 i hi h).elim)).setCell (by exact fun hS=>h1 g5 hS rfl) v'
def XS (p:Ps) (n:Nat) (m:Mv) (wr:World) (s8:Value) (wc:World):Prop :=
 ∃ (g8:Nat) (vx:Value) (sx:Int),s8=.pointer (some ⟨g8,0,none⟩)∧Kept wr wc∧RAt wc g8 (fdl vx sx) 34∧wr.heap.size≤g8∧RowsM (fun _=>False) wc wr.heap.size vx (refL n (behP p m))
set_option maxHeartbeats 16000000 in
theorem rall_succ (n:Nat) (hn:n≤1) (ih:∀ (p:Ps),Brd p.B→pwI p=0→∀ w,Calls Tryz.prog 9 #[.agg (pl p).toArray,.int .i64 n] w (RefE w (refL n p))) (p:Ps) (hB:Brd p.B) (hr:pwI p=0) (w:World) :
  Calls Tryz.prog 9 #[.agg (pl p).toArray,.int .i64 ((n:Int)+1)] w (RefE w (refL (n+1) p)):=by
 have HP0:=Qh (PAt.new w hB.1)
 have HIh:=Qh ih
 have hpl:Hid (p.B.length=64):=hB.1
 have HMv:=Qh (fun w=>rmoves_is p hB hr w)
 rw [show legL p=legR p by unfold legR;rw [if_pos hr]] at HMv
 have HBe:=Qh (fun (m:Mv) (hm:legB p m=true) w=>rbeh_is p hB hr m hm w)
 have HMem:=Qh (fun (k:Nat) (m:Mv) (hm:(legR p)[k]?=some m)=>(mem_legR (List.mem_of_getElem? hm)).2)
 have HRt:=Qh (fun (m:Mv) (hm:legB p m=true)=>leg_right hB hr hm)
 have HLl:=Qh (legR_long p)
 have HKa:=Qh ((((Kept.refl w).alloc (.cells (pl p).toArray 26)).alloc (.cells fz 34)).alloc (.cells (fdl (.slice none 0 0) 1).toArray 34))
 have HPa:=Qh (HP0.out.kept (((Kept.refl _).alloc (.cells fz 34)).alloc (.cells (fdl (.slice none 0 0) 1).toArray 34)))
 have H4a:Hid (RAt _ (w.heap.size+1) (fdl (.slice none 0 0) 0) 34):=⟨((Kept.refl ((w.alloc (.cells (pl p).toArray 26)).alloc (.cells fz 34))).alloc (.cells (fdl (.slice none 0 0) 1).toArray 34)).heap (by
  have h:=heap_alloc_new (w.alloc (.cells (pl p).toArray 26)) (.cells fz 34)
  rwa [World.size_alloc] at h)⟩
 have H5a:Hid (RAt (((w.alloc (.cells (pl p).toArray 26)).alloc (.cells fz 34)).alloc (.cells (fdl (.slice none 0 0) 1).toArray 34)) (w.heap.size+1+1) (fdl (.slice none 0 0) 1) 34):=⟨by
  have h:=heap_alloc_new ((w.alloc (.cells (pl p).toArray 26)).alloc (.cells fz 34)) (.cells (fdl (.slice none 0 0) 1).toArray 34)
  rwa [World.size_alloc,World.size_alloc] at h⟩
 have hn1:((n:Int)+1 == 0)=false:=by simp;omega
 generalize hM:(legR p).length=M at *
 have HM:=Qh hM
 clear hB hr hM ih
 go_enter Tryz.func9,Tryz.ntmps9
 go_wp2_with (first|(with_reducible refine wpList_new_fd rfl rfl ?_)|((with_reducible refine wpList_store_newfd rfl _ _ rfl none 0 0 1 ?_ ?_ ?_);exact rfl;exact rfl)|((with_reducible refine wpList_load_psg rfl _ rfl w.heap.size ?_ p HPa.out ?_);exact rfl))
 refine (HMv.out _).mono ?_
 rintro e W0 ⟨vl,rfl,hol,kl⟩
 obtain ⟨al,cl0,rfl⟩:=hol.slice
 obtain ⟨gl,hls,hgl⟩:=hol.ls
 have HK0:=Qh (HKa.out.trans kl)
 have HP:=Qh (HPa.out.kept kl)
 have H4:=Qh (H4a.out.kept kl)
 have H5:=Qh (H5a.out.kept kl)
 have HS0:=Qh (show w.heap.size+1+1<W0.heap.size from lt_of_heap H5.out.at_)
 have HLs:=Qh hls
 rw [HM.out] at hgl HLs ⊢
 have HGl:=Qh (show 0<M→w.heap.size+1+1<gl∧gl<W0.heap.size from fun h=>by
  have h1:=lt_of_heap H5a.out.at_
  have h2:=hgl h
  omega)
 clear kl hol hls hgl HPa H4a H5a HKa
 go_wp2
 go_loopw [7] (fun t7 wr=>∃ (i:Nat) (vo:Value) (so:Int),i≤M∧t7=.int .i64 i∧RAt wr (w.heap.size+1+1) (fdl vo so) 34∧RowsM (fun _=>False) wr W0.heap.size vo (refK n p i)∧Sm (fun k=>k<W0.heap.size∧k≠w.heap.size+1+1) W0 wr) (fun t7 _=>M-(intOf t7).toNat)
 case atStart=>exact ⟨0,.slice none 0 0,1,Nat.zero_le _,rfl,H5.out,by rw [refK_zero];exact RowsM.nil _ _ _,Sm.refl _ _⟩
 case round =>
  obtain ⟨i,vo,so,hi,rfl,hat,hro,hsm⟩:=hrel
  obtain ⟨ao,co,rfl⟩:=hro.slice
  have HAt:=Qh hat
  have HRo:=Qh hro
  have HSm:=Qh hsm
  have HPr:=Qh (HP.out.sm hsm (by have:=HS0.out;exact ⟨by omega,by omega⟩))
  clear hat hro hsm
  by_cases hlt:i<M
  ·have hlt':(i:Int)<(M:Int):=by omega
   obtain ⟨x,hx⟩:∃ x,(legR p)[i]?=some x:=⟨_,List.getElem?_eq_getElem (by have:=HM.out;omega)⟩
   obtain ⟨off,cap,he,hc1,hc2,h3⟩:=HLs.out.full (by have:=HM.out;omega)
   rw [HM.out] at he hc1
   injection he with he1 he2 he3
   subst he1 he3
   unfold maxLen at hc2
   have HX:=Qh hx
   have HRw:=Qh (range_ij (range_sm h3 HSm.out (fun _=>by have:=HGl.out (by omega);exact ⟨by omega,by omega⟩)) hx)
   have HRx:=Qh (range_ij h3 hx)
   have HLg:=Qh (HMem.out i x hx)
   clear hx h3 he2
   have HBx:=Qh (HBe.out x HLg.out)
   have HIx:=Qh (HIh.out (behP p x) (HRt.out x HLg.out).2.1 (HRt.out x HLg.out).1)
   have hwn:IntKind.i64.wrap (n:Int)=(n:Int):=IntWalk.i64_in _ (by omega)
   have hwn1:IntKind.i64.wrap ((n:Int)+1-1)=(n:Int):=by rw [show (n:Int)+1-1=n by omega];exact hwn
   go_upto_region 8 with fail
   go_cut [8] from 18 to 65 (fun s8 wc=>XS p n x wr s8 wc)
   case first =>
    refine wp_region_held_drew (S:=Kept _) (by kernel_rfl) (Kept.refl _).drew (fun Qj=>?_)
    have HKV:=Qh Qj
    generalize wr.drew=V at *
    refine rY 0 24 rfl rfl (take_load_ps (by rfl) _ rfl _ rfl p hpl.out (fun _ h=>(HPr.out).kept h)) Qj ?_
    simp only [Act.put,sA,sZ,sU]
    refine rT 1 25 (.slice (some ⟨gl,off,none⟩) M cl0) rfl rfl Qj ?_
    simp only [pA,pN,sZ,sU]
    refine rT 2 26 (.int .i64 (i:Int)) rfl rfl Qj ?_
    simp only [pA,pN,sZ,sU]
    refine rT 3 27 (.pointer (some ⟨gl,off+i*3,none⟩)) rfl rfl Qj ?_
    simp only [pA,pN,sZ,sU]
    refine rY 4 28 rfl rfl (take_load_mvi (by rfl) _ rfl gl (off+i*3) rfl x (fun _ h=>range_kept (HRw.out) h)) Qj ?_
    simp only [pA,pN,sZ,sU]
    refine rT 6 30 (.int .i64 ((n:Int)+1)) rfl rfl Qj ?_
    simp only [pA,pN,sZ,sU]
    refine rT 7 31 (.int .i64 (n:Int)) rfl rfl Qj ?_
    simp only [pA,pN,sZ,sU]
    refine wpAnyH_ready (rs:=[5,9]) (by kernel_rfl) (by simp) ?_
    refine AllReadyH.cons rfl (fun K hK=>?_) (AllReadyH.cons rfl (fun K hK=>?_) AllReadyH.nil)
    ·go_simp
     refine (HBx.out _).mono ?_
     rintro e y1 ⟨rfl,k1⟩
     refine hK.out _ _ (Qj.trans k1) (fun _=>?_)
     replace Qj:=Qj.trans k1
     clear hK K
     have HY1:=Qh Qj.size
     refine wpAnyH_ready (rs:=[8,9]) (by kernel_rfl) (by simp) ?_
     refine AllReadyH.cons rfl (fun K hK=>?_) (AllReadyH.cons rfl (fun K hK=>?_) AllReadyH.nil)
     ·go_simp
      refine (HIx.out _).mono ?_
      rintro e y2 ⟨vx,sx,rfl,hrx,k2⟩
      obtain ⟨ax,cx,rfl⟩:=hrx.slice
      refine hK.out _ _ (Qj.trans k2) (fun _=>?_)
      clear hK K
      replace Qj:=Qj.trans k2
      refine rR 9 rfl (fun K hK=>?_)
      rw [if_pos (by rfl)]
      refine wp_new_fd rfl ?_
      refine hK.out _ _ (Qj.alloc _) (fun _=>?_)
      clear hK K
      simp only [List.getElem_toArray,List.getElem_cons_succ,List.getElem_cons_zero,Act.put,sA,sZ,sU]
      have hgw:(y2.alloc (.cells fz 34)).heap[y2.heap.size]?=some (.cells fz 34 (0,0)):=heap_alloc_new y2 _
      have hsz:(y2.alloc (.cells fz 34)).heap.size=y2.heap.size+1:=by simp
      have HWg:Hid (wr.heap.size≤y2.heap.size):=Qj.size
      have HNx:=Qh (show ∀ c,RowsM (fun _=>False) ((y2.alloc (.cells fz 34)).setRow y2.heap.size c) wr.heap.size (.slice ax (refL n (behP p x)).length cx) (refL n (behP p x)) from fun c =>
       RowsM.low (RowsM.apart hrx (fun k _ _ hl=>(setRow_other _ y2.heap.size k c (by omega)).trans (((Kept.refl y2).alloc _).block k hl)) (fun _ _ _ h=>h)) HY1.out)
      have HGw:=Qh hgw
      replace Qj:=Qj.alloc (.cells fz 34)
      clear hgw hsz hrx k2 k1
      generalize y2.alloc (.cells fz 34)=Z2 at *
      generalize y2.heap.size=g8 at *
      refine rR 10 rfl (fun K hK=>?_)
      rw [if_pos (by rfl)]
      refine wp_store_row 34 _ _ rfl g8 (fdl (.slice ax (refL n (behP p x)).length cx) sx).toArray rfl rfl 34 _ HGw.out sizeFd rfl (fdl_one ax _ cx sx) ?_
      have HKx:=Qh (Qj.setRow HWg.out (fdl (.slice ax (refL n (behP p x)).length cx) sx).toArray)
      refine hK.out _ _ HKx.out (fun _=>?_)
      clear hK K
      have HA8:=Qh (RAt.mk (l:=fdl (.slice ax (refL n (behP p x)).length cx) sx) (setRow_heap _ g8 _ _ _ _ HGw.out))
      have HRn:=Qh (HNx.out (fdl (.slice ax (refL n (behP p x)).length cx) sx).toArray)
      clear Qj HNx HGw
      generalize Z2.setRow g8 (fdl (.slice ax (refL n (behP p x)).length cx) sx).toArray=Z3 at *
      simp only [List.getElem_toArray,List.getElem_cons_succ,List.getElem_cons_zero,Act.put,sA,sZ,sU]
      refine wpAnyH_done (by kernel_rfl) ?_ _
      go_wp2
      go_meet
      case rel=>exact ⟨g8,_,sx,rfl,HKx.out,HA8.out,HWg.out,HRn.out⟩
     ·rw [if_pos (by rfl)]
      refine wp_new_fd rfl ?_
      refine hK.out _ _ (Qj.alloc _) (fun _=>?_)
      clear hK K
      simp only [List.getElem_toArray,List.getElem_cons_succ,List.getElem_cons_zero,Act.put,sA,sZ,sU]
      have hgw:(y1.alloc (.cells fz 34)).heap[y1.heap.size]?=some (.cells fz 34 (0,0)):=heap_alloc_new y1 _
      have hsz:(y1.alloc (.cells fz 34)).heap.size=y1.heap.size+1:=by simp
      have HGa:=Qh hgw
      have HSz:=Qh hsz
      have HWg:Hid (wr.heap.size≤y1.heap.size):=Qj.size
      replace Qj:=Qj.alloc (.cells fz 34)
      clear hgw hsz k1
      generalize y1.alloc (.cells fz 34)=ya at *
      generalize y1.heap.size=g8 at *
      refine rR 8 rfl (fun K hK=>?_)
      go_simp
      refine (HIx.out _).mono ?_
      rintro e y2 ⟨vx,sx,rfl,hrx,k2⟩
      obtain ⟨ax,cx,rfl⟩:=hrx.slice
      refine hK.out _ _ (Qj.trans k2) (fun _=>?_)
      clear hK K
      have HGw:=Qh (k2.heap HGa.out)
      have HNx:=Qh (show ∀ c,RowsM (fun _=>False) (y2.setRow g8 c) wr.heap.size (.slice ax (refL n (behP p x)).length cx) (refL n (behP p x)) from fun c =>
       RowsM.low (RowsM.apart hrx (fun k hk _ _=>setRow_other _ g8 k c (by have:=HSz.out;omega)) (fun _ _ _ h=>h)) (by have:=HSz.out;have:=HWg.out;omega))
      replace Qj:=Qj.trans k2
      clear hrx k2 HGa
      generalize y2=Z2 at *
      refine rR 10 rfl (fun K hK=>?_)
      rw [if_pos (by rfl)]
      refine wp_store_row 34 _ _ rfl g8 (fdl (.slice ax (refL n (behP p x)).length cx) sx).toArray rfl rfl 34 _ HGw.out sizeFd rfl (fdl_one ax _ cx sx) ?_
      have HKx:=Qh (Qj.setRow HWg.out (fdl (.slice ax (refL n (behP p x)).length cx) sx).toArray)
      refine hK.out _ _ HKx.out (fun _=>?_)
      clear hK K
      have HA8:=Qh (RAt.mk (l:=fdl (.slice ax (refL n (behP p x)).length cx) sx) (setRow_heap _ g8 _ _ _ _ HGw.out))
      have HRn:=Qh (HNx.out (fdl (.slice ax (refL n (behP p x)).length cx) sx).toArray)
      clear Qj HNx HGw
      generalize Z2.setRow g8 (fdl (.slice ax (refL n (behP p x)).length cx) sx).toArray=Z3 at *
      simp only [List.getElem_toArray,List.getElem_cons_succ,List.getElem_cons_zero,Act.put,sA,sZ,sU]
      refine wpAnyH_done (by kernel_rfl) ?_ _
      go_wp2
      go_meet
      case rel=>exact ⟨g8,_,sx,rfl,HKx.out,HA8.out,HWg.out,HRn.out⟩
    ·rw [if_pos (by rfl)]
     refine wp_new_fd rfl ?_
     refine hK.out _ _ (Qj.alloc _) (fun _=>?_)
     clear hK K
     simp only [List.getElem_toArray,List.getElem_cons_succ,List.getElem_cons_zero,Act.put,sA,sZ,sU]
     have hgw:(V.alloc (.cells fz 34)).heap[V.heap.size]?=some (.cells fz 34 (0,0)):=heap_alloc_new V _
     have hsz:(V.alloc (.cells fz 34)).heap.size=V.heap.size+1:=by simp
     have HGa:=Qh hgw
     have HSz:=Qh hsz
     have HWg:Hid (wr.heap.size≤V.heap.size):=Qj.size
     replace Qj:=Qj.alloc (.cells fz 34)
     clear hgw hsz
     generalize V.alloc (.cells fz 34)=ya at *
     generalize V.heap.size=g8 at *
     refine rR 5 rfl (fun K hK=>?_)
     go_simp
     refine (HBx.out _).mono ?_
     rintro e y1 ⟨rfl,k1⟩
     refine hK.out _ _ (Qj.trans k1) (fun _=>?_)
     replace Qj:=Qj.trans k1
     clear hK K
     have HGb:=Qh (k1.heap HGa.out)
     have HSy:=Qh (show g8+1≤y1.heap.size by have:=k1.size;have:=HSz.out;omega)
     clear k1
     refine rR 8 rfl (fun K hK=>?_)
     go_simp
     refine (HIx.out _).mono ?_
     rintro e y2 ⟨vx,sx,rfl,hrx,k2⟩
     obtain ⟨ax,cx,rfl⟩:=hrx.slice
     refine hK.out _ _ (Qj.trans k2) (fun _=>?_)
     clear hK K
     have HGw:=Qh (k2.heap HGb.out)
     have HNx:=Qh (show ∀ c,RowsM (fun _=>False) (y2.setRow g8 c) wr.heap.size (.slice ax (refL n (behP p x)).length cx) (refL n (behP p x)) from fun c =>
      RowsM.low (RowsM.apart hrx (fun k hk _ _=>setRow_other _ g8 k c (by have:=HSy.out;omega)) (fun _ _ _ h=>h)) (by have:=HSy.out;have:=HWg.out;omega))
     replace Qj:=Qj.trans k2
     clear hrx k2 HGa HGb
     generalize y2=Z2 at *
     refine rR 10 rfl (fun K hK=>?_)
     rw [if_pos (by rfl)]
     refine wp_store_row 34 _ _ rfl g8 (fdl (.slice ax (refL n (behP p x)).length cx) sx).toArray rfl rfl 34 _ HGw.out sizeFd rfl (fdl_one ax _ cx sx) ?_
     have HKx:=Qh (Qj.setRow HWg.out (fdl (.slice ax (refL n (behP p x)).length cx) sx).toArray)
     refine hK.out _ _ HKx.out (fun _=>?_)
     clear hK K
     have HA8:=Qh (RAt.mk (l:=fdl (.slice ax (refL n (behP p x)).length cx) sx) (setRow_heap _ g8 _ _ _ _ HGw.out))
     have HRn:=Qh (HNx.out (fdl (.slice ax (refL n (behP p x)).length cx) sx).toArray)
     clear Qj HNx HGw
     generalize Z2.setRow g8 (fdl (.slice ax (refL n (behP p x)).length cx) sx).toArray=Z3 at *
     simp only [List.getElem_toArray,List.getElem_cons_succ,List.getElem_cons_zero,Act.put,sA,sZ,sU]
     refine wpAnyH_done (by kernel_rfl) ?_ _
     go_wp2
     go_meet
     case rel=>exact ⟨g8,_,sx,rfl,HKx.out,HA8.out,HWg.out,HRn.out⟩
   case rest =>
    obtain ⟨g8,vx,sx,rfl,hkx,hat8,hg8,hrx⟩:=hcut
    obtain ⟨ax,cx,rfl⟩:=hrx.slice
    have hg5:w.heap.size+1+1<wr.heap.size:=by have:=HS0.out;have:=HSm.out.size;omega
    have h5c:=HAt.out.kept hkx
    have HR5:=Qh (h5c.set 1 (.int .i64 (wrap64 (so+sx))))
    have HR8:=Qh (hat8.setOther (k:=w.heap.size+1+1) (i:=1) (by omega) (.int .i64 (wrap64 (so+sx))))
    have HSz:=Qh (show wr.heap.size≤(wc.setCell ⟨w.heap.size+1+1,1,none⟩ (.int .i64 (wrap64 (so+sx)))).heap.size by simpa [World.setCell] using hkx.size)
    have HRo1:=Qh (show ∀ Z:Nat→Prop,(∀ k,Z k→wr.heap.size≤k)→RowsM Z (wc.setCell ⟨w.heap.size+1+1,1,none⟩ (.int .i64 (wrap64 (so+sx)))) W0.heap.size (.slice ao (refK n p i).length co) (refK n p i) from fun Z hZ =>
     RowsM.apart HRo.out (fun k hk _ hl=>(Below.heap_setCell wc ⟨w.heap.size+1+1,1,none⟩ _ k (by exact fun e=>by have:k=w.heap.size+1+1:=e;have:=HS0.out;omega)).trans (hkx.block k hl)) (fun k _ hl _ hz=>by have:=hZ k hz;omega))
    have HRr:=Qh (show RowsM (fun _=>False) (wc.setCell ⟨w.heap.size+1+1,1,none⟩ (.int .i64 (wrap64 (so+sx)))) wr.heap.size (.slice ax (refL n (behP p x)).length cx) (refL n (behP p x)) from
     RowsM.apart hrx (fun k hk _ hl=>Below.heap_setCell wc ⟨w.heap.size+1+1,1,none⟩ _ k (by exact fun e=>by have:k=w.heap.size+1+1:=e;omega)) (fun _ _ _ h=>h))
    have HSm1:=Qh ((HSm.out.kept hkx).setCell (p:=⟨w.heap.size+1+1,1,none⟩) (by exact fun e=>e.2 rfl) (.int .i64 (wrap64 (so+sx))))
    have HG8:=Qh (show wr.heap.size≤g8∧w.heap.size+1+1<wr.heap.size from ⟨hg8,hg5⟩)
    have z51:wc.cell? ⟨w.heap.size+1+1,1,none⟩=some (.int .i64 so):=h5c.cellK 1
    have f51:=h5c.frozen 1
    have z81:wc.cell? ⟨g8,1,none⟩=some (.int .i64 sx):=hat8.cellK 1
    clear hkx hat8 hg8 hrx hg5 h5c
    go_wp2
    generalize wc.setCell ⟨w.heap.size+1+1,1,none⟩ (.int .i64 (wrap64 (so+sx)))=W1 at *
    generalize wrap64 (so+sx)=s1 at *
    clear z51 f51 z81
    have HRm:=Qh (range_sm HRx.out HSm1.out (fun _=>by have:=HGl.out (by omega);exact ⟨by omega,by omega⟩))
    generalize wr=Wr at *
    go_loopw [9] (fun t9 wr=>∃ (k:Nat) (vo2:Value),k≤(refL n (behP p x)).length∧t9=.int .i64 k∧RAt wr (w.heap.size+1+1) (fdl vo2 s1) 34∧RowsM (fun k=>Wr.heap.size≤k∧k<W1.heap.size) wr W0.heap.size vo2 (refJ n p i x k)∧Sm (fun k=>(k<W0.heap.size∧k≠w.heap.size+1+1)∨(Wr.heap.size≤k∧k<W1.heap.size)) W1 wr) (fun t9 _=>(refL n (behP p x)).length-(intOf t9).toNat)
    case atStart=>exact ⟨0,_,Nat.zero_le _,rfl,HR5.out,by rw [refJ_zero];exact HRo1.out _ (fun k h=>h.1),Sm.refl _ _⟩
    case round =>
     obtain ⟨k,vo2,hk,rfl,hat,hro,hsm⟩:=hrel
     obtain ⟨ao2,co2,rfl⟩:=hro.slice
     have hG8:=HG8.out
     have z80:wr.cell? ⟨g8,0,none⟩=some (.slice ax (refL n (behP p x)).length cx):=(HR8.out.sm hsm (Or.inr ⟨hG8.1,lt_of_heap HR8.out.at_⟩)).cellK 0
     have HA2:=Qh hat
     have HRo2:=Qh hro
     have HSm2:=Qh hsm
     have HRq:=Qh (range_sm HRm.out hsm (fun _=>by have:=HGl.out (by omega);exact Or.inl ⟨by omega,by omega⟩))
     clear hat hro hsm hG8
     by_cases hlt2:k<(refL n (behP p x)).length
     ·have hlt2':(k:Int)<((refL n (behP p x)).length:Int):=by omega
      obtain ⟨y,hy⟩:∃ y,(refL n (behP p x))[k]?=some y:=⟨_,List.getElem?_eq_getElem hlt2⟩
      have hyl:Hid (y.length≤1):=by show _≤_;rw [refL_len n _ y (List.mem_of_getElem? hy)];exact hn
      obtain ⟨gox,capx,u,gu,he,e1,e2,e3,e4,e5,e6,e7⟩:=RowsM.at2 HRr.out hy
      injection he with q1 q2 q3
      subst q1 q3
      unfold maxLen at e2
      have zrow:=HSm2.out.cell (p:=⟨gox,k,none⟩) (Or.inr ⟨e3,e4⟩) e5
      have HLy:=Qh (e6.sm HSm2.out (fun hp=>Or.inr (e7 hp)))
      obtain ⟨au,cu,rfl⟩:=e6.slice
      have HY:=Qh hy
      clear e3 e4 e5 e6 e7 q2 hy
      generalize hNx:(refL n (behP p x)).length=Nx at *
      have HNx:=Qh hNx
      clear hNx
      go_wp2_with (first|((with_reducible refine wpList_load_mvo rfl _ rfl gl (off+i*3) ?_ x HRq.out ?_);exact rfl)|((with_reducible refine wpList_bslice_mv rfl _ rfl x ?_ ?_);exact rfl)|(at_builtin;refine wpList_append_m rfl _ _ rfl wr.heap.size wr.heap.size _ _ [] [x] rfl rfl (OwnM.nil _ _) (LsM.lit wr x) ?c1 ?c2 ?_))
      case c1=>simp
      case c2=>exact ((Kept.refl wr).alloc _).size
      intro v1 wA hown1 hg1
      have HKA:=Qh (OwnM.grown (OwnM.nil (wr.alloc (.cells (ml x).toArray 54)) wr.heap.size) ((Kept.refl wr).alloc _) (Nat.le_refl _) hg1)
      have hown1':OwnM wA wr.heap.size v1 [x]:=hown1
      obtain ⟨a1,c1,rfl⟩:∃ a c,v1=.slice a 1 c:=hown1'.slice
      have HO1:=Qh hown1'
      have z80A:=kept_cell HKA.out z80
      have zrowA:=kept_cell HKA.out zrow
      have HLA:=Qh (HLy.out.kept HKA.out)
      clear hown1 hown1' hg1 z80 zrow
      go_wp2_with (at_builtin;refine wpList_append_m rfl _ _ rfl wr.heap.size gu _ _ [x] y rfl rfl HO1.out HLA.out ?c1 ?c2 ?_)
      case c1=>have:=hyl.out;simp;omega
      case c2=>exact HKA.out.size
      intro v2 wB hown2 hg2
      have HKB:=Qh (HO1.out.grown HKA.out (Nat.le_refl _) hg2)
      have hown2':OwnM wB wr.heap.size v2 (x::y):=hown2
      obtain ⟨gn,hls2,hnw2⟩:=OwnM.new hown2'
      obtain ⟨a2,m2,c2,rfl⟩:∃ a m c,v2=.slice a m c:=by obtain ⟨a,c,e⟩:=hown2'.slice;exact ⟨a,_,c,e⟩
      have HL2:=Qh hls2
      have HN2:=Qh hnw2
      have z5B:wB.cell? ⟨w.heap.size+1+1,0,none⟩=some (.slice ao2 (refJ n p i x k).length co2):=kept_cell HKB.out (HA2.out.cellK 0)
      clear hown2 hown2' hg2 z80A zrowA hls2 hnw2
      have HKC:=Qh ((Kept.refl wB).alloc (.cells #[.slice a2 m2 c2] 37))
      have HSl:=Qh (show (wB.alloc (.cells #[.slice a2 m2 c2] 37)).rangeAt wB.heap.size 0 [.slice a2 m2 c2] from RAt.range (T:=37) ⟨heap_alloc_new wB _⟩)
      have HJl:=Qh (refJ_long (p:=p) (i:=i) (m:=x) (k:=k) hn)
      obtain ⟨vs,hvs⟩:=HRo2.out
      have HVs:=Qh hvs
      clear hvs
      go_wp2_with (at_builtin;refine wpList_append_rows rfl _ _ rfl W0.heap.size (.slice ao2 (refJ n p i x k).length co2) (refJ n p i x k).length vs (.slice a2 m2 c2) wB.heap.size 0 1 rfl rfl ?own ?hb HSl.out rfl ?len ?_)
      case own =>
       obtain ⟨q1,q2⟩:=HVs.out.1
       refine ⟨q1,?_⟩
       rcases q2 with q2|⟨b,cap,cur,e1,e2,e3,e4⟩
       ·exact .inl q2
       ·exact .inr ⟨b,cap,cur,e1,e2,(HKB.out.trans HKC.out).heap e3,e4⟩
      case hb=>have h1:=HSm1.out.size;have h2:=HSm2.out.size;have h3:=HKB.out.size;omega
      case len=>have:=HJl.out;omega
      intro v3 w3 ho3 hg3 hv3
      obtain ⟨a3,m3,c3,rfl⟩:∃ a m c,v3=.slice a m c:=by
       rcases ho3.2 with ⟨e,h0⟩|⟨b,cap,cur,e,_⟩
       ·exact ⟨_,_,_,e⟩
       ·exact ⟨_,_,_,e⟩
      obtain ⟨p1,p2,p3,p4⟩:=rows_push (l:=x::y) HRo2.out HVs.out HKB.out HL2.out HN2.out HKC.out ho3 hg3 (fun j hj=>by have:=hv3 j hj;rwa [World.size_alloc]) (fun j hj=>Nat.lt_of_lt_of_le hj.2 HSm2.out.size) (Nat.le_trans HSm1.out.size HSm2.out.size) HS0.out HA2.out
      have z9:w3.cell? ⟨w.heap.size+1+1,0,none⟩=some (.slice ao2 (refJ n p i x k).length co2):=p1.cellK 0
      have f9:=p1.frozen 0
      have P2:=Qh p2
      have P3:=Qh p3
      have P4:=Qh p4
      clear p1 p2 p3 p4 ho3 hg3 hv3
      go_wp2
      go_roundw
      case rel=>exact ⟨k+1,_,by omega,by go_num,P3.out,by rw [refJ_succ HY.out];exact P2.out,HSm2.out.trans (P4.out _ (fun j hj e=>by have:=HG8.out;have:=HS0.out;omega) (fun j hj=>by rcases hj with h|h;exact Or.inl h.1;exact Or.inr h))⟩
      case measure=>simp [intOf];omega
     ·have hke:k=(refL n (behP p x)).length:=by omega
      subst hke
      have hlt2':¬ ((refL n (behP p x)).length:Int)<((refL n (behP p x)).length:Int):=by omega
      have HRe:=Qh (show RowsM (fun _=>False) wr W0.heap.size (.slice ao2 (refJ n p i x (refL n (behP p x)).length).length co2) (refK n p (i+1)) by
       rw [← refJ_end HX.out]
       exact RowsM.apart HRo2.out (fun _ _ _ _=>rfl) (fun _ _ _ _ h=>h))
      have HSe:=Qh (HSm1.out.trans (HSm2.out.mono (Y:=fun k=>k<W0.heap.size∧k≠w.heap.size+1+1) (fun j _ hj=>Or.inl hj)))
      go_wp2
      go_roundw
      case rel=>exact ⟨i+1,_,s1,by omega,by go_num,HA2.out,HRe.out,HSe.out⟩
      case measure=>simp [intOf];omega
  ·have hie:i=M:=by omega
   subst hie
   have hlt':¬ (i:Int)<(i:Int):=by omega
   have H4w:=Qh (H4.out.sm HSm.out (by have:=HS0.out;exact ⟨by omega,by omega⟩))
   have HKw:=Qh (HSm.out.toKept HK0.out (fun j hj=>by have:=HS0.out;exact ⟨by omega,by omega⟩))
   go_wp2_with (first|((with_reducible refine wpList_load_fd rfl _ rfl (w.heap.size+1+1) ?_ _ _ HAt.out ?_);exact rfl)|((with_reducible refine wpList_store_fd rfl _ _ rfl (w.heap.size+1) (.slice none 0 0) 0 ao (refK n p i).length co so H4w.out ?_ ?_ ?_);exact rfl;exact rfl))
   refine bodyPost_ret (v:=.agg (fdl (.slice ao (refK n p i).length co) so).toArray) (results_fd rfl _ rfl ⟨setRow_heap _ _ _ _ _ _ H4w.out.at_⟩) rfl ⟨_,so,rfl,?_,HKw.out.setRow (by omega) _⟩
   rw [← refK_end,HM.out]
   exact RowsM.low (RowsM.apart HRo.out (fun j hj _ _=>setRow_other _ _ _ _ (by have:=HS0.out;omega)) (fun _ _ _ h=>h)) (by have:=HK0.out.size;omega)
theorem rpall_is (p:Ps) (hB:Brd p.B) (hr:pwI p=0) (n:Nat) (hn:n≤2) (w:World):Calls Tryz.prog 9 #[.agg (pl p).toArray,.int .i64 n] w (RefE w (refL n p)):=by
 match n,hn with
 | 0,_=>exact rall_zero p hB w
 | 1,_=>exact rall_succ 0 (by omega) (fun q hq _ w=>rall_zero q hq w) p hB hr w
 | 2,_=>exact rall_succ 1 (by omega) (fun q hq hr w=>rall_succ 0 (by omega) (fun q hq _ w=>rall_zero q hq w) q hq hr w) p hB hr w
end Go.Proofs.YtijkemnhehbchaaGreatDoor
