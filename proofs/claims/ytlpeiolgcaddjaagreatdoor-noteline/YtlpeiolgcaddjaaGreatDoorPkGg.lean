/- GeK · GeL: my texts, in their order. -/
import Derived.Test.YtlpeiolgcaddjaaGreatDoorPkGa
import Derived.Test.YtlpeiolgcaddjaaGreatDoorPkGe
import Derived.Test.YtlpeiolgcaddjaaGreatDoorPkGf
import Derived.Test.YtlpeiolgcaddjaaGreatDoorPkH
namespace Go.Proofs.YtlpeiolgcaddjaaGreatDoor
open Go.RowKit
set_option linter.unusedVariables false
set_option linter.unusedSimpArgs false
set_option maxRecDepth 100000
def hitL (D:List Int):List Value:=(List.range 64).map fun (n:Nat)=>.bool (D.contains (n:Int))
theorem hitL_len (D:List Int):(hitL D).length=64:=by simp [hitL]
theorem hitL_get (D:List Int) {n:Nat} (h:n<64):(hitL D)[n]?=some (.bool (D.contains (n:Int))):=by simp [hitL,h]
theorem hitL_set (D:List Int) {y:Nat} (h:y<64):(hitL D).set y (.bool true)=hitL (D++[(y:Int)]):=by
 refine List.ext_getElem? fun n=>?_
 by_cases hn:n<64
 ·rw [hitL_get _ hn,List.getElem?_set]
  by_cases e:y=n
  ·subst e
   rw [if_pos rfl,if_pos (by rw [hitL_len];exact h)];simp
  ·rw [if_neg e,hitL_get _ hn]
   have:((n:Int) == (y:Int))=false:=by rw [beq_eq_false_iff_ne];omega
   simp [List.contains_eq_mem];omega
 ·rw [List.getElem?_eq_none (by rw [List.length_set,hitL_len];omega),List.getElem?_eq_none (by rw [hitL_len];omega)]
theorem sizeHt (D:List Int):(Tryz.prog.info? 90).map (·.size)=some (hitL D).toArray.size:=by
 have:(Tryz.prog.info? 90).map (·.size)=some 64:=by kernel_rfl
 rw [this];simp [hitL_len]
theorem zeroHt:(Tryz.prog.info? 90).map (fun i=>(i.zero,i.size))=some (some (.agg (hitL []).toArray),64):=by kernel_rfl
theorem run_zero_ht (w:World):(zeroValue 90).run Tryz.prog w=.ok (.agg (hitL []).toArray) w:=(zero_of_info zeroHt).1 w
theorem ht_one (D:List Int):(hitL D).toArray.all (·.oneCell')=true:=by
 rw [Array.all_eq_true_iff_forall_mem];intro v hv;simp only [List.mem_toArray,hitL,List.mem_map] at hv;obtain ⟨n,_,rfl⟩:=hv;rfl
theorem wpList_new_ht {ops:Array Oper} {rest:List Oper} {o:Oper} {a:Act} {w:World} {Q:Exit→Act→World→Prop} (hgd:o.guard=none) (ho:o.op=.alloc 90)
  (h:wpList Tryz.prog ops Q rest (a.put o.dst (.pointer (some ⟨w.heap.size,0,none⟩))) (w.alloc (.cells (hitL []).toArray 90))):wpList Tryz.prog ops Q (o::rest) a w:=by
 refine wpList_plain hgd fun _ hK=>?_
 unfold Oper.wp execOp;simp only [ho,Instr.alloc,Sem.run_bind,run_zero_ht,Result.andThen_ok,newVar,newRow,Value.cells];exact hK _ _ h
theorem wpList_store_newht {ops:Array Oper} {rest:List Oper} {o:Oper} {a:Act} {w:World} {Q:Exit→Act→World→Prop} (hgd:o.guard=none) (x y:Operand) (ho:o.op=.store 90 x y)
  (D:List Int) (hx:a.eval x=.pointer (some ⟨w.heap.size,0,none⟩)) (hy:a.eval y=.agg (hitL D).toArray)
  (h:wpList Tryz.prog ops Q rest (a.put o.dst undef) (w.alloc (.cells (hitL D).toArray 90))):wpList Tryz.prog ops Q (o::rest) a (w.alloc (.cells (hitL []).toArray 90)):=by
 refine wpList_store_row hgd 90 x y ho w.heap.size (hitL D).toArray hx hy 90 _ (heap_alloc_new w _) (sizeHt D) (by simp [hitL_len]) (ht_one D) ?_;rw [World.setRow_alloc_new];exact h
theorem upto_all {B:List Int}:∀ {l:List Int},(∀ (j:Nat) (y:Int),l[j]?=some y→bAt B y=0)→uptoL B l=l
 | [],_=>rfl
 | x::l,h=>by
  unfold uptoL;rw [if_pos (h 0 x rfl),upto_all fun j y hy=>h (j+1) y (by simpa using hy)]
theorem upto_cut {B:List Int}:∀ {l:List Int} {k:Nat} {y:Int},(∀ j,j<k→∀ z,l[j]?=some z→bAt B z=0)→l[k]?=some y→bAt B y≠0→uptoL B l=l.take (k+1)
 | [],_,_,_,hy,_=>by simp at hy
 | x::l,0,y,_,hy,hn=>by
  have:x=y:=by simpa using hy
  subst this;unfold uptoL;rw [if_neg hn];rfl
 | x::l,k+1,y,h,hy,hn=>by
  unfold uptoL;rw [if_pos (h 0 (by omega) x rfl),upto_cut (l:=l) (k:=k) (y:=y) (fun j hj z hz=>h (j+1) (by omega) z (by simpa using hz)) (by simpa using hy) hn];rfl
theorem RowsZ.readB {e:TypeId} {w:World} {base:Nat} {v:Value} {L:List (List Int)} (h:RowsZ e w base v L) (hL:0<L.length) :
  ∃ go cap,v=.slice (some ⟨go,0,none⟩) L.length cap∧L.length≤cap∧cap≤maxLen∧base≤go∧∀ (i:Nat) (l:List Int),L[i]?=some l→∃ u g,w.cell? ⟨go,i,none⟩=some u∧LsZ w g u l∧(0<l.length→base≤g∧g<w.heap.size):=by
 obtain ⟨go,cap,e1,e2,e3,e4⟩:=h.read hL;refine ⟨go,cap,e1,e2,e3,?_,e4⟩;obtain ⟨vs,gs,h⟩:=h;rcases h.own.2 with ⟨ev,h0⟩|⟨go',cap',cur,ev,hb,_⟩
 ·have:=h.len;omega
 ·rw [e1] at ev
  injection ev with e _ _
  injection e with e
  injection e with e _ _
  omega
theorem take_snoc2 {l:List Int} {k:Nat} {y:Int} (h:l[k]?=some y):l.take (k+1)=l.take k++[y]:=by rw [List.take_add_one,h];rfl
theorem flat_snoc {B:List Int} {L:List (List Int)} {i:Nat} {l:List Int} (h:L[i]?=some l):(L.take (i+1)).flatMap (uptoL B)=(L.take i).flatMap (uptoL B)++uptoL B l:=by
 rw [List.take_add_one,h];simp
set_option maxHeartbeats 4000000 in
theorem struckR_is (B:List Int) (hB:Brd B) (s:Nat) (hs:s<64) (w:World) :
  Calls Tryz.prog 91 #[.agg (cl B).toArray,.int .i64 (s:Int)] w fun e w'=>e=.returned (.agg (hitL (Jv B (s:Int))).toArray)∧Kept w w':=by
 have hbl:=heap_alloc_new w (.cells (cl B).toArray 24);have K2:=((Kept.refl (w.alloc (.cells (cl B).toArray 24))).alloc (.cells (hitL []).toArray 90)).alloc (.cells (hitL []).toArray 90);have hc0:=Qa K2 (Yr hB hbl s hs);have HBl:=Qh (K2.heap hbl);have HK2:=Qh (((Kept.refl w).alloc (.cells (cl B).toArray 24)).trans K2);have hs1:(w.alloc (.cells (cl B).toArray 24)).heap.size=w.heap.size+1:=by simp
 have HR1:Hid (RAt (((w.alloc (.cells (cl B).toArray 24)).alloc (.cells (hitL []).toArray 90)).alloc (.cells (hitL []).toArray 90)) (w.heap.size+1) (hitL []) 90):=by
  have h:=heap_alloc2_old (w.alloc (.cells (cl B).toArray 24)) (.cells (hitL []).toArray 90) (.cells (hitL []).toArray 90);rw [hs1] at h;exact ⟨h⟩
 have HR2:Hid (RAt (((w.alloc (.cells (cl B).toArray 24)).alloc (.cells (hitL []).toArray 90)).alloc (.cells (hitL []).toArray 90)) (w.heap.size+2) (hitL []) 90):=by
  have h:=heap_alloc2_new (w.alloc (.cells (cl B).toArray 24)) (.cells (hitL []).toArray 90) (.cells (hitL []).toArray 90);rw [hs1] at h;exact ⟨h⟩
 clear hs1;obtain ⟨hb1,hb2⟩:=hB.2 s hs;have HB:=Qh hB;have hx:bAt B (s:Int)=B.getD s 0:=rfl;have HMem:=Qh (fun (l:List Int) (h:l ∈ ofL (bAt B (s:Int)) (s:Int)) (x:Int) (hx:x ∈ l)=>ofL_mem h hx);have HPos:=Qh (fun l (hl:l ∈ ofL (bAt B (s:Int)) (s:Int))=>(ofL_pos hl).1);have HV:Hid (Jv B (s:Int)=((ofL (B.getD s 0) (s:Int)).take (ofL (B.getD s 0) (s:Int)).length).flatMap (uptoL B)):=by show _=_;rw [List.take_length];rfl
 rw [hx] at HMem HPos;have hOf:=Qh (rof_is (B.getD s 0) (s:Int));generalize Jv B (s:Int)=SL at *;generalize ofL (B.getD s 0) (s:Int)=L at *;generalize B.getD s 0=x at *;clear hB hbl hx K2;have hsI:(s:Int)<64:=by omega
 go_enter Tryz.func91,Tryz.ntmps91;go_wp2_with (with_reducible refine wpList_new_ht rfl rfl ?_)
 refine (hOf.out _).mono ?_;rintro e W ⟨v,rfl,hR,hK⟩;have hsz:(((w.alloc (.cells (cl B).toArray 24)).alloc (.cells (hitL []).toArray 90)).alloc (.cells (hitL []).toArray 90)).heap.size=w.heap.size+3:=by simp
 rw [hsz] at hR;have HKW:=Qh (HK2.out.trans hK);have HBW:=Qh (hK.heap HBl.out);have HR1W:=Qh (HR1.out.kept hK);have HR2W:=Qh (HR2.out.kept hK);have HsW:Hid (w.heap.size+3≤W.heap.size):=by show _≤_;have:=hK.size;omega
 clear hK hsz hc0;by_cases hL:0<L.length
 ·obtain ⟨g7,c7,rfl,hn1,hn2,hg7,hrow⟩:=hR.readB hL
  unfold maxLen at hn2;have HRow:=Qh hrow;have Hg7:=Qh hg7;generalize hN:L.length=N at *;have HNN:=Qh hN;clear hR hrow hN hg7;go_wp2
  go_loopw [7] (fun t7 wr=>∃ i:Nat,i≤N∧t7=.int .i64 i∧RAt wr (w.heap.size+2) (hitL ((L.take i).flatMap (uptoL B))) 90∧KB W (w.heap.size+2) wr) (fun t7 _=>N-(intOf t7).toNat)
  case atStart=>exact ⟨0,by omega,rfl,HR2W.out,KB.refl _ _⟩
  case round =>
   obtain ⟨i,hi,rfl,hA,hKB⟩:=hrel;have HA:=Qh hA;have HKB:=Qh hKB;clear hA hKB;by_cases hlt:i<N
   ·have hlt':(i:Int)<(N:Int):=by omega
    obtain ⟨l,hl⟩:∃ l,L[i]?=some l:=⟨_,List.getElem?_eq_getElem (by have:=HNN.out;omega)⟩;obtain ⟨u,g,hcu,hls,hgb⟩:=HRow.out i l hl;have hpos:=HPos.out l (List.mem_of_getElem? hl);have HMl:=Qh (HMem.out l (List.mem_of_getElem? hl));obtain ⟨off,cu,rfl,hk1,hk2,hcell⟩:=hls.full hpos;have hgb':=hgb hpos;have HS:=Qh (flat_snoc (B:=B) hl);generalize (L.take i).flatMap (uptoL B)=D at *;have Hl:=Qh hl;have HCu:=Qh hcu;have HCell:=Qh hcell;have Hgb:=Qh hgb';have hbm:l.length≤9223372036854775807:=by unfold maxLen at hk2;omega
    generalize hM:l.length=M at *;have HMM:=Qh hM;clear hl hcu hls hgb hcell hgb' hk2 hM;go_wp2
    go_loopw [8] (fun t8 wr=>∃ k:Nat,k≤M∧t8=.int .i64 k∧(∀ j,j<k→∀ z,l[j]?=some z→bAt B z=0)∧RAt wr (w.heap.size+2) (hitL (D++l.take k)) 90∧KB W (w.heap.size+2) wr) (fun t8 _=>M-(intOf t8).toNat)
    case atStart=>exact ⟨0,by omega,rfl,fun j hj=>by omega,by rw [List.take_zero,List.append_nil];exact HA.out,HKB.out⟩
    case round =>
     obtain ⟨k,hk,rfl,hin,hA2,hKB2⟩:=hrel;have HIn:=Qh hin;have HA2:=Qh hA2;have HKB2:=Qh hKB2;have d0:=hKB2.cell (by have:=Hg7.out;show g7≠_;omega) HCu.out;clear hin hA2 hKB2;by_cases hkl:k<M
     ·have hkl':(k:Int)<(M:Int):=by omega
      obtain ⟨y,hy⟩:∃ y,l[k]?=some y:=⟨_,List.getElem?_eq_getElem (by have:=HMM.out;omega)⟩;obtain ⟨y0,y1⟩:=HMl.out y (List.mem_of_getElem? hy);obtain ⟨yn,rfl⟩:=Int.eq_ofNat_of_zero_le y0;have hyn:yn<64:=by omega
      have d1:=HKB2.out.cell (by have:=Hgb.out;show g≠_;omega) (HCell.out k _ hy);have c1:=HA2.out.cellK yn;rw [hitL_get _ hyn] at c1;have f1:=HA2.out.frozen yn;have HKB3:=Qh (HKB2.out.set yn (.bool true));have e0:=HKB3.out.cell (by have:=Hg7.out;show g7≠_;omega) HCu.out;have e1:=HKB3.out.cell (by have:=Hgb.out;show g≠_;omega) (HCell.out k _ hy);have e2:=HKB3.out.cell (a:=⟨w.heap.size,yn,none⟩) (by show w.heap.size≠_;omega) (Yr HB.out HBW.out yn hyn)
      have HA3:Hid (RAt (_:World) (w.heap.size+2) (hitL (D++l.take (k+1))) 90):=⟨by
       rw [heap_setCell_same _ _ yn _ _ _ HA2.out.at_,List.setIfInBounds_toArray,hitL_set _ hyn,take_snoc2 hy,List.append_assoc]⟩
      have HY:=Qh hy;have hbz:bAt B (yn:Int)=B.getD yn 0:=rfl;generalize (D++l.take k).contains (yn:Int)=cb at *;generalize B.getD yn 0=z at *;clear hy;by_cases h0:z=0
      ·have b1:(z != 0)=false:=by simpa using h0
       have HZ:=Qh (hbz.trans h0);clear h0 hbz;go_wp2;go_roundw
       case rel=>exact ⟨k+1,by omega,by go_num,fun j hj y hy'=>by
        by_cases hji:j<k
        ·exact HIn.out j hji y hy'
        ·obtain rfl:j=k:=by omega
         rw [HY.out] at hy';rw [← Option.some.inj hy'];exact HZ.out,HA3.out,HKB3.out⟩
       case measure=>simp [intOf];omega
      ·have b1:(z != 0)=true:=by simpa using h0
       have HU:=Qh (upto_cut HIn.out HY.out (by rw [hbz];exact h0));clear h0 hbz;go_wp2;go_roundw
       case rel=>exact ⟨i+1,by omega,by go_num,by rw [HS.out,HU.out];exact HA3.out,HKB3.out⟩
       case measure=>simp [intOf];omega
     ·have hkl':¬ (k:Int)<(M:Int):=by omega
      obtain rfl:k=M:=by omega
      have HU:Hid (uptoL B l=l.take k):=by
       show _=_;rw [List.take_of_length_le (by have:=HMM.out;omega)];exact upto_all fun j y hy=>HIn.out j (by have:=(List.getElem?_eq_some_iff.1 hy).1;have:=HMM.out;omega) y hy
      go_wp2;go_roundw
      case rel=>exact ⟨i+1,by omega,by go_num,by rw [HS.out,HU.out];exact HA2.out,HKB2.out⟩
      case measure=>simp [intOf];omega
   ·obtain rfl:i=N:=by omega
    have hlt':¬ (i:Int)<(i:Int):=by omega
    rw [← HV.out] at HA;have H1:=Qh (HR1W.out.kb HKB.out (by omega));go_wp2_with (first|(refine wpList_load_mid rfl 90 _ rfl (w.heap.size+2) 0 rfl (hitL SL) _ HA.out.range Tryz.underlying90 rfl (by rw [sizeHt SL];simp) ?_)|(refine wpList_store_row rfl 90 _ _ rfl (w.heap.size+1) (hitL SL).toArray rfl rfl 90 _ H1.out.at_ (sizeHt SL) (by simp [hitL_len]) (ht_one _) ?_))
    refine bodyPost_ret (v:=.agg (hitL SL).toArray) ?_ rfl ⟨rfl,?_⟩
    ·exact results_cell_row rfl _ _ (w.heap.size+1) 90 _ (0,0) _ rfl (setRow_heap _ _ _ _ _ _ H1.out.at_) Tryz.underlying90 rfl (sizeHt SL)
    ·exact (HKB.out.below HKW.out (by omega)).setRow (by omega) _
 ·have h0:L=[]:=List.eq_nil_of_length_eq_zero (by omega)
  subst h0;obtain ⟨a7,c7,rfl⟩:=hR.slice;have HV':Hid (SL=[]):=HV.out;rw [← HV'.out] at HR2W;clear hR HV;go_wp2
  go_loopw [7] (fun t7 wr=>t7=.int .i64 0∧wr=W) (fun _ _=>0)
  case atStart=>exact ⟨rfl,rfl⟩
  case round =>
   obtain ⟨rfl,rfl⟩:=hrel;go_wp2_with (first|(refine wpList_load_mid rfl 90 _ rfl (w.heap.size+2) 0 rfl (hitL SL) _ HR2W.out.range Tryz.underlying90 rfl (by rw [sizeHt SL];simp) ?_)|(refine wpList_store_row rfl 90 _ _ rfl (w.heap.size+1) (hitL SL).toArray rfl rfl 90 _ HR1W.out.at_ (sizeHt SL) (by simp [hitL_len]) (ht_one _) ?_))
   refine bodyPost_ret (v:=.agg (hitL SL).toArray) ?_ rfl ⟨rfl,?_⟩
   ·exact results_cell_row rfl _ _ (w.heap.size+1) 90 _ (0,0) _ rfl (setRow_heap _ _ _ _ _ _ HR1W.out.at_) Tryz.underlying90 rfl (sizeHt SL)
   ·exact HKW.out.setRow (by omega) _
theorem Fm.pf {p:Ps} {m:Mv} {f t:Nat} (h:Fm p m f t) (hk:kindI (p.B.getD f 0)=1):Pf p m f t:=⟨h.hf,h.ht,⟨h.brd,h.right,h.f1,h.own,hk⟩,h.t1⟩
theorem Fm.pb {p:Ps} {m:Mv} {f t:Nat} (h:Fm p m f t):pawnB p m=(kindI (p.B.getD f 0) == 1):=by unfold pawnB bAt;rw [h.hf,Int.toNat_natCast]
theorem goes_pawn {p:Ps} {m:Mv} (h:formB p m=true) (hp:pawnB p m=true):goesM p m=pgoB p m:=by unfold goesM;rw [h,hp];rfl
theorem goes_man {p:Ps} {m:Mv} (h:formB p m=true) (hp:pawnB p m=false):goesM p m=(hitB p.B m.f m.t || decide (castN p m<4)):=by unfold goesM;rw [h,hp];rfl
theorem goes_not {p:Ps} {m:Mv} (h:formB p m=false):goesM p m=false:=by unfold goesM;rw [h];rfl
end Go.Proofs.YtlpeiolgcaddjaaGreatDoor
