/- GeJ: my texts, in their order. -/
import Derived.Test.YtlpeiolgcaddjaaGreatDoorPkGa
import Derived.Test.YtlpeiolgcaddjaaGreatDoorPkP
namespace Go.Proofs.YtlpeiolgcaddjaaGreatDoor
open Go.RowKit
set_option linter.unusedVariables false
set_option linter.unusedSimpArgs false
set_option maxRecDepth 100000
theorem right_gt {p:Ps} {m:Mv}:decide (0<hR (castN p m))=decide (castN p m<4):=by
 have:=castN_le p m;generalize castN p m=k at *;have:k=0∨k=1∨k=2∨k=3∨k=4:=by omega
 rcases this with rfl|rfl|rfl|rfl|rfl <;> decide
theorem ofL_one {m s:Int} (hn:Ya m=false) {l:List Int} (h:l ∈ ofL m s):l.length≤1:=by
 unfold ofL ofN at h;obtain ⟨w,_,hw⟩:=List.mem_flatMap.1 h;unfold oneL at hw;split at hw
 ·cases hw
 ·simp at hw
  subst hw;unfold cutL;rw [hn];simp only [Bool.false_eq_true,if_false,List.length_take];omega
theorem hit_first {B:List Int} {s to:Int} {i:Nat} {l:List Int} (hl:(ofL (bAt B s) s)[i]?=some l) (hk:l[0]?=some to):hitB B s to=true :=
 hit_found hl hk fun j hj=>by omega
theorem Qag {B:List Int} {s to:Int} (hn:Ya (bAt B s)=false) (h:∀ (i:Nat) (l:List Int),(ofL (bAt B s) s)[i]?=some l→l[0]?≠some to):hitB B s to=false :=
 hit_none fun i l hl=>upto_end fun j hj=>by
  have:=ofL_one hn (List.mem_of_getElem? hl);obtain rfl:j=0:=by omega
  exact h i l hl
theorem wr64 {x:Int} (h0:-1000≤x) (h1:x≤1000):IntKind.i64.wrap x=x:=IntWalk.i64_in _ (by omega)
structure Pf (p:Ps) (m:Mv) (f t:Nat):Prop where
 hf:m.f=f
 ht:m.t=t
 pw:Pw p f
 t1:t<64
theorem Pf.on {p:Ps} {m:Mv} {f t:Nat} (h:Pf p m f t):On m:=by
 have:=h.pw.s1;have:=h.t1;have:=h.hf;have:=h.ht;exact ⟨by omega,by omega,by omega,by omega⟩
theorem Qap {p:Ps} {m:Mv} {f t:Nat} (h:Pf p m f t) (U S:Int) (hU:upI p.t=U) (hS:secI p.t=S):pgoB p m =
  (((p.B.getD t 0 == 0) && ((t:Int) == (f:Int)+U)) || (((p.B.getD t 0 == 0) && ((t:Int) == (f:Int)+2*U) && ((f:Int) / 8 == S) && (bAt p.B ((f:Int)+U) == 0)) || (hitB p.B (f:Int) (t:Int) && decide (0≤takeI p m)))):=by
 have e:bAt p.B m.t=p.B.getD t 0:=by unfold bAt;rw [h.ht,Int.toNat_natCast]
 unfold pgoB takeB;rw [e,h.hf,h.ht,hU,hS]
set_option maxHeartbeats 4000000 in
theorem rpgo_w1 (p:Ps) (m:Mv) (f t:Nat) (h:Pf p m f t) (hp:p.t=0) (h0:p.B.getD t 0=0) (hq:((t:Int) == (f:Int)+(8))=true) (w:World) :
  Calls Tryz.prog 81 #[.agg (pl p).toArray,.agg (ml m).toArray] w fun e w'=>e=.returned (.bool (pgoB p m))∧Kept w w':=by
 have hB:=h.pw.brd;have HP:Hid (PAt _ _ p):=⟨hB.1,heap_alloc2_old w (.cells (pl p).toArray 26) (.cells (ml m).toArray 28)⟩;have HM:Hid (MAt _ _ m):=⟨heap_alloc2_new w (.cells (pl p).toArray 26) (.cells (ml m).toArray 28)⟩;have HK0:=Qh (((Kept.refl w).alloc (.cells (pl p).toArray 26)).alloc (.cells (ml m).toArray 28));have hcf:=HM.out.f;have hct:=HM.out.t;rw [h.hf] at hcf;rw [h.ht] at hct;have htn:=HP.out.turn;rw [hp] at htn;have hsq:=HP.out.sq t h.t1;have hrk:=h.pw.rank;have ht1:=h.t1;have HV:=Qh (Qap h (8) 1 (by rw [hp];rfl) (by rw [hp];rfl));have htI:(t:Int)<64:=by omega
 have hw1:IntKind.i64.wrap ((f:Int)+(8))=(f:Int)+(8):=wr64 (by omega) (by omega);have hw2:IntKind.i64.wrap ((f:Int)+(16))=(f:Int)+2*(8):=by rw [wr64 (by omega) (by omega)];omega
 have HR:Hid (pgoB p m=true):=by show _=_;rw [HV.out,h0,hq];simp
 rw [h0] at hsq;clear HV;go_enter Tryz.func81,Tryz.ntmps81;go_wp2;go_ret;exact ⟨by rw [HR.out];rfl,HK0.out⟩
set_option maxHeartbeats 4000000 in
theorem rpgo_w2 (p:Ps) (m:Mv) (f t:Nat) (h:Pf p m f t) (hp:p.t=0) (h0:p.B.getD t 0=0) (hq:((t:Int) == (f:Int)+(8))=false) (hq2:((t:Int) == (f:Int)+(16))=true) (hs:((f:Int) / 8 == 1)=true) (w:World) :
  Calls Tryz.prog 81 #[.agg (pl p).toArray,.agg (ml m).toArray] w fun e w'=>e=.returned (.bool (pgoB p m))∧Kept w w':=by
 have hB:=h.pw.brd;have HP:Hid (PAt _ _ p):=⟨hB.1,heap_alloc2_old w (.cells (pl p).toArray 26) (.cells (ml m).toArray 28)⟩;have HM:Hid (MAt _ _ m):=⟨heap_alloc2_new w (.cells (pl p).toArray 26) (.cells (ml m).toArray 28)⟩;have HK0:=Qh (((Kept.refl w).alloc (.cells (pl p).toArray 26)).alloc (.cells (ml m).toArray 28));have hcf:=HM.out.f;have hct:=HM.out.t;rw [h.hf] at hcf;rw [h.ht] at hct;have htn:=HP.out.turn;rw [hp] at htn;have hsq:=HP.out.sq t h.t1;have hrk:=h.pw.rank;have ht1:=h.t1;have HV:=Qh (Qap h (8) 1 (by rw [hp];rfl) (by rw [hp];rfl));have htI:(t:Int)<64:=by omega
 have hw1:IntKind.i64.wrap ((f:Int)+(8))=(f:Int)+(8):=wr64 (by omega) (by omega);have hw2:IntKind.i64.wrap ((f:Int)+(16))=(f:Int)+2*(8):=by rw [wr64 (by omega) (by omega)];omega
 have hsf:=HP.out.sq f h.pw.s1;have HTk:=Qh (fun w=>Jc p hB m h.on w);have hns:Ya (bAt p.B (f:Int))=false:=by unfold Ya;rw [Qak,show bAt p.B (f:Int)=p.B.getD f 0 from rfl,h.pw.kind];rfl
 have HF:=Qh (fun (i:Nat) (l:List Int)=>hit_first (B:=p.B) (s:=(f:Int)) (to:=(t:Int)) (i:=i) (l:=l));have HN:=Qh (Qag (to:=(t:Int)) hns);have HPos:=Qh (fun l (hl:l ∈ ofL (bAt p.B (f:Int)) (f:Int))=>(ofL_pos hl).1);have hbd:=hB.2 f h.pw.s1;have hwx:=Qaa hB h.pw.s1;have hx:bAt p.B (f:Int)=p.B.getD f 0:=rfl;rw [hx] at HF HN HPos;have HOf:=Qh (rof_is (p.B.getD f 0) (f:Int));have hx0:=hsf;have hfI:(f:Int)<64:=by have:=h.pw.s1;omega
 generalize hitB p.B (f:Int) (t:Int)=hb at *;generalize takeI p m=tk at *;generalize ofL (p.B.getD f 0) (f:Int)=L at *;generalize p.B.getD f 0=x0 at *;have hk:∃ k:Nat,(f:Int)+(8)=(k:Int)∧k<64:=⟨((f:Int)+(8)).toNat,by omega,by omega⟩;obtain ⟨k,ek,k64⟩:=hk;have hsk:=HP.out.sq k k64;have hsk2:((w.alloc (.cells (pl p).toArray 26)).alloc (.cells (ml m).toArray 28)).cell? ⟨w.heap.size,f+8,none⟩=some (.int .i8 (p.B.getD k 0)):=by rw [show f+8=k by omega];exact hsk
 have hsk3:((w.alloc (.cells (pl p).toArray 26)).alloc (.cells (ml m).toArray 28)).cell? ⟨w.heap.size,((f:Int)+8).toNat,none⟩=some (.int .i8 (p.B.getD k 0)):=by rw [show ((f:Int)+8).toNat=k by omega];exact hsk
 have hsk4:((w.alloc (.cells (pl p).toArray 26)).alloc (.cells (ml m).toArray 28)).cell? ⟨w.heap.size,f+8,none⟩=some (.int .i8 (p.B.getD k 0)):=by rw [show f+8=k by omega];exact hsk
 have ebk:bAt p.B ((f:Int)+(8))=p.B.getD k 0:=by rw [ek];rfl
 rw [h0] at hsq;have hq2':((t:Int) == (f:Int)+2*(8))=true:=hq2;rw [ebk,h0,hq,hq2',hs] at HV;clear hq2';have hkI:(k:Int)<64:=by omega
 have HRk:=Qh (fun w=>Yo (f:Int) w (by omega) hfI);generalize p.B.getD k 0=y at *;generalize (f:Int) / 8=rk at *
 cases hy:(y == 0)
 ·rw [hy] at HV
  have HV':Hid (pgoB p m=(hb && decide (0≤tk))):=by show _=_;rw [HV.out];simp
  clear HV;have HV:=HV';clear HV' h0 ebk ek;go_enter Tryz.func81,Tryz.ntmps81;go_wp2_with fail
  refine (HRk.out _).mono ?_;rintro e w9 ⟨rfl,rfl⟩;go_wp2;clear hq hq2;have HPr:=Qh HP.out;have HMr:=Qh HM.out;refine wp_region_held_drew (S:=Kept _) (by kernel_rfl) (Kept.refl _).drew (fun Qj=>?_);refine rT 0 60 (.pointer (some ⟨w.heap.size+1,0,none⟩)) rfl rfl Qj ?_;simp only [pA,pN,sZ,sU];refine rC 1 61 (.int .i64 (f:Int)) rfl rfl (fun _ h=>Qa h (hcf)) Qj ?_;simp only [pA,pN,sZ,sU];refine rT 2 62 (.pointer (some ⟨w.heap.size,0,none⟩)) rfl rfl Qj ?_;simp only [pA,pN,sZ,sU];refine rT 3 63 (.pointer (some ⟨w.heap.size,f,none⟩)) rfl rfl Qj ?_;simp only [pA,pN,sZ,sU];refine rC 4 64 (.int .i8 x0) rfl rfl (fun _ h=>Qa h (hx0)) Qj ?_;simp only [pA,pN,sZ,sU];refine rT 5 65 (.int .i64 x0) rfl rfl Qj ?_;simp only [pA,pN,sZ,sU];refine rT 6 66 (.pointer (some ⟨w.heap.size+1,0,none⟩)) rfl rfl Qj ?_;simp only [pA,pN,sZ,sU];refine rC 7 67 (.int .i64 (f:Int)) rfl rfl (fun _ h=>Qa h (hcf)) Qj ?_;simp only [pA,pN,sZ,sU];refine rR 8 rfl (fun K hK=>?_);go_simp;refine (HOf.out _).mono ?_;rintro e W ⟨v,rfl,hR,kW⟩;refine hK.out _ _ (Qj.trans kW) (fun _=>?_);replace Qj:=Qj.trans kW;clear hK K;refine rT 9 7 v rfl rfl Qj ?_;simp only [pA,pN,sZ,sU];refine wpAnyH_done (by kernel_rfl) ?_ _;have HKW:=Qh Qj;have HPW:=Qh (HP.out.kept Qj);have HMW:=Qh (MAt.kept HM.out Qj);have hctW:=Qa Qj hct;clear Qj kW hcf hx0 hct hsq htn HPr HMr;by_cases hL:0<L.length
  ·obtain ⟨g7,c7,rfl,hn1,hn2,hrow⟩:=hR.read hL
   unfold maxLen at hn2;have HRow:=Qh hrow;generalize hN:L.length=N at *;have HNN:=Qh hN;clear hR hrow hN;go_wp2
   go_loopw [8] (fun t8 wr=>∃ i:Nat,i≤N∧t8=.int .i64 i∧(∀ j l,j<i→L[j]?=some l→l[0]?≠some (t:Int))∧Kept W wr) (fun t8 _=>N-(intOf t8).toNat)
   case atStart=>exact ⟨0,by omega,rfl,fun j l hj=>by omega,Kept.refl _⟩
   case round =>
    obtain ⟨i,hi,rfl,hno,hK⟩:=hrel;have HNo:=Qh hno;have HK:=Qh hK;have hctR:=Qa hK hctW;clear hno;by_cases hlt:i<N
    ·have hlt':(i:Int)<(N:Int):=by omega
     obtain ⟨l,hl⟩:∃ l,L[i]?=some l:=⟨_,List.getElem?_eq_getElem (by have:=HNN.out;omega)⟩;obtain ⟨u,g,hcu,hls,_⟩:=HRow.out i l hl;have hpos:=HPos.out l (List.mem_of_getElem? hl);obtain ⟨y,hy⟩:∃ y,l[0]?=some y:=⟨_,List.getElem?_eq_getElem hpos⟩;obtain ⟨off,cu,rfl,hk1,hk2,hcell⟩:=hls.full hpos;have Hl:=Qh hl;have d1:=Qa hK (hcell 0 y hy);have d0:=Qa hK hcu;rw [Nat.add_zero] at d1;have HY:=Qh hy;have hbm:l.length≤9223372036854775807:=by unfold maxLen at hk2;omega
     have HMr:=Qh (MAt.kept HMW.out hK);have HPr:=Qh (HPW.out.kept hK);clear hl hy hcell hk1 hk2 hcu hls hK;generalize hM:l.length=M at *;clear hM;have hposI:(0:Int)<(M:Int):=by omega
     by_cases hto:y=(t:Int)
     ·have b0:(y == (t:Int))=true:=by simpa using hto
      have HE:=Qh (HF.out i l Hl.out (by rw [HY.out,hto]));clear hto;go_wp2;refine wp_region_held_drew (S:=Kept _) (by kernel_rfl) (Kept.refl _).drew (fun Qj=>?_);refine rT 0 75 (.slice (some ⟨g7,0,none⟩) N c7) rfl rfl Qj ?_;simp only [pA,pN,sZ,sU];refine rT 1 76 (.int .i64 (i:Int)) rfl rfl Qj ?_;simp only [pA,pN,sZ,sU];refine rT 2 77 (.pointer (some ⟨g7,i,none⟩)) rfl rfl Qj ?_;simp only [pA,pN,sZ,sU];refine rC 3 78 (.slice (some ⟨g,off,none⟩) M cu) rfl rfl (fun _ h=>Qa h (d0)) Qj ?_;simp only [pA,pN,sZ,sU];refine rT 4 79 (.pointer (some ⟨g,off,none⟩)) rfl rfl Qj ?_;simp only [pA,pN,sZ,sU];refine rC 5 80 (.int .i64 y) rfl rfl (fun _ h=>Qa h (d1)) Qj ?_;simp only [pA,pN,sZ,sU];refine rT 6 81 (.pointer (some ⟨w.heap.size+1,1,none⟩)) rfl rfl Qj ?_;simp only [pA,pN,sZ,sU];refine rC 7 82 (.int .i64 (t:Int)) rfl rfl (fun _ h=>Qa h (hctR)) Qj ?_;simp only [pA,pN,sZ,sU];refine rT 8 83 (.bool true) rfl rfl Qj ?_;simp only [pA,pN,sZ,sU];refine wpAnyH_done (by kernel_rfl) ?_ _;have HK2:=Qh (HK.out.trans Qj);have HM2:=Qh (MAt.kept HMr.out Qj);have HP2:=Qh (HPr.out.kept Qj);clear Qj;go_wp2_with (first|(refine Qc (by rfl) _ rfl _ rfl _ (HP2.out) ?_)|(refine Qd (by rfl) _ rfl _ rfl _ (HP2.out) ?_)|(refine Qe (by rfl) _ rfl _ rfl _ (HM2.out) ?_))
      refine (HTk.out _).mono ?_;rintro e w3 ⟨rfl,k3⟩;have HK3:=Qh (HK2.out.trans k3);clear k3;go_wp2;go_ret;exact ⟨by rw [HV.out,HE.out,Bool.true_and];rfl,(HK0.out.trans HKW.out).trans HK3.out⟩
     ·have b0:(y == (t:Int))=false:=by simpa using hto
      have HTo:=Qh hto;clear hto;go_wp2;refine wp_region_held_drew (S:=Kept _) (by kernel_rfl) (Kept.refl _).drew (fun Qj=>?_);refine rT 0 75 (.slice (some ⟨g7,0,none⟩) N c7) rfl rfl Qj ?_;simp only [Act.put,sA,sZ,sU];refine rT 1 76 (.int .i64 (i:Int)) rfl rfl Qj ?_;simp only [pA,pN,sZ,sU];refine rT 2 77 (.pointer (some ⟨g7,i,none⟩)) rfl rfl Qj ?_;simp only [pA,pN,sZ,sU];refine rC 3 78 (.slice (some ⟨g,off,none⟩) M cu) rfl rfl (fun _ h=>Qa h (d0)) Qj ?_;simp only [pA,pN,sZ,sU];refine rT 4 79 (.pointer (some ⟨g,off,none⟩)) rfl rfl Qj ?_;simp only [pA,pN,sZ,sU];refine rC 5 80 (.int .i64 y) rfl rfl (fun _ h=>Qa h (d1)) Qj ?_;simp only [pA,pN,sZ,sU];refine rT 6 81 (.pointer (some ⟨w.heap.size+1,1,none⟩)) rfl rfl Qj ?_;simp only [pA,pN,sZ,sU];refine rC 7 82 (.int .i64 (t:Int)) rfl rfl (fun _ h=>Qa h (hctR)) Qj ?_;simp only [pA,pN,sZ,sU];refine rT 8 83 (.bool false) rfl rfl Qj ?_;simp only [pA,pN,sZ,sU];refine wpAnyH_done (by kernel_rfl) ?_ _;have HK2:=Qh (HK.out.trans Qj);clear Qj;go_wp2;go_roundw
      case rel=>exact ⟨i+1,by omega,by go_num,fun j l' hj hl'=>by
       by_cases hji:j<i
       ·exact HNo.out j l' hji hl'
       ·obtain rfl:j=i:=by omega
        rw [Hl.out] at hl';rw [← Option.some.inj hl',HY.out];exact fun e=>HTo.out (Option.some.inj e),HK2.out⟩
      case measure=>simp [intOf];omega
    ·have hlt':¬ (i:Int)<(N:Int):=by omega
     have HE:=Qh (HN.out (fun j l hl=>HNo.out j l (by have:=(List.getElem?_eq_some_iff.1 hl).1;have:=HNN.out;omega) hl));clear hK;go_wp2;go_ret;exact ⟨by rw [HV.out,HE.out,Bool.false_and];rfl,(HK0.out.trans HKW.out).trans HK.out⟩
  ·have h0:L=[]:=List.eq_nil_of_length_eq_zero (by omega)
   have HE:=Qh (HN.out (fun j l hl=>by rw [h0] at hl;simp at hl));subst h0;obtain ⟨a7,c7,rfl⟩:=hR.slice;clear hR;go_wp2
   go_loopw [8] (fun t8 wr=>t8=.int .i64 0∧wr=W) (fun _ _=>0)
   case atStart=>exact ⟨rfl,rfl⟩
   case round =>
    obtain ⟨rfl,rfl⟩:=hrel;go_wp2;go_ret;exact ⟨by rw [HV.out,HE.out,Bool.false_and];rfl,HK0.out.trans HKW.out⟩
 ·rw [hy] at HV
  have HR:Hid (pgoB p m=true):=by show _=_;rw [HV.out];simp
  clear HV h0 ebk ek;go_enter Tryz.func81,Tryz.ntmps81;go_wp2_with fail
  refine (HRk.out _).mono ?_;rintro e w9 ⟨rfl,rfl⟩;go_wp2;go_ret;exact ⟨by rw [HR.out];rfl,HK0.out⟩
set_option maxHeartbeats 4000000 in
theorem rpgo_w3 (p:Ps) (m:Mv) (f t:Nat) (h:Pf p m f t) (hp:p.t=0) (h0:p.B.getD t 0=0) (hq:((t:Int) == (f:Int)+(8))=false) (hq2:((t:Int) == (f:Int)+(16))=true) (hs:((f:Int) / 8 == 1)=false) (w:World) :
  Calls Tryz.prog 81 #[.agg (pl p).toArray,.agg (ml m).toArray] w fun e w'=>e=.returned (.bool (pgoB p m))∧Kept w w':=by
 have hB:=h.pw.brd;have HP:Hid (PAt _ _ p):=⟨hB.1,heap_alloc2_old w (.cells (pl p).toArray 26) (.cells (ml m).toArray 28)⟩;have HM:Hid (MAt _ _ m):=⟨heap_alloc2_new w (.cells (pl p).toArray 26) (.cells (ml m).toArray 28)⟩;have HK0:=Qh (((Kept.refl w).alloc (.cells (pl p).toArray 26)).alloc (.cells (ml m).toArray 28));have hcf:=HM.out.f;have hct:=HM.out.t;rw [h.hf] at hcf;rw [h.ht] at hct;have htn:=HP.out.turn;rw [hp] at htn;have hsq:=HP.out.sq t h.t1;have hrk:=h.pw.rank;have ht1:=h.t1;have HV:=Qh (Qap h (8) 1 (by rw [hp];rfl) (by rw [hp];rfl));have htI:(t:Int)<64:=by omega
 have hw1:IntKind.i64.wrap ((f:Int)+(8))=(f:Int)+(8):=wr64 (by omega) (by omega);have hw2:IntKind.i64.wrap ((f:Int)+(16))=(f:Int)+2*(8):=by rw [wr64 (by omega) (by omega)];omega
 have hsf:=HP.out.sq f h.pw.s1;have HTk:=Qh (fun w=>Jc p hB m h.on w);have hns:Ya (bAt p.B (f:Int))=false:=by unfold Ya;rw [Qak,show bAt p.B (f:Int)=p.B.getD f 0 from rfl,h.pw.kind];rfl
 have HF:=Qh (fun (i:Nat) (l:List Int)=>hit_first (B:=p.B) (s:=(f:Int)) (to:=(t:Int)) (i:=i) (l:=l));have HN:=Qh (Qag (to:=(t:Int)) hns);have HPos:=Qh (fun l (hl:l ∈ ofL (bAt p.B (f:Int)) (f:Int))=>(ofL_pos hl).1);have hbd:=hB.2 f h.pw.s1;have hwx:=Qaa hB h.pw.s1;have hx:bAt p.B (f:Int)=p.B.getD f 0:=rfl;rw [hx] at HF HN HPos;have HOf:=Qh (rof_is (p.B.getD f 0) (f:Int));have hx0:=hsf;have hfI:(f:Int)<64:=by have:=h.pw.s1;omega
 generalize hitB p.B (f:Int) (t:Int)=hb at *;generalize takeI p m=tk at *;generalize ofL (p.B.getD f 0) (f:Int)=L at *;generalize p.B.getD f 0=x0 at *;rw [h0] at hsq;have HV':Hid (pgoB p m=(hb && decide (0≤tk))):=by show _=_;have hq2':((t:Int) == (f:Int)+2*(8))=true:=hq2;rw [HV.out,h0,hq,hq2',hs];simp
 clear HV;have HV:=HV';have HRk:=Qh (fun w=>Yo (f:Int) w (by omega) hfI);generalize (f:Int) / 8=rk at *;clear HV' h0;go_enter Tryz.func81,Tryz.ntmps81;go_wp2_with fail
 refine (HRk.out _).mono ?_;rintro e w9 ⟨rfl,rfl⟩;go_wp2;clear hq hq2;have HPr:=Qh HP.out;have HMr:=Qh HM.out;refine wp_region_held_drew (S:=Kept _) (by kernel_rfl) (Kept.refl _).drew (fun Qj=>?_);refine rT 0 60 (.pointer (some ⟨w.heap.size+1,0,none⟩)) rfl rfl Qj ?_;simp only [pA,pN,sZ,sU];refine rC 1 61 (.int .i64 (f:Int)) rfl rfl (fun _ h=>Qa h (hcf)) Qj ?_;simp only [pA,pN,sZ,sU];refine rT 2 62 (.pointer (some ⟨w.heap.size,0,none⟩)) rfl rfl Qj ?_;simp only [pA,pN,sZ,sU];refine rT 3 63 (.pointer (some ⟨w.heap.size,f,none⟩)) rfl rfl Qj ?_;simp only [pA,pN,sZ,sU];refine rC 4 64 (.int .i8 x0) rfl rfl (fun _ h=>Qa h (hx0)) Qj ?_;simp only [pA,pN,sZ,sU];refine rT 5 65 (.int .i64 x0) rfl rfl Qj ?_;simp only [pA,pN,sZ,sU];refine rT 6 66 (.pointer (some ⟨w.heap.size+1,0,none⟩)) rfl rfl Qj ?_;simp only [pA,pN,sZ,sU];refine rC 7 67 (.int .i64 (f:Int)) rfl rfl (fun _ h=>Qa h (hcf)) Qj ?_;simp only [pA,pN,sZ,sU];refine rR 8 rfl (fun K hK=>?_);go_simp;refine (HOf.out _).mono ?_;rintro e W ⟨v,rfl,hR,kW⟩;refine hK.out _ _ (Qj.trans kW) (fun _=>?_);replace Qj:=Qj.trans kW;clear hK K;refine rT 9 7 v rfl rfl Qj ?_;simp only [pA,pN,sZ,sU];refine wpAnyH_done (by kernel_rfl) ?_ _;have HKW:=Qh Qj;have HPW:=Qh (HP.out.kept Qj);have HMW:=Qh (MAt.kept HM.out Qj);have hctW:=Qa Qj hct;clear Qj kW hcf hx0 hct hsq htn HPr HMr;by_cases hL:0<L.length
 ·obtain ⟨g7,c7,rfl,hn1,hn2,hrow⟩:=hR.read hL
  unfold maxLen at hn2;have HRow:=Qh hrow;generalize hN:L.length=N at *;have HNN:=Qh hN;clear hR hrow hN;go_wp2
  go_loopw [8] (fun t8 wr=>∃ i:Nat,i≤N∧t8=.int .i64 i∧(∀ j l,j<i→L[j]?=some l→l[0]?≠some (t:Int))∧Kept W wr) (fun t8 _=>N-(intOf t8).toNat)
  case atStart=>exact ⟨0,by omega,rfl,fun j l hj=>by omega,Kept.refl _⟩
  case round =>
   obtain ⟨i,hi,rfl,hno,hK⟩:=hrel;have HNo:=Qh hno;have HK:=Qh hK;have hctR:=Qa hK hctW;clear hno;by_cases hlt:i<N
   ·have hlt':(i:Int)<(N:Int):=by omega
    obtain ⟨l,hl⟩:∃ l,L[i]?=some l:=⟨_,List.getElem?_eq_getElem (by have:=HNN.out;omega)⟩;obtain ⟨u,g,hcu,hls,_⟩:=HRow.out i l hl;have hpos:=HPos.out l (List.mem_of_getElem? hl);obtain ⟨y,hy⟩:∃ y,l[0]?=some y:=⟨_,List.getElem?_eq_getElem hpos⟩;obtain ⟨off,cu,rfl,hk1,hk2,hcell⟩:=hls.full hpos;have Hl:=Qh hl;have d1:=Qa hK (hcell 0 y hy);have d0:=Qa hK hcu;rw [Nat.add_zero] at d1;have HY:=Qh hy;have hbm:l.length≤9223372036854775807:=by unfold maxLen at hk2;omega
    have HMr:=Qh (MAt.kept HMW.out hK);have HPr:=Qh (HPW.out.kept hK);clear hl hy hcell hk1 hk2 hcu hls hK;generalize hM:l.length=M at *;clear hM;have hposI:(0:Int)<(M:Int):=by omega
    by_cases hto:y=(t:Int)
    ·have b0:(y == (t:Int))=true:=by simpa using hto
     have HE:=Qh (HF.out i l Hl.out (by rw [HY.out,hto]));clear hto;go_wp2;refine wp_region_held_drew (S:=Kept _) (by kernel_rfl) (Kept.refl _).drew (fun Qj=>?_);refine rT 0 75 (.slice (some ⟨g7,0,none⟩) N c7) rfl rfl Qj ?_;simp only [pA,pN,sZ,sU];refine rT 1 76 (.int .i64 (i:Int)) rfl rfl Qj ?_;simp only [pA,pN,sZ,sU];refine rT 2 77 (.pointer (some ⟨g7,i,none⟩)) rfl rfl Qj ?_;simp only [pA,pN,sZ,sU];refine rC 3 78 (.slice (some ⟨g,off,none⟩) M cu) rfl rfl (fun _ h=>Qa h (d0)) Qj ?_;simp only [pA,pN,sZ,sU];refine rT 4 79 (.pointer (some ⟨g,off,none⟩)) rfl rfl Qj ?_;simp only [pA,pN,sZ,sU];refine rC 5 80 (.int .i64 y) rfl rfl (fun _ h=>Qa h (d1)) Qj ?_;simp only [pA,pN,sZ,sU];refine rT 6 81 (.pointer (some ⟨w.heap.size+1,1,none⟩)) rfl rfl Qj ?_;simp only [pA,pN,sZ,sU];refine rC 7 82 (.int .i64 (t:Int)) rfl rfl (fun _ h=>Qa h (hctR)) Qj ?_;simp only [pA,pN,sZ,sU];refine rT 8 83 (.bool true) rfl rfl Qj ?_;simp only [pA,pN,sZ,sU];refine wpAnyH_done (by kernel_rfl) ?_ _;have HK2:=Qh (HK.out.trans Qj);have HM2:=Qh (MAt.kept HMr.out Qj);have HP2:=Qh (HPr.out.kept Qj);clear Qj;go_wp2_with (first|(refine Qc (by rfl) _ rfl _ rfl _ (HP2.out) ?_)|(refine Qd (by rfl) _ rfl _ rfl _ (HP2.out) ?_)|(refine Qe (by rfl) _ rfl _ rfl _ (HM2.out) ?_))
     refine (HTk.out _).mono ?_;rintro e w3 ⟨rfl,k3⟩;have HK3:=Qh (HK2.out.trans k3);clear k3;go_wp2;go_ret;exact ⟨by rw [HV.out,HE.out,Bool.true_and];rfl,(HK0.out.trans HKW.out).trans HK3.out⟩
    ·have b0:(y == (t:Int))=false:=by simpa using hto
     have HTo:=Qh hto;clear hto;go_wp2;refine wp_region_held_drew (S:=Kept _) (by kernel_rfl) (Kept.refl _).drew (fun Qj=>?_);refine rT 0 75 (.slice (some ⟨g7,0,none⟩) N c7) rfl rfl Qj ?_;simp only [Act.put,sA,sZ,sU];refine rT 1 76 (.int .i64 (i:Int)) rfl rfl Qj ?_;simp only [pA,pN,sZ,sU];refine rT 2 77 (.pointer (some ⟨g7,i,none⟩)) rfl rfl Qj ?_;simp only [pA,pN,sZ,sU];refine rC 3 78 (.slice (some ⟨g,off,none⟩) M cu) rfl rfl (fun _ h=>Qa h (d0)) Qj ?_;simp only [pA,pN,sZ,sU];refine rT 4 79 (.pointer (some ⟨g,off,none⟩)) rfl rfl Qj ?_;simp only [pA,pN,sZ,sU];refine rC 5 80 (.int .i64 y) rfl rfl (fun _ h=>Qa h (d1)) Qj ?_;simp only [pA,pN,sZ,sU];refine rT 6 81 (.pointer (some ⟨w.heap.size+1,1,none⟩)) rfl rfl Qj ?_;simp only [pA,pN,sZ,sU];refine rC 7 82 (.int .i64 (t:Int)) rfl rfl (fun _ h=>Qa h (hctR)) Qj ?_;simp only [pA,pN,sZ,sU];refine rT 8 83 (.bool false) rfl rfl Qj ?_;simp only [pA,pN,sZ,sU];refine wpAnyH_done (by kernel_rfl) ?_ _;have HK2:=Qh (HK.out.trans Qj);clear Qj;go_wp2;go_roundw
     case rel=>exact ⟨i+1,by omega,by go_num,fun j l' hj hl'=>by
      by_cases hji:j<i
      ·exact HNo.out j l' hji hl'
      ·obtain rfl:j=i:=by omega
       rw [Hl.out] at hl';rw [← Option.some.inj hl',HY.out];exact fun e=>HTo.out (Option.some.inj e),HK2.out⟩
     case measure=>simp [intOf];omega
   ·have hlt':¬ (i:Int)<(N:Int):=by omega
    have HE:=Qh (HN.out (fun j l hl=>HNo.out j l (by have:=(List.getElem?_eq_some_iff.1 hl).1;have:=HNN.out;omega) hl));clear hK;go_wp2;go_ret;exact ⟨by rw [HV.out,HE.out,Bool.false_and];rfl,(HK0.out.trans HKW.out).trans HK.out⟩
 ·have h0:L=[]:=List.eq_nil_of_length_eq_zero (by omega)
  have HE:=Qh (HN.out (fun j l hl=>by rw [h0] at hl;simp at hl));subst h0;obtain ⟨a7,c7,rfl⟩:=hR.slice;clear hR;go_wp2
  go_loopw [8] (fun t8 wr=>t8=.int .i64 0∧wr=W) (fun _ _=>0)
  case atStart=>exact ⟨rfl,rfl⟩
  case round =>
   obtain ⟨rfl,rfl⟩:=hrel;go_wp2;go_ret;exact ⟨by rw [HV.out,HE.out,Bool.false_and];rfl,HK0.out.trans HKW.out⟩
set_option maxHeartbeats 4000000 in
theorem rpgo_w4 (p:Ps) (m:Mv) (f t:Nat) (h:Pf p m f t) (hp:p.t=0) (h0:p.B.getD t 0=0) (hq:((t:Int) == (f:Int)+(8))=false) (hq2:((t:Int) == (f:Int)+(16))=false) (w:World) :
  Calls Tryz.prog 81 #[.agg (pl p).toArray,.agg (ml m).toArray] w fun e w'=>e=.returned (.bool (pgoB p m))∧Kept w w':=by
 have hB:=h.pw.brd;have HP:Hid (PAt _ _ p):=⟨hB.1,heap_alloc2_old w (.cells (pl p).toArray 26) (.cells (ml m).toArray 28)⟩;have HM:Hid (MAt _ _ m):=⟨heap_alloc2_new w (.cells (pl p).toArray 26) (.cells (ml m).toArray 28)⟩;have HK0:=Qh (((Kept.refl w).alloc (.cells (pl p).toArray 26)).alloc (.cells (ml m).toArray 28));have hcf:=HM.out.f;have hct:=HM.out.t;rw [h.hf] at hcf;rw [h.ht] at hct;have htn:=HP.out.turn;rw [hp] at htn;have hsq:=HP.out.sq t h.t1;have hrk:=h.pw.rank;have ht1:=h.t1;have HV:=Qh (Qap h (8) 1 (by rw [hp];rfl) (by rw [hp];rfl));have htI:(t:Int)<64:=by omega
 have hw1:IntKind.i64.wrap ((f:Int)+(8))=(f:Int)+(8):=wr64 (by omega) (by omega);have hw2:IntKind.i64.wrap ((f:Int)+(16))=(f:Int)+2*(8):=by rw [wr64 (by omega) (by omega)];omega
 have hsf:=HP.out.sq f h.pw.s1;have HTk:=Qh (fun w=>Jc p hB m h.on w);have hns:Ya (bAt p.B (f:Int))=false:=by unfold Ya;rw [Qak,show bAt p.B (f:Int)=p.B.getD f 0 from rfl,h.pw.kind];rfl
 have HF:=Qh (fun (i:Nat) (l:List Int)=>hit_first (B:=p.B) (s:=(f:Int)) (to:=(t:Int)) (i:=i) (l:=l));have HN:=Qh (Qag (to:=(t:Int)) hns);have HPos:=Qh (fun l (hl:l ∈ ofL (bAt p.B (f:Int)) (f:Int))=>(ofL_pos hl).1);have hbd:=hB.2 f h.pw.s1;have hwx:=Qaa hB h.pw.s1;have hx:bAt p.B (f:Int)=p.B.getD f 0:=rfl;rw [hx] at HF HN HPos;have HOf:=Qh (rof_is (p.B.getD f 0) (f:Int));have hx0:=hsf;have hfI:(f:Int)<64:=by have:=h.pw.s1;omega
 generalize hitB p.B (f:Int) (t:Int)=hb at *;generalize takeI p m=tk at *;generalize ofL (p.B.getD f 0) (f:Int)=L at *;generalize p.B.getD f 0=x0 at *;rw [h0] at hsq;have HV':Hid (pgoB p m=(hb && decide (0≤tk))):=by show _=_;have hq2':((t:Int) == (f:Int)+2*(8))=false:=hq2;rw [HV.out,h0,hq,hq2'];simp
 clear HV;have HV:=HV';clear HV' h0;go_enter Tryz.func81,Tryz.ntmps81;go_wp2;clear hq hq2;have HPr:=Qh HP.out;have HMr:=Qh HM.out;refine wp_region_held_drew (S:=Kept _) (by kernel_rfl) (Kept.refl _).drew (fun Qj=>?_);refine rT 0 60 (.pointer (some ⟨w.heap.size+1,0,none⟩)) rfl rfl Qj ?_;simp only [pA,pN,sZ,sU];refine rC 1 61 (.int .i64 (f:Int)) rfl rfl (fun _ h=>Qa h (hcf)) Qj ?_;simp only [pA,pN,sZ,sU];refine rT 2 62 (.pointer (some ⟨w.heap.size,0,none⟩)) rfl rfl Qj ?_;simp only [pA,pN,sZ,sU];refine rT 3 63 (.pointer (some ⟨w.heap.size,f,none⟩)) rfl rfl Qj ?_;simp only [pA,pN,sZ,sU];refine rC 4 64 (.int .i8 x0) rfl rfl (fun _ h=>Qa h (hx0)) Qj ?_;simp only [pA,pN,sZ,sU];refine rT 5 65 (.int .i64 x0) rfl rfl Qj ?_;simp only [pA,pN,sZ,sU];refine rT 6 66 (.pointer (some ⟨w.heap.size+1,0,none⟩)) rfl rfl Qj ?_;simp only [pA,pN,sZ,sU];refine rC 7 67 (.int .i64 (f:Int)) rfl rfl (fun _ h=>Qa h (hcf)) Qj ?_;simp only [pA,pN,sZ,sU];refine rR 8 rfl (fun K hK=>?_);go_simp;refine (HOf.out _).mono ?_;rintro e W ⟨v,rfl,hR,kW⟩;refine hK.out _ _ (Qj.trans kW) (fun _=>?_);replace Qj:=Qj.trans kW;clear hK K;refine rT 9 7 v rfl rfl Qj ?_;simp only [pA,pN,sZ,sU];refine wpAnyH_done (by kernel_rfl) ?_ _;have HKW:=Qh Qj;have HPW:=Qh (HP.out.kept Qj);have HMW:=Qh (MAt.kept HM.out Qj);have hctW:=Qa Qj hct;clear Qj kW hcf hx0 hct hsq htn HPr HMr;by_cases hL:0<L.length
 ·obtain ⟨g7,c7,rfl,hn1,hn2,hrow⟩:=hR.read hL
  unfold maxLen at hn2;have HRow:=Qh hrow;generalize hN:L.length=N at *;have HNN:=Qh hN;clear hR hrow hN;go_wp2
  go_loopw [8] (fun t8 wr=>∃ i:Nat,i≤N∧t8=.int .i64 i∧(∀ j l,j<i→L[j]?=some l→l[0]?≠some (t:Int))∧Kept W wr) (fun t8 _=>N-(intOf t8).toNat)
  case atStart=>exact ⟨0,by omega,rfl,fun j l hj=>by omega,Kept.refl _⟩
  case round =>
   obtain ⟨i,hi,rfl,hno,hK⟩:=hrel;have HNo:=Qh hno;have HK:=Qh hK;have hctR:=Qa hK hctW;clear hno;by_cases hlt:i<N
   ·have hlt':(i:Int)<(N:Int):=by omega
    obtain ⟨l,hl⟩:∃ l,L[i]?=some l:=⟨_,List.getElem?_eq_getElem (by have:=HNN.out;omega)⟩;obtain ⟨u,g,hcu,hls,_⟩:=HRow.out i l hl;have hpos:=HPos.out l (List.mem_of_getElem? hl);obtain ⟨y,hy⟩:∃ y,l[0]?=some y:=⟨_,List.getElem?_eq_getElem hpos⟩;obtain ⟨off,cu,rfl,hk1,hk2,hcell⟩:=hls.full hpos;have Hl:=Qh hl;have d1:=Qa hK (hcell 0 y hy);have d0:=Qa hK hcu;rw [Nat.add_zero] at d1;have HY:=Qh hy;have hbm:l.length≤9223372036854775807:=by unfold maxLen at hk2;omega
    have HMr:=Qh (MAt.kept HMW.out hK);have HPr:=Qh (HPW.out.kept hK);clear hl hy hcell hk1 hk2 hcu hls hK;generalize hM:l.length=M at *;clear hM;have hposI:(0:Int)<(M:Int):=by omega
    by_cases hto:y=(t:Int)
    ·have b0:(y == (t:Int))=true:=by simpa using hto
     have HE:=Qh (HF.out i l Hl.out (by rw [HY.out,hto]));clear hto;go_wp2;refine wp_region_held_drew (S:=Kept _) (by kernel_rfl) (Kept.refl _).drew (fun Qj=>?_);refine rT 0 75 (.slice (some ⟨g7,0,none⟩) N c7) rfl rfl Qj ?_;simp only [pA,pN,sZ,sU];refine rT 1 76 (.int .i64 (i:Int)) rfl rfl Qj ?_;simp only [pA,pN,sZ,sU];refine rT 2 77 (.pointer (some ⟨g7,i,none⟩)) rfl rfl Qj ?_;simp only [pA,pN,sZ,sU];refine rC 3 78 (.slice (some ⟨g,off,none⟩) M cu) rfl rfl (fun _ h=>Qa h (d0)) Qj ?_;simp only [pA,pN,sZ,sU];refine rT 4 79 (.pointer (some ⟨g,off,none⟩)) rfl rfl Qj ?_;simp only [pA,pN,sZ,sU];refine rC 5 80 (.int .i64 y) rfl rfl (fun _ h=>Qa h (d1)) Qj ?_;simp only [pA,pN,sZ,sU];refine rT 6 81 (.pointer (some ⟨w.heap.size+1,1,none⟩)) rfl rfl Qj ?_;simp only [pA,pN,sZ,sU];refine rC 7 82 (.int .i64 (t:Int)) rfl rfl (fun _ h=>Qa h (hctR)) Qj ?_;simp only [pA,pN,sZ,sU];refine rT 8 83 (.bool true) rfl rfl Qj ?_;simp only [pA,pN,sZ,sU];refine wpAnyH_done (by kernel_rfl) ?_ _;have HK2:=Qh (HK.out.trans Qj);have HM2:=Qh (MAt.kept HMr.out Qj);have HP2:=Qh (HPr.out.kept Qj);clear Qj;go_wp2_with (first|(refine Qc (by rfl) _ rfl _ rfl _ (HP2.out) ?_)|(refine Qd (by rfl) _ rfl _ rfl _ (HP2.out) ?_)|(refine Qe (by rfl) _ rfl _ rfl _ (HM2.out) ?_))
     refine (HTk.out _).mono ?_;rintro e w3 ⟨rfl,k3⟩;have HK3:=Qh (HK2.out.trans k3);clear k3;go_wp2;go_ret;exact ⟨by rw [HV.out,HE.out,Bool.true_and];rfl,(HK0.out.trans HKW.out).trans HK3.out⟩
    ·have b0:(y == (t:Int))=false:=by simpa using hto
     have HTo:=Qh hto;clear hto;go_wp2;refine wp_region_held_drew (S:=Kept _) (by kernel_rfl) (Kept.refl _).drew (fun Qj=>?_);refine rT 0 75 (.slice (some ⟨g7,0,none⟩) N c7) rfl rfl Qj ?_;simp only [Act.put,sA,sZ,sU];refine rT 1 76 (.int .i64 (i:Int)) rfl rfl Qj ?_;simp only [pA,pN,sZ,sU];refine rT 2 77 (.pointer (some ⟨g7,i,none⟩)) rfl rfl Qj ?_;simp only [pA,pN,sZ,sU];refine rC 3 78 (.slice (some ⟨g,off,none⟩) M cu) rfl rfl (fun _ h=>Qa h (d0)) Qj ?_;simp only [pA,pN,sZ,sU];refine rT 4 79 (.pointer (some ⟨g,off,none⟩)) rfl rfl Qj ?_;simp only [pA,pN,sZ,sU];refine rC 5 80 (.int .i64 y) rfl rfl (fun _ h=>Qa h (d1)) Qj ?_;simp only [pA,pN,sZ,sU];refine rT 6 81 (.pointer (some ⟨w.heap.size+1,1,none⟩)) rfl rfl Qj ?_;simp only [pA,pN,sZ,sU];refine rC 7 82 (.int .i64 (t:Int)) rfl rfl (fun _ h=>Qa h (hctR)) Qj ?_;simp only [pA,pN,sZ,sU];refine rT 8 83 (.bool false) rfl rfl Qj ?_;simp only [pA,pN,sZ,sU];refine wpAnyH_done (by kernel_rfl) ?_ _;have HK2:=Qh (HK.out.trans Qj);clear Qj;go_wp2;go_roundw
     case rel=>exact ⟨i+1,by omega,by go_num,fun j l' hj hl'=>by
      by_cases hji:j<i
      ·exact HNo.out j l' hji hl'
      ·obtain rfl:j=i:=by omega
       rw [Hl.out] at hl';rw [← Option.some.inj hl',HY.out];exact fun e=>HTo.out (Option.some.inj e),HK2.out⟩
     case measure=>simp [intOf];omega
   ·have hlt':¬ (i:Int)<(N:Int):=by omega
    have HE:=Qh (HN.out (fun j l hl=>HNo.out j l (by have:=(List.getElem?_eq_some_iff.1 hl).1;have:=HNN.out;omega) hl));clear hK;go_wp2;go_ret;exact ⟨by rw [HV.out,HE.out,Bool.false_and];rfl,(HK0.out.trans HKW.out).trans HK.out⟩
 ·have h0:L=[]:=List.eq_nil_of_length_eq_zero (by omega)
  have HE:=Qh (HN.out (fun j l hl=>by rw [h0] at hl;simp at hl));subst h0;obtain ⟨a7,c7,rfl⟩:=hR.slice;clear hR;go_wp2
  go_loopw [8] (fun t8 wr=>t8=.int .i64 0∧wr=W) (fun _ _=>0)
  case atStart=>exact ⟨rfl,rfl⟩
  case round =>
   obtain ⟨rfl,rfl⟩:=hrel;go_wp2;go_ret;exact ⟨by rw [HV.out,HE.out,Bool.false_and];rfl,HK0.out.trans HKW.out⟩
set_option maxHeartbeats 4000000 in
theorem rpgo_w5 (p:Ps) (m:Mv) (f t:Nat) (h:Pf p m f t) (hp:p.t=0) (h0:(p.B.getD t 0 == 0)=false) (w:World) :
  Calls Tryz.prog 81 #[.agg (pl p).toArray,.agg (ml m).toArray] w fun e w'=>e=.returned (.bool (pgoB p m))∧Kept w w':=by
 have hB:=h.pw.brd;have HP:Hid (PAt _ _ p):=⟨hB.1,heap_alloc2_old w (.cells (pl p).toArray 26) (.cells (ml m).toArray 28)⟩;have HM:Hid (MAt _ _ m):=⟨heap_alloc2_new w (.cells (pl p).toArray 26) (.cells (ml m).toArray 28)⟩;have HK0:=Qh (((Kept.refl w).alloc (.cells (pl p).toArray 26)).alloc (.cells (ml m).toArray 28));have hcf:=HM.out.f;have hct:=HM.out.t;rw [h.hf] at hcf;rw [h.ht] at hct;have htn:=HP.out.turn;rw [hp] at htn;have hsq:=HP.out.sq t h.t1;have hrk:=h.pw.rank;have ht1:=h.t1;have HV:=Qh (Qap h (8) 1 (by rw [hp];rfl) (by rw [hp];rfl));have htI:(t:Int)<64:=by omega
 have hw1:IntKind.i64.wrap ((f:Int)+(8))=(f:Int)+(8):=wr64 (by omega) (by omega);have hw2:IntKind.i64.wrap ((f:Int)+(16))=(f:Int)+2*(8):=by rw [wr64 (by omega) (by omega)];omega
 have hsf:=HP.out.sq f h.pw.s1;have HTk:=Qh (fun w=>Jc p hB m h.on w);have hns:Ya (bAt p.B (f:Int))=false:=by unfold Ya;rw [Qak,show bAt p.B (f:Int)=p.B.getD f 0 from rfl,h.pw.kind];rfl
 have HF:=Qh (fun (i:Nat) (l:List Int)=>hit_first (B:=p.B) (s:=(f:Int)) (to:=(t:Int)) (i:=i) (l:=l));have HN:=Qh (Qag (to:=(t:Int)) hns);have HPos:=Qh (fun l (hl:l ∈ ofL (bAt p.B (f:Int)) (f:Int))=>(ofL_pos hl).1);have hbd:=hB.2 f h.pw.s1;have hwx:=Qaa hB h.pw.s1;have hx:bAt p.B (f:Int)=p.B.getD f 0:=rfl;rw [hx] at HF HN HPos;have HOf:=Qh (rof_is (p.B.getD f 0) (f:Int));have hx0:=hsf;have hfI:(f:Int)<64:=by have:=h.pw.s1;omega
 generalize hitB p.B (f:Int) (t:Int)=hb at *;generalize takeI p m=tk at *;generalize ofL (p.B.getD f 0) (f:Int)=L at *;generalize p.B.getD f 0=x0 at *;generalize p.B.getD t 0=x1 at *;have HV':Hid (pgoB p m=(hb && decide (0≤tk))):=by show _=_;rw [HV.out,h0];simp
 clear HV;have HV:=HV';clear HV';go_enter Tryz.func81,Tryz.ntmps81;go_wp2;have HPr:=Qh HP.out;have HMr:=Qh HM.out;refine wp_region_held_drew (S:=Kept _) (by kernel_rfl) (Kept.refl _).drew (fun Qj=>?_);refine rT 0 60 (.pointer (some ⟨w.heap.size+1,0,none⟩)) rfl rfl Qj ?_;simp only [pA,pN,sZ,sU];refine rC 1 61 (.int .i64 (f:Int)) rfl rfl (fun _ h=>Qa h (hcf)) Qj ?_;simp only [pA,pN,sZ,sU];refine rT 2 62 (.pointer (some ⟨w.heap.size,0,none⟩)) rfl rfl Qj ?_;simp only [pA,pN,sZ,sU];refine rT 3 63 (.pointer (some ⟨w.heap.size,f,none⟩)) rfl rfl Qj ?_;simp only [pA,pN,sZ,sU];refine rC 4 64 (.int .i8 x0) rfl rfl (fun _ h=>Qa h (hx0)) Qj ?_;simp only [pA,pN,sZ,sU];refine rT 5 65 (.int .i64 x0) rfl rfl Qj ?_;simp only [pA,pN,sZ,sU];refine rT 6 66 (.pointer (some ⟨w.heap.size+1,0,none⟩)) rfl rfl Qj ?_;simp only [pA,pN,sZ,sU];refine rC 7 67 (.int .i64 (f:Int)) rfl rfl (fun _ h=>Qa h (hcf)) Qj ?_;simp only [pA,pN,sZ,sU];refine rR 8 rfl (fun K hK=>?_);go_simp;refine (HOf.out _).mono ?_;rintro e W ⟨v,rfl,hR,kW⟩;refine hK.out _ _ (Qj.trans kW) (fun _=>?_);replace Qj:=Qj.trans kW;clear hK K;refine rT 9 7 v rfl rfl Qj ?_;simp only [pA,pN,sZ,sU];refine wpAnyH_done (by kernel_rfl) ?_ _;have HKW:=Qh Qj;have HPW:=Qh (HP.out.kept Qj);have HMW:=Qh (MAt.kept HM.out Qj);have hctW:=Qa Qj hct;clear Qj kW hcf hx0 hct hsq htn HPr HMr;by_cases hL:0<L.length
 ·obtain ⟨g7,c7,rfl,hn1,hn2,hrow⟩:=hR.read hL
  unfold maxLen at hn2;have HRow:=Qh hrow;generalize hN:L.length=N at *;have HNN:=Qh hN;clear hR hrow hN;go_wp2
  go_loopw [8] (fun t8 wr=>∃ i:Nat,i≤N∧t8=.int .i64 i∧(∀ j l,j<i→L[j]?=some l→l[0]?≠some (t:Int))∧Kept W wr) (fun t8 _=>N-(intOf t8).toNat)
  case atStart=>exact ⟨0,by omega,rfl,fun j l hj=>by omega,Kept.refl _⟩
  case round =>
   obtain ⟨i,hi,rfl,hno,hK⟩:=hrel;have HNo:=Qh hno;have HK:=Qh hK;have hctR:=Qa hK hctW;clear hno;by_cases hlt:i<N
   ·have hlt':(i:Int)<(N:Int):=by omega
    obtain ⟨l,hl⟩:∃ l,L[i]?=some l:=⟨_,List.getElem?_eq_getElem (by have:=HNN.out;omega)⟩;obtain ⟨u,g,hcu,hls,_⟩:=HRow.out i l hl;have hpos:=HPos.out l (List.mem_of_getElem? hl);obtain ⟨y,hy⟩:∃ y,l[0]?=some y:=⟨_,List.getElem?_eq_getElem hpos⟩;obtain ⟨off,cu,rfl,hk1,hk2,hcell⟩:=hls.full hpos;have Hl:=Qh hl;have d1:=Qa hK (hcell 0 y hy);have d0:=Qa hK hcu;rw [Nat.add_zero] at d1;have HY:=Qh hy;have hbm:l.length≤9223372036854775807:=by unfold maxLen at hk2;omega
    have HMr:=Qh (MAt.kept HMW.out hK);have HPr:=Qh (HPW.out.kept hK);clear hl hy hcell hk1 hk2 hcu hls hK;generalize hM:l.length=M at *;clear hM;have hposI:(0:Int)<(M:Int):=by omega
    by_cases hto:y=(t:Int)
    ·have b0:(y == (t:Int))=true:=by simpa using hto
     have HE:=Qh (HF.out i l Hl.out (by rw [HY.out,hto]));clear hto;go_wp2;refine wp_region_held_drew (S:=Kept _) (by kernel_rfl) (Kept.refl _).drew (fun Qj=>?_);refine rT 0 75 (.slice (some ⟨g7,0,none⟩) N c7) rfl rfl Qj ?_;simp only [pA,pN,sZ,sU];refine rT 1 76 (.int .i64 (i:Int)) rfl rfl Qj ?_;simp only [pA,pN,sZ,sU];refine rT 2 77 (.pointer (some ⟨g7,i,none⟩)) rfl rfl Qj ?_;simp only [pA,pN,sZ,sU];refine rC 3 78 (.slice (some ⟨g,off,none⟩) M cu) rfl rfl (fun _ h=>Qa h (d0)) Qj ?_;simp only [pA,pN,sZ,sU];refine rT 4 79 (.pointer (some ⟨g,off,none⟩)) rfl rfl Qj ?_;simp only [pA,pN,sZ,sU];refine rC 5 80 (.int .i64 y) rfl rfl (fun _ h=>Qa h (d1)) Qj ?_;simp only [pA,pN,sZ,sU];refine rT 6 81 (.pointer (some ⟨w.heap.size+1,1,none⟩)) rfl rfl Qj ?_;simp only [pA,pN,sZ,sU];refine rC 7 82 (.int .i64 (t:Int)) rfl rfl (fun _ h=>Qa h (hctR)) Qj ?_;simp only [pA,pN,sZ,sU];refine rT 8 83 (.bool true) rfl rfl Qj ?_;simp only [pA,pN,sZ,sU];refine wpAnyH_done (by kernel_rfl) ?_ _;have HK2:=Qh (HK.out.trans Qj);have HM2:=Qh (MAt.kept HMr.out Qj);have HP2:=Qh (HPr.out.kept Qj);clear Qj;go_wp2_with (first|(refine Qc (by rfl) _ rfl _ rfl _ (HP2.out) ?_)|(refine Qd (by rfl) _ rfl _ rfl _ (HP2.out) ?_)|(refine Qe (by rfl) _ rfl _ rfl _ (HM2.out) ?_))
     refine (HTk.out _).mono ?_;rintro e w3 ⟨rfl,k3⟩;have HK3:=Qh (HK2.out.trans k3);clear k3;go_wp2;go_ret;exact ⟨by rw [HV.out,HE.out,Bool.true_and];rfl,(HK0.out.trans HKW.out).trans HK3.out⟩
    ·have b0:(y == (t:Int))=false:=by simpa using hto
     have HTo:=Qh hto;clear hto;go_wp2;refine wp_region_held_drew (S:=Kept _) (by kernel_rfl) (Kept.refl _).drew (fun Qj=>?_);refine rT 0 75 (.slice (some ⟨g7,0,none⟩) N c7) rfl rfl Qj ?_;simp only [Act.put,sA,sZ,sU];refine rT 1 76 (.int .i64 (i:Int)) rfl rfl Qj ?_;simp only [pA,pN,sZ,sU];refine rT 2 77 (.pointer (some ⟨g7,i,none⟩)) rfl rfl Qj ?_;simp only [pA,pN,sZ,sU];refine rC 3 78 (.slice (some ⟨g,off,none⟩) M cu) rfl rfl (fun _ h=>Qa h (d0)) Qj ?_;simp only [pA,pN,sZ,sU];refine rT 4 79 (.pointer (some ⟨g,off,none⟩)) rfl rfl Qj ?_;simp only [pA,pN,sZ,sU];refine rC 5 80 (.int .i64 y) rfl rfl (fun _ h=>Qa h (d1)) Qj ?_;simp only [pA,pN,sZ,sU];refine rT 6 81 (.pointer (some ⟨w.heap.size+1,1,none⟩)) rfl rfl Qj ?_;simp only [pA,pN,sZ,sU];refine rC 7 82 (.int .i64 (t:Int)) rfl rfl (fun _ h=>Qa h (hctR)) Qj ?_;simp only [pA,pN,sZ,sU];refine rT 8 83 (.bool false) rfl rfl Qj ?_;simp only [pA,pN,sZ,sU];refine wpAnyH_done (by kernel_rfl) ?_ _;have HK2:=Qh (HK.out.trans Qj);clear Qj;go_wp2;go_roundw
     case rel=>exact ⟨i+1,by omega,by go_num,fun j l' hj hl'=>by
      by_cases hji:j<i
      ·exact HNo.out j l' hji hl'
      ·obtain rfl:j=i:=by omega
       rw [Hl.out] at hl';rw [← Option.some.inj hl',HY.out];exact fun e=>HTo.out (Option.some.inj e),HK2.out⟩
     case measure=>simp [intOf];omega
   ·have hlt':¬ (i:Int)<(N:Int):=by omega
    have HE:=Qh (HN.out (fun j l hl=>HNo.out j l (by have:=(List.getElem?_eq_some_iff.1 hl).1;have:=HNN.out;omega) hl));clear hK;go_wp2;go_ret;exact ⟨by rw [HV.out,HE.out,Bool.false_and];rfl,(HK0.out.trans HKW.out).trans HK.out⟩
 ·have h0:L=[]:=List.eq_nil_of_length_eq_zero (by omega)
  have HE:=Qh (HN.out (fun j l hl=>by rw [h0] at hl;simp at hl));subst h0;obtain ⟨a7,c7,rfl⟩:=hR.slice;clear hR;go_wp2
  go_loopw [8] (fun t8 wr=>t8=.int .i64 0∧wr=W) (fun _ _=>0)
  case atStart=>exact ⟨rfl,rfl⟩
  case round =>
   obtain ⟨rfl,rfl⟩:=hrel;go_wp2;go_ret;exact ⟨by rw [HV.out,HE.out,Bool.false_and];rfl,HK0.out.trans HKW.out⟩
set_option maxHeartbeats 4000000 in
theorem rpgo_b1 (p:Ps) (m:Mv) (f t:Nat) (h:Pf p m f t) (hp:p.t=1) (h0:p.B.getD t 0=0) (hq:((t:Int) == (f:Int)+(-8))=true) (w:World) :
  Calls Tryz.prog 81 #[.agg (pl p).toArray,.agg (ml m).toArray] w fun e w'=>e=.returned (.bool (pgoB p m))∧Kept w w':=by
 have hB:=h.pw.brd;have HP:Hid (PAt _ _ p):=⟨hB.1,heap_alloc2_old w (.cells (pl p).toArray 26) (.cells (ml m).toArray 28)⟩;have HM:Hid (MAt _ _ m):=⟨heap_alloc2_new w (.cells (pl p).toArray 26) (.cells (ml m).toArray 28)⟩;have HK0:=Qh (((Kept.refl w).alloc (.cells (pl p).toArray 26)).alloc (.cells (ml m).toArray 28));have hcf:=HM.out.f;have hct:=HM.out.t;rw [h.hf] at hcf;rw [h.ht] at hct;have htn:=HP.out.turn;rw [hp] at htn;have hsq:=HP.out.sq t h.t1;have hrk:=h.pw.rank;have ht1:=h.t1;have HV:=Qh (Qap h (-8) 6 (by rw [hp];rfl) (by rw [hp];rfl));have htI:(t:Int)<64:=by omega
 have hw1:IntKind.i64.wrap ((f:Int)+(-8))=(f:Int)+(-8):=wr64 (by omega) (by omega);have hw2:IntKind.i64.wrap ((f:Int)+(-16))=(f:Int)+2*(-8):=by rw [wr64 (by omega) (by omega)];omega
 have HR:Hid (pgoB p m=true):=by show _=_;rw [HV.out,h0,hq];simp
 rw [h0] at hsq;clear HV;go_enter Tryz.func81,Tryz.ntmps81;go_wp2;go_ret;exact ⟨by rw [HR.out];rfl,HK0.out⟩
set_option maxHeartbeats 4000000 in
theorem rpgo_b2 (p:Ps) (m:Mv) (f t:Nat) (h:Pf p m f t) (hp:p.t=1) (h0:p.B.getD t 0=0) (hq:((t:Int) == (f:Int)+(-8))=false) (hq2:((t:Int) == (f:Int)+(-16))=true) (hs:((f:Int) / 8 == 6)=true) (w:World) :
  Calls Tryz.prog 81 #[.agg (pl p).toArray,.agg (ml m).toArray] w fun e w'=>e=.returned (.bool (pgoB p m))∧Kept w w':=by
 have hB:=h.pw.brd;have HP:Hid (PAt _ _ p):=⟨hB.1,heap_alloc2_old w (.cells (pl p).toArray 26) (.cells (ml m).toArray 28)⟩;have HM:Hid (MAt _ _ m):=⟨heap_alloc2_new w (.cells (pl p).toArray 26) (.cells (ml m).toArray 28)⟩;have HK0:=Qh (((Kept.refl w).alloc (.cells (pl p).toArray 26)).alloc (.cells (ml m).toArray 28));have hcf:=HM.out.f;have hct:=HM.out.t;rw [h.hf] at hcf;rw [h.ht] at hct;have htn:=HP.out.turn;rw [hp] at htn;have hsq:=HP.out.sq t h.t1;have hrk:=h.pw.rank;have ht1:=h.t1;have HV:=Qh (Qap h (-8) 6 (by rw [hp];rfl) (by rw [hp];rfl));have htI:(t:Int)<64:=by omega
 have hw1:IntKind.i64.wrap ((f:Int)+(-8))=(f:Int)+(-8):=wr64 (by omega) (by omega);have hw2:IntKind.i64.wrap ((f:Int)+(-16))=(f:Int)+2*(-8):=by rw [wr64 (by omega) (by omega)];omega
 have hsf:=HP.out.sq f h.pw.s1;have HTk:=Qh (fun w=>Jc p hB m h.on w);have hns:Ya (bAt p.B (f:Int))=false:=by unfold Ya;rw [Qak,show bAt p.B (f:Int)=p.B.getD f 0 from rfl,h.pw.kind];rfl
 have HF:=Qh (fun (i:Nat) (l:List Int)=>hit_first (B:=p.B) (s:=(f:Int)) (to:=(t:Int)) (i:=i) (l:=l));have HN:=Qh (Qag (to:=(t:Int)) hns);have HPos:=Qh (fun l (hl:l ∈ ofL (bAt p.B (f:Int)) (f:Int))=>(ofL_pos hl).1);have hbd:=hB.2 f h.pw.s1;have hwx:=Qaa hB h.pw.s1;have hx:bAt p.B (f:Int)=p.B.getD f 0:=rfl;rw [hx] at HF HN HPos;have HOf:=Qh (rof_is (p.B.getD f 0) (f:Int));have hx0:=hsf;have hfI:(f:Int)<64:=by have:=h.pw.s1;omega
 generalize hitB p.B (f:Int) (t:Int)=hb at *;generalize takeI p m=tk at *;generalize ofL (p.B.getD f 0) (f:Int)=L at *;generalize p.B.getD f 0=x0 at *;have hk:∃ k:Nat,(f:Int)+(-8)=(k:Int)∧k<64:=⟨((f:Int)+(-8)).toNat,by omega,by omega⟩;obtain ⟨k,ek,k64⟩:=hk;have hsk:=HP.out.sq k k64;have hsk2:((w.alloc (.cells (pl p).toArray 26)).alloc (.cells (ml m).toArray 28)).cell? ⟨w.heap.size,((f:Int)+(-8)).toNat,none⟩=some (.int .i8 (p.B.getD k 0)):=by rw [show ((f:Int)+(-8)).toNat=k by omega];exact hsk
 have hsk3:((w.alloc (.cells (pl p).toArray 26)).alloc (.cells (ml m).toArray 28)).cell? ⟨w.heap.size,((f:Int)-8).toNat,none⟩=some (.int .i8 (p.B.getD k 0)):=by rw [show ((f:Int)-8).toNat=k by omega];exact hsk
 have hsk4:((w.alloc (.cells (pl p).toArray 26)).alloc (.cells (ml m).toArray 28)).cell? ⟨w.heap.size,f-8,none⟩=some (.int .i8 (p.B.getD k 0)):=by rw [show f-8=k by omega];exact hsk
 have ebk:bAt p.B ((f:Int)+(-8))=p.B.getD k 0:=by rw [ek];rfl
 rw [h0] at hsq;have hq2':((t:Int) == (f:Int)+2*(-8))=true:=hq2;rw [ebk,h0,hq,hq2',hs] at HV;clear hq2';have hkI:(k:Int)<64:=by omega
 have HRk:=Qh (fun w=>Yo (f:Int) w (by omega) hfI);generalize p.B.getD k 0=y at *;generalize (f:Int) / 8=rk at *
 cases hy:(y == 0)
 ·rw [hy] at HV
  have HV':Hid (pgoB p m=(hb && decide (0≤tk))):=by show _=_;rw [HV.out];simp
  clear HV;have HV:=HV';clear HV' h0 ebk ek;go_enter Tryz.func81,Tryz.ntmps81;go_wp2_with fail
  refine (HRk.out _).mono ?_;rintro e w9 ⟨rfl,rfl⟩;go_wp2;clear hq hq2;have HPr:=Qh HP.out;have HMr:=Qh HM.out;refine wp_region_held_drew (S:=Kept _) (by kernel_rfl) (Kept.refl _).drew (fun Qj=>?_);refine rT 0 60 (.pointer (some ⟨w.heap.size+1,0,none⟩)) rfl rfl Qj ?_;simp only [pA,pN,sZ,sU];refine rC 1 61 (.int .i64 (f:Int)) rfl rfl (fun _ h=>Qa h (hcf)) Qj ?_;simp only [pA,pN,sZ,sU];refine rT 2 62 (.pointer (some ⟨w.heap.size,0,none⟩)) rfl rfl Qj ?_;simp only [pA,pN,sZ,sU];refine rT 3 63 (.pointer (some ⟨w.heap.size,f,none⟩)) rfl rfl Qj ?_;simp only [pA,pN,sZ,sU];refine rC 4 64 (.int .i8 x0) rfl rfl (fun _ h=>Qa h (hx0)) Qj ?_;simp only [pA,pN,sZ,sU];refine rT 5 65 (.int .i64 x0) rfl rfl Qj ?_;simp only [pA,pN,sZ,sU];refine rT 6 66 (.pointer (some ⟨w.heap.size+1,0,none⟩)) rfl rfl Qj ?_;simp only [pA,pN,sZ,sU];refine rC 7 67 (.int .i64 (f:Int)) rfl rfl (fun _ h=>Qa h (hcf)) Qj ?_;simp only [pA,pN,sZ,sU];refine rR 8 rfl (fun K hK=>?_);go_simp;refine (HOf.out _).mono ?_;rintro e W ⟨v,rfl,hR,kW⟩;refine hK.out _ _ (Qj.trans kW) (fun _=>?_);replace Qj:=Qj.trans kW;clear hK K;refine rT 9 7 v rfl rfl Qj ?_;simp only [pA,pN,sZ,sU];refine wpAnyH_done (by kernel_rfl) ?_ _;have HKW:=Qh Qj;have HPW:=Qh (HP.out.kept Qj);have HMW:=Qh (MAt.kept HM.out Qj);have hctW:=Qa Qj hct;clear Qj kW hcf hx0 hct hsq htn HPr HMr;by_cases hL:0<L.length
  ·obtain ⟨g7,c7,rfl,hn1,hn2,hrow⟩:=hR.read hL
   unfold maxLen at hn2;have HRow:=Qh hrow;generalize hN:L.length=N at *;have HNN:=Qh hN;clear hR hrow hN;go_wp2
   go_loopw [8] (fun t8 wr=>∃ i:Nat,i≤N∧t8=.int .i64 i∧(∀ j l,j<i→L[j]?=some l→l[0]?≠some (t:Int))∧Kept W wr) (fun t8 _=>N-(intOf t8).toNat)
   case atStart=>exact ⟨0,by omega,rfl,fun j l hj=>by omega,Kept.refl _⟩
   case round =>
    obtain ⟨i,hi,rfl,hno,hK⟩:=hrel;have HNo:=Qh hno;have HK:=Qh hK;have hctR:=Qa hK hctW;clear hno;by_cases hlt:i<N
    ·have hlt':(i:Int)<(N:Int):=by omega
     obtain ⟨l,hl⟩:∃ l,L[i]?=some l:=⟨_,List.getElem?_eq_getElem (by have:=HNN.out;omega)⟩;obtain ⟨u,g,hcu,hls,_⟩:=HRow.out i l hl;have hpos:=HPos.out l (List.mem_of_getElem? hl);obtain ⟨y,hy⟩:∃ y,l[0]?=some y:=⟨_,List.getElem?_eq_getElem hpos⟩;obtain ⟨off,cu,rfl,hk1,hk2,hcell⟩:=hls.full hpos;have Hl:=Qh hl;have d1:=Qa hK (hcell 0 y hy);have d0:=Qa hK hcu;rw [Nat.add_zero] at d1;have HY:=Qh hy;have hbm:l.length≤9223372036854775807:=by unfold maxLen at hk2;omega
     have HMr:=Qh (MAt.kept HMW.out hK);have HPr:=Qh (HPW.out.kept hK);clear hl hy hcell hk1 hk2 hcu hls hK;generalize hM:l.length=M at *;clear hM;have hposI:(0:Int)<(M:Int):=by omega
     by_cases hto:y=(t:Int)
     ·have b0:(y == (t:Int))=true:=by simpa using hto
      have HE:=Qh (HF.out i l Hl.out (by rw [HY.out,hto]));clear hto;go_wp2;refine wp_region_held_drew (S:=Kept _) (by kernel_rfl) (Kept.refl _).drew (fun Qj=>?_);refine rT 0 75 (.slice (some ⟨g7,0,none⟩) N c7) rfl rfl Qj ?_;simp only [pA,pN,sZ,sU];refine rT 1 76 (.int .i64 (i:Int)) rfl rfl Qj ?_;simp only [pA,pN,sZ,sU];refine rT 2 77 (.pointer (some ⟨g7,i,none⟩)) rfl rfl Qj ?_;simp only [pA,pN,sZ,sU];refine rC 3 78 (.slice (some ⟨g,off,none⟩) M cu) rfl rfl (fun _ h=>Qa h (d0)) Qj ?_;simp only [pA,pN,sZ,sU];refine rT 4 79 (.pointer (some ⟨g,off,none⟩)) rfl rfl Qj ?_;simp only [pA,pN,sZ,sU];refine rC 5 80 (.int .i64 y) rfl rfl (fun _ h=>Qa h (d1)) Qj ?_;simp only [pA,pN,sZ,sU];refine rT 6 81 (.pointer (some ⟨w.heap.size+1,1,none⟩)) rfl rfl Qj ?_;simp only [pA,pN,sZ,sU];refine rC 7 82 (.int .i64 (t:Int)) rfl rfl (fun _ h=>Qa h (hctR)) Qj ?_;simp only [pA,pN,sZ,sU];refine rT 8 83 (.bool true) rfl rfl Qj ?_;simp only [pA,pN,sZ,sU];refine wpAnyH_done (by kernel_rfl) ?_ _;have HK2:=Qh (HK.out.trans Qj);have HM2:=Qh (MAt.kept HMr.out Qj);have HP2:=Qh (HPr.out.kept Qj);clear Qj;go_wp2_with (first|(refine Qc (by rfl) _ rfl _ rfl _ (HP2.out) ?_)|(refine Qd (by rfl) _ rfl _ rfl _ (HP2.out) ?_)|(refine Qe (by rfl) _ rfl _ rfl _ (HM2.out) ?_))
      refine (HTk.out _).mono ?_;rintro e w3 ⟨rfl,k3⟩;have HK3:=Qh (HK2.out.trans k3);clear k3;go_wp2;go_ret;exact ⟨by rw [HV.out,HE.out,Bool.true_and];rfl,(HK0.out.trans HKW.out).trans HK3.out⟩
     ·have b0:(y == (t:Int))=false:=by simpa using hto
      have HTo:=Qh hto;clear hto;go_wp2;refine wp_region_held_drew (S:=Kept _) (by kernel_rfl) (Kept.refl _).drew (fun Qj=>?_);refine rT 0 75 (.slice (some ⟨g7,0,none⟩) N c7) rfl rfl Qj ?_;simp only [Act.put,sA,sZ,sU];refine rT 1 76 (.int .i64 (i:Int)) rfl rfl Qj ?_;simp only [pA,pN,sZ,sU];refine rT 2 77 (.pointer (some ⟨g7,i,none⟩)) rfl rfl Qj ?_;simp only [pA,pN,sZ,sU];refine rC 3 78 (.slice (some ⟨g,off,none⟩) M cu) rfl rfl (fun _ h=>Qa h (d0)) Qj ?_;simp only [pA,pN,sZ,sU];refine rT 4 79 (.pointer (some ⟨g,off,none⟩)) rfl rfl Qj ?_;simp only [pA,pN,sZ,sU];refine rC 5 80 (.int .i64 y) rfl rfl (fun _ h=>Qa h (d1)) Qj ?_;simp only [pA,pN,sZ,sU];refine rT 6 81 (.pointer (some ⟨w.heap.size+1,1,none⟩)) rfl rfl Qj ?_;simp only [pA,pN,sZ,sU];refine rC 7 82 (.int .i64 (t:Int)) rfl rfl (fun _ h=>Qa h (hctR)) Qj ?_;simp only [pA,pN,sZ,sU];refine rT 8 83 (.bool false) rfl rfl Qj ?_;simp only [pA,pN,sZ,sU];refine wpAnyH_done (by kernel_rfl) ?_ _;have HK2:=Qh (HK.out.trans Qj);clear Qj;go_wp2;go_roundw
      case rel=>exact ⟨i+1,by omega,by go_num,fun j l' hj hl'=>by
       by_cases hji:j<i
       ·exact HNo.out j l' hji hl'
       ·obtain rfl:j=i:=by omega
        rw [Hl.out] at hl';rw [← Option.some.inj hl',HY.out];exact fun e=>HTo.out (Option.some.inj e),HK2.out⟩
      case measure=>simp [intOf];omega
    ·have hlt':¬ (i:Int)<(N:Int):=by omega
     have HE:=Qh (HN.out (fun j l hl=>HNo.out j l (by have:=(List.getElem?_eq_some_iff.1 hl).1;have:=HNN.out;omega) hl));clear hK;go_wp2;go_ret;exact ⟨by rw [HV.out,HE.out,Bool.false_and];rfl,(HK0.out.trans HKW.out).trans HK.out⟩
  ·have h0:L=[]:=List.eq_nil_of_length_eq_zero (by omega)
   have HE:=Qh (HN.out (fun j l hl=>by rw [h0] at hl;simp at hl));subst h0;obtain ⟨a7,c7,rfl⟩:=hR.slice;clear hR;go_wp2
   go_loopw [8] (fun t8 wr=>t8=.int .i64 0∧wr=W) (fun _ _=>0)
   case atStart=>exact ⟨rfl,rfl⟩
   case round =>
    obtain ⟨rfl,rfl⟩:=hrel;go_wp2;go_ret;exact ⟨by rw [HV.out,HE.out,Bool.false_and];rfl,HK0.out.trans HKW.out⟩
 ·rw [hy] at HV
  have HR:Hid (pgoB p m=true):=by show _=_;rw [HV.out];simp
  clear HV h0 ebk ek;go_enter Tryz.func81,Tryz.ntmps81;go_wp2_with fail
  refine (HRk.out _).mono ?_;rintro e w9 ⟨rfl,rfl⟩;go_wp2;go_ret;exact ⟨by rw [HR.out];rfl,HK0.out⟩
set_option maxHeartbeats 4000000 in
theorem rpgo_b3 (p:Ps) (m:Mv) (f t:Nat) (h:Pf p m f t) (hp:p.t=1) (h0:p.B.getD t 0=0) (hq:((t:Int) == (f:Int)+(-8))=false) (hq2:((t:Int) == (f:Int)+(-16))=true) (hs:((f:Int) / 8 == 6)=false) (w:World) :
  Calls Tryz.prog 81 #[.agg (pl p).toArray,.agg (ml m).toArray] w fun e w'=>e=.returned (.bool (pgoB p m))∧Kept w w':=by
 have hB:=h.pw.brd;have HP:Hid (PAt _ _ p):=⟨hB.1,heap_alloc2_old w (.cells (pl p).toArray 26) (.cells (ml m).toArray 28)⟩;have HM:Hid (MAt _ _ m):=⟨heap_alloc2_new w (.cells (pl p).toArray 26) (.cells (ml m).toArray 28)⟩;have HK0:=Qh (((Kept.refl w).alloc (.cells (pl p).toArray 26)).alloc (.cells (ml m).toArray 28));have hcf:=HM.out.f;have hct:=HM.out.t;rw [h.hf] at hcf;rw [h.ht] at hct;have htn:=HP.out.turn;rw [hp] at htn;have hsq:=HP.out.sq t h.t1;have hrk:=h.pw.rank;have ht1:=h.t1;have HV:=Qh (Qap h (-8) 6 (by rw [hp];rfl) (by rw [hp];rfl));have htI:(t:Int)<64:=by omega
 have hw1:IntKind.i64.wrap ((f:Int)+(-8))=(f:Int)+(-8):=wr64 (by omega) (by omega);have hw2:IntKind.i64.wrap ((f:Int)+(-16))=(f:Int)+2*(-8):=by rw [wr64 (by omega) (by omega)];omega
 have hsf:=HP.out.sq f h.pw.s1;have HTk:=Qh (fun w=>Jc p hB m h.on w);have hns:Ya (bAt p.B (f:Int))=false:=by unfold Ya;rw [Qak,show bAt p.B (f:Int)=p.B.getD f 0 from rfl,h.pw.kind];rfl
 have HF:=Qh (fun (i:Nat) (l:List Int)=>hit_first (B:=p.B) (s:=(f:Int)) (to:=(t:Int)) (i:=i) (l:=l));have HN:=Qh (Qag (to:=(t:Int)) hns);have HPos:=Qh (fun l (hl:l ∈ ofL (bAt p.B (f:Int)) (f:Int))=>(ofL_pos hl).1);have hbd:=hB.2 f h.pw.s1;have hwx:=Qaa hB h.pw.s1;have hx:bAt p.B (f:Int)=p.B.getD f 0:=rfl;rw [hx] at HF HN HPos;have HOf:=Qh (rof_is (p.B.getD f 0) (f:Int));have hx0:=hsf;have hfI:(f:Int)<64:=by have:=h.pw.s1;omega
 generalize hitB p.B (f:Int) (t:Int)=hb at *;generalize takeI p m=tk at *;generalize ofL (p.B.getD f 0) (f:Int)=L at *;generalize p.B.getD f 0=x0 at *;rw [h0] at hsq;have HV':Hid (pgoB p m=(hb && decide (0≤tk))):=by show _=_;have hq2':((t:Int) == (f:Int)+2*(-8))=true:=hq2;rw [HV.out,h0,hq,hq2',hs];simp
 clear HV;have HV:=HV';have HRk:=Qh (fun w=>Yo (f:Int) w (by omega) hfI);generalize (f:Int) / 8=rk at *;clear HV' h0;go_enter Tryz.func81,Tryz.ntmps81;go_wp2_with fail
 refine (HRk.out _).mono ?_;rintro e w9 ⟨rfl,rfl⟩;go_wp2;clear hq hq2;have HPr:=Qh HP.out;have HMr:=Qh HM.out;refine wp_region_held_drew (S:=Kept _) (by kernel_rfl) (Kept.refl _).drew (fun Qj=>?_);refine rT 0 60 (.pointer (some ⟨w.heap.size+1,0,none⟩)) rfl rfl Qj ?_;simp only [pA,pN,sZ,sU];refine rC 1 61 (.int .i64 (f:Int)) rfl rfl (fun _ h=>Qa h (hcf)) Qj ?_;simp only [pA,pN,sZ,sU];refine rT 2 62 (.pointer (some ⟨w.heap.size,0,none⟩)) rfl rfl Qj ?_;simp only [pA,pN,sZ,sU];refine rT 3 63 (.pointer (some ⟨w.heap.size,f,none⟩)) rfl rfl Qj ?_;simp only [pA,pN,sZ,sU];refine rC 4 64 (.int .i8 x0) rfl rfl (fun _ h=>Qa h (hx0)) Qj ?_;simp only [pA,pN,sZ,sU];refine rT 5 65 (.int .i64 x0) rfl rfl Qj ?_;simp only [pA,pN,sZ,sU];refine rT 6 66 (.pointer (some ⟨w.heap.size+1,0,none⟩)) rfl rfl Qj ?_;simp only [pA,pN,sZ,sU];refine rC 7 67 (.int .i64 (f:Int)) rfl rfl (fun _ h=>Qa h (hcf)) Qj ?_;simp only [pA,pN,sZ,sU];refine rR 8 rfl (fun K hK=>?_);go_simp;refine (HOf.out _).mono ?_;rintro e W ⟨v,rfl,hR,kW⟩;refine hK.out _ _ (Qj.trans kW) (fun _=>?_);replace Qj:=Qj.trans kW;clear hK K;refine rT 9 7 v rfl rfl Qj ?_;simp only [pA,pN,sZ,sU];refine wpAnyH_done (by kernel_rfl) ?_ _;have HKW:=Qh Qj;have HPW:=Qh (HP.out.kept Qj);have HMW:=Qh (MAt.kept HM.out Qj);have hctW:=Qa Qj hct;clear Qj kW hcf hx0 hct hsq htn HPr HMr;by_cases hL:0<L.length
 ·obtain ⟨g7,c7,rfl,hn1,hn2,hrow⟩:=hR.read hL
  unfold maxLen at hn2;have HRow:=Qh hrow;generalize hN:L.length=N at *;have HNN:=Qh hN;clear hR hrow hN;go_wp2
  go_loopw [8] (fun t8 wr=>∃ i:Nat,i≤N∧t8=.int .i64 i∧(∀ j l,j<i→L[j]?=some l→l[0]?≠some (t:Int))∧Kept W wr) (fun t8 _=>N-(intOf t8).toNat)
  case atStart=>exact ⟨0,by omega,rfl,fun j l hj=>by omega,Kept.refl _⟩
  case round =>
   obtain ⟨i,hi,rfl,hno,hK⟩:=hrel;have HNo:=Qh hno;have HK:=Qh hK;have hctR:=Qa hK hctW;clear hno;by_cases hlt:i<N
   ·have hlt':(i:Int)<(N:Int):=by omega
    obtain ⟨l,hl⟩:∃ l,L[i]?=some l:=⟨_,List.getElem?_eq_getElem (by have:=HNN.out;omega)⟩;obtain ⟨u,g,hcu,hls,_⟩:=HRow.out i l hl;have hpos:=HPos.out l (List.mem_of_getElem? hl);obtain ⟨y,hy⟩:∃ y,l[0]?=some y:=⟨_,List.getElem?_eq_getElem hpos⟩;obtain ⟨off,cu,rfl,hk1,hk2,hcell⟩:=hls.full hpos;have Hl:=Qh hl;have d1:=Qa hK (hcell 0 y hy);have d0:=Qa hK hcu;rw [Nat.add_zero] at d1;have HY:=Qh hy;have hbm:l.length≤9223372036854775807:=by unfold maxLen at hk2;omega
    have HMr:=Qh (MAt.kept HMW.out hK);have HPr:=Qh (HPW.out.kept hK);clear hl hy hcell hk1 hk2 hcu hls hK;generalize hM:l.length=M at *;clear hM;have hposI:(0:Int)<(M:Int):=by omega
    by_cases hto:y=(t:Int)
    ·have b0:(y == (t:Int))=true:=by simpa using hto
     have HE:=Qh (HF.out i l Hl.out (by rw [HY.out,hto]));clear hto;go_wp2;refine wp_region_held_drew (S:=Kept _) (by kernel_rfl) (Kept.refl _).drew (fun Qj=>?_);refine rT 0 75 (.slice (some ⟨g7,0,none⟩) N c7) rfl rfl Qj ?_;simp only [pA,pN,sZ,sU];refine rT 1 76 (.int .i64 (i:Int)) rfl rfl Qj ?_;simp only [pA,pN,sZ,sU];refine rT 2 77 (.pointer (some ⟨g7,i,none⟩)) rfl rfl Qj ?_;simp only [pA,pN,sZ,sU];refine rC 3 78 (.slice (some ⟨g,off,none⟩) M cu) rfl rfl (fun _ h=>Qa h (d0)) Qj ?_;simp only [pA,pN,sZ,sU];refine rT 4 79 (.pointer (some ⟨g,off,none⟩)) rfl rfl Qj ?_;simp only [pA,pN,sZ,sU];refine rC 5 80 (.int .i64 y) rfl rfl (fun _ h=>Qa h (d1)) Qj ?_;simp only [pA,pN,sZ,sU];refine rT 6 81 (.pointer (some ⟨w.heap.size+1,1,none⟩)) rfl rfl Qj ?_;simp only [pA,pN,sZ,sU];refine rC 7 82 (.int .i64 (t:Int)) rfl rfl (fun _ h=>Qa h (hctR)) Qj ?_;simp only [pA,pN,sZ,sU];refine rT 8 83 (.bool true) rfl rfl Qj ?_;simp only [pA,pN,sZ,sU];refine wpAnyH_done (by kernel_rfl) ?_ _;have HK2:=Qh (HK.out.trans Qj);have HM2:=Qh (MAt.kept HMr.out Qj);have HP2:=Qh (HPr.out.kept Qj);clear Qj;go_wp2_with (first|(refine Qc (by rfl) _ rfl _ rfl _ (HP2.out) ?_)|(refine Qd (by rfl) _ rfl _ rfl _ (HP2.out) ?_)|(refine Qe (by rfl) _ rfl _ rfl _ (HM2.out) ?_))
     refine (HTk.out _).mono ?_;rintro e w3 ⟨rfl,k3⟩;have HK3:=Qh (HK2.out.trans k3);clear k3;go_wp2;go_ret;exact ⟨by rw [HV.out,HE.out,Bool.true_and];rfl,(HK0.out.trans HKW.out).trans HK3.out⟩
    ·have b0:(y == (t:Int))=false:=by simpa using hto
     have HTo:=Qh hto;clear hto;go_wp2;refine wp_region_held_drew (S:=Kept _) (by kernel_rfl) (Kept.refl _).drew (fun Qj=>?_);refine rT 0 75 (.slice (some ⟨g7,0,none⟩) N c7) rfl rfl Qj ?_;simp only [Act.put,sA,sZ,sU];refine rT 1 76 (.int .i64 (i:Int)) rfl rfl Qj ?_;simp only [pA,pN,sZ,sU];refine rT 2 77 (.pointer (some ⟨g7,i,none⟩)) rfl rfl Qj ?_;simp only [pA,pN,sZ,sU];refine rC 3 78 (.slice (some ⟨g,off,none⟩) M cu) rfl rfl (fun _ h=>Qa h (d0)) Qj ?_;simp only [pA,pN,sZ,sU];refine rT 4 79 (.pointer (some ⟨g,off,none⟩)) rfl rfl Qj ?_;simp only [pA,pN,sZ,sU];refine rC 5 80 (.int .i64 y) rfl rfl (fun _ h=>Qa h (d1)) Qj ?_;simp only [pA,pN,sZ,sU];refine rT 6 81 (.pointer (some ⟨w.heap.size+1,1,none⟩)) rfl rfl Qj ?_;simp only [pA,pN,sZ,sU];refine rC 7 82 (.int .i64 (t:Int)) rfl rfl (fun _ h=>Qa h (hctR)) Qj ?_;simp only [pA,pN,sZ,sU];refine rT 8 83 (.bool false) rfl rfl Qj ?_;simp only [pA,pN,sZ,sU];refine wpAnyH_done (by kernel_rfl) ?_ _;have HK2:=Qh (HK.out.trans Qj);clear Qj;go_wp2;go_roundw
     case rel=>exact ⟨i+1,by omega,by go_num,fun j l' hj hl'=>by
      by_cases hji:j<i
      ·exact HNo.out j l' hji hl'
      ·obtain rfl:j=i:=by omega
       rw [Hl.out] at hl';rw [← Option.some.inj hl',HY.out];exact fun e=>HTo.out (Option.some.inj e),HK2.out⟩
     case measure=>simp [intOf];omega
   ·have hlt':¬ (i:Int)<(N:Int):=by omega
    have HE:=Qh (HN.out (fun j l hl=>HNo.out j l (by have:=(List.getElem?_eq_some_iff.1 hl).1;have:=HNN.out;omega) hl));clear hK;go_wp2;go_ret;exact ⟨by rw [HV.out,HE.out,Bool.false_and];rfl,(HK0.out.trans HKW.out).trans HK.out⟩
 ·have h0:L=[]:=List.eq_nil_of_length_eq_zero (by omega)
  have HE:=Qh (HN.out (fun j l hl=>by rw [h0] at hl;simp at hl));subst h0;obtain ⟨a7,c7,rfl⟩:=hR.slice;clear hR;go_wp2
  go_loopw [8] (fun t8 wr=>t8=.int .i64 0∧wr=W) (fun _ _=>0)
  case atStart=>exact ⟨rfl,rfl⟩
  case round =>
   obtain ⟨rfl,rfl⟩:=hrel;go_wp2;go_ret;exact ⟨by rw [HV.out,HE.out,Bool.false_and];rfl,HK0.out.trans HKW.out⟩
set_option maxHeartbeats 4000000 in
theorem rpgo_b4 (p:Ps) (m:Mv) (f t:Nat) (h:Pf p m f t) (hp:p.t=1) (h0:p.B.getD t 0=0) (hq:((t:Int) == (f:Int)+(-8))=false) (hq2:((t:Int) == (f:Int)+(-16))=false) (w:World) :
  Calls Tryz.prog 81 #[.agg (pl p).toArray,.agg (ml m).toArray] w fun e w'=>e=.returned (.bool (pgoB p m))∧Kept w w':=by
 have hB:=h.pw.brd;have HP:Hid (PAt _ _ p):=⟨hB.1,heap_alloc2_old w (.cells (pl p).toArray 26) (.cells (ml m).toArray 28)⟩;have HM:Hid (MAt _ _ m):=⟨heap_alloc2_new w (.cells (pl p).toArray 26) (.cells (ml m).toArray 28)⟩;have HK0:=Qh (((Kept.refl w).alloc (.cells (pl p).toArray 26)).alloc (.cells (ml m).toArray 28));have hcf:=HM.out.f;have hct:=HM.out.t;rw [h.hf] at hcf;rw [h.ht] at hct;have htn:=HP.out.turn;rw [hp] at htn;have hsq:=HP.out.sq t h.t1;have hrk:=h.pw.rank;have ht1:=h.t1;have HV:=Qh (Qap h (-8) 6 (by rw [hp];rfl) (by rw [hp];rfl));have htI:(t:Int)<64:=by omega
 have hw1:IntKind.i64.wrap ((f:Int)+(-8))=(f:Int)+(-8):=wr64 (by omega) (by omega);have hw2:IntKind.i64.wrap ((f:Int)+(-16))=(f:Int)+2*(-8):=by rw [wr64 (by omega) (by omega)];omega
 have hsf:=HP.out.sq f h.pw.s1;have HTk:=Qh (fun w=>Jc p hB m h.on w);have hns:Ya (bAt p.B (f:Int))=false:=by unfold Ya;rw [Qak,show bAt p.B (f:Int)=p.B.getD f 0 from rfl,h.pw.kind];rfl
 have HF:=Qh (fun (i:Nat) (l:List Int)=>hit_first (B:=p.B) (s:=(f:Int)) (to:=(t:Int)) (i:=i) (l:=l));have HN:=Qh (Qag (to:=(t:Int)) hns);have HPos:=Qh (fun l (hl:l ∈ ofL (bAt p.B (f:Int)) (f:Int))=>(ofL_pos hl).1);have hbd:=hB.2 f h.pw.s1;have hwx:=Qaa hB h.pw.s1;have hx:bAt p.B (f:Int)=p.B.getD f 0:=rfl;rw [hx] at HF HN HPos;have HOf:=Qh (rof_is (p.B.getD f 0) (f:Int));have hx0:=hsf;have hfI:(f:Int)<64:=by have:=h.pw.s1;omega
 generalize hitB p.B (f:Int) (t:Int)=hb at *;generalize takeI p m=tk at *;generalize ofL (p.B.getD f 0) (f:Int)=L at *;generalize p.B.getD f 0=x0 at *;rw [h0] at hsq;have HV':Hid (pgoB p m=(hb && decide (0≤tk))):=by show _=_;have hq2':((t:Int) == (f:Int)+2*(-8))=false:=hq2;rw [HV.out,h0,hq,hq2'];simp
 clear HV;have HV:=HV';clear HV' h0;go_enter Tryz.func81,Tryz.ntmps81;go_wp2;clear hq hq2;have HPr:=Qh HP.out;have HMr:=Qh HM.out;refine wp_region_held_drew (S:=Kept _) (by kernel_rfl) (Kept.refl _).drew (fun Qj=>?_);refine rT 0 60 (.pointer (some ⟨w.heap.size+1,0,none⟩)) rfl rfl Qj ?_;simp only [pA,pN,sZ,sU];refine rC 1 61 (.int .i64 (f:Int)) rfl rfl (fun _ h=>Qa h (hcf)) Qj ?_;simp only [pA,pN,sZ,sU];refine rT 2 62 (.pointer (some ⟨w.heap.size,0,none⟩)) rfl rfl Qj ?_;simp only [pA,pN,sZ,sU];refine rT 3 63 (.pointer (some ⟨w.heap.size,f,none⟩)) rfl rfl Qj ?_;simp only [pA,pN,sZ,sU];refine rC 4 64 (.int .i8 x0) rfl rfl (fun _ h=>Qa h (hx0)) Qj ?_;simp only [pA,pN,sZ,sU];refine rT 5 65 (.int .i64 x0) rfl rfl Qj ?_;simp only [pA,pN,sZ,sU];refine rT 6 66 (.pointer (some ⟨w.heap.size+1,0,none⟩)) rfl rfl Qj ?_;simp only [pA,pN,sZ,sU];refine rC 7 67 (.int .i64 (f:Int)) rfl rfl (fun _ h=>Qa h (hcf)) Qj ?_;simp only [pA,pN,sZ,sU];refine rR 8 rfl (fun K hK=>?_);go_simp;refine (HOf.out _).mono ?_;rintro e W ⟨v,rfl,hR,kW⟩;refine hK.out _ _ (Qj.trans kW) (fun _=>?_);replace Qj:=Qj.trans kW;clear hK K;refine rT 9 7 v rfl rfl Qj ?_;simp only [pA,pN,sZ,sU];refine wpAnyH_done (by kernel_rfl) ?_ _;have HKW:=Qh Qj;have HPW:=Qh (HP.out.kept Qj);have HMW:=Qh (MAt.kept HM.out Qj);have hctW:=Qa Qj hct;clear Qj kW hcf hx0 hct hsq htn HPr HMr;by_cases hL:0<L.length
 ·obtain ⟨g7,c7,rfl,hn1,hn2,hrow⟩:=hR.read hL
  unfold maxLen at hn2;have HRow:=Qh hrow;generalize hN:L.length=N at *;have HNN:=Qh hN;clear hR hrow hN;go_wp2
  go_loopw [8] (fun t8 wr=>∃ i:Nat,i≤N∧t8=.int .i64 i∧(∀ j l,j<i→L[j]?=some l→l[0]?≠some (t:Int))∧Kept W wr) (fun t8 _=>N-(intOf t8).toNat)
  case atStart=>exact ⟨0,by omega,rfl,fun j l hj=>by omega,Kept.refl _⟩
  case round =>
   obtain ⟨i,hi,rfl,hno,hK⟩:=hrel;have HNo:=Qh hno;have HK:=Qh hK;have hctR:=Qa hK hctW;clear hno;by_cases hlt:i<N
   ·have hlt':(i:Int)<(N:Int):=by omega
    obtain ⟨l,hl⟩:∃ l,L[i]?=some l:=⟨_,List.getElem?_eq_getElem (by have:=HNN.out;omega)⟩;obtain ⟨u,g,hcu,hls,_⟩:=HRow.out i l hl;have hpos:=HPos.out l (List.mem_of_getElem? hl);obtain ⟨y,hy⟩:∃ y,l[0]?=some y:=⟨_,List.getElem?_eq_getElem hpos⟩;obtain ⟨off,cu,rfl,hk1,hk2,hcell⟩:=hls.full hpos;have Hl:=Qh hl;have d1:=Qa hK (hcell 0 y hy);have d0:=Qa hK hcu;rw [Nat.add_zero] at d1;have HY:=Qh hy;have hbm:l.length≤9223372036854775807:=by unfold maxLen at hk2;omega
    have HMr:=Qh (MAt.kept HMW.out hK);have HPr:=Qh (HPW.out.kept hK);clear hl hy hcell hk1 hk2 hcu hls hK;generalize hM:l.length=M at *;clear hM;have hposI:(0:Int)<(M:Int):=by omega
    by_cases hto:y=(t:Int)
    ·have b0:(y == (t:Int))=true:=by simpa using hto
     have HE:=Qh (HF.out i l Hl.out (by rw [HY.out,hto]));clear hto;go_wp2;refine wp_region_held_drew (S:=Kept _) (by kernel_rfl) (Kept.refl _).drew (fun Qj=>?_);refine rT 0 75 (.slice (some ⟨g7,0,none⟩) N c7) rfl rfl Qj ?_;simp only [pA,pN,sZ,sU];refine rT 1 76 (.int .i64 (i:Int)) rfl rfl Qj ?_;simp only [pA,pN,sZ,sU];refine rT 2 77 (.pointer (some ⟨g7,i,none⟩)) rfl rfl Qj ?_;simp only [pA,pN,sZ,sU];refine rC 3 78 (.slice (some ⟨g,off,none⟩) M cu) rfl rfl (fun _ h=>Qa h (d0)) Qj ?_;simp only [pA,pN,sZ,sU];refine rT 4 79 (.pointer (some ⟨g,off,none⟩)) rfl rfl Qj ?_;simp only [pA,pN,sZ,sU];refine rC 5 80 (.int .i64 y) rfl rfl (fun _ h=>Qa h (d1)) Qj ?_;simp only [pA,pN,sZ,sU];refine rT 6 81 (.pointer (some ⟨w.heap.size+1,1,none⟩)) rfl rfl Qj ?_;simp only [pA,pN,sZ,sU];refine rC 7 82 (.int .i64 (t:Int)) rfl rfl (fun _ h=>Qa h (hctR)) Qj ?_;simp only [pA,pN,sZ,sU];refine rT 8 83 (.bool true) rfl rfl Qj ?_;simp only [pA,pN,sZ,sU];refine wpAnyH_done (by kernel_rfl) ?_ _;have HK2:=Qh (HK.out.trans Qj);have HM2:=Qh (MAt.kept HMr.out Qj);have HP2:=Qh (HPr.out.kept Qj);clear Qj;go_wp2_with (first|(refine Qc (by rfl) _ rfl _ rfl _ (HP2.out) ?_)|(refine Qd (by rfl) _ rfl _ rfl _ (HP2.out) ?_)|(refine Qe (by rfl) _ rfl _ rfl _ (HM2.out) ?_))
     refine (HTk.out _).mono ?_;rintro e w3 ⟨rfl,k3⟩;have HK3:=Qh (HK2.out.trans k3);clear k3;go_wp2;go_ret;exact ⟨by rw [HV.out,HE.out,Bool.true_and];rfl,(HK0.out.trans HKW.out).trans HK3.out⟩
    ·have b0:(y == (t:Int))=false:=by simpa using hto
     have HTo:=Qh hto;clear hto;go_wp2;refine wp_region_held_drew (S:=Kept _) (by kernel_rfl) (Kept.refl _).drew (fun Qj=>?_);refine rT 0 75 (.slice (some ⟨g7,0,none⟩) N c7) rfl rfl Qj ?_;simp only [Act.put,sA,sZ,sU];refine rT 1 76 (.int .i64 (i:Int)) rfl rfl Qj ?_;simp only [pA,pN,sZ,sU];refine rT 2 77 (.pointer (some ⟨g7,i,none⟩)) rfl rfl Qj ?_;simp only [pA,pN,sZ,sU];refine rC 3 78 (.slice (some ⟨g,off,none⟩) M cu) rfl rfl (fun _ h=>Qa h (d0)) Qj ?_;simp only [pA,pN,sZ,sU];refine rT 4 79 (.pointer (some ⟨g,off,none⟩)) rfl rfl Qj ?_;simp only [pA,pN,sZ,sU];refine rC 5 80 (.int .i64 y) rfl rfl (fun _ h=>Qa h (d1)) Qj ?_;simp only [pA,pN,sZ,sU];refine rT 6 81 (.pointer (some ⟨w.heap.size+1,1,none⟩)) rfl rfl Qj ?_;simp only [pA,pN,sZ,sU];refine rC 7 82 (.int .i64 (t:Int)) rfl rfl (fun _ h=>Qa h (hctR)) Qj ?_;simp only [pA,pN,sZ,sU];refine rT 8 83 (.bool false) rfl rfl Qj ?_;simp only [pA,pN,sZ,sU];refine wpAnyH_done (by kernel_rfl) ?_ _;have HK2:=Qh (HK.out.trans Qj);clear Qj;go_wp2;go_roundw
     case rel=>exact ⟨i+1,by omega,by go_num,fun j l' hj hl'=>by
      by_cases hji:j<i
      ·exact HNo.out j l' hji hl'
      ·obtain rfl:j=i:=by omega
       rw [Hl.out] at hl';rw [← Option.some.inj hl',HY.out];exact fun e=>HTo.out (Option.some.inj e),HK2.out⟩
     case measure=>simp [intOf];omega
   ·have hlt':¬ (i:Int)<(N:Int):=by omega
    have HE:=Qh (HN.out (fun j l hl=>HNo.out j l (by have:=(List.getElem?_eq_some_iff.1 hl).1;have:=HNN.out;omega) hl));clear hK;go_wp2;go_ret;exact ⟨by rw [HV.out,HE.out,Bool.false_and];rfl,(HK0.out.trans HKW.out).trans HK.out⟩
 ·have h0:L=[]:=List.eq_nil_of_length_eq_zero (by omega)
  have HE:=Qh (HN.out (fun j l hl=>by rw [h0] at hl;simp at hl));subst h0;obtain ⟨a7,c7,rfl⟩:=hR.slice;clear hR;go_wp2
  go_loopw [8] (fun t8 wr=>t8=.int .i64 0∧wr=W) (fun _ _=>0)
  case atStart=>exact ⟨rfl,rfl⟩
  case round =>
   obtain ⟨rfl,rfl⟩:=hrel;go_wp2;go_ret;exact ⟨by rw [HV.out,HE.out,Bool.false_and];rfl,HK0.out.trans HKW.out⟩
set_option maxHeartbeats 4000000 in
theorem rpgo_b5 (p:Ps) (m:Mv) (f t:Nat) (h:Pf p m f t) (hp:p.t=1) (h0:(p.B.getD t 0 == 0)=false) (w:World) :
  Calls Tryz.prog 81 #[.agg (pl p).toArray,.agg (ml m).toArray] w fun e w'=>e=.returned (.bool (pgoB p m))∧Kept w w':=by
 have hB:=h.pw.brd;have HP:Hid (PAt _ _ p):=⟨hB.1,heap_alloc2_old w (.cells (pl p).toArray 26) (.cells (ml m).toArray 28)⟩;have HM:Hid (MAt _ _ m):=⟨heap_alloc2_new w (.cells (pl p).toArray 26) (.cells (ml m).toArray 28)⟩;have HK0:=Qh (((Kept.refl w).alloc (.cells (pl p).toArray 26)).alloc (.cells (ml m).toArray 28));have hcf:=HM.out.f;have hct:=HM.out.t;rw [h.hf] at hcf;rw [h.ht] at hct;have htn:=HP.out.turn;rw [hp] at htn;have hsq:=HP.out.sq t h.t1;have hrk:=h.pw.rank;have ht1:=h.t1;have HV:=Qh (Qap h (-8) 6 (by rw [hp];rfl) (by rw [hp];rfl));have htI:(t:Int)<64:=by omega
 have hw1:IntKind.i64.wrap ((f:Int)+(-8))=(f:Int)+(-8):=wr64 (by omega) (by omega);have hw2:IntKind.i64.wrap ((f:Int)+(-16))=(f:Int)+2*(-8):=by rw [wr64 (by omega) (by omega)];omega
 have hsf:=HP.out.sq f h.pw.s1;have HTk:=Qh (fun w=>Jc p hB m h.on w);have hns:Ya (bAt p.B (f:Int))=false:=by unfold Ya;rw [Qak,show bAt p.B (f:Int)=p.B.getD f 0 from rfl,h.pw.kind];rfl
 have HF:=Qh (fun (i:Nat) (l:List Int)=>hit_first (B:=p.B) (s:=(f:Int)) (to:=(t:Int)) (i:=i) (l:=l));have HN:=Qh (Qag (to:=(t:Int)) hns);have HPos:=Qh (fun l (hl:l ∈ ofL (bAt p.B (f:Int)) (f:Int))=>(ofL_pos hl).1);have hbd:=hB.2 f h.pw.s1;have hwx:=Qaa hB h.pw.s1;have hx:bAt p.B (f:Int)=p.B.getD f 0:=rfl;rw [hx] at HF HN HPos;have HOf:=Qh (rof_is (p.B.getD f 0) (f:Int));have hx0:=hsf;have hfI:(f:Int)<64:=by have:=h.pw.s1;omega
 generalize hitB p.B (f:Int) (t:Int)=hb at *;generalize takeI p m=tk at *;generalize ofL (p.B.getD f 0) (f:Int)=L at *;generalize p.B.getD f 0=x0 at *;generalize p.B.getD t 0=x1 at *;have HV':Hid (pgoB p m=(hb && decide (0≤tk))):=by show _=_;rw [HV.out,h0];simp
 clear HV;have HV:=HV';clear HV';go_enter Tryz.func81,Tryz.ntmps81;go_wp2;have HPr:=Qh HP.out;have HMr:=Qh HM.out;refine wp_region_held_drew (S:=Kept _) (by kernel_rfl) (Kept.refl _).drew (fun Qj=>?_);refine rT 0 60 (.pointer (some ⟨w.heap.size+1,0,none⟩)) rfl rfl Qj ?_;simp only [pA,pN,sZ,sU];refine rC 1 61 (.int .i64 (f:Int)) rfl rfl (fun _ h=>Qa h (hcf)) Qj ?_;simp only [pA,pN,sZ,sU];refine rT 2 62 (.pointer (some ⟨w.heap.size,0,none⟩)) rfl rfl Qj ?_;simp only [pA,pN,sZ,sU];refine rT 3 63 (.pointer (some ⟨w.heap.size,f,none⟩)) rfl rfl Qj ?_;simp only [pA,pN,sZ,sU];refine rC 4 64 (.int .i8 x0) rfl rfl (fun _ h=>Qa h (hx0)) Qj ?_;simp only [pA,pN,sZ,sU];refine rT 5 65 (.int .i64 x0) rfl rfl Qj ?_;simp only [pA,pN,sZ,sU];refine rT 6 66 (.pointer (some ⟨w.heap.size+1,0,none⟩)) rfl rfl Qj ?_;simp only [pA,pN,sZ,sU];refine rC 7 67 (.int .i64 (f:Int)) rfl rfl (fun _ h=>Qa h (hcf)) Qj ?_;simp only [pA,pN,sZ,sU];refine rR 8 rfl (fun K hK=>?_);go_simp;refine (HOf.out _).mono ?_;rintro e W ⟨v,rfl,hR,kW⟩;refine hK.out _ _ (Qj.trans kW) (fun _=>?_);replace Qj:=Qj.trans kW;clear hK K;refine rT 9 7 v rfl rfl Qj ?_;simp only [pA,pN,sZ,sU];refine wpAnyH_done (by kernel_rfl) ?_ _;have HKW:=Qh Qj;have HPW:=Qh (HP.out.kept Qj);have HMW:=Qh (MAt.kept HM.out Qj);have hctW:=Qa Qj hct;clear Qj kW hcf hx0 hct hsq htn HPr HMr;by_cases hL:0<L.length
 ·obtain ⟨g7,c7,rfl,hn1,hn2,hrow⟩:=hR.read hL
  unfold maxLen at hn2;have HRow:=Qh hrow;generalize hN:L.length=N at *;have HNN:=Qh hN;clear hR hrow hN;go_wp2
  go_loopw [8] (fun t8 wr=>∃ i:Nat,i≤N∧t8=.int .i64 i∧(∀ j l,j<i→L[j]?=some l→l[0]?≠some (t:Int))∧Kept W wr) (fun t8 _=>N-(intOf t8).toNat)
  case atStart=>exact ⟨0,by omega,rfl,fun j l hj=>by omega,Kept.refl _⟩
  case round =>
   obtain ⟨i,hi,rfl,hno,hK⟩:=hrel;have HNo:=Qh hno;have HK:=Qh hK;have hctR:=Qa hK hctW;clear hno;by_cases hlt:i<N
   ·have hlt':(i:Int)<(N:Int):=by omega
    obtain ⟨l,hl⟩:∃ l,L[i]?=some l:=⟨_,List.getElem?_eq_getElem (by have:=HNN.out;omega)⟩;obtain ⟨u,g,hcu,hls,_⟩:=HRow.out i l hl;have hpos:=HPos.out l (List.mem_of_getElem? hl);obtain ⟨y,hy⟩:∃ y,l[0]?=some y:=⟨_,List.getElem?_eq_getElem hpos⟩;obtain ⟨off,cu,rfl,hk1,hk2,hcell⟩:=hls.full hpos;have Hl:=Qh hl;have d1:=Qa hK (hcell 0 y hy);have d0:=Qa hK hcu;rw [Nat.add_zero] at d1;have HY:=Qh hy;have hbm:l.length≤9223372036854775807:=by unfold maxLen at hk2;omega
    have HMr:=Qh (MAt.kept HMW.out hK);have HPr:=Qh (HPW.out.kept hK);clear hl hy hcell hk1 hk2 hcu hls hK;generalize hM:l.length=M at *;clear hM;have hposI:(0:Int)<(M:Int):=by omega
    by_cases hto:y=(t:Int)
    ·have b0:(y == (t:Int))=true:=by simpa using hto
     have HE:=Qh (HF.out i l Hl.out (by rw [HY.out,hto]));clear hto;go_wp2;refine wp_region_held_drew (S:=Kept _) (by kernel_rfl) (Kept.refl _).drew (fun Qj=>?_);refine rT 0 75 (.slice (some ⟨g7,0,none⟩) N c7) rfl rfl Qj ?_;simp only [pA,pN,sZ,sU];refine rT 1 76 (.int .i64 (i:Int)) rfl rfl Qj ?_;simp only [pA,pN,sZ,sU];refine rT 2 77 (.pointer (some ⟨g7,i,none⟩)) rfl rfl Qj ?_;simp only [pA,pN,sZ,sU];refine rC 3 78 (.slice (some ⟨g,off,none⟩) M cu) rfl rfl (fun _ h=>Qa h (d0)) Qj ?_;simp only [pA,pN,sZ,sU];refine rT 4 79 (.pointer (some ⟨g,off,none⟩)) rfl rfl Qj ?_;simp only [pA,pN,sZ,sU];refine rC 5 80 (.int .i64 y) rfl rfl (fun _ h=>Qa h (d1)) Qj ?_;simp only [pA,pN,sZ,sU];refine rT 6 81 (.pointer (some ⟨w.heap.size+1,1,none⟩)) rfl rfl Qj ?_;simp only [pA,pN,sZ,sU];refine rC 7 82 (.int .i64 (t:Int)) rfl rfl (fun _ h=>Qa h (hctR)) Qj ?_;simp only [pA,pN,sZ,sU];refine rT 8 83 (.bool true) rfl rfl Qj ?_;simp only [pA,pN,sZ,sU];refine wpAnyH_done (by kernel_rfl) ?_ _;have HK2:=Qh (HK.out.trans Qj);have HM2:=Qh (MAt.kept HMr.out Qj);have HP2:=Qh (HPr.out.kept Qj);clear Qj;go_wp2_with (first|(refine Qc (by rfl) _ rfl _ rfl _ (HP2.out) ?_)|(refine Qd (by rfl) _ rfl _ rfl _ (HP2.out) ?_)|(refine Qe (by rfl) _ rfl _ rfl _ (HM2.out) ?_))
     refine (HTk.out _).mono ?_;rintro e w3 ⟨rfl,k3⟩;have HK3:=Qh (HK2.out.trans k3);clear k3;go_wp2;go_ret;exact ⟨by rw [HV.out,HE.out,Bool.true_and];rfl,(HK0.out.trans HKW.out).trans HK3.out⟩
    ·have b0:(y == (t:Int))=false:=by simpa using hto
     have HTo:=Qh hto;clear hto;go_wp2;refine wp_region_held_drew (S:=Kept _) (by kernel_rfl) (Kept.refl _).drew (fun Qj=>?_);refine rT 0 75 (.slice (some ⟨g7,0,none⟩) N c7) rfl rfl Qj ?_;simp only [Act.put,sA,sZ,sU];refine rT 1 76 (.int .i64 (i:Int)) rfl rfl Qj ?_;simp only [pA,pN,sZ,sU];refine rT 2 77 (.pointer (some ⟨g7,i,none⟩)) rfl rfl Qj ?_;simp only [pA,pN,sZ,sU];refine rC 3 78 (.slice (some ⟨g,off,none⟩) M cu) rfl rfl (fun _ h=>Qa h (d0)) Qj ?_;simp only [pA,pN,sZ,sU];refine rT 4 79 (.pointer (some ⟨g,off,none⟩)) rfl rfl Qj ?_;simp only [pA,pN,sZ,sU];refine rC 5 80 (.int .i64 y) rfl rfl (fun _ h=>Qa h (d1)) Qj ?_;simp only [pA,pN,sZ,sU];refine rT 6 81 (.pointer (some ⟨w.heap.size+1,1,none⟩)) rfl rfl Qj ?_;simp only [pA,pN,sZ,sU];refine rC 7 82 (.int .i64 (t:Int)) rfl rfl (fun _ h=>Qa h (hctR)) Qj ?_;simp only [pA,pN,sZ,sU];refine rT 8 83 (.bool false) rfl rfl Qj ?_;simp only [pA,pN,sZ,sU];refine wpAnyH_done (by kernel_rfl) ?_ _;have HK2:=Qh (HK.out.trans Qj);clear Qj;go_wp2;go_roundw
     case rel=>exact ⟨i+1,by omega,by go_num,fun j l' hj hl'=>by
      by_cases hji:j<i
      ·exact HNo.out j l' hji hl'
      ·obtain rfl:j=i:=by omega
       rw [Hl.out] at hl';rw [← Option.some.inj hl',HY.out];exact fun e=>HTo.out (Option.some.inj e),HK2.out⟩
     case measure=>simp [intOf];omega
   ·have hlt':¬ (i:Int)<(N:Int):=by omega
    have HE:=Qh (HN.out (fun j l hl=>HNo.out j l (by have:=(List.getElem?_eq_some_iff.1 hl).1;have:=HNN.out;omega) hl));clear hK;go_wp2;go_ret;exact ⟨by rw [HV.out,HE.out,Bool.false_and];rfl,(HK0.out.trans HKW.out).trans HK.out⟩
 ·have h0:L=[]:=List.eq_nil_of_length_eq_zero (by omega)
  have HE:=Qh (HN.out (fun j l hl=>by rw [h0] at hl;simp at hl));subst h0;obtain ⟨a7,c7,rfl⟩:=hR.slice;clear hR;go_wp2
  go_loopw [8] (fun t8 wr=>t8=.int .i64 0∧wr=W) (fun _ _=>0)
  case atStart=>exact ⟨rfl,rfl⟩
  case round =>
   obtain ⟨rfl,rfl⟩:=hrel;go_wp2;go_ret;exact ⟨by rw [HV.out,HE.out,Bool.false_and];rfl,HK0.out.trans HKW.out⟩
theorem rpgo_is (p:Ps) (m:Mv) (f t:Nat) (h:Pf p m f t) (w:World) :
  Calls Tryz.prog 81 #[.agg (pl p).toArray,.agg (ml m).toArray] w fun e w'=>e=.returned (.bool (pgoB p m))∧Kept w w':=by
 rcases h.pw.turn with ⟨hp,_⟩|⟨hp,_⟩
 ·cases h0:(p.B.getD t 0 == 0)
  ·exact rpgo_w5 p m f t h hp h0 w
  ·have h0':=beq_iff_eq.1 h0
   cases hq:((t:Int) == (f:Int)+(8))
   ·cases hq2:((t:Int) == (f:Int)+(16))
    ·exact rpgo_w4 p m f t h hp h0' hq hq2 w
    ·cases hs:((f:Int) / 8 == 1)
     ·exact rpgo_w3 p m f t h hp h0' hq hq2 hs w
     ·exact rpgo_w2 p m f t h hp h0' hq hq2 hs w
   ·exact rpgo_w1 p m f t h hp h0' hq w
 ·cases h0:(p.B.getD t 0 == 0)
  ·exact rpgo_b5 p m f t h hp h0 w
  ·have h0':=beq_iff_eq.1 h0
   cases hq:((t:Int) == (f:Int)+(-8))
   ·cases hq2:((t:Int) == (f:Int)+(-16))
    ·exact rpgo_b4 p m f t h hp h0' hq hq2 w
    ·cases hs:((f:Int) / 8 == 6)
     ·exact rpgo_b3 p m f t h hp h0' hq hq2 hs w
     ·exact rpgo_b2 p m f t h hp h0' hq hq2 hs w
   ·exact rpgo_b1 p m f t h hp h0' hq w
end Go.Proofs.YtlpeiolgcaddjaaGreatDoor
