/- GeP: my texts, in their order. -/
import Derived.Test.YtlpeiolgcaddjaaGreatDoorPkGg
namespace Go.Proofs.YtlpeiolgcaddjaaGreatDoor
open Go.RowKit
set_option linter.unusedVariables false
set_option linter.unusedSimpArgs false
set_option maxRecDepth 100000
theorem RAt.beside {w w':World} {g b':Nat} {l:List Value} {T:TypeId} {vm:Value} {M:List Mv} (h:RAt w g l T) (hT:T≠28) (hm:OwnM w b' vm M) (hg:w.grownBy w' vm.ownBlock):RAt w' g l T:=by
 refine ⟨(hg.block g (Yc h.at_) (fun e=>?_)).trans h.at_⟩;rcases hm.2 with ⟨q,_⟩|⟨gm,cm,curm,q1,_,q3,_⟩
 ·rw [q] at e;cases e
 ·rw [q1] at e
  have:g=gm:=by simpa [Value.ownBlock] using e
  have h2:=h.at_;rw [this,q3] at h2;simp at h2;exact hT h2.2.symm
theorem wpList_load_mvu {ops:Array Oper} {rest:List Oper} {op:Oper} {a:Act} {w:World} {Q:Exit→Act→World→Prop} (hgd:op.guard=none) (x:Operand) (ho:op.op=.load 28 x)
  (g:Nat) (hx:a.eval x=.pointer (some ⟨g,0,none⟩)) (m:Mv) (hg:MAt w g m)
  (h:wpList Tryz.prog ops Q rest (a.put op.dst (.agg (ml m).toArray)) w):wpList Tryz.prog ops Q (op::rest) a w :=
 wpList_plain hgd fun _ hK=>wp_load_mid 28 x ho g 0 hx (ml m) _ (RAt.range hg) Tryz.underlying28 rfl sizeM (hK _ _ h)
def toQ (p:Ps) (f n:Nat):List Mv:=(List.range n).flatMap (toN p f)
theorem toQ_succ (p:Ps) (f n:Nat):toQ p f (n+1)=toQ p f n++toN p f n:=by simp [toQ,List.range_succ]
theorem toQ_len (p:Ps) (f n:Nat):(toQ p f n).length≤6*n:=by
 have:=flatM_len (toN p f) 6 (toN_len p f) (List.range n);rw [List.length_range] at this;exact this
def toP (p:Ps) (f t j:Nat):List Mv:=((prK.take j).map fun k=>(⟨(f:Int),(t:Int),k⟩:Mv)).filter (goesM p)
theorem toP_end (p:Ps) (f t:Nat):toP p f t 6=toN p f t:=rfl
theorem prK_at {j:Nat} (h:j<6):prK[j]?=some (5-(j:Int)):=by
 have:j=0∨j=1∨j=2∨j=3∨j=4∨j=5:=by omega
 rcases this with rfl|rfl|rfl|rfl|rfl|rfl <;> rfl
theorem toP_yes {p:Ps} {f t j:Nat} {q:Int} (hj:j<6) (hq:q=5-(j:Int)) (h:goesM p ⟨f,t,q⟩=true):toP p f t (j+1)=toP p f t j++[⟨f,t,q⟩]:=by
 unfold toP;rw [List.take_add_one,prK_at hj,← hq];simp [h]
theorem toP_no {p:Ps} {f t j:Nat} {q:Int} (hj:j<6) (hq:q=5-(j:Int)) (h:goesM p ⟨f,t,q⟩=false):toP p f t (j+1)=toP p f t j:=by
 unfold toP;rw [List.take_add_one,prK_at hj,← hq];simp [h]
theorem toP_len (p:Ps) (f t j:Nat):(toP p f t j).length≤6:=by
 unfold toP;refine Nat.le_trans (List.length_filter_le _ _) ?_;rw [List.length_map,List.length_take];exact Nat.min_le_right _ _
set_option maxHeartbeats 8000000 in
theorem rall_is (p:Ps) (hB:Brd p.B) (hr:pwI p=0) (w:World):Calls Tryz.prog 47 #[.agg (pl p).toArray] w (NewM w (allL p)):=by
 have HP:=Qh (PAt.new w hB.1);have HK0:=Qh ((Kept.refl w).alloc (.cells (pl p).toArray 26));obtain ⟨W,eW⟩:∃ W,W=w.alloc (.cells (pl p).toArray 26):=⟨_,rfl⟩;have HW:=Qh eW;rw [← eW] at HP HK0;have HFo:=Qh (fun m w=>rformed_is p hB (Qt hr).1 m w);have HB:=Qh hB;have HRi:=Qh hr;have HV:Hid (allL p=allN p 64):=by rfl
 have t01:=Qh (Qt hr).1;clear hB hr eW;go_enter Tryz.func47,Tryz.ntmps47;go_wp2;rw [← HW.out]
 go_loopw [3,4] (fun t3 t4 wr=>∃ f:Nat,f≤64∧t4=.int .i64 f∧OwnM wr W.heap.size t3 (allN p f)∧Kept W wr) (fun _ t4 _=>64-(intOf t4).toNat)
 case atStart=>exact ⟨0,by omega,rfl,OwnM.nil _ _,Kept.refl _⟩
 case round =>
  obtain ⟨f,hf,rfl,hO,hK⟩:=hrel;obtain ⟨ao,co,rfl⟩:=hO.slice;have HO0:=Qh hO;have HK00:=Qh hK;have HPr:=Qh (HP.out.kept hK);generalize hln:(allN p f).length=q0 at *;have HQ0:=Qh hln;clear hO hK hln;by_cases hlt:f<64
  ·have hlt':(f:Int)<64:=by omega
   have hsq:=HPr.out.sq f hlt;by_cases h0:p.B.getD f 0=0
   ·rw [h0] at hsq
    have HNo:Hid (allN p (f+1)=allN p f):=by
     show _=_;rw [allN_succ,from_none (by unfold manA bAt;rw [if_pos (by omega),Int.toNat_natCast,h0,side_zero];have:=t01.out;omega),List.append_nil]
    clear h0;go_wp2;go_roundw
    case rel=>exact ⟨f+1,by omega,by go_num,by rw [HNo.out];exact HO0.out,HK00.out⟩
    case measure=>simp [intOf];omega
   ·have hb0:(p.B.getD f 0 == 0)=false:=beq_eq_false_iff_ne.2 h0
    have HSt:=Qh (fun w=>struckR_is p.B HB.out f hlt w);have HPw:=Qh (fun w=>Jn p.B HB.out f hlt w);have HS:=Qh (allN_succ p f);have HAl:=Qh (allN_len p f);have Hkk:Hid (∃ kk,(kindI (p.B.getD f 0) == 1)=kk):=⟨_,rfl⟩;generalize hA:allN p f=A at *;clear h0 hA;generalize hxx:p.B.getD f 0=xx at hsq hb0;clear hxx;go_wp2_with (refine Qd (by rfl) _ rfl _ rfl _ HPr.out ?_)
    refine (HSt.out _).mono ?_;rintro e w1 ⟨rfl,k1⟩;have HKa:=Qh ((HK00.out.trans k1).alloc (.cells (hitL (Jv p.B (f:Int))).toArray 90));have HOa:=Qh ((HO0.out.kept k1).kept ((Kept.refl w1).alloc (.cells (hitL (Jv p.B (f:Int))).toArray 90)));have HAa:Hid (RAt (w1.alloc (.cells (hitL (Jv p.B (f:Int))).toArray 90)) w1.heap.size (hitL (Jv p.B (f:Int))) 90):=⟨heap_alloc_new w1 _⟩;clear k1 hsq;go_wp2_with (first|(with_reducible refine wpList_new_ht rfl rfl ?_)|((with_reducible refine wpList_store_newht rfl _ _ rfl (Jv p.B (f:Int)) ?_ ?_ ?_);exact rfl;exact rfl))
    go_loopw [3,6] (fun t3 t6 wr=>∃ t:Nat,t≤64∧t6=.int .i64 t∧OwnM wr W.heap.size t3 (A++toQ p f t)∧Kept W wr∧RAt wr w1.heap.size (hitL (Jv p.B (f:Int))) 90) (fun _ t6 _=>64-(intOf t6).toNat)
    case atStart=>exact ⟨0,by omega,rfl,by rw [show toQ p f 0=[] from rfl,List.append_nil];exact HOa.out,HKa.out,HAa.out⟩
    case round =>
     obtain ⟨t,ht,rfl,hO,hK,hAr⟩:=hrel;obtain ⟨ao,co,rfl⟩:=hO.slice;have HO1:=Qh hO;have HK1:=Qh hK;have HA1:=Qh hAr;have HQl:=Qh (toQ_len p f t);generalize hln:(A++toQ p f t).length=q1 at *;have HQ1:=Qh hln;clear hO hK hAr hln;by_cases htl:t<64
     ·have htl':(t:Int)<64:=by omega
      have HSq:=Qh (toQ_succ p f t);go_wp2
      go_loopw [3,7] (fun t3 t7 wr=>∃ (j:Nat) (q:Int),q=5-(j:Int)∧j≤6∧t7=.int .i64 q∧OwnM wr W.heap.size t3 (A++toQ p f t++toP p f t j)∧Kept W wr∧RAt wr w1.heap.size (hitL (Jv p.B (f:Int))) 90) (fun _ t7 _=>(intOf t7+1).toNat)
      case atStart=>exact ⟨0,5,by omega,by omega,rfl,by rw [show toP p f t 0=[] from rfl,List.append_nil];exact HO1.out,HK1.out,HA1.out⟩
      case round =>
       obtain ⟨j,q,hq,hj,rfl,hO,hK,hAr⟩:=hrel;obtain ⟨ao,co,rfl⟩:=hO.slice;have HQ:=Qh hq;have HLn:Hid (f≤64∧t≤64):=⟨hf,ht⟩;by_cases hjl:0≤q
       ·have hj6:=Qh (show j<6 by omega)
        have hqb:q≤5:=by omega
        have KB0:=Qh ((Kept.refl wr).alloc (.cells (ml ⟨(f:Int),(t:Int),q⟩).toArray 28));have HP2:=Qh (HP.out.kept (hK.trans KB0.out));have HM2:Hid (MAt _ _ _):=MAt.new wr ⟨(f:Int),(t:Int),q⟩;have HK2:=Qh (hK.trans KB0.out);have HO2:=Qh (hO.kept KB0.out);have HA2:=Qh (hAr.kept KB0.out);have HFm:=Qh (HFo.out ⟨(f:Int),(t:Int),q⟩);generalize hln:(A++toQ p f t++toP p f t j).length=q2 at *;clear hO hK hAr hln hq
        cases hfo:formB p ⟨(f:Int),(t:Int),q⟩
        ·rw [hfo] at HFm
         have HG:=Qh (goes_not hfo);clear hfo;go_wp2_with (first|(refine Qv rfl _ _ _ rfl (f:Int) (t:Int) q rfl rfl rfl ?_)|(with_reducible refine Ql rfl rfl ?_)|((with_reducible refine Qg rfl _ _ rfl Zm ⟨(f:Int),(t:Int),q⟩ ?_ ?_ ?_);exact rfl;exact rfl)|(refine Qc (by rfl) _ rfl _ rfl _ HP2.out ?_)|(refine Qd (by rfl) _ rfl _ rfl _ HP2.out ?_)|(refine Qe (by rfl) _ rfl _ rfl _ HM2.out ?_))
         refine (HFm.out _).mono ?_;rintro e w3 ⟨rfl,k3⟩;have HP3:=Qh (HP2.out.kept k3);have HM3:=Qh (MAt.kept HM2.out k3);have HK3:=Qh (HK2.out.trans k3);have HO3:=Qh (HO2.out.kept k3);have HA3:=Qh (HA2.out.kept k3);clear k3;go_wp2;go_roundw
         case rel=>exact ⟨j+1,q-1,by have:=HQ.out;omega,by have:=hj6.out;omega,by go_num,by rw [toP_no hj6.out HQ.out HG.out];exact HO3.out,HK3.out,HA3.out⟩
         case measure=>simp [intOf];omega
        ·rw [hfo] at HFm
         have hok:okM p ⟨(f:Int),(t:Int),q⟩=true:=by unfold okM;rw [HRi.out,hfo];rfl
         obtain ⟨f',t',F⟩:=Yt HB.out hok;obtain rfl:f'=f:=by have:=F.hf;dsimp only at this;omega
         obtain rfl:t'=t:=by have:=F.ht;dsimp only at this;omega
         cases hk:(kindI (p.B.getD f' 0) == 1)
         ·have HPn:=Qh HPw.out
          rw [hk] at HPn;have HRt:=Qh (fun w=>rightR_is p HB.out (Qt HRi.out).2.1.1 (Qt HRi.out).2.1.2 (Yj HRi.out).2.2.2.1 ⟨(f':Int),(t':Int),q⟩ f' t' rfl rfl hlt htl w);have hgt:=right_gt (p:=p) (m:=⟨(f':Int),(t':Int),q⟩);have hG:=goes_man hfo (by rw [F.pb,hk]);rw [← hgt] at hG;have hh2:_=some (Value.bool (hitB p.B (f':Int) (t':Int))):=(HA2.out.cellK t').trans (hitL_get _ htl);clear hgt hk hfo hok F
          cases hhb:hitB p.B (f':Int) (t':Int)
          ·rw [hhb] at hG hh2
           generalize hR (castN p ⟨(f':Int),(t':Int),q⟩)=x at *;rw [Bool.false_or] at hG
           cases hx:decide (0<x)
           ·rw [hx] at hG
            have HG:=Qh hG;have hx':¬ 0<x:=by simpa using hx
            clear hG hx;go_wp2_with (first|(refine Qv rfl _ _ _ rfl (f':Int) (t':Int) q rfl rfl rfl ?_)|(with_reducible refine Ql rfl rfl ?_)|((with_reducible refine Qg rfl _ _ rfl Zm ⟨(f':Int),(t':Int),q⟩ ?_ ?_ ?_);exact rfl;exact rfl)|(refine Qc (by rfl) _ rfl _ rfl _ HP2.out ?_)|(refine Qd (by rfl) _ rfl _ rfl _ HP2.out ?_)|(refine Qe (by rfl) _ rfl _ rfl _ HM2.out ?_))
            refine (HFm.out _).mono ?_;rintro e w3 ⟨rfl,k3⟩;have HP3:=Qh (HP2.out.kept k3);have HM3:=Qh (MAt.kept HM2.out k3);have HK3:=Qh (HK2.out.trans k3);have HO3:=Qh (HO2.out.kept k3);have HA3:=Qh (HA2.out.kept k3);have hh3:=Qa k3 hh2;clear k3 hh2;go_wp2_with (first|(refine Qv rfl _ _ _ rfl (f':Int) (t':Int) q rfl rfl rfl ?_)|(with_reducible refine Ql rfl rfl ?_)|((with_reducible refine Qg rfl _ _ rfl Zm ⟨(f':Int),(t':Int),q⟩ ?_ ?_ ?_);exact rfl;exact rfl)|(refine Qc (by rfl) _ rfl _ rfl _ HP3.out ?_)|(refine Qd (by rfl) _ rfl _ rfl _ HP3.out ?_)|(refine Qe (by rfl) _ rfl _ rfl _ HM3.out ?_))
            refine (HPn.out _).mono ?_;rintro e w4 ⟨rfl,k4⟩;have HP4:=Qh (HP3.out.kept k4);have HM4:=Qh (MAt.kept HM3.out k4);have HK4:=Qh (HK3.out.trans k4);have HO4:=Qh (HO3.out.kept k4);have HA4:=Qh (HA3.out.kept k4);have hh4:=Qa k4 hh3;clear k4 hh3;go_wp2_with (first|(refine Qv rfl _ _ _ rfl (f':Int) (t':Int) q rfl rfl rfl ?_)|(with_reducible refine Ql rfl rfl ?_)|((with_reducible refine Qg rfl _ _ rfl Zm ⟨(f':Int),(t':Int),q⟩ ?_ ?_ ?_);exact rfl;exact rfl)|(refine Qc (by rfl) _ rfl _ rfl _ HP4.out ?_)|(refine Qd (by rfl) _ rfl _ rfl _ HP4.out ?_)|(refine Qe (by rfl) _ rfl _ rfl _ HM4.out ?_))
            refine (HPn.out _).mono ?_;rintro e w5 ⟨rfl,k5⟩;have HP5:=Qh (HP4.out.kept k5);have HM5:=Qh (MAt.kept HM4.out k5);have HK5:=Qh (HK4.out.trans k5);have HO5:=Qh (HO4.out.kept k5);have HA5:=Qh (HA4.out.kept k5);have hh5:=Qa k5 hh4;clear k5 hh4;go_wp2_with (first|(refine Qv rfl _ _ _ rfl (f':Int) (t':Int) q rfl rfl rfl ?_)|(with_reducible refine Ql rfl rfl ?_)|((with_reducible refine Qg rfl _ _ rfl Zm ⟨(f':Int),(t':Int),q⟩ ?_ ?_ ?_);exact rfl;exact rfl)|(refine Qc (by rfl) _ rfl _ rfl _ HP5.out ?_)|(refine Qd (by rfl) _ rfl _ rfl _ HP5.out ?_)|(refine Qe (by rfl) _ rfl _ rfl _ HM5.out ?_))
            refine (HRt.out _).mono ?_;rintro e w6 ⟨rfl,k6⟩;have HP6:=Qh (HP5.out.kept k6);have HM6:=Qh (MAt.kept HM5.out k6);have HK6:=Qh (HK5.out.trans k6);have HO6:=Qh (HO5.out.kept k6);have HA6:=Qh (HA5.out.kept k6);clear k6;go_wp2;go_roundw
            case rel=>exact ⟨j+1,q-1,by have:=HQ.out;omega,by have:=hj6.out;omega,by go_num,by rw [toP_no hj6.out HQ.out HG.out];exact HO6.out,HK6.out,HA6.out⟩
            case measure=>simp [intOf];omega
           ·rw [hx] at hG
            have HG:=Qh hG;have hx':0<x:=by simpa using hx
            clear hG hx;go_wp2_with (first|(refine Qv rfl _ _ _ rfl (f':Int) (t':Int) q rfl rfl rfl ?_)|(with_reducible refine Ql rfl rfl ?_)|((with_reducible refine Qg rfl _ _ rfl Zm ⟨(f':Int),(t':Int),q⟩ ?_ ?_ ?_);exact rfl;exact rfl)|(refine Qc (by rfl) _ rfl _ rfl _ HP2.out ?_)|(refine Qd (by rfl) _ rfl _ rfl _ HP2.out ?_)|(refine Qe (by rfl) _ rfl _ rfl _ HM2.out ?_))
            refine (HFm.out _).mono ?_;rintro e w3 ⟨rfl,k3⟩;have HP3:=Qh (HP2.out.kept k3);have HM3:=Qh (MAt.kept HM2.out k3);have HK3:=Qh (HK2.out.trans k3);have HO3:=Qh (HO2.out.kept k3);have HA3:=Qh (HA2.out.kept k3);have hh3:=Qa k3 hh2;clear k3 hh2;go_wp2_with (first|(refine Qv rfl _ _ _ rfl (f':Int) (t':Int) q rfl rfl rfl ?_)|(with_reducible refine Ql rfl rfl ?_)|((with_reducible refine Qg rfl _ _ rfl Zm ⟨(f':Int),(t':Int),q⟩ ?_ ?_ ?_);exact rfl;exact rfl)|(refine Qc (by rfl) _ rfl _ rfl _ HP3.out ?_)|(refine Qd (by rfl) _ rfl _ rfl _ HP3.out ?_)|(refine Qe (by rfl) _ rfl _ rfl _ HM3.out ?_))
            refine (HPn.out _).mono ?_;rintro e w4 ⟨rfl,k4⟩;have HP4:=Qh (HP3.out.kept k4);have HM4:=Qh (MAt.kept HM3.out k4);have HK4:=Qh (HK3.out.trans k4);have HO4:=Qh (HO3.out.kept k4);have HA4:=Qh (HA3.out.kept k4);have hh4:=Qa k4 hh3;clear k4 hh3;go_wp2_with (first|(refine Qv rfl _ _ _ rfl (f':Int) (t':Int) q rfl rfl rfl ?_)|(with_reducible refine Ql rfl rfl ?_)|((with_reducible refine Qg rfl _ _ rfl Zm ⟨(f':Int),(t':Int),q⟩ ?_ ?_ ?_);exact rfl;exact rfl)|(refine Qc (by rfl) _ rfl _ rfl _ HP4.out ?_)|(refine Qd (by rfl) _ rfl _ rfl _ HP4.out ?_)|(refine Qe (by rfl) _ rfl _ rfl _ HM4.out ?_))
            refine (HPn.out _).mono ?_;rintro e w5 ⟨rfl,k5⟩;have HP5:=Qh (HP4.out.kept k5);have HM5:=Qh (MAt.kept HM4.out k5);have HK5:=Qh (HK4.out.trans k5);have HO5:=Qh (HO4.out.kept k5);have HA5:=Qh (HA4.out.kept k5);have hh5:=Qa k5 hh4;clear k5 hh4;go_wp2_with (first|(refine Qv rfl _ _ _ rfl (f':Int) (t':Int) q rfl rfl rfl ?_)|(with_reducible refine Ql rfl rfl ?_)|((with_reducible refine Qg rfl _ _ rfl Zm ⟨(f':Int),(t':Int),q⟩ ?_ ?_ ?_);exact rfl;exact rfl)|(refine Qc (by rfl) _ rfl _ rfl _ HP5.out ?_)|(refine Qd (by rfl) _ rfl _ rfl _ HP5.out ?_)|(refine Qe (by rfl) _ rfl _ rfl _ HM5.out ?_))
            refine (HRt.out _).mono ?_;rintro e w6 ⟨rfl,k6⟩;have HP6:=Qh (HP5.out.kept k6);have HM6:=Qh (MAt.kept HM5.out k6);have HK6:=Qh (HK5.out.trans k6);have HO6:=Qh (HO5.out.kept k6);have HA6:=Qh (HA5.out.kept k6);clear k6;have KA:=Qh ((Kept.refl w6).alloc (.cells (ml ⟨(f':Int),(t':Int),q⟩).toArray 28));go_wp2_with (first|((with_reducible refine wpList_load_mvu rfl _ rfl _ ?_ _ HM6.out ?_);exact rfl)|((with_reducible refine Ym rfl _ rfl ⟨(f':Int),(t':Int),q⟩ ?_ ?_);exact rfl)|(at_builtin;refine Yl rfl _ _ rfl W.heap.size w6.heap.size _ _ (A++toQ p f' t'++toP p f' t' j) [⟨(f':Int),(t':Int),q⟩] rfl rfl (HO6.out.kept KA.out) (LsM.lit _ _) ?c1 ?c2 ?_))
            case c1=>have:=HLn.out;have:=toP_len p f' t' j;have:=HAl.out;have:=HQl.out;simp only [List.length_append,List.length_singleton];omega
            case c2=>have:=HK6.out.size;simp;omega
            intro v' w9 hO' hg;have hK9:=(HO6.out.kept KA.out).grown (HK6.out.trans KA.out) (Nat.le_refl _) hg;have HA9:=Qh ((HA6.out.kept KA.out).beside (by decide) (HO6.out.kept KA.out) hg);replace hO':OwnM w9 W.heap.size v' (A++toQ p f' t'++toP p f' t' (j+1)):=by rw [toP_yes hj6.out HQ.out HG.out];simpa only [List.append_assoc] using hO'
            obtain ⟨a',cap',rfl⟩:=hO'.slice;have HO9:=Qh hO';have HK9:=Qh hK9;clear hO' hK9 hg;generalize (A++toQ p f' t'++toP p f' t' (j+1)).length=q' at *;go_wp2;go_roundw
            case rel=>exact ⟨j+1,q-1,by have:=HQ.out;omega,by have:=hj6.out;omega,by go_num,HO9.out,HK9.out,HA9.out⟩
            case measure=>simp [intOf];omega
          ·rw [hhb] at hG hh2
           rw [Bool.true_or] at hG;have HG:=Qh hG;clear hG;go_wp2_with (first|(refine Qv rfl _ _ _ rfl (f':Int) (t':Int) q rfl rfl rfl ?_)|(with_reducible refine Ql rfl rfl ?_)|((with_reducible refine Qg rfl _ _ rfl Zm ⟨(f':Int),(t':Int),q⟩ ?_ ?_ ?_);exact rfl;exact rfl)|(refine Qc (by rfl) _ rfl _ rfl _ HP2.out ?_)|(refine Qd (by rfl) _ rfl _ rfl _ HP2.out ?_)|(refine Qe (by rfl) _ rfl _ rfl _ HM2.out ?_))
           refine (HFm.out _).mono ?_;rintro e w3 ⟨rfl,k3⟩;have HP3:=Qh (HP2.out.kept k3);have HM3:=Qh (MAt.kept HM2.out k3);have HK3:=Qh (HK2.out.trans k3);have HO3:=Qh (HO2.out.kept k3);have HA3:=Qh (HA2.out.kept k3);have hh3:=Qa k3 hh2;clear k3 hh2;go_wp2_with (first|(refine Qv rfl _ _ _ rfl (f':Int) (t':Int) q rfl rfl rfl ?_)|(with_reducible refine Ql rfl rfl ?_)|((with_reducible refine Qg rfl _ _ rfl Zm ⟨(f':Int),(t':Int),q⟩ ?_ ?_ ?_);exact rfl;exact rfl)|(refine Qc (by rfl) _ rfl _ rfl _ HP3.out ?_)|(refine Qd (by rfl) _ rfl _ rfl _ HP3.out ?_)|(refine Qe (by rfl) _ rfl _ rfl _ HM3.out ?_))
           refine (HPn.out _).mono ?_;rintro e w4 ⟨rfl,k4⟩;have HP4:=Qh (HP3.out.kept k4);have HM4:=Qh (MAt.kept HM3.out k4);have HK4:=Qh (HK3.out.trans k4);have HO4:=Qh (HO3.out.kept k4);have HA4:=Qh (HA3.out.kept k4);have hh4:=Qa k4 hh3;clear k4 hh3;go_wp2_with (first|(refine Qv rfl _ _ _ rfl (f':Int) (t':Int) q rfl rfl rfl ?_)|(with_reducible refine Ql rfl rfl ?_)|((with_reducible refine Qg rfl _ _ rfl Zm ⟨(f':Int),(t':Int),q⟩ ?_ ?_ ?_);exact rfl;exact rfl)|(refine Qc (by rfl) _ rfl _ rfl _ HP4.out ?_)|(refine Qd (by rfl) _ rfl _ rfl _ HP4.out ?_)|(refine Qe (by rfl) _ rfl _ rfl _ HM4.out ?_))
           refine (HPn.out _).mono ?_;rintro e w5 ⟨rfl,k5⟩;have HP5:=Qh (HP4.out.kept k5);have HM5:=Qh (MAt.kept HM4.out k5);have HK5:=Qh (HK4.out.trans k5);have HO5:=Qh (HO4.out.kept k5);have HA5:=Qh (HA4.out.kept k5);have hh5:=Qa k5 hh4;clear k5 hh4;have KA:=Qh ((Kept.refl w5).alloc (.cells (ml ⟨(f':Int),(t':Int),q⟩).toArray 28));go_wp2_with (first|((with_reducible refine wpList_load_mvu rfl _ rfl _ ?_ _ HM5.out ?_);exact rfl)|((with_reducible refine Ym rfl _ rfl ⟨(f':Int),(t':Int),q⟩ ?_ ?_);exact rfl)|(at_builtin;refine Yl rfl _ _ rfl W.heap.size w5.heap.size _ _ (A++toQ p f' t'++toP p f' t' j) [⟨(f':Int),(t':Int),q⟩] rfl rfl (HO5.out.kept KA.out) (LsM.lit _ _) ?c1 ?c2 ?_))
           case c1=>have:=HLn.out;have:=toP_len p f' t' j;have:=HAl.out;have:=HQl.out;simp only [List.length_append,List.length_singleton];omega
           case c2=>have:=HK5.out.size;simp;omega
           intro v' w9 hO' hg;have hK9:=(HO5.out.kept KA.out).grown (HK5.out.trans KA.out) (Nat.le_refl _) hg;have HA9:=Qh ((HA5.out.kept KA.out).beside (by decide) (HO5.out.kept KA.out) hg);replace hO':OwnM w9 W.heap.size v' (A++toQ p f' t'++toP p f' t' (j+1)):=by rw [toP_yes hj6.out HQ.out HG.out];simpa only [List.append_assoc] using hO'
           obtain ⟨a',cap',rfl⟩:=hO'.slice;have HO9:=Qh hO';have HK9:=Qh hK9;clear hO' hK9 hg;generalize (A++toQ p f' t'++toP p f' t' (j+1)).length=q' at *;go_wp2;go_roundw
           case rel=>exact ⟨j+1,q-1,by have:=HQ.out;omega,by have:=hj6.out;omega,by go_num,HO9.out,HK9.out,HA9.out⟩
           case measure=>simp [intOf];omega
         ·have HPn:=Qh HPw.out
          rw [hk] at HPn;have HPg:=Qh (fun w=>rpgo_is p ⟨(f':Int),(t':Int),q⟩ f' t' (F.pf (beq_iff_eq.1 hk)) w);have hG:=goes_pawn hfo (by rw [F.pb,hk]);clear hk hfo hok F
          cases hpg:pgoB p ⟨(f':Int),(t':Int),q⟩
          ·rw [hpg] at hG HPg
           have HG:=Qh hG;clear hG hpg;go_wp2_with (first|(refine Qv rfl _ _ _ rfl (f':Int) (t':Int) q rfl rfl rfl ?_)|(with_reducible refine Ql rfl rfl ?_)|((with_reducible refine Qg rfl _ _ rfl Zm ⟨(f':Int),(t':Int),q⟩ ?_ ?_ ?_);exact rfl;exact rfl)|(refine Qc (by rfl) _ rfl _ rfl _ HP2.out ?_)|(refine Qd (by rfl) _ rfl _ rfl _ HP2.out ?_)|(refine Qe (by rfl) _ rfl _ rfl _ HM2.out ?_))
           refine (HFm.out _).mono ?_;rintro e w3 ⟨rfl,k3⟩;have HP3:=Qh (HP2.out.kept k3);have HM3:=Qh (MAt.kept HM2.out k3);have HK3:=Qh (HK2.out.trans k3);have HO3:=Qh (HO2.out.kept k3);have HA3:=Qh (HA2.out.kept k3);clear k3;go_wp2_with (first|(refine Qv rfl _ _ _ rfl (f':Int) (t':Int) q rfl rfl rfl ?_)|(with_reducible refine Ql rfl rfl ?_)|((with_reducible refine Qg rfl _ _ rfl Zm ⟨(f':Int),(t':Int),q⟩ ?_ ?_ ?_);exact rfl;exact rfl)|(refine Qc (by rfl) _ rfl _ rfl _ HP3.out ?_)|(refine Qd (by rfl) _ rfl _ rfl _ HP3.out ?_)|(refine Qe (by rfl) _ rfl _ rfl _ HM3.out ?_))
           refine (HPn.out _).mono ?_;rintro e w4 ⟨rfl,k4⟩;have HP4:=Qh (HP3.out.kept k4);have HM4:=Qh (MAt.kept HM3.out k4);have HK4:=Qh (HK3.out.trans k4);have HO4:=Qh (HO3.out.kept k4);have HA4:=Qh (HA3.out.kept k4);clear k4;go_wp2_with (first|(refine Qv rfl _ _ _ rfl (f':Int) (t':Int) q rfl rfl rfl ?_)|(with_reducible refine Ql rfl rfl ?_)|((with_reducible refine Qg rfl _ _ rfl Zm ⟨(f':Int),(t':Int),q⟩ ?_ ?_ ?_);exact rfl;exact rfl)|(refine Qc (by rfl) _ rfl _ rfl _ HP4.out ?_)|(refine Qd (by rfl) _ rfl _ rfl _ HP4.out ?_)|(refine Qe (by rfl) _ rfl _ rfl _ HM4.out ?_))
           refine (HPg.out _).mono ?_;rintro e w5 ⟨rfl,k5⟩;have HP5:=Qh (HP4.out.kept k5);have HM5:=Qh (MAt.kept HM4.out k5);have HK5:=Qh (HK4.out.trans k5);have HO5:=Qh (HO4.out.kept k5);have HA5:=Qh (HA4.out.kept k5);clear k5;go_wp2_with (first|(refine Qv rfl _ _ _ rfl (f':Int) (t':Int) q rfl rfl rfl ?_)|(with_reducible refine Ql rfl rfl ?_)|((with_reducible refine Qg rfl _ _ rfl Zm ⟨(f':Int),(t':Int),q⟩ ?_ ?_ ?_);exact rfl;exact rfl)|(refine Qc (by rfl) _ rfl _ rfl _ HP5.out ?_)|(refine Qd (by rfl) _ rfl _ rfl _ HP5.out ?_)|(refine Qe (by rfl) _ rfl _ rfl _ HM5.out ?_))
           refine (HPn.out _).mono ?_;rintro e w6 ⟨rfl,k6⟩;have HP6:=Qh (HP5.out.kept k6);have HM6:=Qh (MAt.kept HM5.out k6);have HK6:=Qh (HK5.out.trans k6);have HO6:=Qh (HO5.out.kept k6);have HA6:=Qh (HA5.out.kept k6);clear k6;go_wp2;go_roundw
           case rel=>exact ⟨j+1,q-1,by have:=HQ.out;omega,by have:=hj6.out;omega,by go_num,by rw [toP_no hj6.out HQ.out HG.out];exact HO6.out,HK6.out,HA6.out⟩
           case measure=>simp [intOf];omega
          ·rw [hpg] at hG HPg
           have HG:=Qh hG;clear hG hpg;go_wp2_with (first|(refine Qv rfl _ _ _ rfl (f':Int) (t':Int) q rfl rfl rfl ?_)|(with_reducible refine Ql rfl rfl ?_)|((with_reducible refine Qg rfl _ _ rfl Zm ⟨(f':Int),(t':Int),q⟩ ?_ ?_ ?_);exact rfl;exact rfl)|(refine Qc (by rfl) _ rfl _ rfl _ HP2.out ?_)|(refine Qd (by rfl) _ rfl _ rfl _ HP2.out ?_)|(refine Qe (by rfl) _ rfl _ rfl _ HM2.out ?_))
           refine (HFm.out _).mono ?_;rintro e w3 ⟨rfl,k3⟩;have HP3:=Qh (HP2.out.kept k3);have HM3:=Qh (MAt.kept HM2.out k3);have HK3:=Qh (HK2.out.trans k3);have HO3:=Qh (HO2.out.kept k3);have HA3:=Qh (HA2.out.kept k3);clear k3;go_wp2_with (first|(refine Qv rfl _ _ _ rfl (f':Int) (t':Int) q rfl rfl rfl ?_)|(with_reducible refine Ql rfl rfl ?_)|((with_reducible refine Qg rfl _ _ rfl Zm ⟨(f':Int),(t':Int),q⟩ ?_ ?_ ?_);exact rfl;exact rfl)|(refine Qc (by rfl) _ rfl _ rfl _ HP3.out ?_)|(refine Qd (by rfl) _ rfl _ rfl _ HP3.out ?_)|(refine Qe (by rfl) _ rfl _ rfl _ HM3.out ?_))
           refine (HPn.out _).mono ?_;rintro e w4 ⟨rfl,k4⟩;have HP4:=Qh (HP3.out.kept k4);have HM4:=Qh (MAt.kept HM3.out k4);have HK4:=Qh (HK3.out.trans k4);have HO4:=Qh (HO3.out.kept k4);have HA4:=Qh (HA3.out.kept k4);clear k4;go_wp2_with (first|(refine Qv rfl _ _ _ rfl (f':Int) (t':Int) q rfl rfl rfl ?_)|(with_reducible refine Ql rfl rfl ?_)|((with_reducible refine Qg rfl _ _ rfl Zm ⟨(f':Int),(t':Int),q⟩ ?_ ?_ ?_);exact rfl;exact rfl)|(refine Qc (by rfl) _ rfl _ rfl _ HP4.out ?_)|(refine Qd (by rfl) _ rfl _ rfl _ HP4.out ?_)|(refine Qe (by rfl) _ rfl _ rfl _ HM4.out ?_))
           refine (HPg.out _).mono ?_;rintro e w5 ⟨rfl,k5⟩;have HP5:=Qh (HP4.out.kept k5);have HM5:=Qh (MAt.kept HM4.out k5);have HK5:=Qh (HK4.out.trans k5);have HO5:=Qh (HO4.out.kept k5);have HA5:=Qh (HA4.out.kept k5);clear k5;have KA:=Qh ((Kept.refl w5).alloc (.cells (ml ⟨(f':Int),(t':Int),q⟩).toArray 28));go_wp2_with (first|((with_reducible refine wpList_load_mvu rfl _ rfl _ ?_ _ HM5.out ?_);exact rfl)|((with_reducible refine Ym rfl _ rfl ⟨(f':Int),(t':Int),q⟩ ?_ ?_);exact rfl)|(at_builtin;refine Yl rfl _ _ rfl W.heap.size w5.heap.size _ _ (A++toQ p f' t'++toP p f' t' j) [⟨(f':Int),(t':Int),q⟩] rfl rfl (HO5.out.kept KA.out) (LsM.lit _ _) ?c1 ?c2 ?_))
           case c1=>have:=HLn.out;have:=toP_len p f' t' j;have:=HAl.out;have:=HQl.out;simp only [List.length_append,List.length_singleton];omega
           case c2=>have:=HK5.out.size;simp;omega
           intro v' w9 hO' hg;have hK9:=(HO5.out.kept KA.out).grown (HK5.out.trans KA.out) (Nat.le_refl _) hg;have HA9:=Qh ((HA5.out.kept KA.out).beside (by decide) (HO5.out.kept KA.out) hg);replace hO':OwnM w9 W.heap.size v' (A++toQ p f' t'++toP p f' t' (j+1)):=by rw [toP_yes hj6.out HQ.out HG.out];simpa only [List.append_assoc] using hO'
           obtain ⟨a',cap',rfl⟩:=hO'.slice;have HO9:=Qh hO';have HK9:=Qh hK9;clear hO' hK9 hg;generalize (A++toQ p f' t'++toP p f' t' (j+1)).length=q' at *;go_wp2;go_roundw
           case rel=>exact ⟨j+1,q-1,by have:=HQ.out;omega,by have:=hj6.out;omega,by go_num,HO9.out,HK9.out,HA9.out⟩
           case measure=>simp [intOf];omega
       ·obtain rfl:j=6:=by omega
        have HO2:=Qh hO;have HK2:=Qh hK;have HA2:=Qh hAr;generalize hln:(A++toQ p f t++toP p f t 6).length=q2 at *;clear hO hK hAr hln hq;go_wp2;go_roundw
        case rel=>exact ⟨t+1,by omega,by go_num,by rw [HSq.out,← toP_end,← List.append_assoc];exact HO2.out,HK2.out,HA2.out⟩
        case measure=>simp [intOf];omega
     ·obtain rfl:t=64:=by omega
      go_wp2;go_roundw
      case rel=>exact ⟨f+1,by omega,by go_num,by rw [HS.out];exact HO1.out,HK1.out⟩
      case measure=>simp [intOf];omega
  ·obtain rfl:f=64:=by omega
   go_wp2;go_ret;exact ⟨_,rfl,by rw [HV.out];exact HO0.out.low HK0.out.size,HK0.out.trans HK00.out⟩
end Go.Proofs.YtlpeiolgcaddjaaGreatDoor
