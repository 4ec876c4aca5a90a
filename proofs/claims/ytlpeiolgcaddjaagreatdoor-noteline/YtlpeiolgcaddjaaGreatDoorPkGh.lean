/- GeN: my texts, in their order. -/
import Derived.Test.YtlpeiolgcaddjaaGreatDoorPkGa
import Derived.Test.YtlpeiolgcaddjaaGreatDoorPkR
namespace Go.Proofs.YtlpeiolgcaddjaaGreatDoor
open Go.RowKit
set_option linter.unusedVariables false
set_option linter.unusedSimpArgs false
set_option maxRecDepth 100000
theorem beh_at {p:Ps} {m:Mv} {f t:Nat} (h:Fm p m f t) {j:Nat} (hj:j<64) :
  (j=t∧(behB p m).getD j 0=if m.p != 0 then mkI m.p p.t else p.B.getD f 0)∨(j≠t∧((behB p m).getD j 0=0∨(castN p m<4∧(behB p m).getD j 0=mkI 4 p.t∧p.B.getD j 0=0)∨(j≠f∧(behB p m).getD j 0=p.B.getD j 0))):=by
 have hl:=h.brd.1;have l1:(st1 p m).length=64:=st1_len hl;have l2:(st2 p m (st1 p m)).length=64:=st2_len l1;have l3:(st3 m (st2 p m (st1 p m))).length=64:=st3_len l2;obtain ⟨_,s2f,_⟩:=st2_cnt h;have ef:m.f.toNat=f:=by rw [h.hf,Int.toNat_natCast]
 have et:m.t.toNat=t:=by rw [h.ht,Int.toNat_natCast]
 have h3:∀ i,(st3 m (st2 p m (st1 p m))).getD i 0=if t=i then p.B.getD f 0 else if f=i then 0 else (st2 p m (st1 p m)).getD i 0:=by
  intro i;unfold st3;rw [ef,et,Qi _ _ _ _ (by rw [List.length_set,l2];exact h.t1),Qi _ _ _ _ (by rw [l2];exact h.f1),s2f]
 have h4:(behB p m).getD j 0=if t=j then (if m.p != 0 then mkI m.p p.t else p.B.getD f 0) else if f=j then 0 else (st2 p m (st1 p m)).getD j 0:=by
  unfold behB st4;by_cases hp:(m.p != 0)=true
  ·rw [if_pos hp,if_pos hp,et,Qi _ _ _ _ (by rw [l3];exact h.t1),h3]
   split <;> rfl
  ·rw [if_neg hp,if_neg hp,h3]
 have h1:(st1 p m).getD j 0=0∨(st1 p m).getD j 0=p.B.getD j 0:=by
  unfold st1;split
  ·have:=take_lt (p:=p) (Jz (show okM p m=true from by
    have hf:formB p m=true:=by
     unfold formB turnsB onB;have em:manA p.B m.f=p.B.getD f 0:=by unfold manA bAt;rw [h.hf,Int.toNat_natCast,if_pos ⟨by omega,by have:=h.f1;omega⟩]
     have en:manA p.B m.t=p.B.getD t 0:=by unfold manA bAt;rw [h.ht,Int.toNat_natCast,if_pos ⟨by omega,by have:=h.t1;omega⟩]
     rw [em,en,h.ht,h.pro,h.prm,h.own];have h6:(sideI (p.B.getD t 0) == p.t)=false:=beq_eq_false_iff_ne.2 h.oth;have:=h.t1;rw [h6];simp;omega
    unfold okM;rw [h.right,hf];rfl))
   rw [Qi _ _ _ _ (by rw [hl];omega)];split
   ·exact .inl rfl
   ·exact .inr rfl
  ·exact .inr rfl
 rw [h4];by_cases hjt:t=j
 ·left;exact ⟨hjt.symm,by rw [if_pos hjt]⟩
 ·right
  refine ⟨fun e=>hjt e.symm,?_⟩;rw [if_neg hjt];by_cases hjf:f=j
  ·left;rw [if_pos hjf]
  ·rw [if_neg hjf]
   unfold st2;split
   ·next hc =>
    have c:=Qaw h hc rfl;obtain ⟨q1,q2,q3,q4,q5,q6,q7,q8⟩:=cast_sq _ c.k4
    have em:((m.f+m.t) / 2).toNat=(hKg (castN p m)+wTo (castN p m)) / 2:=by
     rw [h.hf,h.ht,c.ef,c.et];omega
    rw [em,Qi _ _ _ _ (by rw [List.length_set,l1];exact q1)];by_cases hm:(hKg (castN p m)+wTo (castN p m)) / 2=j
    ·rw [if_pos hm]
     have hnt:=c.no_take h;have e1:st1 p m=p.B:=by unfold st1 takeB;rw [hnt];rfl
     rw [e1,c.rook];right;left;exact ⟨hc,rfl,by rw [← hm];exact (free_iff p.B _).1 c.free _ q1 q2 q3⟩
    ·rw [if_neg hm,Qi _ _ _ _ (by rw [l1];have:=c.k4;have:hRk (castN p m)<64:=(by unfold hRk;rcases (castN p m) with _|_|_|_|k <;> simp);exact this)]
     split
     ·exact .inl rfl
     ·rcases h1 with e|e
      ·exact .inl e
      ·exact .inr (.inr ⟨fun e=>hjf e.symm,e⟩)
   ·rcases h1 with e|e
    ·exact .inl e
    ·exact .inr (.inr ⟨fun e=>hjf e.symm,e⟩)
theorem Ji {p:Ps} {m:Mv} (hr:pwI p=0) (h:goesM p m=true):okM p m=true:=by unfold okM;rw [hr,Qas h];rfl
theorem mk_kind {n t:Int} (h0:2≤n) (h1:n≤6):mkI n t≠1∧mkI n t≠-1:=by unfold mkI;split <;> omega
theorem beh_edge {p:Ps} {m:Mv} (hB:Brd p.B) (hr:pwI p=0) (hg:goesM p m=true) {j:Nat} (hj:j<64) (hx:(behB p m).getD j 0=1∨(behB p m).getD j 0=-1):8≤j∧j≤55:=by
 obtain ⟨f,t,F⟩:=Yt hB (Ji hr hg);have hw:=(Yj hr).1;rcases beh_at F hj with ⟨rfl,e⟩|⟨hne,e|⟨_,e,_⟩|⟨_,e⟩⟩
 ·rw [e] at hx
  by_cases hp:(m.p != 0)=true
  ·rw [if_pos hp] at hx
   have h5:=promo_five' F.prm;have hp':m.p≠0:=by simpa using hp
   have:=mk_kind (n:=m.p) (t:=p.t) (by omega) (by omega);omega
  ·rw [if_neg hp] at hx
   have hk:kindI (p.B.getD f 0)=1:=by rcases hx with h|h <;> rw [h] <;> decide
   have P:Pw p f:=⟨hB,hr,F.f1,F.own,hk⟩;have hpro:=F.pro;rw [hk] at hpro;have hp0:(m.p != 0)=false:=by simpa using hp
   rw [hp0] at hpro;have hlast:¬ (j:Int) / 8=lastI p.t:=by simpa using hpro
   have hpw:pawnB p m=true:=by unfold pawnB bAt;rw [F.hf,Int.toNat_natCast,hk];rfl
   unfold goesM at hg;rw [Qas (by unfold goesM;exact hg),hpw,Bool.true_and,if_pos rfl] at hg;unfold pgoB at hg;rw [F.hf,F.ht] at hg;simp only [Bool.or_eq_true,Bool.and_eq_true,beq_iff_eq] at hg;have hrk:=P.rank;rcases P.turn with ⟨_,_,u,v,l⟩|⟨_,_,u,v,l⟩
   ·rw [u,v] at hg
    rw [l] at hlast;rcases hg with ⟨_,g⟩|⟨⟨⟨_,g⟩,g2⟩,_⟩|⟨g,_⟩
    ·omega
    ·omega
    ·have:=(P.hits g).2.2;rw [u] at this;omega
   ·rw [u,v] at hg
    rw [l] at hlast;rcases hg with ⟨_,g⟩|⟨⟨⟨_,g⟩,g2⟩,_⟩|⟨g,_⟩
    ·omega
    ·omega
    ·have:=(P.hits g).2.2;rw [u] at this;omega
 ·rw [e] at hx;omega
 ·rw [e] at hx
  have:=mk_kind (n:=4) (t:=p.t) (by omega) (by omega);omega
 ·rw [e] at hx
  have hk:kindI (p.B.getD j 0)=1:=by rcases hx with h|h <;> rw [h] <;> decide
  have:=no_edge hw hj hk;omega
def kvI (t:Int):Int:=mkI 6 t
theorem one_king {B:List Int} (hw:Qx B=0) {s:Int} (hs:s=0∨s=1):∃ k:Nat,k<64∧B.getD k 0=kvI s∧∀ j,j<64→B.getD j 0=kvI s→j=k:=by
 obtain ⟨k,hk,_,e⟩:=king_at hw hs;refine ⟨k,hk,e,fun j hj ej=>?_⟩
 have hone:many B 6 s=1:=by
  obtain ⟨_,a,b⟩:=king_one hw;unfold manyI at a b;rcases hs with rfl|rfl <;> omega
 have hh:∀ i:Nat,B.getD i 0=kvI s→hit 6 s (B.getD i 0)=true:=by
  intro i ei;rw [ei];rcases hs with rfl|rfl <;> decide
 unfold many cnt at hone;obtain ⟨a,ha⟩:=List.length_eq_one_iff.1 hone;have mj:j ∈ sel (fun i=>hit 6 s (B.getD i 0)) 64:=by unfold sel;rw [List.mem_filter,List.mem_range];exact ⟨hj,hh j ej⟩
 have mk:k ∈ sel (fun i=>hit 6 s (B.getD i 0)) 64:=by unfold sel;rw [List.mem_filter,List.mem_range];exact ⟨hk,hh k e⟩
 rw [ha,List.mem_singleton] at mj mk;omega
theorem side_kv {t:Int} (ht:t=0∨t=1):sideI (kvI t)=t:=by rcases ht with rfl|rfl <;> decide
theorem beh_king {p:Ps} {m:Mv} (hB:Brd p.B) (hr:pwI p=0) (h:okM p m=true):∃ k:Nat,k<64∧∀ j,j<64→((behB p m).getD j 0=kvI p.t↔j=k):=by
 obtain ⟨f,t,F⟩:=Yt hB h;obtain ⟨k0,hk0,e0,u0⟩:=one_king (Yj hr).1 F.t01;have hkv:kvI p.t≠0∧kvI p.t≠mkI 4 p.t:=by rcases F.t01 with e|e <;> rw [e] <;> decide
 have hpr:m.p≠0→mkI m.p p.t≠kvI p.t:=by
  intro h0;have:=promo_five' F.prm;unfold kvI mkI;split <;> omega
 have hkt:k0≠t:=fun e=>F.oth (by rw [← e,e0,side_kv F.t01])
 by_cases hf:p.B.getD f 0=kvI p.t
 ·have hfk:=u0 f F.f1 hf
  refine ⟨t,F.t1,fun j hj=>⟨fun e=>?_,fun e=>?_⟩⟩
  ·rcases beh_at F hj with ⟨q,_⟩|⟨_,q|⟨_,q,_⟩|⟨q1,q⟩⟩
   ·exact q
   ·rw [q] at e;exact absurd e.symm hkv.1
   ·rw [q] at e;exact absurd e.symm hkv.2
   ·rw [q] at e;exact absurd (u0 j hj e) (by omega)
  ·subst e
   rcases beh_at F hj with ⟨_,q⟩|⟨q,_⟩
   ·rw [q]
    have hk:(kindI (p.B.getD f 0) == 1)=false:=by rw [hf];rcases F.t01 with e|e <;> rw [e] <;> decide
    have hp:=F.pro;rw [hk,Bool.false_and] at hp;rw [← hp,if_neg (by decide)];exact hf
   ·exact absurd rfl q
 ·have hc:¬ castN p m<4:=fun hc=>by
   have c:=Qaw F hc rfl;apply hf;rw [c.king,c.side];have:=c.k4;generalize castN p m=k at this ⊢;have:k=0∨k=1∨k=2∨k=3:=by omega
   rcases this with rfl|rfl|rfl|rfl <;> decide
  refine ⟨k0,hk0,fun j hj=>⟨fun e=>?_,fun e=>?_⟩⟩
  ·rcases beh_at F hj with ⟨_,q⟩|⟨_,q|⟨q,_⟩|⟨_,q⟩⟩
   ·rw [q] at e
    by_cases hp:(m.p != 0)=true
    ·rw [if_pos hp] at e;exact absurd e (hpr (by simpa using hp))
    ·rw [if_neg hp] at e;exact absurd e hf
   ·rw [q] at e;exact absurd e.symm hkv.1
   ·exact absurd q hc
   ·rw [q] at e;exact u0 j hj e
  ·subst e
   have l1:(st1 p m).length=64:=st1_len hB.1;have e4:castN p m=4:=by have:=castN_le p m;omega
   have kf:f≠j:=fun e=>hf (by rw [e];exact e0)
   have kt:t≠j:=fun e=>hkt e.symm
   have ef:m.f.toNat=f:=by rw [F.hf,Int.toNat_natCast]
   have et:m.t.toNat=t:=by rw [F.ht,Int.toNat_natCast]
   have h1:(st1 p m).getD j 0=p.B.getD j 0:=by
    unfold st1;split
    ·next hb =>
     have ht:0≤takeI p m:=by simpa [takeB] using hb
     obtain ⟨a1,a2,a3,a4⟩:=take_sq F ht;have hs:takeS p m=takeI p m:=by unfold takeS;rw [if_pos ht]
     rw [hs,Qi _ _ _ _ (by rw [hB.1];exact a1),if_neg];intro ej;have hbt:bAt p.B m.t=p.B.getD t 0:=by unfold bAt;rw [F.ht,Int.toNat_natCast]
     by_cases h0:bAt p.B m.t=0
     ·have hi:takeI p m=(if epTake p m then passI p else -1):=by unfold takeI;rw [if_neg (by simpa using h0)]
      split at hi
      ·unfold passI at hi
       split at hi
       ·next hp =>
        have e5:p.B.getD (takeI p m).toNat 0=-1:=by rw [hi];exact hp.2.2.2.2.2
        rw [ej,e0] at e5;rcases F.t01 with e|e <;> rw [e] at e5 <;> exact absurd e5 (by decide)
       ·split at hi
        ·next hp =>
         have e5:p.B.getD (takeI p m).toNat 0=1:=by rw [hi];exact hp.2.2.2.2.2
         rw [ej,e0] at e5;rcases F.t01 with e|e <;> rw [e] at e5 <;> exact absurd e5 (by decide)
        ·omega
      ·omega
     ·have hi:takeI p m=t:=by unfold takeI;rw [if_pos h0];exact F.ht
      rw [hi,Int.toNat_natCast] at ej;exact kt ej
    ·rfl
   have e2:st2 p m (st1 p m)=st1 p m:=by unfold st2;rw [if_neg (by omega)]
   have h3:(st3 m (st2 p m (st1 p m))).getD j 0=p.B.getD j 0:=by
    rw [e2];unfold st3;rw [ef,et,Qi _ _ _ _ (by rw [List.length_set,l1];exact F.t1),if_neg kt,Qi _ _ _ _ (by rw [l1];exact F.f1),if_neg kf,h1]
   unfold behB st4;split
   ·rw [et,Qi _ _ _ _ (by rw [st3_len (st2_len l1)];exact F.t1),if_neg kt,h3];exact e0
   ·rw [h3];exact e0
theorem cnt_one_all:∀ a:Fin 64,cnt (fun j=>j == a.val) 64=1:=by decide +kernel
end Go.Proofs.YtlpeiolgcaddjaaGreatDoor
