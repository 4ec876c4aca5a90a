/- MvN · MvO · MvP · MvQ: my texts, in their order. -/
import Derived.Test.YtlpeiolgcaddjaaGreatDoorPkL
import Derived.Test.YtlpeiolgcaddjaaGreatDoorPkP
namespace Go.Proofs.YtlpeiolgcaddjaaGreatDoor
open Go.RowKit
set_option linter.unusedVariables false
set_option linter.unusedSimpArgs false
set_option maxRecDepth 100000
theorem lostB_all:∀ s:Fin 64,∀ k:Fin 4,(lostI ((s:Nat):Int) / hR k % 2 == 0)=!((((s:Nat):Int) == hKg k) || (((s:Nat):Int) == hRk k)):=by decide +kernel
theorem lostB {s:Nat} (hs:s<64) {k:Nat} (hk:k<4):(lostI (s:Int) / hR k % 2 == 0)=!(((s:Int) == hKg k) || ((s:Int) == hRk k)):=lostB_all ⟨s,hs⟩ ⟨k,hk⟩
theorem tc_keep {c:Int} {m:Mv} {f t:Nat} (hf:m.f=f) (ht:m.t=t) (f1:f<64) (t1:t<64) {k:Nat} (hk:k<4):keepB c f t k=(rgtB c (hR k) && !tcB m k):=by
 unfold keepB tcB;rw [lostB f1 hk,lostB t1 hk,hf,ht];generalize ((f:Int) == hKg k)=a;generalize ((f:Int) == hRk k)=b;generalize ((t:Int) == hKg k)=c';generalize ((t:Int) == hRk k)=d
 cases rgtB c (hR k) <;> cases a <;> cases b <;> cases c' <;> cases d <;> rfl
def rtB (c:Int) (b0 b1 b2 b3:Bool):Int :=
 let x0:=if b0 then bits .andNot .i64 c 1 else c
 let x1:=if b1 then bits .andNot .i64 x0 2 else x0
 let x2:=if b2 then bits .andNot .i64 x1 4 else x1
 if b3 then bits .andNot .i64 x2 8 else x2
def qB (c:Int) (b0 b1 b2 b3:Bool):Int :=
 let x0:=if rgtB c 1 && !b0 then (0:Int)+1 else 0
 let x1:=if rgtB c 2 && !b1 then x0+2 else x0
 let x2:=if rgtB c 4 && !b2 then x1+4 else x1
 if rgtB c 8 && !b3 then x2+8 else x2
theorem rq_all:∀ c:Fin 16,∀ b0 b1 b2 b3:Bool,rtB ((c:Nat):Int) b0 b1 b2 b3=qB ((c:Nat):Int) b0 b1 b2 b3∧0≤qB ((c:Nat):Int) b0 b1 b2 b3∧qB ((c:Nat):Int) b0 b1 b2 b3≤15∧bits .andNot .i64 (qB ((c:Nat):Int) b0 b1 b2 b3) ((c:Nat):Int)=0:=by decide +kernel
theorem rtN_is (c:Int) (m:Mv):rtN c m 4=rtB c (tcB m 0) (tcB m 1) (tcB m 2) (tcB m 3):=rfl
theorem qN_is {c:Int} {m:Mv} {f t:Nat} (hf:m.f=f) (ht:m.t=t) (f1:f<64) (t1:t<64):qN c f t 4=qB c (tcB m 0) (tcB m 1) (tcB m 2) (tcB m 3):=by
 have k0:=tc_keep (c:=c) hf ht f1 t1 (k:=0) (by omega);have k1:=tc_keep (c:=c) hf ht f1 t1 (k:=1) (by omega);have k2:=tc_keep (c:=c) hf ht f1 t1 (k:=2) (by omega);have k3:=tc_keep (c:=c) hf ht f1 t1 (k:=3) (by omega);unfold qN qN qN qN qN qB;rw [k0,k1,k2,k3];rfl
theorem rt_q {c:Int} (c0:0≤c) (c1:c≤15) (b0 b1 b2 b3:Bool):rtB c b0 b1 b2 b3=qB c b0 b1 b2 b3∧0≤qB c b0 b1 b2 b3∧qB c b0 b1 b2 b3≤15∧bits .andNot .i64 (qB c b0 b1 b2 b3) c=0:=by
 have:=rq_all ⟨c.toNat,by omega⟩ b0 b1 b2 b3;simp only [show ((c.toNat:Nat):Int)=c by omega] at this;exact this
theorem rt_bd {c:Int} (c0:0≤c) (c1:c≤15) (m:Mv):0≤rtN c m 4∧rtN c m 4≤15∧bits .andNot .i64 (rtN c m 4) c=0:=by
 have:=rt_q c0 c1 (tcB m 0) (tcB m 1) (tcB m 2) (tcB m 3);rw [rtN_is,this.1];exact this.2
theorem ep_eq {p:Ps} {m:Mv} {f t:Nat} (hf:m.f=f) (ht:m.t=t):repI p m f t=epI p m:=by
 unfold repI epI;rw [hf,ht]
 have e:(((t:Int)-f == 16) || ((f:Int)-t == 16))=(((f:Int) % 8 == (t:Int) % 8) && (farI (f:Int) (t:Int) == 2)):=by
  rw [Bool.eq_iff_iff];simp only [Bool.or_eq_true,Bool.and_eq_true,beq_iff_eq,farI];generalize hx:(f:Int) % 8=x;generalize hy:(t:Int) % 8=y;generalize hu:(f:Int) / 8=u;generalize hv:(t:Int) / 8=v;constructor
  ·intro h;omega
  ·intro h;omega
 rw [e,Bool.and_assoc]
theorem beh_plain {p:Ps} {m:Mv} {f t:Nat} (h:Fm p m f t) (hc:castN p m=4):rbehB p m f t=behB p m:=by
 have hl1:(st1 p m).length=64:=st1_len h.brd.1;have s2:st2 p m (st1 p m)=st1 p m:=by unfold st2;rw [hc,if_neg (by omega)]
 have r5:∀ B,rs5 p m f B=B:=fun B=>by unfold rs5;rw [hc,if_neg (by omega)]
 have r6:∀ B,rs6 p m f B=B:=fun B=>by unfold rs6;rw [hc,if_neg (by omega)]
 unfold rbehB behB;rw [s2,r5,r6]
 have e0:(st1 p m).getD f 0=p.B.getD f 0:=by
  unfold st1;split
  ·next ht =>
   rw [Qi _ _ _ _ (by have:=take_lt (p:=p) (m:=m) ⟨by have:=h.hf;omega,by have:=h.hf;have:=h.f1;omega,by have:=h.ht;omega,by have:=h.ht;have:=h.t1;omega⟩;rw [h.brd.1];omega),if_neg];intro e
   
   unfold takeB at ht;have ht':0≤takeI p m:=by simpa using ht
   have hs:takeS p m=takeI p m:=by unfold takeS;rw [if_pos ht']
   have hi:takeI p m=(f:Int):=by have:(takeS p m).toNat=f:=e;omega
   unfold takeI at hi;split at hi
   ·exact h.ne (by have:=h.ht;omega)
   ·split at hi
    ·
     next he =>
     have ho:=h.own;unfold passI at hi;split at hi
     ·next hp =>
      obtain ⟨q0,q1,q2,q3,q4,q5⟩:=hp;have:bAt p.B (p.e-8)=p.B.getD f 0:=by unfold bAt;rw [hi,Int.toNat_natCast]
      rw [← this,q5,q0] at ho;exact absurd ho (by decide)
     ·split at hi
      ·next hp =>
       obtain ⟨q0,q1,q2,q3,q4,q5⟩:=hp;have:bAt p.B (p.e+8)=p.B.getD f 0:=by unfold bAt;rw [hi,Int.toNat_natCast]
       rw [← this,q5,q0] at ho;exact absurd ho (by decide)
      ·omega
    ·omega
  ·rfl
 have hft:=h.ne;have ff:m.f.toNat=f:=by rw [h.hf,Int.toNat_natCast]
 have tt:m.t.toNat=t:=by rw [h.ht,Int.toNat_natCast]
 generalize hS1:st1 p m=B1 at *;have hf1:=h.f1;have ht1:=h.t1
 have hp0:(0<m.p)↔(m.p != 0)=true:=by
  have:=promo_five' h.prm;rw [bne_iff_ne];omega
 refine ext_getD ?_ ?_ ?_
 ·unfold rs3 rs2;split <;> simp [hl1]
 ·exact st4_len (st3_len hl1)
 ·intro j hj
  unfold rs3 rs2 st4 st3;rw [ff,tt,e0];by_cases hm:0<m.p
  ·rw [if_pos hm,if_pos (hp0.1 hm)]
   rw [Qi _ _ _ _ (by simp [hl1];omega),Qi _ _ _ _ (by simp [hl1];omega),Qi _ _ _ _ (by omega),Qi _ _ _ _ (by simp [hl1];omega),Qi _ _ _ _ (by simp [hl1];omega),Qi _ _ _ _ (by omega)];by_cases a:f=j
   ·subst a;simp [hft.symm]
   ·by_cases b:t=j
    ·subst b;simp [hft]
    ·simp [a,b]
  ·rw [if_neg hm,if_neg (fun e=>hm (hp0.2 e))]
   rw [Qi _ _ _ _ (by simp [hl1];omega),Qi _ _ _ _ (by omega),Qi _ _ _ _ (by simp [hl1];omega),Qi _ _ _ _ (by omega)];by_cases a:f=j
   ·subst a;simp [hft.symm]
   ·by_cases b:t=j
    ·subst b;simp [hft]
    ·simp [a,b]
theorem beh_cast {p:Ps} {m:Mv} {f t:Nat} (h:Fm p m f t) {k:Nat} (hk:k<4) (hc:castN p m=k):rbehB p m f t=behB p m:=by
 have c:=Qaw h hk hc;have s1:st1 p m=p.B:=by unfold st1 takeB;rw [c.no_take h];rfl
 have hl:=h.brd.1;have hp:=c.no_promo h;have ff:m.f.toNat=f:=by rw [h.hf,Int.toNat_natCast]
 have tt:m.t.toNat=t:=by rw [h.ht,Int.toNat_natCast]
 have md:((m.f+m.t) / 2).toNat=(f+t) / 2:=by rw [h.hf,h.ht];omega
 have s4:∀ B,st4 p m B=B:=fun B=>by unfold st4;rw [hp];rfl
 have r3:∀ B,rs3 p m t B=B:=fun B=>by unfold rs3;rw [hp];rfl
 have e1:=c.ef;have e2:=c.et;have er:=c.rook;unfold rbehB behB st3 st2 rs2 rs5 rs6;rw [s4,r3,s1,hc,if_pos hk,ff,tt,md,er];generalize mkI 4 p.t=r at *;clear s4 r3 s1 hp ff tt md er c;have:k=0∨k=1∨k=2∨k=3:=by omega
 rcases this with rfl|rfl|rfl|rfl
 ·have e1':f=4:=e1
  have e2':t=6:=e2;subst e1' e2';rw [if_neg (by omega),if_pos (by omega)];refine ext_getD (by simp [hl]) (by simp [hl]) fun j hj=>?_
  rw [show hRk 0=7 from rfl,show (4+6) / 2=5 from rfl];rw [Qi _ _ _ _ (by simp [hl]),Qi _ _ _ _ (by simp [hl]),Qi _ _ _ _ (by simp [hl]),Qi _ _ _ _ (by simp [hl]),Qi _ _ _ _ (by simp [hl]),Qi _ _ _ _ (by simp [hl]),Qi _ _ _ _ (by simp [hl]),Qi _ _ _ _ (by simp [hl]),Qi _ _ _ _ (by simp [hl]),Qi _ _ _ _ (by simp [hl])];by_cases a0:4=j
  ·subst a0;rfl
  ·by_cases a1:6=j
   ·subst a1;rfl
   ·by_cases a2:5=j
    ·subst a2;rfl
    ·by_cases a3:7=j
     ·subst a3;rfl
     ·simp only [a0,a1,a2,a3,if_false]
 ·have e1':f=4:=e1
  have e2':t=2:=e2;subst e1' e2';rw [if_pos (by omega),if_neg (by omega)];refine ext_getD (by simp [hl]) (by simp [hl]) fun j hj=>?_
  rw [show hRk 1=0 from rfl,show (4+2) / 2=3 from rfl];rw [Qi _ _ _ _ (by simp [hl]),Qi _ _ _ _ (by simp [hl]),Qi _ _ _ _ (by simp [hl]),Qi _ _ _ _ (by simp [hl]),Qi _ _ _ _ (by simp [hl]),Qi _ _ _ _ (by simp [hl]),Qi _ _ _ _ (by simp [hl]),Qi _ _ _ _ (by simp [hl]),Qi _ _ _ _ (by simp [hl]),Qi _ _ _ _ (by simp [hl])];by_cases a0:4=j
  ·subst a0;rfl
  ·by_cases a1:2=j
   ·subst a1;rfl
   ·by_cases a2:3=j
    ·subst a2;rfl
    ·by_cases a3:0=j
     ·subst a3;rfl
     ·simp only [a0,a1,a2,a3,if_false]
 ·have e1':f=60:=e1
  have e2':t=62:=e2;subst e1' e2';rw [if_neg (by omega),if_pos (by omega)];refine ext_getD (by simp [hl]) (by simp [hl]) fun j hj=>?_
  rw [show hRk 2=63 from rfl,show (60+62) / 2=61 from rfl];rw [Qi _ _ _ _ (by simp [hl]),Qi _ _ _ _ (by simp [hl]),Qi _ _ _ _ (by simp [hl]),Qi _ _ _ _ (by simp [hl]),Qi _ _ _ _ (by simp [hl]),Qi _ _ _ _ (by simp [hl]),Qi _ _ _ _ (by simp [hl]),Qi _ _ _ _ (by simp [hl]),Qi _ _ _ _ (by simp [hl]),Qi _ _ _ _ (by simp [hl])];by_cases a0:60=j
  ·subst a0;rfl
  ·by_cases a1:62=j
   ·subst a1;rfl
   ·by_cases a2:61=j
    ·subst a2;rfl
    ·by_cases a3:63=j
     ·subst a3;rfl
     ·simp only [a0,a1,a2,a3,if_false]
 ·have e1':f=60:=e1
  have e2':t=58:=e2;subst e1' e2';rw [if_pos (by omega),if_neg (by omega)];refine ext_getD (by simp [hl]) (by simp [hl]) fun j hj=>?_
  rw [show hRk 3=56 from rfl,show (60+58) / 2=59 from rfl];rw [Qi _ _ _ _ (by simp [hl]),Qi _ _ _ _ (by simp [hl]),Qi _ _ _ _ (by simp [hl]),Qi _ _ _ _ (by simp [hl]),Qi _ _ _ _ (by simp [hl]),Qi _ _ _ _ (by simp [hl]),Qi _ _ _ _ (by simp [hl]),Qi _ _ _ _ (by simp [hl]),Qi _ _ _ _ (by simp [hl]),Qi _ _ _ _ (by simp [hl])];by_cases a0:60=j
  ·subst a0;rfl
  ·by_cases a1:58=j
   ·subst a1;rfl
   ·by_cases a2:59=j
    ·subst a2;rfl
    ·by_cases a3:56=j
     ·subst a3;rfl
     ·simp only [a0,a1,a2,a3,if_false]
theorem behB_eq {p:Ps} {m:Mv} {f t:Nat} (h:Fm p m f t):rbehB p m f t=behB p m:=by
 by_cases hc:castN p m<4
 ·exact beh_cast h hc rfl
 ·exact beh_plain h (by have:=castN_le p m;omega)
theorem behP_eq {p:Ps} {m:Mv} {f t:Nat} (h:Fm p m f t):rbehP p m f t=behP p m:=by
 obtain ⟨t01,⟨c0,c1⟩,_⟩:=Qt h.right;unfold rbehP behP;rw [behB_eq h,Jt t01,ep_eq h.hf h.ht,rtN_is,qN_is h.hf h.ht h.f1 h.t1,(rt_q c0 c1 _ _ _ _).1]
def nz (x:Int):Nat:=if x=0 then 0 else 1
def cN (B:List Int):Nat→Nat
 | 0=>0
 | k+1=>cN B k+nz (B.getD k 0)
theorem cN_le (B:List Int):∀ k,cN B k≤k
 | 0=>Nat.le_refl _
 | k+1=>by
  have:=cN_le B k;have:nz (B.getD k 0)≤1:=by unfold nz;split <;> omega
  rw [cN];omega
theorem cN_set (B:List Int) (i:Nat) (x:Int) (h:i<B.length):∀ k,cN (B.set i x) k+(if i<k then nz (B.getD i 0) else 0)=cN B k+(if i<k then nz x else 0)
 | 0=>by simp [cN]
 | k+1=>by
  have:=cN_set B i x h k;rw [cN,cN,Qi _ _ _ _ h];by_cases e:i=k
  ·subst e
   rw [if_neg (by omega),if_neg (by omega)] at this;rw [if_pos rfl,if_pos (by omega),if_pos (by omega)];omega
  ·rw [if_neg e]
   by_cases l:i<k
   ·rw [if_pos l,if_pos l] at this
    rw [if_pos (by omega),if_pos (by omega)];omega
   ·rw [if_neg l,if_neg l] at this
    rw [if_neg (by omega),if_neg (by omega)];omega
theorem cN_64 {B:List Int} (hl:B.length=64) {i:Nat} (hi:i<64) (x:Int):cN (B.set i x) 64+nz (B.getD i 0)=cN B 64+nz x:=by
 have:=cN_set B i x (by omega) 64;rwa [if_pos hi,if_pos hi] at this
theorem nz_0:nz 0=0:=rfl
theorem nz_1 {x:Int} (h:x≠0):nz x=1:=by unfold nz;rw [if_neg h]
theorem own_ne {p:Ps} {m:Mv} {f t:Nat} (h:Fm p m f t):p.B.getD f 0≠0:=by
 intro e;have:=h.own;rw [e] at this;have:=h.t01;rw [side_zero] at *;omega
theorem Fm.on {p:Ps} {m:Mv} {f t:Nat} (h:Fm p m f t):On m :=
 ⟨by have:=h.hf;omega,by have:=h.hf;have:=h.f1;omega,by have:=h.ht;omega,by have:=h.ht;have:=h.t1;omega⟩
theorem take_sq {p:Ps} {m:Mv} {f t:Nat} (h:Fm p m f t) (ht:0≤takeI p m):(takeI p m).toNat<64∧p.B.getD (takeI p m).toNat 0≠0∧(takeI p m).toNat≠f∧((takeI p m).toNat=t∨p.B.getD t 0=0):=by
 have hlt:takeI p m<64:=by
  have:=take_lt (p:=p) h.on;unfold takeS at this;rw [if_pos ht] at this;exact this.2
 have hbt:bAt p.B m.t=p.B.getD t 0:=by unfold bAt;rw [h.ht,Int.toNat_natCast]
 by_cases h0:bAt p.B m.t=0
 ·have hi:takeI p m=(if epTake p m then passI p else -1):=by unfold takeI;rw [if_neg (by simpa using h0)]
  split at hi
  ·next he =>
   have hz:p.B.getD t 0=0:=by rw [← hbt];exact h0
   have ho:=h.own;refine ⟨by omega,?_⟩;unfold passI at hi;split at hi
   ·next hp =>
    obtain ⟨q0,q1,q2,q3,q4,q5⟩:=hp;have e5:p.B.getD (takeI p m).toNat 0=-1:=by rw [hi];exact q5
    refine ⟨by rw [e5];decide,?_,.inr hz⟩;intro e;rw [e] at e5;rw [e5,q0] at ho;exact absurd ho (by decide)
   ·split at hi
    ·next hp =>
     obtain ⟨q0,q1,q2,q3,q4,q5⟩:=hp;have e5:p.B.getD (takeI p m).toNat 0=1:=by rw [hi];exact q5
     refine ⟨by rw [e5];decide,?_,.inr hz⟩;intro e;rw [e] at e5;rw [e5,q0] at ho;exact absurd ho (by decide)
    ·omega
  ·omega
 ·have hi:takeI p m=t:=by unfold takeI;rw [if_pos h0];exact h.ht
  rw [hi,Int.toNat_natCast];exact ⟨h.t1,by rw [← hbt];exact h0,fun e=>h.ne e.symm,.inl rfl⟩
theorem take_none {p:Ps} {m:Mv} {f t:Nat} (h:Fm p m f t) (ht:¬ 0≤takeI p m):p.B.getD t 0=0:=by
 have hbt:bAt p.B m.t=p.B.getD t 0:=by unfold bAt;rw [h.ht,Int.toNat_natCast]
 by_cases h0:bAt p.B m.t=0
 ·rw [← hbt];exact h0
 ·exfalso
  unfold takeI at ht;rw [if_pos h0] at ht;exact ht (by have:=h.ht;omega)
theorem st1_cnt {p:Ps} {m:Mv} {f t:Nat} (h:Fm p m f t):cN (st1 p m) 64+(if takeB p m then 1 else 0)=cN p.B 64∧(st1 p m).getD f 0=p.B.getD f 0∧(st1 p m).getD t 0=0:=by
 have hl:=h.brd.1;by_cases ht:0≤takeI p m
 ·obtain ⟨a1,a2,a3,a4⟩:=take_sq h ht
  have hs:takeS p m=takeI p m:=by unfold takeS;rw [if_pos ht]
  have hb:takeB p m=true:=by unfold takeB;exact decide_eq_true ht
  have e:st1 p m=p.B.set (takeI p m).toNat 0:=by unfold st1;rw [hb,hs];rfl
  rw [e,hb];have:=cN_64 hl a1 0;rw [nz_1 a2,nz_0] at this;refine ⟨by simpa using this,?_,?_⟩
  ·rw [Qi _ _ _ _ (by omega),if_neg a3]
  ·rw [Qi _ _ _ _ (by omega)]
   rcases a4 with a4|a4
   ·rw [if_pos a4]
   ·split
    ·rfl
    ·exact a4
 ·have hb:takeB p m=false:=by unfold takeB;exact decide_eq_false ht
  have e:st1 p m=p.B:=by unfold st1;rw [hb];rfl
  rw [e,hb];exact ⟨rfl,rfl,take_none h ht⟩
theorem cast_sq (k:Nat) (hk:k<4):(hKg k+wTo k) / 2<64∧wLo k≤(hKg k+wTo k) / 2∧(hKg k+wTo k) / 2<wHi k∧(hKg k+wTo k) / 2≠hRk k∧(hKg k+wTo k) / 2≠hKg k∧(hKg k+wTo k) / 2≠wTo k∧hRk k≠hKg k∧hRk k≠wTo k:=by
 have:k=0∨k=1∨k=2∨k=3:=by omega
 rcases this with rfl|rfl|rfl|rfl <;> decide
theorem st2_cnt {p:Ps} {m:Mv} {f t:Nat} (h:Fm p m f t):cN (st2 p m (st1 p m)) 64=cN (st1 p m) 64∧(st2 p m (st1 p m)).getD f 0=p.B.getD f 0∧(st2 p m (st1 p m)).getD t 0=0:=by
 obtain ⟨h1,h2,h3⟩:=st1_cnt h;by_cases hc:castN p m<4
 ·have c:=Qaw h hc rfl
  have s1:st1 p m=p.B:=by unfold st1 takeB;rw [c.no_take h];rfl
  have hl:=h.brd.1
  have e:st2 p m (st1 p m)=(p.B.set (hRk (castN p m)) 0).set ((f+t) / 2) (p.B.getD (hRk (castN p m)) 0):=by
   unfold st2;rw [if_pos hc,s1,show ((m.f+m.t) / 2).toNat=(f+t) / 2 by rw [h.hf,h.ht];omega]
  have hr:p.B.getD (hRk (castN p m)) 0≠0:=by
   rw [c.rook];rcases h.t01 with q|q <;> rw [q] <;> decide
  obtain ⟨d1,d2,d3,d4,d5,d6,d7,d8⟩:=cast_sq (castN p m) hc;have hrl:=hRk_lt (castN p m);have hmd:=(free_iff p.B _).1 c.free _ d1 d2 d3;rw [← c.ef,← c.et] at d1 hmd d4 d5 d6;rw [← c.ef] at d7;rw [← c.et] at d8;rw [e,s1];rw [s1] at h3;have l1:(p.B.set (hRk (castN p m)) 0).length=64:=by simpa using hl
  have c1:=cN_64 hl hrl 0;have c2:=cN_64 l1 d1 (p.B.getD (hRk (castN p m)) 0);rw [Qi _ _ _ _ (by omega),if_neg (fun x=>d4 x.symm),hmd,nz_0] at c2;rw [nz_0] at c1;refine ⟨by omega,?_,?_⟩
  ·rw [Qi _ _ _ _ (by omega),if_neg d5,Qi _ _ _ _ (by omega),if_neg d7]
  ·rw [Qi _ _ _ _ (by omega),if_neg d6,Qi _ _ _ _ (by omega),if_neg d8];exact h3
 ·have e:st2 p m (st1 p m)=st1 p m:=by unfold st2;rw [if_neg hc]
  rw [e];exact ⟨rfl,h2,h3⟩
theorem mk_ne {n t:Int} (h:n≠0):mkI n t≠0:=by unfold mkI;split <;> omega
theorem beh_cnt {p:Ps} {m:Mv} {f t:Nat} (h:Fm p m f t):cN (behB p m) 64+(if takeB p m then 1 else 0)=cN p.B 64∧(behB p m).getD f 0=0∧(behB p m).getD t 0≠0:=by
 obtain ⟨a1,_,_⟩:=st1_cnt h;obtain ⟨b1,b2,b3⟩:=st2_cnt h;have hl2:(st2 p m (st1 p m)).length=64:=st2_len (st1_len h.brd.1);have ff:m.f.toNat=f:=by rw [h.hf,Int.toNat_natCast]
 have tt:m.t.toNat=t:=by rw [h.ht,Int.toNat_natCast]
 have hne:=h.ne;have hf1:=h.f1;have ht1:=h.t1;have ho:=own_ne h;have e3:st3 m (st2 p m (st1 p m))=((st2 p m (st1 p m)).set f 0).set t (p.B.getD f 0):=by unfold st3;rw [ff,tt,b2]
 generalize hB2:st2 p m (st1 p m)=B2 at *;have l1:(B2.set f 0).length=64:=by simpa using hl2
 have c1:=cN_64 hl2 hf1 0;have c2:=cN_64 l1 ht1 (p.B.getD f 0);rw [Qi _ _ _ _ (by omega),if_neg hne,b3,nz_0] at c2;rw [b2,nz_1 ho,nz_0] at c1;rw [nz_1 ho] at c2;have l3:(st3 m B2).length=64:=st3_len hl2;have g1:(st3 m B2).getD f 0=0:=by rw [e3,Qi _ _ _ _ (by omega),if_neg hne.symm,Qi _ _ _ _ (by omega),if_pos rfl]
 have g2:(st3 m B2).getD t 0≠0:=by rw [e3,Qi _ _ _ _ (by omega),if_pos rfl];exact ho
 have eb:behB p m=st4 p m (st3 m B2):=by unfold behB;rw [hB2]
 rw [eb];unfold st4;split
 ·next hp =>
  have hm:=mk_ne (t:=p.t) (bne_iff_ne.1 hp);rw [tt];have c3:=cN_64 l3 ht1 (mkI m.p p.t);rw [nz_1 g2,nz_1 hm] at c3;refine ⟨?_,?_,?_⟩
  ·rw [e3] at c3 ⊢;omega
  ·rw [Qi _ _ _ _ (by omega),if_neg hne.symm];exact g1
  ·rw [Qi _ _ _ _ (by omega),if_pos rfl];exact hm
 ·refine ⟨?_,g1,g2⟩
  rw [e3];omega
def OkL (B:List Int):Prop:=B.length=64∧∀ j,j<64→-6≤B.getD j 0∧B.getD j 0≤6
theorem OkL.brd {B:List Int} (h:OkL B):Brd B:=⟨h.1,fun i hi=>by have:=h.2 i hi;omega⟩
theorem okL_of {p:Ps} (hB:Brd p.B) (h:pwI p=0):OkL p.B:=by
 obtain ⟨a0,_⟩:=Yj h;obtain ⟨hr,_⟩:=king_one a0;exact ⟨hB.1,fun j hj=>okB_bd ((rightB_iff p.B hB.1).1 hr j hj)⟩
theorem OkL.set {B:List Int} (h:OkL B) {i:Nat} (hi:i<64) {x:Int} (h0:-6≤x) (h1:x≤6):OkL (B.set i x):=by
 refine ⟨by simpa using h.1,fun j hj=>?_⟩;rw [Qi _ _ _ _ (by rw [h.1];omega)];split
 ·exact ⟨h0,h1⟩
 ·exact h.2 j hj
theorem Fm.okL {p:Ps} {m:Mv} {f t:Nat} (h:Fm p m f t):OkL p.B:=okL_of h.brd h.right
theorem st1_ok {p:Ps} {m:Mv} {f t:Nat} (h:Fm p m f t):OkL (st1 p m):=by
 unfold st1;split
 ·exact h.okL.set (by have:=take_lt (p:=p) h.on;omega) (by omega) (by omega)
 ·exact h.okL
theorem st2_ok {p:Ps} {m:Mv} {f t:Nat} (h:Fm p m f t) {B:List Int} (ok:OkL B):OkL (st2 p m B):=by
 unfold st2;split
 ·next hc =>
  have hr:=hRk_lt (castN p m);have hb:=ok.2 _ hr;refine (ok.set hr (by omega) (by omega)).set ?_ hb.1 hb.2;have:=h.hf;have:=h.ht;have:=h.f1;have:=h.t1;omega
 ·exact ok
theorem st3_ok {p:Ps} {m:Mv} {f t:Nat} (h:Fm p m f t) {B:List Int} (ok:OkL B):OkL (st3 m B):=by
 unfold st3;have ff:m.f.toNat=f:=by rw [h.hf,Int.toNat_natCast]
 have tt:m.t.toNat=t:=by rw [h.ht,Int.toNat_natCast]
 rw [ff,tt];have hb:=ok.2 f h.f1;exact (ok.set h.f1 (by omega) (by omega)).set h.t1 hb.1 hb.2
theorem mk_bd {p:Ps} {m:Mv} {f t:Nat} (h:Fm p m f t):-6≤mkI m.p p.t∧mkI m.p p.t≤6:=by
 have:=promo_five' h.prm;unfold mkI;split <;> omega
theorem st4_ok {p:Ps} {m:Mv} {f t:Nat} (h:Fm p m f t) {B:List Int} (ok:OkL B):OkL (st4 p m B):=by
 unfold st4;have tt:m.t.toNat=t:=by rw [h.ht,Int.toNat_natCast]
 split
 ·rw [tt];exact ok.set h.t1 (mk_bd h).1 (mk_bd h).2
 ·exact ok
theorem behB_ok {p:Ps} {m:Mv} {f t:Nat} (h:Fm p m f t):OkL (behB p m):=st4_ok h (st3_ok h (st2_ok h (st1_ok h)))
theorem epI_bd {p:Ps} {m:Mv} {f t:Nat} (h:Fm p m f t):-1≤epI p m∧epI p m≤63:=by
 have:=h.hf;have:=h.ht;have:=h.f1;have:=h.t1;unfold epI;split <;> omega
end Go.Proofs.YtlpeiolgcaddjaaGreatDoor
