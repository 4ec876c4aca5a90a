/- LeA · LeB: my texts, in their order. -/
import Derived.Test.YtlpeiolgcaddjaaGreatDoorPkGh
import Derived.Test.YtlpeiolgcaddjaaGreatDoorPkR
namespace Go.Proofs.YtlpeiolgcaddjaaGreatDoor
open Go.RowKit
set_option linter.unusedVariables false
set_option linter.unusedSimpArgs false
set_option maxRecDepth 100000
theorem beh_same {p:Ps} {m:Mv} {f t:Nat} (h:Fm p m f t) {j:Nat} (hj:j<64) (jt:j≠t) (jf:j≠f)
  (hk:0≤takeI p m→j≠(takeI p m).toNat) (hc:castN p m<4→j≠hRk (castN p m)∧j≠(f+t) / 2):(behB p m).getD j 0=p.B.getD j 0:=by
 have hl:=h.brd.1;have l1:(st1 p m).length=64:=st1_len hl;have l2:(st2 p m (st1 p m)).length=64:=st2_len l1;have l3:(st3 m (st2 p m (st1 p m))).length=64:=st3_len l2;have ef:m.f.toNat=f:=by rw [h.hf,Int.toNat_natCast]
 have et:m.t.toNat=t:=by rw [h.ht,Int.toNat_natCast]
 have f1:=h.f1;have t1:=h.t1
 have h1:(st1 p m).getD j 0=p.B.getD j 0:=by
  unfold st1;split
  ·next hb =>
   have ht:0≤takeI p m:=by simpa [takeB] using hb
   have hs:takeS p m=takeI p m:=by unfold takeS;rw [if_pos ht]
   rw [hs,Qi _ _ _ _ (by rw [hl];exact (take_sq h ht).1),if_neg (fun e=>hk ht e.symm)]
  ·rfl
 have h2:(st2 p m (st1 p m)).getD j 0=p.B.getD j 0:=by
  unfold st2;split
  ·next hcc =>
   obtain ⟨a,b⟩:=hc hcc;have em:((m.f+m.t) / 2).toNat=(f+t) / 2:=by rw [h.hf,h.ht];omega
   have hr:=hRk_lt (castN p m);rw [em,Qi _ _ _ _ (by rw [List.length_set,l1];omega),if_neg (fun e=>b e.symm),Qi _ _ _ _ (by rw [l1];exact hr),if_neg (fun e=>a e.symm),h1]
  ·exact h1
 have h3:(st3 m (st2 p m (st1 p m))).getD j 0=p.B.getD j 0:=by
  unfold st3;rw [ef,et,Qi _ _ _ _ (by rw [List.length_set,l2];exact t1),if_neg (fun e=>jt e.symm),Qi _ _ _ _ (by rw [l2];exact f1),if_neg (fun e=>jf e.symm),h2]
 unfold behB st4;split
 ·rw [et,Qi _ _ _ _ (by rw [l3];exact t1),if_neg (fun e=>jt e.symm),h3]
 ·exact h3
theorem take_what {p:Ps} {m:Mv} {f t:Nat} (h:Fm p m f t) (ht:0≤takeI p m):(takeI p m).toNat=t∨(m.t=p.e∧(p.B.getD (takeI p m).toNat 0=1∨p.B.getD (takeI p m).toNat 0=-1)):=by
 by_cases h0:bAt p.B m.t=0
 ·have hi:takeI p m=(if epTake p m then passI p else -1):=by unfold takeI;rw [if_neg (by simpa using h0)]
  split at hi
  ·next he =>
   right;unfold epTake at he;simp only [Bool.and_eq_true,beq_iff_eq] at he;refine ⟨he.1.2,?_⟩;unfold passI at hi;split at hi
   ·next hp=>right;rw [hi];exact hp.2.2.2.2.2
   ·split at hi
    ·next hp=>left;rw [hi];exact hp.2.2.2.2.2
    ·omega
  ·omega
 ·left
  have hi:takeI p m=t:=by unfold takeI;rw [if_pos h0];exact h.ht
  rw [hi,Int.toNat_natCast]
def cP (P:Int→Nat) (B:List Int):Nat→Nat
 | 0=>0
 | k+1=>cP P B k+P (B.getD k 0)
theorem cP_set (P:Int→Nat) (B:List Int) (i:Nat) (x:Int) (h:i<B.length):∀ k,cP P (B.set i x) k+(if i<k then P (B.getD i 0) else 0)=cP P B k+(if i<k then P x else 0)
 | 0=>by simp [cP]
 | k+1=>by
  have:=cP_set P B i x h k;rw [cP,cP,Qi _ _ _ _ h];by_cases e:i=k
  ·subst e
   rw [if_neg (by omega),if_neg (by omega)] at this;rw [if_pos rfl,if_pos (by omega),if_pos (by omega)];omega
  ·rw [if_neg e]
   by_cases l:i<k
   ·rw [if_pos l,if_pos l] at this
    rw [if_pos (by omega),if_pos (by omega)];omega
   ·rw [if_neg l,if_neg l] at this
    rw [if_neg (by omega),if_neg (by omega)];omega
theorem cP_64 (P:Int→Nat) {B:List Int} (hl:B.length=64) {i:Nat} (hi:i<64) (x:Int):cP P (B.set i x) 64+P (B.getD i 0)=cP P B 64+P x:=by
 have:=cP_set P B i x (by omega) 64;rwa [if_pos hi,if_pos hi] at this
def hitN (s x:Int):Nat:=if hit 0 s x then 1 else 0
theorem cnt_cP (s:Int) (B:List Int):∀ k,cnt (fun i=>hit 0 s (B.getD i 0)) k=cP (hitN s) B k
 | 0=>rfl
 | k+1=>by
  rw [cP,← cnt_cP s B k]
  cases hb:hit 0 s (B.getD k 0)
  ·rw [cnt_no hb];unfold hitN;rw [hb];rfl
  ·rw [cnt_yes hb];unfold hitN;rw [hb];rfl
theorem hitN_0 (s:Int):hitN s 0=0:=by unfold hitN hit;rfl
theorem hitN_side {s x t:Int} (ht:t=0∨t=1) (h:sideI x=t):hitN s x=if t=s then 1 else 0:=by
 have hm:=(side_man ht h).1;unfold hitN hit;rw [hm,h];by_cases e:t=s
 ·rw [if_pos e,e];simp
 ·rw [if_neg e,beq_eq_false_iff_ne.2 e];simp
theorem side_mk {n t:Int} (ht:t=0∨t=1) (h0:1≤n) (h1:n≤6):sideI (mkI n t)=t:=by
 have hm:manB (mkI n t)=true:=by rw [Jk];unfold mkI;split <;> omega
 unfold sideI;rw [hm,if_pos rfl];unfold mkI;rcases ht with rfl|rfl
 ·rw [if_pos (show 0<(if (0:Int)=0 then n else -n) by rw [if_pos rfl];omega)]
 ·rw [if_neg (by simp;omega)]
theorem beh_many {p:Ps} {m:Mv} {f t:Nat} (h:Fm p m f t) (s:Int):manyI (behB p m) 0 s≤manyI p.B 0 s:=by
 have key:cP (hitN s) (behB p m) 64≤cP (hitN s) p.B 64:=by
  have hl:=h.brd.1;have l1:(st1 p m).length=64:=st1_len hl;have l2:(st2 p m (st1 p m)).length=64:=st2_len l1;have l3:(st3 m (st2 p m (st1 p m))).length=64:=st3_len l2;have ef:m.f.toNat=f:=by rw [h.hf,Int.toNat_natCast]
  have et:m.t.toNat=t:=by rw [h.ht,Int.toNat_natCast]
  have f1:=h.f1;have t1:=h.t1;have z:=hitN_0 s;obtain ⟨_,s2f,_⟩:=st2_cnt h
  have k1:cP (hitN s) (st1 p m) 64≤cP (hitN s) p.B 64:=by
   unfold st1;split
   ·have:=take_lt (p:=p) h.on
    have:=cP_64 (hitN s) hl (i:=(takeS p m).toNat) (by omega) 0;omega
   ·exact Nat.le_refl _
  have k2:cP (hitN s) (st2 p m (st1 p m)) 64≤cP (hitN s) (st1 p m) 64:=by
   unfold st2;split
   ·next hc =>
    have c:=Qaw h hc rfl;have e1:st1 p m=p.B:=by unfold st1 takeB;rw [c.no_take h];rfl
    obtain ⟨q1,q2,q3,q4,_⟩:=cast_sq _ c.k4;have em:((m.f+m.t) / 2).toNat=(hKg (castN p m)+wTo (castN p m)) / 2:=by rw [h.hf,h.ht,c.ef,c.et];omega
    have hr:=hRk_lt (castN p m);have a:=cP_64 (hitN s) l1 hr 0;have b:=cP_64 (hitN s) (B:=(st1 p m).set (hRk (castN p m)) 0) (by simpa using l1) q1 ((st1 p m).getD (hRk (castN p m)) 0);rw [em];omega
   ·exact Nat.le_refl _
  have k3:cP (hitN s) (st3 m (st2 p m (st1 p m))) 64≤cP (hitN s) (st2 p m (st1 p m)) 64:=by
   unfold st3;rw [ef,et];have a:=cP_64 (hitN s) l2 f1 0;have b:=cP_64 (hitN s) (B:=(st2 p m (st1 p m)).set f 0) (by simpa using l2) t1 ((st2 p m (st1 p m)).getD f 0);omega
  have k4:cP (hitN s) (behB p m) 64≤cP (hitN s) (st3 m (st2 p m (st1 p m))) 64:=by
   unfold behB st4;split
   ·next hp =>
    rw [et];have a:=cP_64 (hitN s) l3 t1 (mkI m.p p.t)
    have g:(st3 m (st2 p m (st1 p m))).getD t 0=p.B.getD f 0:=by
     unfold st3;rw [ef,et,Qi _ _ _ _ (by rw [List.length_set,l2];exact t1),if_pos rfl,s2f]
    have h5:=promo_five' h.prm;have hp':m.p≠0:=by simpa using hp
    rw [g,hitN_side h.t01 h.own,hitN_side h.t01 (side_mk h.t01 (by omega) (by omega))] at a;omega
   ·exact Nat.le_refl _
  omega
 unfold manyI many;rw [cnt_cP,cnt_cP];omega
theorem hit_king {s x:Int} (hs:s=0∨s=1):hit 6 s x=(x == mkI 6 s):=by
 rw [Bool.eq_iff_iff];unfold hit;simp only [Bool.and_eq_true,beq_iff_eq,Bool.or_eq_true];constructor
 ·rintro ⟨⟨h1,h2⟩,h3⟩
  have h6:kindI x=6:=by omega
  rcases king_two x h6 with rfl|rfl
  ·rcases hs with rfl|rfl
   ·rfl
   ·exact absurd h2 (by decide)
  ·rcases hs with rfl|rfl
   ·exact absurd h2 (by decide)
   ·rfl
 ·rintro rfl
  rcases hs with rfl|rfl <;> exact ⟨⟨by decide,by decide⟩,.inr (by decide)⟩
theorem goes_hit {p:Ps} {m:Mv} {f t:Nat} (F:Fm p m f t) (hg:goesM p m=true) (h0:p.B.getD t 0≠0):hitB p.B (f:Int) (t:Int)=true:=by
 have ebt:bAt p.B m.t=p.B.getD t 0:=by unfold bAt;rw [F.ht,Int.toNat_natCast]
 unfold goesM at hg;rw [Bool.and_eq_true] at hg;obtain ⟨_,hg⟩:=hg;split at hg
 ·unfold pgoB at hg
  rw [ebt,F.hf,F.ht] at hg;simp only [Bool.or_eq_true,Bool.and_eq_true,beq_iff_eq] at hg;rcases hg with ⟨g,_⟩|⟨⟨⟨g,_⟩,_⟩,_⟩|⟨g,_⟩
  ·exact absurd g h0
  ·exact absurd g h0
  ·exact g
 ·rw [Bool.or_eq_true,decide_eq_true_eq,F.hf,F.ht] at hg
  rcases hg with g|g
  ·exact g
  ·have c:=Qaw F g rfl
   exact absurd (by rw [c.et];exact (free_iff p.B _).1 c.free _ (wTo_lt _) (wTo_between _ c.k4).1 (wTo_between _ c.k4).2) h0
theorem check_one {B:List Int} (hw:Qx B=0) {s:Int} (hs:s=0∨s=1) {k x:Nat} (hk:k<64) (hx:x<64) (ek:B.getD k 0=mkI 6 s) (ex:sideI (B.getD x 0)=1-s) (hh:hitB B (x:Int) (k:Int)=true):Qq B s=true:=by
 obtain ⟨k',hk',e1,e2⟩:=king_at hw hs;obtain ⟨k0,_,_,u⟩:=one_king hw hs;have:k=k':=(u k hk ek).trans (u k' hk' e2).symm;subst this;unfold Qq;rw [e1,Jt hs];refine (struck_iff (by omega) (by omega) (king_one hw).1).2 ⟨(x:Int),by omega,by omega,?_,(hitB_iff B _ _).1 hh⟩;unfold bAt;rw [Int.toNat_natCast];exact ex
theorem not_check {p:Ps} (hr:pwI p=0):Qq p.B (1-p.t)=false:=by
 have:=(Yj hr).2.2.1;unfold Qae at this;rw [Bool.or_eq_false_iff,Jt (Qt hr).1] at this;exact this.2
theorem beh_right {p:Ps} {m:Mv} {f t:Nat} (F:Fm p m f t):Jq (behB p m)=true:=by
 have ok:=behB_ok F;rw [rightB_iff _ ok.1];intro i hi;have:=ok.2 i hi;unfold okB;by_cases h0:(behB p m).getD i 0=0
 ·rw [h0];rfl
 ·rw [(Jk _).2 ⟨h0,this⟩,Bool.or_true]
theorem beh_other {p:Ps} {m:Mv} {f t:Nat} (F:Fm p m f t) (hg:goesM p m=true):∃ k:Nat,k<64∧p.B.getD k 0=mkI 6 (1-p.t)∧∀ j,j<64→((behB p m).getD j 0=mkI 6 (1-p.t)↔j=k):=by
 have hw:=(Yj F.right).1;have o01:1-p.t=0∨1-p.t=1:=by have:=F.t01;omega
 obtain ⟨k,hk,ek,u⟩:=one_king hw o01;have ek':p.B.getD k 0=mkI 6 (1-p.t):=ek;have sk:sideI (mkI 6 (1-p.t))=1-p.t:=side_mk o01 (by omega) (by omega)
 have hkt:k≠t:=fun e=>by
  subst e;have hh:=goes_hit F hg (by rw [ek'];exact mk_ne (by decide));have:=check_one hw o01 hk F.f1 ek' (by rw [F.own];omega) hh;rw [not_check F.right] at this
  cases this
 have hkf:k≠f:=fun e=>by
  subst e;have:=F.own;rw [ek',sk] at this;have:=F.t01;omega
 refine ⟨k,hk,ek',fun j hj=>⟨fun e=>?_,fun e=>?_⟩⟩
 ·rcases beh_at F hj with ⟨rfl,q⟩|⟨_,q|⟨_,q,_⟩|⟨_,q⟩⟩
  ·have:sideI ((behB p m).getD j 0)=p.t:=by
    rw [q];split
    ·next hp =>
     have h5:=promo_five' F.prm;have hp':m.p≠0:=by simpa using hp
     exact side_mk F.t01 (by omega) (by omega)
    ·exact F.own
   rw [e,sk] at this;have:=F.t01;omega
  ·rw [q] at e
   exact absurd e.symm (mk_ne (by decide))
  ·rw [q] at e
   have:=congrArg sideI e;rw [sk,side_mk F.t01 (by omega) (by omega)] at this;have:=F.t01;omega
  ·exact u j hj (by rw [← q];exact e)
 ·subst e
  rw [beh_same F hk hkt hkf (fun ht e=>?_) (fun hc=>?_)]
  ·exact ek'
  ·rcases take_what F ht with q|⟨_,q⟩
   ·exact hkt (by rw [e];exact q)
   ·rw [← e,ek'] at q
    rcases o01 with o|o <;> rw [o] at q <;> rcases q with q|q <;> exact absurd q (by decide)
  ·have c:=Qaw F hc rfl
   obtain ⟨q1,q2,q3,_⟩:=cast_sq _ c.k4;refine ⟨fun e=>?_,fun e=>?_⟩
   ·have:=c.rook
    rw [← e,ek'] at this;have:=congrArg sideI this;rw [sk,side_mk F.t01 (by omega) (by omega)] at this;have:=F.t01;omega
   ·have:=(free_iff p.B _).1 c.free _ q1 q2 q3
    rw [← c.ef,← c.et,← e,ek'] at this;exact absurd this (mk_ne (by decide))
theorem cnt_of_one {B:List Int} {s:Int} (hs:s=0∨s=1) {k:Nat} (hk:k<64) (h:∀ j,j<64→(B.getD j 0=mkI 6 s↔j=k)):manyI B 6 s=1:=by
 unfold manyI many
 have:cnt (fun i=>hit 6 s (B.getD i 0)) 64=cnt (fun j=>j == k) 64:=by
  unfold cnt sel
  congr 1
  apply List.filter_congr;intro j hj;rw [hit_king hs,Bool.eq_iff_iff,beq_iff_eq,beq_iff_eq];exact h j (List.mem_range.1 hj)
 rw [this,cnt_one_all ⟨k,hk⟩];rfl
theorem beh_wrong {p:Ps} {m:Mv} {f t:Nat} (F:Fm p m f t) (hg:goesM p m=true):Qx (behB p m)=0:=by
 have hw:=(Yj F.right).1;obtain ⟨k0,hk0,u0⟩:=beh_king F.brd F.right (Ji F.right hg);obtain ⟨k1,hk1,_,u1⟩:=beh_other F hg;have m0:manyI (behB p m) 6 p.t=1:=cnt_of_one F.t01 hk0 u0;have m1:manyI (behB p m) 6 (1-p.t)=1:=cnt_of_one (by have:=F.t01;omega) hk1 u1;have c0:=beh_many F 0;have c1:=beh_many F 1
 have he:edgeB (behB p m)=false:=by
  unfold edgeB;rw [List.any_eq_false];intro i hi he;rw [List.mem_range] at hi;unfold edge at he;simp only [Bool.and_eq_true,Bool.or_eq_true,beq_iff_eq] at he;have:=beh_edge F.brd F.right hg hi (pawn_two _ he.1);omega
 have hb:¬ (16<manyI p.B 0 0∨16<manyI p.B 0 1):=by
  unfold Qx at hw;split at hw
  ·omega
  ·split at hw
   ·omega
   ·split at hw
    ·omega
    ·split at hw
     ·omega
     ·next h=>exact h
 unfold Qx;rw [if_neg (by rw [beh_right F];decide),if_neg ?_,if_neg (by rw [he];decide),if_neg (by omega)];rcases F.t01 with e|e <;> rw [e] at m0 m1
 ·rw [show (1:Int)-0=1 from rfl] at m1;omega
 ·rw [show (1:Int)-1=0 from rfl] at m1;omega
theorem king_step_all:∀ a b:Fin 3,¬ (a.val=1∧b.val=1)→∃ w:Fin 16,goesB 6 w=true∧goesB (-6) w=true∧wayF w=((a.val:Int)-1)∧wayR w=((b.val:Int)-1):=by decide +kernel
theorem king_hits {B:List Int} {s t:Nat} (hs:s<64) (ht:t<64) (hk:kindI (B.getD s 0)=6) (hf:farI (s:Int) (t:Int)=1):hitB B (s:Int) (t:Int)=true:=by
 have ns:Ya (B.getD s 0)=false:=by unfold Ya;rw [Qak,hk];rfl
 rw [hit_step hs ns];unfold farI at hf
 have b:(t:Int) % 8-(s:Int) % 8≤1∧(s:Int) % 8-(t:Int) % 8≤1∧(t:Int) / 8-(s:Int) / 8≤1∧(s:Int) / 8-(t:Int) / 8≤1∧¬ ((t:Int) % 8=(s:Int) % 8∧(t:Int) / 8=(s:Int) / 8):=by
  generalize (t:Int) % 8=x at *;generalize (s:Int) % 8=y at *;generalize (t:Int) / 8=u at *;generalize (s:Int) / 8=v at *;omega
 obtain ⟨b1,b2,b3,b4,b5⟩:=b;obtain ⟨w,g1,g2,e1,e2⟩:=king_step_all ⟨((t:Int) % 8-(s:Int) % 8+1).toNat,by omega⟩ ⟨((t:Int) / 8-(s:Int) / 8+1).toNat,by omega⟩ (by dsimp only;omega);dsimp only at e1 e2;refine ⟨w,w.2,?_,by omega,by omega,by omega⟩;rcases king_two _ hk with e|e <;> rw [e] <;> assumption
theorem far_sym (a b:Int):farI a b=farI b a:=by
 unfold farI;generalize a % 8=x;generalize b % 8=y;generalize a / 8=u;generalize b / 8=v;omega
theorem beh_touch {p:Ps} {m:Mv} {f t:Nat} (F:Fm p m f t) (hg:goesM p m=true) (hc:Qq (behB p m) p.t=false):Qae (behP p m)=false:=by
 have hw:=beh_wrong F hg;have o2:Qw (Qw p.t)=p.t:=by rcases F.t01 with e|e <;> rw [e] <;> rfl
 unfold Qae;show ((farA (kingI (behB p m) 0) (kingI (behB p m) 1) == 1) || Qq (behB p m) (Qw (Qw p.t)))=false;rw [o2,hc,Bool.or_false,beq_eq_false_iff_ne];intro hf;obtain ⟨a,ha,e1,e2⟩:=king_at hw (side:=0) (.inl rfl);obtain ⟨b,hb,e3,e4⟩:=king_at hw (side:=1) (.inr rfl);rw [e1,e3] at hf;unfold farA at hf;rw [if_pos ⟨⟨by omega,by omega⟩,by omega,by omega⟩] at hf;have k6:kindI (mkI 6 0)=6∧kindI (mkI 6 1)=6:=by decide
 rcases F.t01 with e|e <;> rw [e] at hc
 ·have:=check_one hw (.inl rfl) ha hb e2 (by rw [e4];decide) (king_hits hb ha (by rw [e4];exact k6.2) (by rw [far_sym];exact hf))
  rw [hc] at this;cases this
 ·have:=check_one hw (.inr rfl) hb ha e4 (by rw [e2];decide) (king_hits ha hb (by rw [e2];exact k6.1) hf)
  rw [hc] at this;cases this
theorem rq_right_all:∀ c:Fin 16,∀ b0 b1 b2 b3:Bool,rgtB (qB ((c:Nat):Int) b0 b1 b2 b3) 1=(rgtB ((c:Nat):Int) 1 && !b0)∧rgtB (qB ((c:Nat):Int) b0 b1 b2 b3) 2=(rgtB ((c:Nat):Int) 2 && !b1) ∧
  rgtB (qB ((c:Nat):Int) b0 b1 b2 b3) 4=(rgtB ((c:Nat):Int) 4 && !b2)∧rgtB (qB ((c:Nat):Int) b0 b1 b2 b3) 8=(rgtB ((c:Nat):Int) 8 && !b3):=by decide +kernel
theorem rt_right {c:Int} (c0:0≤c) (c1:c≤15) (m:Mv) {k:Nat} (hk:k<4):rgtB (rtN c m 4) (hR k)=(rgtB c (hR k) && !tcB m k):=by
 rw [rtN_is,(rt_q c0 c1 _ _ _ _).1];have:=rq_right_all ⟨c.toNat,by omega⟩ (tcB m 0) (tcB m 1) (tcB m 2) (tcB m 3);simp only [show ((c.toNat:Nat):Int)=c by omega] at this;obtain ⟨a,b,d,e⟩:=this;have:k=0∨k=1∨k=2∨k=3:=by omega
 rcases this with rfl|rfl|rfl|rfl
 ·exact a
 ·exact b
 ·exact d
 ·exact e
theorem homes_apart:∀ k j:Fin 4,hKg k≠hKg j→hKg k≠hRk j∧hKg k≠(hKg j+wTo j) / 2∧hRk k≠hRk j∧hRk k≠(hKg j+wTo j) / 2:=by decide +kernel
theorem beh_cas {p:Ps} {m:Mv} {f t:Nat} (F:Fm p m f t) (hg:goesM p m=true):casB (behP p m)=true:=by
 obtain ⟨_,⟨c0,c1⟩,_⟩:=Qt F.right
 have one:∀ k,k<4→okC (behP p m) k=true:=by
  intro k hk;unfold okC;show (!rgtB (rtN p.c m 4) (hR k) || backB (behB p m) (hR k))=true;rw [rt_right c0 c1 m hk]
  cases h1:rgtB p.c (hR k)
  ·rfl
  ·cases h2:tcB m k
   ·obtain ⟨q1,q2⟩:=cas_king (Yj F.right).2.2.2.1 hk h1
    unfold tcB at h2;simp only [Bool.or_eq_false_iff,beq_eq_false_iff_ne,ne_eq] at h2;rw [F.hf,F.ht] at h2;have hK:=hKg_lt k;have hR':=hRk_lt k
    have ap:castN p m<4→hKg k≠hRk (castN p m)∧hKg k≠(f+t) / 2∧hRk k≠hRk (castN p m)∧hRk k≠(f+t) / 2:=by
     intro hc;have c:=Qaw F hc rfl;have:=homes_apart ⟨k,hk⟩ ⟨castN p m,hc⟩ (by dsimp only;rw [← c.ef];omega);dsimp only at this;rw [c.ef,c.et];exact this
    have tk:∀ j,j≠t→(p.B.getD j 0≠1∧p.B.getD j 0≠-1)→0≤takeI p m→j≠(takeI p m).toNat:=by
     intro j jt jp ht e;rcases take_what F ht with q|⟨_,q⟩
     ·exact jt (by rw [e];exact q)
     ·rw [← e] at q;omega
    have kg:kgm k=mkI 6 (hS k)∧(kgm k≠1∧kgm k≠-1)∧mkI 4 (hS k)≠1∧mkI 4 (hS k)≠-1:=by
     have:k=0∨k=1∨k=2∨k=3:=by omega
     rcases this with rfl|rfl|rfl|rfl <;> decide
    rw [back_at _ k hk,beh_same F hK (by omega) (by omega) (tk _ (by omega) (by rw [q1];exact kg.2.1)) (fun hc=>⟨(ap hc).1,(ap hc).2.1⟩),
     beh_same F hR' (by omega) (by omega) (tk _ (by omega) (by rw [q2];exact kg.2.2)) (fun hc=>⟨(ap hc).2.2.1,(ap hc).2.2.2⟩),q1,q2,kg.1]
    simp
   ·rfl
 unfold casB;rw [one 0 (by omega),one 1 (by omega),one 2 (by omega),one 3 (by omega)];rfl
theorem beh_ep {p:Ps} {m:Mv} {f t:Nat} (F:Fm p m f t) (hg:goesM p m=true):epB (behP p m)=true:=by
 unfold epB;by_cases he:epI p m=-1
 ·rw [show (behP p m).e=-1 from he];simp
 ·unfold epI at he
  split at he
  ·next hc =>
   have ee:(behP p m).e=(m.f+m.t) / 2:=by show epI p m=_;unfold epI;rw [if_pos hc]
   simp only [Bool.and_eq_true,beq_iff_eq] at hc;obtain ⟨⟨h1,h2⟩,h3⟩:=hc;have hk:kindI (p.B.getD f 0)=1:=by have:=h1;unfold pawnB bAt at this;rw [F.hf,Int.toNat_natCast] at this;simpa using this
   have P:Pw p f:=⟨F.brd,F.right,F.f1,F.own,hk⟩
   have hg':pgoB p m=true:=by
    unfold goesM at hg;rw [h1,if_pos rfl,Bool.and_eq_true] at hg;exact hg.2
   unfold pgoB at hg';rw [F.hf,F.ht] at hg' h2 h3 ee;simp only [Bool.or_eq_true,Bool.and_eq_true,beq_iff_eq] at hg';have f1:=F.f1;have t1:=F.t1
   have hfar:(t:Int)≠f+8∧(t:Int)≠f+-8:=by
    unfold farI at h3;constructor <;> intro e
    ·have a1:(t:Int) / 8=(f:Int) / 8+1:=by omega
     rw [a1,h2] at h3;generalize (f:Int) / 8=u at h3;generalize (t:Int) % 8=v at h3;omega
    ·have a1:(t:Int) / 8=(f:Int) / 8-1:=by omega
     rw [a1,h2] at h3;generalize (f:Int) / 8=u at h3;generalize (t:Int) % 8=v at h3;omega
   have two:(t:Int)=f+2*upI p.t∧(f:Int) / 8=secI p.t∧bAt p.B (f+upI p.t)=0∧p.B.getD t 0=0:=by
    rcases hg' with ⟨_,g⟩|⟨⟨⟨g0,g⟩,g2⟩,g3⟩|⟨g,_⟩
    ·rcases P.turn with ⟨_,_,u,_⟩|⟨_,_,u,_⟩ <;> rw [u] at g <;> omega
    ·refine ⟨g,g2,g3,?_⟩
     unfold bAt at g0;rwa [Int.toNat_natCast] at g0
    ·exact absurd h2.symm (P.hits g).2.1
   obtain ⟨w1,w2,w3,w4⟩:=two;obtain ⟨_,bf,_⟩:=beh_cnt F
   have hp0:m.p=0:=by
    have:=F.pro;rw [hk] at this;rcases P.turn with ⟨_,_,u,v,l⟩|⟨_,_,u,v,l⟩
    ·rw [l,show ((t:Int) / 8 == 7)=false from beq_eq_false_iff_ne.2 (by rw [u] at w1;rw [v] at w2;omega)] at this
     have h:=this.symm;simpa using h
    ·rw [l,show ((t:Int) / 8 == 0)=false from beq_eq_false_iff_ne.2 (by rw [u] at w1;rw [v] at w2;omega)] at this
     have h:=this.symm;simpa using h
   have bt:(behB p m).getD t 0=p.B.getD f 0:=by
    rcases beh_at F F.t1 with ⟨_,q⟩|⟨q,_⟩
    ·rw [q,hp0];rfl
    ·exact absurd rfl q
   have nt:¬ 0≤takeI p m:=by
    unfold takeI epTake;rw [if_neg (by unfold bAt;rw [F.ht,Int.toNat_natCast];simpa using w4),F.hf,F.ht,h2];simp
   have nc:¬ castN p m<4:=fun hc=>by
    have c:=Qaw F hc rfl;have:=(king_kind _ c.k4).1;rw [← c.king,hk] at this
    cases this
   have bm:∀ j:Nat,j<64→j≠t→j≠f→(behB p m).getD j 0=p.B.getD j 0:=fun j hj a b=>beh_same F hj a b (fun h=>absurd h nt) (fun h=>absurd h nc)
   have hp:passB (behP p m)=true:=by
    unfold passB;rw [decide_eq_true_eq];unfold passI
    have bn:∀ (x:Int) (j:Nat),x=(j:Int)→bAt (behP p m).B x=(behB p m).getD j 0:=fun x j e=>by
     show bAt (behB p m) x=_;unfold bAt;rw [e,Int.toNat_natCast]
    have pn:∀ (x:Int) (j:Nat),x=(j:Int)→bAt p.B x=p.B.getD j 0:=fun x j e=>by
     unfold bAt;rw [e,Int.toNat_natCast]
    rcases P.turn with ⟨ht,e1,u,v,l⟩|⟨ht,e1,u,v,l⟩
    ·rw [u] at w1 w3
     rw [v] at w2;have eo:(behP p m).t=1:=by show Qw p.t=1;rw [ht];rfl
     have b0:bAt (behP p m).B (behP p m).e=0:=by
      rw [bn _ (f+8) (by rw [ee];omega),bm _ (by omega) (by omega) (by omega),← pn ((f:Int)+8) (f+8) (by omega)];exact w3
     have b1:bAt (behP p m).B ((behP p m).e-8)=0:=by rw [bn _ f (by rw [ee];omega)];exact bf
     have b2:bAt (behP p m).B ((behP p m).e+8)=1:=by rw [bn _ t (by rw [ee];omega),bt];exact e1
     rw [if_neg (fun h=>by rw [eo] at h;exact absurd h.1 (by decide)),if_pos ⟨eo,by rw [ee];omega,by rw [ee];omega,b0,b1,b2⟩,ee];omega
    ·rw [u] at w1 w3
     rw [v] at w2;have eo:(behP p m).t=0:=by show Qw p.t=0;rw [ht];rfl
     have b0:bAt (behP p m).B (behP p m).e=0:=by
      rw [bn _ (f-8) (by rw [ee];omega),bm _ (by omega) (by omega) (by omega),← pn ((f:Int)+-8) (f-8) (by omega)];exact w3
     have b1:bAt (behP p m).B ((behP p m).e+8)=0:=by rw [bn _ f (by rw [ee];omega)];exact bf
     have b2:bAt (behP p m).B ((behP p m).e-8)=-1:=by rw [bn _ t (by rw [ee];omega),bt];exact e1
     rw [if_pos ⟨eo,by rw [ee];omega,by rw [ee];omega,b0,b1,b2⟩,ee];omega
   rw [hp];rfl
  ·exact absurd rfl he
theorem beh_pos {p:Ps} {m:Mv} (hB:Brd p.B) (hr:pwI p=0) (hg:goesM p m=true) (hc:Qq (behB p m) p.t=false):pwI (behP p m)=0:=by
 obtain ⟨f,t,F⟩:=Yt hB (Ji hr hg);obtain ⟨t01,⟨c0,c1⟩,_⟩:=Qt hr;have r:=rt_bd c0 c1 m;refine pos_right (beh_wrong F hg) ((Yn _).2 ⟨?_,⟨r.1,r.2.1⟩,epI_bd F⟩) (beh_touch F hg hc) (beh_cas F hg) (beh_ep F hg);show Qw p.t=0∨Qw p.t=1;rw [Jt t01];omega
theorem beh_brd {p:Ps} {m:Mv} (hB:Brd p.B) (hr:pwI p=0) (hg:goesM p m=true):Brd (behB p m):=by
 obtain ⟨f,t,F⟩:=Yt hB (Ji hr hg);exact (behB_ok F).brd
def castOk (p:Ps) (m:Mv):Bool:=!(Qq p.B p.t || Jl p.B ((m.f+m.t) / 2) (1-p.t))
def stayB (p:Ps) (m:Mv):Bool:=(!decide (castN p m<4) || castOk p m) && !Qq (behB p m) p.t
def legB (p:Ps) (m:Mv):Bool:=goesM p m && stayB p m
def legL (p:Ps):List Mv:=(allL p).filter (stayB p)
def legR (p:Ps):List Mv:=if pwI p=0 then legL p else []
def inL (a b:Int):Bool:=((a % 8-b % 8 == 0) || (a / 8-b / 8 == 0)) || ((a % 8-b % 8 == a / 8-b / 8) || (a % 8-b % 8 == -(a / 8-b / 8)))
def farK (p:Ps) (m:Mv):Bool:=(m.f == kingI p.B p.t) && decide (1<farI m.f m.t)
def askB (p:Ps) (m:Mv):Bool:=((Qq p.B p.t || (m.f == kingI p.B p.t)) || (m.t == p.e)) || inL (kingI p.B p.t) m.f
def barsB (p:Ps) (m:Mv):Bool :=
 if farK p m then (Qq p.B p.t || Jl p.B ((m.f+m.t) / 2) (1-p.t)) || Qq (behB p m) p.t else askB p m && Qq (behB p m) p.t
theorem cast_far_all:∀ k:Fin 4,farI ((hKg k:Nat):Int) ((wTo k:Nat):Int)=2:=by decide +kernel
theorem king_way_rank:∀ w:Fin 16,(goesB 6 w=true→-1≤wayR w∧wayR w≤1)∧(goesB (-6) w=true→-1≤wayR w∧wayR w≤1):=by decide +kernel
theorem king_far {B:List Int} {s:Nat} (hs:s<64) (hk:kindI (B.getD s 0)=6) {t:Int} (h:hitB B (s:Int) t=true):farI (s:Int) t≤1:=by
 have a:=king_near hs hk h;have ns:Ya (B.getD s 0)=false:=by unfold Ya;rw [Qak,hk];rfl
 obtain ⟨way,hw,hg,_,_,d⟩:=(hit_step hs ns).1 h;have:=king_way_rank ⟨way,hw⟩;dsimp only at this
 have b:t / 8≤(s:Int) / 8+1∧(s:Int) / 8≤t / 8+1:=by
  rcases king_two _ hk with e|e <;> rw [e] at hg
  ·have:=this.1 hg;omega
  ·have:=this.2 hg;omega
 unfold farI;generalize t % 8=x at *;generalize (s:Int) % 8=y at *;generalize t / 8=u at *;generalize (s:Int) / 8=v at *;omega
theorem king_of {p:Ps} (hr:pwI p=0):∃ k:Nat,k<64∧kingI p.B p.t=(k:Int)∧p.B.getD k 0=mkI 6 p.t∧∀ j,j<64→p.B.getD j 0=mkI 6 p.t→j=k:=by
 have hw:=(Yj hr).1;have t01:=(Qt hr).1;obtain ⟨k,hk,e1,e2⟩:=king_at hw t01;obtain ⟨k',_,_,u⟩:=one_king hw t01;refine ⟨k,hk,e1,e2,fun j hj ej=>?_⟩;rw [u j hj ej,u k hk e2]
theorem far_cast {p:Ps} {m:Mv} {f t:Nat} (F:Fm p m f t) (hg:goesM p m=true):farK p m=decide (castN p m<4):=by
 obtain ⟨k,hk,ek,bk,u⟩:=king_of F.right;rw [Bool.eq_iff_iff];unfold farK;rw [Bool.and_eq_true,beq_iff_eq,decide_eq_true_eq,decide_eq_true_eq,ek,F.hf,F.ht];constructor
 ·rintro ⟨e,hf⟩
  have e':f=k:=by omega
  subst e';have k6:kindI (p.B.getD f 0)=6:=by rw [bk];rcases F.t01 with e|e <;> rw [e] <;> decide
  have np:pawnB p m=false:=by unfold pawnB bAt;rw [F.hf,Int.toNat_natCast,k6];rfl
  unfold goesM at hg;rw [np,if_neg (by decide),Bool.and_eq_true,Bool.or_eq_true,decide_eq_true_eq,F.hf,F.ht] at hg;rcases hg.2 with g|g
  ·have:=king_far F.f1 k6 g;omega
  ·exact g
 ·intro hc
  have c:=Qaw F hc rfl;have:=cast_far_all ⟨castN p m,hc⟩;dsimp only at this;refine ⟨?_,by rw [c.ef,c.et,this];decide⟩
  have hkk:p.B.getD f 0=mkI 6 p.t:=by
   rw [c.king,c.side];have:=c.k4;generalize castN p m=k at this ⊢;have:k=0∨k=1∨k=2∨k=3:=by omega
   rcases this with rfl|rfl|rfl|rfl <;> decide
  rw [u f F.f1 hkk]
theorem beh_king_at {p:Ps} {m:Mv} {f t:Nat} (F:Fm p m f t) (hg:goesM p m=true) {k:Nat} (hk:k<64) (bk:p.B.getD k 0=mkI 6 p.t) (hkf:k≠f):kingI (behB p m) p.t=(k:Int):=by
 have hw:=beh_wrong F hg;obtain ⟨k1,hk1,e1,e2⟩:=king_at hw F.t01;obtain ⟨k0,_,u0⟩:=beh_king F.brd F.right (Ji F.right hg);have sk:sideI (mkI 6 p.t)=p.t:=side_mk F.t01 (by omega) (by omega);have hkt:k≠t:=fun e=>F.oth (by rw [← e,bk,sk])
 have hkk:(behB p m).getD k 0=mkI 6 p.t:=by
  rw [beh_same F hk hkt hkf (fun ht e=>?_) (fun hc=>?_)]
  ·exact bk
  ·rcases take_what F ht with q|⟨_,q⟩
   ·exact hkt (by rw [e];exact q)
   ·rw [← e,bk] at q
    rcases F.t01 with o|o <;> rw [o] at q <;> rcases q with q|q <;> exact absurd q (by decide)
  ·have c:=Qaw F hc rfl
   obtain ⟨q1,q2,q3,_⟩:=cast_sq _ c.k4;refine ⟨fun e=>?_,fun e=>?_⟩
   ·have:=c.rook
    rw [← e,bk] at this;rcases F.t01 with o|o <;> rw [o] at this <;> exact absurd this (by decide)
   ·have:=(free_iff p.B _).1 c.free _ q1 q2 q3
    rw [← c.ef,← c.et,← e,bk] at this;exact absurd this (mk_ne (by decide))
 rw [e1,(u0 k hk).1 hkk,(u0 k1 hk1).1 e2]
theorem way_unit_all:∀ w:Fin 8,(wayF w=0∨wayR w=0)∨(wayF w=wayR w∨wayF w=- wayR w):=by decide +kernel
theorem no_bare {p:Ps} {m:Mv} {f t:Nat} (F:Fm p m f t) (hg:goesM p m=true) (h:askB p m=false):Qq (behB p m) p.t=false:=by
 obtain ⟨k,hk,ek,bk,u⟩:=king_of F.right;have hw:=beh_wrong F hg;have hr:=(king_one (Yj F.right).1).1;have hr':=(king_one hw).1;unfold askB at h;simp only [Bool.or_eq_false_iff,beq_eq_false_iff_ne,ne_eq] at h;obtain ⟨⟨⟨h1,h2⟩,h3⟩,h4⟩:=h;rw [ek,F.hf] at h2 h4;have hkf:k≠f:=by omega
 have nc:¬ castN p m<4:=fun hc=>by
  have:=far_cast F hg;rw [decide_eq_true hc] at this;unfold farK at this;rw [Bool.and_eq_true,beq_iff_eq,ek,F.hf] at this;omega
 rw [Bool.eq_false_iff];intro hc;unfold Qq at hc h1;rw [beh_king_at F hg hk bk hkf] at hc;rw [ek] at h1;obtain ⟨x,x0,x1,sx,hx⟩:=(struck_iff (by omega) (by omega) hr').1 hc;rw [Bool.eq_false_iff] at h1;apply h1;obtain ⟨j,rfl⟩:=Int.eq_ofNat_of_zero_le x0;have hj:j<64:=by omega
 have ej:∀ B:List Int,bAt B (j:Int)=B.getD j 0:=fun B=>by unfold bAt;rw [Int.toNat_natCast]
 have sx':=sx;rw [ej,Jt F.t01] at sx'
 have same:(behB p m).getD j 0=p.B.getD j 0:=by
  rcases beh_at F hj with ⟨rfl,q⟩|⟨_,q|⟨q,_⟩|⟨_,q⟩⟩
  ·exfalso
   have:sideI ((behB p m).getD j 0)=p.t:=by
    rw [q];split
    ·next hp =>
     have h5:=promo_five' F.prm;have hp':m.p≠0:=by simpa using hp
     exact side_mk F.t01 (by omega) (by omega)
    ·exact F.own
   have:=F.t01;omega
  ·exfalso
   rw [q,side_zero] at sx';have:=F.t01;omega
  ·exact absurd q nc
  ·exact q
 refine (struck_iff (by omega) (by omega) hr).2 ⟨(j:Int),x0,x1,by rw [ej,← same,← ej];exact sx,?_⟩;obtain ⟨way,i,hway,hre,hs⟩:=(mem_strike _ _ _).1 hx;rw [ej,same,← ej] at hre;refine (mem_strike _ _ _).2 ⟨way,i,hway,hre,hs.1,fun n hn y hy=>?_⟩;have hz:=hs.2 n hn y hy;obtain ⟨y0,y1,ey1,ey2⟩:=(rayW_at x0 x1 hway n y).1 hy;obtain ⟨_,_,ek1,ek2⟩:=(rayW_at x0 x1 hway i (k:Int)).1 hs.1;obtain ⟨l,rfl⟩:=Int.eq_ofNat_of_zero_le y0;have hl:l<64:=by omega
 have el:∀ B:List Int,bAt B (l:Int)=B.getD l 0:=fun B=>by unfold bAt;rw [Int.toNat_natCast]
 rw [el] at hz ⊢;obtain ⟨_,_,bt⟩:=beh_cnt F;have hlt:l≠t:=fun e=>by rw [e] at hz;exact bt hz
 by_cases hlf:l=f
 ·exfalso
  subst hlf;have h8:way<8:=by have:=reach_far hway hre;omega
  have hin:inL (k:Int) (l:Int)=true:=by
   unfold inL;simp only [Bool.or_eq_true,beq_iff_eq]
   have e1:(k:Int) % 8-(l:Int) % 8=((i:Int)-n)*wayF way:=by
    rw [Int.sub_mul];rw [Int.add_mul] at ey1 ek1;omega
   have e2:(k:Int) / 8-(l:Int) / 8=((i:Int)-n)*wayR way:=by
    rw [Int.sub_mul];rw [Int.add_mul] at ey2 ek2;omega
   rw [e1,e2];have:=way_unit_all ⟨way,h8⟩;dsimp only at this;rcases this with (q|q)|(q|q)
   ·left;left;rw [q];simp
   ·left;right;rw [q];simp
   ·right;left;rw [q]
   ·right;right;rw [q,Int.mul_neg]
  rw [hin] at h4
  cases h4
 ·rw [← beh_same F hl hlt hlf (fun ht e=>?_) (fun hc=>absurd hc nc)]
  ·exact hz
  ·rcases take_what F ht with q|⟨q,_⟩
   ·exact hlt (by rw [e];exact q)
   ·exact h3 q
theorem bars_stay {p:Ps} {m:Mv} (hB:Brd p.B) (hr:pwI p=0) (hg:goesM p m=true):barsB p m=!stayB p m:=by
 obtain ⟨f,t,F⟩:=Yt hB (Ji hr hg);unfold barsB stayB castOk;rw [far_cast F hg];by_cases hc:castN p m<4
 ·rw [decide_eq_true hc,if_pos rfl]
  cases Qq p.B p.t || Jl p.B ((m.f+m.t) / 2) (1-p.t) <;> cases Qq (behB p m) p.t <;> rfl
 ·rw [decide_eq_false hc,if_neg (by decide)]
  cases ha:askB p m
  ·rw [no_bare F hg ha];rfl
  ·cases Qq (behB p m) p.t <;> rfl
theorem Qai {p:Ps} (t01:p.t=0∨p.t=1) {m:Mv}:m ∈ legL p↔legB p m=true:=by
 unfold legL legB;rw [List.mem_filter,mem_allN t01,Bool.and_eq_true]
theorem Yg {p:Ps} {m:Mv} (hB:Brd p.B) (hr:pwI p=0) (h:legB p m=true):pwI (behP p m)=0∧Brd (behP p m).B∧okM p m=true:=by
 unfold legB stayB at h;simp only [Bool.and_eq_true,Bool.not_eq_true'] at h;exact ⟨beh_pos hB hr h.1 h.2.2,beh_brd hB hr h.1,Ji hr h.1⟩
end Go.Proofs.YtlpeiolgcaddjaaGreatDoor
