/- GeA · GeB: my texts, in their order. -/
import Derived.Test.YtlpeiolgcaddjaaGreatDoorPkC
import Derived.Test.YtlpeiolgcaddjaaGreatDoorPkI
import Derived.Test.YtlpeiolgcaddjaaGreatDoorPkL
import Derived.Test.YtlpeiolgcaddjaaGreatDoorPkM
namespace Go.Proofs.YtlpeiolgcaddjaaGreatDoor
open Go.RowKit
set_option linter.unusedVariables false
set_option linter.unusedSimpArgs false
set_option maxRecDepth 100000
def upI (t:Int):Int:=if t=0 then 8 else -8
def secI (t:Int):Int:=if t=0 then 1 else 6
def pgoB (p:Ps) (m:Mv):Bool :=
 ((bAt p.B m.t == 0) && (m.t == m.f+upI p.t)) ||
 (((bAt p.B m.t == 0) && (m.t == m.f+2*upI p.t) && (m.f / 8 == secI p.t) && (bAt p.B (m.f+upI p.t) == 0)) ||
 (hitB p.B m.f m.t && takeB p m))
def goesM (p:Ps) (m:Mv):Bool:=formB p m && (if pawnB p m then pgoB p m else (hitB p.B m.f m.t || decide (castN p m<4)))
def prK:List Int:=[5,4,3,2,1,0]
def toN (p:Ps) (f t:Nat):List Mv:=(prK.map fun k=>(⟨(f:Int),(t:Int),k⟩:Mv)).filter (goesM p)
def fromN (p:Ps) (f:Nat):List Mv:=(List.range 64).flatMap (toN p f)
def allN (p:Ps) (n:Nat):List Mv:=(List.range n).flatMap (fromN p)
def allL (p:Ps):List Mv:=allN p 64
theorem Qas {p:Ps} {m:Mv} (h:goesM p m=true):formB p m=true:=by
 unfold goesM at h;rw [Bool.and_eq_true] at h;exact h.1
theorem form_t {p:Ps} {m:Mv} (h:formB p m=true):0≤m.t∧m.t<64:=by
 unfold formB onB at h;simp only [Bool.and_eq_true,decide_eq_true_eq] at h;exact h.1.1.1.2
theorem mem_toN {p:Ps} {f t:Nat} {m:Mv}:m ∈ toN p f t↔m.f=f∧m.t=t∧goesM p m=true:=by
 unfold toN;rw [List.mem_filter,List.mem_map];constructor
 ·rintro ⟨⟨k,_,rfl⟩,h⟩;exact ⟨rfl,rfl,h⟩
 ·rintro ⟨h1,h2,h⟩
  obtain ⟨mf,mt,mp⟩:=m;dsimp only at h1 h2;subst h1 h2;refine ⟨⟨mp,?_,rfl⟩,h⟩;have:=promo_five' (form_promo (Qas h));dsimp only at this;unfold prK;rcases this with h|h|h|h|h <;> rw [h] <;> decide
theorem mem_fromN {p:Ps} {f:Nat} {m:Mv}:m ∈ fromN p f↔m.f=f∧goesM p m=true:=by
 unfold fromN;rw [List.mem_flatMap];constructor
 ·rintro ⟨t,_,h⟩;obtain ⟨a,_,b⟩:=mem_toN.1 h;exact ⟨a,b⟩
 ·rintro ⟨a,b⟩
  obtain ⟨h0,h1⟩:=form_t (Qas b);obtain ⟨t,et⟩:=Int.eq_ofNat_of_zero_le h0;exact ⟨t,by rw [List.mem_range];omega,mem_toN.2 ⟨a,et,b⟩⟩
theorem mem_allN {p:Ps} (t01:p.t=0∨p.t=1) {m:Mv}:m ∈ allL p↔goesM p m=true:=by
 unfold allL allN;rw [List.mem_flatMap];constructor
 ·rintro ⟨f,_,h⟩;exact (mem_fromN.1 h).2
 ·intro b
  have ho:=form_on t01 (Qas b);obtain ⟨f,ef⟩:=Int.eq_ofNat_of_zero_le ho.f0;exact ⟨f,by rw [List.mem_range];have:=ho.f1;omega,mem_fromN.2 ⟨ef,b⟩⟩
theorem toN_sorted (p:Ps) (f t:Nat):(toN p f t).Pairwise fun a b=>lessB a b=true:=by
 unfold toN;refine List.Pairwise.filter _ ?_;rw [List.pairwise_map];have:prK.Pairwise fun a b=>b<a:=by decide
 refine this.imp ?_;intro a b h;exact (Qaj _ _).2 (.inr ⟨rfl,.inr ⟨rfl,h⟩⟩)
theorem fromN_sorted (p:Ps) (f:Nat):(fromN p f).Pairwise fun a b=>lessB a b=true:=by
 unfold fromN;rw [List.pairwise_flatMap];refine ⟨fun t _=>toN_sorted p f t,List.pairwise_lt_range.imp fun {a b} hab x hx y hy=>?_⟩;obtain ⟨x1,x2,_⟩:=mem_toN.1 hx;obtain ⟨y1,y2,_⟩:=mem_toN.1 hy;exact (Qaj _ _).2 (.inr ⟨by omega,.inl (by omega)⟩)
theorem allN_succ (p:Ps) (n:Nat):allN p (n+1)=allN p n++fromN p n:=by simp [allN,List.range_succ]
theorem toN_len (p:Ps) (f t:Nat):(toN p f t).length≤6:=by
 unfold toN;refine Nat.le_trans (List.length_filter_le _ _) ?_;rw [List.length_map];decide
theorem flatM_len {α β:Type} (g:α→List β) (k:Nat) (h:∀ a,(g a).length≤k):∀ l:List α,(l.flatMap g).length≤k*l.length
 | []=>by simp
 | a::l=>by
  rw [List.flatMap_cons,List.length_append,List.length_cons,Nat.mul_add];have:=h a;have:=flatM_len g k h l;omega
theorem fromN_len (p:Ps) (f:Nat):(fromN p f).length≤384:=by
 have:=flatM_len (toN p f) 6 (toN_len p f) (List.range 64);rw [List.length_range] at this;exact this
theorem allN_len (p:Ps) (n:Nat):(allN p n).length≤384*n:=by
 have:=flatM_len (fromN p) 384 (fromN_len p) (List.range n);rw [List.length_range] at this;exact this
theorem less_irr (a:Mv):lessB a a=false:=by
 rw [Bool.eq_false_iff];intro h;have:=(Qaj a a).1 h;omega
theorem sorted_nodup {K:List Mv} (h:K.Pairwise fun a b=>lessB a b=true):K.Nodup :=
 h.imp fun {a b} hl e=>by rw [e,less_irr] at hl;cases hl
def ordI (a b:Mv):Int:=if lessB a b then -1 else if lessB b a then 1 else 0
theorem ord_less (a b:Mv):decide (ordI a b<0)=lessB a b:=by
 unfold ordI
 cases h:lessB a b
 ·cases lessB b a <;> simp
 ·simp
theorem less_ntrans {a b c:Mv} (h1:lessB a b=false) (h2:lessB b c=false):lessB a c=false:=by
 have a1:¬ _:=fun x=>Bool.false_ne_true (h1.symm.trans ((Qaj a b).2 x))
 have a2:¬ _:=fun x=>Bool.false_ne_true (h2.symm.trans ((Qaj b c).2 x))
 rw [Bool.eq_false_iff];intro h;have:=(Qaj a c).1 h;omega
theorem sort_is (L K:List Mv) (hL:L.Nodup) (hK:K.Pairwise fun a b=>lessB a b=true) (hm:∀ m,m ∈ L↔m ∈ K):(L.mergeSort fun x y=>!lessB y x)=K:=by
 have hperm:L.Perm K:=by
  rw [List.perm_ext_iff_of_nodup hL (sorted_nodup hK)];exact hm
 refine List.Perm.eq_of_pairwise (le:=fun a b=>lessB b a=false) (fun a b _ _ h1 h2=>(beqM_iff a b).1 (less_eq h2 h1)) ?_ (hK.imp fun h=>(less_not h).1) ((List.mergeSort_perm _ _).trans hperm);refine (List.pairwise_mergeSort (le:=fun x y:Mv=>!lessB y x) (fun a b c h1 h2=>?_) (fun a b=>?_) L).imp fun h=>by simpa using h
 ·simp only [Bool.not_eq_true'] at *;exact less_ntrans h2 h1
 ·cases h:lessB b a
  ·simp
  ·simp [(less_not h).1]
theorem form_own {p:Ps} {m:Mv} {s:Nat} (hf:m.f=s) (hs:s<64) (own:sideI (p.B.getD s 0)=p.t) :
  formB p m=true↔(0≤m.t∧m.t<64)∧sideI (bAt p.B m.t)≠p.t∧(if kindI (p.B.getD s 0)=1∧m.t / 8=lastI p.t then 2≤m.p∧m.p≤5 else m.p=0):=by
 have em:manA p.B m.f=p.B.getD s 0:=by unfold manA bAt;rw [hf,Int.toNat_natCast,if_pos ⟨by omega,by omega⟩]
 by_cases ht:0≤m.t∧m.t<64
 ·have en:manA p.B m.t=bAt p.B m.t:=by unfold manA;rw [if_pos ht]
  unfold formB turnsB onB;rw [em,en,own,Bool.and_assoc];by_cases hk:kindI (p.B.getD s 0)=1∧m.t / 8=lastI p.t
  ·rw [hk.1,hk.2]
   simp only [beq_self_eq_true,Bool.and_true];rw [promo_turn];simp [ht]
  ·rw [if_neg hk]
   have:((kindI (p.B.getD s 0) == 1) && (m.t / 8 == lastI p.t))=false:=by
    rw [Bool.eq_false_iff];intro h;rw [Bool.and_eq_true,beq_iff_eq,beq_iff_eq] at h;exact hk h
   rw [this,promo_stay];simp [ht]
 ·have:formB p m=false:=by unfold formB onB;rw [show decide (0≤m.t∧m.t<64)=false by simpa using ht];simp
  rw [this];exact ⟨fun h=>(by cases h),fun h=>absurd h.1 ht⟩
theorem mem_zs {B:List Int} {s:Nat} (x:Int):x ∈ zn (Yv B (s:Int))↔(0≤x∧x<64)∧hitB B (s:Int) x=true:=by
 unfold zn Yv sel;simp only [List.mem_map,List.mem_filter,List.mem_range];constructor
 ·rintro ⟨n,⟨a,c⟩,b⟩;subst b;exact ⟨by omega,c⟩
 ·rintro ⟨⟨a,b⟩,c⟩
  obtain ⟨n,rfl⟩:=Int.eq_ofNat_of_zero_le a;exact ⟨n,⟨by omega,c⟩,rfl⟩
theorem zs_nodup (B:List Int) (s:Int):(zn (Yv B s)).Nodup:=by
 unfold zn Yv sel List.Nodup;rw [List.pairwise_map];exact (List.pairwise_lt_range.filter _).imp fun h=>by omega
theorem zs_len (B:List Int) (s:Int):(zn (Yv B s)).length≤64:=by
 unfold zn Yv;rw [List.length_map];exact sel_le _ _
def offOk (p:Ps) (x:Int):Bool:=!(sideI (bAt p.B x) == p.t)
def offN (p:Ps) (s:Nat):List Mv:=((zn (Yv p.B (s:Int))).filter (offOk p)).map fun x=>⟨(s:Int),x,0⟩
theorem mem_off {p:Ps} {s:Nat} {m:Mv}:m ∈ offN p s↔m.f=s∧m.p=0∧(0≤m.t∧m.t<64)∧hitB p.B (s:Int) m.t=true∧sideI (bAt p.B m.t)≠p.t:=by
 unfold offN;rw [List.mem_map];constructor
 ·rintro ⟨x,hx,rfl⟩
  obtain ⟨h1,h2⟩:=List.mem_filter.1 hx;obtain ⟨a,b⟩:=(mem_zs x).1 h1;exact ⟨rfl,rfl,a,b,by unfold offOk at h2;simpa using h2⟩
 ·rintro ⟨h1,h2,h3,h4,h5⟩
  obtain ⟨mf,mt,mp⟩:=m;dsimp only at *;subst h1 h2;exact ⟨mt,List.mem_filter.2 ⟨(mem_zs mt).2 ⟨h3,h4⟩,by unfold offOk;simpa using h5⟩,rfl⟩
theorem off_nodup (p:Ps) (s:Nat):(offN p s).Nodup:=by
 unfold offN List.Nodup;rw [List.pairwise_map];exact ((zs_nodup p.B s).filter _).imp fun {a b} hne e=>hne (by injection e)
theorem off_len (p:Ps) (s:Nat):(offN p s).length≤64:=by
 unfold offN;rw [List.length_map];exact Nat.le_trans (List.length_filter_le _ _) (zs_len _ _)
theorem cast_king {p:Ps} (hB:Brd p.B) (hr:pwI p=0) {m:Mv} {s:Nat} (hf:m.f=s) (h:formB p m=true) (hc:castN p m<4):kindI (p.B.getD s 0)=6∧m.p=0∧∃ k,k<4∧s=hKg k∧m.t=wTo k∧p.B.getD s 0=kgm k:=by
 obtain ⟨f,t,F⟩:=Yt hB (show okM p m=true by unfold okM;rw [hr,h];rfl);have c:=Qaw F hc rfl;have e:f=s:=by have:=F.hf;omega
 subst e;refine ⟨?_,c.no_promo F,castN p m,hc,c.ef,by rw [F.ht,c.et],c.king⟩;rw [c.king];generalize castN p m=k at hc;have:k=0∨k=1∨k=2∨k=3:=by omega
 rcases this with rfl|rfl|rfl|rfl <;> decide
theorem mem_officer {p:Ps} (hB:Brd p.B) (hr:pwI p=0) {s:Nat} (hs:s<64) (own:sideI (p.B.getD s 0)=p.t) (k1:kindI (p.B.getD s 0)≠1) (k6:kindI (p.B.getD s 0)≠6) {m:Mv} :
  m ∈ offN p s↔m ∈ fromN p s:=by
 rw [mem_off,mem_fromN];constructor
 ·rintro ⟨h1,h2,h3,h4,h5⟩
  have hw:pawnB p m=false:=by unfold pawnB bAt;rw [h1,Int.toNat_natCast,beq_eq_false_iff_ne];exact k1
  refine ⟨h1,?_⟩;unfold goesM;rw [(form_own h1 hs own).2 ⟨h3,h5,by rw [if_neg (fun h=>k1 h.1)];exact h2⟩,hw,h1,h4];rfl
 ·rintro ⟨h1,h⟩
  have hf:=Qas h;obtain ⟨a,b,c⟩:=(form_own h1 hs own).1 hf;rw [if_neg (fun h=>k1 h.1)] at c;have hw:pawnB p m=false:=by unfold pawnB bAt;rw [h1,Int.toNat_natCast,beq_eq_false_iff_ne];exact k1
  unfold goesM at h;rw [hf,hw,Bool.true_and,if_neg (by decide),Bool.or_eq_true,decide_eq_true_eq] at h;refine ⟨h1,c,a,?_,b⟩;rcases h with h|h
  ·rw [← h1];exact h
  ·exact absurd (cast_king hB hr h1 hf h).1 k6
def csN (p:Ps) (s:Nat) (d:Int):List Mv:=if stI s d 0≠-1∧okM p ⟨s,stI s d 0,0⟩=true∧castN p ⟨s,stI s d 0,0⟩<4 then [⟨s,stI s d 0,0⟩] else []
def kingN (p:Ps) (s:Nat):List Mv:=if p.c=0 then offN p s else offN p s++csN p s (-2)++csN p s 2
theorem cast_rights {p:Ps} {m:Mv} (h:p.c=0):¬ castN p m<4:=by
 have:castN p m=4:=cast_none fun j hj=>by
  unfold castB rgtB;rw [h];have:j=0∨j=1∨j=2∨j=3:=by omega
  rcases this with rfl|rfl|rfl|rfl <;> simp [hR]
 omega
theorem mem_cs {p:Ps} {s:Nat} {d:Int} {m:Mv}:m ∈ csN p s d↔m=⟨s,stI s d 0,0⟩∧stI s d 0≠-1∧okM p m=true∧castN p m<4:=by
 unfold csN;split
 ·next h=>rw [List.mem_singleton];exact ⟨fun e=>⟨e,h.1,by rw [e];exact h.2.1,by rw [e];exact h.2.2⟩,fun e=>e.1⟩
 ·next h=>simp only [List.not_mem_nil,false_iff];rintro ⟨rfl,h2⟩;exact h h2
theorem st_wing (k:Nat) (hk:k<4):stI (hKg k:Nat) (-2) 0=(wTo k:Nat)∨stI (hKg k:Nat) 2 0=(wTo k:Nat):=by
 have:k=0∨k=1∨k=2∨k=3:=by omega
 rcases this with rfl|rfl|rfl|rfl <;> decide
theorem Qak (x:Int):knd x=kindI x:=by
 unfold knd kindI;by_cases h:x < -6∨x=0∨6<x
 ·rw [if_pos h,(manB_not x).2 h];rfl
 ·rw [if_neg h,(Jk x).2 (by omega),if_pos rfl]
  by_cases h2:x<0
  ·rw [if_pos h2,if_neg (by omega)]
  ·rw [if_neg h2,if_pos (by omega)]
theorem hit_step {B:List Int} {s:Nat} (hs:s<64) (ns:Ya (B.getD s 0)=false) {t:Int}:hitB B (s:Int) t=true↔∃ way,way<16∧goesB (B.getD s 0) way=true∧(0≤t∧t<64)∧t % 8=(s:Int) % 8+wayF way∧t / 8=(s:Int) / 8+wayR way:=by
 have eb:bAt B (s:Int)=B.getD s 0:=rfl;rw [hitB_iff,mem_strike,eb];constructor
 ·rintro ⟨way,i,hw,hr,hS,_⟩
  unfold Jd at hr;rw [ns] at hr;simp only [Bool.and_eq_true,Bool.or_false,beq_iff_eq] at hr;obtain rfl:i=0:=by omega
  obtain ⟨a,b,c,d⟩:=(rayW_at (by omega) (by omega) hw 0 t).1 hS;exact ⟨way,hw,hr.1,⟨a,b⟩,by simpa using c,by simpa using d⟩
 ·rintro ⟨way,hw,hg,⟨a,b⟩,c,d⟩
  exact ⟨way,0,hw,by unfold Jd;rw [hg];rfl,(rayW_at (by omega) (by omega) hw 0 t).2 ⟨a,b,by simpa using c,by simpa using d⟩,fun k hk=>by omega⟩
theorem king_way_all:∀ w:Fin 16,(goesB 6 w=true→-1≤wayF w∧wayF w≤1)∧(goesB (-6) w=true→-1≤wayF w∧wayF w≤1):=by decide +kernel
theorem king_two (x:Int) (h:kindI x=6):x=6∨x=-6:=by
 unfold kindI at h;split at h
 ·split at h <;> omega
 ·omega
theorem king_near {B:List Int} {s:Nat} (hs:s<64) (hk:kindI (B.getD s 0)=6) {t:Int} (h:hitB B (s:Int) t=true):t % 8≤(s:Int) % 8+1∧(s:Int) % 8≤t % 8+1:=by
 have ns:Ya (B.getD s 0)=false:=by unfold Ya;rw [Qak,hk];rfl
 obtain ⟨way,hw,hg,_,c,_⟩:=(hit_step hs ns).1 h;have:=king_way_all ⟨way,hw⟩;dsimp only at this;rcases king_two _ hk with e|e <;> rw [e] at hg
 ·have:=this.1 hg;omega
 ·have:=this.2 hg;omega
theorem mem_king {p:Ps} (hB:Brd p.B) (hr:pwI p=0) {s:Nat} (hs:s<64) (own:sideI (p.B.getD s 0)=p.t) (k6:kindI (p.B.getD s 0)=6) {m:Mv} :
  m ∈ kingN p s↔m ∈ fromN p s:=by
 have k1:kindI (p.B.getD s 0)≠1:=by rw [k6];decide
 have key:m ∈ fromN p s↔m ∈ offN p s∨(m.f=s∧formB p m=true∧castN p m<4):=by
  rw [mem_off,mem_fromN];constructor
  ·rintro ⟨h1,h⟩
   have hf:=Qas h;obtain ⟨a,b,c⟩:=(form_own h1 hs own).1 hf;rw [if_neg (fun h=>k1 h.1)] at c;have hw:pawnB p m=false:=by unfold pawnB bAt;rw [h1,Int.toNat_natCast,beq_eq_false_iff_ne];exact k1
   unfold goesM at h;rw [hf,hw,Bool.true_and,if_neg (by decide),Bool.or_eq_true,decide_eq_true_eq] at h;rcases h with h|h
   ·exact .inl ⟨h1,c,a,by rw [← h1];exact h,b⟩
   ·exact .inr ⟨h1,hf,h⟩
  ·rintro (⟨h1,h2,h3,h4,h5⟩|⟨h1,h2,h3⟩)
   ·have hw:pawnB p m=false:=by unfold pawnB bAt;rw [h1,Int.toNat_natCast,beq_eq_false_iff_ne];exact k1
    refine ⟨h1,?_⟩;unfold goesM;rw [(form_own h1 hs own).2 ⟨h3,h5,by rw [if_neg (fun h=>k1 h.1)];exact h2⟩,hw,h1,h4];rfl
   ·have hw:pawnB p m=false:=by unfold pawnB bAt;rw [h1,Int.toNat_natCast,beq_eq_false_iff_ne];exact k1
    refine ⟨h1,?_⟩;unfold goesM;rw [h2,hw,show decide (castN p m<4)=true by simpa using h3];simp
 have hok:∀ m:Mv,formB p m=true↔okM p m=true:=fun m=>by unfold okM;rw [hr];simp
 rw [key];unfold kingN;split
 ·next h0=>exact ⟨.inl,fun h=>h.resolve_right fun h=>cast_rights h0 h.2.2⟩
 ·rw [List.mem_append,List.mem_append,mem_cs,mem_cs,or_assoc]
  constructor
  ·rintro (h|⟨e,_,h2,h3⟩|⟨e,_,h2,h3⟩)
   ·exact .inl h
   ·exact .inr ⟨by rw [e],(hok m).2 h2,h3⟩
   ·exact .inr ⟨by rw [e],(hok m).2 h2,h3⟩
  ·rintro (h|⟨h1,h2,h3⟩)
   ·exact .inl h
   ·obtain ⟨_,h4,k,hk,e1,e2,_⟩:=cast_king hB hr h1 h2 h3
    right;have hw:=wTo_lt k;obtain ⟨mf,mt,mp⟩:=m;dsimp only at h1 h4 e2;subst h1 h4 e2;rcases st_wing k hk with h5|h5
    ·left;rw [← e1] at h5;exact ⟨by rw [h5],by rw [h5];omega,(hok _).1 h2,h3⟩
    ·right;rw [← e1] at h5;exact ⟨by rw [h5],by rw [h5];omega,(hok _).1 h2,h3⟩
theorem cs_len (p:Ps) (s:Nat) (d:Int):(csN p s d).length≤1:=by unfold csN;split <;> simp
theorem cs_nodup (p:Ps) (s:Nat) (d:Int):(csN p s d).Nodup:=by unfold csN;split <;> simp
theorem stI_file {s:Nat} {d:Int} (h:stI s d 0≠-1):stI s d 0 % 8=(s:Int) % 8+d:=by
 rcases stI_cases s d 0 with ⟨_,_,c,d',_,_,e⟩|⟨e,_⟩
 ·rw [e];omega
 ·exact absurd e h
theorem king_nodup {p:Ps} {s:Nat} (hs:s<64) (k6:kindI (p.B.getD s 0)=6):(kingN p s).Nodup:=by
 unfold kingN;split
 ·exact off_nodup p s
 ·have d1:∀ d:Int,d=-2∨d=2→∀ a ∈ offN p s,∀ b ∈ csN p s d,a≠b:=by
   intro d hd a ha b hb e;obtain ⟨e1,e2,_⟩:=mem_cs.1 hb;have h4:=(mem_off.1 ha).2.2.2.1;have:=king_near hs k6 h4;have h6:=stI_file e2;rw [e,e1] at this;dsimp only at this;omega
  rw [List.nodup_append,List.nodup_append];refine ⟨⟨off_nodup p s,cs_nodup _ _ _,d1 (-2) (.inl rfl)⟩,cs_nodup _ _ _,fun a ha b hb e=>?_⟩;rcases List.mem_append.1 ha with h|h
  ·exact d1 2 (.inr rfl) a h b hb e
  ·obtain ⟨e1,e2,_⟩:=mem_cs.1 h
   obtain ⟨e3,e4,_⟩:=mem_cs.1 hb;have h1:=stI_file e2;have h2:=stI_file e4;rw [e1,e3] at e;injection e with _ e _
   omega
theorem king_len (p:Ps) (s:Nat):(kingN p s).length≤66:=by
 unfold kingN;have h1:=off_len p s;have h2:=cs_len p s (-2);have h3:=cs_len p s 2;split
 ·omega
 ·rw [List.length_append,List.length_append];omega
def ahN (p:Ps) (s:Nat):List Int:=if bAt p.B (s+upI p.t)≠0 then [] else ((s:Int)+upI p.t)::(if (s:Int) / 8=secI p.t∧bAt p.B (s+2*upI p.t)=0 then [(s:Int)+2*upI p.t] else [])
def arrN (p:Ps) (s:Nat) (to:Int):List Mv:=if to / 8≠lastI p.t then [⟨s,to,0⟩] else [⟨s,to,5⟩,⟨s,to,4⟩,⟨s,to,3⟩,⟨s,to,2⟩]
def capB (p:Ps) (x:Int):Bool:=(x == p.e) || (sideI (bAt p.B x) == Qw p.t)
def pawnTo (p:Ps) (s:Nat):List Int:=ahN p s++(zn (Yv p.B (s:Int))).filter (capB p)
def pawnN (p:Ps) (s:Nat):List Mv:=(ahN p s).flatMap (arrN p s)++((zn (Yv p.B (s:Int))).filter (capB p)).flatMap (arrN p s)
theorem pawnN_is (p:Ps) (s:Nat):pawnN p s=(pawnTo p s).flatMap (arrN p s):=by unfold pawnN pawnTo;rw [List.flatMap_append]
theorem mem_ah {p:Ps} {s:Nat} {x:Int}:x ∈ ahN p s↔bAt p.B (s+upI p.t)=0∧(x=s+upI p.t∨(x=s+2*upI p.t∧(s:Int) / 8=secI p.t∧bAt p.B (s+2*upI p.t)=0)):=by
 unfold ahN;split
 ·next h=>simp [h]
 ·next h =>
  have h':bAt p.B (s+upI p.t)=0:=by simpa using h
  split
  ·next h2=>simp [h',h2]
  ·next h2 =>
   simp only [List.mem_singleton];exact ⟨fun e=>⟨h',.inl e⟩,fun e=>e.2.resolve_right fun q=>h2 q.2⟩
theorem mem_arr {p:Ps} {s:Nat} {to:Int} {m:Mv}:m ∈ arrN p s to↔m.f=s∧m.t=to∧(if to / 8=lastI p.t then 2≤m.p∧m.p≤5 else m.p=0):=by
 obtain ⟨mf,mt,mp⟩:=m;unfold arrN;by_cases h:to / 8=lastI p.t
 ·rw [if_neg (by simpa using h),if_pos h]
  simp only [List.mem_cons,List.not_mem_nil,or_false,Mv.mk.injEq];constructor
  ·rintro (⟨a,b,c⟩|⟨a,b,c⟩|⟨a,b,c⟩|⟨a,b,c⟩) <;> exact ⟨a,b,by omega,by omega⟩
  ·rintro ⟨a,b,c,d⟩
   have:mp=5∨mp=4∨mp=3∨mp=2:=by omega
   rcases this with h|h|h|h <;> simp [a,b,h]
 ·rw [if_pos h,if_neg h]
  simp only [List.mem_singleton,Mv.mk.injEq]
theorem arr_nodup (p:Ps) (s:Nat) (to:Int):(arrN p s to).Nodup:=by
 unfold arrN;split
 ·simp
 ·simp
theorem arr_len (p:Ps) (s:Nat) (to:Int):(arrN p s to).length≤4:=by unfold arrN;split <;> simp
theorem pawn_way_all:∀ w:Fin 16,(goesB 1 w=true→(wayF w=1∨wayF w=-1)∧wayR w=1)∧(goesB (-1) w=true→(wayF w=1∨wayF w=-1)∧wayR w=-1):=by decide +kernel
theorem pawn_two (x:Int) (h:kindI x=1):x=1∨x=-1:=by
 unfold kindI at h;split at h
 ·split at h <;> omega
 ·omega
structure Pw (p:Ps) (s:Nat):Prop where
 brd:Brd p.B
 right:pwI p=0
 s1:s<64
 own:sideI (p.B.getD s 0)=p.t
 kind:kindI (p.B.getD s 0)=1
theorem no_edge {B:List Int} (hw:Qx B=0) {s:Nat} (hs:s<64) (k:kindI (B.getD s 0)=1):8≤s∧s<56:=by
 have he:edgeB B=false:=by
  unfold Qx at hw;split at hw
  ·omega
  ·split at hw
   ·omega
   ·split at hw
    ·omega
    ·next h=>simpa using h
 unfold edgeB at he;rw [List.any_eq_false] at he;have:=he s (by rw [List.mem_range];exact hs);unfold edge at this;rw [k] at this;simp at this;omega
theorem Pw.turn {p:Ps} {s:Nat} (h:Pw p s):(p.t=0∧p.B.getD s 0=1∧upI p.t=8∧secI p.t=1∧lastI p.t=7)∨(p.t=1∧p.B.getD s 0=-1∧upI p.t=-8∧secI p.t=6∧lastI p.t=0):=by
 have ho:=h.own;rcases pawn_two _ h.kind with e|e
 ·rw [e] at ho
  have:p.t=0:=by rw [← ho];decide
  left;rw [this];exact ⟨rfl,e,rfl,rfl,rfl⟩
 ·rw [e] at ho
  have:p.t=1:=by rw [← ho];decide
  right;rw [this];exact ⟨rfl,e,rfl,rfl,rfl⟩
theorem Pw.rank {p:Ps} {s:Nat} (h:Pw p s):8≤s∧s<56:=no_edge (Yj h.right).1 h.s1 h.kind
theorem Pw.hits {p:Ps} {s:Nat} (h:Pw p s) {t:Int} (ht:hitB p.B (s:Int) t=true):(0≤t∧t<64)∧t % 8≠(s:Int) % 8∧t / 8=(s:Int) / 8+upI p.t / 8:=by
 have ns:Ya (p.B.getD s 0)=false:=by unfold Ya;rw [Qak,h.kind];rfl
 obtain ⟨way,hw,hg,hT,c,d⟩:=(hit_step h.s1 ns).1 ht;have hall:=pawn_way_all ⟨way,hw⟩;dsimp only at hall;rcases h.turn with ⟨_,e,u,_⟩|⟨_,e,u,_⟩ <;> rw [e] at hg <;> rw [u]
 ·have:=hall.1 hg;refine ⟨hT,?_,?_⟩ <;> omega
 ·have:=hall.2 hg;refine ⟨hT,?_,?_⟩ <;> omega
theorem ok_side {x t:Int} (ho:okB x=true) (hx:x≠0) (ht:t=0∨t=1) (hs:sideI x≠t):sideI x=Qw t:=by
 have hm:manB x=true:=by unfold okB at ho;rw [Bool.or_eq_true,beq_iff_eq] at ho;exact ho.resolve_left hx
 have e:sideI x=if 0<x then 0 else 1:=by unfold sideI;rw [hm,if_pos rfl]
 rw [Jt ht];rw [e] at hs ⊢;by_cases h:0<x
 ·rw [if_pos h] at hs ⊢;omega
 ·rw [if_neg h] at hs ⊢;omega
theorem pass_empty {p:Ps} (h:0≤passI p):bAt p.B p.e=0:=by
 unfold passI at h;split at h
 ·next a=>exact a.2.2.2.1
 ·split at h
  ·next a=>exact a.2.2.2.1
  ·omega
theorem ok_at {p:Ps} (hB:Brd p.B) (hr:pwI p=0) {x:Int} (h0:0≤x) (h1:x<64):okB (bAt p.B x)=true :=
 (rightB_iff p.B hB.1).1 (king_one (Yj hr).1).1 x.toNat (by omega)
theorem Pw.takes {p:Ps} {s:Nat} (h:Pw p s) {m:Mv} (hf:m.f=s) (ht:hitB p.B (s:Int) m.t=true):(takeB p m=true∧sideI (bAt p.B m.t)≠p.t)↔capB p m.t=true:=by
 obtain ⟨⟨t0,t1⟩,hfile,_⟩:=h.hits ht;obtain ⟨t01,_,e0,e1⟩:=Qt h.right;have hw:pawnB p m=true:=by unfold pawnB bAt;rw [hf,Int.toNat_natCast,h.kind];rfl
 have hfl:(m.f % 8 != m.t % 8)=true:=by rw [hf,bne_iff_ne];exact fun e=>hfile e.symm
 unfold takeB takeI epTake capB;rw [hw,hfl,Bool.true_and,Bool.and_true,decide_eq_true_eq];simp only [Bool.or_eq_true,beq_iff_eq];by_cases h0:bAt p.B m.t=0
 ·rw [if_neg (by simpa using h0),h0,side_zero]
  have hno:¬ (-1:Int)=Qw p.t:=by rw [Jt t01];omega
  constructor
  ·rintro ⟨h1,_⟩
   left;by_cases he:m.t=p.e
   ·exact he
   ·rw [if_neg he] at h1;omega
  ·intro h1
   have he:=h1.resolve_right hno
   have hp:0≤passI p:=by
    have:=(Yj h.right).2.2.2.2;unfold epB passB at this;rw [Bool.or_eq_true,decide_eq_true_eq,beq_iff_eq] at this;exact this.resolve_right (by omega)
   rw [if_pos he];exact ⟨hp,by omega⟩
 ·rw [if_pos h0]
  have hok:=ok_at h.brd h.right t0 t1;constructor
  ·rintro ⟨_,h1⟩
   exact .inr (ok_side hok h0 t01 h1)
  ·intro h1
   refine ⟨t0,?_⟩;rcases h1 with he|hs
   ·exfalso
    have hp:0≤passI p:=by
     have:=(Yj h.right).2.2.2.2;unfold epB passB at this;rw [Bool.or_eq_true,decide_eq_true_eq,beq_iff_eq] at this;exact this.resolve_right (by omega)
    rw [he] at h0;exact h0 (pass_empty hp)
   ·rw [hs,Jt t01];omega
theorem mem_pawnTo {p:Ps} {s:Nat} (h:Pw p s) {x:Int}:x ∈ pawnTo p s↔x ∈ ahN p s∨((0≤x∧x<64)∧hitB p.B (s:Int) x=true∧capB p x=true):=by
 unfold pawnTo;rw [List.mem_append,List.mem_filter,mem_zs,and_assoc]
theorem Pw.ahead {p:Ps} {s:Nat} (h:Pw p s) {x:Int} (hx:x ∈ ahN p s):(0≤x∧x<64)∧x % 8=(s:Int) % 8∧bAt p.B x=0:=by
 obtain ⟨h1,h2⟩:=mem_ah.1 hx;have hr:=h.rank;rcases h2 with h2|⟨h2,h3,h4⟩
 ·refine ⟨?_,?_,by rw [h2];exact h1⟩ <;> rcases h.turn with ⟨_,_,u,_⟩|⟨_,_,u,_⟩ <;> rw [h2,u] <;> omega
 ·refine ⟨?_,?_,by rw [h2];exact h4⟩ <;> rcases h.turn with ⟨_,_,u,v,_⟩|⟨_,_,u,v,_⟩ <;> rw [v] at h3 <;> rw [h2,u] <;> omega
theorem mem_pawn {p:Ps} {s:Nat} (h:Pw p s) {m:Mv}:m ∈ pawnN p s↔m ∈ fromN p s:=by
 rw [pawnN_is,List.mem_flatMap,mem_fromN];obtain ⟨t01,_⟩:=Qt h.right;constructor
 ·rintro ⟨x,hx,hm⟩
  obtain ⟨h1,h2,h3⟩:=mem_arr.1 hm;subst h2;have hw:pawnB p m=true:=by unfold pawnB bAt;rw [h1,Int.toNat_natCast,h.kind];rfl
  refine ⟨h1,?_⟩
  have fin:(0≤m.t∧m.t<64)→sideI (bAt p.B m.t)≠p.t→pgoB p m=true→goesM p m=true:=by
   intro a b c;unfold goesM;rw [(form_own h1 h.s1 h.own).2 ⟨a,b,by simp only [h.kind,true_and];exact h3⟩,hw,if_pos rfl,c];rfl
  rcases (mem_pawnTo h).1 hx with ha|⟨ht,hh,hc⟩
  ·obtain ⟨a,_,c⟩:=h.ahead ha
   refine fin a (by rw [c,side_zero];omega) ?_;obtain ⟨b1,b2⟩:=mem_ah.1 ha;unfold pgoB;rw [c,h1];rcases b2 with b2|⟨b2,b3,b4⟩
   ·rw [b2];simp
   ·rw [b2,b1,b3];simp
  ·obtain ⟨a,b⟩:=(h.takes h1 hh).2 hc
   refine fin ht b ?_;unfold pgoB;rw [h1,hh,a];simp
 ·rintro ⟨h1,hg⟩
  have hf:=Qas hg;obtain ⟨a,b,c⟩:=(form_own h1 h.s1 h.own).1 hf;have hw:pawnB p m=true:=by unfold pawnB bAt;rw [h1,Int.toNat_natCast,h.kind];rfl
  refine ⟨m.t,(mem_pawnTo h).2 ?_,mem_arr.2 ⟨h1,rfl,by simp only [h.kind,true_and] at c;exact c⟩⟩;unfold goesM at hg;rw [hf,hw,if_pos rfl,Bool.true_and] at hg;unfold pgoB at hg;rw [h1] at hg;simp only [Bool.or_eq_true,Bool.and_eq_true,beq_iff_eq] at hg;rcases hg with ⟨g1,g2⟩|⟨⟨⟨g1,g2⟩,g3⟩,g4⟩|⟨g1,g2⟩
  ·left;rw [mem_ah];rw [g2] at g1;exact ⟨g1,.inl g2⟩
  ·left;rw [mem_ah];rw [g2] at g1;exact ⟨g4,.inr ⟨g2,g3,g1⟩⟩
  ·right;exact ⟨a,g1,(h.takes h1 g1).1 ⟨g2,b⟩⟩
theorem flat_nodup {α β:Type} {g:α→List β} {l:List α} (hl:l.Nodup) (hg:∀ a ∈ l,(g a).Nodup) (hd:∀ a b x,x ∈ g a→x ∈ g b→a=b):(l.flatMap g).Nodup:=by
 unfold List.Nodup;rw [List.pairwise_flatMap];refine ⟨hg,hl.imp ?_⟩;intro a b hne x hx y hy e;exact hne (hd a b x hx (by rw [e];exact hy))
theorem pawn_nodup {p:Ps} {s:Nat} (h:Pw p s):(pawnN p s).Nodup:=by
 rw [pawnN_is];refine flat_nodup ?_ (fun a _=>arr_nodup p s a) (fun a b x ha hb=>by rw [← (mem_arr.1 ha).2.1,← (mem_arr.1 hb).2.1]);unfold pawnTo;rw [List.nodup_append];refine ⟨?_,(zs_nodup _ _).filter _,fun a ha b hb e=>?_⟩
 ·unfold ahN
  split
  ·simp
  ·split
   ·have:upI p.t≠0:=by rcases h.turn with ⟨_,_,u,_⟩|⟨_,_,u,_⟩ <;> rw [u] <;> decide
    rw [List.nodup_cons];refine ⟨?_,by simp⟩;rw [List.mem_singleton];omega
   ·simp
 ·obtain ⟨_,h2,_⟩:=h.ahead ha
  obtain ⟨h3,_⟩:=List.mem_filter.1 hb;have h4:=(h.hits ((mem_zs b).1 h3).2).2.1;rw [e] at h2;exact h4 h2
theorem ah_len (p:Ps) (s:Nat):(ahN p s).length≤2:=by
 unfold ahN;split
 ·simp
 ·split <;> simp
theorem pawn_len (p:Ps) (s:Nat):(pawnN p s).length≤264:=by
 rw [pawnN_is];have h1:=flatM_len (arrN p s) 4 (arr_len p s) (pawnTo p s)
 have h2:(pawnTo p s).length≤66:=by
  unfold pawnTo;rw [List.length_append];have:=ah_len p s;have:=Nat.le_trans (List.length_filter_le (capB p) (zn (Yv p.B (s:Int)))) (zs_len p.B s);omega
 omega
def rawN (p:Ps) (s:Nat):List Mv:=if kindI (p.B.getD s 0)=1 then pawnN p s else if kindI (p.B.getD s 0)=6 then kingN p s else offN p s
theorem raw_sorted {p:Ps} (hB:Brd p.B) (hr:pwI p=0) {s:Nat} (hs:s<64) (own:sideI (p.B.getD s 0)=p.t):((rawN p s).mergeSort fun x y=>!lessB y x)=fromN p s:=by
 unfold rawN;split
 ·next k=>exact sort_is _ _ (pawn_nodup ⟨hB,hr,hs,own,k⟩) (fromN_sorted p s) fun m=>mem_pawn ⟨hB,hr,hs,own,k⟩
 ·next k1 =>
  split
  ·next k=>exact sort_is _ _ (king_nodup hs k) (fromN_sorted p s) fun m=>mem_king hB hr hs own k
  ·next k6=>exact sort_is _ _ (off_nodup p s) (fromN_sorted p s) fun m=>mem_officer hB hr hs own k1 k6
theorem from_none {p:Ps} {s:Nat} (h:sideI (manA p.B s)≠p.t):fromN p s=[]:=by
 rw [List.eq_nil_iff_forall_not_mem];intro m hm;obtain ⟨h1,h2⟩:=mem_fromN.1 hm;have hf:=Qas h2;unfold formB at hf;rw [h1] at hf;simp only [Bool.and_eq_true,beq_iff_eq] at hf;exact h hf.1.1.1.1
def fromI (p:Ps) (s:Int):List Mv:=if 0≤s∧s<64 then fromN p s.toNat else []
theorem fromI_nat (p:Ps) (s:Nat) (h:s<64):fromI p s=fromN p s:=by unfold fromI;rw [if_pos (by omega),Int.toNat_natCast]
theorem mem_fromI {p:Ps} (t01:p.t=0∨p.t=1) {m:Mv}:m ∈ fromI p m.f↔goesM p m=true:=by
 unfold fromI;split
 ·next h=>rw [mem_fromN];exact ⟨fun a=>a.2,fun a=>⟨by omega,a⟩⟩
 ·next h=>exact ⟨fun a=>by simp at a,fun a=>absurd (by have:=form_on t01 (Qas a);exact ⟨this.f0,this.f1⟩) h⟩
def Zm:Mv:=⟨0,0,0⟩
theorem infoM:(Tryz.prog.info? 28).map (fun i=>(i.zero,i.size,i.bytes))=some (some (.agg (ml Zm).toArray),3,24):=by kernel_rfl
def mlL (L:List Mv):List Value:=L.flatMap ml
theorem mlL_len:∀ L:List Mv,(mlL L).length=L.length*3
 | []=>rfl
 | m::L=>by
  show (ml m++mlL L).length=_;rw [List.length_append,mlL_len L,List.length_cons];show 3+_=_;omega
theorem mlL_app (L K:List Mv):mlL (L++K)=mlL L++mlL K:=by simp [mlL]
theorem mlL_at:∀ (L:List Mv) (i j:Nat) (m:Mv),L[i]?=some m→j<3→(mlL L)[3*i+j]?=(ml m)[j]?
 | [],_,_,_,h,_=>by simp at h
 | a::L,0,j,m,h,hj=>by
  have:a=m:=by simpa using h
  subst this;show (ml a++mlL L)[3*0+j]?=_;rw [Nat.mul_zero,Nat.zero_add,List.getElem?_append_left (by show j<3;exact hj)]
 | a::L,i+1,j,m,h,hj=>by
  show (ml a++mlL L)[3*(i+1)+j]?=_;rw [List.getElem?_append_right (by show 3≤_;omega)];show (mlL L)[3*(i+1)+j-3]?=_;rw [show 3*(i+1)+j-3=3*i+j by omega];exact mlL_at L i j m (by simpa using h) hj
theorem mlL_one {L:List Mv} {u:Value} (h:u ∈ mlL L):u.oneCell'=true:=by
 unfold mlL at h;obtain ⟨m,_,h⟩:=List.mem_flatMap.1 h;simp only [ml,List.mem_cons,List.not_mem_nil,or_false] at h;rcases h with rfl|rfl|rfl <;> rfl
def OwnM (w:World) (base:Nat) (v:Value) (L:List Mv):Prop:=w.ownsRow base 28 3 v L.length (mlL L)
theorem OwnM.nil (w:World) (base:Nat):OwnM w base (.slice none 0 0) []:=World.ownsRow_nil _ _ _ _
theorem OwnM.kept {w w':World} {base:Nat} {v:Value} {l:List Mv} (h:OwnM w base v l) (k:Kept w w'):OwnM w' base v l:=by
 obtain ⟨h1,h2⟩:=h;refine ⟨h1,?_⟩;rcases h2 with h2|⟨b,cap,cur,e1,e2,e3,e4⟩
 ·exact .inl h2
 ·exact .inr ⟨b,cap,cur,e1,e2,k.heap e3,e4⟩
theorem OwnM.low {w:World} {base b:Nat} {v:Value} {l:List Mv} (h:OwnM w base v l) (hb:b≤base):OwnM w b v l:=by
 obtain ⟨h1,h2⟩:=h;refine ⟨h1,?_⟩;rcases h2 with h2|⟨g,cap,cur,e1,e2,e3⟩
 ·exact .inl h2
 ·exact .inr ⟨g,cap,cur,e1,by omega,e3⟩
theorem OwnM.slice {w:World} {base:Nat} {v:Value} {l:List Mv} (h:OwnM w base v l):∃ a cap,v=.slice a l.length cap:=by
 rcases h.2 with ⟨e,h0⟩|⟨g,cap,cur,e,_⟩
 ·exact ⟨none,0,by rw [e,h0]⟩
 ·exact ⟨_,_,e⟩
def LsM (w:World) (g:Nat) (v:Value) (L:List Mv):Prop :=
 (v=.slice none 0 0∧L=[])∨∃ off cap,v=.slice (some ⟨g,off,none⟩) L.length cap∧L.length≤cap∧cap≤maxLen∧w.rangeAt g off (mlL L)
theorem LsM.kept {w w':World} {g:Nat} {v:Value} {l:List Mv} (h:LsM w g v l) (k:Kept w w'):LsM w' g v l:=by
 rcases h with h|⟨off,cap,e,h1,h2,h3⟩
 ·exact .inl h
 ·exact .inr ⟨off,cap,e,h1,h2,fun i x hx=>Qa k (h3 i x hx)⟩
theorem LsM.slice {w:World} {g:Nat} {v:Value} {l:List Mv} (h:LsM w g v l):∃ a cap,v=.slice a l.length cap:=by
 rcases h with ⟨e,h0⟩|⟨off,cap,e,_⟩
 ·exact ⟨none,0,by rw [e,h0];rfl⟩
 ·exact ⟨_,_,e⟩
theorem LsM.full {w:World} {g:Nat} {v:Value} {l:List Mv} (h:LsM w g v l) (hl:0<l.length) :
  ∃ off cap,v=.slice (some ⟨g,off,none⟩) l.length cap∧l.length≤cap∧cap≤maxLen∧w.rangeAt g off (mlL l):=by
 rcases h with ⟨_,h0⟩|h
 ·rw [h0] at hl;simp at hl
 ·exact h
theorem range_mv {w:World} {g off:Nat} {l:List Mv} (h:w.rangeAt g off (mlL l)) {i:Nat} {m:Mv} (hi:l[i]?=some m):w.rangeAt g (off+3*i) (ml m):=by
 intro j v hv;have hj:j<3:=by have:=(List.getElem?_eq_some_iff.1 hv).1;exact this
 rw [Nat.add_assoc];exact h _ _ (by rw [mlL_at l i j m hi hj];exact hv)
theorem OwnM.ls {w:World} {base:Nat} {v:Value} {l:List Mv} (h:OwnM w base v l):∃ g,LsM w g v l∧(0<l.length→base≤g∧g<w.heap.size):=by
 rcases h.2 with ⟨e,h0⟩|⟨g,cap,cur,e,hb,hh,hnc,hcm,hcs,ht⟩
 ·exact ⟨0,.inl ⟨e,List.eq_nil_of_length_eq_zero h0⟩,fun h=>by omega⟩
 ·refine ⟨g,.inr ⟨0,cap,e,hnc,hcm,fun i x hx=>?_⟩,fun _=>⟨hb,Yc hh⟩⟩
  have hi:i<l.length*3:=by
   have:=(List.getElem?_eq_some_iff.1 hx).1;rwa [mlL_len] at this
  rw [Nat.zero_add,cell_of_row w g i cur _ (0,0) hh];have h2:(cur.toList.take (l.length*3))[i]?=(mlL l)[i]?:=by rw [ht]
  rw [List.getElem?_take,if_pos hi] at h2;simp only [Array.getElem?_toList] at h2;rw [h2,hx]
theorem LsM.lit (w:World) (m:Mv):LsM (w.alloc (.cells (ml m).toArray 28)) w.heap.size (.slice (some ⟨w.heap.size,0,none⟩) 1 1) [m]:=by
 refine .inr ⟨0,1,rfl,Nat.le_refl _,by unfold maxLen;omega,fun i x hx=>?_⟩;rw [cell_of_row _ _ _ _ _ (0,0) (heap_alloc_new w _)];simpa [mlL] using hx
theorem Yl {ops:Array Oper} {rest:List Oper} {o:Oper} {a:Act} {w:World} {Q:Exit→Act→World→Prop} (hgd:o.guard=none) (s x:Operand)
  (ho:o.op=.call { callee:=.builtin .append,args:=#[s,x],argTypes:=#[38,38] })
  (base g:Nat) (v vx:Value) (l L:List Mv) (hs:a.eval s=v) (hx:a.eval x=vx) (hown:OwnM w base v l) (hL:LsM w g vx L) (hlen:l.length+L.length≤100000) (hbase:base≤w.heap.size)
  (h:∀ v' w',OwnM w' base v' (l++L)→w.grownBy w' v.ownBlock→wpList Tryz.prog ops Q rest (a.put o.dst v') w'):wpList Tryz.prog ops Q (o::rest) a w:=by
 obtain ⟨i0,hi0,hz0,hz1,hz2⟩:=partsZ infoM;rcases hL with ⟨e,h0⟩|⟨off,cap,e,hnc,hcm,hcell⟩
 ·subst h0
  rw [e] at hx;refine wpList_append_own_none hgd s x 38 ho base 28 i0 3 Tryz.underlying38 hi0 v _ _ hs hown hx ?_;exact h v w (by simpa using hown) ⟨rfl,rfl,rfl,Nat.le_refl _,fun _ _ _=>rfl⟩
 ·rw [e] at hx
  refine wpList_append_own w hgd s x 38 ho base 28 i0 (.agg (ml Zm).toArray) 3 24 Tryz.underlying38 hi0 hz0 hz1 hz2 rfl (by decide) v _ _ hs hown ⟨g,off,none⟩ L.length cap (mlL L) hx (mlL_len L) ?_ (fun u hu=>mlL_one hu) ?_ ?_ hbase ?_
  ·intro j u hu
   rw [show (⟨g,off,none⟩:Addr).add j=⟨g,off+j,none⟩ by unfold Addr.add;split <;> simp_all];exact hcell j u hu
  ·unfold maxLen;omega
  ·omega
  ·intro v' w' h1 h2 _
   refine h v' w' ?_ h2;unfold OwnM;rw [mlL_app,List.length_append];exact h1
theorem OwnM.grown {w w':World} {base:Nat} {v:Value} {l:List Mv} (h:OwnM w base v l) {a:World} (k:Kept a w) (hb:a.heap.size≤base) (hg:w.grownBy w' v.ownBlock):Kept a w' :=
 k.grownBy hg (fun g hgv=>by have:=(World.ownsRow.lt h g hgv).1;omega)
def NewM (w:World) (l:List Mv) (e:Ending) (w':World):Prop:=∃ v,e=.returned v∧OwnM w' w.heap.size v l∧Kept w w'
theorem take_load_mvi {ops:Array Oper} {S:World→Prop} {op:Oper} {a:Act} (hw:Region.wanted op (yielded ops a.tmps)=true) (x:Operand) (ho:op.op=.load 28 x)
  (g off:Nat) (hx:a.eval x=.pointer (some ⟨g,off,none⟩)) (m:Mv) (hS:∀ w,S w→w.rangeAt g off (ml m)):YieldsIf Tryz.prog ops S op (.agg (ml m).toArray) a :=
 yieldsIf_load_mid hw 28 x ho g off hx (ml m) _ hS Tryz.underlying28 rfl sizeM
theorem Yf {w w':World} {g off:Nat} {l:List Value} (h:w.rangeAt g off l) (k:Kept w w'):w'.rangeAt g off l:=fun i x hx=>Qa k (h i x hx)
theorem ml_sz (m:Mv):(Tryz.prog.info? 28).map (·.size)=some (ml m).toArray.size:=by rw [sizeM];rfl
theorem zeroMv:(Tryz.prog.info? 28).map (fun i=>(i.zero,i.size))=some (some (.agg (ml Zm).toArray),3):=by kernel_rfl
theorem run_zero_mv (w:World):(zeroValue 28).run Tryz.prog w=.ok (.agg (ml Zm).toArray) w:=(zero_of_info zeroMv).1 w
theorem Ql {ops:Array Oper} {rest:List Oper} {o:Oper} {a:Act} {w:World} {Q:Exit→Act→World→Prop} (hgd:o.guard=none) (ho:o.op=.alloc 28)
  (h:wpList Tryz.prog ops Q rest (a.put o.dst (.pointer (some ⟨w.heap.size,0,none⟩))) (w.alloc (.cells (ml Zm).toArray 28))):wpList Tryz.prog ops Q (o::rest) a w:=by
 refine wpList_plain hgd fun _ hK=>?_
 unfold Oper.wp execOp;simp only [ho,Instr.alloc,Sem.run_bind,run_zero_mv,Result.andThen_ok,newVar,newRow,Value.cells];exact hK _ _ h
theorem Qg {ops:Array Oper} {rest:List Oper} {o:Oper} {a:Act} {w:World} {Q:Exit→Act→World→Prop} (hgd:o.guard=none) (x y:Operand) (ho:o.op=.store 28 x y)
  (j k:Mv) (hx:a.eval x=.pointer (some ⟨w.heap.size,0,none⟩)) (hy:a.eval y=.agg (ml k).toArray)
  (h:wpList Tryz.prog ops Q rest (a.put o.dst undef) (w.alloc (.cells (ml k).toArray 28))):wpList Tryz.prog ops Q (o::rest) a (w.alloc (.cells (ml j).toArray 28)):=by
 refine wpList_store_row hgd 28 x y ho w.heap.size (ml k).toArray hx hy 28 _ (heap_alloc_new w _) (ml_sz k) rfl (ml_one _) ?_;rw [World.setRow_alloc_new];exact h
theorem bt_mv3 (f t p:Int):Tryz.prog.built 28 [(0,.int .i64 f),(1,.int .i64 t),(2,.int .i64 p)]=some (ml ⟨f,t,p⟩).toArray:=by kernel_rfl
theorem bt_mv2 (f t:Int):Tryz.prog.built 28 [(0,.int .i64 f),(1,.int .i64 t)]=some (ml ⟨f,t,0⟩).toArray:=by kernel_rfl
theorem Qv {ops:Array Oper} {rest:List Oper} {o:Oper} {a:Act} {w:World} {Q:Exit→Act→World→Prop} (hg:o.guard=none) (x0 x1 x2:Operand) (ho:o.op=.build 28 #[(0,x0),(1,x1),(2,x2)])
  (f t p:Int) (h0:a.eval x0=.int .i64 f) (h1:a.eval x1=.int .i64 t) (h2:a.eval x2=.int .i64 p)
  (h:wpList Tryz.prog ops Q rest (a.put o.dst (.agg (ml ⟨f,t,p⟩).toArray)) w):wpList Tryz.prog ops Q (o::rest) a w :=
 Jy hg _ _ ho _ (by
  have:((#[(0,x0),(1,x1),(2,x2)]:Array (Nat × Operand)).map fun (i,x)=>(i,a.eval x)).toList=[(0,.int .i64 f),(1,.int .i64 t),(2,.int .i64 p)]:=by simp [h0,h1,h2]
  rw [this];exact bt_mv3 f t p) h
theorem Jm {ops:Array Oper} {rest:List Oper} {o:Oper} {a:Act} {w:World} {Q:Exit→Act→World→Prop} (hg:o.guard=none) (x0 x1:Operand) (ho:o.op=.build 28 #[(0,x0),(1,x1)])
  (f t:Int) (h0:a.eval x0=.int .i64 f) (h1:a.eval x1=.int .i64 t)
  (h:wpList Tryz.prog ops Q rest (a.put o.dst (.agg (ml ⟨f,t,0⟩).toArray)) w):wpList Tryz.prog ops Q (o::rest) a w :=
 Jy hg _ _ ho _ (by
  have:((#[(0,x0),(1,x1)]:Array (Nat × Operand)).map fun (i,x)=>(i,a.eval x)).toList=[(0,.int .i64 f),(1,.int .i64 t)]:=by simp [h0,h1]
  rw [this];exact bt_mv2 f t) h
theorem run_bslice_mv (m:Mv) (w:World):(Instr.buildSlice 38 1 #[(0,.agg (ml m).toArray)]).run Tryz.prog w=.ok (.slice (some ⟨w.heap.size,0,none⟩) 1 1) (w.alloc (.cells (ml m).toArray 28)):=by
 have hs:(sizeOf 28).run Tryz.prog w=.ok 3 w:=by
  cases hq:Tryz.prog.info? 28 with
  | none=>have:=sizeM;simp [hq] at this
  | some i=>have:=sizeM;simp [hq] at this;simp [sizeOf,typeInfo,hq,this]
 have hf:Instr.fill (fun i=>some (i*3,3)) (Array.map (fun x=>[Value.int .i64 0,Value.int .i64 0,Value.int .i64 0][x % 3]?.getD default) (Array.range 3)) [(0,.agg (ml m).toArray)]=some (ml m).toArray:=by obtain ⟨f,t,p⟩:=m;kernel_rfl
 have hz:ml Zm=[Value.int .i64 0,Value.int .i64 0,Value.int .i64 0]:=rfl;simp only [Instr.buildSlice,Sem.run_bind,run_underlying Tryz.underlying38,Result.andThen_ok,hs,run_zero_mv,Sem.run_pure,Value.cells];simp [run_zero_mv,newRow,hs,hz,hf]
theorem Ym {ops:Array Oper} {rest:List Oper} {o:Oper} {a:Act} {w:World} {Q:Exit→Act→World→Prop} (hgd:o.guard=none) (x:Operand) (ho:o.op=.buildSlice 38 1 #[(0,x)])
  (m:Mv) (hx:a.eval x=.agg (ml m).toArray)
  (h:wpList Tryz.prog ops Q rest (a.put o.dst (.slice (some ⟨w.heap.size,0,none⟩) 1 1)) (w.alloc (.cells (ml m).toArray 28))):wpList Tryz.prog ops Q (o::rest) a w:=by
 refine wpList_plain hgd fun _ hK=>?_
 have hp:((#[(0,x)]:Array (Nat × Operand)).map fun (i,x)=>(i,a.eval x))=#[(0,.agg (ml m).toArray)]:=by simp [hx]
 unfold Oper.wp execOp;simp only [ho,hp,Sem.run_bind,run_bslice_mv,Result.andThen_ok,Sem.run_pure];exact hK _ _ h
end Go.Proofs.YtlpeiolgcaddjaaGreatDoor
