/- MvH · NoA: my texts, in their order. -/
import Derived.Test.YtlpeiolgcaddjaaGreatDoorPkA
import Derived.Test.YtlpeiolgcaddjaaGreatDoorPkB
import Derived.Test.YtlpeiolgcaddjaaGreatDoorPkC
import Derived.Test.YtlpeiolgcaddjaaGreatDoorPkD
import Derived.Test.YtlpeiolgcaddjaaGreatDoorPkE
import Derived.Test.YtlpeiolgcaddjaaGreatDoorPkF
import Derived.Test.YtlpeiolgcaddjaaGreatDoorPkGa
import Derived.Test.YtlpeiolgcaddjaaGreatDoorPkGb
import Derived.Test.YtlpeiolgcaddjaaGreatDoorPkGc
import Derived.Test.YtlpeiolgcaddjaaGreatDoorPkGd
import Derived.Test.YtlpeiolgcaddjaaGreatDoorPkGe
import Derived.Test.YtlpeiolgcaddjaaGreatDoorPkGh
import Derived.Test.YtlpeiolgcaddjaaGreatDoorPkH
import Derived.Test.YtlpeiolgcaddjaaGreatDoorPkI
import Derived.Test.YtlpeiolgcaddjaaGreatDoorPkJ
import Derived.Test.YtlpeiolgcaddjaaGreatDoorPkK
import Derived.Test.YtlpeiolgcaddjaaGreatDoorPkL
import Derived.Test.YtlpeiolgcaddjaaGreatDoorPkLa
import Derived.Test.YtlpeiolgcaddjaaGreatDoorPkLh
import Derived.Test.YtlpeiolgcaddjaaGreatDoorPkM
import Derived.Test.YtlpeiolgcaddjaaGreatDoorPkN
import Derived.Test.YtlpeiolgcaddjaaGreatDoorPkNa
import Derived.Test.YtlpeiolgcaddjaaGreatDoorPkO
import Derived.Test.YtlpeiolgcaddjaaGreatDoorPkP
import Derived.Test.YtlpeiolgcaddjaaGreatDoorPkR
import Derived.Test.YtlpeiolgcaddjaaGreatDoorPkU
namespace Go.Proofs.YtlpeiolgcaddjaaGreatDoor
open Go.RowKit
set_option linter.unusedVariables false
set_option linter.unusedSimpArgs false
set_option maxRecDepth 100000
theorem run_neq_mv (a b:Mv) (w:World):(binOp .neq 28 (.agg (ml a).toArray) (.agg (ml b).toArray)).run Tryz.prog w=.ok (.bool (!beqM a b)) w:=by
 simp only [binOp,Sem.run_bind,Op.equal,Op.maxDepth,run_equal_mv,Result.andThen_ok,Sem.run_pure]
theorem wpList_neq_mv {ops:Array Oper} {rest:List Oper} {o:Oper} {a:Act} {w:World} {Q:Exit→Act→World→Prop} {b:Bool} (hw:Region.wanted o (yielded ops a.tmps)=true) (x y:Operand) (ty:TypeId) (ho:o.op=.binOp .neq 28 x y ty)
  (p q:Mv) (hx:a.eval x=.agg (ml p).toArray) (hy:a.eval y=.agg (ml q).toArray) (h:(!beqM p q)=b)
  (hk:wpList Tryz.prog ops Q rest (a.put o.dst (.bool b)) w):wpList Tryz.prog ops Q (o::rest) a w :=
 wpList_step fun _ hK=>by
  rw [if_pos hw];unfold Oper.wp execOp;simp only [ho,hx,hy,Sem.run_bind,run_eqGuard_agg w _ _ _ _ _ _ eqGuardM,run_neq_mv,Result.andThen_ok,Sem.run_pure,h,Oper.upon_value];exact hK _ _ hk
theorem pawn_kd (p:Ps) (m:Mv):pawnB p m=(kdI p m == 1):=rfl
def sqQ (b:UInt8):Bool:=[97,98,99,100,101,102,103,104,49,50,51,52,53,54,55,56].contains b
def xQ (b:UInt8):Bool:=b == 120 || b == 45
def mkQ (b:UInt8):Bool:=b == 43 || b == 35
theorem cap_inj_all:∀ k j:Fin 6,(capK ((k:Nat)+1:Nat)).data.toList=(capK ((j:Nat)+1:Nat)).data.toList→k=j:=by decide +kernel
theorem cap_inj {k j:Int} (h:1≤k∧k≤6) (h':1≤j∧j≤6) (e:(capK k).data.toList=(capK j).data.toList):k=j:=by
 have:=cap_inj_all ⟨(k-1).toNat,by omega⟩ ⟨(j-1).toNat,by omega⟩;dsimp only at this;rw [show (((k-1).toNat+1:Nat):Int)=k by omega,show (((j-1).toNat+1:Nat):Int)=j by omega] at this;have:=this e;simp only [Fin.mk.injEq] at this;omega
theorem name_all:∀ s:Fin 64,(Qu ((s:Nat):Int)).data.toList.all sqQ=true:=by decide +kernel
theorem name_inj_all:∀ s t:Fin 64,(Qu ((s:Nat):Int)).data.toList=(Qu ((t:Nat):Int)).data.toList→s=t:=by decide +kernel
theorem file_inj_all:∀ s t:Fin 64,(fileT ((s:Nat):Int)).data.toList=(fileT ((t:Nat):Int)).data.toList→(s:Nat) % 8=t % 8:=by decide +kernel
theorem rank_inj_all:∀ s t:Fin 64,(rankT ((s:Nat):Int)).data.toList=(rankT ((t:Nat):Int)).data.toList→(s:Nat) / 8=t / 8:=by decide +kernel
theorem file_rank_all:∀ s t:Fin 8,(97+(s:Nat)).toUInt8≠(49+(t:Nat)).toUInt8:=by decide +kernel
theorem name_list (s:Int):(Qu s).data.toList=(fileT s).data.toList++(rankT s).data.toList:=rfl
theorem name_sq {s:Int} (h0:0≤s) (h1:s<64):∀ b,b ∈ (Qu s).data.toList→sqQ b=true:=by
 obtain ⟨n,rfl⟩:=Int.eq_ofNat_of_zero_le h0;exact List.all_eq_true.1 (name_all ⟨n,by omega⟩)
theorem file_sq {s:Int} (h0:0≤s) (h1:s<64):∀ b,b ∈ (fileT s).data.toList→sqQ b=true:=fun b hb=>name_sq h0 h1 b (by rw [name_list];exact List.mem_append_left _ hb)
theorem rank_sq {s:Int} (h0:0≤s) (h1:s<64):∀ b,b ∈ (rankT s).data.toList→sqQ b=true:=fun b hb=>name_sq h0 h1 b (by rw [name_list];exact List.mem_append_right _ hb)
theorem name_inj {s t:Int} (s0:0≤s) (s1:s<64) (t0:0≤t) (t1:t<64) (e:(Qu s).data.toList=(Qu t).data.toList):s=t:=by
 obtain ⟨a,rfl⟩:=Int.eq_ofNat_of_zero_le s0;obtain ⟨b,rfl⟩:=Int.eq_ofNat_of_zero_le t0;have:=name_inj_all ⟨a,by omega⟩ ⟨b,by omega⟩ e;simp only [Fin.mk.injEq] at this;omega
theorem file_inj {s t:Int} (s0:0≤s) (s1:s<64) (t0:0≤t) (t1:t<64) (e:(fileT s).data.toList=(fileT t).data.toList):s % 8=t % 8:=by
 obtain ⟨a,rfl⟩:=Int.eq_ofNat_of_zero_le s0;obtain ⟨b,rfl⟩:=Int.eq_ofNat_of_zero_le t0;have:=file_inj_all ⟨a,by omega⟩ ⟨b,by omega⟩ e;dsimp only at this;omega
theorem rank_inj {s t:Int} (s0:0≤s) (s1:s<64) (t0:0≤t) (t1:t<64) (e:(rankT s).data.toList=(rankT t).data.toList):s / 8=t / 8:=by
 obtain ⟨a,rfl⟩:=Int.eq_ofNat_of_zero_le s0;obtain ⟨b,rfl⟩:=Int.eq_ofNat_of_zero_le t0;have:=rank_inj_all ⟨a,by omega⟩ ⟨b,by omega⟩ e;dsimp only at this;omega
theorem file_not_rank {s t:Int} (s0:0≤s) (s1:s<64) (t0:0≤t) (t1:t<64):(fileT s).data.toList≠(rankT t).data.toList:=by
 intro e;have:=file_rank_all ⟨(s % 8).toNat,by omega⟩ ⟨(t / 8).toNat,by omega⟩;dsimp only at this;apply this;have e':[(97+(s % 8).toNat).toUInt8]=[(49+(t / 8).toNat).toUInt8]:=e;injection e'
theorem flt_none {P:UInt8→Bool} {l:List UInt8} (h:∀ b,b ∈ l→P b=false):l.filter P=[]:=by
 rw [List.filter_eq_nil_iff];intro b hb;rw [h b hb];decide
theorem flt_all {P:UInt8→Bool} {l:List UInt8} (h:∀ b,b ∈ l→P b=true):l.filter P=l:=List.filter_eq_self.2 h
structure Parts (H A X N T:List UInt8):Prop where
 h:∀ b,b ∈ H→capQ b=true
 a:∀ b,b ∈ A→sqQ b=true
 x:∀ b,b ∈ X→xQ b=true
 n:∀ b,b ∈ N→sqQ b=true
 n2:N.length=2
 t:T=[]∨∃ c,T=[61,c]∧capQ c=true
theorem sq_each {b:UInt8} (h:sqQ b=true):b=97∨b=98∨b=99∨b=100∨b=101∨b=102∨b=103∨b=104∨b=49∨b=50∨b=51∨b=52∨b=53∨b=54∨b=55∨b=56:=by
 unfold sqQ at h;simpa using h
structure Apt (P:UInt8→Bool):Prop where
 cap:∀ b,capQ b=true→P b=false
 sq:∀ b,sqQ b=true→P b=false
theorem apt_of {P:UInt8→Bool} (h1:[66,75,78,80,81,82].all (fun b=>!P b)=true) (h2:[97,98,99,100,101,102,103,104,49,50,51,52,53,54,55,56].all (fun b=>!P b)=true):Apt P:=by
 rw [List.all_eq_true] at h1 h2;refine ⟨fun b hb=>?_,fun b hb=>?_⟩
 ·have:=h1 b (by unfold capQ at hb;rw [List.contains_iff_mem] at hb;exact hb)
  simpa using this
 ·have:=h2 b (by unfold sqQ at hb;rw [List.contains_iff_mem] at hb;exact hb)
  simpa using this
theorem apt_x:Apt xQ:=apt_of (by decide) (by decide)
theorem apt_61:Apt (· == 61):=apt_of (by decide) (by decide)
theorem apt_79:Apt (· == 79):=apt_of (by decide) (by decide)
theorem apt_mk:Apt mkQ:=apt_of (by decide) (by decide)
theorem xQ_two {b:UInt8} (h:xQ b=true):b=120∨b=45:=by unfold xQ at h;simpa using h
theorem Parts.filter {H A X N T:List UInt8} (q:Parts H A X N T) {P:UInt8→Bool} (hp:Apt P):((((H++A)++X)++N)++T).filter P=X.filter P++T.filter P:=by
 rw [List.filter_append,List.filter_append,List.filter_append,List.filter_append,flt_none fun b hb=>hp.cap b (q.h b hb),flt_none (l:=A) fun b hb=>hp.sq b (q.a b hb),flt_none (l:=N) fun b hb=>hp.sq b (q.n b hb)];simp
theorem Parts.t_61 {H A X N T:List UInt8} (q:Parts H A X N T):(T=[]∧T.filter (· == 61)=[])∨(T.length=2∧T.filter (· == 61)=[61]):=by
 rcases q.t with e|⟨c,e,hc⟩
 ·rw [e];exact .inl ⟨rfl,rfl⟩
 ·have:=apt_61.cap c hc
  rw [e];refine .inr ⟨rfl,?_⟩;simp only [List.filter_cons];rw [this];simp
theorem Parts.x_61 {H A X N T:List UInt8} (q:Parts H A X N T):X.filter (· == 61)=[]:=flt_none fun b hb=>by
 rcases xQ_two (q.x b hb) with e|e <;> rw [e] <;> decide
theorem Parts.t_x {H A X N T:List UInt8} (q:Parts H A X N T):T.filter xQ=[]:=by
 rcases q.t with e|⟨c,e,hc⟩
 ·rw [e];rfl
 ·have:=apt_x.cap c hc
  rw [e];simp only [List.filter_cons];rw [this,show xQ 61=false from rfl];simp
theorem parts_eq {H A X N T H' A' X' N' T':List UInt8} (q:Parts H A X N T) (q':Parts H' A' X' N' T') (e:(((H++A)++X)++N)++T=(((H'++A')++X')++N')++T') :
  H=H'∧A=A'∧X=X'∧N=N'∧T=T':=by
 have ex:X=X':=by
  have:=congrArg (List.filter xQ) e;rw [q.filter apt_x,q'.filter apt_x,q.t_x,q'.t_x,List.append_nil,List.append_nil,flt_all q.x,flt_all q'.x] at this;exact this
 have et:T.length=T'.length:=by
  have:=congrArg (List.filter (· == 61)) e;rw [q.filter apt_61,q'.filter apt_61,q.x_61,q'.x_61,List.nil_append,List.nil_append] at this;rcases q.t_61 with ⟨a,b⟩|⟨a,b⟩ <;> rcases q'.t_61 with ⟨c,d⟩|⟨c,d⟩
  ·rw [a,c]
  ·rw [b,d] at this;exact absurd this (by decide)
  ·rw [b,d] at this;exact absurd this (by decide)
  ·rw [a,c]
 obtain ⟨e1,e2⟩:=List.append_inj' e et;obtain ⟨e3,e4⟩:=List.append_inj' e1 (by rw [q.n2,q'.n2]);obtain ⟨e5,_⟩:=List.append_inj' e3 (by rw [ex])
 have eh:H=H':=by
  have:=congrArg (List.filter capQ) e5
  have hs:∀ b,sqQ b=true→capQ b=false:=fun b hb=>by
   rcases sq_each hb with e|e|e|e|e|e|e|e|e|e|e|e|e|e|e|e <;> rw [e] <;> decide
  rw [List.filter_append,List.filter_append,flt_all q.h,flt_all q'.h,flt_none (l:=A) fun b hb=>hs b (q.a b hb),flt_none (l:=A') fun b hb=>hs b (q'.a b hb),List.append_nil,List.append_nil] at this;exact this
 subst eh;exact ⟨rfl,List.append_cancel_left e5,ex,e4,e2⟩
theorem head_h {p:Ps} {m:Mv} {f t:Nat} (F:Fm p m f t):∀ b,b ∈ (headK (kdI p m)).data.toList→capQ b=true:=by
 intro b hb;unfold headK at hb;split at hb
 ·simp at hb
 ·exact (cap_list (kd_in F)).1 b hb
theorem tail_t {p:Ps} {m:Mv} {f t:Nat} (F:Fm p m f t):(tailB m.p).data.toList=[]∨∃ c,(tailB m.p).data.toList=[61,c]∧capQ c=true:=by
 by_cases h:m.p=0
 ·exact .inl (by unfold tailB;rw [if_pos h])
 ·refine .inr ?_
  have h5:=promo_five' F.prm;obtain ⟨q1,q2⟩:=cap_list (k:=m.p) (by omega);obtain ⟨c,hc⟩:=List.length_eq_one_iff.1 q2;refine ⟨c,?_,q1 c (by rw [hc];exact List.mem_singleton.2 rfl)⟩;unfold tailB;rw [if_neg h,Jh,hc];rfl
theorem apart_a {p:Ps} {m:Mv} {f t:Nat} (F:Fm p m f t) (L:List Mv):∀ b,b ∈ (Yh p m L).data.toList→sqQ b=true:=by
 have f0:0≤m.f:=by have:=F.hf;omega
 have f1:m.f<64:=by have:=F.hf;have:=F.f1;omega
 intro b hb;unfold Yh at hb;split at hb
 ·split at hb
  ·exact file_sq f0 f1 b hb
  ·simp at hb
 ·split at hb
  ·simp at hb
  ·split at hb
   ·split at hb
    ·exact name_sq f0 f1 b hb
    ·exact rank_sq f0 f1 b hb
   ·exact file_sq f0 f1 b hb
theorem bare_parts {p:Ps} {m:Mv} {f t:Nat} (F:Fm p m f t) (fr sg:ByteArray) (h1:∀ b,b ∈ fr.data.toList→sqQ b=true) (h2:∀ b,b ∈ sg.data.toList→xQ b=true) :
  Parts (headK (kdI p m)).data.toList fr.data.toList (signB p m sg).data.toList (Qu m.t).data.toList (tailB m.p).data.toList:=by
 refine ⟨head_h F,h1,?_,name_sq (by have:=F.ht;omega) (by have:=F.ht;have:=F.t1;omega),rfl,tail_t F⟩;intro b hb;unfold signB at hb;split at hb
 ·simp at hb;rw [hb];decide
 ·exact h2 b hb
theorem bare_list {p:Ps} {m:Mv} (hc:¬ castN p m<4) (fr sg:ByteArray) :
  (bareB p m fr sg).data.toList=((((headK (kdI p m)).data.toList++fr.data.toList)++(signB p m sg).data.toList)++(Qu m.t).data.toList)++(tailB m.p).data.toList:=by
 unfold bareB;rw [if_neg hc,Jh,Jh,Jh,Jh]
theorem Parts.no {H A X N T:List UInt8} (q:Parts H A X N T) {P:UInt8→Bool} (hp:Apt P) (h61:P 61=false) (hx:∀ b,xQ b=true→P b=false):((((H++A)++X)++N)++T).filter P=[]:=by
 rw [q.filter hp,flt_none fun b hb=>hx b (q.x b hb),List.nil_append];rcases q.t with e|⟨c,e,hc⟩
 ·rw [e];rfl
 ·have:=hp.cap c hc
  rw [e];simp only [List.filter_cons];rw [this,h61];simp
theorem head_inj {p:Ps} {m n:Mv} {f t g u:Nat} (F:Fm p m f t) (G:Fm p n g u) (e:(headK (kdI p m)).data.toList=(headK (kdI p n)).data.toList):kdI p m=kdI p n:=by
 have a:=kd_in F;have b:=kd_in G;unfold headK at e;by_cases h1:kdI p m=1 <;> by_cases h2:kdI p n=1
 ·rw [h1,h2]
 ·rw [if_pos h1,if_neg h2] at e
  have:=(cap_list b).2;rw [← e] at this;exact absurd this (by decide)
 ·rw [if_neg h1,if_pos h2] at e
  have:=(cap_list a).2;rw [e] at this;exact absurd this (by decide)
 ·rw [if_neg h1,if_neg h2] at e
  exact cap_inj a b e
theorem tail_inj {p:Ps} {m n:Mv} {f t g u:Nat} (F:Fm p m f t) (G:Fm p n g u) (e:(tailB m.p).data.toList=(tailB n.p).data.toList):m.p=n.p:=by
 have a:=promo_five' F.prm;have b:=promo_five' G.prm;unfold tailB at e;by_cases h1:m.p=0 <;> by_cases h2:n.p=0
 ·rw [h1,h2]
 ·rw [if_pos h1,if_neg h2,Jh] at e;simp at e
 ·rw [if_neg h1,if_pos h2,Jh] at e;simp at e
 ·rw [if_neg h1,if_neg h2,Jh,Jh] at e
  exact cap_inj (by omega) (by omega) (List.append_cancel_left e)
theorem cast_same {p:Ps} {m n:Mv} {f t g u:Nat} (F:Fm p m f t) (G:Fm p n g u) (hc:castN p m<4) (hd:castN p n<4) (e:Js m=Js n):m=n:=by
 have c:=Qaw F hc rfl;have d:=Qaw G hd rfl;have hs:hS (castN p m)=hS (castN p n):=by rw [← c.side,← d.side]
 have e1:=c.ef;have e2:=c.et;have e3:=d.ef;have e4:=d.et;have p1:=c.no_promo F;have p2:=d.no_promo G;have hfF:=F.hf;have htF:=F.ht;have hfG:=G.hf;have htG:=G.ht;unfold Js at e;generalize castN p m=k at *;generalize castN p n=j at *
 have ek:k=j:=by
  have hk:k=0∨k=1∨k=2∨k=3:=by omega
  have hj:j=0∨j=1∨j=2∨j=3:=by omega
  rw [hfF,htF,hfG,htG,e1,e2,e3,e4] at e;rcases hk with rfl|rfl|rfl|rfl <;> rcases hj with rfl|rfl|rfl|rfl <;> first|rfl|exact absurd hs (by decide)|exact absurd e (by decide)
 subst ek;exact mv_ext (by omega) (by omega) (by omega)
theorem castT_79 (m:Mv):(Js m).data.toList.filter (· == 79)≠[]:=by
 unfold Js;split <;> decide
theorem x_79:∀ b,xQ b=true→(b == 79)=false:=fun b hb=>by rcases xQ_two hb with e|e <;> rw [e] <;> decide
theorem x_mk:∀ b,xQ b=true→mkQ b=false:=fun b hb=>by rcases xQ_two hb with e|e <;> rw [e] <;> decide
theorem bare_eq {p:Ps} {m n:Mv} {f t g u:Nat} (F:Fm p m f t) (G:Fm p n g u) (fr fr' sg:ByteArray) (h1:∀ b,b ∈ fr.data.toList→sqQ b=true) (h1':∀ b,b ∈ fr'.data.toList→sqQ b=true) (h2:∀ b,b ∈ sg.data.toList→xQ b=true)
  (e:bareB p m fr sg=bareB p n fr' sg):m=n∨((¬ castN p m<4∧¬ castN p n<4)∧kdI p m=kdI p n∧fr.data.toList=fr'.data.toList∧(signB p m sg).data.toList=(signB p n sg).data.toList∧m.t=n.t∧m.p=n.p):=by
 have el:(bareB p m fr sg).data.toList=(bareB p n fr' sg).data.toList:=by rw [e]
 by_cases hc:castN p m<4 <;> by_cases hd:castN p n<4
 ·unfold bareB at e
  rw [if_pos hc,if_pos hd] at e;exact .inl (cast_same F G hc hd e)
 ·rw [bare_list hd] at el
  have:=congrArg (List.filter (· == 79)) el;rw [(bare_parts G fr' sg h1' h2).no apt_79 rfl x_79] at this;unfold bareB at this;rw [if_pos hc] at this;exact absurd this (castT_79 m)
 ·rw [bare_list hc] at el
  have:=congrArg (List.filter (· == 79)) el;rw [(bare_parts F fr sg h1 h2).no apt_79 rfl x_79] at this;unfold bareB at this;rw [if_pos hd] at this;exact absurd this.symm (castT_79 n)
 ·rw [bare_list hc,bare_list hd] at el
  obtain ⟨a,b,c,d,e⟩:=parts_eq (bare_parts F fr sg h1 h2) (bare_parts G fr' sg h1' h2) el;refine .inr ⟨⟨hc,hd⟩,head_inj F G a,b,c,?_,tail_inj F G e⟩;exact name_inj (by have:=F.ht;omega) (by have:=F.ht;have:=F.t1;omega) (by have:=G.ht;omega) (by have:=G.ht;have:=G.t1;omega) d
theorem sign_take {p:Ps} {m n:Mv} {sg:ByteArray} (hs:sg=⟨#[]⟩∨sg=⟨#[45]⟩) (e:(signB p m sg).data.toList=(signB p n sg).data.toList):takeB p m=takeB p n:=by
 unfold signB at e
 cases h1:takeB p m <;> cases h2:takeB p n <;> rw [h1,h2] at e <;> first|rfl|(rcases hs with rfl|rfl <;> exact absurd e (by decide))
theorem slides_pawn {x:Int} (h:kindI x=1):Ya x=false:=by unfold Ya;rw [Qak,h];rfl
theorem pawn_takes {p:Ps} {m:Mv} {f t:Nat} (F:Fm p m f t) (hg:goesM p m=true) (h1:kdI p m=1) (ht:takeB p m=true):(t:Int) / 8=(f:Int) / 8+(if p.t=0 then 1 else -1):=by
 have ek:kindI (p.B.getD f 0)=1:=by have:kdI p m=kindI (p.B.getD f 0):=by { unfold kdI bAt;rw [F.hf,Int.toNat_natCast] };rw [← this];exact h1
 have hp:pawnB p m=true:=by rw [pawn_kd,h1];rfl
 unfold goesM at hg;rw [hp,if_pos rfl,Bool.and_eq_true] at hg
 have hit:hitB p.B (f:Int) (t:Int)=true:=by
  have hgo:=hg.2;unfold pgoB at hgo;rw [ht,Bool.and_true,F.hf,F.ht] at hgo;simp only [Bool.or_eq_true,Bool.and_eq_true,beq_iff_eq] at hgo
  have no:bAt p.B (t:Int)=0→(f:Int) % 8=(t:Int) % 8→False:=fun h0 hf=>by
   have hu:takeI p m=-1:=by
    unfold takeI epTake;rw [F.ht,F.hf,if_neg (by simpa using h0),if_neg];simp only [Bool.and_eq_true,bne_iff_ne,ne_eq];rintro ⟨_,h⟩;exact h hf
   rw [(take_off hu).2] at ht
   cases ht
  have up8:upI p.t=8∨upI p.t=-8:=by unfold upI;split <;> simp
  rcases hgo with ⟨h0,h⟩|⟨⟨⟨h0,h⟩,_⟩,_⟩|h
  ·exact (no h0 (by omega)).elim
  ·exact (no h0 (by omega)).elim
  ·exact h
 obtain ⟨way,hw,hgw,_,_,d⟩:=(hit_step F.f1 (slides_pawn ek)).1 hit;have hall:=pawn_way_all ⟨way,hw⟩;dsimp only at hall;obtain ⟨hm,hz⟩:=side_man F.t01 F.own;have hx:p.B.getD f 0=1∨p.B.getD f 0=-1:=by unfold kindI at ek;rw [hm,if_pos rfl] at ek;split at ek <;> omega
 rcases hx with hx|hx <;> rw [hx] at hgw hz
 ·have:=(hall.1 hgw).2
  rw [if_pos (by omega)];omega
 ·have:=(hall.2 hgw).2
  rw [if_neg (by omega)];omega
theorem pawn_stays {p:Ps} {m:Mv} {f t:Nat} (F:Fm p m f t) (hg:goesM p m=true) (h1:kdI p m=1) (ht:takeB p m=false) :
  (t:Int)=f+upI p.t∨((t:Int)=f+2*upI p.t∧bAt p.B ((f:Int)+upI p.t)=0):=by
 have hp:pawnB p m=true:=by rw [pawn_kd,h1];rfl
 unfold goesM at hg;rw [hp,if_pos rfl,Bool.and_eq_true] at hg;have hgo:=hg.2;unfold pgoB at hgo;rw [ht,Bool.and_false,Bool.or_false,F.hf,F.ht] at hgo;simp only [Bool.or_eq_true,Bool.and_eq_true,beq_iff_eq] at hgo;rcases hgo with ⟨_,h⟩|⟨⟨⟨_,h⟩,_⟩,h'⟩
 ·exact .inl h
 ·exact .inr ⟨h,h'⟩
theorem own_not0 {p:Ps} {m:Mv} {f t:Nat} (F:Fm p m f t):bAt p.B (f:Int)≠0:=by
 obtain ⟨hm,_⟩:=side_man F.t01 F.own;unfold bAt;rw [Int.toNat_natCast];exact ((Jk _).1 hm).1
theorem pawn_same {p:Ps} {m n:Mv} {f t g u:Nat} (F:Fm p m f t) (G:Fm p n g u) (gm:goesM p m=true) (gn:goesM p n=true) (h1:kdI p m=1) (h2:kdI p n=1) (hf:takeB p m=false) (hg:takeB p n=false) (et:t=u):f=g:=by
 have a:=pawn_stays F gm h1 hf;have b:=pawn_stays G gn h2 hg;have na:=own_not0 F;have nb:=own_not0 G;subst et;rcases a with a|⟨a,a'⟩ <;> rcases b with b|⟨b,b'⟩
 ·omega
 ·exfalso;apply na;rw [show (f:Int)=(g:Int)+upI p.t by omega];exact b'
 ·exfalso;apply nb;rw [show (g:Int)=(f:Int)+upI p.t by omega];exact a'
 ·omega
theorem riv_mem {p:Ps} {m n:Mv} {L:List Mv} (hn:n ∈ L) (h:rivB p m n=true):n.f ∈ rivL p m L:=List.mem_map.2 ⟨n,List.mem_filter.2 ⟨hn,h⟩,rfl⟩
theorem apart_riv {p:Ps} {m n:Mv} {L:List Mv} (h1:kdI p m≠1) (hn:n.f ∈ rivL p m L) (f0:0≤m.f) (f1:m.f<64) (n0:0≤n.f) (n1:n.f<64) :
  (Yh p m L=fileT m.f∧n.f % 8≠m.f % 8)∨(Yh p m L=rankT m.f∧n.f / 8≠m.f / 8)∨Yh p m L=Qu m.f:=by
 have hl:(rivL p m L).length≠0:=fun h=>by rw [List.eq_nil_of_length_eq_zero h] at hn;cases hn
 unfold Yh;rw [if_neg h1,if_neg hl]
 cases ha:(rivL p m L).any (fun s=>sameF s m.f)
 ·left
  rw [if_neg (by decide)];refine ⟨rfl,fun e=>?_⟩;rw [List.any_eq_false] at ha;exact ha _ hn (by unfold sameF;rw [e];simp)
 ·rw [if_pos rfl]
  cases hb:(rivL p m L).any (fun s=>sameR s m.f)
  ·right;left
   rw [if_neg (by decide)];refine ⟨rfl,fun e=>?_⟩;rw [List.any_eq_false] at hb;exact hb _ hn (by unfold sameR;rw [e];simp)
  ·right;right
   rw [if_pos rfl]
theorem short_inj {p:Ps} (hB:Brd p.B) (hr:pwI p=0) {m n:Mv} (hm:legB p m=true) (hn:legB p n=true) (e:shB p m (legL p)=shB p n (legL p)):m=n:=by
 obtain ⟨_,_,om⟩:=Yg hB hr hm;obtain ⟨_,_,on⟩:=Yg hB hr hn;obtain ⟨f,t,F⟩:=Yt hB om;obtain ⟨g,u,G⟩:=Yt hB on;have lm:=(Qai F.t01).2 hm;have ln:=(Qai F.t01).2 hn;have gm:goesM p m=true:=by unfold legB at hm;rw [Bool.and_eq_true] at hm;exact hm.1
 have gn:goesM p n=true:=by unfold legB at hn;rw [Bool.and_eq_true] at hn;exact hn.1
 have f0:0≤m.f:=by have:=F.hf;omega
 have f1:m.f<64:=by have:=F.hf;have:=F.f1;omega
 have g0:0≤n.f:=by have:=G.hf;omega
 have g1:n.f<64:=by have:=G.hf;have:=G.f1;omega
 rcases bare_eq F G _ _ _ (apart_a F _) (apart_a G _) (by intro b hb;simp at hb) e with h|⟨_,ek,ea,es,et,ep⟩
 ·exact h
 ·have tk:=sign_take (.inl rfl) es
  refine mv_ext ?_ et ep;by_cases h1:kdI p m=1
  ·have h2:kdI p n=1:=by rw [← ek];exact h1
   have hf:=F.hf;have hg:=G.hf;have hft:=F.ht;have hgt:=G.ht
   cases ht:takeB p m
   ·rw [ht] at tk
    have:=pawn_same F G gm gn h1 h2 ht tk.symm (by omega);omega
   ·rw [ht] at tk
    have a:=pawn_takes F gm h1 ht;have b:=pawn_takes G gn h2 tk.symm;unfold Yh at ea;rw [if_pos h1,if_pos h2,ht,← tk,if_pos rfl,if_pos rfl] at ea;have c:=file_inj f0 f1 g0 g1 ea;omega
  ·have h2:kdI p n≠1:=by rw [← ek];exact h1
   by_cases hne:m.f=n.f
   ·exact hne
   exfalso;have r1:n.f ∈ rivL p m (legL p):=riv_mem ln (by unfold rivB;rw [et,ek];simp;exact fun h=>hne h.symm);have r2:m.f ∈ rivL p n (legL p):=riv_mem lm (by unfold rivB;rw [et,ek];simp;exact hne);have nn:∀ s,(Qu s).data.toList.length=2:=fun s=>rfl
   have nf:∀ s,(fileT s).data.toList.length=1:=fun s=>rfl
   have nr:∀ s,(rankT s).data.toList.length=1:=fun s=>rfl
   rcases apart_riv h1 r1 f0 f1 g0 g1 with ⟨a,a'⟩|⟨a,a'⟩|a <;> rcases apart_riv h2 r2 g0 g1 f0 f1 with ⟨b,b'⟩|⟨b,b'⟩|b <;> rw [a,b] at ea
   ·exact a' (file_inj f0 f1 g0 g1 ea).symm
   ·exact file_not_rank f0 f1 g0 g1 ea
   ·have:=congrArg List.length ea;rw [nf,nn] at this;omega
   ·exact file_not_rank g0 g1 f0 f1 ea.symm
   ·exact a' (rank_inj f0 f1 g0 g1 ea).symm
   ·have:=congrArg List.length ea;rw [nr,nn] at this;omega
   ·have:=congrArg List.length ea;rw [nf,nn] at this;omega
   ·have:=congrArg List.length ea;rw [nr,nn] at this;omega
   ·exact hne (name_inj f0 f1 g0 g1 ea)
theorem bare_mk {p:Ps} {m:Mv} {f t:Nat} (F:Fm p m f t) (fr sg:ByteArray) (h1:∀ b,b ∈ fr.data.toList→sqQ b=true) (h2:∀ b,b ∈ sg.data.toList→xQ b=true):∀ b,b ∈ (bareB p m fr sg).data.toList→mkQ b=false:=by
 by_cases hc:castN p m<4
 ·intro b hb
  unfold bareB Js at hb;rw [if_pos hc] at hb
  have k1:∀ b,b ∈ (⟨#[79,45,79]⟩:ByteArray).data.toList→mkQ b=false:=fun b hb=>by
   have:=List.all_eq_true.1 (show [79,45,79].all (fun b=>!mkQ b)=true by decide) b hb;simpa using this
  have k2:∀ b,b ∈ (⟨#[79,45,79,45,79]⟩:ByteArray).data.toList→mkQ b=false:=fun b hb=>by
   have:=List.all_eq_true.1 (show [79,45,79,45,79].all (fun b=>!mkQ b)=true by decide) b hb;simpa using this
  split at hb
  ·exact k1 b hb
  ·exact k2 b hb
 ·have:=(bare_parts F fr sg h1 h2).no apt_mk rfl x_mk
  rw [← bare_list hc,List.filter_eq_nil_iff] at this;intro b hb;simpa using this b hb
theorem strip_mk {a b:ByteArray} {m n:ByteArray} (ha:∀ x,x ∈ a.data.toList→mkQ x=false) (hb:∀ x,x ∈ b.data.toList→mkQ x=false) (hm:∀ x,x ∈ m.data.toList→mkQ x=true) (hn:∀ x,x ∈ n.data.toList→mkQ x=true) (e:a++m=b++n):a=b:=by
 have el:(a++m).data.toList.filter (fun y=>!mkQ y)=(b++n).data.toList.filter (fun y=>!mkQ y):=by rw [e]
 rw [Jh,Jh,List.filter_append,List.filter_append,flt_all (l:=a.data.toList) fun x hx=>by rw [ha x hx];rfl,flt_all (l:=b.data.toList) fun x hx=>by rw [hb x hx];rfl,
  flt_none (l:=m.data.toList) fun x hx=>by rw [hm x hx];rfl,flt_none (l:=n.data.toList) fun x hx=>by rw [hn x hx];rfl,List.append_nil,List.append_nil] at el
 exact bs_ext el
theorem mark_mk (q:Ps):∀ x,x ∈ (markB q).data.toList→mkQ x=true:=by
 intro x hx;rcases mark_one q with e|e|e <;> rw [e] at hx <;> simp at hx <;> rw [hx] <;> decide
end Go.Proofs.YtlpeiolgcaddjaaGreatDoor
