/- MvH: my texts, in their order. -/
import Derived.Test.YtlpeiolgcaddjaaGreatDoorPkL
namespace Go.Proofs.YtlpeiolgcaddjaaGreatDoor
open Go.RowKit
set_option linter.unusedVariables false
set_option linter.unusedSimpArgs false
set_option maxRecDepth 100000
def beqM (a b:Mv):Bool:=(a.f == b.f) && (a.t == b.t) && (a.p == b.p)
theorem beqM_refl (a:Mv):beqM a a=true:=by simp [beqM]
theorem beqM_iff (a b:Mv):beqM a b=true↔a=b:=by
 obtain ⟨f,t,p⟩:=a;obtain ⟨f',t',p'⟩:=b;simp [beqM,and_assoc]
theorem fieldsM : (Tryz.prog.fieldsOf 28).toList.map (fun f => (f.name == "_", f.type, f.offset)) = [(false, 3, 0), (false, 3, 1), (false, 3, 2)] := by kernel_rfl
theorem stoodM:Tryz.prog.stoodInHeld 28=false:=by kernel_rfl
theorem eqGuardM:Tryz.prog.eqGuardType Tryz.prog.depth 28=false:=by kernel_rfl
theorem run_part_m (a:Mv) (k:Nat) {x:Int} (hk:(ml a)[k]?=some (.int .i64 x)) (w:World):(part 3 (ml a).toArray k).run Tryz.prog w=.ok (.int .i64 x) w:=by
 simp [part,isAgg,run_underlying Tryz.underlying3,hk]
theorem run_equal_mv (a b:Mv) (w:World):(Op.equalIn 10000 28 (.agg (ml a).toArray) (.agg (ml b).toArray)).run Tryz.prog w=.ok (beqM a b) w:=by
 have hu:Tryz.prog.underlying 28=some (.struct (Tryz.prog.fieldsOf 28)):=by kernel_rfl
 rw [run_equalIn_struct w 9999 _ _ _ hu stoodM]
 obtain ⟨f1,f2,f3,hf,n1,t1,o1,n2,t2,o2,n3,t3,o3⟩:∃ f1 f2 f3,(Tryz.prog.fieldsOf 28).toList=[f1,f2,f3] ∧
   f1.name ≠ "_" ∧ f1.type = 3 ∧ f1.offset = 0 ∧ f2.name ≠ "_" ∧ f2.type = 3 ∧ f2.offset = 1 ∧ f3.name ≠ "_" ∧ f3.type = 3 ∧ f3.offset = 2 := by
  have h:=fieldsM;generalize (Tryz.prog.fieldsOf 28).toList=fs at h;have hl:fs.length=3:=by simpa using congrArg List.length h
  match fs,hl with
  | [f1,f2,f3],_ =>
   simp only [List.map_cons,List.map_nil,List.cons.injEq,Prod.mk.injEq,beq_eq_false_iff_ne,and_true] at h;exact ⟨f1,f2,f3,rfl,h.1.1,h.1.2.1,h.1.2.2,h.2.1.1,h.2.1.2.1,h.2.1.2.2,h.2.2.1,h.2.2.2.1,h.2.2.2.2⟩
 have i8:∀ a b:Int,(Op.equalIn 9999 3 (.int .i64 a) (.int .i64 b)).run Tryz.prog w=.ok (a == b) w:=fun a b=>run_equalIn_int w 9998 _ _ _ a b Tryz.underlying3
 have a1:=run_part_m a 0 (x:=a.f) rfl w;have a2:=run_part_m a 1 (x:=a.t) rfl w;have a3:=run_part_m a 2 (x:=a.p) rfl w;have b1:=run_part_m b 0 (x:=b.f) rfl w;have b2:=run_part_m b 1 (x:=b.t) rfl w;have b3:=run_part_m b 2 (x:=b.p) rfl w;rw [hf];unfold beqM;rw [Op.eqFields,if_pos n1];simp only [Sem.run_bind,t1,o1,a1,b1,Result.andThen_ok,i8]
 cases a.f == b.f
 ·simp
 ·simp only [Bool.not_true,Bool.false_eq_true,if_false,Bool.true_and]
  rw [Op.eqFields,if_pos n2];simp only [Sem.run_bind,t2,o2,a2,b2,Result.andThen_ok,i8]
  cases a.t == b.t
  ·simp
  ·simp only [Bool.not_true,Bool.false_eq_true,if_false,Bool.true_and]
   rw [Op.eqFields,if_pos n3];simp only [Sem.run_bind,t3,o3,a3,b3,Result.andThen_ok,i8]
   cases a.p == b.p
   ·simp
   ·simp [Op.eqFields]
theorem run_eql_mv (a b:Mv) (w:World):(binOp .eql 28 (.agg (ml a).toArray) (.agg (ml b).toArray)).run Tryz.prog w=.ok (.bool (beqM a b)) w:=by
 simp only [binOp,Sem.run_bind,Op.equal,Op.maxDepth,run_equal_mv,Result.andThen_ok,Sem.run_pure]
def cmpI (x y:Int):Int:=if x<y then -1 else if y<x then 1 else 0
theorem nan_is (x:Int) (w:World):Calls Tryz.prog 204 #[.int .i64 x] w fun e w'=>e=.returned (.bool false)∧w=w':=by
 go_enter Tryz.func204,Tryz.ntmps204;go_wp2;go_ret;exact ⟨by simp,rfl⟩
def orI (l:List Int):Int:=if l.getD 0 0≠0 then l.getD 0 0 else if l.getD 1 0≠0 then l.getD 1 0 else if l.getD 2 0≠0 then l.getD 2 0 else 0
theorem or_at {l:List Int} {k:Nat} (hk:k<3) (h:l.getD k 0≠0) (hn:∀ j,j<k→l.getD j 0=0):orI l=l.getD k 0:=by
 unfold orI;have:k=0∨k=1∨k=2:=by omega
 rcases this with rfl|rfl|rfl
 ·rw [if_pos h]
 ·rw [if_neg (by rw [hn 0 (by omega)];simp),if_pos h]
 ·rw [if_neg (by rw [hn 0 (by omega)];simp),if_neg (by rw [hn 1 (by omega)];simp),if_pos h]
theorem or_none {l:List Int} (hn:∀ j,j<3→l.getD j 0=0):orI l=0:=by
 unfold orI;rw [if_neg (by rw [hn 0 (by omega)];simp),if_neg (by rw [hn 1 (by omega)];simp),if_neg (by rw [hn 2 (by omega)];simp)]
def lessB (a b:Mv):Bool:=if a.f≠b.f then decide (a.f<b.f) else if a.t≠b.t then decide (a.t<b.t) else decide (b.p<a.p)
theorem or_less (a b:Mv):decide (orI [cmpI a.f b.f,cmpI a.t b.t,cmpI b.p a.p]<0)=lessB a b:=by
 unfold orI lessB cmpI;simp only [List.getD_cons_zero,List.getD_cons_succ];by_cases f1:a.f<b.f
 ·have:a.f≠b.f:=by omega
  simp [f1,this]
 ·by_cases f2:b.f<a.f
  ·have:a.f≠b.f:=by omega
   simp [f1,f2,this]
  ·have:a.f=b.f:=by omega
   by_cases t1:a.t<b.t
   ·have:a.t≠b.t:=by omega
    simp [*]
   ·by_cases t2:b.t<a.t
    ·have:a.t≠b.t:=by omega
     simp [*]
    ·have:a.t=b.t:=by omega
     by_cases p1:b.p<a.p
     ·simp [*]
     ·by_cases p2:a.p<b.p <;> simp [*]
theorem Qaj (a b:Mv):lessB a b=true↔a.f<b.f∨(a.f=b.f∧(a.t<b.t∨(a.t=b.t∧b.p<a.p))):=by
 unfold lessB;split
 ·simp only [decide_eq_true_eq];omega
 ·split
  ·simp only [decide_eq_true_eq];omega
  ·simp only [decide_eq_true_eq];omega
theorem less_not {a b:Mv} (h:lessB a b=true):lessB b a=false∧beqM a b=false:=by
 have h1:=(Qaj a b).1 h;constructor
 ·rw [Bool.eq_false_iff];intro h2;have:=(Qaj b a).1 h2;omega
 ·rw [Bool.eq_false_iff];intro h2;rw [beqM_iff] at h2;rw [h2] at h1;omega
theorem less_eq {a b:Mv} (h:lessB a b=false) (h':lessB b a=false):beqM a b=true:=by
 have h1:¬ _:=fun x=>Bool.false_ne_true (h.symm.trans ((Qaj a b).2 x))
 have h2:¬ _:=fun x=>Bool.false_ne_true (h'.symm.trans ((Qaj b a).2 x))
 obtain ⟨f,t,p⟩:=a;obtain ⟨f',t',p'⟩:=b;simp only [beqM,Bool.and_eq_true,beq_iff_eq];dsimp only at h1 h2;omega
theorem less_trans {a b c:Mv} (h1:lessB a b=true) (h2:lessB b c=true):lessB a c=true:=by
 have a1:=(Qaj a b).1 h1;have a2:=(Qaj b c).1 h2;exact (Qaj a c).2 (by omega)
end Go.Proofs.YtlpeiolgcaddjaaGreatDoor
