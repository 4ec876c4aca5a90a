/- MvH: my texts, in their order. -/
import Derived.Test.YtfekipadkenhpaaGreatDoorPkA
import Derived.Test.YtfekipadkenhpaaGreatDoorPkB
import Derived.Test.YtfekipadkenhpaaGreatDoorPkC
import Derived.Test.YtfekipadkenhpaaGreatDoorPkD
import Derived.Test.YtfekipadkenhpaaGreatDoorPkE
import Derived.Test.YtfekipadkenhpaaGreatDoorPkF
import Derived.Test.YtfekipadkenhpaaGreatDoorPkH
import Derived.Test.YtfekipadkenhpaaGreatDoorPkI
import Derived.Test.YtfekipadkenhpaaGreatDoorPkJ
import Derived.Test.YtfekipadkenhpaaGreatDoorPkK
import Derived.Test.YtfekipadkenhpaaGreatDoorPkL
import Derived.Test.YtfekipadkenhpaaGreatDoorPkM
namespace Go.Proofs.YtfekipadkenhpaaGreatDoor
open Go.RowKit
set_option linter.unusedVariables false
set_option linter.unusedSimpArgs false
set_option maxRecDepth 100000
theorem beqM_refl (a : Mv) : beqM a a = true := by simp [beqM]
theorem fieldsM : (Tryz.prog.fieldsOf 36).toList.map (fun f => (f.name == "_", f.type, f.offset)) = [(false, 3, 0), (false, 3, 1), (false, 3, 2)] := by kernel_rfl
theorem stoodM : Tryz.prog.stoodInHeld 36 = false := by kernel_rfl
theorem eqGuardM : Tryz.prog.eqGuardType Tryz.prog.depth 36 = false := by kernel_rfl
theorem run_part_m (a : Mv) (k : Nat) {x : Int} (hk : (ml a)[k]? = some (.int .i64 x)) (w : World) : (part 3 (ml a).toArray k).run Tryz.prog w = .ok (.int .i64 x) w := by
 simp [part, isAgg, run_underlying Tryz.underlying3, hk]
theorem run_equal_mv (a b : Mv) (w : World) : (Op.equalIn 10000 36 (.agg (ml a).toArray) (.agg (ml b).toArray)).run Tryz.prog w = .ok (beqM a b) w := by
 have hu : Tryz.prog.underlying 36 = some (.struct (Tryz.prog.fieldsOf 36)) := by kernel_rfl
 rw [run_equalIn_struct w 9999 _ _ _ hu stoodM]
 obtain ⟨f1, f2, f3, hf, n1, t1, o1, n2, t2, o2, n3, t3, o3⟩ : ∃ f1 f2 f3, (Tryz.prog.fieldsOf 36).toList = [f1, f2, f3] ∧
   f1.name ≠ "_" ∧ f1.type = 3 ∧ f1.offset = 0 ∧ f2.name ≠ "_" ∧ f2.type = 3 ∧ f2.offset = 1 ∧ f3.name ≠ "_" ∧ f3.type = 3 ∧ f3.offset = 2 := by
  have h := fieldsM
  generalize (Tryz.prog.fieldsOf 36).toList = fs at h
  have hl : fs.length = 3 := by simpa using congrArg List.length h
  match fs, hl with
  | [f1, f2, f3], _ =>
   simp only [List.map_cons, List.map_nil, List.cons.injEq, Prod.mk.injEq, beq_eq_false_iff_ne, and_true] at h
   exact ⟨f1, f2, f3, rfl, h.1.1, h.1.2.1, h.1.2.2, h.2.1.1, h.2.1.2.1, h.2.1.2.2, h.2.2.1, h.2.2.2.1, h.2.2.2.2⟩
 have i8 : ∀ a b : Int, (Op.equalIn 9999 3 (.int .i64 a) (.int .i64 b)).run Tryz.prog w = .ok (a == b) w := fun a b => run_equalIn_int w 9998 _ _ _ a b Tryz.underlying3
 have a1 := run_part_m a 0 (x := a.f) rfl w
 have a2 := run_part_m a 1 (x := a.t) rfl w
 have a3 := run_part_m a 2 (x := a.p) rfl w
 have b1 := run_part_m b 0 (x := b.f) rfl w
 have b2 := run_part_m b 1 (x := b.t) rfl w
 have b3 := run_part_m b 2 (x := b.p) rfl w
 rw [hf]
 unfold beqM
 rw [Op.eqFields, if_pos n1]
 simp only [Sem.run_bind, t1, o1, a1, b1, Result.andThen_ok, i8]
 cases a.f == b.f
 ·simp
 ·simp only [Bool.not_true, Bool.false_eq_true, if_false, Bool.true_and]
  rw [Op.eqFields, if_pos n2]
  simp only [Sem.run_bind, t2, o2, a2, b2, Result.andThen_ok, i8]
  cases a.t == b.t
  ·simp
  ·simp only [Bool.not_true, Bool.false_eq_true, if_false, Bool.true_and]
   rw [Op.eqFields, if_pos n3]
   simp only [Sem.run_bind, t3, o3, a3, b3, Result.andThen_ok, i8]
   cases a.p == b.p
   ·simp
   ·simp [Op.eqFields]
end Go.Proofs.YtfekipadkenhpaaGreatDoor
