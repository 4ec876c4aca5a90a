/- Steps compared, stored, loaded. -/
import Derived.Test.YtnlgjakohoimhaaDoorLxK
import Derived.Deep.MidRow
namespace Go.Proofs.YtnlgjakohoimhaaDoor
open Go.ChangeShapes Go.WideShapes Go.ChangeAt Go.RowKit
open Go.Deep
set_option linter.unusedVariables false
set_option linter.unusedSimpArgs false
set_option maxRecDepth 100000
set_option maxHeartbeats 4000000
/-! ### steps compared -/
theorem fieldsS : (Tryd.prog.fieldsOf 27).toList.map (fun f => (f.name == "_", f.type, f.offset)) = [(false, 3, 0), (false, 3, 1), (false, 25, 2)] := by kernel_rfl
theorem stoodS : Tryd.prog.stoodInHeld 27 = false := by kernel_rfl
theorem eqGuardS : Tryd.prog.eqGuardType Tryd.prog.depth 27 = false := by kernel_rfl
theorem run_part_s (a : Sp) (T : TypeId) (hT : Tryd.prog.underlying T = some (.int .i64)) (k : Nat) {x : Int} (hk : (sl a)[k]? = some (.int .i64 x)) (w : World) : (part T (sl a).toArray k).run Tryd.prog w = .ok (.int .i64 x) w := by
  simp [part, isAgg, run_underlying hT, hk]
theorem run_equal_sp (a : Sp) (w : World) : (Op.equalIn 10000 27 (.agg (sl a).toArray) (.agg (sl a).toArray)).run Tryd.prog w = .ok true w := by
  have hu : Tryd.prog.underlying 27 = some (.struct (Tryd.prog.fieldsOf 27)) := by kernel_rfl
  rw [run_equalIn_struct w 9999 _ _ _ hu stoodS]
  obtain ⟨f1, f2, f3, hf, n1, t1, o1, n2, t2, o2, n3, t3, o3⟩ : ∃ f1 f2 f3, (Tryd.prog.fieldsOf 27).toList = [f1, f2, f3] ∧
      f1.name ≠ "_" ∧ f1.type = 3 ∧ f1.offset = 0 ∧ f2.name ≠ "_" ∧ f2.type = 3 ∧ f2.offset = 1 ∧ f3.name ≠ "_" ∧ f3.type = 25 ∧ f3.offset = 2 := by
    have h := fieldsS
    generalize (Tryd.prog.fieldsOf 27).toList = fs at h
    have hl : fs.length = 3 := by simpa using congrArg List.length h
    match fs, hl with
    | [f1, f2, f3], _ =>
      simp only [List.map_cons, List.map_nil, List.cons.injEq, Prod.mk.injEq, beq_eq_false_iff_ne, and_true] at h
      exact ⟨f1, f2, f3, rfl, h.1.1, h.1.2.1, h.1.2.2, h.2.1.1, h.2.1.2.1, h.2.1.2.2, h.2.2.1, h.2.2.2.1, h.2.2.2.2⟩
  have i8 : ∀ a b : Int, (Op.equalIn 9999 3 (.int .i64 a) (.int .i64 b)).run Tryd.prog w = .ok (a == b) w := fun a b => run_equalIn_int w 9998 _ _ _ a b Tryd.underlying3
  have e8 : ∀ a b : Int, (Op.equalIn 9999 25 (.int .i64 a) (.int .i64 b)).run Tryd.prog w = .ok (a == b) w := fun a b => run_equalIn_int w 9998 _ _ _ a b Tryd.underlying25
  have a1 := run_part_s a _ Tryd.underlying3 0 (x := a.a) rfl w
  have a2 := run_part_s a _ Tryd.underlying3 1 (x := a.n) rfl w
  have a3 := run_part_s a _ Tryd.underlying25 2 (x := a.e) rfl w
  rw [hf]
  rw [Op.eqFields, if_pos n1]
  simp only [Sem.run_bind, t1, o1, a1, Result.andThen_ok, i8, beq_self_eq_true, Bool.not_true, Bool.false_eq_true, if_false]
  rw [Op.eqFields, if_pos n2]
  simp only [Sem.run_bind, t2, o2, a2, Result.andThen_ok, i8, beq_self_eq_true, Bool.not_true, Bool.false_eq_true, if_false]
  rw [Op.eqFields, if_pos n3]
  simp only [Sem.run_bind, t3, o3, a3, Result.andThen_ok, e8, beq_self_eq_true, Bool.not_true, Bool.false_eq_true, if_false]
  simp [Op.eqFields]
theorem run_eql_sp (a : Sp) (w : World) : (binOp .eql 27 (.agg (sl a).toArray) (.agg (sl a).toArray)).run Tryd.prog w = .ok (.bool true) w := by
  simp only [binOp, Sem.run_bind, Op.equal, Op.maxDepth, run_equal_sp, Result.andThen_ok, Sem.run_pure]
theorem run_neq_sp (a : Sp) (w : World) : (binOp .neq 27 (.agg (sl a).toArray) (.agg (sl a).toArray)).run Tryd.prog w = .ok (.bool false) w := by
  simp only [binOp, Sem.run_bind, Op.equal, Op.maxDepth, run_equal_sp, Result.andThen_ok, Sem.run_pure, Bool.not_true]
theorem take_eql_sp {ops : Array Oper} {S : World → Prop} {op : Oper} {ac : Act} (hw : Region.wanted op (yielded ops ac.tmps) = true) (x y : Operand) (ty : TypeId) (ho : op.op = .binOp .eql 27 x y ty)
    (p q : Sp) (hx : ac.eval x = sv p) (hy : ac.eval y = sv q) (h : p = q) : YieldsIf Tryd.prog ops S op (.bool true) ac := by
  subst h
  refine .inl ⟨hw, fun w _ => ?_⟩
  unfold execOp
  simp only [ho, hx, hy, Sem.run_bind, sv_sl, run_eqGuard_agg w _ _ _ _ _ _ eqGuardS, run_eql_sp, Result.andThen_ok, Sem.run_pure]
theorem take_neq_sp {ops : Array Oper} {S : World → Prop} {op : Oper} {ac : Act} (hw : Region.wanted op (yielded ops ac.tmps) = true) (x y : Operand) (ty : TypeId) (ho : op.op = .binOp .neq 27 x y ty)
    (p q : Sp) (hx : ac.eval x = sv p) (hy : ac.eval y = sv q) (h : p = q) : YieldsIf Tryd.prog ops S op (.bool false) ac := by
  subst h
  refine .inl ⟨hw, fun w _ => ?_⟩
  unfold execOp
  simp only [ho, hx, hy, Sem.run_bind, sv_sl, run_eqGuard_agg w _ _ _ _ _ _ eqGuardS, run_neq_sp, Result.andThen_ok, Sem.run_pure]
theorem wpList_eql_sp {ops : Array Oper} {rest : List Oper} {o : Oper} {a : Act} {w : World} {Q : Exit → Act → World → Prop} (hw : Region.wanted o (yielded ops a.tmps) = true) (x y : Operand) (ty : TypeId) (ho : o.op = .binOp .eql 27 x y ty)
    (p : Sp) (hx : a.eval x = sv p) (hy : a.eval y = sv p)
    (hk : wpList Tryd.prog ops Q rest (a.put o.dst (.bool true)) w) : wpList Tryd.prog ops Q (o :: rest) a w :=
  wpList_step fun _ hK => by
    rw [if_pos hw]
    unfold Oper.wp execOp
    simp only [ho, hx, hy, Sem.run_bind, sv_sl, run_eqGuard_agg w _ _ _ _ _ _ eqGuardS, run_eql_sp, Result.andThen_ok, Sem.run_pure, Oper.upon_value]
    exact hK _ _ hk
theorem wpList_bt_sew {ops : Array Oper} {rest : List Oper} {o : Oper} {a : Act} {w : World} {Q : Exit → Act → World → Prop} (hw : Region.wanted o (yielded ops a.tmps) = true) (x0 x1 : Operand) (ho : o.op = .build 27 #[(0, x0), (2, x1)]) (i n : Int) (h0 : a.eval x0 = .int .i64 i) (h1 : a.eval x1 = .int .i64 n)
    (h : wpList Tryd.prog ops Q rest (a.put o.dst (sv ⟨i, 0, n⟩)) w) : wpList Tryd.prog ops Q (o :: rest) a w :=
  wpList_step fun _ hK => by
    rw [if_pos hw]
    have hf : Tryd.prog.built 27 ((#[(0, x0), (2, x1)] : Array (Nat × Operand)).map fun (i, x) => (i, a.eval x)).toList = some (sl ⟨i, 0, n⟩).toArray := by
      have : ((#[(0, x0), (2, x1)] : Array (Nat × Operand)).map fun (i, x) => (i, a.eval x)).toList = [(0, .int .i64 i), (2, .int .i64 n)] := by simp [h0, h1]
      rw [this]; exact bt_se i n
    exact wp_build _ _ ho (by rw [hf]; rfl) (by rw [hf]; exact hK _ _ h)
theorem wpList_store_newsp {ops : Array Oper} {rest : List Oper} {o : Oper} {a : Act} {w : World} {Q : Exit → Act → World → Prop} (hgd : o.guard = none) (x y : Operand) (ho : o.op = .store 27 x y)
    (j k : Sp) (hx : a.eval x = .pointer (some ⟨w.heap.size, 0, none⟩)) (hy : a.eval y = sv k)
    (h : wpList Tryd.prog ops Q rest (a.put o.dst undef) (w.alloc (.cells (sl k).toArray 27))) : wpList Tryd.prog ops Q (o :: rest) a (w.alloc (.cells (sl j).toArray 27)) := by
  refine wpList_store_row hgd 27 x y ho w.heap.size (sl k).toArray hx hy 27 _ (heap_alloc_new w _) (sl_sz k) rfl (sl_one _) ?_
  rw [World.setRow_alloc_new]
  exact h
theorem wpList_load_sp {ops : Array Oper} {rest : List Oper} {op : Oper} {a : Act} {w : World} {Q : Exit → Act → World → Prop} (hw : Region.wanted op (yielded ops a.tmps) = true) (x : Operand) (ho : op.op = .load 27 x)
    (g off : Nat) (hx : a.eval x = .pointer (some ⟨g, off, none⟩)) (y : Sp) (hc : w.rangeAt g off (sl y))
    (h : wpList Tryd.prog ops Q rest (a.put op.dst (sv y)) w) : wpList Tryd.prog ops Q (op :: rest) a w :=
  wpList_step fun _ hK => by
    rw [if_pos hw]
    exact wp_load_mid 27 x ho g off hx (sl y) _ hc Tryd.underlying27 rfl sizeS (hK _ _ h)
theorem take_load_sp {ops : Array Oper} {S : World → Prop} {op : Oper} {a : Act} (hw : Region.wanted op (yielded ops a.tmps) = true) (x : Operand) (ho : op.op = .load 27 x)
    (g off : Nat) (hx : a.eval x = .pointer (some ⟨g, off, none⟩)) (y : Sp) (hS : ∀ w, S w → w.rangeAt g off (sl y)) : YieldsIf Tryd.prog ops S op (sv y) a :=
  yieldsIf_load_mid hw 27 x ho g off hx (sl y) _ hS Tryd.underlying27 rfl sizeS
theorem SAt.range {w : World} {g : Nat} {x : Sp} (h : SAt w g x) : w.rangeAt g 0 (sl x) := by
  intro j v hv
  rw [Nat.zero_add, cell_of_row _ _ j _ _ (0, 0) h.at_]
  simpa using hv
theorem SAt.err {w : World} {g : Nat} {x : Sp} (h : SAt w g x) : w.cell? ⟨g, 2, none⟩ = some (.int .i64 x.e) := by
  rw [cell_of_row _ _ 2 _ _ (0, 0) h.at_]; rfl
theorem run_field_sp (x : Sp) (w : World) : (Instr.field 27 (sv x) 2).run Tryd.prog w = .ok (.int .i64 x.e) w := by
  rw [sv_sl]
  simp only [Instr.field, Sem.run_bind, run_underlying Tryd.underlying27, Result.andThen_ok]
  simp [asAgg, part, isAgg, run_underlying Tryd.underlying25, sl]
end Go.Proofs.YtnlgjakohoimhaaDoor
