/- Stipulations compared; Read whole; the example. -/
import Derived.Test.YtnlgjakohoimhaaDoorSiO
namespace Go.Proofs.YtnlgjakohoimhaaDoor
open Go.ChangeShapes Go.WideShapes Go.ChangeAt Go.RowKit
open Go.Deep
set_option linter.unusedVariables false
set_option linter.unusedSimpArgs false
set_option maxRecDepth 100000
set_option maxHeartbeats 4000000

theorem fieldsQ : (Tryd.prog.fieldsOf 24).toList.map (fun f => (f.name == "_", f.type, f.offset)) = [(false, 3, 0), (false, 3, 1), (false, 3, 2), (false, 4, 3)] := by kernel_rfl
theorem stoodQ : Tryd.prog.stoodInHeld 24 = false := by kernel_rfl
theorem eqGuardQ : Tryd.prog.eqGuardType Tryd.prog.depth 24 = false := by kernel_rfl
theorem run_part_q (a : Stp) (T : TypeId) (hT : Tryd.prog.underlying T = some (.int .i64)) (k : Nat) {x : Int} (hk : (ql a)[k]? = some (.int .i64 x)) (w : World) : (part T (ql a).toArray k).run Tryd.prog w = .ok (.int .i64 x) w := by
  simp [part, isAgg, run_underlying hT, hk]
theorem run_part_qb (a : Stp) (w : World) : (part 4 (ql a).toArray 3).run Tryd.prog w = .ok (.bool a.h) w := by
  simp [part, isAgg, run_underlying Tryd.underlying4, ql]
theorem run_equal_q (a : Stp) (w : World) : (Op.equalIn 10000 24 (.agg (ql a).toArray) (.agg (ql a).toArray)).run Tryd.prog w = .ok true w := by
  have hu : Tryd.prog.underlying 24 = some (.struct (Tryd.prog.fieldsOf 24)) := by kernel_rfl
  rw [run_equalIn_struct w 9999 _ _ _ hu stoodQ]
  obtain ⟨f1, f2, f3, f4, hf, n1, t1, o1, n2, t2, o2, n3, t3, o3, n4, t4, o4⟩ : ∃ f1 f2 f3 f4, (Tryd.prog.fieldsOf 24).toList = [f1, f2, f3, f4] ∧
      f1.name ≠ "_" ∧ f1.type = 3 ∧ f1.offset = 0 ∧ f2.name ≠ "_" ∧ f2.type = 3 ∧ f2.offset = 1 ∧ f3.name ≠ "_" ∧ f3.type = 3 ∧ f3.offset = 2 ∧ f4.name ≠ "_" ∧ f4.type = 4 ∧ f4.offset = 3 := by
    have h := fieldsQ
    generalize (Tryd.prog.fieldsOf 24).toList = fs at h
    have hl : fs.length = 4 := by simpa using congrArg List.length h
    match fs, hl with
    | [f1, f2, f3, f4], _ =>
      simp only [List.map_cons, List.map_nil, List.cons.injEq, Prod.mk.injEq, beq_eq_false_iff_ne, and_true] at h
      exact ⟨f1, f2, f3, f4, rfl, h.1.1, h.1.2.1, h.1.2.2, h.2.1.1, h.2.1.2.1, h.2.1.2.2, h.2.2.1.1, h.2.2.1.2.1, h.2.2.1.2.2, h.2.2.2.1, h.2.2.2.2.1, h.2.2.2.2.2⟩
  have i8 : ∀ a b : Int, (Op.equalIn 9999 3 (.int .i64 a) (.int .i64 b)).run Tryd.prog w = .ok (a == b) w := fun a b => run_equalIn_int w 9998 _ _ _ a b Tryd.underlying3
  have b8 : ∀ a b : Bool, (Op.equalIn 9999 4 (.bool a) (.bool b)).run Tryd.prog w = .ok (a == b) w := fun a b => run_equalIn_bool' w 9998 _ a b Tryd.underlying4
  have a1 := run_part_q a _ Tryd.underlying3 0 (x := a.k) rfl w
  have a2 := run_part_q a _ Tryd.underlying3 1 (x := a.g) rfl w
  have a3 := run_part_q a _ Tryd.underlying3 2 (x := a.n) rfl w
  have a4 := run_part_qb a w
  rw [hf]
  rw [Op.eqFields, if_pos n1]
  simp only [Sem.run_bind, t1, o1, a1, Result.andThen_ok, i8, beq_self_eq_true, Bool.not_true, Bool.false_eq_true, if_false]
  rw [Op.eqFields, if_pos n2]
  simp only [Sem.run_bind, t2, o2, a2, Result.andThen_ok, i8, beq_self_eq_true, Bool.not_true, Bool.false_eq_true, if_false]
  rw [Op.eqFields, if_pos n3]
  simp only [Sem.run_bind, t3, o3, a3, Result.andThen_ok, i8, beq_self_eq_true, Bool.not_true, Bool.false_eq_true, if_false]
  rw [Op.eqFields, if_pos n4]
  simp only [Sem.run_bind, t4, o4, a4, Result.andThen_ok, b8, beq_self_eq_true, Bool.not_true, Bool.false_eq_true, if_false]
  simp [Op.eqFields]
theorem run_eql_q (a : Stp) (w : World) : (binOp .eql 24 (.agg (ql a).toArray) (.agg (ql a).toArray)).run Tryd.prog w = .ok (.bool true) w := by
  simp only [binOp, Sem.run_bind, Op.equal, Op.maxDepth, run_equal_q, Result.andThen_ok, Sem.run_pure]
theorem take_eql_q {ops : Array Oper} {S : World → Prop} {op : Oper} {ac : Act} (hw : Region.wanted op (yielded ops ac.tmps) = true) (x y : Operand) (ty : TypeId) (ho : op.op = .binOp .eql 24 x y ty)
    (p q : Stp) (hx : ac.eval x = qv p) (hy : ac.eval y = qv q) (h : p = q) : YieldsIf Tryd.prog ops S op (.bool true) ac := by
  subst h
  refine .inl ⟨hw, fun w _ => ?_⟩
  unfold execOp
  simp only [ho, hx, hy, Sem.run_bind, qv_ql, run_eqGuard_agg w _ _ _ _ _ _ eqGuardQ, run_eql_q, Result.andThen_ok, Sem.run_pure]
theorem wpList_eql_q {ops : Array Oper} {rest : List Oper} {o : Oper} {a : Act} {w : World} {Q : Exit → Act → World → Prop} (hw : Region.wanted o (yielded ops a.tmps) = true) (x y : Operand) (ty : TypeId) (ho : o.op = .binOp .eql 24 x y ty)
    (p : Stp) (hx : a.eval x = qv p) (hy : a.eval y = qv p)
    (hk : wpList Tryd.prog ops Q rest (a.put o.dst (.bool true)) w) : wpList Tryd.prog ops Q (o :: rest) a w :=
  wpList_step fun _ hK => by
    rw [if_pos hw]
    unfold Oper.wp execOp
    simp only [ho, hx, hy, Sem.run_bind, qv_ql, run_eqGuard_agg w _ _ _ _ _ _ eqGuardQ, run_eql_q, Result.andThen_ok, Sem.run_pure, Oper.upon_value]
    exact hK _ _ hk
theorem wpList_bt_saw {ops : Array Oper} {rest : List Oper} {o : Oper} {a : Act} {w : World} {Q : Exit → Act → World → Prop} (hw : Region.wanted o (yielded ops a.tmps) = true) (x0 : Operand) (ho : o.op = .build 27 #[(0, x0)]) (i : Int) (h0 : a.eval x0 = .int .i64 i)
    (h : wpList Tryd.prog ops Q rest (a.put o.dst (sv ⟨i, 0, 0⟩)) w) : wpList Tryd.prog ops Q (o :: rest) a w :=
  wpList_step fun _ hK => by
    rw [if_pos hw]
    have hf : Tryd.prog.built 27 ((#[(0, x0)] : Array (Nat × Operand)).map fun (i, x) => (i, a.eval x)).toList = some (sl ⟨i, 0, 0⟩).toArray := by
      have : ((#[(0, x0)] : Array (Nat × Operand)).map fun (i, x) => (i, a.eval x)).toList = [(0, .int .i64 i)] := by simp [h0]
      rw [this]; exact bt_sa i
    exact wp_build _ _ ho (by rw [hf]; rfl) (by rw [hf]; exact hK _ _ h)
theorem wpList_bt_q4 {ops : Array Oper} {rest : List Oper} {o : Oper} {a : Act} {w : World} {Q : Exit → Act → World → Prop} (hg : o.guard = none) (x0 x1 x2 x3 : Operand) (ho : o.op = .build 24 #[(0, x0), (1, x1), (2, x2), (3, x3)]) (i j k : Int) (b : Bool)
    (h0 : a.eval x0 = .int .i64 i) (h1 : a.eval x1 = .int .i64 j) (h2 : a.eval x2 = .int .i64 k) (h3 : a.eval x3 = .bool b)
    (h : wpList Tryd.prog ops Q rest (a.put o.dst (qv ⟨i, j, k, b⟩)) w) : wpList Tryd.prog ops Q (o :: rest) a w :=
  wpList_built hg _ _ ho _ (by
    have : ((#[(0, x0), (1, x1), (2, x2), (3, x3)] : Array (Nat × Operand)).map fun (i, x) => (i, a.eval x)).toList = [(0, .int .i64 i), (1, .int .i64 j), (2, .int .i64 k), (3, .bool b)] := by simp [h0, h1, h2, h3]
    rw [this]; exact bt_q4 i j k b) h
theorem read_is (t : ByteArray) (i : Int) (ht : t.size ≤ 1000) (w : World) (hT : TabS w) : Calls Tryd.prog 8 #[.string t, .int .i64 i] w fun e w' => e = .returned (.tuple #[qv (rdP t i).1, sv (rdP t i).2]) ∧ Kept w w' := by
  by_cases he : (oneP t hdT i).e = 0
  · exact read_good t i ht he w hT
  · exact read_bad t i ht he w hT
/-- What Read told, in two blocks. -/
theorem boxes_q (w : World) : TAt ((w.alloc (.cells (ql Zt).toArray 24)).alloc (.cells (sl Zs).toArray 27)) w.heap.size Zt := (TAt.new w Zt).kept ((Kept.refl _).alloc _)
theorem boxes_s (w : World) (q : Stp) : SAt (((w.alloc (.cells (ql Zt).toArray 24)).alloc (.cells (sl Zs).toArray 27)).setRow w.heap.size (ql q).toArray) (w.alloc (.cells (ql Zt).toArray 24)).heap.size Zs :=
  (SAt.new (w.alloc (.cells (ql Zt).toArray 24)) Zs).rowOther (by rw [World.size_alloc]; omega) _
theorem boxes_2 (w : World) (q : Stp) (y : Sp) :
    TAt ((((w.alloc (.cells (ql Zt).toArray 24)).alloc (.cells (sl Zs).toArray 27)).setRow w.heap.size (ql q).toArray).setRow (w.alloc (.cells (ql Zt).toArray 24)).heap.size (sl y).toArray) w.heap.size q ∧
    SAt ((((w.alloc (.cells (ql Zt).toArray 24)).alloc (.cells (sl Zs).toArray 27)).setRow w.heap.size (ql q).toArray).setRow (w.alloc (.cells (ql Zt).toArray 24)).heap.size (sl y).toArray) (w.alloc (.cells (ql Zt).toArray 24)).heap.size y ∧
    Kept w ((((w.alloc (.cells (ql Zt).toArray 24)).alloc (.cells (sl Zs).toArray 27)).setRow w.heap.size (ql q).toArray).setRow (w.alloc (.cells (ql Zt).toArray 24)).heap.size (sl y).toArray) :=
  ⟨((boxes_q w).row q).rowOther (by rw [World.size_alloc]; omega) _, (boxes_s w q).row y, ((((Kept.refl w).alloc _).alloc _).setRow (by omega) _).setRow (by rw [World.size_alloc]; omega) _⟩
def t25 : ByteArray := ⟨#[104, 35, 50, 46, 53]⟩
def q25 : Stp := ⟨5, 1, 2, true⟩
def s25 : Sp := ⟨5, 0, 0⟩
theorem rd_25 : rdP t25 0 = (q25, s25) := by
  unfold rdP
  rw [show (0 : Int) = ((0 : Nat) : Int) from rfl, oneP_yes (by decide) hd_apart]
  kernel_rfl
theorem stip_wakes (w : World) (hT : TabS w) : Calls Tryd.prog 7 #[] w fun e w' => e = .returned (.bool true) ∧ Kept w w' := by
  have HT := Lib.hid hT
  have HRd := Lib.hid (fun w hT => read_is t25 0 (by decide) w hT)
  rw [rd_25] at HRd
  have HBg := Lib.hid (begins_q q25)
  have HPl := Lib.hid (plies_q q25)
  rw [show begI q25 = 0 by decide] at HBg
  rw [show plyI q25 = 5 by decide] at HPl
  clear hT
  go_enter Tryd.func7, Tryd.ntmps7
  go_wp2_with fail
  refine (HRd.out _ HT.out).mono ?_
  rintro e w1 ⟨rfl, k1⟩
  dsimp only
  obtain ⟨hq, hs, hk⟩ := boxes_2 w1 q25 s25
  have HQ := Lib.hid hq
  have HS := Lib.hid hs
  have HK := Lib.hid (k1.trans hk)
  have HB1 := Lib.hid (boxes_q w1)
  have HB2 := Lib.hid (boxes_s w1 q25)
  clear k1 hq hs hk
  go_upto_region 2 with (first | (with_reducible refine wpList_new_q rfl rfl ?_) | (with_reducible refine wpList_new_sp rfl rfl ?_) | ((with_reducible refine wpList_store_q rfl _ _ rfl w1.heap.size Zt q25 HB1.out ?_ ?_ ?_); exact rfl; exact rfl) | (refine wpList_store_sp rfl _ _ rfl (w1.alloc (.cells (ql Zt).toArray 24)).heap.size Zs s25 HB2.out rfl rfl ?_))
  generalize (((w1.alloc (.cells (ql Zt).toArray 24)).alloc (.cells (sl Zs).toArray 27)).setRow w1.heap.size (ql q25).toArray).setRow (w1.alloc (.cells (ql Zt).toArray 24)).heap.size (sl s25).toArray = X at *
  generalize (w1.alloc (.cells (ql Zt).toArray 24)).heap.size = gs at *
  generalize w1.heap.size = gq at *
  clear HB1 HB2
  go_wp2_with (first | ((with_reducible refine wpList_load_q rfl _ rfl gq 0 ?_ q25 HQ.out.range ?_); exact rfl) | (refine wpList_bt_q4 rfl _ _ _ _ rfl 5 1 2 true rfl rfl rfl rfl ?_) | (refine wpList_eql_q (by rfl) _ _ _ rfl q25 rfl rfl ?_) | ((with_reducible refine wpList_load_sp rfl _ rfl gs 0 ?_ s25 HS.out.range ?_); exact rfl) | (refine wpList_bt_saw (by rfl) _ rfl 5 rfl ?_) | (refine wpList_eql_sp (by rfl) _ _ _ rfl s25 rfl rfl ?_))
  refine (HBg.out _).mono ?_
  rintro e w3 ⟨rfl, k3⟩
  have HQ3 := Lib.hid (HQ.out.kept k3)
  have HK3 := Lib.hid (HK.out.trans k3)
  clear k3
  go_wp2_with ((with_reducible refine wpList_load_q rfl _ rfl gq 0 ?_ q25 HQ3.out.range ?_); exact rfl)
  refine (HPl.out _).mono ?_
  rintro e w4 ⟨rfl, k4⟩
  have HK4 := Lib.hid (HK3.out.trans k4)
  clear k4
  go_wp2
  go_ret
  exact ⟨rfl, HK4.out⟩
end Go.Proofs.YtnlgjakohoimhaaDoor
