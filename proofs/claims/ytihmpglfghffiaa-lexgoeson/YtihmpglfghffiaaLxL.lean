/- Arguments opened; steps compared; wakes; the laws of numbers and squares. -/
import Derived.Test.YtihmpglfghffiaaLxK
import Derived.Test.YtihmpglfghffiaaLxG
import Derived.Test.YtihmpglfghffiaaLxH
import Derived.Deep.MidRow
namespace Go.Proofs.Ytihmpglfghffiaa
open Go.ChangeShapes Go.WideShapes Go.ChangeAt Go.RowKit
open Go.Deep
set_option linter.unusedVariables false
set_option linter.unusedSimpArgs false
set_option maxRecDepth 100000
set_option maxHeartbeats 4000000

theorem cellsStr : Try.prog.cellsOf 9 = 1 := by kernel_rfl
theorem cellsI1 : Try.prog.cellsOf 3 = 1 := by kernel_rfl
theorem cellsTwo : Try.prog.cellsOf 30 = 2 := by kernel_rfl
section
variable {H : Type} {enc : TypeId × Value → H}
theorem open_texts {W : World} {r : Reach} {b0 : Nat} {v : Value} {d : DataW H} {q : List MemPlace}
    (hv : Value.okWide Try.prog W r b0 22 v) (h : DataW.Trod enc Try.prog W 0 (fun _ => true) true 22 v d q) :
    ∃ (L : List ByteArray), LsT W v L ∧ ∀ W', Kept W W' → DataW.Trod enc Try.prog W' 0 (fun b => decide (b < W.heap.size)) true 22 v d q := by
  obtain ⟨fuel, hf⟩ := h
  obtain ⟨a0, len0, cap0, rfl⟩ := okWide_slice Try.underlying22 hv
  have hc : (Value.slice a0 len0 cap0).cells.toList = [.slice a0 len0 cap0] := rfl
  rw [hc] at hf
  rcases open_slice1 Try.underlying22 cellsStr hf with ⟨e, hx⟩ | ⟨a, len, cap, m, n, V, D, Pl, hcs, hb, hl, hm, hmm, hx, hi⟩
  · have e' : Value.slice a0 len0 cap0 = .slice none 0 0 := by simpa using e
    rw [e']
    simp only [Prod.mk.injEq] at hx
    rw [hx.1, hx.2]
    exact ⟨[], .inl ⟨rfl, rfl⟩, fun W' _ => shut_slice_nil Try.underlying22⟩
  · have e' : Value.slice a0 len0 cap0 = .slice (some a) len cap := by simpa using hcs
    rw [e'] at hv ⊢
    have hmc : m = cap := by simpa using hmm
    rw [hmc] at hx hi
    have hsp : a.spot = none ∧ a.block < W.heap.size := by
      have hv' : Cell.okWide Try.prog W r b0 22 (.slice (some a) len cap) := by simpa [Value.okWide, Try.underlying22] using hv
      have hv2 : Cell.ok Try.prog W r b0 22 (.slice (some a) len cap) := by simpa [Cell.okWide, Try.underlying22] using hv'
      have hv3 : len ≤ cap ∧ (cap : Int) ≤ IntKind.i64.max ∧ W.has Try.prog r b0 a 9 cap := by simpa [Cell.ok, Try.underlying22] using hv2
      obtain ⟨_, _, _, h1, row, cells, h2, _⟩ := hv3
      refine ⟨h1, ?_⟩
      unfold World.shape? at h2
      rcases Nat.lt_or_ge a.block W.heap.size with h | h
      · exact h
      · rw [Array.getElem?_eq_none h] at h2
        cases h2
    obtain ⟨g, off, sp⟩ := a
    obtain ⟨rfl, hgl⟩ := hsp
    have hadd : ∀ k, (⟨g, off, none⟩ : Addr).add k = ⟨g, off + k, none⟩ := fun k => by unfold Addr.add; split <;> simp_all
    have each : ∀ i, i < cap → ∃ s : ByteArray, W.cell? ⟨g, off + i, none⟩ = some (.string s) ∧ V i = .string s ∧ s.size ≤ maxLen ∧ D i = .lit (.string s.data.toList) ∧ Pl i = [] := by
      intro i hic
      obtain ⟨h1, h2⟩ := hi i hic
      obtain ⟨s, e1, e2, e3⟩ := DataW.trod_string Try.underlying9 h2
      have e4 : V i = .string s := by simpa using e1
      simp only [Prod.mk.injEq] at e2
      rw [hadd] at h1
      exact ⟨s, by rw [h1, e4], e4, e3, e2.1, e2.2⟩
    haveI : Inhabited ByteArray := ⟨⟨#[]⟩⟩
    obtain ⟨M, hM⟩ := choose_lt (α := ByteArray) (p := fun i s => W.cell? ⟨g, off + i, none⟩ = some (.string s) ∧ V i = .string s ∧ s.size ≤ maxLen ∧ D i = .lit (.string s.data.toList) ∧ Pl i = []) each
    refine ⟨(List.range len).map M, .inr ⟨g, off, cap, by simp, by simpa using hgl, by simpa using hl, fun j u hu => ?_⟩, fun W' k => ?_⟩
    · have hjl : j < len := by have := (List.getElem?_eq_some_iff.1 hu).1; simpa using this
      have hat : ((List.range len).map M)[j]? = some (M j) := by simp [hjl]
      rw [hat] at hu
      obtain rfl := Option.some.inj hu
      exact (hM j (by omega)).1
    · simp only [Prod.mk.injEq] at hx
      rw [hx.1, hx.2]
      exact shut_slice_whole1 (enc := enc) (P := Try.prog) (w := W') (base := 0) (spare := fun b => decide (b < W.heap.size)) (held := true) Try.underlying22 cellsStr (Nat.zero_le _) hl hm (by simpa using hgl) (fun i => .string (M i)) D Pl
        (fun i hic => kept_cell k (hM i hic).1) (fun i hic => by
          obtain ⟨h1, h2, h3, h4, h5⟩ := hM i hic
          rw [h4, h5]
          exact shut_string_cell Try.underlying9 h3)
/-- Two integers that come as an array. -/
def d2 (H : Type) (x y : Int) : DataW H := .agg [.lit (.int .i64 x), .lit (.int .i64 y)]
theorem open_two {W : World} {base : Nat} {r : Reach} {b0 : Nat} {sp : Nat → Bool} {hd : Bool} {v : Value} {d : DataW H} {p : List MemPlace}
    (hv : Value.okWide Try.prog W r b0 30 v) (h : DataW.Trod enc Try.prog W base sp hd 30 v d p) :
    ∃ x y : Int, ((Lit.int .i64 x).wf = true ∧ (Lit.int .i64 y).wf = true) ∧ v = .agg #[.int .i64 x, .int .i64 y] ∧ d = d2 H x y ∧ p = [] := by
  obtain ⟨cs, rfl, hsz, _⟩ : ∃ cs, v = .agg cs ∧ cs.size = Try.prog.cellsOf 30 ∧ Row.okWide Try.prog W r b0 30 cs := by
    simpa [Value.okWide, Try.underlying30] using hv
  obtain ⟨fuel, hf⟩ := h
  obtain ⟨xs, m, rfl, hx, hl, hn, hi⟩ := DataW.trod_array Try.underlying30 hf
  obtain ⟨l⟩ := cs
  have hl2 : l.length = 2 := by simpa [Value.cells, cellsTwo] using hl
  match l, hl2 with
  | [u0, u1], _ =>
    have h0 := hi 0 (by omega)
    have h1 := hi 1 (by omega)
    rw [cellsI1] at h0 h1
    match xs, hn with
    | [y0, y1], _ =>
      obtain ⟨x, e0, e1, w0⟩ := DataW.trod_int Try.underlying3 (x := y0) (by simpa [Value.cells] using h0)
      obtain ⟨y, f0, f1, w1⟩ := DataW.trod_int Try.underlying3 (x := y1) (by simpa [Value.cells] using h1)
      have g0 : u0 = .int .i64 x := by simpa using e0
      have g1 : u1 = .int .i64 y := by simpa using f0
      refine ⟨x, y, ⟨w0, w1⟩, by rw [g0, g1], ?_, ?_⟩
      · simp only [Prod.mk.injEq] at hx
        rw [hx.1, e1, f1]; rfl
      · simp only [Prod.mk.injEq] at hx
        rw [hx.2, e1, f1]; rfl
theorem shut_two {W : World} {base : Nat} {sp : Nat → Bool} {hd : Bool} (x y : Int) (w : (Lit.int .i64 x).wf = true ∧ (Lit.int .i64 y).wf = true) : DataW.Trod enc Try.prog W base sp hd 30 (.agg #[.int .i64 x, .int .i64 y]) (d2 H x y) [] := by
  refine ⟨2, ?_⟩
  have hc : (Value.agg #[.int .i64 x, .int .i64 y]).cells.toList = [.int .i64 x, .int .i64 y] := rfl
  rw [hc]
  have one : ∀ z : Int, (Lit.int .i64 z).wf = true → DataW.trod enc Try.prog W base sp hd 1 3 [.int .i64 z] = some ((DataW.lit (.int .i64 z), []) : DataW H × List MemPlace) := by
    intro z hz
    unfold DataW.trod
    rw [Try.underlying3]
    simp only [hz, and_self, if_true]
  unfold DataW.trod
  rw [Try.underlying30]
  simp [cellsTwo, cellsI1, List.range, List.range.loop, one x w.1, one y w.2, d2]
end
/-! ### steps compared -/
theorem fieldsS : (Try.prog.fieldsOf 26).toList.map (fun f => (f.name == "_", f.type, f.offset)) = [(false, 3, 0), (false, 3, 1), (false, 24, 2)] := by kernel_rfl
theorem stoodS : Try.prog.stoodInHeld 26 = false := by kernel_rfl
theorem eqGuardS : Try.prog.eqGuardType Try.prog.depth 26 = false := by kernel_rfl
theorem run_part_s (a : Sp) (T : TypeId) (hT : Try.prog.underlying T = some (.int .i64)) (k : Nat) {x : Int} (hk : (sl a)[k]? = some (.int .i64 x)) (w : World) : (part T (sl a).toArray k).run Try.prog w = .ok (.int .i64 x) w := by
  simp [part, isAgg, run_underlying hT, hk]
theorem run_equal_sp (a : Sp) (w : World) : (Op.equalIn 10000 26 (.agg (sl a).toArray) (.agg (sl a).toArray)).run Try.prog w = .ok true w := by
  have hu : Try.prog.underlying 26 = some (.struct (Try.prog.fieldsOf 26)) := by kernel_rfl
  rw [run_equalIn_struct w 9999 _ _ _ hu stoodS]
  obtain ⟨f1, f2, f3, hf, n1, t1, o1, n2, t2, o2, n3, t3, o3⟩ : ∃ f1 f2 f3, (Try.prog.fieldsOf 26).toList = [f1, f2, f3] ∧
      f1.name ≠ "_" ∧ f1.type = 3 ∧ f1.offset = 0 ∧ f2.name ≠ "_" ∧ f2.type = 3 ∧ f2.offset = 1 ∧ f3.name ≠ "_" ∧ f3.type = 24 ∧ f3.offset = 2 := by
    have h := fieldsS
    generalize (Try.prog.fieldsOf 26).toList = fs at h
    have hl : fs.length = 3 := by simpa using congrArg List.length h
    match fs, hl with
    | [f1, f2, f3], _ =>
      simp only [List.map_cons, List.map_nil, List.cons.injEq, Prod.mk.injEq, beq_eq_false_iff_ne, and_true] at h
      exact ⟨f1, f2, f3, rfl, h.1.1, h.1.2.1, h.1.2.2, h.2.1.1, h.2.1.2.1, h.2.1.2.2, h.2.2.1, h.2.2.2.1, h.2.2.2.2⟩
  have i8 : ∀ a b : Int, (Op.equalIn 9999 3 (.int .i64 a) (.int .i64 b)).run Try.prog w = .ok (a == b) w := fun a b => run_equalIn_int w 9998 _ _ _ a b Try.underlying3
  have e8 : ∀ a b : Int, (Op.equalIn 9999 24 (.int .i64 a) (.int .i64 b)).run Try.prog w = .ok (a == b) w := fun a b => run_equalIn_int w 9998 _ _ _ a b Try.underlying24
  have a1 := run_part_s a _ Try.underlying3 0 (x := a.a) rfl w
  have a2 := run_part_s a _ Try.underlying3 1 (x := a.n) rfl w
  have a3 := run_part_s a _ Try.underlying24 2 (x := a.e) rfl w
  rw [hf]
  rw [Op.eqFields, if_pos n1]
  simp only [Sem.run_bind, t1, o1, a1, Result.andThen_ok, i8, beq_self_eq_true, Bool.not_true, Bool.false_eq_true, if_false]
  rw [Op.eqFields, if_pos n2]
  simp only [Sem.run_bind, t2, o2, a2, Result.andThen_ok, i8, beq_self_eq_true, Bool.not_true, Bool.false_eq_true, if_false]
  rw [Op.eqFields, if_pos n3]
  simp only [Sem.run_bind, t3, o3, a3, Result.andThen_ok, e8, beq_self_eq_true, Bool.not_true, Bool.false_eq_true, if_false]
  simp [Op.eqFields]
theorem run_eql_sp (a : Sp) (w : World) : (binOp .eql 26 (.agg (sl a).toArray) (.agg (sl a).toArray)).run Try.prog w = .ok (.bool true) w := by
  simp only [binOp, Sem.run_bind, Op.equal, Op.maxDepth, run_equal_sp, Result.andThen_ok, Sem.run_pure]
theorem run_neq_sp (a : Sp) (w : World) : (binOp .neq 26 (.agg (sl a).toArray) (.agg (sl a).toArray)).run Try.prog w = .ok (.bool false) w := by
  simp only [binOp, Sem.run_bind, Op.equal, Op.maxDepth, run_equal_sp, Result.andThen_ok, Sem.run_pure, Bool.not_true]
theorem take_eql_sp {ops : Array Oper} {S : World → Prop} {op : Oper} {ac : Act} (hw : Region.wanted op (yielded ops ac.tmps) = true) (x y : Operand) (ty : TypeId) (ho : op.op = .binOp .eql 26 x y ty)
    (p q : Sp) (hx : ac.eval x = sv p) (hy : ac.eval y = sv q) (h : p = q) : YieldsIf Try.prog ops S op (.bool true) ac := by
  subst h
  refine .inl ⟨hw, fun w _ => ?_⟩
  unfold execOp
  simp only [ho, hx, hy, Sem.run_bind, sv_sl, run_eqGuard_agg w _ _ _ _ _ _ eqGuardS, run_eql_sp, Result.andThen_ok, Sem.run_pure]
theorem take_neq_sp {ops : Array Oper} {S : World → Prop} {op : Oper} {ac : Act} (hw : Region.wanted op (yielded ops ac.tmps) = true) (x y : Operand) (ty : TypeId) (ho : op.op = .binOp .neq 26 x y ty)
    (p q : Sp) (hx : ac.eval x = sv p) (hy : ac.eval y = sv q) (h : p = q) : YieldsIf Try.prog ops S op (.bool false) ac := by
  subst h
  refine .inl ⟨hw, fun w _ => ?_⟩
  unfold execOp
  simp only [ho, hx, hy, Sem.run_bind, sv_sl, run_eqGuard_agg w _ _ _ _ _ _ eqGuardS, run_neq_sp, Result.andThen_ok, Sem.run_pure]
theorem wpList_eql_sp {ops : Array Oper} {rest : List Oper} {o : Oper} {a : Act} {w : World} {Q : Exit → Act → World → Prop} (hw : Region.wanted o (yielded ops a.tmps) = true) (x y : Operand) (ty : TypeId) (ho : o.op = .binOp .eql 26 x y ty)
    (p : Sp) (hx : a.eval x = sv p) (hy : a.eval y = sv p)
    (hk : wpList Try.prog ops Q rest (a.put o.dst (.bool true)) w) : wpList Try.prog ops Q (o :: rest) a w :=
  wpList_step fun _ hK => by
    rw [if_pos hw]
    unfold Oper.wp execOp
    simp only [ho, hx, hy, Sem.run_bind, sv_sl, run_eqGuard_agg w _ _ _ _ _ _ eqGuardS, run_eql_sp, Result.andThen_ok, Sem.run_pure, Oper.upon_value]
    exact hK _ _ hk
theorem wpList_bt_sew {ops : Array Oper} {rest : List Oper} {o : Oper} {a : Act} {w : World} {Q : Exit → Act → World → Prop} (hw : Region.wanted o (yielded ops a.tmps) = true) (x0 x1 : Operand) (ho : o.op = .build 26 #[(0, x0), (2, x1)]) (i n : Int) (h0 : a.eval x0 = .int .i64 i) (h1 : a.eval x1 = .int .i64 n)
    (h : wpList Try.prog ops Q rest (a.put o.dst (sv ⟨i, 0, n⟩)) w) : wpList Try.prog ops Q (o :: rest) a w :=
  wpList_step fun _ hK => by
    rw [if_pos hw]
    have hf : Try.prog.built 26 ((#[(0, x0), (2, x1)] : Array (Nat × Operand)).map fun (i, x) => (i, a.eval x)).toList = some (sl ⟨i, 0, n⟩).toArray := by
      have : ((#[(0, x0), (2, x1)] : Array (Nat × Operand)).map fun (i, x) => (i, a.eval x)).toList = [(0, .int .i64 i), (2, .int .i64 n)] := by simp [h0, h1]
      rw [this]; exact bt_se i n
    exact wp_build _ _ ho (by rw [hf]; rfl) (by rw [hf]; exact hK _ _ h)
end Go.Proofs.Ytihmpglfghffiaa
