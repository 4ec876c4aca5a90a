/- Tasks compared · A board that comes in: opened to its numbers, and read again as it was · What rays are, by numbers alone · Slices of numbers: read, and of the call's own. -/
import Derived.Test.YtlbipjmmlobofaaGreatDoorPkA01
import Derived.Test.YtlbipjmmlobofaaGreatDoorPkA08
import Derived.Test.YtlbipjmmlobofaaGreatDoorPkB03
import Derived.ProofKit
import Derived.OpenShut
import Derived.DataBytes
import Derived.Laws.OwnMore
import Derived.Laws.AppendOwnNone
namespace Go.Proofs.YtlbipjmmlobofaaGreatDoor
open Go.ChangeShapes Go.WideShapes Go.ChangeAt Go.RowKit
open Go.Deep
set_option linter.unusedVariables false
set_option linter.unusedSimpArgs false
set_option maxRecDepth 100000
set_option maxHeartbeats 4000000

theorem run_equal_p9 {p q : Ps} (hp : p.B.length = 64) (hq : q.B.length = 64) (w : World) :
    (Op.equalIn 9999 26 (.agg (pl p).toArray) (.agg (pl q).toArray)).run Tryz.prog w = .ok (beqP p q) w := by
  have hu : Tryz.prog.underlying 26 = some (.struct (Tryz.prog.fieldsOf 26)) := by kernel_rfl
  rw [run_equalIn_struct w 9998 _ _ _ hu stoodP]
  obtain ⟨f0, f1, f2, f3, hf, n0, t0, o0, n1, t1, o1, n2, t2, o2, n3, t3, o3⟩ : ∃ f0 f1 f2 f3, (Tryz.prog.fieldsOf 26).toList = [f0, f1, f2, f3] ∧ f0.name ≠ "_" ∧ f0.type = 24 ∧ f0.offset = 0 ∧
      f1.name ≠ "_" ∧ f1.type = 3 ∧ f1.offset = 64 ∧ f2.name ≠ "_" ∧ f2.type = 3 ∧ f2.offset = 65 ∧ f3.name ≠ "_" ∧ f3.type = 3 ∧ f3.offset = 66 := by
    have h := fieldsP
    generalize (Tryz.prog.fieldsOf 26).toList = fs at h
    have hl : fs.length = 4 := by simpa using congrArg List.length h
    match fs, hl with
    | [f0, f1, f2, f3], _ =>
      simp only [List.map_cons, List.map_nil, List.cons.injEq, Prod.mk.injEq, beq_eq_false_iff_ne, and_true] at h
      exact ⟨f0, f1, f2, f3, rfl, h.1.1, h.1.2.1, h.1.2.2, h.2.1.1, h.2.1.2.1, h.2.1.2.2, h.2.2.1.1, h.2.2.1.2.1, h.2.2.1.2.2, h.2.2.2.1, h.2.2.2.2.1, h.2.2.2.2.2⟩
  have i8 : ∀ a b : Int, (Op.equalIn 9998 3 (.int .i64 a) (.int .i64 b)).run Tryz.prog w = .ok (a == b) w := fun a b => run_equalIn_int w 9997 _ _ _ a b Tryz.underlying3
  have eb : (Op.equalIn 9998 24 (.agg (cl p.B).toArray) (.agg (cl q.B).toArray)).run Tryz.prog w = .ok (beqB p.B q.B) w := by
    obtain ⟨i, hi⟩ : ∃ i, Tryz.prog.info? 22 = some i := by
      cases hq : Tryz.prog.info? 22 with
      | none => have := info22; simp [hq] at this
      | some i => exact ⟨i, rfl⟩
    rw [run_equalIn_array w 9997 _ _ Tryz.underlying24 hi, cells22]
    exact run_eqItems_cl 9996 p.B q.B hp hq w _ (fun i hi => by simpa using hi)
  have a1 := run_part_i hp 0 (show (tlP p)[0]? = some (.int .i64 p.t) from rfl) w
  have a2 := run_part_i hp 1 (show (tlP p)[1]? = some (.int .i64 p.c) from rfl) w
  have a3 := run_part_i hp 2 (show (tlP p)[2]? = some (.int .i64 p.e) from rfl) w
  have b1 := run_part_i hq 0 (show (tlP q)[0]? = some (.int .i64 q.t) from rfl) w
  have b2 := run_part_i hq 1 (show (tlP q)[1]? = some (.int .i64 q.c) from rfl) w
  have b3 := run_part_i hq 2 (show (tlP q)[2]? = some (.int .i64 q.e) from rfl) w
  rw [hf]
  unfold beqP
  rw [Op.eqFields, if_pos n0]
  simp only [Sem.run_bind, t0, o0, run_part_b hp, run_part_b hq, Result.andThen_ok, eb]
  cases beqB p.B q.B
  · simp
  · simp only [Bool.not_true, Bool.false_eq_true, if_false, Bool.true_and]
    rw [Op.eqFields, if_pos n1]
    simp only [Sem.run_bind, t1, o1, a1, b1, Result.andThen_ok, i8]
    cases p.t == q.t
    · simp
    · simp only [Bool.not_true, Bool.false_eq_true, if_false, Bool.true_and]
      rw [Op.eqFields, if_pos n2]
      simp only [Sem.run_bind, t2, o2, a2, b2, Result.andThen_ok, i8]
      cases p.c == q.c
      · simp
      · simp only [Bool.not_true, Bool.false_eq_true, if_false, Bool.true_and]
        rw [Op.eqFields, if_pos n3]
        simp only [Sem.run_bind, t3, o3, a3, b3, Result.andThen_ok, i8]
        cases p.e == q.e
        · simp
        · simp [Op.eqFields]
theorem run_equal_q9 (a : Stp) (w : World) : (Op.equalIn 9999 28 (.agg (ql a).toArray) (.agg (ql a).toArray)).run Tryz.prog w = .ok true w := by
  have hu : Tryz.prog.underlying 28 = some (.struct (Tryz.prog.fieldsOf 28)) := by kernel_rfl
  rw [run_equalIn_struct w 9998 _ _ _ hu stoodQ]
  obtain ⟨f1, f2, f3, f4, hf, n1, t1, o1, n2, t2, o2, n3, t3, o3, n4, t4, o4⟩ : ∃ f1 f2 f3 f4, (Tryz.prog.fieldsOf 28).toList = [f1, f2, f3, f4] ∧
      f1.name ≠ "_" ∧ f1.type = 3 ∧ f1.offset = 0 ∧ f2.name ≠ "_" ∧ f2.type = 3 ∧ f2.offset = 1 ∧ f3.name ≠ "_" ∧ f3.type = 3 ∧ f3.offset = 2 ∧ f4.name ≠ "_" ∧ f4.type = 4 ∧ f4.offset = 3 := by
    have h := fieldsQ
    generalize (Tryz.prog.fieldsOf 28).toList = fs at h
    have hl : fs.length = 4 := by simpa using congrArg List.length h
    match fs, hl with
    | [f1, f2, f3, f4], _ =>
      simp only [List.map_cons, List.map_nil, List.cons.injEq, Prod.mk.injEq, beq_eq_false_iff_ne, and_true] at h
      exact ⟨f1, f2, f3, f4, rfl, h.1.1, h.1.2.1, h.1.2.2, h.2.1.1, h.2.1.2.1, h.2.1.2.2, h.2.2.1.1, h.2.2.1.2.1, h.2.2.1.2.2, h.2.2.2.1, h.2.2.2.2.1, h.2.2.2.2.2⟩
  have i8 : ∀ a b : Int, (Op.equalIn 9998 3 (.int .i64 a) (.int .i64 b)).run Tryz.prog w = .ok (a == b) w := fun a b => run_equalIn_int w 9997 _ _ _ a b Tryz.underlying3
  have b8 : ∀ a b : Bool, (Op.equalIn 9998 4 (.bool a) (.bool b)).run Tryz.prog w = .ok (a == b) w := fun a b => run_equalIn_bool' w 9997 _ a b Tryz.underlying4
  have a1 := run_part_q a _ Tryz.underlying3 0 (x := a.k) rfl w
  have a2 := run_part_q a _ Tryz.underlying3 1 (x := a.g) rfl w
  have a3 := run_part_q a _ Tryz.underlying3 2 (x := a.n) rfl w
  have a4 := run_part_qb a w
  rw [hf]
  rw [Op.eqFields, if_pos n1]
  simp only [Sem.run_bind, t1, o1, a1, Result.andThen_ok, i8, beq_self_eq_true, Bool.not_true, Bool.false_eq_true, if_false]
  rw [Op.eqFields, if_pos n2]
  simp only [Sem.run_bind, t2, o2, a2, Result.andThen_ok, i8, beq_self_eq_true, Bool.not_true, Bool.false_eq_true, if_false]
  rw [Op.eqFields, if_pos n3]
  simp only [Sem.run_bind, t3, o3, a3, Result.andThen_ok, i8, beq_self_eq_true, Bool.not_true, Bool.false_eq_true, if_false]
  rw [Op.eqFields, if_pos n4]
  simp only [Sem.run_bind, t4, o4, a4, Result.andThen_ok, b8, beq_self_eq_true, Bool.not_true, Bool.false_eq_true, if_false]
  simp [Op.eqFields]
theorem fieldsK : (Tryz.prog.fieldsOf 30).toList.map (fun f => (f.name == "_", f.type, f.offset)) = [(false, 26, 0), (false, 28, 67), (false, 4, 71), (false, 4, 72), (false, 3, 73), (false, 3, 74)] := by kernel_rfl
theorem stoodK : Tryz.prog.stoodInHeld 30 = false := by kernel_rfl
theorem eqGuardK : Tryz.prog.eqGuardType Tryz.prog.depth 30 = false := by kernel_rfl
theorem sizeP67 : (Tryz.prog.info? 26).map (·.size) = some 67 := by kernel_rfl
theorem sizeS4 : (Tryz.prog.info? 28).map (·.size) = some 4 := by kernel_rfl
theorem run_part_kp {K : Tk} (h : K.B.length = 64) (w : World) : (part 26 (kcl K).toArray 0).run Tryz.prog w = .ok (.agg (pl (pk K)).toArray) w := by
  have hu : Tryz.prog.underlying 26 = some (.struct (Tryz.prog.fieldsOf 26)) := by kernel_rfl
  have hs : (sizeOf 26).run Tryz.prog w = .ok 67 w := by
    cases hq : Tryz.prog.info? 26 with
    | none => have := sizeP67; simp [hq] at this
    | some i => have := sizeP67; simp [hq] at this; simp [sizeOf, typeInfo, hq, this]
  have hl : (cl K.B).length = 64 := by rw [cl_length, h]
  simp only [part, isAgg, Sem.run_bind, run_underlying hu, Result.andThen_ok, Sem.run_pure, if_true, hs]
  simp [kcl, ktl, pl, tlP, pk, ql, List.take_append, hl]
  exact List.take_of_length_le (by omega)
theorem run_part_ks {K : Tk} (h : K.B.length = 64) (w : World) : (part 28 (kcl K).toArray 67).run Tryz.prog w = .ok (.agg (ql K.s).toArray) w := by
  have hu : Tryz.prog.underlying 28 = some (.struct (Tryz.prog.fieldsOf 28)) := by kernel_rfl
  have hs : (sizeOf 28).run Tryz.prog w = .ok 4 w := by
    cases hq : Tryz.prog.info? 28 with
    | none => have := sizeS4; simp [hq] at this
    | some i => have := sizeS4; simp [hq] at this; simp [sizeOf, typeInfo, hq, this]
  have hl : (cl K.B).length = 64 := by rw [cl_length, h]
  simp only [part, isAgg, Sem.run_bind, run_underlying hu, Result.andThen_ok, Sem.run_pure, if_true, hs]
  simp [kcl, ktl, ql, List.take_append, List.drop_append, hl]
theorem kcl_get {K : Tk} (h : K.B.length = 64) (k : Nat) : (kcl K)[64 + k]? = (ktl K)[k]? := by
  have hl : (cl K.B).length = 64 := by rw [cl_length, h]
  unfold kcl
  rw [List.getElem?_append_right (by omega), show 64 + k - (cl K.B).length = k by omega]
theorem run_part_ki {K : Tk} (h : K.B.length = 64) (k : Nat) {x : Int} (hk : (ktl K)[k]? = some (.int .i64 x)) (w : World) : (part 3 (kcl K).toArray (64 + k)).run Tryz.prog w = .ok (.int .i64 x) w := by
  have h2 := (kcl_get h k).trans hk
  simp [part, isAgg, run_underlying Tryz.underlying3, h2]
theorem run_part_kb {K : Tk} (h : K.B.length = 64) (k : Nat) {x : Bool} (hk : (ktl K)[k]? = some (.bool x)) (w : World) : (part 4 (kcl K).toArray (64 + k)).run Tryz.prog w = .ok (.bool x) w := by
  have h2 := (kcl_get h k).trans hk
  simp [part, isAgg, run_underlying Tryz.underlying4, h2]
theorem run_equal_k {K : Tk} (h : K.B.length = 64) (w : World) : (Op.equalIn 10000 30 (.agg (kcl K).toArray) (.agg (kcl K).toArray)).run Tryz.prog w = .ok true w := by
  have hu : Tryz.prog.underlying 30 = some (.struct (Tryz.prog.fieldsOf 30)) := by kernel_rfl
  rw [run_equalIn_struct w 9999 _ _ _ hu stoodK]
  obtain ⟨f1, f2, f3, f4, f5, f6, hf, n1, t1, o1, n2, t2, o2, n3, t3, o3, n4, t4, o4, n5, t5, o5, n6, t6, o6⟩ : ∃ f1 f2 f3 f4 f5 f6, (Tryz.prog.fieldsOf 30).toList = [f1, f2, f3, f4, f5, f6] ∧
      f1.name ≠ "_" ∧ f1.type = 26 ∧ f1.offset = 0 ∧ f2.name ≠ "_" ∧ f2.type = 28 ∧ f2.offset = 67 ∧ f3.name ≠ "_" ∧ f3.type = 4 ∧ f3.offset = 71 ∧ f4.name ≠ "_" ∧ f4.type = 4 ∧ f4.offset = 72 ∧ f5.name ≠ "_" ∧ f5.type = 3 ∧ f5.offset = 73 ∧ f6.name ≠ "_" ∧ f6.type = 3 ∧ f6.offset = 74 := by
    have h := fieldsK
    generalize (Tryz.prog.fieldsOf 30).toList = fs at h
    have hl : fs.length = 6 := by simpa using congrArg List.length h
    match fs, hl with
    | [f1, f2, f3, f4, f5, f6], _ =>
      simp only [List.map_cons, List.map_nil, List.cons.injEq, Prod.mk.injEq, beq_eq_false_iff_ne, and_true] at h
      exact ⟨f1, f2, f3, f4, f5, f6, rfl, h.1.1, h.1.2.1, h.1.2.2, h.2.1.1, h.2.1.2.1, h.2.1.2.2, h.2.2.1.1, h.2.2.1.2.1, h.2.2.1.2.2, h.2.2.2.1.1, h.2.2.2.1.2.1, h.2.2.2.1.2.2, h.2.2.2.2.1.1, h.2.2.2.2.1.2.1, h.2.2.2.2.1.2.2, h.2.2.2.2.2.1, h.2.2.2.2.2.2.1, h.2.2.2.2.2.2.2⟩
  have i8 : ∀ a b : Int, (Op.equalIn 9999 3 (.int .i64 a) (.int .i64 b)).run Tryz.prog w = .ok (a == b) w := fun a b => run_equalIn_int w 9998 _ _ _ a b Tryz.underlying3
  have b8 : ∀ a b : Bool, (Op.equalIn 9999 4 (.bool a) (.bool b)).run Tryz.prog w = .ok (a == b) w := fun a b => run_equalIn_bool' w 9998 _ a b Tryz.underlying4
  have hp : (pk K).B.length = 64 := h
  have p8 : (Op.equalIn 9999 26 (.agg (pl (pk K)).toArray) (.agg (pl (pk K)).toArray)).run Tryz.prog w = .ok true w := by rw [run_equal_p9 hp hp w, beqP_refl]
  have q8 := run_equal_q9 K.s w
  have a1 := run_part_kp h w
  have a2 := run_part_ks h w
  have a3 := run_part_kb h 7 (show (ktl K)[7]? = some (.bool K.ty) from rfl) w
  have a4 := run_part_kb h 8 (show (ktl K)[8]? = some (.bool K.se) from rfl) w
  have a5 := run_part_ki h 9 (show (ktl K)[9]? = some (.int .i64 K.mx) from rfl) w
  have a6 := run_part_ki h 10 (show (ktl K)[10]? = some (.int .i64 K.re) from rfl) w
  simp only [Nat.reduceAdd] at a3 a4 a5 a6
  rw [hf]
  rw [Op.eqFields, if_pos n1]
  simp only [Sem.run_bind, t1, o1, a1, Result.andThen_ok, p8, Bool.not_true, Bool.false_eq_true, if_false]
  rw [Op.eqFields, if_pos n2]
  simp only [Sem.run_bind, t2, o2, a2, Result.andThen_ok, q8, Bool.not_true, Bool.false_eq_true, if_false]
  rw [Op.eqFields, if_pos n3]
  simp only [Sem.run_bind, t3, o3, a3, Result.andThen_ok, b8, beq_self_eq_true, Bool.not_true, Bool.false_eq_true, if_false]
  rw [Op.eqFields, if_pos n4]
  simp only [Sem.run_bind, t4, o4, a4, Result.andThen_ok, b8, beq_self_eq_true, Bool.not_true, Bool.false_eq_true, if_false]
  rw [Op.eqFields, if_pos n5]
  simp only [Sem.run_bind, t5, o5, a5, Result.andThen_ok, i8, beq_self_eq_true, Bool.not_true, Bool.false_eq_true, if_false]
  rw [Op.eqFields, if_pos n6]
  simp only [Sem.run_bind, t6, o6, a6, Result.andThen_ok, i8, beq_self_eq_true, Bool.not_true, Bool.false_eq_true, if_false]
  simp [Op.eqFields]
theorem run_eql_k {K : Tk} (h : K.B.length = 64) (w : World) : (binOp .eql 30 (.agg (kcl K).toArray) (.agg (kcl K).toArray)).run Tryz.prog w = .ok (.bool true) w := by
  simp only [binOp, Sem.run_bind, Op.equal, Op.maxDepth, run_equal_k h, Result.andThen_ok, Sem.run_pure]
theorem wpList_eql_k {ops : Array Oper} {rest : List Oper} {o : Oper} {a : Act} {w : World} {Q : Exit → Act → World → Prop} (hw : Region.wanted o (yielded ops a.tmps) = true) (x y : Operand) (ty : TypeId) (ho : o.op = .binOp .eql 30 x y ty)
    (K : Tk) (h : K.B.length = 64) (hx : a.eval x = kv K) (hy : a.eval y = kv K)
    (hk : wpList Tryz.prog ops Q rest (a.put o.dst (.bool true)) w) : wpList Tryz.prog ops Q (o :: rest) a w :=
  wpList_step fun _ hK => by
    rw [if_pos hw]
    unfold Oper.wp execOp
    simp only [ho, hx, hy, Sem.run_bind, kv, run_eqGuard_agg w _ _ _ _ _ _ eqGuardK, run_eql_k h, Result.andThen_ok, Sem.run_pure, Oper.upon_value]
    exact hK _ _ hk
end Go.Proofs.YtlbipjmmlobofaaGreatDoor
namespace Go.Proofs.YtlbipjmmlobofaaGreatDoor
set_option maxRecDepth 100000
open Go.ChangeShapes Go.WideShapes Go.ChangeAt Go.RowKit
set_option linter.unusedVariables false

section
variable {H : Type} {enc : TypeId × Value → H}
/-- The board's numbers as data. -/
def dB (H : Type) (B : List Int) : DataW H := .agg (B.map fun x => .lit (.int .i8 x))
theorem wf_i8 (x : Int) : (Lit.int .i8 x).wf = true ↔ -128 ≤ x ∧ x ≤ 127 := by
  have e1 : IntKind.i8.min = -128 := by decide
  have e2 : IntKind.i8.max = 127 := by decide
  simp [Lit.wf, e1, e2]
theorem chunk {cs : List Value} {i : Nat} (h : i < cs.length) : (cs.drop (i * 1)).take 1 = [cs[i]] := by
  rw [Nat.mul_one, List.drop_eq_getElem_cons h]; rfl
theorem open_board {W : World} {base : Nat} {r : Reach} {b0 : Nat} {sp : Nat → Bool} {hd : Bool} {v : Value} {d : DataW H} {p : List MemPlace}
    (hv : Value.okWide Tryz.prog W r b0 24 v) (h : DataW.Trod enc Tryz.prog W base sp hd 24 v d p) :
    ∃ B, Brd B ∧ v = .agg (cl B).toArray ∧ d = dB H B ∧ p = [] := by
  obtain ⟨cs, rfl, hsz, _⟩ : ∃ cs, v = .agg cs ∧ cs.size = Tryz.prog.cellsOf 24 ∧ Row.okWide Tryz.prog W r b0 24 cs := by
    simpa [Value.okWide, Tryz.underlying24] using hv
  obtain ⟨fuel, hf⟩ := h
  obtain ⟨xs, m, rfl, hx, hl, hn, hi⟩ := DataW.trod_array Tryz.underlying24 hf
  obtain ⟨l⟩ := cs
  have hl64 : l.length = 64 := by simpa [Value.cells, cells24] using hl
  have hall : ∀ i (hi64 : i < 64), ∃ n, l[i]'(by omega) = .int .i8 n ∧ xs[i]? = some (.lit (.int .i8 n), []) ∧ (Lit.int .i8 n).wf = true := by
    intro i hi64
    have h1 := hi i hi64
    have hlt : i < xs.length := by omega
    rw [cells22, List.getElem?_eq_getElem hlt] at h1
    have h2 : ((Value.agg ⟨l⟩).cells.toList.drop (i * 1)).take 1 = [l[i]'(by omega)] := chunk (cs := l) (by omega)
    rw [h2] at h1
    obtain ⟨n, e1, e2, e3⟩ := DataW.trod_int Tryz.underlying22 h1
    exact ⟨n, by simpa using e1, by rw [List.getElem?_eq_getElem hlt, e2], e3⟩
  have hlen : (l.map intOf).length = 64 := by simp [hl64]
  have hget : ∀ i (hi64 : i < 64), (Lit.int .i8 ((l.map intOf).getD i 0)).wf = true ∧ l[i]'(by omega) = .int .i8 ((l.map intOf).getD i 0) ∧ xs[i]? = some (.lit (.int .i8 ((l.map intOf).getD i 0)), []) := by
    intro i hi64
    obtain ⟨n, e1, e2, e3⟩ := hall i hi64
    have : (l.map intOf).getD i 0 = n := by
      have : i < l.length := by omega
      simp [List.getD, List.getElem?_eq_getElem this, e1, intOf]
    rw [this]
    exact ⟨e3, e1, e2⟩
  refine ⟨l.map intOf, ⟨hlen, fun i hi64 => (wf_i8 _).1 (hget i hi64).1⟩, ?_, ?_, ?_⟩
  · congr 1
    have : l = cl (l.map intOf) := by
      refine List.ext_getElem (by rw [cl_length, hlen, hl64]) fun i h1 h2 => ?_
      have h3 := cl_get (l.map intOf) i (by omega)
      rw [List.getElem?_eq_getElem h2] at h3
      rw [(hget i (by omega)).2.1]
      exact (Option.some.inj h3).symm
    exact congrArg List.toArray this
  · have e : xs.map (·.1) = (l.map intOf).map fun x => DataW.lit (.int .i8 x) := by
      refine List.ext_getElem (by simp [hn, hl64]) fun i h1 h2 => ?_
      have h3 := (hget i (by simpa [hn] using h1)).2.2
      have hlt : i < xs.length := by simpa using h1
      rw [List.getElem?_eq_getElem hlt] at h3
      have h4 := Option.some.inj h3
      have h5 : i < (l.map intOf).length := by omega
      simp only [List.getElem_map, h4]
      simp [List.getD, List.getElem?_eq_getElem (show i < l.length by omega)]
    simp only [Prod.mk.injEq] at hx
    rw [hx.1, e]; rfl
  · simp only [Prod.mk.injEq] at hx
    rw [hx.2, List.flatMap_eq_nil_iff]
    intro x hxs
    obtain ⟨i, hlt, rfl⟩ := List.getElem_of_mem hxs
    have h3 := (hget i (by omega)).2.2
    rw [List.getElem?_eq_getElem hlt] at h3
    rw [Option.some.inj h3]
set_option maxRecDepth 100000 in
theorem shut_board {W : World} {base : Nat} {sp : Nat → Bool} {hd : Bool} (B : List Int) (hB : Brd B) : DataW.Trod enc Tryz.prog W base sp hd 24 (.agg (cl B).toArray) (dB H B) [] := by
  refine ⟨2, ?_⟩
  have hc : (Value.agg (cl B).toArray).cells.toList = cl B := rfl
  rw [hc]
  have step : ∀ i ∈ List.range 64, DataW.trod enc Tryz.prog W base sp hd 1 22 (((cl B).drop (i * Tryz.prog.cellsOf 22)).take (Tryz.prog.cellsOf 22)) = some ((DataW.lit (.int .i8 (B.getD i 0)), []) : DataW H × List MemPlace) := by
    intro i hi
    have hi64 : i < 64 := by simpa using hi
    have hlt : i < (cl B).length := by rw [cl_length, hB.1]; exact hi64
    rw [cells22, chunk hlt]
    have h3 := cl_get B i (by rw [hB.1]; exact hi64)
    rw [List.getElem?_eq_getElem hlt] at h3
    rw [Option.some.inj h3]
    have hw := (wf_i8 _).2 (hB.2 i hi64)
    unfold DataW.trod
    rw [Tryz.underlying22]
    simp only [hw, and_self, if_true]
  have hm := mapM_some_of_forall (f := fun i => DataW.trod enc Tryz.prog W base sp hd 1 22 (((cl B).drop (i * Tryz.prog.cellsOf 22)).take (Tryz.prog.cellsOf 22))) (List.range 64) step
  unfold DataW.trod
  rw [Tryz.underlying24]
  simp only [cl_length, hB.1, cells24, if_true, hm, Option.map_some, Option.some.injEq, Prod.mk.injEq]
  refine ⟨?_, ?_⟩
  · unfold dB
    congr 1
    refine List.ext_getElem (by simp [hB.1]) fun i h1 h2 => ?_
    have h3 : i < B.length := by simpa using h2
    simp [List.getD, List.getElem?_eq_getElem h3]
  · rw [List.flatMap_eq_nil_iff]
    intro x hx
    simp only [List.mem_map] at hx
    obtain ⟨i, _, rfl⟩ := hx
    rfl
end
end Go.Proofs.YtlbipjmmlobofaaGreatDoor
namespace Go.Proofs.YtlbipjmmlobofaaGreatDoor
set_option linter.unusedVariables false
set_option linter.unusedSimpArgs false

/-- Where a step leads, or -1. -/
def stI (s f r : Int) : Int := if 0 ≤ s ∧ s < 64 ∧ 0 ≤ s % 8 + f ∧ s % 8 + f < 8 ∧ 0 ≤ s / 8 + r ∧ s / 8 + r < 8 then (s / 8 + r) * 8 + (s % 8 + f) else -1
theorem stI_cases (s f r : Int) : (0 ≤ s ∧ s < 64 ∧ 0 ≤ s % 8 + f ∧ s % 8 + f < 8 ∧ 0 ≤ s / 8 + r ∧ s / 8 + r < 8 ∧ stI s f r = (s / 8 + r) * 8 + (s % 8 + f)) ∨
    (stI s f r = -1 ∧ ((s < 0 ∨ 64 ≤ s) ∨ (0 ≤ s ∧ s < 64 ∧ (s % 8 + f < 0 ∨ 8 ≤ s % 8 + f ∨ s / 8 + r < 0 ∨ 8 ≤ s / 8 + r)))) := by
  unfold stI
  split
  · left; omega
  · right; omega
theorem stI_off {s f r : Int} (h : s < 0 ∨ 64 ≤ s) : stI s f r = -1 := by
  unfold stI; rw [if_neg (by omega)]
/-- At most n squares of a ray. -/
def rayN : Nat → Int → Int → Int → List Int
  | 0, _, _, _ => []
  | n + 1, s, f, r => if stI s f r < 0 then [] else stI s f r :: rayN n (stI s f r) f r
def rayL (s f r : Int) : List Int := if f = 0 ∧ r = 0 then [] else rayN 8 s f r
theorem rayN_len : ∀ (n : Nat) (s f r : Int), (rayN n s f r).length ≤ n
  | 0, _, _, _ => Nat.le_refl _
  | n + 1, s, f, r => by
    unfold rayN
    split
    · simp
    · have := rayN_len n (stI s f r) f r
      simp; omega
theorem rayL_len (s f r : Int) : (rayL s f r).length ≤ 8 := by
  unfold rayL
  split
  · simp
  · exact rayN_len _ _ _ _
theorem rayN_mem : ∀ (n : Nat) (s f r x : Int), x ∈ rayN n s f r → 0 ≤ x ∧ x < 64
  | 0, _, _, _, x => by simp [rayN]
  | n + 1, s, f, r, x => by
    unfold rayN
    split
    · simp
    · next h =>
      intro hx
      rcases List.mem_cons.1 hx with rfl | hx
      · rcases stI_cases s f r with ⟨_, _, _, _, _, _, e⟩ | ⟨e, _⟩ <;> omega
      · exact rayN_mem n _ _ _ x hx
theorem rayL_mem {s f r x : Int} (h : x ∈ rayL s f r) : 0 ≤ x ∧ x < 64 := by
  unfold rayL at h
  split at h
  · simp at h
  · exact rayN_mem _ _ _ _ _ h
theorem rayL_off {s f r : Int} (h : s < 0 ∨ 64 ≤ s) : rayL s f r = [] := by
  unfold rayL
  split
  · rfl
  · unfold rayN; rw [if_pos (by rw [stI_off h]; decide)]
theorem rayL_none (s : Int) : rayL s 0 0 = [] := by unfold rayL; rw [if_pos ⟨rfl, rfl⟩]
/-- Behind k squares the next one is as far at least. -/
def Far (f r : Int) (k : Nat) (t : Int) : Prop := 0 ≤ t ∧ t < 64 ∧ (1 ≤ f → (k : Int) + 1 ≤ t % 8) ∧ (f ≤ -1 → t % 8 ≤ 6 - (k : Int)) ∧ (1 ≤ r → (k : Int) + 1 ≤ t / 8) ∧ (r ≤ -1 → t / 8 ≤ 6 - (k : Int))
theorem Far.le {f r t : Int} {k : Nat} (h : Far f r k t) (h0 : ¬ (f = 0 ∧ r = 0)) : k ≤ 6 := by
  unfold Far at h; omega
/-- What is told of a ray so far, and what comes: 'to' comes next, if on. -/
def RayMid (s f r : Int) (l : List Int) (t : Int) (on : Bool) : Prop :=
  (on = true ∧ Far f r l.length t ∧ ∃ n, l.length + n = 7 ∧ rayL s f r = l ++ t :: rayN n t f r) ∨ (on = false ∧ rayL s f r = l)
theorem RayMid.start_yes {s f r : Int} (h0 : ¬ (f = 0 ∧ r = 0)) (a : 0 ≤ s) (b : s < 64) (c : 0 ≤ s % 8 + f) (d : s % 8 + f < 8) (e : 0 ≤ s / 8 + r) (g : s / 8 + r < 8) :
    RayMid s f r [] ((s / 8 + r) * 8 + (s % 8 + f)) true := by
  refine .inl ⟨rfl, by unfold Far; simp only [List.length_nil]; omega, 7, rfl, ?_⟩
  have he : stI s f r = (s / 8 + r) * 8 + (s % 8 + f) := by unfold stI; rw [if_pos ⟨a, b, c, d, e, g⟩]
  unfold rayL
  rw [if_neg h0]
  show rayN (7 + 1) s f r = _
  rw [rayN, he, if_neg (by omega)]
  rfl
theorem RayMid.start_no {s f r : Int} (t : Int) (h : stI s f r = -1) : RayMid s f r [] t false := by
  refine .inr ⟨rfl, ?_⟩
  unfold rayL
  split
  · rfl
  · unfold rayN; rw [if_pos (by rw [h]; decide)]
theorem RayMid.next_yes {s f r t : Int} {l : List Int} (h : RayMid s f r l t true) (h0 : ¬ (f = 0 ∧ r = 0)) (c : 0 ≤ t % 8 + f) (d : t % 8 + f < 8) (e : 0 ≤ t / 8 + r) (g : t / 8 + r < 8) :
    RayMid s f r (l ++ [t]) ((t / 8 + r) * 8 + (t % 8 + f)) true := by
  rcases h with ⟨_, hf, n, hn, hr⟩ | ⟨h, _⟩
  · have hk := hf.le h0
    obtain ⟨m, rfl⟩ : ∃ m, n = m + 1 := ⟨n - 1, by omega⟩
    have ht : 0 ≤ t ∧ t < 64 := ⟨hf.1, hf.2.1⟩
    have he : stI t f r = (t / 8 + r) * 8 + (t % 8 + f) := by unfold stI; rw [if_pos ⟨ht.1, ht.2, c, d, e, g⟩]
    refine .inl ⟨rfl, ?_, m, by simp; omega, ?_⟩
    · unfold Far at hf ⊢; rw [List.length_append, List.length_singleton]; omega
    · rw [hr, rayN, he, if_neg (by omega)]; simp
  · cases h
theorem RayMid.next_no {s f r t : Int} {l : List Int} (u : Int) (h : RayMid s f r l t true) (h0 : ¬ (f = 0 ∧ r = 0)) (hs : stI t f r = -1) : RayMid s f r (l ++ [t]) u false := by
  rcases h with ⟨_, hf, n, hn, hr⟩ | ⟨h, _⟩
  · have hk := hf.le h0
    obtain ⟨m, rfl⟩ : ∃ m, n = m + 1 := ⟨n - 1, by omega⟩
    refine .inr ⟨rfl, ?_⟩
    rw [hr, rayN, if_pos (by rw [hs]; decide)]
  · cases h
theorem RayMid.far {s f r t : Int} {l : List Int} (h : RayMid s f r l t true) (h0 : ¬ (f = 0 ∧ r = 0)) : 0 ≤ t ∧ t < 64 ∧ l.length ≤ 6 := by
  rcases h with ⟨_, hf, _⟩ | ⟨h, _⟩
  · exact ⟨hf.1, hf.2.1, hf.le h0⟩
  · cases h
theorem RayMid.done {s f r t : Int} {l : List Int} (h : RayMid s f r l t false) : rayL s f r = l := by
  rcases h with ⟨h, _⟩ | ⟨_, h⟩
  · cases h
  · exact h

/-- The steps of the ways. -/
def wayF (w : Nat) : Int := [0, 1, 0, -1, 1, 1, -1, -1, 1, 2, 2, 1, -1, -2, -2, -1].getD w 0
def wayR (w : Nat) : Int := [1, 0, -1, 0, 1, -1, -1, 1, 2, 1, -1, -2, -2, -1, 1, 2].getD w 0
def alongL (way : Nat) (s : Int) : List Int := if 8 ≤ way then (rayL s (wayF way) (wayR way)).take 1 else rayL s (wayF way) (wayR way)
theorem alongL_len (way : Nat) (s : Int) : (alongL way s).length ≤ 8 := by
  have := rayL_len s (wayF way) (wayR way)
  unfold alongL
  split
  · rw [List.length_take]; omega
  · exact this
theorem alongL_mem {way : Nat} {s x : Int} (h : x ∈ alongL way s) : 0 ≤ x ∧ x < 64 := by
  unfold alongL at h
  split at h
  · exact rayL_mem (List.mem_of_mem_take h)
  · exact rayL_mem h
theorem alongL_off {way : Nat} {s : Int} (h : s < 0 ∨ 64 ≤ s) : alongL way s = [] := by
  unfold alongL; rw [rayL_off h]; simp
/-- The lists of the table, one behind the other. -/
def listAt (i : Nat) : List Int := alongL (i / 64) ((i % 64 : Nat) : Int)
theorem listAt_way (way s : Nat) (h : s < 64) : listAt (way * 64 + s) = alongL way (s : Int) := by
  unfold listAt
  rw [show (way * 64 + s) / 64 = way by omega, show (way * 64 + s) % 64 = s by omega]
def flatN (n : Nat) : List Int := (List.range n).flatMap listAt
theorem flatN_succ (n : Nat) : flatN (n + 1) = flatN n ++ listAt n := by simp [flatN, List.range_succ]
theorem listAt_len (i : Nat) : (listAt i).length ≤ 8 := alongL_len _ _
theorem flatN_len : ∀ n, (flatN n).length ≤ 8 * n
  | 0 => by simp [flatN]
  | n + 1 => by
    have h1 := flatN_len n
    have h2 := listAt_len n
    rw [flatN_succ, List.length_append]; omega
/-- The lists from the n-th on. -/
def restN (n : Nat) : List Int := (List.range' n (1024 - n)).flatMap listAt
theorem restN_zero : restN 0 = flatN 1024 := by simp [restN, flatN, List.range_eq_range']
theorem restN_step (n : Nat) (h : n < 1024) : restN n = listAt n ++ restN (n + 1) := by
  unfold restN
  rw [show 1024 - n = (1024 - (n + 1)) + 1 by omega, List.range'_succ]
  simp

/-- A man's kind; 0 for what is none. -/
def knd (m : Int) : Int := if m < -6 ∨ m = 0 ∨ 6 < m then 0 else if m < 0 then -m else m
def slidesB (m : Int) : Bool := knd m == 3 || knd m == 4 || knd m == 5
def goesB (m : Int) (way : Nat) : Bool :=
  if knd m = 1 then decide (4 ≤ way ∧ way < 8) && wayR way == (if m < 0 then -1 else 1)
  else if knd m = 2 then decide (8 ≤ way) else if knd m = 3 then decide (4 ≤ way ∧ way < 8) else if knd m = 4 then decide (way < 4) else if knd m = 0 then false else decide (way < 8)
def cutL (m : Int) (l : List Int) : List Int := if slidesB m then l else l.take 1
def oneL (l : List Int) : List (List Int) := if l.length = 0 then [] else [l]
def ofN (m s : Int) (n : Nat) : List (List Int) := ((List.range n).filter (goesB m)).flatMap fun w => oneL (cutL m (alongL w s))
def ofL (m s : Int) : List (List Int) := ofN m s 16
theorem ofN_succ (m s : Int) (n : Nat) : ofN m s (n + 1) = ofN m s n ++ if goesB m n then oneL (cutL m (alongL n s)) else [] := by
  unfold ofN
  rw [List.range_succ, List.filter_append, List.flatMap_append]
  cases hg : goesB m n <;> simp [hg]
theorem ofN_len (m s : Int) : ∀ n, (ofN m s n).length ≤ n
  | 0 => by simp [ofN]
  | n + 1 => by
    have := ofN_len m s n
    rw [ofN_succ, List.length_append]
    split
    · unfold oneL; split <;> simp <;> omega
    · simp; omega
theorem cutL_nil (m : Int) : cutL m [] = [] := by unfold cutL; split <;> simp
theorem ofN_off {m s : Int} (h : s < 0 ∨ 64 ≤ s) (n : Nat) : ofN m s n = [] := by
  unfold ofN
  rw [List.flatMap_eq_nil_iff]
  intro w _
  rw [alongL_off h, cutL_nil]
  rfl
/-- The document's steps of a man. -/
def stepsL (m : Int) : List (Int × Int) :=
  if knd m = 1 then [(1, m), (-1, m)]
  else if knd m = 2 then [(1, 2), (2, 1), (2, -1), (1, -2), (-1, -2), (-2, -1), (-2, 1), (-1, 2)]
  else if knd m = 3 then [(1, 1), (1, -1), (-1, -1), (-1, 1)]
  else if knd m = 4 then [(0, 1), (1, 0), (0, -1), (-1, 0)]
  else if knd m = 0 then [] else [(0, 1), (1, 0), (0, -1), (-1, 0), (1, 1), (1, -1), (-1, -1), (-1, 1)]
def ofR (m s : Int) (P : List (Int × Int)) : List (List Int) := P.flatMap fun p => oneL (cutL m (rayL s p.1 p.2))
theorem ways_steps (m : Int) (h1 : -6 ≤ m) (h2 : m ≤ 6) : ((List.range 16).filter (goesB m)).map (fun w => (wayF w, wayR w)) = stepsL m ∧ ((List.range 16).filter (goesB m)).all (fun w => decide (w < 8) || !slidesB m) = true := by
  have : m = -6 ∨ m = -5 ∨ m = -4 ∨ m = -3 ∨ m = -2 ∨ m = -1 ∨ m = 0 ∨ m = 1 ∨ m = 2 ∨ m = 3 ∨ m = 4 ∨ m = 5 ∨ m = 6 := by omega
  rcases this with rfl | rfl | rfl | rfl | rfl | rfl | rfl | rfl | rfl | rfl | rfl | rfl | rfl <;> decide +kernel
theorem knd_none {m : Int} (h : m < -6 ∨ m = 0 ∨ 6 < m) : knd m = 0 := by unfold knd; rw [if_pos h]
theorem stepsL_none {m : Int} (h : m < -6 ∨ m = 0 ∨ 6 < m) : stepsL m = [] := by unfold stepsL; rw [knd_none h]; simp
theorem goesB_none {m : Int} (h : m < -6 ∨ m = 0 ∨ 6 < m) (w : Nat) : goesB m w = false := by unfold goesB; rw [knd_none h]; simp
theorem ofR_is (m s : Int) : ofR m s (stepsL m) = ofL m s := by
  by_cases h : -6 ≤ m ∧ m ≤ 6
  · obtain ⟨e1, e2⟩ := ways_steps m h.1 h.2
    unfold ofR ofL ofN
    rw [← e1, List.flatMap_map]
    generalize (List.range 16).filter (goesB m) = L at *
    clear e1
    induction L with
    | nil => rfl
    | cons w L ih =>
      rw [List.flatMap_cons, List.flatMap_cons]
      simp only [List.all_cons, Bool.and_eq_true] at e2
      rw [ih e2.2]
      congr 2
      unfold alongL
      split
      · next h8 =>
        have : slidesB m = false := by
          have := e2.1
          simp at this
          rcases this with h | h
          · omega
          · exact h
        unfold cutL
        simp [this, List.take_take]
      · rfl
  · have h' : m < -6 ∨ m = 0 ∨ 6 < m := by omega
    rw [stepsL_none h']
    unfold ofL ofN
    rw [List.filter_eq_nil_iff.2 (fun w _ => by rw [goesB_none h']; simp)]
    rfl
/-- The squares between two. -/
def lineIn (L : List (List Int)) (b : Int) : List Int := match L.find? (fun l => l.contains b) with
  | none => []
  | some l => l.take (l.idxOf b)
def lineN (a b : Int) (n : Nat) : List Int := lineIn ((List.range' n (8 - n)).map fun w => alongL w a) b
def lineL (a b : Int) : List Int := lineN a b 0
theorem lineIn_one (L : List (List Int)) (b : Int) : lineIn (L.flatMap oneL) b = lineIn L b := by
  unfold lineIn
  congr 1
  induction L with
  | nil => rfl
  | cons l L ih =>
    rw [List.flatMap_cons]
    by_cases h : l.length = 0
    · have e : oneL l = [] := by unfold oneL; rw [if_pos h]
      rw [e, List.eq_nil_of_length_eq_zero h, List.nil_append, ih]
      rfl
    · have e : oneL l = [l] := by unfold oneL; rw [if_neg h]
      rw [e, List.singleton_append, List.find?_cons, List.find?_cons]
      split
      · rfl
      · exact ih
theorem queen_ways : (List.range 16).filter (goesB 5) = List.range' 0 (8 - 0) := by decide +kernel
theorem line_ref (a b : Int) : lineIn (ofL 5 a) b = lineL a b := by
  unfold lineL lineN ofL ofN
  rw [queen_ways, ← lineIn_one (List.map _ _), List.flatMap_map]
  rfl
theorem lineN_step (a b : Int) (n : Nat) (h : n < 8) : lineN a b n = if (alongL n a).contains b then (alongL n a).take ((alongL n a).idxOf b) else lineN a b (n + 1) := by
  unfold lineN lineIn
  rw [show 8 - n = (8 - (n + 1)) + 1 by omega, List.range'_succ, List.map_cons, List.find?_cons]
  cases hc : (alongL n a).contains b <;> simp [hc]
theorem lineN_end (a b : Int) (n : Nat) (h : 8 ≤ n) : lineN a b n = [] := by
  unfold lineN lineIn
  rw [show 8 - n = 0 by omega]
  rfl
theorem lineN_off {a b : Int} (h : a < 0 ∨ 64 ≤ a ∨ b < 0 ∨ 64 ≤ b) (n : Nat) : lineN a b n = [] := by
  unfold lineN lineIn
  have : ((List.range' n (8 - n)).map fun w => alongL w a).find? (fun l => l.contains b) = none := by
    rw [List.find?_eq_none]
    intro l hl
    obtain ⟨w, _, rfl⟩ := List.mem_map.1 hl
    intro hc
    have hm : b ∈ alongL w a := by simpa using hc
    have hb := alongL_mem hm
    rcases h with h | h | h | h
    · rw [alongL_off (.inl h)] at hm; cases hm
    · rw [alongL_off (.inr h)] at hm; cases hm
    · omega
    · omega
  rw [this]
end Go.Proofs.YtlbipjmmlobofaaGreatDoor
namespace Go.Proofs.YtlbipjmmlobofaaGreatDoor
open Go.RowKit
set_option linter.unusedVariables false
set_option linter.unusedSimpArgs false

theorem infoZ : (Tryz.prog.info? 3).map (fun i => (i.zero, i.size, i.bytes)) = some (some (.int .i64 0), 1, 8) := by kernel_rfl
theorem partsZ {P : Program} {t : TypeId} {z : Value} {n b : Nat} (h : (P.info? t).map (fun i => (i.zero, i.size, i.bytes)) = some (some z, n, b)) :
    ∃ i, P.info? t = some i ∧ i.zero = some z ∧ i.size = n ∧ i.bytes = b := by
  cases hq : P.info? t with
  | none => simp [hq] at h
  | some i => simp [hq] at h; exact ⟨i, rfl, h.1, h.2.1, h.2.2⟩
def zl (l : List Int) : List Value := l.map (Value.int .i64)
theorem zl_len (l : List Int) : (zl l).length = l.length := by simp [zl]
theorem zl_app (l k : List Int) : zl (l ++ k) = zl l ++ zl k := by simp [zl]
/-- A slice of numbers of the call's own. -/
def OwnZ (w : World) (base : Nat) (v : Value) (l : List Int) : Prop := w.ownsRow base 3 1 v l.length (zl l)
theorem OwnZ.nil (w : World) (base : Nat) : OwnZ w base (.slice none 0 0) [] := World.ownsRow_nil _ _ _ _
theorem OwnZ.kept {w w' : World} {base : Nat} {v : Value} {l : List Int} (h : OwnZ w base v l) (k : Kept w w') : OwnZ w' base v l := by
  obtain ⟨h1, h2⟩ := h
  refine ⟨h1, ?_⟩
  rcases h2 with h2 | ⟨b, cap, cur, e1, e2, e3, e4⟩
  · exact .inl h2
  · exact .inr ⟨b, cap, cur, e1, e2, k.heap e3, e4⟩
theorem OwnZ.low {w : World} {base b : Nat} {v : Value} {l : List Int} (h : OwnZ w base v l) (hb : b ≤ base) : OwnZ w b v l := by
  obtain ⟨h1, h2⟩ := h
  refine ⟨h1, ?_⟩
  rcases h2 with h2 | ⟨g, cap, cur, e1, e2, e3⟩
  · exact .inl h2
  · exact .inr ⟨g, cap, cur, e1, by omega, e3⟩
theorem OwnZ.slice {w : World} {base : Nat} {v : Value} {l : List Int} (h : OwnZ w base v l) : ∃ a cap, v = .slice a l.length cap := by
  rcases h.2 with ⟨e, h0⟩ | ⟨g, cap, cur, e, _⟩
  · exact ⟨none, 0, by rw [e, h0]⟩
  · exact ⟨_, _, e⟩
/-- A slice that reads as l, its squares in block g. -/
def LsZ (w : World) (g : Nat) (v : Value) (l : List Int) : Prop :=
  (v = .slice none 0 0 ∧ l = []) ∨ ∃ off cap, v = .slice (some ⟨g, off, none⟩) l.length cap ∧ l.length ≤ cap ∧ cap ≤ maxLen ∧ ∀ i x, l[i]? = some x → w.cell? ⟨g, off + i, none⟩ = some (.int .i64 x)
theorem LsZ.kept {w w' : World} {g : Nat} {v : Value} {l : List Int} (h : LsZ w g v l) (k : Kept w w') : LsZ w' g v l := by
  rcases h with h | ⟨off, cap, e, h1, h2, h3⟩
  · exact .inl h
  · exact .inr ⟨off, cap, e, h1, h2, fun i x hx => kept_cell k (h3 i x hx)⟩
/-- The same block, the same slice. -/
theorem LsZ.block {w w' : World} {g : Nat} {v : Value} {l : List Int} (h : LsZ w g v l) (k : w'.heap[g]? = w.heap[g]?) : LsZ w' g v l := by
  rcases h with h | ⟨off, cap, e, h1, h2, h3⟩
  · exact .inl h
  · exact .inr ⟨off, cap, e, h1, h2, fun i x hx => (World.cell?_of_block (a := ⟨g, off + i, none⟩) k).trans (h3 i x hx)⟩
theorem LsZ.slice {w : World} {g : Nat} {v : Value} {l : List Int} (h : LsZ w g v l) : ∃ a cap, v = .slice a l.length cap := by
  rcases h with ⟨e, h0⟩ | ⟨off, cap, e, _⟩
  · exact ⟨none, 0, by rw [e, h0]; rfl⟩
  · exact ⟨_, _, e⟩
theorem LsZ.full {w : World} {g : Nat} {v : Value} {l : List Int} (h : LsZ w g v l) (hl : 0 < l.length) :
    ∃ off cap, v = .slice (some ⟨g, off, none⟩) l.length cap ∧ l.length ≤ cap ∧ cap ≤ maxLen ∧ ∀ i x, l[i]? = some x → w.cell? ⟨g, off + i, none⟩ = some (.int .i64 x) := by
  rcases h with ⟨_, h0⟩ | h
  · rw [h0] at hl; simp at hl
  · exact h
theorem OwnZ.ls {w : World} {base : Nat} {v : Value} {l : List Int} (h : OwnZ w base v l) : ∃ g, LsZ w g v l ∧ (0 < l.length → base ≤ g ∧ g < w.heap.size) := by
  rcases h.2 with ⟨e, h0⟩ | ⟨g, cap, cur, e, hb, hh, hnc, hcm, hcs, ht⟩
  · exact ⟨0, .inl ⟨e, List.eq_nil_of_length_eq_zero h0⟩, fun h => by omega⟩
  · refine ⟨g, .inr ⟨0, cap, e, hnc, hcm, fun i x hx => ?_⟩, fun _ => ⟨hb, lt_of_heap hh⟩⟩
    have hi : i < l.length := by
      obtain ⟨hi, _⟩ := List.getElem?_eq_some_iff.1 hx
      exact hi
    rw [Nat.zero_add, cell_of_row w g i cur _ (0, 0) hh]
    have h2 : (cur.toList.take (l.length * 1))[i]? = (zl l)[i]? := by rw [ht]
    rw [List.getElem?_take, if_pos (by omega)] at h2
    simp only [Array.getElem?_toList] at h2
    rw [h2]
    simp [zl, hx]
theorem LsZ.take {w : World} {g : Nat} {a : Option Addr} {n cap : Nat} {l : List Int} (h : LsZ w g (.slice a n cap) l) (k : Nat) (hk : k ≤ l.length) : LsZ w g (.slice a k cap) (l.take k) := by
  rcases h with ⟨e, h0⟩ | ⟨off, cap', e, h1, h2, h3⟩
  · injection e with e1 e2 e3
    subst h0
    simp at hk
    subst hk e1 e3
    exact .inl ⟨rfl, rfl⟩
  · injection e with e1 e2 e3
    subst e1 e3
    refine .inr ⟨off, cap, by rw [List.length_take, Nat.min_eq_left hk], by rw [List.length_take]; omega, h2, fun i x hx => h3 i x ?_⟩
    rw [List.getElem?_take] at hx
    split at hx
    · exact hx
    · cases hx

/-- Is it among them? -/
def hasB (l : List Int) (x : Int) : Bool := l.contains x
theorem hasB_at {l : List Int} {x : Int} {i : Nat} (h : l[i]? = some x) : hasB l x = true := by
  unfold hasB; rw [List.contains_iff_mem]; exact List.mem_of_getElem? h
theorem hasB_none {l : List Int} {x : Int} (h : ∀ i, i < l.length → l[i]? ≠ some x) : hasB l x = false := by
  unfold hasB
  rw [Bool.eq_false_iff]
  intro hc
  rw [List.contains_iff_mem] at hc
  obtain ⟨i, hi, e⟩ := List.mem_iff_getElem.1 hc
  exact h i hi (by rw [List.getElem?_eq_getElem hi, e])
/-- The first place at which it is; -1 for none. -/
def idxI (l : List Int) (x : Int) : Int := if l.contains x then (l.idxOf x : Nat) else -1
theorem idxI_at {l : List Int} {x : Int} {i : Nat} (hno : ∀ j, j < i → l[j]? ≠ some x) (h : l[i]? = some x) : idxI l x = (i : Nat) := by
  have hm : x ∈ l := List.mem_of_getElem? h
  obtain ⟨hi, he⟩ := List.getElem?_eq_some_iff.1 h
  unfold idxI
  rw [if_pos (List.contains_iff_mem.2 hm)]
  have hlt := List.idxOf_lt_length_iff.2 hm
  have hg : l[l.idxOf x]? = some x := by rw [List.getElem?_eq_getElem hlt, List.getElem_idxOf hlt]
  have h1 : ¬ l.idxOf x < i := fun h => hno _ h hg
  have h2 : ¬ i < l.idxOf x := fun h => by
    have := List.not_of_lt_findIdx (p := (· == x)) (xs := l) (i := i) h
    simp [he] at this
  congr 1
  omega
theorem idxI_none {l : List Int} {x : Int} (h : hasB l x = false) : idxI l x = -1 := by
  unfold idxI; unfold hasB at h; rw [h]; rfl
end Go.Proofs.YtlbipjmmlobofaaGreatDoor
