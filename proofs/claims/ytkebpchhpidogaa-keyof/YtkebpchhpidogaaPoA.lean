/- Positions: how they lie in memory; how they are loaded, laid, built and compared. -/
import Derived.Test.YtkebpchhpidogaaBoR
import Derived.Laws.StructEq
namespace Go.Proofs.Ytkebpchhpidogaa
open Go.RowKit
set_option linter.unusedVariables false
set_option linter.unusedSimpArgs false

/-- A position's numbers. -/
structure Ps where
  B : List Int
  t : Int
  c : Int
  e : Int
def tlP (p : Ps) : List Value := [.int .i64 p.t, .int .i64 p.c, .int .i64 p.e]
/-- Its cells. -/
def pl (p : Ps) : List Value := cl p.B ++ tlP p
theorem pl_length {p : Ps} (h : p.B.length = 64) : (pl p).length = 67 := by simp [pl, tlP, cl_length, h]
theorem pl_size {p : Ps} (h : p.B.length = 64) : (pl p).toArray.size = 67 := by simpa using pl_length h
theorem pl_one (p : Ps) : (pl p).toArray.all (·.oneCell') = true := by
  rw [Array.all_eq_true_iff_forall_mem]
  intro v hv
  simp only [List.mem_toArray, pl, cl, tlP, List.mem_append, List.mem_map, List.mem_cons, List.not_mem_nil, or_false] at hv
  rcases hv with ⟨x, _, rfl⟩ | rfl | rfl | rfl <;> rfl
theorem sizeP : (Try.prog.info? 30).map (·.size) = some 67 := by kernel_rfl
theorem size_pl {p : Ps} (h : p.B.length = 64) : (Try.prog.info? 30).map (·.size) = some (pl p).toArray.size := by rw [sizeP, pl_size h]
/-- The position p in block g. -/
structure PAt (w : World) (g : Nat) (p : Ps) : Prop where
  len : p.B.length = 64
  at_ : w.heap[g]? = some (.cells (pl p).toArray 30 (0, 0))
theorem PAt.kept {w w' : World} {g : Nat} {p : Ps} (h : PAt w g p) (k : Kept w w') : PAt w' g p := ⟨h.len, k.heap h.at_⟩
theorem PAt.new (w : World) {p : Ps} (h : p.B.length = 64) : PAt (w.alloc (.cells (pl p).toArray 30)) w.heap.size p := ⟨h, heap_alloc_new w _⟩
theorem PAt.cellK {w : World} {g : Nat} {p : Ps} (h : PAt w g p) (k : Nat) : w.cell? ⟨g, k, none⟩ = (pl p)[k]? := by
  rw [cell_of_row _ _ k _ _ (0, 0) h.at_]; simp
theorem PAt.cellT {w : World} {g : Nat} {p : Ps} (h : PAt w g p) (k : Nat) {v : Value} (hk : (tlP p)[k]? = some v) : w.cell? ⟨g, 64 + k, none⟩ = some v := by
  have h1 := cl_length p.B
  have h2 := h.len
  rw [h.cellK]; unfold pl
  rw [List.getElem?_append_right (by omega), show 64 + k - (cl p.B).length = k by omega, hk]
theorem PAt.turn {w : World} {g : Nat} {p : Ps} (h : PAt w g p) : w.cell? ⟨g, 64, none⟩ = some (.int .i64 p.t) := h.cellT 0 rfl
theorem PAt.cas {w : World} {g : Nat} {p : Ps} (h : PAt w g p) : w.cell? ⟨g, 65, none⟩ = some (.int .i64 p.c) := h.cellT 1 rfl
theorem PAt.ep {w : World} {g : Nat} {p : Ps} (h : PAt w g p) : w.cell? ⟨g, 66, none⟩ = some (.int .i64 p.e) := h.cellT 2 rfl
theorem PAt.sq {w : World} {g : Nat} {p : Ps} (h : PAt w g p) (k : Nat) (hk : k < 64) : w.cell? ⟨g, k, none⟩ = some (.int .i8 (p.B.getD k 0)) := by
  have h1 := cl_length p.B
  have h2 := h.len
  rw [h.cellK]; unfold pl
  rw [List.getElem?_append_left (by omega), cl_get _ _ (by omega)]
theorem PAt.frozen {w : World} {g : Nat} {p : Ps} (h : PAt w g p) (k : Nat) : w.frozen? ⟨g, k, none⟩ = false := frozen_of_row w g k _ _ h.at_
theorem PAt.range {w : World} {g : Nat} {p : Ps} (h : PAt w g p) : w.rangeAt g 0 (pl p) := by
  intro j v hv
  rw [Nat.zero_add, h.cellK, hv]
theorem PAt.rangeB {w : World} {g : Nat} {p : Ps} (h : PAt w g p) : w.rangeAt g 0 (cl p.B) := by
  intro j v hv
  have hj : j < (cl p.B).length := (List.getElem?_eq_some_iff.1 hv).1
  rw [Nat.zero_add, h.cellK]; unfold pl
  rw [List.getElem?_append_left hj, hv]
theorem PAt.set {w : World} {g : Nat} {p : Ps} (h : PAt w g p) (k : Nat) (v : Value) {q : Ps} (hb : q.B = p.B) (hq : (tlP p).set k v = tlP q) : PAt (w.setCell ⟨g, 64 + k, none⟩ v) g q := by
  refine ⟨by rw [hb]; exact h.len, ?_⟩
  have hl : (cl p.B).length = 64 := by rw [cl_length, h.len]
  rw [heap_setCell_same w g (64 + k) _ _ _ h.at_]
  congr 2
  unfold pl
  rw [List.setIfInBounds_toArray, List.set_append_right _ _ (by omega), show 64 + k - (cl p.B).length = k by omega, hq, hb]
/-- Loads: of a whole position, and of its board; guarded or not. -/
theorem wpList_load_ps {ops : Array Oper} {rest : List Oper} {op : Oper} {a : Act} {w : World} {Q : Exit → Act → World → Prop} (hw : Region.wanted op (yielded ops a.tmps) = true) (x : Operand) (ho : op.op = .load 30 x)
    (g : Nat) (hx : a.eval x = .pointer (some ⟨g, 0, none⟩)) (p : Ps) (hg : PAt w g p)
    (h : wpList Try.prog ops Q rest (a.put op.dst (.agg (pl p).toArray)) w) : wpList Try.prog ops Q (op :: rest) a w :=
  wpList_step fun _ hK => by
    rw [if_pos hw]
    exact wp_load_mid 30 x ho g 0 hx (pl p) _ hg.range Try.underlying30 rfl (by rw [sizeP, pl_length hg.len]) (hK _ _ h)
theorem wpList_load_pb {ops : Array Oper} {rest : List Oper} {op : Oper} {a : Act} {w : World} {Q : Exit → Act → World → Prop} (hw : Region.wanted op (yielded ops a.tmps) = true) (x : Operand) (ho : op.op = .load 28 x)
    (g : Nat) (hx : a.eval x = .pointer (some ⟨g, 0, none⟩)) (p : Ps) (hg : PAt w g p)
    (h : wpList Try.prog ops Q rest (a.put op.dst (.agg (cl p.B).toArray)) w) : wpList Try.prog ops Q (op :: rest) a w :=
  wpList_step fun _ hK => by
    rw [if_pos hw]
    exact wp_load_mid 28 x ho g 0 hx (cl p.B) _ hg.rangeB Try.underlying28 rfl (by rw [size24, cl_length, hg.len]) (hK _ _ h)
theorem take_load_ps {ops : Array Oper} {S : World → Prop} {op : Oper} {a : Act} (hw : Region.wanted op (yielded ops a.tmps) = true) (x : Operand) (ho : op.op = .load 30 x)
    (g : Nat) (hx : a.eval x = .pointer (some ⟨g, 0, none⟩)) (p : Ps) (hB : p.B.length = 64) (hS : ∀ w, S w → PAt w g p) : YieldsIf Try.prog ops S op (.agg (pl p).toArray) a :=
  yieldsIf_load_mid hw 30 x ho g 0 hx (pl p) _ (fun w h => (hS w h).range) Try.underlying30 rfl (by rw [sizeP, pl_length hB])
theorem take_load_pb {ops : Array Oper} {S : World → Prop} {op : Oper} {a : Act} (hw : Region.wanted op (yielded ops a.tmps) = true) (x : Operand) (ho : op.op = .load 28 x)
    (g : Nat) (hx : a.eval x = .pointer (some ⟨g, 0, none⟩)) (p : Ps) (hB : p.B.length = 64) (hS : ∀ w, S w → PAt w g p) : YieldsIf Try.prog ops S op (.agg (cl p.B).toArray) a :=
  yieldsIf_load_mid hw 28 x ho g 0 hx (cl p.B) _ (fun w h => (hS w h).rangeB) Try.underlying28 rfl (by rw [size24, cl_length, hB])
/-- Nothing. -/
def Zp : Ps := ⟨Zb, 0, 0, 0⟩
theorem Zp_len : Zp.B.length = 64 := Zb_brd.1
theorem zeroP : (Try.prog.info? 30).map (fun i => (i.zero, i.size)) = some (some (.agg (pl Zp).toArray), 67) := by kernel_rfl
theorem run_zero_p (w : World) : (zeroValue 30).run Try.prog w = .ok (.agg (pl Zp).toArray) w := (zero_of_info zeroP).1 w
theorem wpList_new_p {ops : Array Oper} {rest : List Oper} {o : Oper} {a : Act} {w : World} {Q : Exit → Act → World → Prop} (hgd : o.guard = none) (ho : o.op = .alloc 30)
    (h : wpList Try.prog ops Q rest (a.put o.dst (.pointer (some ⟨w.heap.size, 0, none⟩))) (w.alloc (.cells (pl Zp).toArray 30))) : wpList Try.prog ops Q (o :: rest) a w := by
  refine wpList_plain hgd fun _ hK => ?_
  unfold Oper.wp execOp
  simp only [ho, Instr.alloc, Sem.run_bind, run_zero_p, Result.andThen_ok, newVar, newRow, Value.cells]
  exact hK _ _ h
/-- A whole position into the variable that was laid last. -/
theorem wpList_store_newp {ops : Array Oper} {rest : List Oper} {o : Oper} {a : Act} {w : World} {Q : Exit → Act → World → Prop} (hgd : o.guard = none) (x y : Operand) (ho : o.op = .store 30 x y)
    (p q : Ps) (hp : p.B.length = 64) (hq : q.B.length = 64) (hx : a.eval x = .pointer (some ⟨w.heap.size, 0, none⟩)) (hy : a.eval y = .agg (pl q).toArray)
    (h : wpList Try.prog ops Q rest (a.put o.dst undef) (w.alloc (.cells (pl q).toArray 30))) : wpList Try.prog ops Q (o :: rest) a (w.alloc (.cells (pl p).toArray 30)) := by
  refine wpList_store_row hgd 30 x y ho w.heap.size (pl q).toArray hx hy 30 _ (heap_alloc_new w _) (size_pl hq) (by rw [pl_size hp, pl_size hq]) (pl_one _) ?_
  rw [World.setRow_alloc_new]
  exact h
/-- A whole position into the block g. -/
theorem wpList_store_ps {ops : Array Oper} {rest : List Oper} {o : Oper} {a : Act} {w : World} {Q : Exit → Act → World → Prop} (hgd : o.guard = none) (x y : Operand) (ho : o.op = .store 30 x y)
    (g : Nat) (p q : Ps) (hg : PAt w g p) (hq : q.B.length = 64) (hx : a.eval x = .pointer (some ⟨g, 0, none⟩)) (hy : a.eval y = .agg (pl q).toArray)
    (h : wpList Try.prog ops Q rest (a.put o.dst undef) (w.setRow g (pl q).toArray)) : wpList Try.prog ops Q (o :: rest) a w :=
  wpList_store_row hgd 30 x y ho g (pl q).toArray hx hy 30 _ hg.at_ (size_pl hq) (by rw [pl_size hg.len, pl_size hq]) (pl_one _) h
theorem PAt.setRow {w : World} {g : Nat} {p q : Ps} (h : PAt w g p) (hq : q.B.length = 64) : PAt (w.setRow g (pl q).toArray) g q := ⟨hq, setRow_heap _ _ _ _ _ _ h.at_⟩
theorem PAt.rowOther {w : World} {g k : Nat} {p : Ps} (h : PAt w g p) (hk : g ≠ k) (c : Array Value) : PAt (w.setRow k c) g p := ⟨h.len, (setRow_other w k g c hk).trans h.at_⟩
/-- A call that gives a position. -/
def RetP (w : World) (p : Ps) (e : Ending) (w' : World) : Prop := e = .returned (.agg (pl p).toArray) ∧ Kept w w'
theorem results_p {fn : Func} {s : Tmp} (h : fn.results = #[.cell s 30]) (tmps : Array Value) {w : World} {g : Nat} {p : Ps} (hp : tmps.getD s undef = .pointer (some ⟨g, 0, none⟩)) (hg : PAt w g p) :
    (results fn tmps).run Try.prog w = .ok (.agg (pl p).toArray) w :=
  results_cell_row h tmps w g 30 _ (0, 0) _ hp hg.at_ Try.underlying30 rfl (size_pl hg.len)
/-- What is built of parts. -/
theorem fold_fill (off : Nat) : ∀ (vs old pre post : List Value) (n : Nat), off + n = pre.length → old.length = vs.length →
    (vs.zipIdx n).foldl (fun cs x => cs.setIfInBounds (off + x.2) x.1) (pre ++ old ++ post).toArray = (pre ++ vs ++ post).toArray
  | [], [], pre, post, n, _, _ => by simp
  | [], _ :: _, pre, post, n, _, hl => by simp at hl
  | _ :: _, [], pre, post, n, _, hl => by simp at hl
  | v :: vs, o :: old, pre, post, n, hn, hl => by
    rw [List.zipIdx_cons, List.foldl_cons]
    have := fold_fill off vs old (pre ++ [v]) post (n + 1) (by simp; omega) (by simpa using hl)
    rw [show (pre ++ (o :: old) ++ post).toArray.setIfInBounds (off + n) v = ((pre ++ [v]) ++ old ++ post).toArray by
      rw [List.setIfInBounds_toArray, hn]; congr 1; simp]
    rw [this]; simp
theorem fill_board (place : Nat → Option (Nat × Nat)) (B : List Int) (hB : B.length = 64) (rest : List (Nat × Value)) (h0 : place 0 = some (0, 64)) :
    Instr.fill place (pl Zp).toArray ((0, .agg (cl B).toArray) :: rest) = Instr.fill place (pl ⟨B, 0, 0, 0⟩).toArray rest := by
  have e1 : (cl B).toArray.size = 64 := by simp [cl_length, hB]
  rw [Instr.fill, h0]
  dsimp only
  have hc : (Value.agg (cl B).toArray).cells = (cl B).toArray := rfl
  rw [if_neg (by rw [hc, e1, pl_size Zp_len]; decide), hc]
  congr 1
  rw [← Array.foldl_toList, Array.toList_zipIdx]
  have := fold_fill 0 (cl B) (cl Zb) [] (tlP Zp) 0 rfl (by rw [cl_length, cl_length, hB]; rfl)
  simp only [List.nil_append] at this
  exact this
theorem fill_int (place : Nat → Option (Nat × Nat)) (B : List Int) (hB : B.length = 64) (T : List Value) (i k : Nat) (x : Int) (hk : k < T.length) (rest : List (Nat × Value)) (h0 : place i = some (64 + k, 1)) :
    Instr.fill place (cl B ++ T).toArray ((i, .int .i64 x) :: rest) = Instr.fill place (cl B ++ T.set k (.int .i64 x)).toArray rest := by
  have e1 : (cl B).length = 64 := by rw [cl_length, hB]
  rw [Instr.fill, h0]
  dsimp only
  have hc : (Value.int .i64 x).cells = #[.int .i64 x] := rfl
  rw [if_neg (by rw [hc]; simp [e1]; omega), hc]
  congr 1
  simp [List.set_append_right, e1]
theorem built_fill (parts : List (Nat × Value)) : Try.prog.built 30 parts = Instr.fill (fun i => [(0, 64), (64, 1), (65, 1), (66, 1)].toArray[i]?) (pl Zp).toArray parts := by kernel_rfl
theorem built_pos4 (B : List Int) (hB : B.length = 64) (t c e : Int) : Try.prog.built 30 [(0, .agg (cl B).toArray), (1, .int .i64 t), (2, .int .i64 c), (3, .int .i64 e)] = some (pl ⟨B, t, c, e⟩).toArray := by
  rw [built_fill, fill_board _ B hB _ rfl]
  unfold pl tlP
  rw [fill_int _ B hB _ 1 0 t (by simp) _ rfl, fill_int _ B hB _ 2 1 c (by simp) _ rfl, fill_int _ B hB _ 3 2 e (by simp) _ rfl]
  rfl
theorem built_pos3 (B : List Int) (hB : B.length = 64) (t e : Int) : Try.prog.built 30 [(0, .agg (cl B).toArray), (1, .int .i64 t), (3, .int .i64 e)] = some (pl ⟨B, t, 0, e⟩).toArray := by
  rw [built_fill, fill_board _ B hB _ rfl]
  unfold pl tlP
  rw [fill_int _ B hB _ 1 0 t (by simp) _ rfl, fill_int _ B hB _ 3 2 e (by simp) _ rfl]
  rfl
theorem wpList_built_p4 {ops : Array Oper} {rest : List Oper} {o : Oper} {a : Act} {w : World} {Q : Exit → Act → World → Prop} (hg : o.guard = none) (x0 x1 x2 x3 : Operand) (ho : o.op = .build 30 #[(0, x0), (1, x1), (2, x2), (3, x3)])
    (B : List Int) (t c e : Int) (hB : B.length = 64) (h0 : a.eval x0 = .agg (cl B).toArray) (h1 : a.eval x1 = .int .i64 t) (h2 : a.eval x2 = .int .i64 c) (h3 : a.eval x3 = .int .i64 e)
    (h : wpList Try.prog ops Q rest (a.put o.dst (.agg (pl ⟨B, t, c, e⟩).toArray)) w) : wpList Try.prog ops Q (o :: rest) a w :=
  wpList_built hg _ _ ho _ (by
    have : ((#[(0, x0), (1, x1), (2, x2), (3, x3)] : Array (Nat × Operand)).map fun (i, x) => (i, a.eval x)).toList = [(0, .agg (cl B).toArray), (1, .int .i64 t), (2, .int .i64 c), (3, .int .i64 e)] := by simp [h0, h1, h2, h3]
    rw [this]; exact built_pos4 B hB t c e) h
theorem wpList_built_p3 {ops : Array Oper} {rest : List Oper} {o : Oper} {a : Act} {w : World} {Q : Exit → Act → World → Prop} (hg : o.guard = none) (x0 x1 x3 : Operand) (ho : o.op = .build 30 #[(0, x0), (1, x1), (3, x3)])
    (B : List Int) (t e : Int) (hB : B.length = 64) (h0 : a.eval x0 = .agg (cl B).toArray) (h1 : a.eval x1 = .int .i64 t) (h3 : a.eval x3 = .int .i64 e)
    (h : wpList Try.prog ops Q rest (a.put o.dst (.agg (pl ⟨B, t, 0, e⟩).toArray)) w) : wpList Try.prog ops Q (o :: rest) a w :=
  wpList_built hg _ _ ho _ (by
    have : ((#[(0, x0), (1, x1), (3, x3)] : Array (Nat × Operand)).map fun (i, x) => (i, a.eval x)).toList = [(0, .agg (cl B).toArray), (1, .int .i64 t), (3, .int .i64 e)] := by simp [h0, h1, h3]
    rw [this]; exact built_pos3 B hB t e) h
theorem built_pos0 : Try.prog.built 30 [] = some (pl Zp).toArray := by rw [built_fill]; rfl
/-- Nothing, built; guarded or not. -/
theorem wpList_built_p0 {ops : Array Oper} {rest : List Oper} {o : Oper} {a : Act} {w : World} {Q : Exit → Act → World → Prop} (hw : Region.wanted o (yielded ops a.tmps) = true) (ho : o.op = .build 30 #[])
    (h : wpList Try.prog ops Q rest (a.put o.dst (.agg (pl Zp).toArray)) w) : wpList Try.prog ops Q (o :: rest) a w :=
  wpList_step fun _ hK => by
    rw [if_pos hw]
    have hf : Try.prog.built 30 ((#[] : Array (Nat × Operand)).map fun (i, x) => (i, a.eval x)).toList = some (pl Zp).toArray := by
      have : ((#[] : Array (Nat × Operand)).map fun (i, x) => (i, a.eval x)).toList = [] := by simp
      rw [this]; exact built_pos0
    exact wp_build _ _ ho (by rw [hf]; rfl) (by rw [hf]; exact hK _ _ h)
/-- Two positions compared. -/
def beqP (p q : Ps) : Bool := beqB p.B q.B && (p.t == q.t) && (p.c == q.c) && (p.e == q.e)
theorem beqP_refl (p : Ps) : beqP p p = true := by simp [beqP, beqB_refl]
theorem fieldsP : (Try.prog.fieldsOf 30).toList.map (fun f => (f.name == "_", f.type, f.offset)) = [(false, 28, 0), (false, 3, 64), (false, 3, 65), (false, 3, 66)] := by kernel_rfl
theorem stoodP : Try.prog.stoodInHeld 30 = false := by kernel_rfl
theorem eqGuardP : Try.prog.eqGuardType Try.prog.depth 30 = false := by kernel_rfl
theorem run_part_b {p : Ps} (h : p.B.length = 64) (w : World) : (part 28 (pl p).toArray 0).run Try.prog w = .ok (.agg (cl p.B).toArray) w := by
  have hs : (sizeOf 28).run Try.prog w = .ok 64 w := by
    cases hq : Try.prog.info? 28 with
    | none => have := size24; simp [hq] at this
    | some i => have := size24; simp [hq] at this; simp [sizeOf, typeInfo, hq, this]
  have hl : (cl p.B).length = 64 := by rw [cl_length, h]
  simp only [part, isAgg, Sem.run_bind, run_underlying Try.underlying28, Result.andThen_ok, Sem.run_pure, if_true, hs]
  simp [pl, List.take_append, hl]
theorem run_part_i {p : Ps} (h : p.B.length = 64) (k : Nat) {x : Int} (hk : (tlP p)[k]? = some (.int .i64 x)) (w : World) : (part 3 (pl p).toArray (64 + k)).run Try.prog w = .ok (.int .i64 x) w := by
  have hl : (cl p.B).length = 64 := by rw [cl_length, h]
  have h2 : (pl p)[64 + k]? = some (.int .i64 x) := by
    unfold pl
    rw [List.getElem?_append_right (by omega), show 64 + k - (cl p.B).length = k by omega, hk]
  simp [part, isAgg, run_underlying Try.underlying3, h2]
theorem run_equal_p {p q : Ps} (hp : p.B.length = 64) (hq : q.B.length = 64) (w : World) :
    (Op.equalIn 10000 30 (.agg (pl p).toArray) (.agg (pl q).toArray)).run Try.prog w = .ok (beqP p q) w := by
  have hu : Try.prog.underlying 30 = some (.struct (Try.prog.fieldsOf 30)) := by kernel_rfl
  rw [run_equalIn_struct w 9999 _ _ _ hu stoodP]
  obtain ⟨f0, f1, f2, f3, hf, n0, t0, o0, n1, t1, o1, n2, t2, o2, n3, t3, o3⟩ : ∃ f0 f1 f2 f3, (Try.prog.fieldsOf 30).toList = [f0, f1, f2, f3] ∧ f0.name ≠ "_" ∧ f0.type = 28 ∧ f0.offset = 0 ∧
      f1.name ≠ "_" ∧ f1.type = 3 ∧ f1.offset = 64 ∧ f2.name ≠ "_" ∧ f2.type = 3 ∧ f2.offset = 65 ∧ f3.name ≠ "_" ∧ f3.type = 3 ∧ f3.offset = 66 := by
    have h := fieldsP
    generalize (Try.prog.fieldsOf 30).toList = fs at h
    have hl : fs.length = 4 := by simpa using congrArg List.length h
    match fs, hl with
    | [f0, f1, f2, f3], _ =>
      simp only [List.map_cons, List.map_nil, List.cons.injEq, Prod.mk.injEq, beq_eq_false_iff_ne, and_true] at h
      exact ⟨f0, f1, f2, f3, rfl, h.1.1, h.1.2.1, h.1.2.2, h.2.1.1, h.2.1.2.1, h.2.1.2.2, h.2.2.1.1, h.2.2.1.2.1, h.2.2.1.2.2, h.2.2.2.1, h.2.2.2.2.1, h.2.2.2.2.2⟩
  have i8 : ∀ a b : Int, (Op.equalIn 9999 3 (.int .i64 a) (.int .i64 b)).run Try.prog w = .ok (a == b) w := fun a b => run_equalIn_int w 9998 _ _ _ a b Try.underlying3
  have eb : (Op.equalIn 9999 28 (.agg (cl p.B).toArray) (.agg (cl q.B).toArray)).run Try.prog w = .ok (beqB p.B q.B) w := by
    obtain ⟨i, hi⟩ : ∃ i, Try.prog.info? 26 = some i := by
      cases hq : Try.prog.info? 26 with
      | none => have := info22; simp [hq] at this
      | some i => exact ⟨i, rfl⟩
    rw [run_equalIn_array w 9998 _ _ Try.underlying28 hi, cells22]
    exact run_eqItems_cl 9997 p.B q.B hp hq w _ (fun i hi => by simpa using hi)
  have a1 := run_part_i hp 0 (show (tlP p)[0]? = some (.int .i64 p.t) from rfl) w
  have a2 := run_part_i hp 1 (show (tlP p)[1]? = some (.int .i64 p.c) from rfl) w
  have a3 := run_part_i hp 2 (show (tlP p)[2]? = some (.int .i64 p.e) from rfl) w
  have b1 := run_part_i hq 0 (show (tlP q)[0]? = some (.int .i64 q.t) from rfl) w
  have b2 := run_part_i hq 1 (show (tlP q)[1]? = some (.int .i64 q.c) from rfl) w
  have b3 := run_part_i hq 2 (show (tlP q)[2]? = some (.int .i64 q.e) from rfl) w
  rw [hf]
  unfold beqP
  rw [Op.eqFields, if_pos n0]
  simp only [Sem.run_bind, t0, o0, run_part_b hp, run_part_b hq, Result.andThen_ok, eb]
  cases beqB p.B q.B
  · simp
  · simp only [Bool.not_true, Bool.false_eq_true, if_false, Bool.true_and]
    rw [Op.eqFields, if_pos n1]
    simp only [Sem.run_bind, t1, o1, a1, b1, Result.andThen_ok, i8]
    cases p.t == q.t
    · simp
    · simp only [Bool.not_true, Bool.false_eq_true, if_false, Bool.true_and]
      rw [Op.eqFields, if_pos n2]
      simp only [Sem.run_bind, t2, o2, a2, b2, Result.andThen_ok, i8]
      cases p.c == q.c
      · simp
      · simp only [Bool.not_true, Bool.false_eq_true, if_false, Bool.true_and]
        rw [Op.eqFields, if_pos n3]
        simp only [Sem.run_bind, t3, o3, a3, b3, Result.andThen_ok, i8]
        cases p.e == q.e
        · simp
        · simp [Op.eqFields]
theorem run_eql_p {p q : Ps} (hp : p.B.length = 64) (hq : q.B.length = 64) (w : World) : (binOp .eql 30 (.agg (pl p).toArray) (.agg (pl q).toArray)).run Try.prog w = .ok (.bool (beqP p q)) w := by
  rw [run_eql_struct, run_equal_p hp hq]; rfl
theorem take_eql_p {ops : Array Oper} {S : World → Prop} {op : Oper} {a : Act} {b : Bool} (hw : Region.wanted op (yielded ops a.tmps) = true) (x y : Operand) (ty : TypeId) (ho : op.op = .binOp .eql 30 x y ty)
    (p q : Ps) (hx : a.eval x = .agg (pl p).toArray) (hy : a.eval y = .agg (pl q).toArray) (h : p.B.length = 64 ∧ q.B.length = 64 ∧ beqP p q = b) : YieldsIf Try.prog ops S op (.bool b) a :=
  .inl ⟨hw, fun w _ => by
    unfold execOp
    simp only [ho, hx, hy, Sem.run_bind, run_eqGuard_agg w _ _ _ _ _ _ eqGuardP, run_eql_p h.1 h.2.1, Result.andThen_ok, Sem.run_pure, h.2.2]⟩
theorem wpList_eql_p {ops : Array Oper} {rest : List Oper} {o : Oper} {a : Act} {w : World} {Q : Exit → Act → World → Prop} {b : Bool} (hw : Region.wanted o (yielded ops a.tmps) = true) (x y : Operand) (ty : TypeId) (ho : o.op = .binOp .eql 30 x y ty)
    (p q : Ps) (hx : a.eval x = .agg (pl p).toArray) (hy : a.eval y = .agg (pl q).toArray) (h : p.B.length = 64 ∧ q.B.length = 64 ∧ beqP p q = b)
    (hk : wpList Try.prog ops Q rest (a.put o.dst (.bool b)) w) : wpList Try.prog ops Q (o :: rest) a w :=
  wpList_step fun _ hK => by
    rw [if_pos hw]
    unfold Oper.wp execOp
    simp only [ho, hx, hy, Sem.run_bind, run_eqGuard_agg w _ _ _ _ _ _ eqGuardP, run_eql_p h.1 h.2.1, Result.andThen_ok, Sem.run_pure, h.2.2, Oper.upon_value]
    exact hK _ _ hk
end Go.Proofs.Ytkebpchhpidogaa
