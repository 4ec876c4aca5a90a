/- Turned: the board's and the document's · The walk of BoardTurns · Positions: how they lie in memory; how they are loaded, laid, built and compared · Keys, numbers alone: numbers of 64 bits added without carry; how a number is turned about; what a position's parts add; what is left of two keys. -/
import Derived.Test.YtkebpchhpidogaaGreatDoorPkA04
import Derived.Laws.StructEq
import Derived.Laws.Bits64
import Derived.Laws.BitsLemmas
namespace Go.Proofs.YtkebpchhpidogaaGreatDoor
open Go.RowKit
set_option linter.unusedVariables false
set_option linter.unusedSimpArgs false
set_option maxRecDepth 100000

theorem heap3 (w : World) (A B C : Obj) : (((w.alloc A).alloc B).alloc C).heap[w.heap.size]? = some A ∧ (((w.alloc A).alloc B).alloc C).heap[w.heap.size + 1]? = some B ∧ (((w.alloc A).alloc B).alloc C).heap[w.heap.size + 2]? = some C := by
  have e1 : (w.alloc A).heap.size = w.heap.size + 1 := by simp
  have e2 : ((w.alloc A).alloc B).heap.size = w.heap.size + 2 := by simp
  refine ⟨?_, ?_, ?_⟩
  · rw [Below.heap_alloc _ C _ (by omega)]; exact heap_alloc2_old w A B
  · rw [Below.heap_alloc _ C _ (by omega)]; exact heap_alloc2_new w A B
  · rw [← e2]; exact heap_alloc_new _ C
end Go.Proofs.YtkebpchhpidogaaGreatDoor
namespace Go.Proofs.YtkebpchhpidogaaGreatDoor
open Go.RowKit
set_option linter.unusedVariables false
set_option linter.unusedSimpArgs false
set_option maxRecDepth 100000

theorem wrong_turned (B : List Int) (hB : Brd B) (w : World) : Calls Tryz.prog 35 #[.agg (cl (turnL B)).toArray] w fun e w' => e = .returned (.int .i64 (wrongI B)) ∧ Kept w w' := by
  have := wrong_is (turnL B) (turn_brd hB) w
  rwa [wrong_turn hB] at this
theorem wrong_first_b (w : World) : Calls Tryz.prog 35 #[.agg (cl Fb).toArray] w fun e w' => e = .returned (.int .i64 0) ∧ Kept w w' := by
  have := wrong_is Fb Fb_brd w
  rwa [wrong_first] at this
end Go.Proofs.YtkebpchhpidogaaGreatDoor
namespace Go.Proofs.YtkebpchhpidogaaGreatDoor
open Go.RowKit
set_option linter.unusedVariables false
set_option linter.unusedSimpArgs false

/-- A position's numbers. -/
structure Ps where
  B : List Int
  t : Int
  c : Int
  e : Int
def tlP (p : Ps) : List Value := [.int .i64 p.t, .int .i64 p.c, .int .i64 p.e]
/-- Its cells. -/
def pl (p : Ps) : List Value := cl p.B ++ tlP p
theorem pl_length {p : Ps} (h : p.B.length = 64) : (pl p).length = 67 := by simp [pl, tlP, cl_length, h]
theorem pl_size {p : Ps} (h : p.B.length = 64) : (pl p).toArray.size = 67 := by simpa using pl_length h
theorem pl_one (p : Ps) : (pl p).toArray.all (·.oneCell') = true := by
  rw [Array.all_eq_true_iff_forall_mem]
  intro v hv
  simp only [List.mem_toArray, pl, cl, tlP, List.mem_append, List.mem_map, List.mem_cons, List.not_mem_nil, or_false] at hv
  rcases hv with ⟨x, _, rfl⟩ | rfl | rfl | rfl <;> rfl
theorem sizeP : (Tryz.prog.info? 26).map (·.size) = some 67 := by kernel_rfl
theorem size_pl {p : Ps} (h : p.B.length = 64) : (Tryz.prog.info? 26).map (·.size) = some (pl p).toArray.size := by rw [sizeP, pl_size h]
/-- The position p in block g. -/
structure PAt (w : World) (g : Nat) (p : Ps) : Prop where
  len : p.B.length = 64
  at_ : w.heap[g]? = some (.cells (pl p).toArray 26 (0, 0))
theorem PAt.kept {w w' : World} {g : Nat} {p : Ps} (h : PAt w g p) (k : Kept w w') : PAt w' g p := ⟨h.len, k.heap h.at_⟩
theorem PAt.new (w : World) {p : Ps} (h : p.B.length = 64) : PAt (w.alloc (.cells (pl p).toArray 26)) w.heap.size p := ⟨h, heap_alloc_new w _⟩
theorem PAt.cellK {w : World} {g : Nat} {p : Ps} (h : PAt w g p) (k : Nat) : w.cell? ⟨g, k, none⟩ = (pl p)[k]? := by
  rw [cell_of_row _ _ k _ _ (0, 0) h.at_]; simp
theorem PAt.cellT {w : World} {g : Nat} {p : Ps} (h : PAt w g p) (k : Nat) {v : Value} (hk : (tlP p)[k]? = some v) : w.cell? ⟨g, 64 + k, none⟩ = some v := by
  have h1 := cl_length p.B
  have h2 := h.len
  rw [h.cellK]; unfold pl
  rw [List.getElem?_append_right (by omega), show 64 + k - (cl p.B).length = k by omega, hk]
theorem PAt.turn {w : World} {g : Nat} {p : Ps} (h : PAt w g p) : w.cell? ⟨g, 64, none⟩ = some (.int .i64 p.t) := h.cellT 0 rfl
theorem PAt.cas {w : World} {g : Nat} {p : Ps} (h : PAt w g p) : w.cell? ⟨g, 65, none⟩ = some (.int .i64 p.c) := h.cellT 1 rfl
theorem PAt.ep {w : World} {g : Nat} {p : Ps} (h : PAt w g p) : w.cell? ⟨g, 66, none⟩ = some (.int .i64 p.e) := h.cellT 2 rfl
theorem PAt.sq {w : World} {g : Nat} {p : Ps} (h : PAt w g p) (k : Nat) (hk : k < 64) : w.cell? ⟨g, k, none⟩ = some (.int .i8 (p.B.getD k 0)) := by
  have h1 := cl_length p.B
  have h2 := h.len
  rw [h.cellK]; unfold pl
  rw [List.getElem?_append_left (by omega), cl_get _ _ (by omega)]
theorem PAt.frozen {w : World} {g : Nat} {p : Ps} (h : PAt w g p) (k : Nat) : w.frozen? ⟨g, k, none⟩ = false := frozen_of_row w g k _ _ h.at_
theorem PAt.range {w : World} {g : Nat} {p : Ps} (h : PAt w g p) : w.rangeAt g 0 (pl p) := by
  intro j v hv
  rw [Nat.zero_add, h.cellK, hv]
theorem PAt.rangeB {w : World} {g : Nat} {p : Ps} (h : PAt w g p) : w.rangeAt g 0 (cl p.B) := by
  intro j v hv
  have hj : j < (cl p.B).length := (List.getElem?_eq_some_iff.1 hv).1
  rw [Nat.zero_add, h.cellK]; unfold pl
  rw [List.getElem?_append_left hj, hv]
theorem PAt.set {w : World} {g : Nat} {p : Ps} (h : PAt w g p) (k : Nat) (v : Value) {q : Ps} (hb : q.B = p.B) (hq : (tlP p).set k v = tlP q) : PAt (w.setCell ⟨g, 64 + k, none⟩ v) g q := by
  refine ⟨by rw [hb]; exact h.len, ?_⟩
  have hl : (cl p.B).length = 64 := by rw [cl_length, h.len]
  rw [heap_setCell_same w g (64 + k) _ _ _ h.at_]
  congr 2
  unfold pl
  rw [List.setIfInBounds_toArray, List.set_append_right _ _ (by omega), show 64 + k - (cl p.B).length = k by omega, hq, hb]
/-- Loads: of a whole position, and of its board; guarded or not. -/
theorem wpList_load_ps {ops : Array Oper} {rest : List Oper} {op : Oper} {a : Act} {w : World} {Q : Exit → Act → World → Prop} (hw : Region.wanted op (yielded ops a.tmps) = true) (x : Operand) (ho : op.op = .load 26 x)
    (g : Nat) (hx : a.eval x = .pointer (some ⟨g, 0, none⟩)) (p : Ps) (hg : PAt w g p)
    (h : wpList Tryz.prog ops Q rest (a.put op.dst (.agg (pl p).toArray)) w) : wpList Tryz.prog ops Q (op :: rest) a w :=
  wpList_step fun _ hK => by
    rw [if_pos hw]
    exact wp_load_mid 26 x ho g 0 hx (pl p) _ hg.range Tryz.underlying26 rfl (by rw [sizeP, pl_length hg.len]) (hK _ _ h)
theorem wpList_load_pb {ops : Array Oper} {rest : List Oper} {op : Oper} {a : Act} {w : World} {Q : Exit → Act → World → Prop} (hw : Region.wanted op (yielded ops a.tmps) = true) (x : Operand) (ho : op.op = .load 24 x)
    (g : Nat) (hx : a.eval x = .pointer (some ⟨g, 0, none⟩)) (p : Ps) (hg : PAt w g p)
    (h : wpList Tryz.prog ops Q rest (a.put op.dst (.agg (cl p.B).toArray)) w) : wpList Tryz.prog ops Q (op :: rest) a w :=
  wpList_step fun _ hK => by
    rw [if_pos hw]
    exact wp_load_mid 24 x ho g 0 hx (cl p.B) _ hg.rangeB Tryz.underlying24 rfl (by rw [size24, cl_length, hg.len]) (hK _ _ h)
theorem take_load_ps {ops : Array Oper} {S : World → Prop} {op : Oper} {a : Act} (hw : Region.wanted op (yielded ops a.tmps) = true) (x : Operand) (ho : op.op = .load 26 x)
    (g : Nat) (hx : a.eval x = .pointer (some ⟨g, 0, none⟩)) (p : Ps) (hB : p.B.length = 64) (hS : ∀ w, S w → PAt w g p) : YieldsIf Tryz.prog ops S op (.agg (pl p).toArray) a :=
  yieldsIf_load_mid hw 26 x ho g 0 hx (pl p) _ (fun w h => (hS w h).range) Tryz.underlying26 rfl (by rw [sizeP, pl_length hB])
theorem take_load_pb {ops : Array Oper} {S : World → Prop} {op : Oper} {a : Act} (hw : Region.wanted op (yielded ops a.tmps) = true) (x : Operand) (ho : op.op = .load 24 x)
    (g : Nat) (hx : a.eval x = .pointer (some ⟨g, 0, none⟩)) (p : Ps) (hB : p.B.length = 64) (hS : ∀ w, S w → PAt w g p) : YieldsIf Tryz.prog ops S op (.agg (cl p.B).toArray) a :=
  yieldsIf_load_mid hw 24 x ho g 0 hx (cl p.B) _ (fun w h => (hS w h).rangeB) Tryz.underlying24 rfl (by rw [size24, cl_length, hB])
/-- Nothing. -/
def Zp : Ps := ⟨Zb, 0, 0, 0⟩
theorem Zp_len : Zp.B.length = 64 := Zb_brd.1
theorem zeroP : (Tryz.prog.info? 26).map (fun i => (i.zero, i.size)) = some (some (.agg (pl Zp).toArray), 67) := by kernel_rfl
theorem run_zero_p (w : World) : (zeroValue 26).run Tryz.prog w = .ok (.agg (pl Zp).toArray) w := (zero_of_info zeroP).1 w
theorem wpList_new_p {ops : Array Oper} {rest : List Oper} {o : Oper} {a : Act} {w : World} {Q : Exit → Act → World → Prop} (hgd : o.guard = none) (ho : o.op = .alloc 26)
    (h : wpList Tryz.prog ops Q rest (a.put o.dst (.pointer (some ⟨w.heap.size, 0, none⟩))) (w.alloc (.cells (pl Zp).toArray 26))) : wpList Tryz.prog ops Q (o :: rest) a w := by
  refine wpList_plain hgd fun _ hK => ?_
  unfold Oper.wp execOp
  simp only [ho, Instr.alloc, Sem.run_bind, run_zero_p, Result.andThen_ok, newVar, newRow, Value.cells]
  exact hK _ _ h
/-- A whole position into the variable that was laid last. -/
theorem wpList_store_newp {ops : Array Oper} {rest : List Oper} {o : Oper} {a : Act} {w : World} {Q : Exit → Act → World → Prop} (hgd : o.guard = none) (x y : Operand) (ho : o.op = .store 26 x y)
    (p q : Ps) (hp : p.B.length = 64) (hq : q.B.length = 64) (hx : a.eval x = .pointer (some ⟨w.heap.size, 0, none⟩)) (hy : a.eval y = .agg (pl q).toArray)
    (h : wpList Tryz.prog ops Q rest (a.put o.dst undef) (w.alloc (.cells (pl q).toArray 26))) : wpList Tryz.prog ops Q (o :: rest) a (w.alloc (.cells (pl p).toArray 26)) := by
  refine wpList_store_row hgd 26 x y ho w.heap.size (pl q).toArray hx hy 26 _ (heap_alloc_new w _) (size_pl hq) (by rw [pl_size hp, pl_size hq]) (pl_one _) ?_
  rw [World.setRow_alloc_new]
  exact h
/-- A whole position into the block g. -/
theorem wpList_store_ps {ops : Array Oper} {rest : List Oper} {o : Oper} {a : Act} {w : World} {Q : Exit → Act → World → Prop} (hgd : o.guard = none) (x y : Operand) (ho : o.op = .store 26 x y)
    (g : Nat) (p q : Ps) (hg : PAt w g p) (hq : q.B.length = 64) (hx : a.eval x = .pointer (some ⟨g, 0, none⟩)) (hy : a.eval y = .agg (pl q).toArray)
    (h : wpList Tryz.prog ops Q rest (a.put o.dst undef) (w.setRow g (pl q).toArray)) : wpList Tryz.prog ops Q (o :: rest) a w :=
  wpList_store_row hgd 26 x y ho g (pl q).toArray hx hy 26 _ hg.at_ (size_pl hq) (by rw [pl_size hg.len, pl_size hq]) (pl_one _) h
theorem PAt.setRow {w : World} {g : Nat} {p q : Ps} (h : PAt w g p) (hq : q.B.length = 64) : PAt (w.setRow g (pl q).toArray) g q := ⟨hq, setRow_heap _ _ _ _ _ _ h.at_⟩
theorem PAt.rowOther {w : World} {g k : Nat} {p : Ps} (h : PAt w g p) (hk : g ≠ k) (c : Array Value) : PAt (w.setRow k c) g p := ⟨h.len, (setRow_other w k g c hk).trans h.at_⟩
/-- A call that gives a position. -/
def RetP (w : World) (p : Ps) (e : Ending) (w' : World) : Prop := e = .returned (.agg (pl p).toArray) ∧ Kept w w'
theorem results_p {fn : Func} {s : Tmp} (h : fn.results = #[.cell s 26]) (tmps : Array Value) {w : World} {g : Nat} {p : Ps} (hp : tmps.getD s undef = .pointer (some ⟨g, 0, none⟩)) (hg : PAt w g p) :
    (results fn tmps).run Tryz.prog w = .ok (.agg (pl p).toArray) w :=
  results_cell_row h tmps w g 26 _ (0, 0) _ hp hg.at_ Tryz.underlying26 rfl (size_pl hg.len)
/-- What is built of parts. -/
theorem fold_fill (off : Nat) : ∀ (vs old pre post : List Value) (n : Nat), off + n = pre.length → old.length = vs.length →
    (vs.zipIdx n).foldl (fun cs x => cs.setIfInBounds (off + x.2) x.1) (pre ++ old ++ post).toArray = (pre ++ vs ++ post).toArray
  | [], [], pre, post, n, _, _ => by simp
  | [], _ :: _, pre, post, n, _, hl => by simp at hl
  | _ :: _, [], pre, post, n, _, hl => by simp at hl
  | v :: vs, o :: old, pre, post, n, hn, hl => by
    rw [List.zipIdx_cons, List.foldl_cons]
    have := fold_fill off vs old (pre ++ [v]) post (n + 1) (by simp; omega) (by simpa using hl)
    rw [show (pre ++ (o :: old) ++ post).toArray.setIfInBounds (off + n) v = ((pre ++ [v]) ++ old ++ post).toArray by
      rw [List.setIfInBounds_toArray, hn]; congr 1; simp]
    rw [this]; simp
theorem fill_board (place : Nat → Option (Nat × Nat)) (B : List Int) (hB : B.length = 64) (rest : List (Nat × Value)) (h0 : place 0 = some (0, 64)) :
    Instr.fill place (pl Zp).toArray ((0, .agg (cl B).toArray) :: rest) = Instr.fill place (pl ⟨B, 0, 0, 0⟩).toArray rest := by
  have e1 : (cl B).toArray.size = 64 := by simp [cl_length, hB]
  rw [Instr.fill, h0]
  dsimp only
  have hc : (Value.agg (cl B).toArray).cells = (cl B).toArray := rfl
  rw [if_neg (by rw [hc, e1, pl_size Zp_len]; decide), hc]
  congr 1
  rw [← Array.foldl_toList, Array.toList_zipIdx]
  have := fold_fill 0 (cl B) (cl Zb) [] (tlP Zp) 0 rfl (by rw [cl_length, cl_length, hB]; rfl)
  simp only [List.nil_append] at this
  exact this
theorem fill_int (place : Nat → Option (Nat × Nat)) (B : List Int) (hB : B.length = 64) (T : List Value) (i k : Nat) (x : Int) (hk : k < T.length) (rest : List (Nat × Value)) (h0 : place i = some (64 + k, 1)) :
    Instr.fill place (cl B ++ T).toArray ((i, .int .i64 x) :: rest) = Instr.fill place (cl B ++ T.set k (.int .i64 x)).toArray rest := by
  have e1 : (cl B).length = 64 := by rw [cl_length, hB]
  rw [Instr.fill, h0]
  dsimp only
  have hc : (Value.int .i64 x).cells = #[.int .i64 x] := rfl
  rw [if_neg (by rw [hc]; simp [e1]; omega), hc]
  congr 1
  simp [List.set_append_right, e1]
theorem built_fill (parts : List (Nat × Value)) : Tryz.prog.built 26 parts = Instr.fill (fun i => [(0, 64), (64, 1), (65, 1), (66, 1)].toArray[i]?) (pl Zp).toArray parts := by kernel_rfl
theorem built_pos4 (B : List Int) (hB : B.length = 64) (t c e : Int) : Tryz.prog.built 26 [(0, .agg (cl B).toArray), (1, .int .i64 t), (2, .int .i64 c), (3, .int .i64 e)] = some (pl ⟨B, t, c, e⟩).toArray := by
  rw [built_fill, fill_board _ B hB _ rfl]
  unfold pl tlP
  rw [fill_int _ B hB _ 1 0 t (by simp) _ rfl, fill_int _ B hB _ 2 1 c (by simp) _ rfl, fill_int _ B hB _ 3 2 e (by simp) _ rfl]
  rfl
theorem built_pos3 (B : List Int) (hB : B.length = 64) (t e : Int) : Tryz.prog.built 26 [(0, .agg (cl B).toArray), (1, .int .i64 t), (3, .int .i64 e)] = some (pl ⟨B, t, 0, e⟩).toArray := by
  rw [built_fill, fill_board _ B hB _ rfl]
  unfold pl tlP
  rw [fill_int _ B hB _ 1 0 t (by simp) _ rfl, fill_int _ B hB _ 3 2 e (by simp) _ rfl]
  rfl
theorem wpList_built_p4 {ops : Array Oper} {rest : List Oper} {o : Oper} {a : Act} {w : World} {Q : Exit → Act → World → Prop} (hg : o.guard = none) (x0 x1 x2 x3 : Operand) (ho : o.op = .build 26 #[(0, x0), (1, x1), (2, x2), (3, x3)])
    (B : List Int) (t c e : Int) (hB : B.length = 64) (h0 : a.eval x0 = .agg (cl B).toArray) (h1 : a.eval x1 = .int .i64 t) (h2 : a.eval x2 = .int .i64 c) (h3 : a.eval x3 = .int .i64 e)
    (h : wpList Tryz.prog ops Q rest (a.put o.dst (.agg (pl ⟨B, t, c, e⟩).toArray)) w) : wpList Tryz.prog ops Q (o :: rest) a w :=
  wpList_built hg _ _ ho _ (by
    have : ((#[(0, x0), (1, x1), (2, x2), (3, x3)] : Array (Nat × Operand)).map fun (i, x) => (i, a.eval x)).toList = [(0, .agg (cl B).toArray), (1, .int .i64 t), (2, .int .i64 c), (3, .int .i64 e)] := by simp [h0, h1, h2, h3]
    rw [this]; exact built_pos4 B hB t c e) h
theorem wpList_built_p3 {ops : Array Oper} {rest : List Oper} {o : Oper} {a : Act} {w : World} {Q : Exit → Act → World → Prop} (hg : o.guard = none) (x0 x1 x3 : Operand) (ho : o.op = .build 26 #[(0, x0), (1, x1), (3, x3)])
    (B : List Int) (t e : Int) (hB : B.length = 64) (h0 : a.eval x0 = .agg (cl B).toArray) (h1 : a.eval x1 = .int .i64 t) (h3 : a.eval x3 = .int .i64 e)
    (h : wpList Tryz.prog ops Q rest (a.put o.dst (.agg (pl ⟨B, t, 0, e⟩).toArray)) w) : wpList Tryz.prog ops Q (o :: rest) a w :=
  wpList_built hg _ _ ho _ (by
    have : ((#[(0, x0), (1, x1), (3, x3)] : Array (Nat × Operand)).map fun (i, x) => (i, a.eval x)).toList = [(0, .agg (cl B).toArray), (1, .int .i64 t), (3, .int .i64 e)] := by simp [h0, h1, h3]
    rw [this]; exact built_pos3 B hB t e) h
theorem built_pos0 : Tryz.prog.built 26 [] = some (pl Zp).toArray := by rw [built_fill]; rfl
/-- Nothing, built; guarded or not. -/
theorem wpList_built_p0 {ops : Array Oper} {rest : List Oper} {o : Oper} {a : Act} {w : World} {Q : Exit → Act → World → Prop} (hw : Region.wanted o (yielded ops a.tmps) = true) (ho : o.op = .build 26 #[])
    (h : wpList Tryz.prog ops Q rest (a.put o.dst (.agg (pl Zp).toArray)) w) : wpList Tryz.prog ops Q (o :: rest) a w :=
  wpList_step fun _ hK => by
    rw [if_pos hw]
    have hf : Tryz.prog.built 26 ((#[] : Array (Nat × Operand)).map fun (i, x) => (i, a.eval x)).toList = some (pl Zp).toArray := by
      have : ((#[] : Array (Nat × Operand)).map fun (i, x) => (i, a.eval x)).toList = [] := by simp
      rw [this]; exact built_pos0
    exact wp_build _ _ ho (by rw [hf]; rfl) (by rw [hf]; exact hK _ _ h)
/-- Two positions compared. -/
def beqP (p q : Ps) : Bool := beqB p.B q.B && (p.t == q.t) && (p.c == q.c) && (p.e == q.e)
theorem beqP_refl (p : Ps) : beqP p p = true := by simp [beqP, beqB_refl]
theorem fieldsP : (Tryz.prog.fieldsOf 26).toList.map (fun f => (f.name == "_", f.type, f.offset)) = [(false, 24, 0), (false, 3, 64), (false, 3, 65), (false, 3, 66)] := by kernel_rfl
theorem stoodP : Tryz.prog.stoodInHeld 26 = false := by kernel_rfl
theorem eqGuardP : Tryz.prog.eqGuardType Tryz.prog.depth 26 = false := by kernel_rfl
theorem run_part_b {p : Ps} (h : p.B.length = 64) (w : World) : (part 24 (pl p).toArray 0).run Tryz.prog w = .ok (.agg (cl p.B).toArray) w := by
  have hs : (sizeOf 24).run Tryz.prog w = .ok 64 w := by
    cases hq : Tryz.prog.info? 24 with
    | none => have := size24; simp [hq] at this
    | some i => have := size24; simp [hq] at this; simp [sizeOf, typeInfo, hq, this]
  have hl : (cl p.B).length = 64 := by rw [cl_length, h]
  simp only [part, isAgg, Sem.run_bind, run_underlying Tryz.underlying24, Result.andThen_ok, Sem.run_pure, if_true, hs]
  simp [pl, List.take_append, hl]
theorem run_part_i {p : Ps} (h : p.B.length = 64) (k : Nat) {x : Int} (hk : (tlP p)[k]? = some (.int .i64 x)) (w : World) : (part 3 (pl p).toArray (64 + k)).run Tryz.prog w = .ok (.int .i64 x) w := by
  have hl : (cl p.B).length = 64 := by rw [cl_length, h]
  have h2 : (pl p)[64 + k]? = some (.int .i64 x) := by
    unfold pl
    rw [List.getElem?_append_right (by omega), show 64 + k - (cl p.B).length = k by omega, hk]
  simp [part, isAgg, run_underlying Tryz.underlying3, h2]
theorem run_equal_p {p q : Ps} (hp : p.B.length = 64) (hq : q.B.length = 64) (w : World) :
    (Op.equalIn 10000 26 (.agg (pl p).toArray) (.agg (pl q).toArray)).run Tryz.prog w = .ok (beqP p q) w := by
  have hu : Tryz.prog.underlying 26 = some (.struct (Tryz.prog.fieldsOf 26)) := by kernel_rfl
  rw [run_equalIn_struct w 9999 _ _ _ hu stoodP]
  obtain ⟨f0, f1, f2, f3, hf, n0, t0, o0, n1, t1, o1, n2, t2, o2, n3, t3, o3⟩ : ∃ f0 f1 f2 f3, (Tryz.prog.fieldsOf 26).toList = [f0, f1, f2, f3] ∧ f0.name ≠ "_" ∧ f0.type = 24 ∧ f0.offset = 0 ∧
      f1.name ≠ "_" ∧ f1.type = 3 ∧ f1.offset = 64 ∧ f2.name ≠ "_" ∧ f2.type = 3 ∧ f2.offset = 65 ∧ f3.name ≠ "_" ∧ f3.type = 3 ∧ f3.offset = 66 := by
    have h := fieldsP
    generalize (Tryz.prog.fieldsOf 26).toList = fs at h
    have hl : fs.length = 4 := by simpa using congrArg List.length h
    match fs, hl with
    | [f0, f1, f2, f3], _ =>
      simp only [List.map_cons, List.map_nil, List.cons.injEq, Prod.mk.injEq, beq_eq_false_iff_ne, and_true] at h
      exact ⟨f0, f1, f2, f3, rfl, h.1.1, h.1.2.1, h.1.2.2, h.2.1.1, h.2.1.2.1, h.2.1.2.2, h.2.2.1.1, h.2.2.1.2.1, h.2.2.1.2.2, h.2.2.2.1, h.2.2.2.2.1, h.2.2.2.2.2⟩
  have i8 : ∀ a b : Int, (Op.equalIn 9999 3 (.int .i64 a) (.int .i64 b)).run Tryz.prog w = .ok (a == b) w := fun a b => run_equalIn_int w 9998 _ _ _ a b Tryz.underlying3
  have eb : (Op.equalIn 9999 24 (.agg (cl p.B).toArray) (.agg (cl q.B).toArray)).run Tryz.prog w = .ok (beqB p.B q.B) w := by
    obtain ⟨i, hi⟩ : ∃ i, Tryz.prog.info? 22 = some i := by
      cases hq : Tryz.prog.info? 22 with
      | none => have := info22; simp [hq] at this
      | some i => exact ⟨i, rfl⟩
    rw [run_equalIn_array w 9998 _ _ Tryz.underlying24 hi, cells22]
    exact run_eqItems_cl 9997 p.B q.B hp hq w _ (fun i hi => by simpa using hi)
  have a1 := run_part_i hp 0 (show (tlP p)[0]? = some (.int .i64 p.t) from rfl) w
  have a2 := run_part_i hp 1 (show (tlP p)[1]? = some (.int .i64 p.c) from rfl) w
  have a3 := run_part_i hp 2 (show (tlP p)[2]? = some (.int .i64 p.e) from rfl) w
  have b1 := run_part_i hq 0 (show (tlP q)[0]? = some (.int .i64 q.t) from rfl) w
  have b2 := run_part_i hq 1 (show (tlP q)[1]? = some (.int .i64 q.c) from rfl) w
  have b3 := run_part_i hq 2 (show (tlP q)[2]? = some (.int .i64 q.e) from rfl) w
  rw [hf]
  unfold beqP
  rw [Op.eqFields, if_pos n0]
  simp only [Sem.run_bind, t0, o0, run_part_b hp, run_part_b hq, Result.andThen_ok, eb]
  cases beqB p.B q.B
  · simp
  · simp only [Bool.not_true, Bool.false_eq_true, if_false, Bool.true_and]
    rw [Op.eqFields, if_pos n1]
    simp only [Sem.run_bind, t1, o1, a1, b1, Result.andThen_ok, i8]
    cases p.t == q.t
    · simp
    · simp only [Bool.not_true, Bool.false_eq_true, if_false, Bool.true_and]
      rw [Op.eqFields, if_pos n2]
      simp only [Sem.run_bind, t2, o2, a2, b2, Result.andThen_ok, i8]
      cases p.c == q.c
      · simp
      · simp only [Bool.not_true, Bool.false_eq_true, if_false, Bool.true_and]
        rw [Op.eqFields, if_pos n3]
        simp only [Sem.run_bind, t3, o3, a3, b3, Result.andThen_ok, i8]
        cases p.e == q.e
        · simp
        · simp [Op.eqFields]
theorem run_eql_p {p q : Ps} (hp : p.B.length = 64) (hq : q.B.length = 64) (w : World) : (binOp .eql 26 (.agg (pl p).toArray) (.agg (pl q).toArray)).run Tryz.prog w = .ok (.bool (beqP p q)) w := by
  rw [run_eql_struct, run_equal_p hp hq]; rfl
theorem take_eql_p {ops : Array Oper} {S : World → Prop} {op : Oper} {a : Act} {b : Bool} (hw : Region.wanted op (yielded ops a.tmps) = true) (x y : Operand) (ty : TypeId) (ho : op.op = .binOp .eql 26 x y ty)
    (p q : Ps) (hx : a.eval x = .agg (pl p).toArray) (hy : a.eval y = .agg (pl q).toArray) (h : p.B.length = 64 ∧ q.B.length = 64 ∧ beqP p q = b) : YieldsIf Tryz.prog ops S op (.bool b) a :=
  .inl ⟨hw, fun w _ => by
    unfold execOp
    simp only [ho, hx, hy, Sem.run_bind, run_eqGuard_agg w _ _ _ _ _ _ eqGuardP, run_eql_p h.1 h.2.1, Result.andThen_ok, Sem.run_pure, h.2.2]⟩
theorem wpList_eql_p {ops : Array Oper} {rest : List Oper} {o : Oper} {a : Act} {w : World} {Q : Exit → Act → World → Prop} {b : Bool} (hw : Region.wanted o (yielded ops a.tmps) = true) (x y : Operand) (ty : TypeId) (ho : o.op = .binOp .eql 26 x y ty)
    (p q : Ps) (hx : a.eval x = .agg (pl p).toArray) (hy : a.eval y = .agg (pl q).toArray) (h : p.B.length = 64 ∧ q.B.length = 64 ∧ beqP p q = b)
    (hk : wpList Tryz.prog ops Q rest (a.put o.dst (.bool b)) w) : wpList Tryz.prog ops Q (o :: rest) a w :=
  wpList_step fun _ hK => by
    rw [if_pos hw]
    unfold Oper.wp execOp
    simp only [ho, hx, hy, Sem.run_bind, run_eqGuard_agg w _ _ _ _ _ _ eqGuardP, run_eql_p h.1 h.2.1, Result.andThen_ok, Sem.run_pure, h.2.2, Oper.upon_value]
    exact hK _ _ hk
end Go.Proofs.YtkebpchhpidogaaGreatDoor
namespace Go.Proofs.YtkebpchhpidogaaGreatDoor
open Go.RowKit
set_option linter.unusedVariables false
set_option linter.unusedSimpArgs false

/-- A number of 64 bits. -/
def U (a : Int) : Prop := 0 ≤ a ∧ a < 18446744073709551616
/-- Two of them, added without carry. -/
abbrev xr (a b : Int) : Int := bits .xor .u64 a b
theorem xr_val (a b : Int) : xr a b = ((BitVec.ofInt 64 a ^^^ BitVec.ofInt 64 b).toNat : Int) := by
  show IntKind.u64.wrap ((BitVec.ofInt 64 a ^^^ BitVec.ofInt 64 b).toNat : Int) = _
  have h := (BitVec.ofInt 64 a ^^^ BitVec.ofInt 64 b).isLt
  rw [IntKind.wrap_u64]
  omega
theorem of_xr (a b : Int) : BitVec.ofInt 64 (xr a b) = BitVec.ofInt 64 a ^^^ BitVec.ofInt 64 b := by
  rw [xr_val, BitVec.ofInt_natCast, BitVec.ofNat_toNat, BitVec.setWidth_eq]
theorem xr_u (a b : Int) : U (xr a b) := by
  have h := (BitVec.ofInt 64 a ^^^ BitVec.ofInt 64 b).isLt
  rw [xr_val]; exact ⟨by omega, by omega⟩
theorem xr_comm (a b : Int) : xr a b = xr b a := by rw [xr_val, xr_val, BitVec.xor_comm]
theorem xr_assoc (a b c : Int) : xr (xr a b) c = xr a (xr b c) := by
  rw [xr_val (xr a b) c, xr_val a (xr b c), of_xr, of_xr, BitVec.xor_assoc]
instance : Std.Associative xr := ⟨xr_assoc⟩
instance : Std.Commutative xr := ⟨xr_comm⟩
theorem xr_left (a b c : Int) : xr a (xr b c) = xr b (xr a c) := by rw [← xr_assoc, xr_comm a b, xr_assoc]
theorem xr_self (a : Int) : xr a a = 0 := by rw [xr_val, BitVec.xor_self]; rfl
theorem U.to {a : Int} (h : U a) : ((BitVec.ofInt 64 a).toNat : Int) = a := by
  obtain ⟨n, rfl⟩ := Int.eq_ofNat_of_zero_le h.1
  have h2 := h.2
  rw [BitVec.ofInt_natCast, BitVec.toNat_ofNat]
  omega
theorem xr_zero {a : Int} (h : U a) : xr a 0 = a := by
  rw [xr_val, show BitVec.ofInt 64 0 = 0#64 from rfl, BitVec.xor_zero, h.to]
theorem zero_xr {a : Int} (h : U a) : xr 0 a = a := by rw [xr_comm, xr_zero h]
theorem xr_back {a : Int} (h : U a) (b : Int) : xr b (xr b a) = a := by rw [← xr_assoc, xr_self, zero_xr h]
theorem wrap_u (n : Int) : U (IntKind.u64.wrap n) := by
  rw [IntKind.wrap_u64]; exact ⟨Int.emod_nonneg _ (by decide), Int.emod_lt_of_pos _ (by decide)⟩
theorem U.wrap {a : Int} (h : U a) : IntKind.u64.wrap a = a := by
  rw [IntKind.wrap_u64]; exact Int.emod_eq_of_lt h.1 h.2
/-- How a number is turned about. -/
def mxa (n : Int) : Int := IntKind.u64.wrap (IntKind.u64.wrap (n * 11400714819323198485) + 11400714819323198485)
def mxb (x : Int) : Int := IntKind.u64.wrap (xr x (x / 1073741824) * 13787848793156543929)
def mxc (x : Int) : Int := IntKind.u64.wrap (xr x (x / 134217728) * 10723151780598845931)
def mxd (x : Int) : Int := xr x (x / 2147483648)
def mixI (n : Int) : Int := mxd (mxc (mxb (mxa n)))
theorem mxa_u (n : Int) : U (mxa n) := wrap_u _
theorem mxb_u (n : Int) : U (mxb n) := wrap_u _
theorem mxc_u (n : Int) : U (mxc n) := wrap_u _
theorem mxd_u (n : Int) : U (mxd n) := xr_u _ _
theorem mix_u (n : Int) : U (mixI n) := xr_u _ _
theorem mxa_ref (n : Int) : IntKind.u64.wrap (IntKind.u64.wrap (n + 1) * 11400714819323198485) = mxa n := by
  unfold mxa
  simp only [IntKind.wrap_u64]
  omega
theorem mix_0 : mixI 0 = 16294208416658607535 := by decide +kernel
theorem mix_1024 : mixI 1024 ≠ 0 := by decide +kernel
/-- What a man on a square, whose turn it is, a right, and the square behind a pawn add. -/
def manK (s : Nat) (m : Int) : Int := if m = 0 then 0 else mixI (IntKind.u64.wrap (16 * s + 8 + m))
def sideK (t : Int) : Int := if t = 1 then mixI 1024 else 0
def rgtK (c r : Int) : Int := if bits .and .i64 c r = 0 then 0 else mixI (1032 + r)
def pasK (e : Int) : Int := if e < 0 then 0 else mixI (IntKind.u64.wrap (1056 + e))
theorem zero_u : U 0 := ⟨by decide, by decide⟩
theorem man_u (s : Nat) (m : Int) : U (manK s m) := by unfold manK; split <;> first | exact zero_u | exact mix_u _
theorem side_u (t : Int) : U (sideK t) := by unfold sideK; split <;> first | exact mix_u _ | exact zero_u
theorem rgt_u (c r : Int) : U (rgtK c r) := by unfold rgtK; split <;> first | exact zero_u | exact mix_u _
theorem pas_u (e : Int) : U (pasK e) := by unfold pasK; split <;> first | exact zero_u | exact mix_u _
/-- The rights, one after another; the men. -/
def rgtN (c : Int) : Nat → Int
  | 0 => 0
  | n + 1 => xr (rgtN c n) (rgtK c (2 ^ n : Nat))
def menN (B : List Int) : Nat → Int
  | 0 => 0
  | n + 1 => xr (menN B n) (manK n (B.getD n 0))
theorem rgtN_u (c : Int) : ∀ n, U (rgtN c n)
  | 0 => zero_u
  | _ + 1 => xr_u _ _
theorem menN_u (B : List Int) : ∀ n, U (menN B n)
  | 0 => zero_u
  | _ + 1 => xr_u _ _
def rgsK (c : Int) : Int := rgtN c 4
theorem rgs_u (c : Int) : U (rgsK c) := rgtN_u c 4
/-- A position's key. -/
def baseK (p : Ps) : Int := xr (xr (sideK p.t) (rgsK p.c)) (pasK p.e)
def keyP (p : Ps) : Int := xr (baseK p) (menN p.B 64)
theorem base_u (p : Ps) : U (baseK p) := xr_u _ _
theorem key_u (p : Ps) : U (keyP p) := xr_u _ _
/-- The key by the document's order. -/
theorem key_ref (p : Ps) : xr (xr (xr (menN p.B 64) (sideK p.t)) (rgsK p.c)) (pasK p.e) = keyP p := by
  unfold keyP baseK
  simp only [xr_assoc]
  rw [xr_comm (menN p.B 64)]
  simp only [xr_assoc]
/-- One bit of two numbers added without carry. -/
theorem and_zero {c r : Int} : bits .and .i64 c r = 0 ↔ BitVec.ofInt 64 c &&& BitVec.ofInt 64 r = 0#64 := by
  show IntKind.i64.wrap ((BitVec.ofInt 64 c &&& BitVec.ofInt 64 r).toNat : Int) = 0 ↔ _
  have h := (BitVec.ofInt 64 c &&& BitVec.ofInt 64 r).isLt
  rw [← BitVec.toNat_inj, IntKind.wrap_i64]
  generalize (BitVec.ofInt 64 c &&& BitVec.ofInt 64 r).toNat = x at *
  rw [show (0#64).toNat = 0 from rfl]
  omega
theorem of_xor_i (c d : Int) : BitVec.ofInt 64 (bits .xor .i64 c d) = BitVec.ofInt 64 c ^^^ BitVec.ofInt 64 d := by
  show BitVec.ofInt 64 (IntKind.i64.wrap ((BitVec.ofInt 64 c ^^^ BitVec.ofInt 64 d).toNat : Int)) = _
  generalize BitVec.ofInt 64 c ^^^ BitVec.ofInt 64 d = x
  have hx := x.isLt
  apply BitVec.eq_of_toNat_eq
  rw [BitVec.toNat_ofInt, IntKind.wrap_i64]
  omega
theorem bit_cases (x : BitVec 64) (n : Nat) (hn : n < 64) : x &&& BitVec.twoPow 64 n = if x.getLsbD n then BitVec.twoPow 64 n else 0#64 := by
  rw [BitVec.and_twoPow]
theorem pow_ne (n : Nat) (hn : n < 64) : BitVec.twoPow 64 n ≠ 0#64 := by
  intro h
  have := congrArg (fun b => b.getLsbD n) h
  simp [hn] at this
theorem of_pow (n : Nat) (hn : n < 64) : BitVec.ofInt 64 ((2 ^ n : Nat) : Int) = BitVec.twoPow 64 n := by
  rw [BitVec.ofInt_natCast]
  apply BitVec.eq_of_toNat_eq
  simp [BitVec.toNat_twoPow]
theorem and_bit (c : Int) (n : Nat) (hn : n < 64) : (bits .and .i64 c (2 ^ n : Nat) = 0) ↔ (BitVec.ofInt 64 c).getLsbD n = false := by
  rw [and_zero, of_pow n hn, bit_cases _ n hn]
  cases (BitVec.ofInt 64 c).getLsbD n
  · simp
  · simp [pow_ne n hn]
theorem rgt_xor (c d : Int) (n : Nat) (hn : n < 64) : rgtK (bits .xor .i64 c d) (2 ^ n : Nat) = xr (rgtK c (2 ^ n : Nat)) (rgtK d (2 ^ n : Nat)) := by
  unfold rgtK
  simp only [and_bit _ n hn, of_xor_i, BitVec.getLsbD_xor]
  cases (BitVec.ofInt 64 c).getLsbD n <;> cases (BitVec.ofInt 64 d).getLsbD n
  · simp [xr_zero zero_u]
  · simp [zero_xr (mix_u _)]
  · simp [xr_zero (mix_u _)]
  · simp [xr_self]
theorem rgtN_xor (c d : Int) : ∀ n, n ≤ 64 → rgtN (bits .xor .i64 c d) n = xr (rgtN c n) (rgtN d n)
  | 0, _ => (xr_zero zero_u).symm
  | n + 1, h => by
    unfold rgtN
    rw [rgtN_xor c d n (by omega), rgt_xor c d n (by omega)]
    simp only [xr_assoc]
    rw [xr_left (rgtN d n)]
/-- What a key becomes. -/
def difN (p q : Ps) (n : Nat) : Int := xr (menN p.B n) (menN q.B n)
theorem difN_step (p q : Ps) (n : Nat) (k : Int) : xr (xr k (difN p q n)) (xr (manK n (p.B.getD n 0)) (manK n (q.B.getD n 0))) = xr k (difN p q (n + 1)) := by
  unfold difN
  show _ = xr k (xr (xr _ _) (xr _ _))
  simp only [xr_assoc]
  rw [xr_left (menN q.B n)]
theorem difN_same {p q : Ps} {n : Nat} (h : p.B.getD n 0 = q.B.getD n 0) (k : Int) : xr k (difN p q n) = xr k (difN p q (n + 1)) := by
  rw [← difN_step, h, xr_self, xr_zero (xr_u _ _)]
def behK (k : Int) (p q : Ps) : Int := xr (xr (xr (xr (xr (xr k (difN p q 64)) (rgsK (bits .xor .i64 p.c q.c))) (sideK p.t)) (sideK q.t)) (pasK p.e)) (pasK q.e)
theorem beh_key (p q : Ps) : behK (keyP p) p q = keyP q := by
  unfold behK rgsK
  rw [rgtN_xor _ _ 4 (by decide)]
  show _ = keyP q
  rw [← xr_zero (key_u q), ← xr_self (keyP p)]
  unfold keyP baseK difN rgsK
  ac_rfl
end Go.Proofs.YtkebpchhpidogaaGreatDoor
