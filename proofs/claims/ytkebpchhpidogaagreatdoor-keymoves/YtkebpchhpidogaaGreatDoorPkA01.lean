/- 'Kept w w'': of what was there when w stood nothing has turned in w'; whatever was laid since. And what a law's row asks behind the call, out of that alone · Boards: how they lie in memory, and the contracts of the small questions on them · Counting and seeking on boards: Many, Where, the document's Right and Where · Where: the board's and the document's; slices of squares; Same. -/
import Derived.Test.YtkebpchhpidogaaGreatDoorPkA00
import Derived.Below
import Derived.Deep.Draws
import Derived.Laws.AppendOwn
import Derived.ChangeSame
import Derived.Deep.RegionHeld3
import Derived.Laws.Tables
import Derived.Deep.WholeRow
import Derived.Deep.MidRow
import Derived.Deep.AppendLies
import Derived.OwnWalk
import Derived.ChangeKeysEq
namespace Go.Proofs.YtkebpchhpidogaaGreatDoor
open Go.RowKit
set_option linter.unusedVariables false

structure Kept (w w' : World) : Prop where
  os : w'.os = w.os
  output : w'.output = w.output
  size : w.heap.size ≤ w'.heap.size
  block : ∀ k, k < w.heap.size → w'.heap[k]? = w.heap[k]?
theorem Kept.refl (w : World) : Kept w w := ⟨rfl, rfl, Nat.le_refl _, fun _ _ => rfl⟩
theorem Kept.trans {a b c : World} (h : Kept a b) (k : Kept b c) : Kept a c :=
  ⟨k.os.trans h.os, k.output.trans h.output, Nat.le_trans h.size k.size, fun i hi => (k.block i (Nat.lt_of_lt_of_le hi h.size)).trans (h.block i hi)⟩
theorem Kept.alloc {a w : World} (h : Kept a w) (o : Obj) : Kept a (w.alloc o) :=
  h.trans ⟨rfl, rfl, by simp, fun k hk => Below.heap_alloc _ _ _ hk⟩
theorem Kept.setCell {a w : World} (h : Kept a w) {p : Addr} (hp : a.heap.size ≤ p.block) (u : Value) : Kept a (w.setCell p u) :=
  ⟨h.os, h.output, by simpa [World.setCell] using h.size, fun k hk => (Below.heap_setCell w p u k (by omega)).trans (h.block k hk)⟩
theorem Kept.drew {a w : World} (h : Kept a w) : Kept a w.drew := ⟨h.os, h.output, h.size, h.block⟩
theorem Kept.drewN {a w : World} (h : Kept a w) (n : Nat) : Kept a (w.drewN n) := ⟨h.os, h.output, h.size, h.block⟩
theorem Kept.grownBy {a w w' : World} {row : Option Nat} (h : Kept a w) (hg : w.grownBy w' row) (hr : ∀ k, row = some k → a.heap.size ≤ k) : Kept a w' :=
  ⟨hg.os.trans h.os, hg.output.trans h.output, Nat.le_trans h.size hg.size, fun k hk => (hg.block k (Nat.lt_of_lt_of_le hk h.size) (fun e => by have := hr k e.symm; omega)).trans (h.block k hk)⟩
theorem Kept.of_grown {a w : World} (g : Grown a w) : Kept a w := by
  refine ⟨g.1.1, g.1.2.1, g.2.2, fun k hk => ?_⟩
  have hb := g.1.2.2 k hk
  split at hb
  · next c t fr c' t' fr' h1 h2 =>
    obtain ⟨rfl, rfl, hs, hc⟩ := hb
    rw [h1, h2]
    have : c' = c := Array.ext_getElem? fun j => hc j (fun f => f)
    rw [this]
  · next es clock es' clock' h1 h2 =>
    rcases hb with hb | ⟨rfl, rfl⟩
    · exact hb.elim
    · rw [h1, h2]
  · exact hb
theorem Kept.frame {W w' : World} (h : Kept W w') (may : MemPlace → Prop) : W.keptBut w' may := by
  refine ⟨h.os, h.output, fun i hi => ?_⟩
  rw [h.block i hi]
  split <;> simp_all
theorem Kept.heap {a w : World} (h : Kept a w) {g : Nat} {o : Obj} (hg : a.heap[g]? = some o) : w.heap[g]? = some o :=
  (h.block g (lt_of_heap hg)).trans hg
/-- What a law's row asks behind the call, where the arguments' places are read as before. -/
theorem post_kept {H : Type} {enc : TypeId × Value → H} {P : Program} {f : Func} {s : ChangeSpec} {W W' : World} {args : Array Value} {v : Value} {ds gs : List (DataW H)} {before pa pv : List MemPlace}
    (hW : DataW.Whole enc P f.params.toList s.vars false W args.toList ds gs before)
    (hres : DataW.TrodAll enc P W' W.heap.size (fun _ => false) false f.resultTypes.toList (v.resultList f.resultTypes.size) (s.fn H (ds ++ gs)).results [])
    (hargs : DataW.TrodAll enc P W' 0 (fun b => decide (b < W.heap.size)) true f.params.toList args.toList (s.fn H (ds ++ gs)).args pa)
    (hvars : DataW.TrodVars enc P W' (fun b => decide (b < W.heap.size)) s.vars (s.fn H (ds ++ gs)).vars pv)
    (hk : Kept W W') : s.post enc P f false true false false W args v W' :=
  ⟨ds, gs, before, [], pa, pv, hW, hres, hargs, hvars, hk.frame _, fun h => by cases h⟩
theorem kept_cell {w w' : World} (k : Kept w w') {a : Addr} {v : Value} (h : w.cell? a = some v) : w'.cell? a = some v :=
  (World.cell?_of_block (k.block a.block (World.block_lt_of_cell? w a h))).trans h
theorem rg_take {P : Program} {ops : Array Oper} {Q : Exit → Act → World → Prop} {md : Region.Mode} {S : World → Prop} {i : Nat} {oi : Oper} {v : Value} {fuel : Nat} {listed : Array Bool} {a : Act} {w : World} (dst : Option Tmp)
    (hi : ops[i]? = some oi) (hd : oi.dst = dst) (hs : Region.noSelect ops = true) (hf : Region.free md ops listed i = true) (hr : (Region.ready md ops listed).contains i = true)
    (hQ : ∀ c a w, Q (.panic c) (a.put dst v) w → Q (.panic c) a w) (hy : YieldsIf P ops S oi v a) (hS : S w)
    (h : wpAnyH P md ops Q S fuel (listed.setIfInBounds i true) (a.put dst v) w) : wpAnyH P md ops Q S (fuel + 1) listed a w := by
  subst hd
  exact wpAnyH_take hi hs hf hr hQ hy hS h
theorem quiet_same {P : Program} {f : FuncId} {args : Array Value} {w : World} {n : Nat} {v : Value}
    (h : Calls P f args (w.drewN n) fun e w' => e = .returned v ∧ w.drewN n = w') : Calls P f args (w.drewN n) fun e w'' => e = .returned v ∧ ∃ m, w'' = w.drewN m :=
  h.mono fun _ _ ⟨he, hm⟩ => ⟨he, n, hm.symm⟩
theorem cellsInt : Tryz.prog.cellsOf 3 = 1 := by kernel_rfl
/-! ### Steps of a region, in few words -/
section
variable {P : Program} {ops : Array Oper} {Q : Exit → Act → World → Prop} {md : Region.Mode} {S : World → Prop} {oi : Oper} {v : Value} {fuel : Nat} {listed : Array Bool} {a : Act} {w : World}
theorem rY (i : Nat) (d : Tmp) (hi : ops[i]? = some oi) (hd : oi.dst = some d) (hy : YieldsIf P ops S oi v a) (hS : S w)
    (h : wpAnyH P md ops Q S fuel (listed.setIfInBounds i true) (a.put (some d) v) w) (hs : Region.noSelect ops = true := by kernel_rfl) (hf : Region.free md ops listed i = true := by kernel_rfl) (hr : (Region.ready md ops listed).contains i = true := by kernel_rfl)
    (hQ : ∀ c a w, Q (.panic c) (a.put (some d) v) w → Q (.panic c) a w := by exact fun _ _ _ h => h) : wpAnyH P md ops Q S (fuel + 1) listed a w :=
  rg_take (some d) hi hd hs hf hr hQ hy hS h
theorem rT (i : Nat) (d : Tmp) (v : Value) (hi : ops[i]? = some oi) (hd : oi.dst = some d) (hS : S w)
    (h : wpAnyH P md ops Q S fuel (listed.setIfInBounds i true) (a.put (some d) v) w) (hs : Region.noSelect ops = true := by kernel_rfl) (hf : Region.free md ops listed i = true := by kernel_rfl) (hr : (Region.ready md ops listed).contains i = true := by kernel_rfl)
    (hQ : ∀ c a w, Q (.panic c) (a.put (some d) v) w → Q (.panic c) a w := by exact fun _ _ _ h => h)
    (hw : Region.wanted oi (yielded ops a.tmps) = true := by rfl) (hy : ∀ w, S w → (execOp a.eval oi).run P w = .ok (.value v) w := by intro _ _; go_simp) : wpAnyH P md ops Q S (fuel + 1) listed a w :=
  rg_take (some d) hi hd hs hf hr hQ (.inl ⟨hw, hy⟩) hS h
theorem rC (i : Nat) (d : Tmp) (v : Value) (hi : ops[i]? = some oi) (hd : oi.dst = some d) {A : Addr} {u : Value} (hc : ∀ w, S w → w.cell? A = some u) (hS : S w)
    (h : wpAnyH P md ops Q S fuel (listed.setIfInBounds i true) (a.put (some d) v) w) (hs : Region.noSelect ops = true := by kernel_rfl) (hf : Region.free md ops listed i = true := by kernel_rfl) (hr : (Region.ready md ops listed).contains i = true := by kernel_rfl)
    (hQ : ∀ c a w, Q (.panic c) (a.put (some d) v) w → Q (.panic c) a w := by exact fun _ _ _ h => h)
    (hw : Region.wanted oi (yielded ops a.tmps) = true := by rfl) (hy : ∀ w, w.cell? A = some u → (execOp a.eval oi).run P w = .ok (.value v) w := by intro _ h'; go_simp) : wpAnyH P md ops Q S (fuel + 1) listed a w :=
  rg_take (some d) hi hd hs hf hr hQ (.inl ⟨hw, fun w hS => hy w (hc w hS)⟩) hS h
theorem rN (i : Nat) (d : Tmp) (hi : ops[i]? = some oi) (hd : oi.dst = some d) (hS : S w)
    (h : wpAnyH P md ops Q S fuel (listed.setIfInBounds i true) (a.put (some d) undef) w) (hs : Region.noSelect ops = true := by kernel_rfl) (hf : Region.free md ops listed i = true := by kernel_rfl) (hr : (Region.ready md ops listed).contains i = true := by kernel_rfl)
    (hQ : ∀ c a w, Q (.panic c) (a.put (some d) undef) w → Q (.panic c) a w := by exact fun _ _ _ h => h)
    (hw : Region.wanted oi (yielded ops a.tmps) = false := by rfl) : wpAnyH P md ops Q S (fuel + 1) listed a w :=
  rg_take (some d) hi hd hs hf hr hQ (.inr ⟨hw, rfl⟩) hS h
theorem rR (i : Nat) (ho : ops[i]? = some oi)
    (h : ∀ K' : Act → World → Prop, Shut (∀ a w, S w → (S w → wpAnyH P md ops Q S fuel (listed.setIfInBounds i true) a w) → K' a w) → if Region.wanted oi (yielded ops a.tmps) = true then Oper.wp P oi a w K' Q else K' (a.put oi.dst undef) w)
    (hr : Region.ready md ops listed = [i] := by kernel_rfl) : wpAnyH P md ops Q S (fuel + 1) listed a w :=
  wpAnyH_ready hr (by simp) (AllReadyH.cons ho h AllReadyH.nil)
end
theorem pA (l : List Value) (ds : List Deferred) (d : Nat) (v : Value) : Act.put ⟨l.toArray, ds⟩ (some d) v = ⟨(l.set d v).toArray, ds⟩ := by simp [Act.put]
theorem pN (a : Act) (v : Value) : a.put none v = a := rfl
theorem sZ (x y : Value) (l : List Value) : (x :: l).set 0 y = y :: l := rfl
theorem sU (x y : Value) (l : List Value) (n : Nat) : (x :: l).set (n + 1) y = x :: l.set n y := rfl
theorem Kept.setRow {a w : World} (h : Kept a w) {g : Nat} (hg : a.heap.size ≤ g) (c : Array Value) : Kept a (w.setRow g c) :=
  ⟨h.os, h.output, by simpa using h.size, fun k hk => (setRow_other w g k c (by omega)).trans (h.block k hk)⟩
theorem wpList_built {P : Program} {ops : Array Oper} {rest : List Oper} {o : Oper} {a : Act} {w : World} {Q : Exit → Act → World → Prop} (hg : o.guard = none) (t : TypeId) (parts : Array (Nat × Operand)) (ho : o.op = .build t parts)
    (cells : Array Value) (hf : P.built t (parts.map fun (i, x) => (i, a.eval x)).toList = some cells)
    (h : wpList P ops Q rest (a.put o.dst (.agg cells)) w) : wpList P ops Q (o :: rest) a w :=
  wpList_build hg t parts ho (by rw [hf]; rfl) (by rw [hf]; exact h)
theorem Kept.iterAt {a w : World} (h : Kept a w) {i : Nat} (hi : a.heap.size ≤ i) (s : ByteArray) (q : Nat) : Kept a (iterAt w i s q) :=
  ⟨h.os, h.output, by show _ ≤ (w.heap.setIfInBounds i _).size; rw [Array.size_setIfInBounds]; exact h.size, fun k hk => by
    show (w.heap.setIfInBounds i _)[k]? = _
    rw [Array.getElem?_setIfInBounds_ne (by omega)]
    exact h.block k hk⟩
theorem Below.toKept {w w' : World} (h : Below w.heap.size w w') : Kept w w' := ⟨h.os, h.output, h.size, h.block⟩
end Go.Proofs.YtkebpchhpidogaaGreatDoor
namespace Go.Proofs.YtkebpchhpidogaaGreatDoor
set_option maxRecDepth 100000
open Go.RowKit
set_option linter.unusedVariables false

/-- A board's numbers as the cells of its array. -/
def cl (B : List Int) : List Value := B.map (Value.int .i8)
theorem cl_length (B : List Int) : (cl B).length = B.length := by simp [cl]
theorem cl_get (B : List Int) (i : Nat) (h : i < B.length) : (cl B)[i]? = some (.int .i8 (B.getD i 0)) := by
  simp [cl, List.getD, List.getElem?_eq_getElem h]
theorem cl_set (B : List Int) (i : Nat) (x : Int) : (cl B).set i (.int .i8 x) = cl (B.set i x) := by
  simp [cl, List.map_set]
theorem cl_inj {A B : List Int} (h : cl A = cl B) : A = B := by
  unfold cl at h
  exact (List.map_inj_right (fun _ _ h => by injection h)).1 h
/-- Sixty-four numbers of eight bits. -/
def Brd (B : List Int) : Prop := B.length = 64 ∧ ∀ i, i < 64 → -128 ≤ B.getD i 0 ∧ B.getD i 0 ≤ 127
theorem size24 : (Tryz.prog.info? 24).map (·.size) = some 64 := by kernel_rfl
theorem info22 : (Tryz.prog.info? 22).map (fun i => (i.zero, i.size)) = some (some (.int .i8 0), 1) := by kernel_rfl
theorem cells22 : Tryz.prog.cellsOf 22 = 1 := by kernel_rfl
theorem cells24 : Tryz.prog.cellsOf 24 = 64 := by kernel_rfl
/-- One number of a board that is at hand as a value. -/
theorem run_index_cl (B : List Int) (hB : B.length = 64) (k : Nat) (hk : k < 64) (w : World) :
    (Instr.index 24 (.agg (cl B).toArray) (.int .i64 k)).run Tryz.prog w = .ok (.int .i8 (B.getD k 0)) w := by
  have h1 : (0 : Int) ≤ (k : Int) ∧ (k : Int) < ((64 : Nat) : Int) := by omega
  have h2 := cl_get B k (by omega)
  have hs : (sizeOf 22).run Tryz.prog w = .ok 1 w := by
    cases hq : Tryz.prog.info? 22 with
    | none => have := info22; simp [hq] at this
    | some i => have := info22; simp [hq] at this; simp [sizeOf, typeInfo, hq, this.2]
  simp only [Instr.index, asIntOf, Sem.run_bind, Sem.run_pure, Result.andThen_ok, run_underlying Tryz.underlying24, if_pos h1, hs]
  simp [part, isAgg, run_underlying Tryz.underlying22, h2]
theorem size_cl {B : List Int} (hB : B.length = 64) : (Tryz.prog.info? 24).map (·.size) = some (cl B).toArray.size := by rw [size24]; simp [cl_length, hB]
/-- The load of a whole board, in a region in the text's order, guarded or not. -/
theorem wpList_load_w {ops : Array Oper} {rest : List Oper} {o : Oper} {a : Act} {w : World} {Q : Exit → Act → World → Prop} (hw : Region.wanted o (yielded ops a.tmps) = true) (x : Operand) (ho : o.op = .load 24 x)
    (g : Nat) (hx : a.eval x = .pointer (some ⟨g, 0, none⟩)) (B : List Int) (hg : w.heap[g]? = some (.cells (cl B).toArray 24 (0, 0)))
    (hi : (Tryz.prog.info? 24).map (·.size) = some (cl B).toArray.size)
    (h : wpList Tryz.prog ops Q rest (a.put o.dst (.agg (cl B).toArray)) w) : wpList Tryz.prog ops Q (o :: rest) a w :=
  wpList_step fun _ hK => by
    rw [if_pos hw]
    exact wp_load_row 24 x ho g hx _ _ (0, 0) _ hg Tryz.underlying24 rfl hi (hK _ _ h)
theorem run_load_cl {w : World} {g : Nat} {B : List Int} {t : TypeId} (hB : B.length = 64) (hg : w.heap[g]? = some (.cells (cl B).toArray t (0, 0))) :
    (loadVar 24 ⟨g, 0, none⟩).run Tryz.prog w = .ok (.agg (cl B).toArray) w :=
  run_loadVar_row w g t _ (cl B).toArray (0, 0) _ hg Tryz.underlying24 rfl (by rw [size24]; simp [cl_length, hB])
theorem man_yes (B : List Int) (hB : Brd B) (k : Nat) (hk : k < 64) (w : World) :
    Calls Tryz.prog 29 #[.agg (cl B).toArray, .int .i64 k] w fun e w' => e = .returned (.int .i64 (B.getD k 0)) ∧ Kept w w' := by
  have hc : (w.alloc (.cells (cl B).toArray 24)).cell? ⟨w.heap.size, k, none⟩ = some (.int .i8 (B.getD k 0)) := by
    rw [cell_of_row _ _ k _ _ (0, 0) (heap_alloc_new w _)]
    simpa using cl_get B k (by rw [hB.1]; exact hk)
  obtain ⟨hb1, hb2⟩ := hB.2 k hk
  clear hB
  generalize B.getD k 0 = x at *
  go_enter Tryz.func29, Tryz.ntmps29
  go_wp2_with fail
  refine (right_yes _ _ (by omega) (by omega)).mono ?_
  rintro e w' ⟨rfl, rfl⟩
  go_wp2
  go_ret
  exact ⟨rfl, (Kept.refl _).alloc _⟩
theorem man_no (B : List Int) (s : Int) (h : s < 0 ∨ 64 ≤ s) (w : World) :
    Calls Tryz.prog 29 #[.agg (cl B).toArray, .int .i64 s] w fun e w' => e = .returned (.int .i64 0) ∧ Kept w w' := by
  go_enter Tryz.func29, Tryz.ntmps29
  go_wp2_with fail
  refine (right_no _ _ h).mono ?_
  rintro e w' ⟨rfl, rfl⟩
  go_wp2
  go_ret
  exact ⟨rfl, (Kept.refl _).alloc _⟩
/-- Is it a man? Of which kind and side? -/
def manB (x : Int) : Bool := x != 0 && decide (-6 ≤ x) && decide (x ≤ 6)
def kindI (x : Int) : Int := if manB x then (if 0 < x then x else -x) else 0
def sideI (x : Int) : Int := if manB x then (if 0 < x then 0 else 1) else -1
theorem manB_iff (x : Int) : manB x = true ↔ x ≠ 0 ∧ -6 ≤ x ∧ x ≤ 6 := by simp [manB, and_assoc]
theorem manB_not (x : Int) : manB x = false ↔ x < -6 ∨ x = 0 ∨ 6 < x := by
  rw [← Bool.not_eq_true, manB_iff]; omega
theorem mright_any (m : Int) (w : World) :
    Calls Tryz.prog 51 #[.int .i64 m] w fun e w' => e = .returned (.bool (manB m)) ∧ w = w' := by
  by_cases h : manB m = true
  · have := (manB_iff m).1 h
    rw [h]; exact mright_yes m w this.1 this.2.1 this.2.2
  · have h' : manB m = false := by simpa using h
    rw [h']; exact mright_no m w ((manB_not m).1 h')
theorem mkind_any (m : Int) (w : World) :
    Calls Tryz.prog 32 #[.int .i64 m] w fun e w' => e = .returned (.int .i64 (kindI m)) ∧ w = w' := by
  unfold kindI
  by_cases h : manB m = true
  · have := (manB_iff m).1 h
    rw [if_pos h]
    by_cases h0 : 0 < m
    · rw [if_pos h0]; exact mkind_w m w h0 this.2.2
    · rw [if_neg h0]; exact mkind_b m w (by omega) this.2.1
  · rw [if_neg h]; exact mkind_no m w ((manB_not m).1 (by simpa using h))
theorem mside_any (m : Int) (w : World) :
    Calls Tryz.prog 30 #[.int .i64 m] w fun e w' => e = .returned (.int .i64 (sideI m)) ∧ w = w' := by
  unfold sideI
  by_cases h : manB m = true
  · have := (manB_iff m).1 h
    rw [if_pos h]
    by_cases h0 : 0 < m
    · rw [if_pos h0]; exact mside_w m w h0 this.2.2
    · rw [if_neg h0]; exact mside_b m w (by omega) this.2.1
  · rw [if_neg h]; exact mside_no m w ((manB_not m).1 (by simpa using h))
theorem kindI_bd (x : Int) : 0 ≤ kindI x ∧ kindI x ≤ 6 := by
  unfold kindI
  by_cases h : manB x = true
  · have := (manB_iff x).1 h
    rw [if_pos h]; split <;> omega
  · rw [if_neg h]; omega
theorem kindI_one (x : Int) : (kindI x == 1) = (x == 1 || x == -1) := by
  rw [Bool.eq_iff_iff]
  simp only [beq_iff_eq, Bool.or_eq_true]
  unfold kindI
  by_cases h : manB x = true
  · rw [if_pos h]; split <;> omega
  · rw [if_neg h]; have := (manB_not x).1 (by simpa using h); omega
/-- Does a pawn stand on the first or the last rank? -/
def edge (B : List Int) (i : Nat) : Bool := (kindI (B.getD i 0) == 1) && (((i : Int) / 8 == 0) || ((i : Int) / 8 == 7))
theorem pawnAtEdge_no (B : List Int) (hB : Brd B) (he : ∀ i, i < 64 → edge B i = false) (w : World) :
    Calls Tryz.prog 60 #[.agg (cl B).toArray] w fun e w' => e = .returned (.bool false) ∧ Kept w w' := by
  have H := Lib.hid hB
  have HE := Lib.hid he
  have hz := Lib.hid (size_cl hB.1)
  clear hB he
  go_enter Tryz.func60, Tryz.ntmps60
  go_wp2_with (refine wpList_load_w (by rfl) _ rfl _ rfl _ (heap_alloc_new w _) hz.out ?_)
  go_loop [7] (fun t => ∃ k : Nat, k ≤ 64 ∧ t = .int .i64 k) (fun t => 64 - (intOf t).toNat)
  case atStart => exact ⟨0, by omega, rfl⟩
  case round =>
    obtain ⟨k, hk, rfl⟩ := hrel
    by_cases hlt : k < 64
    · have hx := run_index_cl B H.out.1 k hlt
      obtain ⟨hb1, hb2⟩ := H.out.2 k hlt
      have he := HE.out k hlt
      unfold edge at he
      generalize B.getD k 0 = x at *
      by_cases hp : (kindI x == 1) = true
      · rw [hp, Bool.true_and, Bool.or_eq_false_iff] at he
        obtain ⟨e1, e2⟩ := he
        go_wp2_with fail
        refine (rank_yes _ _ (by omega) (by omega)).mono ?_
        rintro e w' ⟨rfl, rfl⟩
        go_wp2_with fail
        refine (mkind_any _ _).mono ?_
        rintro e w' ⟨rfl, rfl⟩
        go_wp2
        go_round
        case rel => exact ⟨k + 1, by omega, by go_num⟩
        case measure => simp [intOf]; omega
      · have hp' : (kindI x == 1) = false := by simpa using hp
        clear he hp
        go_wp2_with fail
        refine (rank_yes _ _ (by omega) (by omega)).mono ?_
        rintro e w' ⟨rfl, rfl⟩
        go_wp2_with fail
        refine (mkind_any _ _).mono ?_
        rintro e w' ⟨rfl, rfl⟩
        go_wp2
        go_round
        case rel => exact ⟨k + 1, by omega, by go_num⟩
        case measure => simp [intOf]; omega
    · go_wp2
      go_ret
      exact ⟨rfl, (Kept.refl _).alloc _⟩
theorem pawnAtEdge_yes (B : List Int) (hB : Brd B) (n : Nat) (hn : n < 64) (he : edge B n = true) (hf : ∀ i, i < n → edge B i = false) (w : World) :
    Calls Tryz.prog 60 #[.agg (cl B).toArray] w fun e w' => e = .returned (.bool true) ∧ Kept w w' := by
  have H := Lib.hid hB
  have HF := Lib.hid hf
  have HE := Lib.hid he
  have hz := Lib.hid (size_cl hB.1)
  clear hB he hf
  go_enter Tryz.func60, Tryz.ntmps60
  go_wp2_with (refine wpList_load_w (by rfl) _ rfl _ rfl _ (heap_alloc_new w _) hz.out ?_)
  go_loop [7] (fun t => ∃ k : Nat, k ≤ n ∧ t = .int .i64 k) (fun t => 64 - (intOf t).toNat)
  case atStart => exact ⟨0, by omega, rfl⟩
  case round =>
    obtain ⟨k, hk, rfl⟩ := hrel
    have hlt : k < 64 := by omega
    have hx := run_index_cl B H.out.1 k hlt
    obtain ⟨hb1, hb2⟩ := H.out.2 k hlt
    by_cases hkn : k = n
    · subst hkn
      have he := HE.out
      unfold edge at he
      generalize B.getD k 0 = x at *
      rw [Bool.and_eq_true] at he
      obtain ⟨hp, he⟩ := he
      by_cases h0 : ((k : Int) / 8 == 0) = true
      · clear he
        go_wp2_with fail
        refine (rank_yes _ _ (by omega) (by omega)).mono ?_
        rintro e w' ⟨rfl, rfl⟩
        go_wp2_with fail
        refine (mkind_any _ _).mono ?_
        rintro e w' ⟨rfl, rfl⟩
        go_wp2
        go_ret
        exact ⟨rfl, (Kept.refl _).alloc _⟩
      · have h0' : ((k : Int) / 8 == 0) = false := by simpa using h0
        rw [h0', Bool.false_or] at he
        clear h0
        go_wp2_with fail
        refine (rank_yes _ _ (by omega) (by omega)).mono ?_
        rintro e w' ⟨rfl, rfl⟩
        go_wp2_with fail
        refine (mkind_any _ _).mono ?_
        rintro e w' ⟨rfl, rfl⟩
        go_wp2
        go_ret
        exact ⟨rfl, (Kept.refl _).alloc _⟩
    · have he := HF.out k (by omega)
      have hkn' : k < n := by omega
      clear hkn
      unfold edge at he
      generalize B.getD k 0 = x at *
      by_cases hp : (kindI x == 1) = true
      · rw [hp, Bool.true_and, Bool.or_eq_false_iff] at he
        obtain ⟨e1, e2⟩ := he
        go_wp2_with fail
        refine (rank_yes _ _ (by omega) (by omega)).mono ?_
        rintro e w' ⟨rfl, rfl⟩
        go_wp2_with fail
        refine (mkind_any _ _).mono ?_
        rintro e w' ⟨rfl, rfl⟩
        go_wp2
        go_round
        case rel => exact ⟨k + 1, by omega, by go_num⟩
        case measure => simp [intOf]; omega
      · have hp' : (kindI x == 1) = false := by simpa using hp
        clear he hp
        go_wp2_with fail
        refine (rank_yes _ _ (by omega) (by omega)).mono ?_
        rintro e w' ⟨rfl, rfl⟩
        go_wp2_with fail
        refine (mkind_any _ _).mono ?_
        rintro e w' ⟨rfl, rfl⟩
        go_wp2
        go_round
        case rel => exact ⟨k + 1, by omega, by go_num⟩
        case measure => simp [intOf]; omega
end Go.Proofs.YtkebpchhpidogaaGreatDoor
namespace Go.Proofs.YtkebpchhpidogaaGreatDoor
set_option maxRecDepth 100000
open Go.RowKit
set_option linter.unusedVariables false

/-- The numbers below n that p holds for, rising. -/
def sel (p : Nat → Bool) (n : Nat) : List Nat := (List.range n).filter p
theorem sel_yes {p : Nat → Bool} {n : Nat} (h : p n = true) : sel p (n + 1) = sel p n ++ [n] := by
  simp [sel, List.range_succ, List.filter_append, h]
theorem sel_no {p : Nat → Bool} {n : Nat} (h : p n = false) : sel p (n + 1) = sel p n := by
  simp [sel, List.range_succ, List.filter_append, h]
theorem sel_le (p : Nat → Bool) (n : Nat) : (sel p n).length ≤ n := by
  have := List.length_filter_le p (List.range n)
  simpa [sel] using this
/-- How many of them there are. -/
def cnt (p : Nat → Bool) (n : Nat) : Nat := (sel p n).length
theorem cnt_yes {p : Nat → Bool} {n : Nat} (h : p n = true) : cnt p (n + 1) = cnt p n + 1 := by simp [cnt, sel_yes h]
theorem cnt_no {p : Nat → Bool} {n : Nat} (h : p n = false) : cnt p (n + 1) = cnt p n := by simp [cnt, sel_no h]
theorem cnt_le (p : Nat → Bool) (n : Nat) : cnt p n ≤ n := sel_le p n
/-- Is it a man of that kind (0: any) and side? -/
def hit (kind side x : Int) : Bool := manB x && (sideI x == side) && (kind == 0 || kindI x == kind)
def many (B : List Int) (kind side : Int) : Nat := cnt (fun i => hit kind side (B.getD i 0)) 64
theorem many_is (B : List Int) (hB : Brd B) (kind side : Int) (w : World) :
    Calls Tryz.prog 59 #[.agg (cl B).toArray, .int .i64 kind, .int .i64 side] w fun e w' => e = .returned (.int .i64 (many B kind side : Nat)) ∧ Kept w w' := by
  have H := Lib.hid hB
  have hz := Lib.hid (size_cl hB.1)
  clear hB
  obtain ⟨p, hp⟩ : ∃ p, p = fun i => hit kind side (B.getD i 0) := ⟨_, rfl⟩
  have HM : Hid (many B kind side = cnt p 64) := by rw [hp]; rfl
  have HP := Lib.hid hp
  clear hp
  go_enter Tryz.func59, Tryz.ntmps59
  go_wp2_with (refine wpList_load_w (by rfl) _ rfl _ rfl _ (heap_alloc_new w _) hz.out ?_)
  go_loop [7, 12] (fun n i => ∃ k : Nat, k ≤ 64 ∧ i = .int .i64 k ∧ n = .int .i64 (cnt p k : Nat)) (fun _ i => 64 - (intOf i).toNat)
  case atStart => exact ⟨0, by omega, rfl, rfl⟩
  case round =>
    obtain ⟨k, hk, rfl, rfl⟩ := hrel
    have hc := cnt_le p k
    by_cases hlt : k < 64
    · have hx := run_index_cl B H.out.1 k hlt
      obtain ⟨hb1, hb2⟩ := H.out.2 k hlt
      obtain ⟨x, ex⟩ : ∃ x, x = B.getD k 0 := ⟨_, rfl⟩
      rw [← ex] at hx hb1 hb2
      have hq : Hid (p k = hit kind side x) := by rw [ex, HP.out]; rfl
      clear ex
      by_cases h1 : manB x = true
      · by_cases h2 : (sideI x == side) = true
        · by_cases h3 : (kind == 0) = true
          · have HQ : Hid (p k = true) := by rw [hq.out]; unfold hit; rw [h1, h2, h3]; rfl
            go_wp2_with fail
            refine (mright_any _ _).mono ?_
            rintro e w' ⟨rfl, rfl⟩
            go_wp2_with fail
            refine (mside_any _ _).mono ?_
            rintro e w' ⟨rfl, rfl⟩
            go_wp2
            go_round
            case rel => exact ⟨k + 1, by omega, by go_num, by rw [cnt_yes HQ.out]; go_num⟩
            case measure => simp [intOf]; omega
          · have h3' : (kind == 0) = false := by simpa using h3
            clear h3
            by_cases h4 : (kindI x == kind) = true
            · have HQ : Hid (p k = true) := by rw [hq.out]; unfold hit; rw [h1, h2, h3', h4]; rfl
              go_wp2_with fail
              refine (mright_any _ _).mono ?_
              rintro e w' ⟨rfl, rfl⟩
              go_wp2_with fail
              refine (mside_any _ _).mono ?_
              rintro e w' ⟨rfl, rfl⟩
              go_wp2_with fail
              refine (mkind_any _ _).mono ?_
              rintro e w' ⟨rfl, rfl⟩
              go_wp2
              go_round
              case rel => exact ⟨k + 1, by omega, by go_num, by rw [cnt_yes HQ.out]; go_num⟩
              case measure => simp [intOf]; omega
            · have h4' : (kindI x == kind) = false := by simpa using h4
              clear h4
              have HQ : Hid (p k = false) := by rw [hq.out]; unfold hit; rw [h1, h2, h3', h4']; rfl
              go_wp2_with fail
              refine (mright_any _ _).mono ?_
              rintro e w' ⟨rfl, rfl⟩
              go_wp2_with fail
              refine (mside_any _ _).mono ?_
              rintro e w' ⟨rfl, rfl⟩
              go_wp2_with fail
              refine (mkind_any _ _).mono ?_
              rintro e w' ⟨rfl, rfl⟩
              go_wp2
              go_round
              case rel => exact ⟨k + 1, by omega, by go_num, by rw [cnt_no HQ.out]⟩
              case measure => simp [intOf]; omega
        · have h2' : (sideI x == side) = false := by simpa using h2
          clear h2
          have HQ : Hid (p k = false) := by rw [hq.out]; unfold hit; rw [h1, h2']; rfl
          go_wp2_with fail
          refine (mright_any _ _).mono ?_
          rintro e w' ⟨rfl, rfl⟩
          go_wp2_with fail
          refine (mside_any _ _).mono ?_
          rintro e w' ⟨rfl, rfl⟩
          go_wp2
          go_round
          case rel => exact ⟨k + 1, by omega, by go_num, by rw [cnt_no HQ.out]⟩
          case measure => simp [intOf]; omega
      · have h1' : manB x = false := by simpa using h1
        clear h1
        have HQ : Hid (p k = false) := by rw [hq.out]; unfold hit; rw [h1']; rfl
        go_wp2_with fail
        refine (mright_any _ _).mono ?_
        rintro e w' ⟨rfl, rfl⟩
        go_wp2
        go_round
        case rel => exact ⟨k + 1, by omega, by go_num, by rw [cnt_no HQ.out]⟩
        case measure => simp [intOf]; omega
    · go_wp2
      go_ret
      exact ⟨ret_int (by rw [HM.out, show k = 64 by omega]), (Kept.refl _).alloc _⟩
/-- May a number stand on a board? May all of them? -/
def okB (x : Int) : Bool := x == 0 || manB x
def rightB (B : List Int) : Bool := B.all okB
/-- The first number below n that p holds for, or none. -/
theorem first_or (p : Nat → Bool) (n : Nat) : (∀ i, i < n → p i = false) ∨ ∃ k, k < n ∧ p k = true ∧ ∀ i, i < k → p i = false := by
  induction n with
  | zero => exact .inl (fun i hi => by omega)
  | succ n ih =>
    rcases ih with h | ⟨k, hk, h1, h2⟩
    · by_cases hp : p n = true
      · exact .inr ⟨n, by omega, hp, h⟩
      · refine .inl (fun i hi => ?_)
        by_cases he : i = n
        · subst he; simpa using hp
        · exact h i (by omega)
    · exact .inr ⟨k, by omega, h1, h2⟩
theorem getD_at (B : List Int) (i : Nat) (h : i < B.length) : B.getD i 0 = B[i] := by simp [List.getD, List.getElem?_eq_getElem h]
theorem rightB_iff (B : List Int) (hB : B.length = 64) : rightB B = true ↔ ∀ i, i < 64 → okB (B.getD i 0) = true := by
  unfold rightB
  rw [List.all_eq_true]
  constructor
  · intro h i hi
    have : i < B.length := by omega
    rw [getD_at _ _ this]
    exact h _ (List.getElem_mem this)
  · intro h x hx
    obtain ⟨i, hi, rfl⟩ := List.getElem_of_mem hx
    have := h i (by omega)
    rwa [getD_at _ _ hi] at this
def edgeB (B : List Int) : Bool := (List.range 64).any (edge B)
theorem pawnAtEdge_is (B : List Int) (hB : Brd B) (w : World) :
    Calls Tryz.prog 60 #[.agg (cl B).toArray] w fun e w' => e = .returned (.bool (edgeB B)) ∧ Kept w w' := by
  rcases first_or (edge B) 64 with h | ⟨k, hk, h1, h2⟩
  · have : edgeB B = false := by
      unfold edgeB
      rw [List.any_eq_false]
      intro i hi
      rw [h i (by simpa using hi)]
      decide
    rw [this]
    exact pawnAtEdge_no B hB h w
  · have : edgeB B = true := by
      unfold edgeB
      rw [List.any_eq_true]
      exact ⟨k, by simpa using hk, h1⟩
    rw [this]
    exact pawnAtEdge_yes B hB k hk h1 h2 w
end Go.Proofs.YtkebpchhpidogaaGreatDoor
namespace Go.Proofs.YtkebpchhpidogaaGreatDoor
set_option maxRecDepth 100000
open Go.RowKit
set_option linter.unusedVariables false

/-- Squares as the cells of a slice. -/
def nl (l : List Nat) : List Value := l.map fun (i : Nat) => Value.int .i64 (i : Int)
theorem nl_length (l : List Nat) : (nl l).length = l.length := by simp [nl]
theorem nl_snoc (l : List Nat) (k : Nat) : nl (l ++ [k]) = nl l ++ [.int .i64 (k : Int)] := by simp [nl]
theorem infoInt : (Tryz.prog.info? 3).map (fun i => (i.zero, i.size, i.bytes)) = some (some (.int .i64 0), 1, 8) := by kernel_rfl
/-- A slice of squares of the call's own. -/
def Owns (w : World) (base : Nat) (v : Value) (l : List Nat) : Prop := w.ownsRow base 3 1 v l.length (nl l)
theorem Owns.low {w : World} {base b : Nat} {v : Value} {l : List Nat} (h : Owns w base v l) (hb : b ≤ base) : Owns w b v l := by
  obtain ⟨h1, h2⟩ := h
  refine ⟨h1, ?_⟩
  rcases h2 with h2 | ⟨g, cap, cur, e1, e2, e3⟩
  · exact .inl h2
  · exact .inr ⟨g, cap, cur, e1, by omega, e3⟩
theorem Owns.slice {w : World} {base : Nat} {v : Value} {l : List Nat} (h : Owns w base v l) : ∃ a cap, v = .slice a l.length cap := by
  rcases h.2 with ⟨e, h0⟩ | ⟨g, cap, cur, e, _⟩
  · exact ⟨none, 0, by rw [e, h0]⟩
  · exact ⟨_, _, e⟩
theorem Owns.kept {w w' : World} {base : Nat} {v : Value} {l : List Nat} (h : Owns w base v l) (k : Kept w w') : Owns w' base v l := by
  obtain ⟨h1, h2⟩ := h
  refine ⟨h1, ?_⟩
  rcases h2 with h2 | ⟨g, cap, cur, e1, e2, e3, e4⟩
  · exact .inl h2
  · exact .inr ⟨g, cap, cur, e1, e2, k.heap e3, e4⟩
theorem Owns.at_ {w : World} {base : Nat} {a : Option Addr} {n cap : Nat} {l : List Nat} (h : Owns w base (.slice a n cap) l) (j : Nat) (hj : j < l.length) :
    ∃ g, a = some ⟨g, 0, none⟩ ∧ w.cell? ⟨g, j, none⟩ = some (.int .i64 (l.getD j 0 : Nat)) := by
  rcases h.2 with ⟨e, h0⟩ | ⟨g, cap', cur, e, _, hh, hnc, _, hcs, ht⟩
  · omega
  · injection e with e1 e2 e3
    refine ⟨g, e1, ?_⟩
    rw [cell_of_row w g j cur _ (0, 0) hh]
    have h2 : (cur.toList.take (l.length * 1))[j]? = (nl l)[j]? := by rw [ht]
    rw [List.getElem?_take, if_pos (by omega)] at h2
    simp only [Array.getElem?_toList] at h2
    rw [h2]
    simp [nl, List.getD, List.getElem?_eq_getElem hj]
theorem owns_none (w : World) (b : Nat) (p : Nat → Bool) : Owns w b (.slice none 0 0) (sel p 0) := by
  have : sel p 0 = [] := by simp [sel]
  rw [this]; exact World.ownsRow_nil _ _ _ _
/-- What a search for squares gives. -/
def Gives (w : World) (l : List Nat) (e : Ending) (w' : World) : Prop := ∃ v, e = .returned v ∧ Owns w' w.heap.size v l ∧ Kept w w'
def whereL (B : List Int) (m : Int) : List Nat := sel (fun i => B.getD i 0 == m) 64
theorem where_step {w W wr w1 : World} {v v' : Value} {p : Nat → Bool} {k : Nat} {o : Obj} (hp : p k = true) (hW : W.heap.size = w.heap.size + 1) (hK : Kept W wr)
    (hown : Owns wr (w.heap.size + 1) v (sel p k)) (hown' : w1.ownsRow (w.heap.size + 1) 3 1 v' ((sel p k).length + 1) (nl (sel p k) ++ [.int .i64 (k : Int)])) (hg : (wr.alloc o).grownBy w1 v.ownBlock) :
    Owns w1 (w.heap.size + 1) v' (sel p (k + 1)) ∧ Kept W w1 := by
  refine ⟨?_, ?_⟩
  · unfold Owns
    rw [sel_yes hp, nl_snoc]
    simpa using hown'
  · exact (hK.alloc o).grownBy hg (fun g hgv => by have := (World.ownsRow.lt hown g hgv).1; omega)
end Go.Proofs.YtkebpchhpidogaaGreatDoor
