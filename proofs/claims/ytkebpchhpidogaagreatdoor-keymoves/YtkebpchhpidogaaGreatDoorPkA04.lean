/- The examples; the walk of BoardWrong · Put; the walk of BoardPuts · The walk of BoardPuts · Boards turned: the numbers. -/
import Derived.Test.YtkebpchhpidogaaGreatDoorPkA03
namespace Go.Proofs.YtkebpchhpidogaaGreatDoor
open Go.RowKit
set_option linter.unusedVariables false
set_option linter.unusedSimpArgs false
set_option maxRecDepth 100000

theorem king_first : headI (whereL Fb (-6)) = 60 := by decide +kernel
theorem wrong_zero : wrongI Zb = 6 := by decide +kernel
theorem king_first_b (w : World) : Calls Tryz.prog 61 #[.agg (cl Fb).toArray, .int .i64 1] w fun e w' => e = .returned (.int .i64 60) ∧ Kept w w' := by
  have := king_b Fb Fb_brd w
  rwa [king_first] at this
theorem wrong_zero_b (w : World) : Calls Tryz.prog 35 #[.agg (cl Zb).toArray] w fun e w' => e = .returned (.int .i64 6) ∧ Kept w w' := by
  have := wrong_is Zb Zb_brd w
  rwa [wrong_zero] at this
/-- The empty board by a literal, guarded or not. -/
theorem wpList_zero_w {ops : Array Oper} {rest : List Oper} {o : Oper} {a : Act} {w : World} {Q : Exit → Act → World → Prop} (hw : Region.wanted o (yielded ops a.tmps) = true) (ho : o.op = .build 24 #[])
    (h : wpList Tryz.prog ops Q rest (a.put o.dst (.agg (cl Zb).toArray)) w) : wpList Tryz.prog ops Q (o :: rest) a w :=
  wpList_step fun _ hK => by
    rw [if_pos hw]
    have hf : Tryz.prog.built 24 ((#[] : Array (Nat × Operand)).map fun (i, x) => (i, a.eval x)).toList = some (cl Zb).toArray := by kernel_rfl
    exact wp_build _ _ ho (by rw [hf]; rfl) (by rw [hf]; exact hK _ _ h)
end Go.Proofs.YtkebpchhpidogaaGreatDoor
namespace Go.Proofs.YtkebpchhpidogaaGreatDoor
open Go.RowKit
set_option linter.unusedVariables false
set_option linter.unusedSimpArgs false
set_option maxRecDepth 100000

theorem wpList_eql_w {ops : Array Oper} {rest : List Oper} {o : Oper} {a : Act} {w : World} {Q : Exit → Act → World → Prop} {b : Bool} (hw : Region.wanted o (yielded ops a.tmps) = true) (x y : Operand) (ty : TypeId) (ho : o.op = .binOp .eql 24 x y ty)
    (A B : List Int) (hx : a.eval x = .agg (cl A).toArray) (hy : a.eval y = .agg (cl B).toArray) (hb : A.length = 64 ∧ B.length = 64 ∧ beqB A B = b)
    (h : wpList Tryz.prog ops Q rest (a.put o.dst (.bool b)) w) : wpList Tryz.prog ops Q (o :: rest) a w :=
  wpList_step fun _ hK => by
    rw [if_pos hw]
    unfold Oper.wp execOp
    simp only [ho, hx, hy, Sem.run_bind, run_eqGuard_cl, run_eql_cl A B hb.1 hb.2.1, Result.andThen_ok, Sem.run_pure, hb.2.2, Oper.upon_value]
    exact hK _ _ h
/-- Two results, the first of them a board in its variable. -/
theorem results_board_tmp {fn : Func} {p t : Tmp} (h : fn.results = #[.cell p 24, .tmp t]) (tmps : Array Value) (w : World) (g : Nat) (B : List Int) (hB : B.length = 64)
    (hp : tmps.getD p undef = .pointer (some ⟨g, 0, none⟩)) (hg : w.heap[g]? = some (.cells (cl B).toArray 24 (0, 0))) :
    (results fn tmps).run Tryz.prog w = .ok (.tuple #[.agg (cl B).toArray, tmps.getD t undef]) w := by
  have hp' : tmps[p]?.getD undef = .pointer (some ⟨g, 0, none⟩) := by simpa using hp
  simp [results, h, hp', asAddr, run_load_cl hB hg]
end Go.Proofs.YtkebpchhpidogaaGreatDoor
namespace Go.Proofs.YtkebpchhpidogaaGreatDoor
open Go.RowKit
set_option linter.unusedVariables false
set_option linter.unusedSimpArgs false
set_option maxRecDepth 100000

theorem two_size (w : World) (o : Obj) : (w.alloc o).heap.size = w.heap.size + 1 := by simp
theorem Zb_len : Zb.length = 64 := Zb_brd.1
/-- A whole board into the variable that was laid last. -/
theorem wpList_store_new {ops : Array Oper} {rest : List Oper} {o : Oper} {a : Act} {w : World} {Q : Exit → Act → World → Prop} (hgd : o.guard = none) (x y : Operand) (ho : o.op = .store 24 x y)
    (A B : List Int) (hA : A.length = 64) (hB : B.length = 64) (hx : a.eval x = .pointer (some ⟨w.heap.size, 0, none⟩)) (hy : a.eval y = .agg (cl B).toArray)
    (h : wpList Tryz.prog ops Q rest (a.put o.dst undef) (w.alloc (.cells (cl B).toArray 24))) : wpList Tryz.prog ops Q (o :: rest) a (w.alloc (.cells (cl A).toArray 24)) := by
  refine wpList_store_row hgd 24 x y ho w.heap.size (cl B).toArray hx hy 24 _ (heap_alloc_new w _) (size_cl hB) (by rw [cl_size _ hA, cl_size _ hB]) (cl_one _) ?_
  rw [World.setRow_alloc_new]
  exact h
end Go.Proofs.YtkebpchhpidogaaGreatDoor
namespace Go.Proofs.YtkebpchhpidogaaGreatDoor
open Go.RowKit
set_option linter.unusedVariables false
set_option linter.unusedSimpArgs false
set_option maxRecDepth 100000

/-- The flipped square; the other side's man. -/
def flipN (i : Nat) : Nat := (7 - i / 8) * 8 + i % 8
def negI (x : Int) : Int := IntKind.i8.wrap (-x)
theorem flipN_lt {i : Nat} (h : i < 64) : flipN i < 64 := by unfold flipN; omega
theorem flipN_flip {i : Nat} (h : i < 64) : flipN (flipN i) = i := by unfold flipN; omega
theorem flipN_int {i : Nat} (h : i < 64) : ((flipN i : Nat) : Int) = (7 - (i : Int) / 8) * 8 + (i : Int) % 8 := by unfold flipN; omega
theorem wrap8 (x : Int) (h0 : -128 ≤ x) (h1 : x ≤ 127) : IntKind.i8.wrap x = x := by
  have e : IntKind.i8.wrap x = (x + 128) % 256 - 128 := by
    simp only [IntKind.wrap]
    first | rfl | (simp [IntKind.bits, IntKind.signed]; omega)
  rw [e]; omega
theorem negI_is (x : Int) (h0 : -128 < x) (h1 : x ≤ 127) : negI x = -x := by
  unfold negI; exact wrap8 _ (by omega) (by omega)
theorem negI_low : negI (-128) = -128 := by decide
theorem negI_bd (x : Int) (h0 : -128 ≤ x) (h1 : x ≤ 127) : -128 ≤ negI x ∧ negI x ≤ 127 := by
  by_cases h : x = -128
  · subst h; rw [negI_low]; omega
  · rw [negI_is x (by omega) h1]; omega
theorem negI_neg (x : Int) (h0 : -128 ≤ x) (h1 : x ≤ 127) : negI (negI x) = x := by
  by_cases h : x = -128
  · subst h; rw [negI_low, negI_low]
  · rw [negI_is x (by omega) h1, negI_is (-x) (by omega) (by omega)]; omega
def turnL (B : List Int) : List Int := tab fun i => negI (B.getD (flipN i) 0)
theorem turn_brd {B : List Int} (hB : Brd B) : Brd (turnL B) :=
  tab_brd fun i hi => negI_bd _ (hB.2 _ (flipN_lt hi)).1 (hB.2 _ (flipN_lt hi)).2
theorem turn_get (B : List Int) (i : Nat) (hi : i < 64) : (turnL B).getD i 0 = negI (B.getD (flipN i) 0) := tab_get _ i hi
theorem turn_turn {B : List Int} (hB : Brd B) : turnL (turnL B) = B := by
  refine Eq.trans (tab_ext fun i hi => ?_) (tab_of B hB.1)
  rw [turn_get B _ (flipN_lt hi), flipN_flip hi]
  exact negI_neg _ (hB.2 i hi).1 (hB.2 i hi).2
theorem man_neg (x : Int) (h0 : -128 ≤ x) (h1 : x ≤ 127) : manB (negI x) = manB x := by
  rw [Bool.eq_iff_iff, manB_iff, manB_iff]
  by_cases h : x = -128
  · subst h; rw [negI_low]
  · rw [negI_is x (by omega) h1]; omega
theorem kind_neg (x : Int) (h0 : -128 ≤ x) (h1 : x ≤ 127) : kindI (negI x) = kindI x := by
  unfold kindI
  rw [man_neg x h0 h1]
  by_cases hm : manB x = true
  · have := (manB_iff x).1 hm
    rw [if_pos hm, if_pos hm, negI_is x (by omega) h1]
    split <;> split <;> omega
  · rw [if_neg hm, if_neg hm]
theorem side_neg (x : Int) (h0 : -128 ≤ x) (h1 : x ≤ 127) (hm : manB x = true) : sideI (negI x) = 1 - sideI x := by
  unfold sideI
  have := (manB_iff x).1 hm
  rw [man_neg x h0 h1, if_pos hm, if_pos hm, negI_is x (by omega) h1]
  split <;> split <;> omega
theorem hit_neg (kind s x : Int) (h0 : -128 ≤ x) (h1 : x ≤ 127) : hit kind s (negI x) = hit kind (1 - s) x := by
  unfold hit
  rw [man_neg x h0 h1, kind_neg x h0 h1]
  by_cases hm : manB x = true
  · rw [side_neg x h0 h1 hm]
    congr 1
    congr 1
    rw [Bool.eq_iff_iff, beq_iff_eq, beq_iff_eq]
    omega
  · have : manB x = false := by simpa using hm
    rw [this]; rfl
theorem ok_neg (x : Int) (h0 : -128 ≤ x) (h1 : x ≤ 127) : okB (negI x) = okB x := by
  unfold okB
  rw [man_neg x h0 h1]
  congr 1
  rw [Bool.eq_iff_iff, beq_iff_eq, beq_iff_eq]
  by_cases h : x = -128
  · subst h; rw [negI_low]
  · rw [negI_is x (by omega) h1]; omega
theorem flip_perm : ((List.range 64).map flipN).Perm (List.range 64) := by decide +kernel
theorem cnt_countP (p : Nat → Bool) (n : Nat) : cnt p n = (List.range n).countP p := by
  unfold cnt sel; exact (List.countP_eq_length_filter).symm
theorem cnt_flip (p : Nat → Bool) : cnt (fun i => p (flipN i)) 64 = cnt p 64 := by
  rw [cnt_countP, cnt_countP, ← flip_perm.countP_eq p, List.countP_map]
  rfl
theorem cnt_ext {p q : Nat → Bool} {n : Nat} (h : ∀ i, i < n → p i = q i) : cnt p n = cnt q n := by
  rw [cnt_countP, cnt_countP]
  exact List.countP_congr fun i hi => by rw [h i (by simpa using hi)]
theorem many_turn {B : List Int} (hB : Brd B) (kind s : Int) : manyI (turnL B) kind s = manyI B kind (1 - s) := by
  unfold manyI many
  congr 1
  rw [← cnt_flip (fun i => hit kind (1 - s) (B.getD i 0))]
  refine cnt_ext fun i hi => ?_
  have hb := hB.2 _ (flipN_lt hi)
  show hit kind s ((turnL B).getD i 0) = _
  rw [turn_get B i hi, hit_neg _ _ _ hb.1 hb.2]
theorem any_flip (p : Nat → Bool) : (List.range 64).any (fun i => p (flipN i)) = (List.range 64).any p := by
  rw [Bool.eq_iff_iff, List.any_eq_true, List.any_eq_true]
  constructor
  · rintro ⟨i, hi, h⟩
    have hi : i < 64 := by simpa using hi
    exact ⟨flipN i, by simpa using flipN_lt hi, h⟩
  · rintro ⟨i, hi, h⟩
    have hi : i < 64 := by simpa using hi
    exact ⟨flipN i, by simpa using flipN_lt hi, by rw [flipN_flip hi]; exact h⟩
theorem edge_turn {B : List Int} (hB : Brd B) : edgeB (turnL B) = edgeB B := by
  unfold edgeB
  rw [← any_flip (edge B), Bool.eq_iff_iff, List.any_eq_true, List.any_eq_true]
  have e : ∀ i, i < 64 → edge (turnL B) i = edge B (flipN i) := by
    intro i hi
    have hb := hB.2 _ (flipN_lt hi)
    unfold edge
    rw [turn_get B i hi, kind_neg _ hb.1 hb.2]
    congr 1
    rw [Bool.eq_iff_iff]
    simp only [Bool.or_eq_true, beq_iff_eq]
    rw [flipN_int hi]
    omega
  constructor
  · rintro ⟨i, hi, h⟩
    exact ⟨i, hi, by rw [← e i (by simpa using hi)]; exact h⟩
  · rintro ⟨i, hi, h⟩
    exact ⟨i, hi, by rw [e i (by simpa using hi)]; exact h⟩
theorem right_turn {B : List Int} (hB : Brd B) : rightB (turnL B) = rightB B := by
  rw [Bool.eq_iff_iff, rightB_iff _ (turn_brd hB).1, rightB_iff _ hB.1]
  constructor
  · intro h i hi
    have hb := hB.2 i hi
    have := h (flipN i) (flipN_lt hi)
    rwa [turn_get B _ (flipN_lt hi), flipN_flip hi, ok_neg _ hb.1 hb.2] at this
  · intro h i hi
    have hb := hB.2 _ (flipN_lt hi)
    rw [turn_get B i hi, ok_neg _ hb.1 hb.2]
    exact h _ (flipN_lt hi)
theorem wrong_turn {B : List Int} (hB : Brd B) : wrongI (turnL B) = wrongI B := by
  unfold wrongI
  rw [right_turn hB, edge_turn hB, many_turn hB, many_turn hB, many_turn hB, many_turn hB]
  simp only [show (1 : Int) - 0 = 1 from rfl, show (1 : Int) - 1 = 0 from rfl]
  have e1 : (manyI B 6 1 ≠ 1 ∨ manyI B 6 0 ≠ 1) = (manyI B 6 0 ≠ 1 ∨ manyI B 6 1 ≠ 1) := propext Or.comm
  have e2 : (16 < manyI B 0 1 ∨ 16 < manyI B 0 0) = (16 < manyI B 0 0 ∨ 16 < manyI B 0 1) := propext Or.comm
  simp only [e1, e2]
theorem turn_first : turnL Fb = Fb := by decide +kernel
theorem wrong_first : wrongI Fb = 0 := by decide +kernel
theorem empty_first : (whereL Fb 0).length = 32 := by decide +kernel
/-- The turned board, as far as the squares below k have been turned. -/
def tk (B : List Int) (k : Nat) : Nat → Int := fun i => if flipN i < k then negI (B.getD (flipN i) 0) else 0
theorem tk_zero (B : List Int) : tab (tk B 0) = Zb := by
  refine Eq.trans (tab_ext (g := fun i => Zb.getD i 0) fun i hi => ?_) (tab_of Zb Zb_brd.1)
  have : Zb.getD i 0 = 0 := by unfold Zb; rw [List.getD, List.getElem?_replicate]; split <;> rfl
  rw [this]; unfold tk; rw [if_neg (by omega)]
theorem tk_set {B : List Int} {k : Nat} (hk : k < 64) : (tab (tk B k)).set (flipN k) (negI (B.getD k 0)) = tab (tk B (k + 1)) := by
  rw [tab_set]
  refine tab_ext fun i hi => ?_
  unfold tk
  by_cases e : i = flipN k
  · subst e
    rw [if_pos rfl, flipN_flip hk, if_pos (by omega)]
  · have e' : flipN i ≠ k := fun h => e (by rw [← h, flipN_flip hi])
    rw [if_neg e]
    by_cases l : flipN i < k
    · rw [if_pos l, if_pos (by omega)]
    · rw [if_neg l, if_neg (by omega)]
theorem tk_end (B : List Int) (k : Nat) (h : ¬ k < 64) : tab (tk B k) = turnL B :=
  tab_ext fun i hi => by have := flipN_lt hi; unfold tk; rw [if_pos (by omega)]
end Go.Proofs.YtkebpchhpidogaaGreatDoor
