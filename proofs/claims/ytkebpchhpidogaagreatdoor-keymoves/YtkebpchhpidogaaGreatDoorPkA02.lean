/- The document's Where and Many; Same; King · The document's Many, and that it counts as the board's does; Index and King · Index and King · Boards compared, laid anew, stored: the laws; First; menAlone and Right. -/
import Derived.Test.YtkebpchhpidogaaGreatDoorPkA01
namespace Go.Proofs.YtkebpchhpidogaaGreatDoor
set_option maxRecDepth 100000
open Go.RowKit
set_option linter.unusedVariables false

end Go.Proofs.YtkebpchhpidogaaGreatDoor
namespace Go.Proofs.YtkebpchhpidogaaGreatDoor
set_option maxRecDepth 100000
open Go.RowKit
set_option linter.unusedVariables false

/-- How many of the kinds 1 .. j (or of the one that is asked) the document counts. -/
def term (B : List Int) (kind side : Int) (j n : Nat) : Nat :=
  if kind = 0 ∨ kind = (j : Int) then (if side = 0 then cnt (fun i => B.getD i 0 == (j : Int)) n else if side = 1 then cnt (fun i => B.getD i 0 == -(j : Int)) n else 0) else 0
def rsum (B : List Int) (kind side : Int) : Nat → Nat
  | 0 => 0
  | j + 1 => rsum B kind side j + term B kind side (j + 1) 64
theorem term_le (B : List Int) (kind side : Int) (j : Nat) : term B kind side j 64 ≤ 64 := by
  unfold term
  split
  · split
    · exact cnt_le _ _
    · split
      · exact cnt_le _ _
      · omega
  · omega
theorem rsum_le (B : List Int) (kind side : Int) (j : Nat) : rsum B kind side j ≤ 64 * j := by
  induction j with
  | zero => simp [rsum]
  | succ j ih => have := term_le B kind side (j + 1); simp only [rsum]; omega
theorem cnt_succ (p : Nat → Bool) (n : Nat) : cnt p (n + 1) = cnt p n + (p n).toNat := by
  cases h : p n
  · rw [cnt_no h]; rfl
  · rw [cnt_yes h]; rfl
theorem cnt_zero (p : Nat → Bool) : cnt p 0 = 0 := by simp [cnt, sel]
def one (kind side x : Int) (j : Nat) : Nat :=
  if kind = 0 ∨ kind = (j : Int) then (if side = 0 then (x == (j : Int)).toNat else if side = 1 then (x == -(j : Int)).toNat else 0) else 0
theorem term_succ (B : List Int) (kind side : Int) (j n : Nat) : term B kind side j (n + 1) = term B kind side j n + one kind side (B.getD n 0) j := by
  unfold term one
  split
  · split
    · rw [cnt_succ]
    · split
      · rw [cnt_succ]
      · rfl
  · rfl
theorem one_hit (kind side x : Int) : (hit kind side x).toNat = one kind side x 1 + one kind side x 2 + one kind side x 3 + one kind side x 4 + one kind side x 5 + one kind side x 6 := by
  by_cases hm : manB x = true
  · have h := (manB_iff x).1 hm
    have hx : x = -6 ∨ x = -5 ∨ x = -4 ∨ x = -3 ∨ x = -2 ∨ x = -1 ∨ x = 1 ∨ x = 2 ∨ x = 3 ∨ x = 4 ∨ x = 5 ∨ x = 6 := by omega
    have e1 : ∀ a b : Int, (a == b) = decide (a = b) := fun a b => by by_cases h : a = b <;> simp [h]
    have e2 : ∀ a : Int, decide (a = kind) = decide (kind = a) := fun a => by simp [eq_comm]
    have e3 : ∀ a : Int, decide (a = side) = decide (side = a) := fun a => by simp [eq_comm]
    rcases hx with rfl | rfl | rfl | rfl | rfl | rfl | rfl | rfl | rfl | rfl | rfl | rfl
    all_goals
      unfold hit sideI kindI one
      simp only [hm, e1, e2, e3]
      by_cases h0 : side = 0
      · subst h0
        by_cases k0 : kind = 0
        · subst k0; simp
        · simp [k0]; try (clear e1 e2 e3; split <;> simp_all)
      · by_cases h1 : side = 1
        · subst h1
          by_cases k0 : kind = 0
          · subst k0; simp
          · simp [k0]; try (clear e1 e2 e3; split <;> simp_all)
        · simp [h0, h1]
  · have hm' : manB x = false := by simpa using hm
    have h := (manB_not x).1 hm'
    have z : ∀ j : Nat, 1 ≤ j → j ≤ 6 → one kind side x j = 0 := by
      intro j h1 h2
      have a1 : (x == (j : Int)) = false := beq_eq_false_iff_ne.2 (by omega)
      have a2 : (x == -(j : Int)) = false := beq_eq_false_iff_ne.2 (by omega)
      unfold one
      rw [a1, a2]
      simp
    have hh : hit kind side x = false := by unfold hit; rw [hm']; rfl
    rw [hh, z 1 (by omega) (by omega), z 2 (by omega) (by omega), z 3 (by omega) (by omega), z 4 (by omega) (by omega), z 5 (by omega) (by omega), z 6 (by omega) (by omega)]
    rfl
theorem term_zero (B : List Int) (kind side : Int) (j : Nat) : term B kind side j 0 = 0 := by
  unfold term
  simp [cnt_zero]
theorem six_terms (B : List Int) (kind side : Int) (n : Nat) :
    term B kind side 1 n + term B kind side 2 n + term B kind side 3 n + term B kind side 4 n + term B kind side 5 n + term B kind side 6 n = cnt (fun i => hit kind side (B.getD i 0)) n := by
  induction n with
  | zero => simp [term_zero, cnt_zero]
  | succ n ih =>
    rw [cnt_succ, ← ih, one_hit]
    simp only [term_succ]
    omega
theorem rsum_six (B : List Int) (kind side : Int) : rsum B kind side 6 = many B kind side := by
  unfold many
  rw [← six_terms]
  simp only [rsum, Nat.reduceAdd]
  omega
end Go.Proofs.YtkebpchhpidogaaGreatDoor
namespace Go.Proofs.YtkebpchhpidogaaGreatDoor
set_option maxRecDepth 100000
open Go.RowKit
set_option linter.unusedVariables false

/-- The first of a list of squares; -1 of none. -/
def headI : List Nat → Int
  | [] => -1
  | a :: _ => a
theorem sel_none {p : Nat → Bool} {n : Nat} (h : ∀ i, i < n → p i = false) : sel p n = [] := by
  unfold sel
  rw [List.filter_eq_nil_iff]
  intro i hi
  rw [h i (by simpa using hi)]
  decide
theorem sel_first {p : Nat → Bool} {k : Nat} (h1 : p k = true) (h2 : ∀ i, i < k → p i = false) (n : Nat) (hn : k < n) : ∃ t, sel p n = k :: t := by
  induction n with
  | zero => omega
  | succ n ih =>
    by_cases hk : k < n
    · obtain ⟨t, ht⟩ := ih hk
      cases hp : p n
      · exact ⟨t, by rw [sel_no hp, ht]⟩
      · exact ⟨t ++ [n], by rw [sel_yes hp, ht]; rfl⟩
    · have : k = n := by omega
      subst this
      exact ⟨[], by rw [sel_yes h1, sel_none h2]; rfl⟩
theorem index_no (B : List Int) (hB : Brd B) (x : Int) (g c : Nat) (t : TypeId) (w : World) (hg : w.heap[g]? = some (.cells (cl B).toArray t (0, 0))) (hn : ∀ i, i < 64 → (B.getD i 0 == x) = false) :
    Calls Tryz.prog 86 #[.slice (some ⟨g, 0, none⟩) 64 c, .int .i8 x] w fun e w' => e = .returned (.int .i64 (-1)) ∧ w = w' := by
  have H := Lib.hid hB
  have HG := Lib.hid hg
  have HN := Lib.hid hn
  clear hB hg hn
  go_enter Tryz.func86, Tryz.ntmps86
  go_wp2
  go_loop [8] (fun i => ∃ k : Nat, k ≤ 64 ∧ i = .int .i64 k) (fun i => 64 - (intOf i).toNat)
  case atStart => exact ⟨0, by omega, rfl⟩
  case round =>
    obtain ⟨k, hk, rfl⟩ := hrel
    by_cases hlt : k < 64
    · have hc : w.cell? ⟨g, k, none⟩ = some (.int .i8 (B.getD k 0)) := by
        rw [cell_of_row _ _ k _ _ (0, 0) HG.out]
        simpa using cl_get B k (by rw [H.out.1]; exact hlt)
      have hne : (x == B.getD k 0) = false := by
        have := HN.out k hlt
        rw [beq_eq_false_iff_ne] at this ⊢
        exact fun e => this e.symm
      generalize B.getD k 0 = y at *
      go_wp2
      go_round
      case rel => exact ⟨k + 1, by omega, by go_num⟩
      case measure => simp [intOf]; omega
    · go_wp2
      go_ret
      exact ⟨rfl, rfl⟩
theorem index_yes (B : List Int) (hB : Brd B) (x : Int) (g c n : Nat) (t : TypeId) (w : World) (hg : w.heap[g]? = some (.cells (cl B).toArray t (0, 0))) (hl : n < 64) (hx : B.getD n 0 = x) (hn : ∀ i, i < n → (B.getD i 0 == x) = false) :
    Calls Tryz.prog 86 #[.slice (some ⟨g, 0, none⟩) 64 c, .int .i8 x] w fun e w' => e = .returned (.int .i64 n) ∧ w = w' := by
  have H := Lib.hid hB
  have HG := Lib.hid hg
  have HN := Lib.hid hn
  have HX := Lib.hid hx
  clear hB hg hn hx
  go_enter Tryz.func86, Tryz.ntmps86
  go_wp2
  go_loop [8] (fun i => ∃ k : Nat, k ≤ n ∧ i = .int .i64 k) (fun i => 64 - (intOf i).toNat)
  case atStart => exact ⟨0, by omega, rfl⟩
  case round =>
    obtain ⟨k, hk, rfl⟩ := hrel
    have hlt : k < 64 := by omega
    have hc : w.cell? ⟨g, k, none⟩ = some (.int .i8 (B.getD k 0)) := by
      rw [cell_of_row _ _ k _ _ (0, 0) HG.out]
      simpa using cl_get B k (by rw [H.out.1]; exact hlt)
    by_cases he : k = n
    · subst he
      rw [HX.out] at hc
      go_wp2
      go_ret
      exact ⟨rfl, rfl⟩
    · have hne : (x == B.getD k 0) = false := by
        have := HN.out k (by omega)
        rw [beq_eq_false_iff_ne] at this ⊢
        exact fun e => this e.symm
      generalize B.getD k 0 = y at *
      have hkn : k < n := by omega
      clear he
      go_wp2
      go_round
      case rel => exact ⟨k + 1, by omega, by go_num⟩
      case measure => simp [intOf]; omega
theorem index_is (B : List Int) (hB : Brd B) (x : Int) (g c : Nat) (t : TypeId) (w : World) (hg : w.heap[g]? = some (.cells (cl B).toArray t (0, 0))) :
    Calls Tryz.prog 86 #[.slice (some ⟨g, 0, none⟩) 64 c, .int .i8 x] w fun e w' => e = .returned (.int .i64 (headI (whereL B x))) ∧ w = w' := by
  rcases first_or (fun i => B.getD i 0 == x) 64 with h | ⟨k, hk, h1, h2⟩
  · have e : whereL B x = [] := sel_none h
    rw [e]
    exact index_no B hB x g c t w hg h
  · obtain ⟨r, hr⟩ := sel_first h1 h2 64 hk
    have e : whereL B x = k :: r := hr
    rw [e]
    exact index_yes B hB x g c k t w hg hk (by simpa using h1) h2
theorem headI_bd (B : List Int) (x : Int) : -1 ≤ headI (whereL B x) ∧ headI (whereL B x) < 64 := by
  cases h : whereL B x with
  | nil => exact ⟨by decide, by decide⟩
  | cons a t =>
    have : a ∈ whereL B x := by rw [h]; simp
    simp [whereL, sel] at this
    show -1 ≤ (a : Int) ∧ (a : Int) < 64
    omega
theorem king_no (B : List Int) (side : Int) (h0 : side ≠ 0) (h1 : side ≠ 1) (w : World) :
    Calls Tryz.prog 61 #[.agg (cl B).toArray, .int .i64 side] w fun e w' => e = .returned (.int .i64 (-1)) ∧ Kept w w' := by
  go_enter Tryz.func61, Tryz.ntmps61
  go_wp2_with fail
  refine (make_noside _ _ _ (by omega) (by omega) h0 h1).mono ?_
  rintro e w' ⟨rfl, rfl⟩
  go_wp2
  go_ret
  exact ⟨rfl, (Kept.refl _).alloc _⟩
theorem king_w (B : List Int) (hB : Brd B) (w : World) :
    Calls Tryz.prog 61 #[.agg (cl B).toArray, .int .i64 0] w fun e w' => e = .returned (.int .i64 (headI (whereL B 6))) ∧ Kept w w' := by
  go_enter Tryz.func61, Tryz.ntmps61
  go_wp2_with fail
  refine (make_w _ _ (by omega) (by omega)).mono ?_
  rintro e w' ⟨rfl, rfl⟩
  go_wp2_with fail
  refine (index_is B hB 6 _ _ _ _ (heap_alloc_new w _)).mono ?_
  rintro e w' ⟨rfl, rfl⟩
  go_wp2
  go_ret
  exact ⟨rfl, (Kept.refl _).alloc _⟩
theorem king_b (B : List Int) (hB : Brd B) (w : World) :
    Calls Tryz.prog 61 #[.agg (cl B).toArray, .int .i64 1] w fun e w' => e = .returned (.int .i64 (headI (whereL B (-6)))) ∧ Kept w w' := by
  go_enter Tryz.func61, Tryz.ntmps61
  go_wp2_with fail
  refine (make_b _ _ (by omega) (by omega)).mono ?_
  rintro e w' ⟨rfl, rfl⟩
  go_wp2_with fail
  refine (index_is B hB (-6) _ _ _ _ (heap_alloc_new w _)).mono ?_
  rintro e w' ⟨rfl, rfl⟩
  go_wp2
  go_ret
  exact ⟨rfl, (Kept.refl _).alloc _⟩
end Go.Proofs.YtkebpchhpidogaaGreatDoor
namespace Go.Proofs.YtkebpchhpidogaaGreatDoor
open Go.RowKit
set_option linter.unusedVariables false
set_option linter.unusedSimpArgs false
set_option maxRecDepth 100000

/-- Are two boards the same, square by square? -/
def beqB (A B : List Int) : Bool := (List.range 64).all fun i => A.getD i 0 == B.getD i 0
theorem beqB_iff {A B : List Int} (hA : A.length = 64) (hB : B.length = 64) : beqB A B = true ↔ A = B := by
  unfold beqB
  rw [List.all_eq_true]
  constructor
  · intro h
    refine List.ext_getElem (by omega) fun i h1 h2 => ?_
    have := h i (by simp; omega)
    rw [getD_at _ _ h1, getD_at _ _ h2] at this
    simpa using this
  · rintro rfl i _
    simp
theorem beqB_refl (A : List Int) : beqB A A = true := by unfold beqB; simp
theorem run_part_cl (A : List Int) (hA : A.length = 64) (i : Nat) (hi : i < 64) (w : World) : (part 22 (cl A).toArray (i * 1)).run Tryz.prog w = .ok (.int .i8 (A.getD i 0)) w := by
  have h2 := cl_get A i (by omega)
  simp [part, isAgg, run_underlying Tryz.underlying22, h2]
theorem run_eqItems_cl (d : Nat) (A B : List Int) (hA : A.length = 64) (hB : B.length = 64) (w : World) : ∀ is : List Nat, (∀ i ∈ is, i < 64) →
    (Op.eqItems (d + 1) 22 1 (cl A).toArray (cl B).toArray is).run Tryz.prog w = .ok (is.all fun i => A.getD i 0 == B.getD i 0) w
  | [], _ => by simp [Op.eqItems]
  | i :: is, h => by
    have h1 := run_part_cl A hA i (h i (by simp)) w
    have h2 := run_part_cl B hB i (h i (by simp)) w
    have ih := run_eqItems_cl d A B hA hB w is (fun j hj => h j (by simp [hj]))
    simp only [Op.eqItems, Sem.run_bind, h1, h2, Result.andThen_ok]
    have h3 : ∀ a b : Int, (Op.equalIn (d + 1) 22 (.int .i8 a) (.int .i8 b)).run Tryz.prog w = .ok (a == b) w := fun a b => by
      simp [Op.equalIn, run_underlying Tryz.underlying22]
    rw [h3]
    simp only [Result.andThen_ok, List.all_cons]
    cases hab : (A.getD i 0 == B.getD i 0)
    · rfl
    · rw [Bool.true_and, ← ih]; rfl
theorem run_equal_cl (A B : List Int) (hA : A.length = 64) (hB : B.length = 64) (w : World) :
    (Op.equal 24 (.agg (cl A).toArray) (.agg (cl B).toArray)).run Tryz.prog w = .ok (beqB A B) w := by
  obtain ⟨i, hi⟩ : ∃ i, Tryz.prog.info? 22 = some i := by
    cases hq : Tryz.prog.info? 22 with
    | none => have := info22; simp [hq] at this
    | some i => exact ⟨i, rfl⟩
  have h : ∀ d : Nat, (Op.equalIn (d + 1 + 1) 24 (.agg (cl A).toArray) (.agg (cl B).toArray)).run Tryz.prog w = .ok (beqB A B) w := fun d => by
    rw [run_equalIn_array w (d + 1) _ _ Tryz.underlying24 hi, cells22]
    exact run_eqItems_cl d A B hA hB w _ (fun i hi => by simpa using hi)
  exact h 9998
theorem eqGuard24 : Tryz.prog.eqGuardType Tryz.prog.depth 24 = false := by kernel_rfl
theorem run_eqGuard_cl (op : BinOp) (x y : Operand) (a b : Array Value) (w : World) : (eqGuard op 24 x y (.agg a) (.agg b)).run Tryz.prog w = .ok () w := by
  unfold eqGuard
  cases op <;> simp [eqGuard24, Sem.run_bind]
theorem run_eql_cl (A B : List Int) (hA : A.length = 64) (hB : B.length = 64) (w : World) :
    (binOp .eql 24 (.agg (cl A).toArray) (.agg (cl B).toArray)).run Tryz.prog w = .ok (.bool (beqB A B)) w := by
  simp only [binOp, Sem.run_bind, run_equal_cl A B hA hB w, Result.andThen_ok, Sem.run_pure]
theorem run_neq_cl (A B : List Int) (hA : A.length = 64) (hB : B.length = 64) (w : World) :
    (binOp .neq 24 (.agg (cl A).toArray) (.agg (cl B).toArray)).run Tryz.prog w = .ok (.bool (!beqB A B)) w := by
  simp only [binOp, Sem.run_bind, run_equal_cl A B hA hB w, Result.andThen_ok, Sem.run_pure]
/-- The empty board. -/
def Zb : List Int := List.replicate 64 0
theorem Zb_brd : Brd Zb := by
  refine ⟨rfl, fun i hi => ?_⟩
  have : Zb.getD i 0 = 0 := by unfold Zb; rw [List.getD, List.getElem?_replicate]; split <;> rfl
  omega
theorem zeroB : (Tryz.prog.info? 24).map (fun i => (i.zero, i.size)) = some (some (.agg (cl Zb).toArray), 64) := by kernel_rfl
theorem run_zero_b (w : World) : (zeroValue 24).run Tryz.prog w = .ok (.agg (cl Zb).toArray) w := (zero_of_info zeroB).1 w
theorem wpList_new_b {ops : Array Oper} {rest : List Oper} {o : Oper} {a : Act} {w : World} {Q : Exit → Act → World → Prop} (hgd : o.guard = none) (ho : o.op = .alloc 24)
    (h : wpList Tryz.prog ops Q rest (a.put o.dst (.pointer (some ⟨w.heap.size, 0, none⟩))) (w.alloc (.cells (cl Zb).toArray 24))) : wpList Tryz.prog ops Q (o :: rest) a w := by
  refine wpList_plain hgd fun _ hK => ?_
  unfold Oper.wp execOp
  simp only [ho, Instr.alloc, Sem.run_bind, run_zero_b, Result.andThen_ok, newVar, newRow, Value.cells]
  exact hK _ _ h
end Go.Proofs.YtkebpchhpidogaaGreatDoor
