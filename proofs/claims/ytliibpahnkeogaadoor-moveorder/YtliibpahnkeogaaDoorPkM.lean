/- The example; Less; the walk of MoveOrder. (Written by wip/mkmvh.py.). -/
import Derived.Test.YtliibpahnkeogaaDoorPkL
namespace Go.Proofs.YtliibpahnkeogaaDoor
open Go.RowKit
set_option linter.unusedVariables false
set_option linter.unusedSimpArgs false
set_option maxRecDepth 100000

def E4 : Mv := ⟨12, 28, 0⟩
theorem E4_ok : okM Fp E4 = true := by decide +kernel
theorem E4_e : (behP Fp E4).e = 20 := by decide +kernel
theorem E4_t : (behP Fp E4).t = 1 := by decide +kernel
theorem E4_m : (behP Fp E4).B.getD 28 0 = 1 := by decide +kernel
theorem move_wake (w : World) (hT : TabM w) : Calls Tryd.prog 8 #[] w fun e w' => e = .returned (.bool true) ∧ Kept w w' := by
  have HT := Lib.hid hT
  clear hT
  have hql : Hid ((behP Fp E4).B.length = 64) := by show (behB Fp E4).length = 64; exact behB_len Fp_len
  go_enter Tryd.func8, Tryd.ntmps8
  go_wp2_with fail
  refine (pfirst_is _).mono ?_
  rintro e w1 ⟨rfl, k1⟩
  have HK1 := Lib.hid k1
  clear k1
  go_wp2_with fail
  refine (make_yes Fp Fp_brd E4 E4_ok _ (HT.out.kept HK1.out)).mono ?_
  rintro e w2 ⟨rfl, k2⟩
  have HK2 := Lib.hid ((HK1.out.trans k2).alloc (.cells (pl (behP Fp E4)).toArray 26))
  have HQ := Lib.hid (PAt.new w2 hql.out)
  have c1 := HQ.out.ep
  have c2 := HQ.out.turn
  have c3 := HQ.out.sq 28 (by omega)
  rw [E4_e] at c1
  rw [E4_t] at c2
  rw [E4_m] at c3
  clear k2
  generalize behP Fp E4 = q at *
  go_wp2_with (first | (with_reducible refine wpList_new_p rfl rfl ?_) | ((with_reducible refine wpList_store_newp rfl _ _ rfl Zp q Zp_len hql.out ?_ ?_ ?_); exact rfl; exact rfl))
  go_ret
  exact ⟨rfl, HK2.out⟩
/-- Two moves compared. -/
def beqM (a b : Mv) : Bool := (a.f == b.f) && (a.t == b.t) && (a.p == b.p)
theorem beqM_refl (a : Mv) : beqM a a = true := by simp [beqM]
theorem beqM_iff (a b : Mv) : beqM a b = true ↔ a = b := by
  obtain ⟨f, t, p⟩ := a
  obtain ⟨f', t', p'⟩ := b
  simp [beqM, and_assoc]
theorem fieldsM : (Tryd.prog.fieldsOf 28).toList.map (fun f => (f.name == "_", f.type, f.offset)) = [(false, 3, 0), (false, 3, 1), (false, 3, 2)] := by kernel_rfl
theorem stoodM : Tryd.prog.stoodInHeld 28 = false := by kernel_rfl
theorem eqGuardM : Tryd.prog.eqGuardType Tryd.prog.depth 28 = false := by kernel_rfl
theorem run_part_m (a : Mv) (k : Nat) {x : Int} (hk : (ml a)[k]? = some (.int .i64 x)) (w : World) : (part 3 (ml a).toArray k).run Tryd.prog w = .ok (.int .i64 x) w := by
  simp [part, isAgg, run_underlying Tryd.underlying3, hk]
theorem run_equal_mv (a b : Mv) (w : World) : (Op.equalIn 10000 28 (.agg (ml a).toArray) (.agg (ml b).toArray)).run Tryd.prog w = .ok (beqM a b) w := by
  have hu : Tryd.prog.underlying 28 = some (.struct (Tryd.prog.fieldsOf 28)) := by kernel_rfl
  rw [run_equalIn_struct w 9999 _ _ _ hu stoodM]
  obtain ⟨f1, f2, f3, hf, n1, t1, o1, n2, t2, o2, n3, t3, o3⟩ : ∃ f1 f2 f3, (Tryd.prog.fieldsOf 28).toList = [f1, f2, f3] ∧
      f1.name ≠ "_" ∧ f1.type = 3 ∧ f1.offset = 0 ∧ f2.name ≠ "_" ∧ f2.type = 3 ∧ f2.offset = 1 ∧ f3.name ≠ "_" ∧ f3.type = 3 ∧ f3.offset = 2 := by
    have h := fieldsM
    generalize (Tryd.prog.fieldsOf 28).toList = fs at h
    have hl : fs.length = 3 := by simpa using congrArg List.length h
    match fs, hl with
    | [f1, f2, f3], _ =>
      simp only [List.map_cons, List.map_nil, List.cons.injEq, Prod.mk.injEq, beq_eq_false_iff_ne, and_true] at h
      exact ⟨f1, f2, f3, rfl, h.1.1, h.1.2.1, h.1.2.2, h.2.1.1, h.2.1.2.1, h.2.1.2.2, h.2.2.1, h.2.2.2.1, h.2.2.2.2⟩
  have i8 : ∀ a b : Int, (Op.equalIn 9999 3 (.int .i64 a) (.int .i64 b)).run Tryd.prog w = .ok (a == b) w := fun a b => run_equalIn_int w 9998 _ _ _ a b Tryd.underlying3
  have a1 := run_part_m a 0 (x := a.f) rfl w
  have a2 := run_part_m a 1 (x := a.t) rfl w
  have a3 := run_part_m a 2 (x := a.p) rfl w
  have b1 := run_part_m b 0 (x := b.f) rfl w
  have b2 := run_part_m b 1 (x := b.t) rfl w
  have b3 := run_part_m b 2 (x := b.p) rfl w
  rw [hf]
  unfold beqM
  rw [Op.eqFields, if_pos n1]
  simp only [Sem.run_bind, t1, o1, a1, b1, Result.andThen_ok, i8]
  cases a.f == b.f
  · simp
  · simp only [Bool.not_true, Bool.false_eq_true, if_false, Bool.true_and]
    rw [Op.eqFields, if_pos n2]
    simp only [Sem.run_bind, t2, o2, a2, b2, Result.andThen_ok, i8]
    cases a.t == b.t
    · simp
    · simp only [Bool.not_true, Bool.false_eq_true, if_false, Bool.true_and]
      rw [Op.eqFields, if_pos n3]
      simp only [Sem.run_bind, t3, o3, a3, b3, Result.andThen_ok, i8]
      cases a.p == b.p
      · simp
      · simp [Op.eqFields]
theorem run_eql_mv (a b : Mv) (w : World) : (binOp .eql 28 (.agg (ml a).toArray) (.agg (ml b).toArray)).run Tryd.prog w = .ok (.bool (beqM a b)) w := by
  simp only [binOp, Sem.run_bind, Op.equal, Op.maxDepth, run_equal_mv, Result.andThen_ok, Sem.run_pure]
theorem run_neq_mv (a b : Mv) (w : World) : (binOp .neq 28 (.agg (ml a).toArray) (.agg (ml b).toArray)).run Tryd.prog w = .ok (.bool (!beqM a b)) w := by
  simp only [binOp, Sem.run_bind, Op.equal, Op.maxDepth, run_equal_mv, Result.andThen_ok, Sem.run_pure]
theorem take_neq_mv {ops : Array Oper} {S : World → Prop} {op : Oper} {ac : Act} {b : Bool} (hw : Region.wanted op (yielded ops ac.tmps) = true) (x y : Operand) (ty : TypeId) (ho : op.op = .binOp .neq 28 x y ty)
    (p q : Mv) (hx : ac.eval x = .agg (ml p).toArray) (hy : ac.eval y = .agg (ml q).toArray) (h : (!beqM p q) = b) : YieldsIf Tryd.prog ops S op (.bool b) ac :=
  .inl ⟨hw, fun w _ => by
    unfold execOp
    simp only [ho, hx, hy, Sem.run_bind, run_eqGuard_agg w _ _ _ _ _ _ eqGuardM, run_neq_mv, Result.andThen_ok, Sem.run_pure, h]⟩
theorem wpList_eql_mv {ops : Array Oper} {rest : List Oper} {o : Oper} {a : Act} {w : World} {Q : Exit → Act → World → Prop} {b : Bool} (hw : Region.wanted o (yielded ops a.tmps) = true) (x y : Operand) (ty : TypeId) (ho : o.op = .binOp .eql 28 x y ty)
    (p q : Mv) (hx : a.eval x = .agg (ml p).toArray) (hy : a.eval y = .agg (ml q).toArray) (h : beqM p q = b)
    (hk : wpList Tryd.prog ops Q rest (a.put o.dst (.bool b)) w) : wpList Tryd.prog ops Q (o :: rest) a w :=
  wpList_step fun _ hK => by
    rw [if_pos hw]
    unfold Oper.wp execOp
    simp only [ho, hx, hy, Sem.run_bind, run_eqGuard_agg w _ _ _ _ _ _ eqGuardM, run_eql_mv, Result.andThen_ok, Sem.run_pure, h, Oper.upon_value]
    exact hK _ _ hk
theorem wpList_neq_mv {ops : Array Oper} {rest : List Oper} {o : Oper} {a : Act} {w : World} {Q : Exit → Act → World → Prop} {b : Bool} (hw : Region.wanted o (yielded ops a.tmps) = true) (x y : Operand) (ty : TypeId) (ho : o.op = .binOp .neq 28 x y ty)
    (p q : Mv) (hx : a.eval x = .agg (ml p).toArray) (hy : a.eval y = .agg (ml q).toArray) (h : (!beqM p q) = b)
    (hk : wpList Tryd.prog ops Q rest (a.put o.dst (.bool b)) w) : wpList Tryd.prog ops Q (o :: rest) a w :=
  wpList_step fun _ hK => by
    rw [if_pos hw]
    unfold Oper.wp execOp
    simp only [ho, hx, hy, Sem.run_bind, run_eqGuard_agg w _ _ _ _ _ _ eqGuardM, run_neq_mv, Result.andThen_ok, Sem.run_pure, h, Oper.upon_value]
    exact hK _ _ hk
/-- Which of two numbers is ahead. -/
def cmpI (x y : Int) : Int := if x < y then -1 else if y < x then 1 else 0
theorem nan_is (x : Int) (w : World) : Calls Tryd.prog 88 #[.int .i64 x] w fun e w' => e = .returned (.bool false) ∧ w = w' := by
  go_enter Tryd.func88, Tryd.ntmps88
  go_wp2
  go_ret
  exact ⟨by simp, rfl⟩
theorem compare_is (x y : Int) (w : World) : Calls Tryd.prog 61 #[.int .i64 x, .int .i64 y] w fun e w' => e = .returned (.int .i64 (cmpI x y)) ∧ Kept w w' := by
  by_cases h1 : x < y
  · have HV : Hid (cmpI x y = -1) := by show _ = _; unfold cmpI; rw [if_pos h1]
    go_enter Tryd.func61, Tryd.ntmps61
    go_wp2_with fail
    refine (nan_is _ _).mono ?_
    rintro e w' ⟨rfl, rfl⟩
    go_wp2_with fail
    refine (nan_is _ _).mono ?_
    rintro e w' ⟨rfl, rfl⟩
    go_wp2
    go_ret
    exact ⟨by rw [HV.out]; rfl, Kept.refl _⟩
  · by_cases h2 : y < x
    · have HV : Hid (cmpI x y = 1) := by show _ = _; unfold cmpI; rw [if_neg h1, if_pos h2]
      go_enter Tryd.func61, Tryd.ntmps61
      go_wp2_with fail
      refine (nan_is _ _).mono ?_
      rintro e w' ⟨rfl, rfl⟩
      go_wp2_with fail
      refine (nan_is _ _).mono ?_
      rintro e w' ⟨rfl, rfl⟩
      go_wp2
      go_ret
      exact ⟨by rw [HV.out]; rfl, Kept.refl _⟩
    · have HV : Hid (cmpI x y = 0) := by show _ = _; unfold cmpI; rw [if_neg h1, if_neg h2]
      go_enter Tryd.func61, Tryd.ntmps61
      go_wp2_with fail
      refine (nan_is _ _).mono ?_
      rintro e w' ⟨rfl, rfl⟩
      go_wp2_with fail
      refine (nan_is _ _).mono ?_
      rintro e w' ⟨rfl, rfl⟩
      go_wp2
      go_ret
      exact ⟨by rw [HV.out]; rfl, Kept.refl _⟩
/-- The first of three that isn't 0. -/
def orI (l : List Int) : Int := if l.getD 0 0 ≠ 0 then l.getD 0 0 else if l.getD 1 0 ≠ 0 then l.getD 1 0 else if l.getD 2 0 ≠ 0 then l.getD 2 0 else 0
theorem or_at {l : List Int} {k : Nat} (hk : k < 3) (h : l.getD k 0 ≠ 0) (hn : ∀ j, j < k → l.getD j 0 = 0) : orI l = l.getD k 0 := by
  unfold orI
  have : k = 0 ∨ k = 1 ∨ k = 2 := by omega
  rcases this with rfl | rfl | rfl
  · rw [if_pos h]
  · rw [if_neg (by rw [hn 0 (by omega)]; simp), if_pos h]
  · rw [if_neg (by rw [hn 0 (by omega)]; simp), if_neg (by rw [hn 1 (by omega)]; simp), if_pos h]
theorem or_none {l : List Int} (hn : ∀ j, j < 3 → l.getD j 0 = 0) : orI l = 0 := by
  unfold orI
  rw [if_neg (by rw [hn 0 (by omega)]; simp), if_neg (by rw [hn 1 (by omega)]; simp), if_neg (by rw [hn 2 (by omega)]; simp)]
theorem or_is (l : List Int) (g : Nat) (w : World) (hc : ∀ j, j < 3 → w.cell? ⟨g, j, none⟩ = some (.int .i64 (l.getD j 0))) :
    Calls Tryd.prog 60 #[.slice (some ⟨g, 0, none⟩) 3 3] w fun e w' => e = .returned (.int .i64 (orI l)) ∧ Kept w w' := by
  have HC := Lib.hid hc
  clear hc
  go_enter Tryd.func60, Tryd.ntmps60
  go_wp2
  go_loopw [8] (fun t8 wr => ∃ k : Nat, k ≤ 3 ∧ t8 = .int .i64 k ∧ (∀ j, j < k → l.getD j 0 = 0) ∧ Kept w wr) (fun t8 _ => 3 - (intOf t8).toNat)
  case atStart => exact ⟨0, by omega, rfl, fun j hj => by omega, Kept.refl _⟩
  case round =>
    obtain ⟨k, hk, rfl, hno, hK⟩ := hrel
    have HNo := Lib.hid hno
    have HK := Lib.hid hK
    clear hno
    by_cases hlt : k < 3
    · have hx := kept_cell hK (HC.out k hlt)
      clear hK
      obtain ⟨x, hxe⟩ : ∃ x, l.getD k 0 = x := ⟨_, rfl⟩
      rw [hxe] at hx
      have HX := Lib.hid hxe
      clear hxe
      by_cases h0 : x = 0
      · have hb : (x != 0) = false := by rw [h0]; rfl
        have H0 := Lib.hid h0
        clear h0
        go_wp2
        go_roundw
        case rel => exact ⟨k + 1, by omega, by go_num, fun j hj => by rcases Nat.lt_succ_iff_lt_or_eq.1 hj with h | h; exact HNo.out j h; rw [h, HX.out]; exact H0.out, HK.out⟩
        case measure => simp [intOf]; omega
      · have hb : (x != 0) = true := bne_iff_ne.2 h0
        have HE := Lib.hid (or_at hlt (by rw [HX.out]; exact h0) HNo.out)
        clear h0
        go_wp2
        go_ret
        exact ⟨by rw [HE.out, HX.out]; rfl, HK.out⟩
    · have HE := Lib.hid (or_none (l := l) (fun j hj => HNo.out j (by omega)))
      clear hK
      go_wp2
      go_ret
      exact ⟨by rw [HE.out]; rfl, HK.out⟩
/-- Is a move ahead of another one? -/
def lessB (a b : Mv) : Bool := if a.f ≠ b.f then decide (a.f < b.f) else if a.t ≠ b.t then decide (a.t < b.t) else decide (b.p < a.p)
theorem or_less (a b : Mv) : decide (orI [cmpI a.f b.f, cmpI a.t b.t, cmpI b.p a.p] < 0) = lessB a b := by
  unfold orI lessB cmpI
  simp only [List.getD_cons_zero, List.getD_cons_succ]
  by_cases f1 : a.f < b.f
  · have : a.f ≠ b.f := by omega
    simp [f1, this]
  · by_cases f2 : b.f < a.f
    · have : a.f ≠ b.f := by omega
      simp [f1, f2, this]
    · have : a.f = b.f := by omega
      by_cases t1 : a.t < b.t
      · have : a.t ≠ b.t := by omega
        simp [*]
      · by_cases t2 : b.t < a.t
        · have : a.t ≠ b.t := by omega
          simp [*]
        · have : a.t = b.t := by omega
          by_cases p1 : b.p < a.p
          · simp [*]
          · by_cases p2 : a.p < b.p <;> simp [*]
set_option maxHeartbeats 2000000 in
theorem less_is (a b : Mv) (w : World) : Calls Tryd.prog 23 #[.agg (ml a).toArray, .agg (ml b).toArray] w fun e w' => e = .returned (.bool (lessB a b)) ∧ Kept w w' := by
  have HA : Hid (MAt _ _ a) := ⟨heap_alloc2_old w (.cells (ml a).toArray 28) (.cells (ml b).toArray 28)⟩
  have HB : Hid (MAt _ _ b) := ⟨heap_alloc2_new w (.cells (ml a).toArray 28) (.cells (ml b).toArray 28)⟩
  have HK0 := Lib.hid (((Kept.refl w).alloc (.cells (ml a).toArray 28)).alloc (.cells (ml b).toArray 28))
  have HV := Lib.hid (or_less a b)
  have HC1 := Lib.hid (compare_is a.f b.f)
  have HC2 := Lib.hid (compare_is a.t b.t)
  have HC3 := Lib.hid (compare_is b.p a.p)
  generalize cmpI a.f b.f = c1 at *
  generalize cmpI a.t b.t = c2 at *
  generalize cmpI b.p a.p = c3 at *
  go_enter Tryd.func23, Tryd.ntmps23
  go_wp2
  refine wp_region_held_drew (S := Kept _) (by kernel_rfl) (Kept.refl _).drew (fun hHeld => ?_)
  refine rg_take (i := 0) (v := (.pointer (some ⟨w.heap.size, 0, none⟩))) (some 5) rfl rfl (by kernel_rfl) (by kernel_rfl) (by kernel_rfl) (fun _ _ _ h => h) (Or.inl ⟨by rfl, fun _ _ => by go_simp⟩) hHeld ?_
  simp only [Act.put, List.setIfInBounds_toArray, List.set_cons_zero, List.set_cons_succ]
  refine rg_take (i := 1) (v := (.int .i64 a.f)) (some 6) rfl rfl (by kernel_rfl) (by kernel_rfl) (by kernel_rfl) (fun _ _ _ h => h) (Or.inl ⟨by rfl, fun w' h => by have h' := kept_cell h (HA.out.f); go_simp⟩) hHeld ?_
  simp only [Act.put, List.setIfInBounds_toArray, List.set_cons_zero, List.set_cons_succ]
  refine rg_take (i := 2) (v := (.pointer (some ⟨w.heap.size + 1, 0, none⟩))) (some 7) rfl rfl (by kernel_rfl) (by kernel_rfl) (by kernel_rfl) (fun _ _ _ h => h) (Or.inl ⟨by rfl, fun _ _ => by go_simp⟩) hHeld ?_
  simp only [Act.put, List.setIfInBounds_toArray, List.set_cons_zero, List.set_cons_succ]
  refine rg_take (i := 3) (v := (.int .i64 b.f)) (some 8) rfl rfl (by kernel_rfl) (by kernel_rfl) (by kernel_rfl) (fun _ _ _ h => h) (Or.inl ⟨by rfl, fun w' h => by have h' := kept_cell h (HB.out.f); go_simp⟩) hHeld ?_
  simp only [Act.put, List.setIfInBounds_toArray, List.set_cons_zero, List.set_cons_succ]
  refine rg_take (i := 5) (v := (.pointer (some ⟨w.heap.size, 1, none⟩))) (some 10) rfl rfl (by kernel_rfl) (by kernel_rfl) (by kernel_rfl) (fun _ _ _ h => h) (Or.inl ⟨by rfl, fun _ _ => by go_simp⟩) hHeld ?_
  simp only [Act.put, List.setIfInBounds_toArray, List.set_cons_zero, List.set_cons_succ]
  refine rg_take (i := 6) (v := (.int .i64 a.t)) (some 11) rfl rfl (by kernel_rfl) (by kernel_rfl) (by kernel_rfl) (fun _ _ _ h => h) (Or.inl ⟨by rfl, fun w' h => by have h' := kept_cell h (HA.out.t); go_simp⟩) hHeld ?_
  simp only [Act.put, List.setIfInBounds_toArray, List.set_cons_zero, List.set_cons_succ]
  refine rg_take (i := 7) (v := (.pointer (some ⟨w.heap.size + 1, 1, none⟩))) (some 12) rfl rfl (by kernel_rfl) (by kernel_rfl) (by kernel_rfl) (fun _ _ _ h => h) (Or.inl ⟨by rfl, fun _ _ => by go_simp⟩) hHeld ?_
  simp only [Act.put, List.setIfInBounds_toArray, List.set_cons_zero, List.set_cons_succ]
  refine rg_take (i := 8) (v := (.int .i64 b.t)) (some 13) rfl rfl (by kernel_rfl) (by kernel_rfl) (by kernel_rfl) (fun _ _ _ h => h) (Or.inl ⟨by rfl, fun w' h => by have h' := kept_cell h (HB.out.t); go_simp⟩) hHeld ?_
  simp only [Act.put, List.setIfInBounds_toArray, List.set_cons_zero, List.set_cons_succ]
  refine rg_take (i := 10) (v := (.pointer (some ⟨w.heap.size + 1, 2, none⟩))) (some 15) rfl rfl (by kernel_rfl) (by kernel_rfl) (by kernel_rfl) (fun _ _ _ h => h) (Or.inl ⟨by rfl, fun _ _ => by go_simp⟩) hHeld ?_
  simp only [Act.put, List.setIfInBounds_toArray, List.set_cons_zero, List.set_cons_succ]
  refine rg_take (i := 11) (v := (.int .i64 b.p)) (some 16) rfl rfl (by kernel_rfl) (by kernel_rfl) (by kernel_rfl) (fun _ _ _ h => h) (Or.inl ⟨by rfl, fun w' h => by have h' := kept_cell h (HB.out.p); go_simp⟩) hHeld ?_
  simp only [Act.put, List.setIfInBounds_toArray, List.set_cons_zero, List.set_cons_succ]
  refine rg_take (i := 12) (v := (.pointer (some ⟨w.heap.size, 2, none⟩))) (some 17) rfl rfl (by kernel_rfl) (by kernel_rfl) (by kernel_rfl) (fun _ _ _ h => h) (Or.inl ⟨by rfl, fun _ _ => by go_simp⟩) hHeld ?_
  simp only [Act.put, List.setIfInBounds_toArray, List.set_cons_zero, List.set_cons_succ]
  refine rg_take (i := 13) (v := (.int .i64 a.p)) (some 18) rfl rfl (by kernel_rfl) (by kernel_rfl) (by kernel_rfl) (fun _ _ _ h => h) (Or.inl ⟨by rfl, fun w' h => by have h' := kept_cell h (HA.out.p); go_simp⟩) hHeld ?_
  simp only [Act.put, List.setIfInBounds_toArray, List.set_cons_zero, List.set_cons_succ]
  refine wpAnyH_ready (rs := [4]) (by kernel_rfl) (by simp) ?_
  refine AllReadyH.cons rfl (fun K hK => ?_) AllReadyH.nil
  go_simp
  refine (HC1.out _).mono ?_
  rintro e x1 ⟨rfl, gx1⟩
  refine hK.out _ _ (hHeld.trans gx1) (fun _ => ?_)
  replace hHeld := hHeld.trans gx1
  clear hK K
  refine wpAnyH_ready (rs := [9]) (by kernel_rfl) (by simp) ?_
  refine AllReadyH.cons rfl (fun K hK => ?_) AllReadyH.nil
  go_simp
  refine (HC2.out _).mono ?_
  rintro e x2 ⟨rfl, gx2⟩
  refine hK.out _ _ (hHeld.trans gx2) (fun _ => ?_)
  replace hHeld := hHeld.trans gx2
  clear hK K
  refine wpAnyH_ready (rs := [14]) (by kernel_rfl) (by simp) ?_
  refine AllReadyH.cons rfl (fun K hK => ?_) AllReadyH.nil
  go_simp
  refine (HC3.out _).mono ?_
  rintro e x3 ⟨rfl, gx3⟩
  refine hK.out _ _ (hHeld.trans gx3) (fun _ => ?_)
  replace hHeld := hHeld.trans gx3
  clear hK K
  refine wpAnyH_ready (rs := [15]) (by kernel_rfl) (by simp) ?_
  refine AllReadyH.cons rfl (fun K hK => ?_) AllReadyH.nil
  go_simp
  have hnew := heap_alloc_new x3 (.cells #[.int .i64 c1, .int .i64 c2, .int .i64 c3] 3)
  have HCl := Lib.hid (fun j (hj : j < 3) => show (x3.alloc (.cells #[.int .i64 c1, .int .i64 c2, .int .i64 c3] 3)).cell? ⟨x3.heap.size, j, none⟩ = some (.int .i64 (([c1, c2, c3] : List Int).getD j 0)) by
    rw [cell_of_row _ _ j _ _ (0, 0) hnew]
    have : j = 0 ∨ j = 1 ∨ j = 2 := by omega
    rcases this with rfl | rfl | rfl <;> rfl)
  clear hnew
  refine hK.out _ _ (hHeld.alloc _) (fun _ => ?_)
  replace hHeld := hHeld.alloc (.cells #[.int .i64 c1, .int .i64 c2, .int .i64 c3] 3)
  clear hK K
  refine wpAnyH_ready (rs := [16]) (by kernel_rfl) (by simp) ?_
  refine AllReadyH.cons rfl (fun K hK => ?_) AllReadyH.nil
  go_simp
  refine (or_is [c1, c2, c3] x3.heap.size _ HCl.out).mono ?_
  rintro e x4 ⟨rfl, gx4⟩
  refine hK.out _ _ (hHeld.trans gx4) (fun _ => ?_)
  replace hHeld := hHeld.trans gx4
  clear hK K
  refine rg_take (i := 17) (v := (.bool (decide (orI [c1, c2, c3] < 0)))) (some 22) rfl rfl (by kernel_rfl) (by kernel_rfl) (by kernel_rfl) (fun _ _ _ h => h) (Or.inl ⟨by rfl, fun _ _ => by go_simp⟩) hHeld ?_
  simp only [Act.put, List.setIfInBounds_toArray, List.set_cons_zero, List.set_cons_succ]
  refine rg_take (i := 18) (v := (.bool (decide (orI [c1, c2, c3] < 0)))) (some 4) rfl rfl (by kernel_rfl) (by kernel_rfl) (by kernel_rfl) (fun _ _ _ h => h) (Or.inl ⟨by rfl, fun _ _ => by go_simp⟩) hHeld ?_
  simp only [Act.put, List.setIfInBounds_toArray, List.set_cons_zero, List.set_cons_succ]
  refine wpAnyH_done (by kernel_rfl) ?_ _
  go_wp2
  go_ret
  exact ⟨by rw [← HV.out]; rfl, HK0.out.trans hHeld⟩
theorem rless_is (a b : Mv) (w : World) : Calls Tryd.prog 24 #[.agg (ml a).toArray, .agg (ml b).toArray] w fun e w' => e = .returned (.bool (lessB a b)) ∧ Kept w w' := by
  have HA : Hid (MAt _ _ a) := ⟨heap_alloc2_old w (.cells (ml a).toArray 28) (.cells (ml b).toArray 28)⟩
  have HB : Hid (MAt _ _ b) := ⟨heap_alloc2_new w (.cells (ml a).toArray 28) (.cells (ml b).toArray 28)⟩
  have HK0 := Lib.hid (((Kept.refl w).alloc (.cells (ml a).toArray 28)).alloc (.cells (ml b).toArray 28))
  have a1 := HA.out.f
  have a2 := HA.out.t
  have a3 := HA.out.p
  have b1 := HB.out.f
  have b2 := HB.out.t
  have b3 := HB.out.p
  by_cases h1 : a.f = b.f
  · have e1 : (a.f != b.f) = false := by rw [h1]; simp
    by_cases h2 : a.t = b.t
    · have e2 : (a.t != b.t) = false := by rw [h2]; simp
      have HV : Hid (lessB a b = decide (b.p < a.p)) := by show _ = _; unfold lessB; rw [if_neg (by simpa using h1), if_neg (by simpa using h2)]
      clear h1 h2
      go_enter Tryd.func24, Tryd.ntmps24
      go_wp2
      go_ret
      exact ⟨by rw [HV.out]; rfl, HK0.out⟩
    · have e2 : (a.t != b.t) = true := bne_iff_ne.2 h2
      have HV : Hid (lessB a b = decide (a.t < b.t)) := by show _ = _; unfold lessB; rw [if_neg (by simpa using h1), if_pos h2]
      clear h1 h2
      go_enter Tryd.func24, Tryd.ntmps24
      go_wp2
      go_ret
      exact ⟨by rw [HV.out]; rfl, HK0.out⟩
  · have e1 : (a.f != b.f) = true := bne_iff_ne.2 h1
    have HV : Hid (lessB a b = decide (a.f < b.f)) := by show _ = _; unfold lessB; rw [if_pos h1]
    clear h1
    go_enter Tryd.func24, Tryd.ntmps24
    go_wp2
    go_ret
    exact ⟨by rw [HV.out]; rfl, HK0.out⟩
theorem less_iff (a b : Mv) : lessB a b = true ↔ a.f < b.f ∨ (a.f = b.f ∧ (a.t < b.t ∨ (a.t = b.t ∧ b.p < a.p))) := by
  unfold lessB
  split
  · simp only [decide_eq_true_eq]; omega
  · split
    · simp only [decide_eq_true_eq]; omega
    · simp only [decide_eq_true_eq]; omega
theorem less_not {a b : Mv} (h : lessB a b = true) : lessB b a = false ∧ beqM a b = false := by
  have h1 := (less_iff a b).1 h
  constructor
  · rw [Bool.eq_false_iff]; intro h2; have := (less_iff b a).1 h2; omega
  · rw [Bool.eq_false_iff]; intro h2; rw [beqM_iff] at h2; rw [h2] at h1; omega
theorem less_eq {a b : Mv} (h : lessB a b = false) (h' : lessB b a = false) : beqM a b = true := by
  have h1 : ¬ _ := fun x => Bool.false_ne_true (h.symm.trans ((less_iff a b).2 x))
  have h2 : ¬ _ := fun x => Bool.false_ne_true (h'.symm.trans ((less_iff b a).2 x))
  obtain ⟨f, t, p⟩ := a
  obtain ⟨f', t', p'⟩ := b
  simp only [beqM, Bool.and_eq_true, beq_iff_eq]
  dsimp only at h1 h2
  omega
theorem less_trans {a b c : Mv} (h1 : lessB a b = true) (h2 : lessB b c = true) : lessB a c = true := by
  have a1 := (less_iff a b).1 h1
  have a2 := (less_iff b c).1 h2
  exact (less_iff a c).2 (by omega)
set_option maxHeartbeats 4000000 in
theorem orderA (a b c : Mv) (h1 : lessB a b = true) (h3 : lessB b c = true) (w : World) (hT : TabM w) :
    Calls Tryd.prog 7 #[.agg (ml a).toArray, .agg (ml b).toArray, .agg (ml c).toArray] w fun e w' => e = .returned (.bool true) ∧ Kept w w' := by
  have k2 := (Kept.refl ((w.alloc (.cells (ml a).toArray 28)).alloc (.cells (ml b).toArray 28))).alloc (.cells (ml c).toArray 28)
  have HA : Hid (MAt _ _ a) := MAt.kept ⟨heap_alloc2_old w (.cells (ml a).toArray 28) (.cells (ml b).toArray 28)⟩ k2
  have HB : Hid (MAt _ _ b) := MAt.kept ⟨heap_alloc2_new w (.cells (ml a).toArray 28) (.cells (ml b).toArray 28)⟩ k2
  have HC : Hid (MAt _ _ c) := MAt.new ((w.alloc (.cells (ml a).toArray 28)).alloc (.cells (ml b).toArray 28)) c
  have hsz : ((w.alloc (.cells (ml a).toArray 28)).alloc (.cells (ml b).toArray 28)).heap.size = w.heap.size + 2 := by simp
  rw [hsz] at HC
  have HK0 := Lib.hid ((((Kept.refl w).alloc (.cells (ml a).toArray 28)).alloc (.cells (ml b).toArray 28)).trans k2)
  have HT := Lib.hid (hT.kept HK0.out)
  have L1 := Lib.hid (less_is a b)
  have L2 := Lib.hid (less_is b a)
  have L3 := Lib.hid (rless_is a b)
  have L4 := Lib.hid (less_is b c)
  have L5 := Lib.hid (less_is a c)
  rw [h1] at L1 L3
  obtain ⟨h2, hn⟩ := less_not h1
  have hne := Lib.hid hn
  rw [h2] at L2
  rw [h3] at L4
  rw [less_trans h1 h3] at L5
  clear hn h1 h2 h3
  clear hsz hT k2
  go_enter Tryd.func7, Tryd.ntmps7
  go_wp2_with fail
  refine (move_wake _ HT.out).mono ?_
  rintro e w1 ⟨rfl, k1⟩
  have HK1 := Lib.hid (HK0.out.trans k1)
  have HA1 := Lib.hid (MAt.kept HA.out k1)
  have HB1 := Lib.hid (MAt.kept HB.out k1)
  have HC1 := Lib.hid (MAt.kept HC.out k1)
  clear k1
  go_wp2
  refine wp_region_held_drew (S := Kept _) (by kernel_rfl) (Kept.refl _).drew (fun hHeld => ?_)
  refine rg_take (i := 0) (some 9) rfl rfl (by kernel_rfl) (by kernel_rfl) (by kernel_rfl) (fun _ _ _ h => h) (take_load_mv (by rfl) _ rfl _ rfl a (fun _ h => MAt.kept (HA1.out) h)) hHeld ?_
  simp only [Act.put, List.setIfInBounds_toArray, List.set_cons_zero, List.set_cons_succ]
  refine rg_take (i := 1) (some 10) rfl rfl (by kernel_rfl) (by kernel_rfl) (by kernel_rfl) (fun _ _ _ h => h) (take_load_mv (by rfl) _ rfl _ rfl b (fun _ h => MAt.kept (HB1.out) h)) hHeld ?_
  simp only [Act.put, List.setIfInBounds_toArray, List.set_cons_zero, List.set_cons_succ]
  refine rg_take (i := 3) (some 12) rfl rfl (by kernel_rfl) (by kernel_rfl) (by kernel_rfl) (fun _ _ _ h => h) (take_load_mv (by rfl) _ rfl _ rfl a (fun _ h => MAt.kept (HA1.out) h)) hHeld ?_
  simp only [Act.put, List.setIfInBounds_toArray, List.set_cons_zero, List.set_cons_succ]
  refine rg_take (i := 4) (some 13) rfl rfl (by kernel_rfl) (by kernel_rfl) (by kernel_rfl) (fun _ _ _ h => h) (take_load_mv (by rfl) _ rfl _ rfl b (fun _ h => MAt.kept (HB1.out) h)) hHeld ?_
  simp only [Act.put, List.setIfInBounds_toArray, List.set_cons_zero, List.set_cons_succ]
  refine wpAnyH_ready (rs := [2]) (by kernel_rfl) (by simp) ?_
  refine AllReadyH.cons rfl (fun K hK => ?_) AllReadyH.nil
  go_simp
  refine (L1.out _).mono ?_
  rintro e x1 ⟨rfl, gx1⟩
  refine hK.out _ _ (hHeld.trans gx1) (fun _ => ?_)
  replace hHeld := hHeld.trans gx1
  clear hK K
  refine wpAnyH_ready (rs := [5]) (by kernel_rfl) (by simp) ?_
  refine AllReadyH.cons rfl (fun K hK => ?_) AllReadyH.nil
  go_simp
  refine (L3.out _).mono ?_
  rintro e x2 ⟨rfl, gx2⟩
  refine hK.out _ _ (hHeld.trans gx2) (fun _ => ?_)
  replace hHeld := hHeld.trans gx2
  clear hK K
  refine rg_take (i := 6) (v := (.bool false)) (some 15) rfl rfl (by kernel_rfl) (by kernel_rfl) (by kernel_rfl) (fun _ _ _ h => h) (Or.inl ⟨by rfl, fun _ _ => by go_simp⟩) hHeld ?_
  simp only [Act.put, List.setIfInBounds_toArray, List.set_cons_zero, List.set_cons_succ]
  refine rg_take (i := 7) (v := (.bool false)) (some 16) rfl rfl (by kernel_rfl) (by kernel_rfl) (by kernel_rfl) (fun _ _ _ h => h) (Or.inl ⟨by rfl, fun _ _ => by go_simp⟩) hHeld ?_
  simp only [Act.put, List.setIfInBounds_toArray, List.set_cons_zero, List.set_cons_succ]
  refine rg_take (i := 8) (some 17) rfl rfl (by kernel_rfl) (by kernel_rfl) (by kernel_rfl) (fun _ _ _ h => h) (take_load_mv (by rfl) _ rfl _ rfl a (fun _ h => MAt.kept (HA1.out) h)) hHeld ?_
  simp only [Act.put, List.setIfInBounds_toArray, List.set_cons_zero, List.set_cons_succ]
  refine rg_take (i := 9) (some 18) rfl rfl (by kernel_rfl) (by kernel_rfl) (by kernel_rfl) (fun _ _ _ h => h) (take_load_mv (by rfl) _ rfl _ rfl b (fun _ h => MAt.kept (HB1.out) h)) hHeld ?_
  simp only [Act.put, List.setIfInBounds_toArray, List.set_cons_zero, List.set_cons_succ]
  refine wpAnyH_ready (rs := [10]) (by kernel_rfl) (by simp) ?_
  refine AllReadyH.cons rfl (fun K hK => ?_) AllReadyH.nil
  go_simp
  refine (L1.out _).mono ?_
  rintro e x3 ⟨rfl, gx3⟩
  refine hK.out _ _ (hHeld.trans gx3) (fun _ => ?_)
  replace hHeld := hHeld.trans gx3
  clear hK K
  refine rg_take (i := 11) (v := (.bool true)) (some 20) rfl rfl (by kernel_rfl) (by kernel_rfl) (by kernel_rfl) (fun _ _ _ h => h) (Or.inl ⟨by rfl, fun _ _ => by go_simp⟩) hHeld ?_
  simp only [Act.put, List.setIfInBounds_toArray, List.set_cons_zero, List.set_cons_succ]
  refine rg_take (i := 12) (some 21) rfl rfl (by kernel_rfl) (by kernel_rfl) (by kernel_rfl) (fun _ _ _ h => h) (take_load_mv (by rfl) _ rfl _ rfl b (fun _ h => MAt.kept (HB1.out) h)) hHeld ?_
  simp only [Act.put, List.setIfInBounds_toArray, List.set_cons_zero, List.set_cons_succ]
  refine rg_take (i := 13) (some 22) rfl rfl (by kernel_rfl) (by kernel_rfl) (by kernel_rfl) (fun _ _ _ h => h) (take_load_mv (by rfl) _ rfl _ rfl a (fun _ h => MAt.kept (HA1.out) h)) hHeld ?_
  simp only [Act.put, List.setIfInBounds_toArray, List.set_cons_zero, List.set_cons_succ]
  refine wpAnyH_ready (rs := [14]) (by kernel_rfl) (by simp) ?_
  refine AllReadyH.cons rfl (fun K hK => ?_) AllReadyH.nil
  go_simp
  refine (L2.out _).mono ?_
  rintro e x4 ⟨rfl, gx4⟩
  refine hK.out _ _ (hHeld.trans gx4) (fun _ => ?_)
  replace hHeld := hHeld.trans gx4
  clear hK K
  refine rg_take (i := 15) (v := (.bool false)) (some 24) rfl rfl (by kernel_rfl) (by kernel_rfl) (by kernel_rfl) (fun _ _ _ h => h) (Or.inl ⟨by rfl, fun _ _ => by go_simp⟩) hHeld ?_
  simp only [Act.put, List.setIfInBounds_toArray, List.set_cons_zero, List.set_cons_succ]
  refine rg_take (i := 16) (v := (.bool false)) (some 25) rfl rfl (by kernel_rfl) (by kernel_rfl) (by kernel_rfl) (fun _ _ _ h => h) (Or.inl ⟨by rfl, fun _ _ => by go_simp⟩) hHeld ?_
  simp only [Act.put, List.setIfInBounds_toArray, List.set_cons_zero, List.set_cons_succ]
  refine rg_take (i := 17) (v := (.bool false)) (some 26) rfl rfl (by kernel_rfl) (by kernel_rfl) (by kernel_rfl) (fun _ _ _ h => h) (Or.inl ⟨by rfl, fun _ _ => by go_simp⟩) hHeld ?_
  simp only [Act.put, List.setIfInBounds_toArray, List.set_cons_zero, List.set_cons_succ]
  refine rg_take (i := 18) (some 27) rfl rfl (by kernel_rfl) (by kernel_rfl) (by kernel_rfl) (fun _ _ _ h => h) (take_load_mv (by rfl) _ rfl _ rfl a (fun _ h => MAt.kept (HA1.out) h)) hHeld ?_
  simp only [Act.put, List.setIfInBounds_toArray, List.set_cons_zero, List.set_cons_succ]
  refine rg_take (i := 19) (some 28) rfl rfl (by kernel_rfl) (by kernel_rfl) (by kernel_rfl) (fun _ _ _ h => h) (take_load_mv (by rfl) _ rfl _ rfl b (fun _ h => MAt.kept (HB1.out) h)) hHeld ?_
  simp only [Act.put, List.setIfInBounds_toArray, List.set_cons_zero, List.set_cons_succ]
  refine rg_take (i := 20) (some 29) rfl rfl (by kernel_rfl) (by kernel_rfl) (by kernel_rfl) (fun _ _ _ h => h) (take_neq_mv (by rfl) _ _ _ rfl a b rfl rfl (b := true) (by rw [hne.out]; rfl)) hHeld ?_
  simp only [Act.put, List.setIfInBounds_toArray, List.set_cons_zero, List.set_cons_succ]
  refine rg_take (i := 21) (v := (.bool true)) (some 30) rfl rfl (by kernel_rfl) (by kernel_rfl) (by kernel_rfl) (fun _ _ _ h => h) (Or.inl ⟨by rfl, fun _ _ => by go_simp⟩) hHeld ?_
  simp only [Act.put, List.setIfInBounds_toArray, List.set_cons_zero, List.set_cons_succ]
  refine rg_take (i := 22) (some 31) rfl rfl (by kernel_rfl) (by kernel_rfl) (by kernel_rfl) (fun _ _ _ h => h) (take_load_mv (by rfl) _ rfl _ rfl a (fun _ h => MAt.kept (HA1.out) h)) hHeld ?_
  simp only [Act.put, List.setIfInBounds_toArray, List.set_cons_zero, List.set_cons_succ]
  refine rg_take (i := 23) (some 32) rfl rfl (by kernel_rfl) (by kernel_rfl) (by kernel_rfl) (fun _ _ _ h => h) (take_load_mv (by rfl) _ rfl _ rfl b (fun _ h => MAt.kept (HB1.out) h)) hHeld ?_
  simp only [Act.put, List.setIfInBounds_toArray, List.set_cons_zero, List.set_cons_succ]
  refine wpAnyH_ready (rs := [24]) (by kernel_rfl) (by simp) ?_
  refine AllReadyH.cons rfl (fun K hK => ?_) AllReadyH.nil
  go_simp
  refine (L1.out _).mono ?_
  rintro e x5 ⟨rfl, gx5⟩
  refine hK.out _ _ (hHeld.trans gx5) (fun _ => ?_)
  replace hHeld := hHeld.trans gx5
  clear hK K
  refine rg_take (i := 25) (v := (.bool false)) (some 34) rfl rfl (by kernel_rfl) (by kernel_rfl) (by kernel_rfl) (fun _ _ _ h => h) (Or.inl ⟨by rfl, fun _ _ => by go_simp⟩) hHeld ?_
  simp only [Act.put, List.setIfInBounds_toArray, List.set_cons_zero, List.set_cons_succ]
  refine rg_take (i := 26) (v := (.bool false)) (some 35) rfl rfl (by kernel_rfl) (by kernel_rfl) (by kernel_rfl) (fun _ _ _ h => h) (Or.inl ⟨by rfl, fun _ _ => by go_simp⟩) hHeld ?_
  simp only [Act.put, List.setIfInBounds_toArray, List.set_cons_zero, List.set_cons_succ]
  refine rg_take (i := 27) (v := (.bool false)) (some 36) rfl rfl (by kernel_rfl) (by kernel_rfl) (by kernel_rfl) (fun _ _ _ h => h) (Or.inl ⟨by rfl, fun _ _ => by go_simp⟩) hHeld ?_
  simp only [Act.put, List.setIfInBounds_toArray, List.set_cons_zero, List.set_cons_succ]
  refine rg_take (i := 28) (some 37) rfl rfl (by kernel_rfl) (by kernel_rfl) (by kernel_rfl) (fun _ _ _ h => h) (Or.inr ⟨by rfl, rfl⟩) hHeld ?_
  simp only [Act.put, List.setIfInBounds_toArray, List.set_cons_zero, List.set_cons_succ]
  refine rg_take (i := 29) (some 38) rfl rfl (by kernel_rfl) (by kernel_rfl) (by kernel_rfl) (fun _ _ _ h => h) (Or.inr ⟨by rfl, rfl⟩) hHeld ?_
  simp only [Act.put, List.setIfInBounds_toArray, List.set_cons_zero, List.set_cons_succ]
  refine rg_take (i := 30) (some 39) rfl rfl (by kernel_rfl) (by kernel_rfl) (by kernel_rfl) (fun _ _ _ h => h) (Or.inr ⟨by rfl, rfl⟩) hHeld ?_
  simp only [Act.put, List.setIfInBounds_toArray, List.set_cons_zero, List.set_cons_succ]
  refine rg_take (i := 31) (some 40) rfl rfl (by kernel_rfl) (by kernel_rfl) (by kernel_rfl) (fun _ _ _ h => h) (Or.inr ⟨by rfl, rfl⟩) hHeld ?_
  simp only [Act.put, List.setIfInBounds_toArray, List.set_cons_zero, List.set_cons_succ]
  refine rg_take (i := 32) (v := (.bool false)) (some 41) rfl rfl (by kernel_rfl) (by kernel_rfl) (by kernel_rfl) (fun _ _ _ h => h) (Or.inl ⟨by rfl, fun _ _ => by go_simp⟩) hHeld ?_
  simp only [Act.put, List.setIfInBounds_toArray, List.set_cons_zero, List.set_cons_succ]
  refine rg_take (i := 33) (v := (.bool false)) (some 42) rfl rfl (by kernel_rfl) (by kernel_rfl) (by kernel_rfl) (fun _ _ _ h => h) (Or.inl ⟨by rfl, fun _ _ => by go_simp⟩) hHeld ?_
  simp only [Act.put, List.setIfInBounds_toArray, List.set_cons_zero, List.set_cons_succ]
  refine wpAnyH_done (by kernel_rfl) ?_ _
  have HA2 := Lib.hid (MAt.kept HA1.out hHeld)
  have HB2 := Lib.hid (MAt.kept HB1.out hHeld)
  have HC2 := Lib.hid (MAt.kept HC1.out hHeld)
  have HK2 := Lib.hid (HK1.out.trans hHeld)
  clear hHeld
  go_wp2_with (first | (refine wpList_load_mv (by rfl) _ rfl _ rfl _ HA2.out ?_) | (refine wpList_load_mv (by rfl) _ rfl _ rfl _ HB2.out ?_))
  refine (L1.out _).mono ?_
  rintro e w3 ⟨rfl, k3⟩
  have HA3 := Lib.hid (MAt.kept HA2.out k3)
  have HB3 := Lib.hid (MAt.kept HB2.out k3)
  have HC3 := Lib.hid (MAt.kept HC2.out k3)
  have HK3 := Lib.hid (HK2.out.trans k3)
  clear k3
  go_wp2_with (first | (refine wpList_load_mv (by rfl) _ rfl _ rfl _ HB3.out ?_) | (refine wpList_load_mv (by rfl) _ rfl _ rfl _ HC3.out ?_))
  refine (L4.out _).mono ?_
  rintro e w4 ⟨rfl, k4⟩
  have HA4 := Lib.hid (MAt.kept HA3.out k4)
  have HC4 := Lib.hid (MAt.kept HC3.out k4)
  have HK4 := Lib.hid (HK3.out.trans k4)
  clear k4
  go_wp2_with (first | (refine wpList_load_mv (by rfl) _ rfl _ rfl _ HA4.out ?_) | (refine wpList_load_mv (by rfl) _ rfl _ rfl _ HC4.out ?_))
  refine (L5.out _).mono ?_
  rintro e w5 ⟨rfl, k5⟩
  have HK5 := Lib.hid (HK4.out.trans k5)
  clear k5
  go_wp2
  go_ret
  exact ⟨rfl, HK5.out⟩
set_option maxHeartbeats 4000000 in
theorem orderB (a b c : Mv) (h1 : lessB a b = true) (h3 : lessB b c = false) (w : World) (hT : TabM w) :
    Calls Tryd.prog 7 #[.agg (ml a).toArray, .agg (ml b).toArray, .agg (ml c).toArray] w fun e w' => e = .returned (.bool true) ∧ Kept w w' := by
  have k2 := (Kept.refl ((w.alloc (.cells (ml a).toArray 28)).alloc (.cells (ml b).toArray 28))).alloc (.cells (ml c).toArray 28)
  have HA : Hid (MAt _ _ a) := MAt.kept ⟨heap_alloc2_old w (.cells (ml a).toArray 28) (.cells (ml b).toArray 28)⟩ k2
  have HB : Hid (MAt _ _ b) := MAt.kept ⟨heap_alloc2_new w (.cells (ml a).toArray 28) (.cells (ml b).toArray 28)⟩ k2
  have HC : Hid (MAt _ _ c) := MAt.new ((w.alloc (.cells (ml a).toArray 28)).alloc (.cells (ml b).toArray 28)) c
  have hsz : ((w.alloc (.cells (ml a).toArray 28)).alloc (.cells (ml b).toArray 28)).heap.size = w.heap.size + 2 := by simp
  rw [hsz] at HC
  have HK0 := Lib.hid ((((Kept.refl w).alloc (.cells (ml a).toArray 28)).alloc (.cells (ml b).toArray 28)).trans k2)
  have HT := Lib.hid (hT.kept HK0.out)
  have L1 := Lib.hid (less_is a b)
  have L2 := Lib.hid (less_is b a)
  have L3 := Lib.hid (rless_is a b)
  have L4 := Lib.hid (less_is b c)
  have L5 := Lib.hid (less_is a c)
  rw [h1] at L1 L3
  obtain ⟨h2, hn⟩ := less_not h1
  have hne := Lib.hid hn
  rw [h2] at L2
  rw [h3] at L4
  clear hn h1 h2 h3
  clear hsz hT k2
  go_enter Tryd.func7, Tryd.ntmps7
  go_wp2_with fail
  refine (move_wake _ HT.out).mono ?_
  rintro e w1 ⟨rfl, k1⟩
  have HK1 := Lib.hid (HK0.out.trans k1)
  have HA1 := Lib.hid (MAt.kept HA.out k1)
  have HB1 := Lib.hid (MAt.kept HB.out k1)
  have HC1 := Lib.hid (MAt.kept HC.out k1)
  clear k1
  go_wp2
  refine wp_region_held_drew (S := Kept _) (by kernel_rfl) (Kept.refl _).drew (fun hHeld => ?_)
  refine rg_take (i := 0) (some 9) rfl rfl (by kernel_rfl) (by kernel_rfl) (by kernel_rfl) (fun _ _ _ h => h) (take_load_mv (by rfl) _ rfl _ rfl a (fun _ h => MAt.kept (HA1.out) h)) hHeld ?_
  simp only [Act.put, List.setIfInBounds_toArray, List.set_cons_zero, List.set_cons_succ]
  refine rg_take (i := 1) (some 10) rfl rfl (by kernel_rfl) (by kernel_rfl) (by kernel_rfl) (fun _ _ _ h => h) (take_load_mv (by rfl) _ rfl _ rfl b (fun _ h => MAt.kept (HB1.out) h)) hHeld ?_
  simp only [Act.put, List.setIfInBounds_toArray, List.set_cons_zero, List.set_cons_succ]
  refine rg_take (i := 3) (some 12) rfl rfl (by kernel_rfl) (by kernel_rfl) (by kernel_rfl) (fun _ _ _ h => h) (take_load_mv (by rfl) _ rfl _ rfl a (fun _ h => MAt.kept (HA1.out) h)) hHeld ?_
  simp only [Act.put, List.setIfInBounds_toArray, List.set_cons_zero, List.set_cons_succ]
  refine rg_take (i := 4) (some 13) rfl rfl (by kernel_rfl) (by kernel_rfl) (by kernel_rfl) (fun _ _ _ h => h) (take_load_mv (by rfl) _ rfl _ rfl b (fun _ h => MAt.kept (HB1.out) h)) hHeld ?_
  simp only [Act.put, List.setIfInBounds_toArray, List.set_cons_zero, List.set_cons_succ]
  refine wpAnyH_ready (rs := [2]) (by kernel_rfl) (by simp) ?_
  refine AllReadyH.cons rfl (fun K hK => ?_) AllReadyH.nil
  go_simp
  refine (L1.out _).mono ?_
  rintro e x1 ⟨rfl, gx1⟩
  refine hK.out _ _ (hHeld.trans gx1) (fun _ => ?_)
  replace hHeld := hHeld.trans gx1
  clear hK K
  refine wpAnyH_ready (rs := [5]) (by kernel_rfl) (by simp) ?_
  refine AllReadyH.cons rfl (fun K hK => ?_) AllReadyH.nil
  go_simp
  refine (L3.out _).mono ?_
  rintro e x2 ⟨rfl, gx2⟩
  refine hK.out _ _ (hHeld.trans gx2) (fun _ => ?_)
  replace hHeld := hHeld.trans gx2
  clear hK K
  refine rg_take (i := 6) (v := (.bool false)) (some 15) rfl rfl (by kernel_rfl) (by kernel_rfl) (by kernel_rfl) (fun _ _ _ h => h) (Or.inl ⟨by rfl, fun _ _ => by go_simp⟩) hHeld ?_
  simp only [Act.put, List.setIfInBounds_toArray, List.set_cons_zero, List.set_cons_succ]
  refine rg_take (i := 7) (v := (.bool false)) (some 16) rfl rfl (by kernel_rfl) (by kernel_rfl) (by kernel_rfl) (fun _ _ _ h => h) (Or.inl ⟨by rfl, fun _ _ => by go_simp⟩) hHeld ?_
  simp only [Act.put, List.setIfInBounds_toArray, List.set_cons_zero, List.set_cons_succ]
  refine rg_take (i := 8) (some 17) rfl rfl (by kernel_rfl) (by kernel_rfl) (by kernel_rfl) (fun _ _ _ h => h) (take_load_mv (by rfl) _ rfl _ rfl a (fun _ h => MAt.kept (HA1.out) h)) hHeld ?_
  simp only [Act.put, List.setIfInBounds_toArray, List.set_cons_zero, List.set_cons_succ]
  refine rg_take (i := 9) (some 18) rfl rfl (by kernel_rfl) (by kernel_rfl) (by kernel_rfl) (fun _ _ _ h => h) (take_load_mv (by rfl) _ rfl _ rfl b (fun _ h => MAt.kept (HB1.out) h)) hHeld ?_
  simp only [Act.put, List.setIfInBounds_toArray, List.set_cons_zero, List.set_cons_succ]
  refine wpAnyH_ready (rs := [10]) (by kernel_rfl) (by simp) ?_
  refine AllReadyH.cons rfl (fun K hK => ?_) AllReadyH.nil
  go_simp
  refine (L1.out _).mono ?_
  rintro e x3 ⟨rfl, gx3⟩
  refine hK.out _ _ (hHeld.trans gx3) (fun _ => ?_)
  replace hHeld := hHeld.trans gx3
  clear hK K
  refine rg_take (i := 11) (v := (.bool true)) (some 20) rfl rfl (by kernel_rfl) (by kernel_rfl) (by kernel_rfl) (fun _ _ _ h => h) (Or.inl ⟨by rfl, fun _ _ => by go_simp⟩) hHeld ?_
  simp only [Act.put, List.setIfInBounds_toArray, List.set_cons_zero, List.set_cons_succ]
  refine rg_take (i := 12) (some 21) rfl rfl (by kernel_rfl) (by kernel_rfl) (by kernel_rfl) (fun _ _ _ h => h) (take_load_mv (by rfl) _ rfl _ rfl b (fun _ h => MAt.kept (HB1.out) h)) hHeld ?_
  simp only [Act.put, List.setIfInBounds_toArray, List.set_cons_zero, List.set_cons_succ]
  refine rg_take (i := 13) (some 22) rfl rfl (by kernel_rfl) (by kernel_rfl) (by kernel_rfl) (fun _ _ _ h => h) (take_load_mv (by rfl) _ rfl _ rfl a (fun _ h => MAt.kept (HA1.out) h)) hHeld ?_
  simp only [Act.put, List.setIfInBounds_toArray, List.set_cons_zero, List.set_cons_succ]
  refine wpAnyH_ready (rs := [14]) (by kernel_rfl) (by simp) ?_
  refine AllReadyH.cons rfl (fun K hK => ?_) AllReadyH.nil
  go_simp
  refine (L2.out _).mono ?_
  rintro e x4 ⟨rfl, gx4⟩
  refine hK.out _ _ (hHeld.trans gx4) (fun _ => ?_)
  replace hHeld := hHeld.trans gx4
  clear hK K
  refine rg_take (i := 15) (v := (.bool false)) (some 24) rfl rfl (by kernel_rfl) (by kernel_rfl) (by kernel_rfl) (fun _ _ _ h => h) (Or.inl ⟨by rfl, fun _ _ => by go_simp⟩) hHeld ?_
  simp only [Act.put, List.setIfInBounds_toArray, List.set_cons_zero, List.set_cons_succ]
  refine rg_take (i := 16) (v := (.bool false)) (some 25) rfl rfl (by kernel_rfl) (by kernel_rfl) (by kernel_rfl) (fun _ _ _ h => h) (Or.inl ⟨by rfl, fun _ _ => by go_simp⟩) hHeld ?_
  simp only [Act.put, List.setIfInBounds_toArray, List.set_cons_zero, List.set_cons_succ]
  refine rg_take (i := 17) (v := (.bool false)) (some 26) rfl rfl (by kernel_rfl) (by kernel_rfl) (by kernel_rfl) (fun _ _ _ h => h) (Or.inl ⟨by rfl, fun _ _ => by go_simp⟩) hHeld ?_
  simp only [Act.put, List.setIfInBounds_toArray, List.set_cons_zero, List.set_cons_succ]
  refine rg_take (i := 18) (some 27) rfl rfl (by kernel_rfl) (by kernel_rfl) (by kernel_rfl) (fun _ _ _ h => h) (take_load_mv (by rfl) _ rfl _ rfl a (fun _ h => MAt.kept (HA1.out) h)) hHeld ?_
  simp only [Act.put, List.setIfInBounds_toArray, List.set_cons_zero, List.set_cons_succ]
  refine rg_take (i := 19) (some 28) rfl rfl (by kernel_rfl) (by kernel_rfl) (by kernel_rfl) (fun _ _ _ h => h) (take_load_mv (by rfl) _ rfl _ rfl b (fun _ h => MAt.kept (HB1.out) h)) hHeld ?_
  simp only [Act.put, List.setIfInBounds_toArray, List.set_cons_zero, List.set_cons_succ]
  refine rg_take (i := 20) (some 29) rfl rfl (by kernel_rfl) (by kernel_rfl) (by kernel_rfl) (fun _ _ _ h => h) (take_neq_mv (by rfl) _ _ _ rfl a b rfl rfl (b := true) (by rw [hne.out]; rfl)) hHeld ?_
  simp only [Act.put, List.setIfInBounds_toArray, List.set_cons_zero, List.set_cons_succ]
  refine rg_take (i := 21) (v := (.bool true)) (some 30) rfl rfl (by kernel_rfl) (by kernel_rfl) (by kernel_rfl) (fun _ _ _ h => h) (Or.inl ⟨by rfl, fun _ _ => by go_simp⟩) hHeld ?_
  simp only [Act.put, List.setIfInBounds_toArray, List.set_cons_zero, List.set_cons_succ]
  refine rg_take (i := 22) (some 31) rfl rfl (by kernel_rfl) (by kernel_rfl) (by kernel_rfl) (fun _ _ _ h => h) (take_load_mv (by rfl) _ rfl _ rfl a (fun _ h => MAt.kept (HA1.out) h)) hHeld ?_
  simp only [Act.put, List.setIfInBounds_toArray, List.set_cons_zero, List.set_cons_succ]
  refine rg_take (i := 23) (some 32) rfl rfl (by kernel_rfl) (by kernel_rfl) (by kernel_rfl) (fun _ _ _ h => h) (take_load_mv (by rfl) _ rfl _ rfl b (fun _ h => MAt.kept (HB1.out) h)) hHeld ?_
  simp only [Act.put, List.setIfInBounds_toArray, List.set_cons_zero, List.set_cons_succ]
  refine wpAnyH_ready (rs := [24]) (by kernel_rfl) (by simp) ?_
  refine AllReadyH.cons rfl (fun K hK => ?_) AllReadyH.nil
  go_simp
  refine (L1.out _).mono ?_
  rintro e x5 ⟨rfl, gx5⟩
  refine hK.out _ _ (hHeld.trans gx5) (fun _ => ?_)
  replace hHeld := hHeld.trans gx5
  clear hK K
  refine rg_take (i := 25) (v := (.bool false)) (some 34) rfl rfl (by kernel_rfl) (by kernel_rfl) (by kernel_rfl) (fun _ _ _ h => h) (Or.inl ⟨by rfl, fun _ _ => by go_simp⟩) hHeld ?_
  simp only [Act.put, List.setIfInBounds_toArray, List.set_cons_zero, List.set_cons_succ]
  refine rg_take (i := 26) (v := (.bool false)) (some 35) rfl rfl (by kernel_rfl) (by kernel_rfl) (by kernel_rfl) (fun _ _ _ h => h) (Or.inl ⟨by rfl, fun _ _ => by go_simp⟩) hHeld ?_
  simp only [Act.put, List.setIfInBounds_toArray, List.set_cons_zero, List.set_cons_succ]
  refine rg_take (i := 27) (v := (.bool false)) (some 36) rfl rfl (by kernel_rfl) (by kernel_rfl) (by kernel_rfl) (fun _ _ _ h => h) (Or.inl ⟨by rfl, fun _ _ => by go_simp⟩) hHeld ?_
  simp only [Act.put, List.setIfInBounds_toArray, List.set_cons_zero, List.set_cons_succ]
  refine rg_take (i := 28) (some 37) rfl rfl (by kernel_rfl) (by kernel_rfl) (by kernel_rfl) (fun _ _ _ h => h) (Or.inr ⟨by rfl, rfl⟩) hHeld ?_
  simp only [Act.put, List.setIfInBounds_toArray, List.set_cons_zero, List.set_cons_succ]
  refine rg_take (i := 29) (some 38) rfl rfl (by kernel_rfl) (by kernel_rfl) (by kernel_rfl) (fun _ _ _ h => h) (Or.inr ⟨by rfl, rfl⟩) hHeld ?_
  simp only [Act.put, List.setIfInBounds_toArray, List.set_cons_zero, List.set_cons_succ]
  refine rg_take (i := 30) (some 39) rfl rfl (by kernel_rfl) (by kernel_rfl) (by kernel_rfl) (fun _ _ _ h => h) (Or.inr ⟨by rfl, rfl⟩) hHeld ?_
  simp only [Act.put, List.setIfInBounds_toArray, List.set_cons_zero, List.set_cons_succ]
  refine rg_take (i := 31) (some 40) rfl rfl (by kernel_rfl) (by kernel_rfl) (by kernel_rfl) (fun _ _ _ h => h) (Or.inr ⟨by rfl, rfl⟩) hHeld ?_
  simp only [Act.put, List.setIfInBounds_toArray, List.set_cons_zero, List.set_cons_succ]
  refine rg_take (i := 32) (v := (.bool false)) (some 41) rfl rfl (by kernel_rfl) (by kernel_rfl) (by kernel_rfl) (fun _ _ _ h => h) (Or.inl ⟨by rfl, fun _ _ => by go_simp⟩) hHeld ?_
  simp only [Act.put, List.setIfInBounds_toArray, List.set_cons_zero, List.set_cons_succ]
  refine rg_take (i := 33) (v := (.bool false)) (some 42) rfl rfl (by kernel_rfl) (by kernel_rfl) (by kernel_rfl) (fun _ _ _ h => h) (Or.inl ⟨by rfl, fun _ _ => by go_simp⟩) hHeld ?_
  simp only [Act.put, List.setIfInBounds_toArray, List.set_cons_zero, List.set_cons_succ]
  refine wpAnyH_done (by kernel_rfl) ?_ _
  have HA2 := Lib.hid (MAt.kept HA1.out hHeld)
  have HB2 := Lib.hid (MAt.kept HB1.out hHeld)
  have HC2 := Lib.hid (MAt.kept HC1.out hHeld)
  have HK2 := Lib.hid (HK1.out.trans hHeld)
  clear hHeld
  go_wp2_with (first | (refine wpList_load_mv (by rfl) _ rfl _ rfl _ HA2.out ?_) | (refine wpList_load_mv (by rfl) _ rfl _ rfl _ HB2.out ?_))
  refine (L1.out _).mono ?_
  rintro e w3 ⟨rfl, k3⟩
  have HA3 := Lib.hid (MAt.kept HA2.out k3)
  have HB3 := Lib.hid (MAt.kept HB2.out k3)
  have HC3 := Lib.hid (MAt.kept HC2.out k3)
  have HK3 := Lib.hid (HK2.out.trans k3)
  clear k3
  go_wp2_with (first | (refine wpList_load_mv (by rfl) _ rfl _ rfl _ HB3.out ?_) | (refine wpList_load_mv (by rfl) _ rfl _ rfl _ HC3.out ?_))
  refine (L4.out _).mono ?_
  rintro e w4 ⟨rfl, k4⟩
  have HA4 := Lib.hid (MAt.kept HA3.out k4)
  have HC4 := Lib.hid (MAt.kept HC3.out k4)
  have HK4 := Lib.hid (HK3.out.trans k4)
  clear k4
  go_wp2
  go_ret
  exact ⟨rfl, HK4.out⟩
set_option maxHeartbeats 4000000 in
theorem orderC (a b c : Mv) (h1 : lessB a b = false) (h2 : lessB b a = true) (w : World) (hT : TabM w) :
    Calls Tryd.prog 7 #[.agg (ml a).toArray, .agg (ml b).toArray, .agg (ml c).toArray] w fun e w' => e = .returned (.bool true) ∧ Kept w w' := by
  have k2 := (Kept.refl ((w.alloc (.cells (ml a).toArray 28)).alloc (.cells (ml b).toArray 28))).alloc (.cells (ml c).toArray 28)
  have HA : Hid (MAt _ _ a) := MAt.kept ⟨heap_alloc2_old w (.cells (ml a).toArray 28) (.cells (ml b).toArray 28)⟩ k2
  have HB : Hid (MAt _ _ b) := MAt.kept ⟨heap_alloc2_new w (.cells (ml a).toArray 28) (.cells (ml b).toArray 28)⟩ k2
  have HC : Hid (MAt _ _ c) := MAt.new ((w.alloc (.cells (ml a).toArray 28)).alloc (.cells (ml b).toArray 28)) c
  have hsz : ((w.alloc (.cells (ml a).toArray 28)).alloc (.cells (ml b).toArray 28)).heap.size = w.heap.size + 2 := by simp
  rw [hsz] at HC
  have HK0 := Lib.hid ((((Kept.refl w).alloc (.cells (ml a).toArray 28)).alloc (.cells (ml b).toArray 28)).trans k2)
  have HT := Lib.hid (hT.kept HK0.out)
  have L1 := Lib.hid (less_is a b)
  have L2 := Lib.hid (less_is b a)
  have L3 := Lib.hid (rless_is a b)
  have L4 := Lib.hid (less_is b c)
  have L5 := Lib.hid (less_is a c)
  rw [h1] at L1 L3
  have hne : Hid (beqM a b = false) := by
    show _ = _
    rw [Bool.eq_false_iff]; intro h; rw [beqM_iff] at h; subst h; rw [h1] at h2; cases h2
  rw [h2] at L2
  clear h1 h2
  clear hsz hT k2
  go_enter Tryd.func7, Tryd.ntmps7
  go_wp2_with fail
  refine (move_wake _ HT.out).mono ?_
  rintro e w1 ⟨rfl, k1⟩
  have HK1 := Lib.hid (HK0.out.trans k1)
  have HA1 := Lib.hid (MAt.kept HA.out k1)
  have HB1 := Lib.hid (MAt.kept HB.out k1)
  have HC1 := Lib.hid (MAt.kept HC.out k1)
  clear k1
  go_wp2
  refine wp_region_held_drew (S := Kept _) (by kernel_rfl) (Kept.refl _).drew (fun hHeld => ?_)
  refine rg_take (i := 0) (some 9) rfl rfl (by kernel_rfl) (by kernel_rfl) (by kernel_rfl) (fun _ _ _ h => h) (take_load_mv (by rfl) _ rfl _ rfl a (fun _ h => MAt.kept (HA1.out) h)) hHeld ?_
  simp only [Act.put, List.setIfInBounds_toArray, List.set_cons_zero, List.set_cons_succ]
  refine rg_take (i := 1) (some 10) rfl rfl (by kernel_rfl) (by kernel_rfl) (by kernel_rfl) (fun _ _ _ h => h) (take_load_mv (by rfl) _ rfl _ rfl b (fun _ h => MAt.kept (HB1.out) h)) hHeld ?_
  simp only [Act.put, List.setIfInBounds_toArray, List.set_cons_zero, List.set_cons_succ]
  refine rg_take (i := 3) (some 12) rfl rfl (by kernel_rfl) (by kernel_rfl) (by kernel_rfl) (fun _ _ _ h => h) (take_load_mv (by rfl) _ rfl _ rfl a (fun _ h => MAt.kept (HA1.out) h)) hHeld ?_
  simp only [Act.put, List.setIfInBounds_toArray, List.set_cons_zero, List.set_cons_succ]
  refine rg_take (i := 4) (some 13) rfl rfl (by kernel_rfl) (by kernel_rfl) (by kernel_rfl) (fun _ _ _ h => h) (take_load_mv (by rfl) _ rfl _ rfl b (fun _ h => MAt.kept (HB1.out) h)) hHeld ?_
  simp only [Act.put, List.setIfInBounds_toArray, List.set_cons_zero, List.set_cons_succ]
  refine wpAnyH_ready (rs := [2]) (by kernel_rfl) (by simp) ?_
  refine AllReadyH.cons rfl (fun K hK => ?_) AllReadyH.nil
  go_simp
  refine (L1.out _).mono ?_
  rintro e x1 ⟨rfl, gx1⟩
  refine hK.out _ _ (hHeld.trans gx1) (fun _ => ?_)
  replace hHeld := hHeld.trans gx1
  clear hK K
  refine wpAnyH_ready (rs := [5]) (by kernel_rfl) (by simp) ?_
  refine AllReadyH.cons rfl (fun K hK => ?_) AllReadyH.nil
  go_simp
  refine (L3.out _).mono ?_
  rintro e x2 ⟨rfl, gx2⟩
  refine hK.out _ _ (hHeld.trans gx2) (fun _ => ?_)
  replace hHeld := hHeld.trans gx2
  clear hK K
  refine rg_take (i := 6) (v := (.bool false)) (some 15) rfl rfl (by kernel_rfl) (by kernel_rfl) (by kernel_rfl) (fun _ _ _ h => h) (Or.inl ⟨by rfl, fun _ _ => by go_simp⟩) hHeld ?_
  simp only [Act.put, List.setIfInBounds_toArray, List.set_cons_zero, List.set_cons_succ]
  refine rg_take (i := 7) (v := (.bool false)) (some 16) rfl rfl (by kernel_rfl) (by kernel_rfl) (by kernel_rfl) (fun _ _ _ h => h) (Or.inl ⟨by rfl, fun _ _ => by go_simp⟩) hHeld ?_
  simp only [Act.put, List.setIfInBounds_toArray, List.set_cons_zero, List.set_cons_succ]
  refine rg_take (i := 8) (some 17) rfl rfl (by kernel_rfl) (by kernel_rfl) (by kernel_rfl) (fun _ _ _ h => h) (take_load_mv (by rfl) _ rfl _ rfl a (fun _ h => MAt.kept (HA1.out) h)) hHeld ?_
  simp only [Act.put, List.setIfInBounds_toArray, List.set_cons_zero, List.set_cons_succ]
  refine rg_take (i := 9) (some 18) rfl rfl (by kernel_rfl) (by kernel_rfl) (by kernel_rfl) (fun _ _ _ h => h) (take_load_mv (by rfl) _ rfl _ rfl b (fun _ h => MAt.kept (HB1.out) h)) hHeld ?_
  simp only [Act.put, List.setIfInBounds_toArray, List.set_cons_zero, List.set_cons_succ]
  refine wpAnyH_ready (rs := [10]) (by kernel_rfl) (by simp) ?_
  refine AllReadyH.cons rfl (fun K hK => ?_) AllReadyH.nil
  go_simp
  refine (L1.out _).mono ?_
  rintro e x3 ⟨rfl, gx3⟩
  refine hK.out _ _ (hHeld.trans gx3) (fun _ => ?_)
  replace hHeld := hHeld.trans gx3
  clear hK K
  refine rg_take (i := 11) (v := (.bool false)) (some 20) rfl rfl (by kernel_rfl) (by kernel_rfl) (by kernel_rfl) (fun _ _ _ h => h) (Or.inl ⟨by rfl, fun _ _ => by go_simp⟩) hHeld ?_
  simp only [Act.put, List.setIfInBounds_toArray, List.set_cons_zero, List.set_cons_succ]
  refine rg_take (i := 12) (some 21) rfl rfl (by kernel_rfl) (by kernel_rfl) (by kernel_rfl) (fun _ _ _ h => h) (Or.inr ⟨by rfl, rfl⟩) hHeld ?_
  simp only [Act.put, List.setIfInBounds_toArray, List.set_cons_zero, List.set_cons_succ]
  refine rg_take (i := 13) (some 22) rfl rfl (by kernel_rfl) (by kernel_rfl) (by kernel_rfl) (fun _ _ _ h => h) (Or.inr ⟨by rfl, rfl⟩) hHeld ?_
  simp only [Act.put, List.setIfInBounds_toArray, List.set_cons_zero, List.set_cons_succ]
  refine rg_take (i := 14) (some 23) rfl rfl (by kernel_rfl) (by kernel_rfl) (by kernel_rfl) (fun _ _ _ h => h) (Or.inr ⟨by rfl, rfl⟩) hHeld ?_
  simp only [Act.put, List.setIfInBounds_toArray, List.set_cons_zero, List.set_cons_succ]
  refine rg_take (i := 15) (v := (.bool false)) (some 24) rfl rfl (by kernel_rfl) (by kernel_rfl) (by kernel_rfl) (fun _ _ _ h => h) (Or.inl ⟨by rfl, fun _ _ => by go_simp⟩) hHeld ?_
  simp only [Act.put, List.setIfInBounds_toArray, List.set_cons_zero, List.set_cons_succ]
  refine rg_take (i := 16) (v := (.bool false)) (some 25) rfl rfl (by kernel_rfl) (by kernel_rfl) (by kernel_rfl) (fun _ _ _ h => h) (Or.inl ⟨by rfl, fun _ _ => by go_simp⟩) hHeld ?_
  simp only [Act.put, List.setIfInBounds_toArray, List.set_cons_zero, List.set_cons_succ]
  refine rg_take (i := 17) (v := (.bool false)) (some 26) rfl rfl (by kernel_rfl) (by kernel_rfl) (by kernel_rfl) (fun _ _ _ h => h) (Or.inl ⟨by rfl, fun _ _ => by go_simp⟩) hHeld ?_
  simp only [Act.put, List.setIfInBounds_toArray, List.set_cons_zero, List.set_cons_succ]
  refine rg_take (i := 18) (some 27) rfl rfl (by kernel_rfl) (by kernel_rfl) (by kernel_rfl) (fun _ _ _ h => h) (take_load_mv (by rfl) _ rfl _ rfl a (fun _ h => MAt.kept (HA1.out) h)) hHeld ?_
  simp only [Act.put, List.setIfInBounds_toArray, List.set_cons_zero, List.set_cons_succ]
  refine rg_take (i := 19) (some 28) rfl rfl (by kernel_rfl) (by kernel_rfl) (by kernel_rfl) (fun _ _ _ h => h) (take_load_mv (by rfl) _ rfl _ rfl b (fun _ h => MAt.kept (HB1.out) h)) hHeld ?_
  simp only [Act.put, List.setIfInBounds_toArray, List.set_cons_zero, List.set_cons_succ]
  refine rg_take (i := 20) (some 29) rfl rfl (by kernel_rfl) (by kernel_rfl) (by kernel_rfl) (fun _ _ _ h => h) (take_neq_mv (by rfl) _ _ _ rfl a b rfl rfl (b := true) (by rw [hne.out]; rfl)) hHeld ?_
  simp only [Act.put, List.setIfInBounds_toArray, List.set_cons_zero, List.set_cons_succ]
  refine rg_take (i := 21) (v := (.bool true)) (some 30) rfl rfl (by kernel_rfl) (by kernel_rfl) (by kernel_rfl) (fun _ _ _ h => h) (Or.inl ⟨by rfl, fun _ _ => by go_simp⟩) hHeld ?_
  simp only [Act.put, List.setIfInBounds_toArray, List.set_cons_zero, List.set_cons_succ]
  refine rg_take (i := 22) (some 31) rfl rfl (by kernel_rfl) (by kernel_rfl) (by kernel_rfl) (fun _ _ _ h => h) (take_load_mv (by rfl) _ rfl _ rfl a (fun _ h => MAt.kept (HA1.out) h)) hHeld ?_
  simp only [Act.put, List.setIfInBounds_toArray, List.set_cons_zero, List.set_cons_succ]
  refine rg_take (i := 23) (some 32) rfl rfl (by kernel_rfl) (by kernel_rfl) (by kernel_rfl) (fun _ _ _ h => h) (take_load_mv (by rfl) _ rfl _ rfl b (fun _ h => MAt.kept (HB1.out) h)) hHeld ?_
  simp only [Act.put, List.setIfInBounds_toArray, List.set_cons_zero, List.set_cons_succ]
  refine wpAnyH_ready (rs := [24]) (by kernel_rfl) (by simp) ?_
  refine AllReadyH.cons rfl (fun K hK => ?_) AllReadyH.nil
  go_simp
  refine (L1.out _).mono ?_
  rintro e x5 ⟨rfl, gx5⟩
  refine hK.out _ _ (hHeld.trans gx5) (fun _ => ?_)
  replace hHeld := hHeld.trans gx5
  clear hK K
  refine rg_take (i := 25) (v := (.bool true)) (some 34) rfl rfl (by kernel_rfl) (by kernel_rfl) (by kernel_rfl) (fun _ _ _ h => h) (Or.inl ⟨by rfl, fun _ _ => by go_simp⟩) hHeld ?_
  simp only [Act.put, List.setIfInBounds_toArray, List.set_cons_zero, List.set_cons_succ]
  refine rg_take (i := 26) (v := (.bool true)) (some 35) rfl rfl (by kernel_rfl) (by kernel_rfl) (by kernel_rfl) (fun _ _ _ h => h) (Or.inl ⟨by rfl, fun _ _ => by go_simp⟩) hHeld ?_
  simp only [Act.put, List.setIfInBounds_toArray, List.set_cons_zero, List.set_cons_succ]
  refine rg_take (i := 27) (v := (.bool true)) (some 36) rfl rfl (by kernel_rfl) (by kernel_rfl) (by kernel_rfl) (fun _ _ _ h => h) (Or.inl ⟨by rfl, fun _ _ => by go_simp⟩) hHeld ?_
  simp only [Act.put, List.setIfInBounds_toArray, List.set_cons_zero, List.set_cons_succ]
  refine rg_take (i := 28) (some 37) rfl rfl (by kernel_rfl) (by kernel_rfl) (by kernel_rfl) (fun _ _ _ h => h) (take_load_mv (by rfl) _ rfl _ rfl b (fun _ h => MAt.kept (HB1.out) h)) hHeld ?_
  simp only [Act.put, List.setIfInBounds_toArray, List.set_cons_zero, List.set_cons_succ]
  refine rg_take (i := 29) (some 38) rfl rfl (by kernel_rfl) (by kernel_rfl) (by kernel_rfl) (fun _ _ _ h => h) (take_load_mv (by rfl) _ rfl _ rfl a (fun _ h => MAt.kept (HA1.out) h)) hHeld ?_
  simp only [Act.put, List.setIfInBounds_toArray, List.set_cons_zero, List.set_cons_succ]
  refine wpAnyH_ready (rs := [30]) (by kernel_rfl) (by simp) ?_
  refine AllReadyH.cons rfl (fun K hK => ?_) AllReadyH.nil
  go_simp
  refine (L2.out _).mono ?_
  rintro e x6 ⟨rfl, gx6⟩
  refine hK.out _ _ (hHeld.trans gx6) (fun _ => ?_)
  replace hHeld := hHeld.trans gx6
  clear hK K
  refine rg_take (i := 31) (v := (.bool false)) (some 40) rfl rfl (by kernel_rfl) (by kernel_rfl) (by kernel_rfl) (fun _ _ _ h => h) (Or.inl ⟨by rfl, fun _ _ => by go_simp⟩) hHeld ?_
  simp only [Act.put, List.setIfInBounds_toArray, List.set_cons_zero, List.set_cons_succ]
  refine rg_take (i := 32) (v := (.bool false)) (some 41) rfl rfl (by kernel_rfl) (by kernel_rfl) (by kernel_rfl) (fun _ _ _ h => h) (Or.inl ⟨by rfl, fun _ _ => by go_simp⟩) hHeld ?_
  simp only [Act.put, List.setIfInBounds_toArray, List.set_cons_zero, List.set_cons_succ]
  refine rg_take (i := 33) (v := (.bool false)) (some 42) rfl rfl (by kernel_rfl) (by kernel_rfl) (by kernel_rfl) (fun _ _ _ h => h) (Or.inl ⟨by rfl, fun _ _ => by go_simp⟩) hHeld ?_
  simp only [Act.put, List.setIfInBounds_toArray, List.set_cons_zero, List.set_cons_succ]
  refine wpAnyH_done (by kernel_rfl) ?_ _
  have HA2 := Lib.hid (MAt.kept HA1.out hHeld)
  have HB2 := Lib.hid (MAt.kept HB1.out hHeld)
  have HC2 := Lib.hid (MAt.kept HC1.out hHeld)
  have HK2 := Lib.hid (HK1.out.trans hHeld)
  clear hHeld
  go_wp2_with (first | (refine wpList_load_mv (by rfl) _ rfl _ rfl _ HA2.out ?_) | (refine wpList_load_mv (by rfl) _ rfl _ rfl _ HB2.out ?_))
  refine (L1.out _).mono ?_
  rintro e w3 ⟨rfl, k3⟩
  have HA3 := Lib.hid (MAt.kept HA2.out k3)
  have HB3 := Lib.hid (MAt.kept HB2.out k3)
  have HC3 := Lib.hid (MAt.kept HC2.out k3)
  have HK3 := Lib.hid (HK2.out.trans k3)
  clear k3
  go_wp2
  go_ret
  exact ⟨rfl, HK3.out⟩
set_option maxHeartbeats 4000000 in
theorem orderD (a b c : Mv) (h1 : lessB a b = false) (h2 : lessB b a = false) (w : World) (hT : TabM w) :
    Calls Tryd.prog 7 #[.agg (ml a).toArray, .agg (ml b).toArray, .agg (ml c).toArray] w fun e w' => e = .returned (.bool true) ∧ Kept w w' := by
  have k2 := (Kept.refl ((w.alloc (.cells (ml a).toArray 28)).alloc (.cells (ml b).toArray 28))).alloc (.cells (ml c).toArray 28)
  have HA : Hid (MAt _ _ a) := MAt.kept ⟨heap_alloc2_old w (.cells (ml a).toArray 28) (.cells (ml b).toArray 28)⟩ k2
  have HB : Hid (MAt _ _ b) := MAt.kept ⟨heap_alloc2_new w (.cells (ml a).toArray 28) (.cells (ml b).toArray 28)⟩ k2
  have HC : Hid (MAt _ _ c) := MAt.new ((w.alloc (.cells (ml a).toArray 28)).alloc (.cells (ml b).toArray 28)) c
  have hsz : ((w.alloc (.cells (ml a).toArray 28)).alloc (.cells (ml b).toArray 28)).heap.size = w.heap.size + 2 := by simp
  rw [hsz] at HC
  have HK0 := Lib.hid ((((Kept.refl w).alloc (.cells (ml a).toArray 28)).alloc (.cells (ml b).toArray 28)).trans k2)
  have HT := Lib.hid (hT.kept HK0.out)
  have L1 := Lib.hid (less_is a b)
  have L2 := Lib.hid (less_is b a)
  have L3 := Lib.hid (rless_is a b)
  have L4 := Lib.hid (less_is b c)
  have L5 := Lib.hid (less_is a c)
  rw [h1] at L1 L3
  have hne := Lib.hid (less_eq h1 h2)
  rw [h2] at L2
  clear h1 h2
  clear hsz hT k2
  go_enter Tryd.func7, Tryd.ntmps7
  go_wp2_with fail
  refine (move_wake _ HT.out).mono ?_
  rintro e w1 ⟨rfl, k1⟩
  have HK1 := Lib.hid (HK0.out.trans k1)
  have HA1 := Lib.hid (MAt.kept HA.out k1)
  have HB1 := Lib.hid (MAt.kept HB.out k1)
  have HC1 := Lib.hid (MAt.kept HC.out k1)
  clear k1
  go_wp2
  refine wp_region_held_drew (S := Kept _) (by kernel_rfl) (Kept.refl _).drew (fun hHeld => ?_)
  refine rg_take (i := 0) (some 9) rfl rfl (by kernel_rfl) (by kernel_rfl) (by kernel_rfl) (fun _ _ _ h => h) (take_load_mv (by rfl) _ rfl _ rfl a (fun _ h => MAt.kept (HA1.out) h)) hHeld ?_
  simp only [Act.put, List.setIfInBounds_toArray, List.set_cons_zero, List.set_cons_succ]
  refine rg_take (i := 1) (some 10) rfl rfl (by kernel_rfl) (by kernel_rfl) (by kernel_rfl) (fun _ _ _ h => h) (take_load_mv (by rfl) _ rfl _ rfl b (fun _ h => MAt.kept (HB1.out) h)) hHeld ?_
  simp only [Act.put, List.setIfInBounds_toArray, List.set_cons_zero, List.set_cons_succ]
  refine rg_take (i := 3) (some 12) rfl rfl (by kernel_rfl) (by kernel_rfl) (by kernel_rfl) (fun _ _ _ h => h) (take_load_mv (by rfl) _ rfl _ rfl a (fun _ h => MAt.kept (HA1.out) h)) hHeld ?_
  simp only [Act.put, List.setIfInBounds_toArray, List.set_cons_zero, List.set_cons_succ]
  refine rg_take (i := 4) (some 13) rfl rfl (by kernel_rfl) (by kernel_rfl) (by kernel_rfl) (fun _ _ _ h => h) (take_load_mv (by rfl) _ rfl _ rfl b (fun _ h => MAt.kept (HB1.out) h)) hHeld ?_
  simp only [Act.put, List.setIfInBounds_toArray, List.set_cons_zero, List.set_cons_succ]
  refine wpAnyH_ready (rs := [2]) (by kernel_rfl) (by simp) ?_
  refine AllReadyH.cons rfl (fun K hK => ?_) AllReadyH.nil
  go_simp
  refine (L1.out _).mono ?_
  rintro e x1 ⟨rfl, gx1⟩
  refine hK.out _ _ (hHeld.trans gx1) (fun _ => ?_)
  replace hHeld := hHeld.trans gx1
  clear hK K
  refine wpAnyH_ready (rs := [5]) (by kernel_rfl) (by simp) ?_
  refine AllReadyH.cons rfl (fun K hK => ?_) AllReadyH.nil
  go_simp
  refine (L3.out _).mono ?_
  rintro e x2 ⟨rfl, gx2⟩
  refine hK.out _ _ (hHeld.trans gx2) (fun _ => ?_)
  replace hHeld := hHeld.trans gx2
  clear hK K
  refine rg_take (i := 6) (v := (.bool false)) (some 15) rfl rfl (by kernel_rfl) (by kernel_rfl) (by kernel_rfl) (fun _ _ _ h => h) (Or.inl ⟨by rfl, fun _ _ => by go_simp⟩) hHeld ?_
  simp only [Act.put, List.setIfInBounds_toArray, List.set_cons_zero, List.set_cons_succ]
  refine rg_take (i := 7) (v := (.bool false)) (some 16) rfl rfl (by kernel_rfl) (by kernel_rfl) (by kernel_rfl) (fun _ _ _ h => h) (Or.inl ⟨by rfl, fun _ _ => by go_simp⟩) hHeld ?_
  simp only [Act.put, List.setIfInBounds_toArray, List.set_cons_zero, List.set_cons_succ]
  refine rg_take (i := 8) (some 17) rfl rfl (by kernel_rfl) (by kernel_rfl) (by kernel_rfl) (fun _ _ _ h => h) (take_load_mv (by rfl) _ rfl _ rfl a (fun _ h => MAt.kept (HA1.out) h)) hHeld ?_
  simp only [Act.put, List.setIfInBounds_toArray, List.set_cons_zero, List.set_cons_succ]
  refine rg_take (i := 9) (some 18) rfl rfl (by kernel_rfl) (by kernel_rfl) (by kernel_rfl) (fun _ _ _ h => h) (take_load_mv (by rfl) _ rfl _ rfl b (fun _ h => MAt.kept (HB1.out) h)) hHeld ?_
  simp only [Act.put, List.setIfInBounds_toArray, List.set_cons_zero, List.set_cons_succ]
  refine wpAnyH_ready (rs := [10]) (by kernel_rfl) (by simp) ?_
  refine AllReadyH.cons rfl (fun K hK => ?_) AllReadyH.nil
  go_simp
  refine (L1.out _).mono ?_
  rintro e x3 ⟨rfl, gx3⟩
  refine hK.out _ _ (hHeld.trans gx3) (fun _ => ?_)
  replace hHeld := hHeld.trans gx3
  clear hK K
  refine rg_take (i := 11) (v := (.bool false)) (some 20) rfl rfl (by kernel_rfl) (by kernel_rfl) (by kernel_rfl) (fun _ _ _ h => h) (Or.inl ⟨by rfl, fun _ _ => by go_simp⟩) hHeld ?_
  simp only [Act.put, List.setIfInBounds_toArray, List.set_cons_zero, List.set_cons_succ]
  refine rg_take (i := 12) (some 21) rfl rfl (by kernel_rfl) (by kernel_rfl) (by kernel_rfl) (fun _ _ _ h => h) (Or.inr ⟨by rfl, rfl⟩) hHeld ?_
  simp only [Act.put, List.setIfInBounds_toArray, List.set_cons_zero, List.set_cons_succ]
  refine rg_take (i := 13) (some 22) rfl rfl (by kernel_rfl) (by kernel_rfl) (by kernel_rfl) (fun _ _ _ h => h) (Or.inr ⟨by rfl, rfl⟩) hHeld ?_
  simp only [Act.put, List.setIfInBounds_toArray, List.set_cons_zero, List.set_cons_succ]
  refine rg_take (i := 14) (some 23) rfl rfl (by kernel_rfl) (by kernel_rfl) (by kernel_rfl) (fun _ _ _ h => h) (Or.inr ⟨by rfl, rfl⟩) hHeld ?_
  simp only [Act.put, List.setIfInBounds_toArray, List.set_cons_zero, List.set_cons_succ]
  refine rg_take (i := 15) (v := (.bool false)) (some 24) rfl rfl (by kernel_rfl) (by kernel_rfl) (by kernel_rfl) (fun _ _ _ h => h) (Or.inl ⟨by rfl, fun _ _ => by go_simp⟩) hHeld ?_
  simp only [Act.put, List.setIfInBounds_toArray, List.set_cons_zero, List.set_cons_succ]
  refine rg_take (i := 16) (v := (.bool false)) (some 25) rfl rfl (by kernel_rfl) (by kernel_rfl) (by kernel_rfl) (fun _ _ _ h => h) (Or.inl ⟨by rfl, fun _ _ => by go_simp⟩) hHeld ?_
  simp only [Act.put, List.setIfInBounds_toArray, List.set_cons_zero, List.set_cons_succ]
  refine rg_take (i := 17) (v := (.bool false)) (some 26) rfl rfl (by kernel_rfl) (by kernel_rfl) (by kernel_rfl) (fun _ _ _ h => h) (Or.inl ⟨by rfl, fun _ _ => by go_simp⟩) hHeld ?_
  simp only [Act.put, List.setIfInBounds_toArray, List.set_cons_zero, List.set_cons_succ]
  refine rg_take (i := 18) (some 27) rfl rfl (by kernel_rfl) (by kernel_rfl) (by kernel_rfl) (fun _ _ _ h => h) (take_load_mv (by rfl) _ rfl _ rfl a (fun _ h => MAt.kept (HA1.out) h)) hHeld ?_
  simp only [Act.put, List.setIfInBounds_toArray, List.set_cons_zero, List.set_cons_succ]
  refine rg_take (i := 19) (some 28) rfl rfl (by kernel_rfl) (by kernel_rfl) (by kernel_rfl) (fun _ _ _ h => h) (take_load_mv (by rfl) _ rfl _ rfl b (fun _ h => MAt.kept (HB1.out) h)) hHeld ?_
  simp only [Act.put, List.setIfInBounds_toArray, List.set_cons_zero, List.set_cons_succ]
  refine rg_take (i := 20) (some 29) rfl rfl (by kernel_rfl) (by kernel_rfl) (by kernel_rfl) (fun _ _ _ h => h) (take_neq_mv (by rfl) _ _ _ rfl a b rfl rfl (b := false) (by rw [hne.out]; rfl)) hHeld ?_
  simp only [Act.put, List.setIfInBounds_toArray, List.set_cons_zero, List.set_cons_succ]
  refine rg_take (i := 21) (v := (.bool false)) (some 30) rfl rfl (by kernel_rfl) (by kernel_rfl) (by kernel_rfl) (fun _ _ _ h => h) (Or.inl ⟨by rfl, fun _ _ => by go_simp⟩) hHeld ?_
  simp only [Act.put, List.setIfInBounds_toArray, List.set_cons_zero, List.set_cons_succ]
  refine rg_take (i := 22) (some 31) rfl rfl (by kernel_rfl) (by kernel_rfl) (by kernel_rfl) (fun _ _ _ h => h) (Or.inr ⟨by rfl, rfl⟩) hHeld ?_
  simp only [Act.put, List.setIfInBounds_toArray, List.set_cons_zero, List.set_cons_succ]
  refine rg_take (i := 23) (some 32) rfl rfl (by kernel_rfl) (by kernel_rfl) (by kernel_rfl) (fun _ _ _ h => h) (Or.inr ⟨by rfl, rfl⟩) hHeld ?_
  simp only [Act.put, List.setIfInBounds_toArray, List.set_cons_zero, List.set_cons_succ]
  refine rg_take (i := 24) (some 33) rfl rfl (by kernel_rfl) (by kernel_rfl) (by kernel_rfl) (fun _ _ _ h => h) (Or.inr ⟨by rfl, rfl⟩) hHeld ?_
  simp only [Act.put, List.setIfInBounds_toArray, List.set_cons_zero, List.set_cons_succ]
  refine rg_take (i := 25) (some 34) rfl rfl (by kernel_rfl) (by kernel_rfl) (by kernel_rfl) (fun _ _ _ h => h) (Or.inr ⟨by rfl, rfl⟩) hHeld ?_
  simp only [Act.put, List.setIfInBounds_toArray, List.set_cons_zero, List.set_cons_succ]
  refine rg_take (i := 26) (v := (.bool false)) (some 35) rfl rfl (by kernel_rfl) (by kernel_rfl) (by kernel_rfl) (fun _ _ _ h => h) (Or.inl ⟨by rfl, fun _ _ => by go_simp⟩) hHeld ?_
  simp only [Act.put, List.setIfInBounds_toArray, List.set_cons_zero, List.set_cons_succ]
  refine rg_take (i := 27) (v := (.bool false)) (some 36) rfl rfl (by kernel_rfl) (by kernel_rfl) (by kernel_rfl) (fun _ _ _ h => h) (Or.inl ⟨by rfl, fun _ _ => by go_simp⟩) hHeld ?_
  simp only [Act.put, List.setIfInBounds_toArray, List.set_cons_zero, List.set_cons_succ]
  refine rg_take (i := 28) (some 37) rfl rfl (by kernel_rfl) (by kernel_rfl) (by kernel_rfl) (fun _ _ _ h => h) (Or.inr ⟨by rfl, rfl⟩) hHeld ?_
  simp only [Act.put, List.setIfInBounds_toArray, List.set_cons_zero, List.set_cons_succ]
  refine rg_take (i := 29) (some 38) rfl rfl (by kernel_rfl) (by kernel_rfl) (by kernel_rfl) (fun _ _ _ h => h) (Or.inr ⟨by rfl, rfl⟩) hHeld ?_
  simp only [Act.put, List.setIfInBounds_toArray, List.set_cons_zero, List.set_cons_succ]
  refine rg_take (i := 30) (some 39) rfl rfl (by kernel_rfl) (by kernel_rfl) (by kernel_rfl) (fun _ _ _ h => h) (Or.inr ⟨by rfl, rfl⟩) hHeld ?_
  simp only [Act.put, List.setIfInBounds_toArray, List.set_cons_zero, List.set_cons_succ]
  refine rg_take (i := 31) (some 40) rfl rfl (by kernel_rfl) (by kernel_rfl) (by kernel_rfl) (fun _ _ _ h => h) (Or.inr ⟨by rfl, rfl⟩) hHeld ?_
  simp only [Act.put, List.setIfInBounds_toArray, List.set_cons_zero, List.set_cons_succ]
  refine rg_take (i := 32) (v := (.bool false)) (some 41) rfl rfl (by kernel_rfl) (by kernel_rfl) (by kernel_rfl) (fun _ _ _ h => h) (Or.inl ⟨by rfl, fun _ _ => by go_simp⟩) hHeld ?_
  simp only [Act.put, List.setIfInBounds_toArray, List.set_cons_zero, List.set_cons_succ]
  refine rg_take (i := 33) (v := (.bool false)) (some 42) rfl rfl (by kernel_rfl) (by kernel_rfl) (by kernel_rfl) (fun _ _ _ h => h) (Or.inl ⟨by rfl, fun _ _ => by go_simp⟩) hHeld ?_
  simp only [Act.put, List.setIfInBounds_toArray, List.set_cons_zero, List.set_cons_succ]
  refine wpAnyH_done (by kernel_rfl) ?_ _
  have HA2 := Lib.hid (MAt.kept HA1.out hHeld)
  have HB2 := Lib.hid (MAt.kept HB1.out hHeld)
  have HC2 := Lib.hid (MAt.kept HC1.out hHeld)
  have HK2 := Lib.hid (HK1.out.trans hHeld)
  clear hHeld
  go_wp2_with (first | (refine wpList_load_mv (by rfl) _ rfl _ rfl _ HA2.out ?_) | (refine wpList_load_mv (by rfl) _ rfl _ rfl _ HB2.out ?_))
  refine (L1.out _).mono ?_
  rintro e w3 ⟨rfl, k3⟩
  have HA3 := Lib.hid (MAt.kept HA2.out k3)
  have HB3 := Lib.hid (MAt.kept HB2.out k3)
  have HC3 := Lib.hid (MAt.kept HC2.out k3)
  have HK3 := Lib.hid (HK2.out.trans k3)
  clear k3
  go_wp2
  go_ret
  exact ⟨rfl, HK3.out⟩
theorem walkMoveOrder (a b c : Mv) (w : World) (hT : TabM w) :
    Calls Tryd.prog 7 #[.agg (ml a).toArray, .agg (ml b).toArray, .agg (ml c).toArray] w fun e w' => e = .returned (.bool true) ∧ Kept w w' := by
  cases h1 : lessB a b
  · cases h2 : lessB b a
    · exact orderD a b c h1 h2 w hT
    · exact orderC a b c h1 h2 w hT
  · cases h3 : lessB b c
    · exact orderB a b c h1 h3 w hT
    · exact orderA a b c h1 h3 w hT
end Go.Proofs.YtliibpahnkeogaaDoor
