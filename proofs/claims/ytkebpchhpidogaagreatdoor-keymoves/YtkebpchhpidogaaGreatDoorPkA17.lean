/- What a formed move says; castling: numbers alone · The example; Less; the walk of MoveOrder. (Written by wip/mkmvh.py.) · The moves by which men go: numbers alone · Slices of moves: read, and of the call's own. -/
import Derived.Test.YtkebpchhpidogaaGreatDoorPkA09
import Derived.Test.YtkebpchhpidogaaGreatDoorPkA13
import Derived.Test.YtkebpchhpidogaaGreatDoorPkA15
import Derived.Test.YtkebpchhpidogaaGreatDoorPkA16
namespace Go.Proofs.YtkebpchhpidogaaGreatDoor
open Go.RowKit
set_option linter.unusedVariables false
set_option linter.unusedSimpArgs false
set_option maxRecDepth 100000

theorem free_iff (B : List Int) (k : Nat) : freeB B k = true ↔ ∀ s, s < 64 → wLo k ≤ s → s < wHi k → B.getD s 0 = 0 := by
  constructor
  · intro h s hs h1 h2
    by_cases hz : B.getD s 0 = 0
    · exact hz
    · rw [free_no hs h1 h2 hz] at h; cases h
  · intro h
    refine free_yes fun s h1 h2 => h s ?_ h1 h2
    have : wHi k ≤ 64 := by unfold wHi; rcases k with _ | _ | _ | _ | k <;> simp
    omega
theorem promo_turn (n : Int) : ((true == (n != 0)) && promoB n) = (decide (2 ≤ n) && decide (n ≤ 5)) := by
  rw [Bool.eq_iff_iff]
  simp only [promoB, Bool.and_eq_true, Bool.or_eq_true, beq_iff_eq, decide_eq_true_eq, bne_iff_ne]
  constructor
  · rintro ⟨h1, h2⟩
    have h1' : n ≠ 0 := bne_iff_ne.1 h1.symm
    exact h2.resolve_left h1'
  · intro h
    exact ⟨(bne_iff_ne.2 (by omega)).symm, .inr h⟩
theorem promo_stay (n : Int) : ((false == (n != 0)) && promoB n) = (n == 0) := by
  rw [Bool.eq_iff_iff]
  simp only [promoB, Bool.and_eq_true, Bool.or_eq_true, beq_iff_eq, decide_eq_true_eq, bne_iff_ne]
  constructor
  · rintro ⟨h1, h2⟩
    by_cases h : n = 0
    · exact h
    · have := (bne_iff_ne (a := n) (b := 0)).2 h
      rw [← h1] at this; cases this
  · intro h
    subst h
    exact ⟨rfl, .inl rfl⟩
/-- The king that has the kth right. -/
def kgm (k : Nat) : Int := [6, 6, -6, -6].getD k 0
theorem cas_king {p : Ps} (h : casB p = true) {k : Nat} (hk : k < 4) (hr : rgtB p.c (hR k) = true) : p.B.getD (hKg k) 0 = kgm k ∧ p.B.getD (hRk k) 0 = mkI 4 (hS k) := by
  have ho : okC p k = true := by
    unfold casB at h
    simp only [Bool.and_eq_true] at h
    have : k = 0 ∨ k = 1 ∨ k = 2 ∨ k = 3 := by omega
    rcases this with rfl | rfl | rfl | rfl
    · exact h.1.1.1
    · exact h.1.1.2
    · exact h.1.2
    · exact h.2
  unfold okC at ho
  rw [hr, Bool.not_true, Bool.false_or, back_at p.B k hk, Bool.and_eq_true, beq_iff_eq, beq_iff_eq] at ho
  refine ⟨ho.1.trans ?_, ho.2⟩
  have : k = 0 ∨ k = 1 ∨ k = 2 ∨ k = 3 := by omega
  rcases this with rfl | rfl | rfl | rfl <;> rfl
theorem promo_five' {n : Int} (h : promoB n = true) : n = 0 ∨ n = 2 ∨ n = 3 ∨ n = 4 ∨ n = 5 := by
  unfold promoB at h
  simp only [Bool.or_eq_true, Bool.and_eq_true, beq_iff_eq, decide_eq_true_eq] at h
  omega
theorem other_at {t : Int} (h : t = 0 ∨ t = 1) : otherI t = 1 - t := by unfold otherI; split <;> first | omega | (split <;> omega)
/-- What a formed move says. -/
structure Fm (p : Ps) (m : Mv) (f t : Nat) : Prop where
  hf : m.f = f
  ht : m.t = t
  f1 : f < 64
  t1 : t < 64
  brd : Brd p.B
  right : pwI p = 0
  t01 : p.t = 0 ∨ p.t = 1
  own : sideI (p.B.getD f 0) = p.t
  oth : sideI (p.B.getD t 0) ≠ p.t
  pro : ((kindI (p.B.getD f 0) == 1) && ((t : Int) / 8 == lastI p.t)) = (m.p != 0)
  prm : promoB m.p = true
theorem form_of {p : Ps} {m : Mv} (hB : Brd p.B) (h : okM p m = true) : ∃ f t : Nat, Fm p m f t := by
  obtain ⟨hw, hf⟩ := okM_right h
  have ho := okM_on h
  obtain ⟨f, ef⟩ := Int.eq_ofNat_of_zero_le ho.f0
  obtain ⟨t, et⟩ := Int.eq_ofNat_of_zero_le ho.t0
  have f1 : f < 64 := by have := ho.f1; omega
  have t1 : t < 64 := by have := ho.t1; omega
  have em : manA p.B m.f = p.B.getD f 0 := by unfold manA bAt; rw [if_pos ⟨ho.f0, ho.f1⟩, ef, Int.toNat_natCast]
  have en : manA p.B m.t = p.B.getD t 0 := by unfold manA bAt; rw [if_pos ⟨ho.t0, ho.t1⟩, et, Int.toNat_natCast]
  unfold formB turnsB at hf
  rw [em, en, et] at hf
  simp only [Bool.and_eq_true, beq_iff_eq, Bool.not_eq_true'] at hf
  obtain ⟨⟨⟨⟨h1, h2⟩, h3⟩, h4⟩, h5⟩ := hf
  exact ⟨f, t, ef, et, f1, t1, hB, hw, (right_t hw).1, h1, by simpa using h3, h4, h5⟩
theorem Fm.ne {p : Ps} {m : Mv} {f t : Nat} (h : Fm p m f t) : f ≠ t := by
  intro e
  have := h.own
  rw [e] at this
  exact h.oth this
theorem side_man {x t : Int} (ht : t = 0 ∨ t = 1) (h : sideI x = t) : manB x = true ∧ (t = 0 ↔ 0 < x) := by
  unfold sideI at h
  cases hb : manB x
  · rw [hb] at h; simp at h; omega
  · rw [hb, if_pos rfl] at h
    refine ⟨rfl, ?_⟩
    split at h <;> omega
/-- Castling: who castles is the king, at home; the rook stands at home; between them nobody. -/
structure Cs (p : Ps) (m : Mv) (f t k : Nat) : Prop where
  k4 : k < 4
  ef : f = hKg k
  et : t = wTo k
  king : p.B.getD f 0 = kgm k
  rook : p.B.getD (hRk k) 0 = mkI 4 p.t
  free : freeB p.B k = true
  side : p.t = hS k
theorem cast_of {p : Ps} {m : Mv} {f t : Nat} (h : Fm p m f t) {k : Nat} (hk : k < 4) (hc : castN p m = k) : Cs p m f t k := by
  have hb := cast_is hk hc
  unfold castB at hb
  simp only [Bool.and_eq_true, beq_iff_eq] at hb
  obtain ⟨⟨⟨h1, h2⟩, h3⟩, h4⟩ := hb
  have ef : f = hKg k := by have := h.hf; omega
  have et : t = wTo k := by have := h.ht; omega
  obtain ⟨q1, q2⟩ := cas_king (right_pos h.right).2.2.2.1 hk h1
  have hs : p.t = hS k := by
    have ho := h.own
    rw [ef, q1] at ho
    have : k = 0 ∨ k = 1 ∨ k = 2 ∨ k = 3 := by omega
    rcases this with rfl | rfl | rfl | rfl <;> exact ho.symm
  exact ⟨hk, ef, et, by rw [ef]; exact q1, by rw [hs]; exact q2, h4, hs⟩
theorem king_kind (k : Nat) (hk : k < 4) : (kindI (kgm k) == 1) = false ∧ kgm k ≠ 0 := by
  have : k = 0 ∨ k = 1 ∨ k = 2 ∨ k = 3 := by omega
  rcases this with rfl | rfl | rfl | rfl <;> exact ⟨rfl, by decide⟩
theorem Cs.no_promo {p : Ps} {m : Mv} {f t k : Nat} (c : Cs p m f t k) (h : Fm p m f t) : m.p = 0 := by
  have := h.pro
  rw [c.king, (king_kind k c.k4).1] at this
  have h2 := this.symm
  simpa using h2
theorem wTo_between (k : Nat) (hk : k < 4) : wLo k ≤ wTo k ∧ wTo k < wHi k := by
  have : k = 0 ∨ k = 1 ∨ k = 2 ∨ k = 3 := by omega
  rcases this with rfl | rfl | rfl | rfl <;> decide
theorem Cs.no_take {p : Ps} {m : Mv} {f t k : Nat} (c : Cs p m f t k) (h : Fm p m f t) : takeI p m = -1 := by
  have h0 : p.B.getD t 0 = 0 := by
    rw [c.et]
    exact (free_iff p.B k).1 c.free _ (wTo_lt k) (wTo_between k c.k4).1 (wTo_between k c.k4).2
  have e1 : bAt p.B m.t = 0 := by unfold bAt; rw [h.ht, Int.toNat_natCast]; exact h0
  have e2 : pawnB p m = false := by
    unfold pawnB bAt; rw [h.hf, Int.toNat_natCast, c.king]; exact (king_kind k c.k4).1
  unfold takeI epTake
  rw [if_neg (by simpa using e1), e2, Bool.false_and, Bool.false_and, if_neg (by decide)]
theorem getD_set (B : List Int) (i j : Nat) (x : Int) (h : i < B.length) : (B.set i x).getD j 0 = if i = j then x else B.getD j 0 := by
  rw [List.getD_eq_getElem?_getD, List.getElem?_set, List.getD_eq_getElem?_getD]
  split
  · rfl
  · rfl
theorem ext_getD {A B : List Int} (ha : A.length = 64) (hb : B.length = 64) (h : ∀ j, j < 64 → A.getD j 0 = B.getD j 0) : A = B := by
  refine List.ext_getElem (by omega) fun i h1 h2 => ?_
  have := h i (by omega)
  rwa [List.getD_eq_getElem?_getD, List.getD_eq_getElem?_getD, List.getElem?_eq_getElem h1, List.getElem?_eq_getElem h2] at this
end Go.Proofs.YtkebpchhpidogaaGreatDoor
namespace Go.Proofs.YtkebpchhpidogaaGreatDoor
open Go.RowKit
set_option linter.unusedVariables false
set_option linter.unusedSimpArgs false
set_option maxRecDepth 100000

def E4 : Mv := ⟨12, 28, 0⟩
theorem E4_ok : okM Fp E4 = true := by decide +kernel
theorem E4_e : (behP Fp E4).e = 20 := by decide +kernel
theorem E4_t : (behP Fp E4).t = 1 := by decide +kernel
theorem E4_m : (behP Fp E4).B.getD 28 0 = 1 := by decide +kernel
/-- Two moves compared. -/
def beqM (a b : Mv) : Bool := (a.f == b.f) && (a.t == b.t) && (a.p == b.p)
theorem beqM_refl (a : Mv) : beqM a a = true := by simp [beqM]
theorem beqM_iff (a b : Mv) : beqM a b = true ↔ a = b := by
  obtain ⟨f, t, p⟩ := a
  obtain ⟨f', t', p'⟩ := b
  simp [beqM, and_assoc]
theorem fieldsM : (Tryz.prog.fieldsOf 35).toList.map (fun f => (f.name == "_", f.type, f.offset)) = [(false, 3, 0), (false, 3, 1), (false, 3, 2)] := by kernel_rfl
theorem stoodM : Tryz.prog.stoodInHeld 35 = false := by kernel_rfl
theorem eqGuardM : Tryz.prog.eqGuardType Tryz.prog.depth 35 = false := by kernel_rfl
theorem run_part_m (a : Mv) (k : Nat) {x : Int} (hk : (ml a)[k]? = some (.int .i64 x)) (w : World) : (part 3 (ml a).toArray k).run Tryz.prog w = .ok (.int .i64 x) w := by
  simp [part, isAgg, run_underlying Tryz.underlying3, hk]
theorem run_equal_mv (a b : Mv) (w : World) : (Op.equalIn 10000 35 (.agg (ml a).toArray) (.agg (ml b).toArray)).run Tryz.prog w = .ok (beqM a b) w := by
  have hu : Tryz.prog.underlying 35 = some (.struct (Tryz.prog.fieldsOf 35)) := by kernel_rfl
  rw [run_equalIn_struct w 9999 _ _ _ hu stoodM]
  obtain ⟨f1, f2, f3, hf, n1, t1, o1, n2, t2, o2, n3, t3, o3⟩ : ∃ f1 f2 f3, (Tryz.prog.fieldsOf 35).toList = [f1, f2, f3] ∧
      f1.name ≠ "_" ∧ f1.type = 3 ∧ f1.offset = 0 ∧ f2.name ≠ "_" ∧ f2.type = 3 ∧ f2.offset = 1 ∧ f3.name ≠ "_" ∧ f3.type = 3 ∧ f3.offset = 2 := by
    have h := fieldsM
    generalize (Tryz.prog.fieldsOf 35).toList = fs at h
    have hl : fs.length = 3 := by simpa using congrArg List.length h
    match fs, hl with
    | [f1, f2, f3], _ =>
      simp only [List.map_cons, List.map_nil, List.cons.injEq, Prod.mk.injEq, beq_eq_false_iff_ne, and_true] at h
      exact ⟨f1, f2, f3, rfl, h.1.1, h.1.2.1, h.1.2.2, h.2.1.1, h.2.1.2.1, h.2.1.2.2, h.2.2.1, h.2.2.2.1, h.2.2.2.2⟩
  have i8 : ∀ a b : Int, (Op.equalIn 9999 3 (.int .i64 a) (.int .i64 b)).run Tryz.prog w = .ok (a == b) w := fun a b => run_equalIn_int w 9998 _ _ _ a b Tryz.underlying3
  have a1 := run_part_m a 0 (x := a.f) rfl w
  have a2 := run_part_m a 1 (x := a.t) rfl w
  have a3 := run_part_m a 2 (x := a.p) rfl w
  have b1 := run_part_m b 0 (x := b.f) rfl w
  have b2 := run_part_m b 1 (x := b.t) rfl w
  have b3 := run_part_m b 2 (x := b.p) rfl w
  rw [hf]
  unfold beqM
  rw [Op.eqFields, if_pos n1]
  simp only [Sem.run_bind, t1, o1, a1, b1, Result.andThen_ok, i8]
  cases a.f == b.f
  · simp
  · simp only [Bool.not_true, Bool.false_eq_true, if_false, Bool.true_and]
    rw [Op.eqFields, if_pos n2]
    simp only [Sem.run_bind, t2, o2, a2, b2, Result.andThen_ok, i8]
    cases a.t == b.t
    · simp
    · simp only [Bool.not_true, Bool.false_eq_true, if_false, Bool.true_and]
      rw [Op.eqFields, if_pos n3]
      simp only [Sem.run_bind, t3, o3, a3, b3, Result.andThen_ok, i8]
      cases a.p == b.p
      · simp
      · simp [Op.eqFields]
theorem run_eql_mv (a b : Mv) (w : World) : (binOp .eql 35 (.agg (ml a).toArray) (.agg (ml b).toArray)).run Tryz.prog w = .ok (.bool (beqM a b)) w := by
  simp only [binOp, Sem.run_bind, Op.equal, Op.maxDepth, run_equal_mv, Result.andThen_ok, Sem.run_pure]
theorem run_neq_mv (a b : Mv) (w : World) : (binOp .neq 35 (.agg (ml a).toArray) (.agg (ml b).toArray)).run Tryz.prog w = .ok (.bool (!beqM a b)) w := by
  simp only [binOp, Sem.run_bind, Op.equal, Op.maxDepth, run_equal_mv, Result.andThen_ok, Sem.run_pure]
theorem take_neq_mv {ops : Array Oper} {S : World → Prop} {op : Oper} {ac : Act} {b : Bool} (hw : Region.wanted op (yielded ops ac.tmps) = true) (x y : Operand) (ty : TypeId) (ho : op.op = .binOp .neq 35 x y ty)
    (p q : Mv) (hx : ac.eval x = .agg (ml p).toArray) (hy : ac.eval y = .agg (ml q).toArray) (h : (!beqM p q) = b) : YieldsIf Tryz.prog ops S op (.bool b) ac :=
  .inl ⟨hw, fun w _ => by
    unfold execOp
    simp only [ho, hx, hy, Sem.run_bind, run_eqGuard_agg w _ _ _ _ _ _ eqGuardM, run_neq_mv, Result.andThen_ok, Sem.run_pure, h]⟩
theorem wpList_eql_mv {ops : Array Oper} {rest : List Oper} {o : Oper} {a : Act} {w : World} {Q : Exit → Act → World → Prop} {b : Bool} (hw : Region.wanted o (yielded ops a.tmps) = true) (x y : Operand) (ty : TypeId) (ho : o.op = .binOp .eql 35 x y ty)
    (p q : Mv) (hx : a.eval x = .agg (ml p).toArray) (hy : a.eval y = .agg (ml q).toArray) (h : beqM p q = b)
    (hk : wpList Tryz.prog ops Q rest (a.put o.dst (.bool b)) w) : wpList Tryz.prog ops Q (o :: rest) a w :=
  wpList_step fun _ hK => by
    rw [if_pos hw]
    unfold Oper.wp execOp
    simp only [ho, hx, hy, Sem.run_bind, run_eqGuard_agg w _ _ _ _ _ _ eqGuardM, run_eql_mv, Result.andThen_ok, Sem.run_pure, h, Oper.upon_value]
    exact hK _ _ hk
theorem wpList_neq_mv {ops : Array Oper} {rest : List Oper} {o : Oper} {a : Act} {w : World} {Q : Exit → Act → World → Prop} {b : Bool} (hw : Region.wanted o (yielded ops a.tmps) = true) (x y : Operand) (ty : TypeId) (ho : o.op = .binOp .neq 35 x y ty)
    (p q : Mv) (hx : a.eval x = .agg (ml p).toArray) (hy : a.eval y = .agg (ml q).toArray) (h : (!beqM p q) = b)
    (hk : wpList Tryz.prog ops Q rest (a.put o.dst (.bool b)) w) : wpList Tryz.prog ops Q (o :: rest) a w :=
  wpList_step fun _ hK => by
    rw [if_pos hw]
    unfold Oper.wp execOp
    simp only [ho, hx, hy, Sem.run_bind, run_eqGuard_agg w _ _ _ _ _ _ eqGuardM, run_neq_mv, Result.andThen_ok, Sem.run_pure, h, Oper.upon_value]
    exact hK _ _ hk
/-- Which of two numbers is ahead. -/
def cmpI (x y : Int) : Int := if x < y then -1 else if y < x then 1 else 0
theorem nan_is (x : Int) (w : World) : Calls Tryz.prog 100 #[.int .i64 x] w fun e w' => e = .returned (.bool false) ∧ w = w' := by
  go_enter Tryz.func100, Tryz.ntmps100
  go_wp2
  go_ret
  exact ⟨by simp, rfl⟩
theorem compare_is (x y : Int) (w : World) : Calls Tryz.prog 84 #[.int .i64 x, .int .i64 y] w fun e w' => e = .returned (.int .i64 (cmpI x y)) ∧ Kept w w' := by
  by_cases h1 : x < y
  · have HV : Hid (cmpI x y = -1) := by show _ = _; unfold cmpI; rw [if_pos h1]
    go_enter Tryz.func84, Tryz.ntmps84
    go_wp2_with fail
    refine (nan_is _ _).mono ?_
    rintro e w' ⟨rfl, rfl⟩
    go_wp2_with fail
    refine (nan_is _ _).mono ?_
    rintro e w' ⟨rfl, rfl⟩
    go_wp2
    go_ret
    exact ⟨by rw [HV.out]; rfl, Kept.refl _⟩
  · by_cases h2 : y < x
    · have HV : Hid (cmpI x y = 1) := by show _ = _; unfold cmpI; rw [if_neg h1, if_pos h2]
      go_enter Tryz.func84, Tryz.ntmps84
      go_wp2_with fail
      refine (nan_is _ _).mono ?_
      rintro e w' ⟨rfl, rfl⟩
      go_wp2_with fail
      refine (nan_is _ _).mono ?_
      rintro e w' ⟨rfl, rfl⟩
      go_wp2
      go_ret
      exact ⟨by rw [HV.out]; rfl, Kept.refl _⟩
    · have HV : Hid (cmpI x y = 0) := by show _ = _; unfold cmpI; rw [if_neg h1, if_neg h2]
      go_enter Tryz.func84, Tryz.ntmps84
      go_wp2_with fail
      refine (nan_is _ _).mono ?_
      rintro e w' ⟨rfl, rfl⟩
      go_wp2_with fail
      refine (nan_is _ _).mono ?_
      rintro e w' ⟨rfl, rfl⟩
      go_wp2
      go_ret
      exact ⟨by rw [HV.out]; rfl, Kept.refl _⟩
/-- The first of three that isn't 0. -/
def orI (l : List Int) : Int := if l.getD 0 0 ≠ 0 then l.getD 0 0 else if l.getD 1 0 ≠ 0 then l.getD 1 0 else if l.getD 2 0 ≠ 0 then l.getD 2 0 else 0
theorem or_at {l : List Int} {k : Nat} (hk : k < 3) (h : l.getD k 0 ≠ 0) (hn : ∀ j, j < k → l.getD j 0 = 0) : orI l = l.getD k 0 := by
  unfold orI
  have : k = 0 ∨ k = 1 ∨ k = 2 := by omega
  rcases this with rfl | rfl | rfl
  · rw [if_pos h]
  · rw [if_neg (by rw [hn 0 (by omega)]; simp), if_pos h]
  · rw [if_neg (by rw [hn 0 (by omega)]; simp), if_neg (by rw [hn 1 (by omega)]; simp), if_pos h]
theorem or_none {l : List Int} (hn : ∀ j, j < 3 → l.getD j 0 = 0) : orI l = 0 := by
  unfold orI
  rw [if_neg (by rw [hn 0 (by omega)]; simp), if_neg (by rw [hn 1 (by omega)]; simp), if_neg (by rw [hn 2 (by omega)]; simp)]
theorem or_is (l : List Int) (g : Nat) (w : World) (hc : ∀ j, j < 3 → w.cell? ⟨g, j, none⟩ = some (.int .i64 (l.getD j 0))) :
    Calls Tryz.prog 83 #[.slice (some ⟨g, 0, none⟩) 3 3] w fun e w' => e = .returned (.int .i64 (orI l)) ∧ Kept w w' := by
  have HC := Lib.hid hc
  clear hc
  go_enter Tryz.func83, Tryz.ntmps83
  go_wp2
  go_loopw [8] (fun t8 wr => ∃ k : Nat, k ≤ 3 ∧ t8 = .int .i64 k ∧ (∀ j, j < k → l.getD j 0 = 0) ∧ Kept w wr) (fun t8 _ => 3 - (intOf t8).toNat)
  case atStart => exact ⟨0, by omega, rfl, fun j hj => by omega, Kept.refl _⟩
  case round =>
    obtain ⟨k, hk, rfl, hno, hK⟩ := hrel
    have HNo := Lib.hid hno
    have HK := Lib.hid hK
    clear hno
    by_cases hlt : k < 3
    · have hx := kept_cell hK (HC.out k hlt)
      clear hK
      obtain ⟨x, hxe⟩ : ∃ x, l.getD k 0 = x := ⟨_, rfl⟩
      rw [hxe] at hx
      have HX := Lib.hid hxe
      clear hxe
      by_cases h0 : x = 0
      · have hb : (x != 0) = false := by rw [h0]; rfl
        have H0 := Lib.hid h0
        clear h0
        go_wp2
        go_roundw
        case rel => exact ⟨k + 1, by omega, by go_num, fun j hj => by rcases Nat.lt_succ_iff_lt_or_eq.1 hj with h | h; exact HNo.out j h; rw [h, HX.out]; exact H0.out, HK.out⟩
        case measure => simp [intOf]; omega
      · have hb : (x != 0) = true := bne_iff_ne.2 h0
        have HE := Lib.hid (or_at hlt (by rw [HX.out]; exact h0) HNo.out)
        clear h0
        go_wp2
        go_ret
        exact ⟨by rw [HE.out, HX.out]; rfl, HK.out⟩
    · have HE := Lib.hid (or_none (l := l) (fun j hj => HNo.out j (by omega)))
      clear hK
      go_wp2
      go_ret
      exact ⟨by rw [HE.out]; rfl, HK.out⟩
/-- Is a move ahead of another one? -/
def lessB (a b : Mv) : Bool := if a.f ≠ b.f then decide (a.f < b.f) else if a.t ≠ b.t then decide (a.t < b.t) else decide (b.p < a.p)
theorem or_less (a b : Mv) : decide (orI [cmpI a.f b.f, cmpI a.t b.t, cmpI b.p a.p] < 0) = lessB a b := by
  unfold orI lessB cmpI
  simp only [List.getD_cons_zero, List.getD_cons_succ]
  by_cases f1 : a.f < b.f
  · have : a.f ≠ b.f := by omega
    simp [f1, this]
  · by_cases f2 : b.f < a.f
    · have : a.f ≠ b.f := by omega
      simp [f1, f2, this]
    · have : a.f = b.f := by omega
      by_cases t1 : a.t < b.t
      · have : a.t ≠ b.t := by omega
        simp [*]
      · by_cases t2 : b.t < a.t
        · have : a.t ≠ b.t := by omega
          simp [*]
        · have : a.t = b.t := by omega
          by_cases p1 : b.p < a.p
          · simp [*]
          · by_cases p2 : a.p < b.p <;> simp [*]
set_option maxHeartbeats 2000000 in
theorem less_is (a b : Mv) (w : World) : Calls Tryz.prog 57 #[.agg (ml a).toArray, .agg (ml b).toArray] w fun e w' => e = .returned (.bool (lessB a b)) ∧ Kept w w' := by
  have HA : Hid (MAt _ _ a) := ⟨heap_alloc2_old w (.cells (ml a).toArray 35) (.cells (ml b).toArray 35)⟩
  have HB : Hid (MAt _ _ b) := ⟨heap_alloc2_new w (.cells (ml a).toArray 35) (.cells (ml b).toArray 35)⟩
  have HK0 := Lib.hid (((Kept.refl w).alloc (.cells (ml a).toArray 35)).alloc (.cells (ml b).toArray 35))
  have HV := Lib.hid (or_less a b)
  have HC1 := Lib.hid (compare_is a.f b.f)
  have HC2 := Lib.hid (compare_is a.t b.t)
  have HC3 := Lib.hid (compare_is b.p a.p)
  generalize cmpI a.f b.f = c1 at *
  generalize cmpI a.t b.t = c2 at *
  generalize cmpI b.p a.p = c3 at *
  go_enter Tryz.func57, Tryz.ntmps57
  go_wp2
  refine wp_region_held_drew (S := Kept _) (by kernel_rfl) (Kept.refl _).drew (fun hHeld => ?_)
  refine rT 0 5 (.pointer (some ⟨w.heap.size, 0, none⟩)) rfl rfl hHeld ?_
  simp only [pA, pN, sZ, sU]
  refine rC 1 6 (.int .i64 a.f) rfl rfl (fun _ h => kept_cell h (HA.out.f)) hHeld ?_
  simp only [pA, pN, sZ, sU]
  refine rT 2 7 (.pointer (some ⟨w.heap.size + 1, 0, none⟩)) rfl rfl hHeld ?_
  simp only [pA, pN, sZ, sU]
  refine rC 3 8 (.int .i64 b.f) rfl rfl (fun _ h => kept_cell h (HB.out.f)) hHeld ?_
  simp only [pA, pN, sZ, sU]
  refine rT 5 10 (.pointer (some ⟨w.heap.size, 1, none⟩)) rfl rfl hHeld ?_
  simp only [pA, pN, sZ, sU]
  refine rC 6 11 (.int .i64 a.t) rfl rfl (fun _ h => kept_cell h (HA.out.t)) hHeld ?_
  simp only [pA, pN, sZ, sU]
  refine rT 7 12 (.pointer (some ⟨w.heap.size + 1, 1, none⟩)) rfl rfl hHeld ?_
  simp only [pA, pN, sZ, sU]
  refine rC 8 13 (.int .i64 b.t) rfl rfl (fun _ h => kept_cell h (HB.out.t)) hHeld ?_
  simp only [pA, pN, sZ, sU]
  refine rT 10 15 (.pointer (some ⟨w.heap.size + 1, 2, none⟩)) rfl rfl hHeld ?_
  simp only [pA, pN, sZ, sU]
  refine rC 11 16 (.int .i64 b.p) rfl rfl (fun _ h => kept_cell h (HB.out.p)) hHeld ?_
  simp only [pA, pN, sZ, sU]
  refine rT 12 17 (.pointer (some ⟨w.heap.size, 2, none⟩)) rfl rfl hHeld ?_
  simp only [pA, pN, sZ, sU]
  refine rC 13 18 (.int .i64 a.p) rfl rfl (fun _ h => kept_cell h (HA.out.p)) hHeld ?_
  simp only [pA, pN, sZ, sU]
  refine rR 4 rfl (fun K hK => ?_)
  go_simp
  refine (HC1.out _).mono ?_
  rintro e x1 ⟨rfl, gx1⟩
  refine hK.out _ _ (hHeld.trans gx1) (fun _ => ?_)
  replace hHeld := hHeld.trans gx1
  clear hK K
  refine rR 9 rfl (fun K hK => ?_)
  go_simp
  refine (HC2.out _).mono ?_
  rintro e x2 ⟨rfl, gx2⟩
  refine hK.out _ _ (hHeld.trans gx2) (fun _ => ?_)
  replace hHeld := hHeld.trans gx2
  clear hK K
  refine rR 14 rfl (fun K hK => ?_)
  go_simp
  refine (HC3.out _).mono ?_
  rintro e x3 ⟨rfl, gx3⟩
  refine hK.out _ _ (hHeld.trans gx3) (fun _ => ?_)
  replace hHeld := hHeld.trans gx3
  clear hK K
  refine rR 15 rfl (fun K hK => ?_)
  go_simp
  have hnew := heap_alloc_new x3 (.cells #[.int .i64 c1, .int .i64 c2, .int .i64 c3] 3)
  have HCl := Lib.hid (fun j (hj : j < 3) => show (x3.alloc (.cells #[.int .i64 c1, .int .i64 c2, .int .i64 c3] 3)).cell? ⟨x3.heap.size, j, none⟩ = some (.int .i64 (([c1, c2, c3] : List Int).getD j 0)) by
    rw [cell_of_row _ _ j _ _ (0, 0) hnew]
    have : j = 0 ∨ j = 1 ∨ j = 2 := by omega
    rcases this with rfl | rfl | rfl <;> rfl)
  clear hnew
  refine hK.out _ _ (hHeld.alloc _) (fun _ => ?_)
  replace hHeld := hHeld.alloc (.cells #[.int .i64 c1, .int .i64 c2, .int .i64 c3] 3)
  clear hK K
  refine rR 16 rfl (fun K hK => ?_)
  go_simp
  refine (or_is [c1, c2, c3] x3.heap.size _ HCl.out).mono ?_
  rintro e x4 ⟨rfl, gx4⟩
  refine hK.out _ _ (hHeld.trans gx4) (fun _ => ?_)
  replace hHeld := hHeld.trans gx4
  clear hK K
  refine rT 17 22 (.bool (decide (orI [c1, c2, c3] < 0))) rfl rfl hHeld ?_
  simp only [pA, pN, sZ, sU]
  refine rT 18 4 (.bool (decide (orI [c1, c2, c3] < 0))) rfl rfl hHeld ?_
  simp only [pA, pN, sZ, sU]
  refine wpAnyH_done (by kernel_rfl) ?_ _
  go_wp2
  go_ret
  exact ⟨by rw [← HV.out]; rfl, HK0.out.trans hHeld⟩
theorem less_iff (a b : Mv) : lessB a b = true ↔ a.f < b.f ∨ (a.f = b.f ∧ (a.t < b.t ∨ (a.t = b.t ∧ b.p < a.p))) := by
  unfold lessB
  split
  · simp only [decide_eq_true_eq]; omega
  · split
    · simp only [decide_eq_true_eq]; omega
    · simp only [decide_eq_true_eq]; omega
theorem less_not {a b : Mv} (h : lessB a b = true) : lessB b a = false ∧ beqM a b = false := by
  have h1 := (less_iff a b).1 h
  constructor
  · rw [Bool.eq_false_iff]; intro h2; have := (less_iff b a).1 h2; omega
  · rw [Bool.eq_false_iff]; intro h2; rw [beqM_iff] at h2; rw [h2] at h1; omega
theorem less_eq {a b : Mv} (h : lessB a b = false) (h' : lessB b a = false) : beqM a b = true := by
  have h1 : ¬ _ := fun x => Bool.false_ne_true (h.symm.trans ((less_iff a b).2 x))
  have h2 : ¬ _ := fun x => Bool.false_ne_true (h'.symm.trans ((less_iff b a).2 x))
  obtain ⟨f, t, p⟩ := a
  obtain ⟨f', t', p'⟩ := b
  simp only [beqM, Bool.and_eq_true, beq_iff_eq]
  dsimp only at h1 h2
  omega
theorem less_trans {a b c : Mv} (h1 : lessB a b = true) (h2 : lessB b c = true) : lessB a c = true := by
  have a1 := (less_iff a b).1 h1
  have a2 := (less_iff b c).1 h2
  exact (less_iff a c).2 (by omega)
end Go.Proofs.YtkebpchhpidogaaGreatDoor
namespace Go.Proofs.YtkebpchhpidogaaGreatDoor
open Go.RowKit
set_option linter.unusedVariables false
set_option linter.unusedSimpArgs false
set_option maxRecDepth 100000

/-- How a side's pawns go. -/
def upI (t : Int) : Int := if t = 0 then 8 else -8
def secI (t : Int) : Int := if t = 0 then 1 else 6
/-- Does a pawn go so? -/
def pgoB (p : Ps) (m : Mv) : Bool :=
  ((bAt p.B m.t == 0) && (m.t == m.f + upI p.t)) ||
  (((bAt p.B m.t == 0) && (m.t == m.f + 2 * upI p.t) && (m.f / 8 == secI p.t) && (bAt p.B (m.f + upI p.t) == 0)) ||
  (hitB p.B m.f m.t && takeB p m))
/-- Does a man go so? -/
def goesM (p : Ps) (m : Mv) : Bool := formB p m && (if pawnB p m then pgoB p m else (hitB p.B m.f m.t || decide (castN p m < 4)))
def prK : List Int := [5, 4, 3, 2, 1, 0]
def toN (p : Ps) (f t : Nat) : List Mv := (prK.map fun k => (⟨(f : Int), (t : Int), k⟩ : Mv)).filter (goesM p)
def fromN (p : Ps) (f : Nat) : List Mv := (List.range 64).flatMap (toN p f)
def allN (p : Ps) (n : Nat) : List Mv := (List.range n).flatMap (fromN p)
def allL (p : Ps) : List Mv := allN p 64
theorem goes_form {p : Ps} {m : Mv} (h : goesM p m = true) : formB p m = true := by
  unfold goesM at h; rw [Bool.and_eq_true] at h; exact h.1
theorem form_t {p : Ps} {m : Mv} (h : formB p m = true) : 0 ≤ m.t ∧ m.t < 64 := by
  unfold formB onB at h
  simp only [Bool.and_eq_true, decide_eq_true_eq] at h
  exact h.1.1.1.2
theorem mem_toN {p : Ps} {f t : Nat} {m : Mv} : m ∈ toN p f t ↔ m.f = f ∧ m.t = t ∧ goesM p m = true := by
  unfold toN
  rw [List.mem_filter, List.mem_map]
  constructor
  · rintro ⟨⟨k, _, rfl⟩, h⟩; exact ⟨rfl, rfl, h⟩
  · rintro ⟨h1, h2, h⟩
    obtain ⟨mf, mt, mp⟩ := m
    dsimp only at h1 h2
    subst h1 h2
    refine ⟨⟨mp, ?_, rfl⟩, h⟩
    have := promo_five' (form_promo (goes_form h))
    dsimp only at this
    unfold prK
    rcases this with h | h | h | h | h <;> rw [h] <;> decide
theorem mem_fromN {p : Ps} {f : Nat} {m : Mv} : m ∈ fromN p f ↔ m.f = f ∧ goesM p m = true := by
  unfold fromN
  rw [List.mem_flatMap]
  constructor
  · rintro ⟨t, _, h⟩; obtain ⟨a, _, b⟩ := mem_toN.1 h; exact ⟨a, b⟩
  · rintro ⟨a, b⟩
    obtain ⟨h0, h1⟩ := form_t (goes_form b)
    obtain ⟨t, et⟩ := Int.eq_ofNat_of_zero_le h0
    exact ⟨t, by rw [List.mem_range]; omega, mem_toN.2 ⟨a, et, b⟩⟩
theorem mem_allN {p : Ps} (t01 : p.t = 0 ∨ p.t = 1) {m : Mv} : m ∈ allL p ↔ goesM p m = true := by
  unfold allL allN
  rw [List.mem_flatMap]
  constructor
  · rintro ⟨f, _, h⟩; exact (mem_fromN.1 h).2
  · intro b
    have ho := form_on t01 (goes_form b)
    obtain ⟨f, ef⟩ := Int.eq_ofNat_of_zero_le ho.f0
    exact ⟨f, by rw [List.mem_range]; have := ho.f1; omega, mem_fromN.2 ⟨ef, b⟩⟩
theorem toN_sorted (p : Ps) (f t : Nat) : (toN p f t).Pairwise fun a b => lessB a b = true := by
  unfold toN
  refine List.Pairwise.filter _ ?_
  rw [List.pairwise_map]
  have : prK.Pairwise fun a b => b < a := by decide
  refine this.imp ?_
  intro a b h
  exact (less_iff _ _).2 (.inr ⟨rfl, .inr ⟨rfl, h⟩⟩)
theorem fromN_sorted (p : Ps) (f : Nat) : (fromN p f).Pairwise fun a b => lessB a b = true := by
  unfold fromN
  rw [List.pairwise_flatMap]
  refine ⟨fun t _ => toN_sorted p f t, List.pairwise_lt_range.imp fun {a b} hab x hx y hy => ?_⟩
  obtain ⟨x1, x2, _⟩ := mem_toN.1 hx
  obtain ⟨y1, y2, _⟩ := mem_toN.1 hy
  exact (less_iff _ _).2 (.inr ⟨by omega, .inl (by omega)⟩)
theorem allN_sorted (p : Ps) (n : Nat) : (allN p n).Pairwise fun a b => lessB a b = true := by
  unfold allN
  rw [List.pairwise_flatMap]
  refine ⟨fun f _ => fromN_sorted p f, List.pairwise_lt_range.imp fun {a b} hab x hx y hy => ?_⟩
  have x1 := (mem_fromN.1 hx).1
  have y1 := (mem_fromN.1 hy).1
  exact (less_iff _ _).2 (.inl (by omega))
theorem allN_succ (p : Ps) (n : Nat) : allN p (n + 1) = allN p n ++ fromN p n := by simp [allN, List.range_succ]
theorem toN_len (p : Ps) (f t : Nat) : (toN p f t).length ≤ 6 := by
  unfold toN
  refine Nat.le_trans (List.length_filter_le _ _) ?_
  rw [List.length_map]; decide
theorem flatM_len {α β : Type} (g : α → List β) (k : Nat) (h : ∀ a, (g a).length ≤ k) : ∀ l : List α, (l.flatMap g).length ≤ k * l.length
  | [] => by simp
  | a :: l => by
    rw [List.flatMap_cons, List.length_append, List.length_cons, Nat.mul_add]
    have := h a
    have := flatM_len g k h l
    omega
theorem fromN_len (p : Ps) (f : Nat) : (fromN p f).length ≤ 384 := by
  have := flatM_len (toN p f) 6 (toN_len p f) (List.range 64)
  rw [List.length_range] at this
  exact this
theorem allN_len (p : Ps) (n : Nat) : (allN p n).length ≤ 384 * n := by
  have := flatM_len (fromN p) 384 (fromN_len p) (List.range n)
  rw [List.length_range] at this
  exact this
theorem less_irr (a : Mv) : lessB a a = false := by
  rw [Bool.eq_false_iff]; intro h; have := (less_iff a a).1 h; omega
theorem sorted_nodup {K : List Mv} (h : K.Pairwise fun a b => lessB a b = true) : K.Nodup :=
  h.imp fun {a b} hl e => by rw [e, less_irr] at hl; cases hl
/-- The order, as the sort asks for it. -/
def ordI (a b : Mv) : Int := if lessB a b then -1 else if lessB b a then 1 else 0
theorem ord_less (a b : Mv) : decide (ordI a b < 0) = lessB a b := by
  unfold ordI
  cases h : lessB a b
  · cases lessB b a <;> simp
  · simp
theorem less_ntrans {a b c : Mv} (h1 : lessB a b = false) (h2 : lessB b c = false) : lessB a c = false := by
  have a1 : ¬ _ := fun x => Bool.false_ne_true (h1.symm.trans ((less_iff a b).2 x))
  have a2 : ¬ _ := fun x => Bool.false_ne_true (h2.symm.trans ((less_iff b c).2 x))
  rw [Bool.eq_false_iff]
  intro h
  have := (less_iff a c).1 h
  omega
theorem sort_is (L K : List Mv) (hL : L.Nodup) (hK : K.Pairwise fun a b => lessB a b = true) (hm : ∀ m, m ∈ L ↔ m ∈ K) : (L.mergeSort fun x y => !lessB y x) = K := by
  have hperm : L.Perm K := by
    rw [List.perm_ext_iff_of_nodup hL (sorted_nodup hK)]
    exact hm
  refine List.Perm.eq_of_pairwise (le := fun a b => lessB b a = false) (fun a b _ _ h1 h2 => (beqM_iff a b).1 (less_eq h2 h1)) ?_ (hK.imp fun h => (less_not h).1) ((List.mergeSort_perm _ _).trans hperm)
  refine (List.pairwise_mergeSort (le := fun x y : Mv => !lessB y x) (fun a b c h1 h2 => ?_) (fun a b => ?_) L).imp fun h => by simpa using h
  · simp only [Bool.not_eq_true'] at *; exact less_ntrans h2 h1
  · cases h : lessB b a
    · simp
    · simp [(less_not h).1]
/-! ### What is formed, of a man of one's own -/
theorem form_own {p : Ps} {m : Mv} {s : Nat} (hf : m.f = s) (hs : s < 64) (own : sideI (p.B.getD s 0) = p.t) :
    formB p m = true ↔ (0 ≤ m.t ∧ m.t < 64) ∧ sideI (bAt p.B m.t) ≠ p.t ∧ (if kindI (p.B.getD s 0) = 1 ∧ m.t / 8 = lastI p.t then 2 ≤ m.p ∧ m.p ≤ 5 else m.p = 0) := by
  have em : manA p.B m.f = p.B.getD s 0 := by unfold manA bAt; rw [hf, Int.toNat_natCast, if_pos ⟨by omega, by omega⟩]
  by_cases ht : 0 ≤ m.t ∧ m.t < 64
  · have en : manA p.B m.t = bAt p.B m.t := by unfold manA; rw [if_pos ht]
    unfold formB turnsB onB
    rw [em, en, own, Bool.and_assoc]
    by_cases hk : kindI (p.B.getD s 0) = 1 ∧ m.t / 8 = lastI p.t
    · rw [hk.1, hk.2]
      simp only [beq_self_eq_true, Bool.and_true]
      rw [promo_turn]
      simp [ht]
    · rw [if_neg hk]
      have : ((kindI (p.B.getD s 0) == 1) && (m.t / 8 == lastI p.t)) = false := by
        rw [Bool.eq_false_iff]; intro h; rw [Bool.and_eq_true, beq_iff_eq, beq_iff_eq] at h; exact hk h
      rw [this, promo_stay]
      simp [ht]
  · have : formB p m = false := by unfold formB onB; rw [show decide (0 ≤ m.t ∧ m.t < 64) = false by simpa using ht]; simp
    rw [this]
    exact ⟨fun h => (by cases h), fun h => absurd h.1 ht⟩
theorem mem_zs {B : List Int} {s : Nat} (x : Int) : x ∈ zn (strikesN B (s : Int)) ↔ (0 ≤ x ∧ x < 64) ∧ hitB B (s : Int) x = true := by
  unfold zn strikesN sel
  simp only [List.mem_map, List.mem_filter, List.mem_range]
  constructor
  · rintro ⟨n, ⟨a, c⟩, b⟩; subst b; exact ⟨by omega, c⟩
  · rintro ⟨⟨a, b⟩, c⟩
    obtain ⟨n, rfl⟩ := Int.eq_ofNat_of_zero_le a
    exact ⟨n, ⟨by omega, c⟩, rfl⟩
theorem zs_nodup (B : List Int) (s : Int) : (zn (strikesN B s)).Nodup := by
  unfold zn strikesN sel List.Nodup
  rw [List.pairwise_map]
  exact (List.pairwise_lt_range.filter _).imp fun h => by omega
theorem zs_len (B : List Int) (s : Int) : (zn (strikesN B s)).length ≤ 64 := by
  unfold zn strikesN; rw [List.length_map]; exact sel_le _ _
/-- The moves of a man that goes to what it strikes. -/
def offOk (p : Ps) (x : Int) : Bool := !(sideI (bAt p.B x) == p.t)
def offN (p : Ps) (s : Nat) : List Mv := ((zn (strikesN p.B (s : Int))).filter (offOk p)).map fun x => ⟨(s : Int), x, 0⟩
theorem mem_off {p : Ps} {s : Nat} {m : Mv} : m ∈ offN p s ↔ m.f = s ∧ m.p = 0 ∧ (0 ≤ m.t ∧ m.t < 64) ∧ hitB p.B (s : Int) m.t = true ∧ sideI (bAt p.B m.t) ≠ p.t := by
  unfold offN
  rw [List.mem_map]
  constructor
  · rintro ⟨x, hx, rfl⟩
    obtain ⟨h1, h2⟩ := List.mem_filter.1 hx
    obtain ⟨a, b⟩ := (mem_zs x).1 h1
    exact ⟨rfl, rfl, a, b, by unfold offOk at h2; simpa using h2⟩
  · rintro ⟨h1, h2, h3, h4, h5⟩
    obtain ⟨mf, mt, mp⟩ := m
    dsimp only at *
    subst h1 h2
    exact ⟨mt, List.mem_filter.2 ⟨(mem_zs mt).2 ⟨h3, h4⟩, by unfold offOk; simpa using h5⟩, rfl⟩
theorem off_nodup (p : Ps) (s : Nat) : (offN p s).Nodup := by
  unfold offN List.Nodup
  rw [List.pairwise_map]
  exact ((zs_nodup p.B s).filter _).imp fun {a b} hne e => hne (by injection e)
theorem off_len (p : Ps) (s : Nat) : (offN p s).length ≤ 64 := by
  unfold offN
  rw [List.length_map]
  exact Nat.le_trans (List.length_filter_le _ _) (zs_len _ _)
/-- Who castles is a king. -/
theorem cast_king {p : Ps} (hB : Brd p.B) (hr : pwI p = 0) {m : Mv} {s : Nat} (hf : m.f = s) (h : formB p m = true) (hc : castN p m < 4) : kindI (p.B.getD s 0) = 6 ∧ m.p = 0 ∧ ∃ k, k < 4 ∧ s = hKg k ∧ m.t = wTo k ∧ p.B.getD s 0 = kgm k := by
  obtain ⟨f, t, F⟩ := form_of hB (show okM p m = true by unfold okM; rw [hr, h]; rfl)
  have c := cast_of F hc rfl
  have e : f = s := by have := F.hf; omega
  subst e
  refine ⟨?_, c.no_promo F, castN p m, hc, c.ef, by rw [F.ht, c.et], c.king⟩
  rw [c.king]
  generalize castN p m = k at hc
  have : k = 0 ∨ k = 1 ∨ k = 2 ∨ k = 3 := by omega
  rcases this with rfl | rfl | rfl | rfl <;> decide
theorem mem_officer {p : Ps} (hB : Brd p.B) (hr : pwI p = 0) {s : Nat} (hs : s < 64) (own : sideI (p.B.getD s 0) = p.t) (k1 : kindI (p.B.getD s 0) ≠ 1) (k6 : kindI (p.B.getD s 0) ≠ 6) {m : Mv} :
    m ∈ offN p s ↔ m ∈ fromN p s := by
  rw [mem_off, mem_fromN]
  constructor
  · rintro ⟨h1, h2, h3, h4, h5⟩
    have hw : pawnB p m = false := by unfold pawnB bAt; rw [h1, Int.toNat_natCast, beq_eq_false_iff_ne]; exact k1
    refine ⟨h1, ?_⟩
    unfold goesM
    rw [(form_own h1 hs own).2 ⟨h3, h5, by rw [if_neg (fun h => k1 h.1)]; exact h2⟩, hw, h1, h4]
    rfl
  · rintro ⟨h1, h⟩
    have hf := goes_form h
    obtain ⟨a, b, c⟩ := (form_own h1 hs own).1 hf
    rw [if_neg (fun h => k1 h.1)] at c
    have hw : pawnB p m = false := by unfold pawnB bAt; rw [h1, Int.toNat_natCast, beq_eq_false_iff_ne]; exact k1
    unfold goesM at h
    rw [hf, hw, Bool.true_and, if_neg (by decide), Bool.or_eq_true, decide_eq_true_eq] at h
    refine ⟨h1, c, a, ?_, b⟩
    rcases h with h | h
    · rw [← h1]; exact h
    · exact absurd (cast_king hB hr h1 hf h).1 k6
/-! ### The king -/
/-- Castling by so many files. -/
def csN (p : Ps) (s : Nat) (d : Int) : List Mv := if stI s d 0 ≠ -1 ∧ okM p ⟨s, stI s d 0, 0⟩ = true ∧ castN p ⟨s, stI s d 0, 0⟩ < 4 then [⟨s, stI s d 0, 0⟩] else []
def kingN (p : Ps) (s : Nat) : List Mv := if p.c = 0 then offN p s else offN p s ++ csN p s (-2) ++ csN p s 2
theorem cast_rights {p : Ps} {m : Mv} (h : p.c = 0) : ¬ castN p m < 4 := by
  have : castN p m = 4 := cast_none fun j hj => by
    unfold castB rgtB
    rw [h]
    have : j = 0 ∨ j = 1 ∨ j = 2 ∨ j = 3 := by omega
    rcases this with rfl | rfl | rfl | rfl <;> simp [hR]
  omega
theorem mem_cs {p : Ps} {s : Nat} {d : Int} {m : Mv} : m ∈ csN p s d ↔ m = ⟨s, stI s d 0, 0⟩ ∧ stI s d 0 ≠ -1 ∧ okM p m = true ∧ castN p m < 4 := by
  unfold csN
  split
  · next h => rw [List.mem_singleton]; exact ⟨fun e => ⟨e, h.1, by rw [e]; exact h.2.1, by rw [e]; exact h.2.2⟩, fun e => e.1⟩
  · next h => simp only [List.not_mem_nil, false_iff]; rintro ⟨rfl, h2⟩; exact h h2
theorem st_wing (k : Nat) (hk : k < 4) : stI (hKg k : Nat) (-2) 0 = (wTo k : Nat) ∨ stI (hKg k : Nat) 2 0 = (wTo k : Nat) := by
  have : k = 0 ∨ k = 1 ∨ k = 2 ∨ k = 3 := by omega
  rcases this with rfl | rfl | rfl | rfl <;> decide
theorem knd_kind (x : Int) : knd x = kindI x := by
  unfold knd kindI
  by_cases h : x < -6 ∨ x = 0 ∨ 6 < x
  · rw [if_pos h, (manB_not x).2 h]; rfl
  · rw [if_neg h, (manB_iff x).2 (by omega), if_pos rfl]
    by_cases h2 : x < 0
    · rw [if_pos h2, if_neg (by omega)]
    · rw [if_neg h2, if_pos (by omega)]
/-- Who doesn't slide strikes by one step. -/
theorem hit_step {B : List Int} {s : Nat} (hs : s < 64) (ns : slidesB (B.getD s 0) = false) {t : Int} : hitB B (s : Int) t = true ↔ ∃ way, way < 16 ∧ goesB (B.getD s 0) way = true ∧ (0 ≤ t ∧ t < 64) ∧ t % 8 = (s : Int) % 8 + wayF way ∧ t / 8 = (s : Int) / 8 + wayR way := by
  have eb : bAt B (s : Int) = B.getD s 0 := rfl
  rw [hitB_iff, mem_strike, eb]
  constructor
  · rintro ⟨way, i, hw, hr, hS, _⟩
    unfold reachB at hr
    rw [ns] at hr
    simp only [Bool.and_eq_true, Bool.or_false, beq_iff_eq] at hr
    obtain rfl : i = 0 := by omega
    obtain ⟨a, b, c, d⟩ := (rayW_at (by omega) (by omega) hw 0 t).1 hS
    exact ⟨way, hw, hr.1, ⟨a, b⟩, by simpa using c, by simpa using d⟩
  · rintro ⟨way, hw, hg, ⟨a, b⟩, c, d⟩
    exact ⟨way, 0, hw, by unfold reachB; rw [hg]; rfl, (rayW_at (by omega) (by omega) hw 0 t).2 ⟨a, b, by simpa using c, by simpa using d⟩, fun k hk => by omega⟩
theorem king_way_all : ∀ w : Fin 16, (goesB 6 w = true → -1 ≤ wayF w ∧ wayF w ≤ 1) ∧ (goesB (-6) w = true → -1 ≤ wayF w ∧ wayF w ≤ 1) := by decide +kernel
theorem king_two (x : Int) (h : kindI x = 6) : x = 6 ∨ x = -6 := by
  unfold kindI at h
  split at h
  · split at h <;> omega
  · omega
theorem king_near {B : List Int} {s : Nat} (hs : s < 64) (hk : kindI (B.getD s 0) = 6) {t : Int} (h : hitB B (s : Int) t = true) : t % 8 ≤ (s : Int) % 8 + 1 ∧ (s : Int) % 8 ≤ t % 8 + 1 := by
  have ns : slidesB (B.getD s 0) = false := by unfold slidesB; rw [knd_kind, hk]; rfl
  obtain ⟨way, hw, hg, _, c, _⟩ := (hit_step hs ns).1 h
  have := king_way_all ⟨way, hw⟩
  dsimp only at this
  rcases king_two _ hk with e | e <;> rw [e] at hg
  · have := this.1 hg; omega
  · have := this.2 hg; omega
theorem mem_king {p : Ps} (hB : Brd p.B) (hr : pwI p = 0) {s : Nat} (hs : s < 64) (own : sideI (p.B.getD s 0) = p.t) (k6 : kindI (p.B.getD s 0) = 6) {m : Mv} :
    m ∈ kingN p s ↔ m ∈ fromN p s := by
  have k1 : kindI (p.B.getD s 0) ≠ 1 := by rw [k6]; decide
  have key : m ∈ fromN p s ↔ m ∈ offN p s ∨ (m.f = s ∧ formB p m = true ∧ castN p m < 4) := by
    rw [mem_off, mem_fromN]
    constructor
    · rintro ⟨h1, h⟩
      have hf := goes_form h
      obtain ⟨a, b, c⟩ := (form_own h1 hs own).1 hf
      rw [if_neg (fun h => k1 h.1)] at c
      have hw : pawnB p m = false := by unfold pawnB bAt; rw [h1, Int.toNat_natCast, beq_eq_false_iff_ne]; exact k1
      unfold goesM at h
      rw [hf, hw, Bool.true_and, if_neg (by decide), Bool.or_eq_true, decide_eq_true_eq] at h
      rcases h with h | h
      · exact .inl ⟨h1, c, a, by rw [← h1]; exact h, b⟩
      · exact .inr ⟨h1, hf, h⟩
    · rintro (⟨h1, h2, h3, h4, h5⟩ | ⟨h1, h2, h3⟩)
      · have hw : pawnB p m = false := by unfold pawnB bAt; rw [h1, Int.toNat_natCast, beq_eq_false_iff_ne]; exact k1
        refine ⟨h1, ?_⟩
        unfold goesM
        rw [(form_own h1 hs own).2 ⟨h3, h5, by rw [if_neg (fun h => k1 h.1)]; exact h2⟩, hw, h1, h4]
        rfl
      · have hw : pawnB p m = false := by unfold pawnB bAt; rw [h1, Int.toNat_natCast, beq_eq_false_iff_ne]; exact k1
        refine ⟨h1, ?_⟩
        unfold goesM
        rw [h2, hw, show decide (castN p m < 4) = true by simpa using h3]
        simp
  have hok : ∀ m : Mv, formB p m = true ↔ okM p m = true := fun m => by unfold okM; rw [hr]; simp
  rw [key]
  unfold kingN
  split
  · next h0 => exact ⟨.inl, fun h => h.resolve_right fun h => cast_rights h0 h.2.2⟩
  · rw [List.mem_append, List.mem_append, mem_cs, mem_cs, or_assoc]
    constructor
    · rintro (h | ⟨e, _, h2, h3⟩ | ⟨e, _, h2, h3⟩)
      · exact .inl h
      · exact .inr ⟨by rw [e], (hok m).2 h2, h3⟩
      · exact .inr ⟨by rw [e], (hok m).2 h2, h3⟩
    · rintro (h | ⟨h1, h2, h3⟩)
      · exact .inl h
      · obtain ⟨_, h4, k, hk, e1, e2, _⟩ := cast_king hB hr h1 h2 h3
        right
        have hw := wTo_lt k
        obtain ⟨mf, mt, mp⟩ := m
        dsimp only at h1 h4 e2
        subst h1 h4 e2
        rcases st_wing k hk with h5 | h5
        · left; rw [← e1] at h5; exact ⟨by rw [h5], by rw [h5]; omega, (hok _).1 h2, h3⟩
        · right; rw [← e1] at h5; exact ⟨by rw [h5], by rw [h5]; omega, (hok _).1 h2, h3⟩
theorem cs_len (p : Ps) (s : Nat) (d : Int) : (csN p s d).length ≤ 1 := by unfold csN; split <;> simp
theorem cs_nodup (p : Ps) (s : Nat) (d : Int) : (csN p s d).Nodup := by unfold csN; split <;> simp
theorem stI_file {s : Nat} {d : Int} (h : stI s d 0 ≠ -1) : stI s d 0 % 8 = (s : Int) % 8 + d := by
  rcases stI_cases s d 0 with ⟨_, _, c, d', _, _, e⟩ | ⟨e, _⟩
  · rw [e]; omega
  · exact absurd e h
theorem king_nodup {p : Ps} {s : Nat} (hs : s < 64) (k6 : kindI (p.B.getD s 0) = 6) : (kingN p s).Nodup := by
  unfold kingN
  split
  · exact off_nodup p s
  · have d1 : ∀ d : Int, d = -2 ∨ d = 2 → ∀ a ∈ offN p s, ∀ b ∈ csN p s d, a ≠ b := by
      intro d hd a ha b hb e
      obtain ⟨e1, e2, _⟩ := mem_cs.1 hb
      have h4 := (mem_off.1 ha).2.2.2.1
      have := king_near hs k6 h4
      have h6 := stI_file e2
      rw [e, e1] at this
      dsimp only at this
      omega
    rw [List.nodup_append, List.nodup_append]
    refine ⟨⟨off_nodup p s, cs_nodup _ _ _, d1 (-2) (.inl rfl)⟩, cs_nodup _ _ _, fun a ha b hb e => ?_⟩
    rcases List.mem_append.1 ha with h | h
    · exact d1 2 (.inr rfl) a h b hb e
    · obtain ⟨e1, e2, _⟩ := mem_cs.1 h
      obtain ⟨e3, e4, _⟩ := mem_cs.1 hb
      have h1 := stI_file e2
      have h2 := stI_file e4
      rw [e1, e3] at e
      injection e with _ e _
      omega
theorem king_len (p : Ps) (s : Nat) : (kingN p s).length ≤ 66 := by
  unfold kingN
  have h1 := off_len p s
  have h2 := cs_len p s (-2)
  have h3 := cs_len p s 2
  split
  · omega
  · rw [List.length_append, List.length_append]; omega
/-! ### Pawns -/
def ahN (p : Ps) (s : Nat) : List Int := if bAt p.B (s + upI p.t) ≠ 0 then [] else ((s : Int) + upI p.t) :: (if (s : Int) / 8 = secI p.t ∧ bAt p.B (s + 2 * upI p.t) = 0 then [(s : Int) + 2 * upI p.t] else [])
def arrN (p : Ps) (s : Nat) (to : Int) : List Mv := if to / 8 ≠ lastI p.t then [⟨s, to, 0⟩] else [⟨s, to, 5⟩, ⟨s, to, 4⟩, ⟨s, to, 3⟩, ⟨s, to, 2⟩]
def capB (p : Ps) (x : Int) : Bool := (x == p.e) || (sideI (bAt p.B x) == otherI p.t)
def pawnTo (p : Ps) (s : Nat) : List Int := ahN p s ++ (zn (strikesN p.B (s : Int))).filter (capB p)
def pawnN (p : Ps) (s : Nat) : List Mv := (ahN p s).flatMap (arrN p s) ++ ((zn (strikesN p.B (s : Int))).filter (capB p)).flatMap (arrN p s)
theorem pawnN_is (p : Ps) (s : Nat) : pawnN p s = (pawnTo p s).flatMap (arrN p s) := by unfold pawnN pawnTo; rw [List.flatMap_append]
theorem mem_ah {p : Ps} {s : Nat} {x : Int} : x ∈ ahN p s ↔ bAt p.B (s + upI p.t) = 0 ∧ (x = s + upI p.t ∨ (x = s + 2 * upI p.t ∧ (s : Int) / 8 = secI p.t ∧ bAt p.B (s + 2 * upI p.t) = 0)) := by
  unfold ahN
  split
  · next h => simp [h]
  · next h =>
    have h' : bAt p.B (s + upI p.t) = 0 := by simpa using h
    split
    · next h2 => simp [h', h2]
    · next h2 =>
      simp only [List.mem_singleton]
      exact ⟨fun e => ⟨h', .inl e⟩, fun e => e.2.resolve_right fun q => h2 q.2⟩
theorem mem_arr {p : Ps} {s : Nat} {to : Int} {m : Mv} : m ∈ arrN p s to ↔ m.f = s ∧ m.t = to ∧ (if to / 8 = lastI p.t then 2 ≤ m.p ∧ m.p ≤ 5 else m.p = 0) := by
  obtain ⟨mf, mt, mp⟩ := m
  unfold arrN
  by_cases h : to / 8 = lastI p.t
  · rw [if_neg (by simpa using h), if_pos h]
    simp only [List.mem_cons, List.not_mem_nil, or_false, Mv.mk.injEq]
    constructor
    · rintro (⟨a, b, c⟩ | ⟨a, b, c⟩ | ⟨a, b, c⟩ | ⟨a, b, c⟩) <;> exact ⟨a, b, by omega, by omega⟩
    · rintro ⟨a, b, c, d⟩
      have : mp = 5 ∨ mp = 4 ∨ mp = 3 ∨ mp = 2 := by omega
      rcases this with h | h | h | h <;> simp [a, b, h]
  · rw [if_pos h, if_neg h]
    simp only [List.mem_singleton, Mv.mk.injEq]
theorem arr_nodup (p : Ps) (s : Nat) (to : Int) : (arrN p s to).Nodup := by
  unfold arrN
  split
  · simp
  · simp
theorem arr_len (p : Ps) (s : Nat) (to : Int) : (arrN p s to).length ≤ 4 := by unfold arrN; split <;> simp
theorem pawn_way_all : ∀ w : Fin 16, (goesB 1 w = true → (wayF w = 1 ∨ wayF w = -1) ∧ wayR w = 1) ∧ (goesB (-1) w = true → (wayF w = 1 ∨ wayF w = -1) ∧ wayR w = -1) := by decide +kernel
theorem pawn_two (x : Int) (h : kindI x = 1) : x = 1 ∨ x = -1 := by
  unfold kindI at h
  split at h
  · split at h <;> omega
  · omega
/-- A pawn of one's own, in a right position. -/
structure Pw (p : Ps) (s : Nat) : Prop where
  brd : Brd p.B
  right : pwI p = 0
  s1 : s < 64
  own : sideI (p.B.getD s 0) = p.t
  kind : kindI (p.B.getD s 0) = 1
theorem no_edge {B : List Int} (hw : wrongI B = 0) {s : Nat} (hs : s < 64) (k : kindI (B.getD s 0) = 1) : 8 ≤ s ∧ s < 56 := by
  have he : edgeB B = false := by
    unfold wrongI at hw
    split at hw
    · omega
    · split at hw
      · omega
      · split at hw
        · omega
        · next h => simpa using h
  unfold edgeB at he
  rw [List.any_eq_false] at he
  have := he s (by rw [List.mem_range]; exact hs)
  unfold edge at this
  rw [k] at this
  simp at this
  omega
theorem Pw.turn {p : Ps} {s : Nat} (h : Pw p s) : (p.t = 0 ∧ p.B.getD s 0 = 1 ∧ upI p.t = 8 ∧ secI p.t = 1 ∧ lastI p.t = 7) ∨ (p.t = 1 ∧ p.B.getD s 0 = -1 ∧ upI p.t = -8 ∧ secI p.t = 6 ∧ lastI p.t = 0) := by
  have ho := h.own
  rcases pawn_two _ h.kind with e | e
  · rw [e] at ho
    have : p.t = 0 := by rw [← ho]; decide
    left; rw [this]; exact ⟨rfl, e, rfl, rfl, rfl⟩
  · rw [e] at ho
    have : p.t = 1 := by rw [← ho]; decide
    right; rw [this]; exact ⟨rfl, e, rfl, rfl, rfl⟩
theorem Pw.rank {p : Ps} {s : Nat} (h : Pw p s) : 8 ≤ s ∧ s < 56 := no_edge (right_pos h.right).1 h.s1 h.kind
theorem Pw.hits {p : Ps} {s : Nat} (h : Pw p s) {t : Int} (ht : hitB p.B (s : Int) t = true) : (0 ≤ t ∧ t < 64) ∧ t % 8 ≠ (s : Int) % 8 ∧ t / 8 = (s : Int) / 8 + upI p.t / 8 := by
  have ns : slidesB (p.B.getD s 0) = false := by unfold slidesB; rw [knd_kind, h.kind]; rfl
  obtain ⟨way, hw, hg, hT, c, d⟩ := (hit_step h.s1 ns).1 ht
  have hall := pawn_way_all ⟨way, hw⟩
  dsimp only at hall
  rcases h.turn with ⟨_, e, u, _⟩ | ⟨_, e, u, _⟩ <;> rw [e] at hg <;> rw [u]
  · have := hall.1 hg; refine ⟨hT, ?_, ?_⟩ <;> omega
  · have := hall.2 hg; refine ⟨hT, ?_, ?_⟩ <;> omega
theorem ok_side {x t : Int} (ho : okB x = true) (hx : x ≠ 0) (ht : t = 0 ∨ t = 1) (hs : sideI x ≠ t) : sideI x = otherI t := by
  have hm : manB x = true := by unfold okB at ho; rw [Bool.or_eq_true, beq_iff_eq] at ho; exact ho.resolve_left hx
  have e : sideI x = if 0 < x then 0 else 1 := by unfold sideI; rw [hm, if_pos rfl]
  rw [other_at ht]
  rw [e] at hs ⊢
  by_cases h : 0 < x
  · rw [if_pos h] at hs ⊢; omega
  · rw [if_neg h] at hs ⊢; omega
theorem pass_empty {p : Ps} (h : 0 ≤ passI p) : bAt p.B p.e = 0 := by
  unfold passI at h
  split at h
  · next a => exact a.2.2.2.1
  · split at h
    · next a => exact a.2.2.2.1
    · omega
theorem ok_at {p : Ps} (hB : Brd p.B) (hr : pwI p = 0) {x : Int} (h0 : 0 ≤ x) (h1 : x < 64) : okB (bAt p.B x) = true :=
  (rightB_iff p.B hB.1).1 (king_one (right_pos hr).1).1 x.toNat (by omega)
theorem Pw.takes {p : Ps} {s : Nat} (h : Pw p s) {m : Mv} (hf : m.f = s) (ht : hitB p.B (s : Int) m.t = true) : (takeB p m = true ∧ sideI (bAt p.B m.t) ≠ p.t) ↔ capB p m.t = true := by
  obtain ⟨⟨t0, t1⟩, hfile, _⟩ := h.hits ht
  obtain ⟨t01, _, e0, e1⟩ := right_t h.right
  have hw : pawnB p m = true := by unfold pawnB bAt; rw [hf, Int.toNat_natCast, h.kind]; rfl
  have hfl : (m.f % 8 != m.t % 8) = true := by rw [hf, bne_iff_ne]; exact fun e => hfile e.symm
  unfold takeB takeI epTake capB
  rw [hw, hfl, Bool.true_and, Bool.and_true, decide_eq_true_eq]
  simp only [Bool.or_eq_true, beq_iff_eq]
  by_cases h0 : bAt p.B m.t = 0
  · rw [if_neg (by simpa using h0), h0, side_zero]
    have hno : ¬ (-1 : Int) = otherI p.t := by rw [other_at t01]; omega
    constructor
    · rintro ⟨h1, _⟩
      left
      by_cases he : m.t = p.e
      · exact he
      · rw [if_neg he] at h1; omega
    · intro h1
      have he := h1.resolve_right hno
      have hp : 0 ≤ passI p := by
        have := (right_pos h.right).2.2.2.2
        unfold epB passB at this
        rw [Bool.or_eq_true, decide_eq_true_eq, beq_iff_eq] at this
        exact this.resolve_right (by omega)
      rw [if_pos he]
      exact ⟨hp, by omega⟩
  · rw [if_pos h0]
    have hok := ok_at h.brd h.right t0 t1
    constructor
    · rintro ⟨_, h1⟩
      exact .inr (ok_side hok h0 t01 h1)
    · intro h1
      refine ⟨t0, ?_⟩
      rcases h1 with he | hs
      · exfalso
        have hp : 0 ≤ passI p := by
          have := (right_pos h.right).2.2.2.2
          unfold epB passB at this
          rw [Bool.or_eq_true, decide_eq_true_eq, beq_iff_eq] at this
          exact this.resolve_right (by omega)
        rw [he] at h0
        exact h0 (pass_empty hp)
      · rw [hs, other_at t01]; omega
theorem mem_pawnTo {p : Ps} {s : Nat} (h : Pw p s) {x : Int} : x ∈ pawnTo p s ↔ x ∈ ahN p s ∨ ((0 ≤ x ∧ x < 64) ∧ hitB p.B (s : Int) x = true ∧ capB p x = true) := by
  unfold pawnTo
  rw [List.mem_append, List.mem_filter, mem_zs, and_assoc]
theorem Pw.ahead {p : Ps} {s : Nat} (h : Pw p s) {x : Int} (hx : x ∈ ahN p s) : (0 ≤ x ∧ x < 64) ∧ x % 8 = (s : Int) % 8 ∧ bAt p.B x = 0 := by
  obtain ⟨h1, h2⟩ := mem_ah.1 hx
  have hr := h.rank
  rcases h2 with h2 | ⟨h2, h3, h4⟩
  · refine ⟨?_, ?_, by rw [h2]; exact h1⟩ <;> rcases h.turn with ⟨_, _, u, _⟩ | ⟨_, _, u, _⟩ <;> rw [h2, u] <;> omega
  · refine ⟨?_, ?_, by rw [h2]; exact h4⟩ <;> rcases h.turn with ⟨_, _, u, v, _⟩ | ⟨_, _, u, v, _⟩ <;> rw [v] at h3 <;> rw [h2, u] <;> omega
theorem mem_pawn {p : Ps} {s : Nat} (h : Pw p s) {m : Mv} : m ∈ pawnN p s ↔ m ∈ fromN p s := by
  rw [pawnN_is, List.mem_flatMap, mem_fromN]
  obtain ⟨t01, _⟩ := right_t h.right
  constructor
  · rintro ⟨x, hx, hm⟩
    obtain ⟨h1, h2, h3⟩ := mem_arr.1 hm
    subst h2
    have hw : pawnB p m = true := by unfold pawnB bAt; rw [h1, Int.toNat_natCast, h.kind]; rfl
    refine ⟨h1, ?_⟩
    have fin : (0 ≤ m.t ∧ m.t < 64) → sideI (bAt p.B m.t) ≠ p.t → pgoB p m = true → goesM p m = true := by
      intro a b c
      unfold goesM
      rw [(form_own h1 h.s1 h.own).2 ⟨a, b, by simp only [h.kind, true_and]; exact h3⟩, hw, if_pos rfl, c]; rfl
    rcases (mem_pawnTo h).1 hx with ha | ⟨ht, hh, hc⟩
    · obtain ⟨a, _, c⟩ := h.ahead ha
      refine fin a (by rw [c, side_zero]; omega) ?_
      obtain ⟨b1, b2⟩ := mem_ah.1 ha
      unfold pgoB
      rw [c, h1]
      rcases b2 with b2 | ⟨b2, b3, b4⟩
      · rw [b2]; simp
      · rw [b2, b1, b3]; simp
    · obtain ⟨a, b⟩ := (h.takes h1 hh).2 hc
      refine fin ht b ?_
      unfold pgoB
      rw [h1, hh, a]; simp
  · rintro ⟨h1, hg⟩
    have hf := goes_form hg
    obtain ⟨a, b, c⟩ := (form_own h1 h.s1 h.own).1 hf
    have hw : pawnB p m = true := by unfold pawnB bAt; rw [h1, Int.toNat_natCast, h.kind]; rfl
    refine ⟨m.t, (mem_pawnTo h).2 ?_, mem_arr.2 ⟨h1, rfl, by simp only [h.kind, true_and] at c; exact c⟩⟩
    unfold goesM at hg
    rw [hf, hw, if_pos rfl, Bool.true_and] at hg
    unfold pgoB at hg
    rw [h1] at hg
    simp only [Bool.or_eq_true, Bool.and_eq_true, beq_iff_eq] at hg
    rcases hg with ⟨g1, g2⟩ | ⟨⟨⟨g1, g2⟩, g3⟩, g4⟩ | ⟨g1, g2⟩
    · left; rw [mem_ah]; rw [g2] at g1; exact ⟨g1, .inl g2⟩
    · left; rw [mem_ah]; rw [g2] at g1; exact ⟨g4, .inr ⟨g2, g3, g1⟩⟩
    · right; exact ⟨a, g1, (h.takes h1 g1).1 ⟨g2, b⟩⟩
theorem flat_nodup {α β : Type} {g : α → List β} {l : List α} (hl : l.Nodup) (hg : ∀ a ∈ l, (g a).Nodup) (hd : ∀ a b x, x ∈ g a → x ∈ g b → a = b) : (l.flatMap g).Nodup := by
  unfold List.Nodup
  rw [List.pairwise_flatMap]
  refine ⟨hg, hl.imp ?_⟩
  intro a b hne x hx y hy e
  exact hne (hd a b x hx (by rw [e]; exact hy))
theorem pawn_nodup {p : Ps} {s : Nat} (h : Pw p s) : (pawnN p s).Nodup := by
  rw [pawnN_is]
  refine flat_nodup ?_ (fun a _ => arr_nodup p s a) (fun a b x ha hb => by rw [← (mem_arr.1 ha).2.1, ← (mem_arr.1 hb).2.1])
  unfold pawnTo
  rw [List.nodup_append]
  refine ⟨?_, (zs_nodup _ _).filter _, fun a ha b hb e => ?_⟩
  · unfold ahN
    split
    · simp
    · split
      · have : upI p.t ≠ 0 := by rcases h.turn with ⟨_, _, u, _⟩ | ⟨_, _, u, _⟩ <;> rw [u] <;> decide
        rw [List.nodup_cons]
        refine ⟨?_, by simp⟩
        rw [List.mem_singleton]; omega
      · simp
  · obtain ⟨_, h2, _⟩ := h.ahead ha
    obtain ⟨h3, _⟩ := List.mem_filter.1 hb
    have h4 := (h.hits ((mem_zs b).1 h3).2).2.1
    rw [e] at h2
    exact h4 h2
theorem ah_len (p : Ps) (s : Nat) : (ahN p s).length ≤ 2 := by
  unfold ahN
  split
  · simp
  · split <;> simp
theorem pawn_len (p : Ps) (s : Nat) : (pawnN p s).length ≤ 264 := by
  rw [pawnN_is]
  have h1 := flatM_len (arrN p s) 4 (arr_len p s) (pawnTo p s)
  have h2 : (pawnTo p s).length ≤ 66 := by
    unfold pawnTo
    rw [List.length_append]
    have := ah_len p s
    have := Nat.le_trans (List.length_filter_le (capB p) (zn (strikesN p.B (s : Int)))) (zs_len p.B s)
    omega
  omega
/-- What the program tells of a square, ahead of the sort. -/
def rawN (p : Ps) (s : Nat) : List Mv := if kindI (p.B.getD s 0) = 1 then pawnN p s else if kindI (p.B.getD s 0) = 6 then kingN p s else offN p s
theorem raw_sorted {p : Ps} (hB : Brd p.B) (hr : pwI p = 0) {s : Nat} (hs : s < 64) (own : sideI (p.B.getD s 0) = p.t) : ((rawN p s).mergeSort fun x y => !lessB y x) = fromN p s := by
  unfold rawN
  split
  · next k => exact sort_is _ _ (pawn_nodup ⟨hB, hr, hs, own, k⟩) (fromN_sorted p s) fun m => mem_pawn ⟨hB, hr, hs, own, k⟩
  · next k1 =>
    split
    · next k => exact sort_is _ _ (king_nodup hs k) (fromN_sorted p s) fun m => mem_king hB hr hs own k
    · next k6 => exact sort_is _ _ (off_nodup p s) (fromN_sorted p s) fun m => mem_officer hB hr hs own k1 k6
theorem from_none {p : Ps} {s : Nat} (h : sideI (manA p.B s) ≠ p.t) : fromN p s = [] := by
  rw [List.eq_nil_iff_forall_not_mem]
  intro m hm
  obtain ⟨h1, h2⟩ := mem_fromN.1 hm
  have hf := goes_form h2
  unfold formB at hf
  rw [h1] at hf
  simp only [Bool.and_eq_true, beq_iff_eq] at hf
  exact h hf.1.1.1.1
/-- What is told of a square, or of what is none. -/
def fromI (p : Ps) (s : Int) : List Mv := if 0 ≤ s ∧ s < 64 then fromN p s.toNat else []
theorem fromI_nat (p : Ps) (s : Nat) (h : s < 64) : fromI p s = fromN p s := by unfold fromI; rw [if_pos (by omega), Int.toNat_natCast]
theorem fromI_len (p : Ps) (s : Int) : (fromI p s).length ≤ 384 := by
  unfold fromI; split
  · exact fromN_len _ _
  · simp
theorem mem_fromI {p : Ps} (t01 : p.t = 0 ∨ p.t = 1) {m : Mv} : m ∈ fromI p m.f ↔ goesM p m = true := by
  unfold fromI
  split
  · next h => rw [mem_fromN]; exact ⟨fun a => a.2, fun a => ⟨by omega, a⟩⟩
  · next h => exact ⟨fun a => by simp at a, fun a => absurd (by have := form_on t01 (goes_form a); exact ⟨this.f0, this.f1⟩) h⟩
theorem filter_none {l : List Mv} {q : Mv → Bool} (h : ∀ m ∈ l, q m = false) : l.filter q = [] := by
  rw [List.filter_eq_nil_iff]; intro m hm; rw [h m hm]; decide
theorem filter_all {l : List Mv} {q : Mv → Bool} (h : ∀ m ∈ l, q m = true) : l.filter q = l := by
  rw [List.filter_eq_self]; exact h
theorem all_from (p : Ps) (s : Int) : ∀ n, (allN p n).filter (fun m => m.f == s) = if 0 ≤ s ∧ s < n then fromN p s.toNat else []
  | 0 => by rw [if_neg (by omega)]; simp [allN]
  | n + 1 => by
    rw [allN_succ, List.filter_append, all_from p s n]
    by_cases h : s = n
    · rw [if_neg (by omega), if_pos (by omega), filter_all (fun m hm => by rw [(mem_fromN.1 hm).1, h]; simp), h, Int.toNat_natCast, List.nil_append]
    · rw [filter_none (l := fromN p n) (fun m hm => by rw [(mem_fromN.1 hm).1, beq_eq_false_iff_ne]; exact fun e => h e.symm), List.append_nil]
      by_cases h2 : 0 ≤ s ∧ s < n
      · rw [if_pos h2, if_pos (by omega)]
      · rw [if_neg h2, if_neg (by omega)]
theorem all_from64 (p : Ps) (s : Int) : (allL p).filter (fun m => m.f == s) = fromI p s := by
  unfold allL fromI; rw [all_from]; rfl
end Go.Proofs.YtkebpchhpidogaaGreatDoor
namespace Go.Proofs.YtkebpchhpidogaaGreatDoor
open Go.RowKit
set_option linter.unusedVariables false
set_option linter.unusedSimpArgs false
set_option maxRecDepth 100000

def Zm : Mv := ⟨0, 0, 0⟩
theorem infoM : (Tryz.prog.info? 35).map (fun i => (i.zero, i.size, i.bytes)) = some (some (.agg (ml Zm).toArray), 3, 24) := by kernel_rfl
def mlL (L : List Mv) : List Value := L.flatMap ml
theorem mlL_len : ∀ L : List Mv, (mlL L).length = L.length * 3
  | [] => rfl
  | m :: L => by
    show (ml m ++ mlL L).length = _
    rw [List.length_append, mlL_len L, List.length_cons]
    show 3 + _ = _
    omega
theorem mlL_app (L K : List Mv) : mlL (L ++ K) = mlL L ++ mlL K := by simp [mlL]
theorem mlL_at : ∀ (L : List Mv) (i j : Nat) (m : Mv), L[i]? = some m → j < 3 → (mlL L)[3 * i + j]? = (ml m)[j]?
  | [], _, _, _, h, _ => by simp at h
  | a :: L, 0, j, m, h, hj => by
    have : a = m := by simpa using h
    subst this
    show (ml a ++ mlL L)[3 * 0 + j]? = _
    rw [Nat.mul_zero, Nat.zero_add, List.getElem?_append_left (by show j < 3; exact hj)]
  | a :: L, i + 1, j, m, h, hj => by
    show (ml a ++ mlL L)[3 * (i + 1) + j]? = _
    rw [List.getElem?_append_right (by show 3 ≤ _; omega)]
    show (mlL L)[3 * (i + 1) + j - 3]? = _
    rw [show 3 * (i + 1) + j - 3 = 3 * i + j by omega]
    exact mlL_at L i j m (by simpa using h) hj
theorem mlL_one {L : List Mv} {u : Value} (h : u ∈ mlL L) : u.oneCell' = true := by
  unfold mlL at h
  obtain ⟨m, _, h⟩ := List.mem_flatMap.1 h
  simp only [ml, List.mem_cons, List.not_mem_nil, or_false] at h
  rcases h with rfl | rfl | rfl <;> rfl
/-- A slice of moves of the call's own. -/
def OwnM (w : World) (base : Nat) (v : Value) (L : List Mv) : Prop := w.ownsRow base 35 3 v L.length (mlL L)
theorem OwnM.nil (w : World) (base : Nat) : OwnM w base (.slice none 0 0) [] := World.ownsRow_nil _ _ _ _
theorem OwnM.kept {w w' : World} {base : Nat} {v : Value} {l : List Mv} (h : OwnM w base v l) (k : Kept w w') : OwnM w' base v l := by
  obtain ⟨h1, h2⟩ := h
  refine ⟨h1, ?_⟩
  rcases h2 with h2 | ⟨b, cap, cur, e1, e2, e3, e4⟩
  · exact .inl h2
  · exact .inr ⟨b, cap, cur, e1, e2, k.heap e3, e4⟩
theorem OwnM.low {w : World} {base b : Nat} {v : Value} {l : List Mv} (h : OwnM w base v l) (hb : b ≤ base) : OwnM w b v l := by
  obtain ⟨h1, h2⟩ := h
  refine ⟨h1, ?_⟩
  rcases h2 with h2 | ⟨g, cap, cur, e1, e2, e3⟩
  · exact .inl h2
  · exact .inr ⟨g, cap, cur, e1, by omega, e3⟩
theorem OwnM.slice {w : World} {base : Nat} {v : Value} {l : List Mv} (h : OwnM w base v l) : ∃ a cap, v = .slice a l.length cap := by
  rcases h.2 with ⟨e, h0⟩ | ⟨g, cap, cur, e, _⟩
  · exact ⟨none, 0, by rw [e, h0]⟩
  · exact ⟨_, _, e⟩
/-- A slice that reads as L, its moves in block g. -/
def LsM (w : World) (g : Nat) (v : Value) (L : List Mv) : Prop :=
  (v = .slice none 0 0 ∧ L = []) ∨ ∃ off cap, v = .slice (some ⟨g, off, none⟩) L.length cap ∧ L.length ≤ cap ∧ cap ≤ maxLen ∧ w.rangeAt g off (mlL L)
theorem LsM.kept {w w' : World} {g : Nat} {v : Value} {l : List Mv} (h : LsM w g v l) (k : Kept w w') : LsM w' g v l := by
  rcases h with h | ⟨off, cap, e, h1, h2, h3⟩
  · exact .inl h
  · exact .inr ⟨off, cap, e, h1, h2, fun i x hx => kept_cell k (h3 i x hx)⟩
theorem LsM.slice {w : World} {g : Nat} {v : Value} {l : List Mv} (h : LsM w g v l) : ∃ a cap, v = .slice a l.length cap := by
  rcases h with ⟨e, h0⟩ | ⟨off, cap, e, _⟩
  · exact ⟨none, 0, by rw [e, h0]; rfl⟩
  · exact ⟨_, _, e⟩
theorem LsM.full {w : World} {g : Nat} {v : Value} {l : List Mv} (h : LsM w g v l) (hl : 0 < l.length) :
    ∃ off cap, v = .slice (some ⟨g, off, none⟩) l.length cap ∧ l.length ≤ cap ∧ cap ≤ maxLen ∧ w.rangeAt g off (mlL l) := by
  rcases h with ⟨_, h0⟩ | h
  · rw [h0] at hl; simp at hl
  · exact h
theorem range_mv {w : World} {g off : Nat} {l : List Mv} (h : w.rangeAt g off (mlL l)) {i : Nat} {m : Mv} (hi : l[i]? = some m) : w.rangeAt g (off + 3 * i) (ml m) := by
  intro j v hv
  have hj : j < 3 := by have := (List.getElem?_eq_some_iff.1 hv).1; exact this
  rw [Nat.add_assoc]
  exact h _ _ (by rw [mlL_at l i j m hi hj]; exact hv)
theorem OwnM.ls {w : World} {base : Nat} {v : Value} {l : List Mv} (h : OwnM w base v l) : ∃ g, LsM w g v l ∧ (0 < l.length → base ≤ g ∧ g < w.heap.size) := by
  rcases h.2 with ⟨e, h0⟩ | ⟨g, cap, cur, e, hb, hh, hnc, hcm, hcs, ht⟩
  · exact ⟨0, .inl ⟨e, List.eq_nil_of_length_eq_zero h0⟩, fun h => by omega⟩
  · refine ⟨g, .inr ⟨0, cap, e, hnc, hcm, fun i x hx => ?_⟩, fun _ => ⟨hb, lt_of_heap hh⟩⟩
    have hi : i < l.length * 3 := by
      have := (List.getElem?_eq_some_iff.1 hx).1
      rwa [mlL_len] at this
    rw [Nat.zero_add, cell_of_row w g i cur _ (0, 0) hh]
    have h2 : (cur.toList.take (l.length * 3))[i]? = (mlL l)[i]? := by rw [ht]
    rw [List.getElem?_take, if_pos hi] at h2
    simp only [Array.getElem?_toList] at h2
    rw [h2, hx]
theorem LsM.lit (w : World) (m : Mv) : LsM (w.alloc (.cells (ml m).toArray 35)) w.heap.size (.slice (some ⟨w.heap.size, 0, none⟩) 1 1) [m] := by
  refine .inr ⟨0, 1, rfl, Nat.le_refl _, by unfold maxLen; omega, fun i x hx => ?_⟩
  rw [cell_of_row _ _ _ _ _ (0, 0) (heap_alloc_new w _)]
  simpa [mlL] using hx
/-- Moves put behind moves: 'append(v, vx...)'. -/
theorem wpList_append_m {ops : Array Oper} {rest : List Oper} {o : Oper} {a : Act} {w : World} {Q : Exit → Act → World → Prop} (hgd : o.guard = none) (s x : Operand)
    (ho : o.op = .call { callee := .builtin .append, args := #[s, x], argTypes := #[30, 30] })
    (base g : Nat) (v vx : Value) (l L : List Mv) (hs : a.eval s = v) (hx : a.eval x = vx) (hown : OwnM w base v l) (hL : LsM w g vx L) (hlen : l.length + L.length ≤ 100000) (hbase : base ≤ w.heap.size)
    (h : ∀ v' w', OwnM w' base v' (l ++ L) → w.grownBy w' v.ownBlock → wpList Tryz.prog ops Q rest (a.put o.dst v') w') : wpList Tryz.prog ops Q (o :: rest) a w := by
  obtain ⟨i0, hi0, hz0, hz1, hz2⟩ := partsZ infoM
  rcases hL with ⟨e, h0⟩ | ⟨off, cap, e, hnc, hcm, hcell⟩
  · subst h0
    rw [e] at hx
    refine wpList_append_own_none hgd s x 30 ho base 35 i0 3 Tryz.underlying30 hi0 v _ _ hs hown hx ?_
    exact h v w (by simpa using hown) ⟨rfl, rfl, rfl, Nat.le_refl _, fun _ _ _ => rfl⟩
  · rw [e] at hx
    refine wpList_append_own w hgd s x 30 ho base 35 i0 (.agg (ml Zm).toArray) 3 24 Tryz.underlying30 hi0 hz0 hz1 hz2 rfl (by decide) v _ _ hs hown ⟨g, off, none⟩ L.length cap (mlL L) hx (mlL_len L) ?_ (fun u hu => mlL_one hu) ?_ ?_ hbase ?_
    · intro j u hu
      rw [show (⟨g, off, none⟩ : Addr).add j = ⟨g, off + j, none⟩ by unfold Addr.add; split <;> simp_all]
      exact hcell j u hu
    · unfold maxLen; omega
    · omega
    · intro v' w' h1 h2 _
      refine h v' w' ?_ h2
      unfold OwnM
      rw [mlL_app, List.length_append]
      exact h1
theorem wp_append_m {o : Oper} {a : Act} {w : World} {K : Act → World → Prop} {Q : Exit → Act → World → Prop} (s x : Operand)
    (ho : o.op = .call { callee := .builtin .append, args := #[s, x], argTypes := #[30, 30] })
    (base g : Nat) (v vx : Value) (l L : List Mv) (hs : a.eval s = v) (hx : a.eval x = vx) (hown : OwnM w base v l) (hL : LsM w g vx L) (hlen : l.length + L.length ≤ 100000) (hbase : base ≤ w.heap.size)
    (h : ∀ v' w', OwnM w' base v' (l ++ L) → w.grownBy w' v.ownBlock → K (a.put o.dst v') w') : o.wp Tryz.prog a w K Q := by
  obtain ⟨i0, hi0, hz0, hz1, hz2⟩ := partsZ infoM
  rcases hL with ⟨e, h0⟩ | ⟨off, cap, e, hnc, hcm, hcell⟩
  · subst h0
    rw [e] at hx
    have hrun := run_append_owned_none (P := Tryz.prog) (w := w) base 30 o.type 35 i0 3 Tryz.underlying30 hi0 v _ _ hown
    unfold Oper.wp
    simp [execOp, ho, resolve, invoke, builtin, hs, hx, hrun, Result.andThen]
    exact h v w (by simpa using hown) ⟨rfl, rfl, rfl, Nat.le_refl _, fun _ _ _ => rfl⟩
  · rw [e] at hx
    refine wp_append_own w s x 30 ho base 35 i0 (.agg (ml Zm).toArray) 3 24 Tryz.underlying30 hi0 hz0 hz1 hz2 rfl (by decide) v _ _ hs hown ⟨g, off, none⟩ L.length cap (mlL L) hx (mlL_len L) ?_ (fun u hu => mlL_one hu) ?_ ?_ hbase ?_
    · intro j u hu
      rw [show (⟨g, off, none⟩ : Addr).add j = ⟨g, off + j, none⟩ by unfold Addr.add; split <;> simp_all]
      exact hcell j u hu
    · unfold maxLen; omega
    · omega
    · intro v' w' h1 h2 _
      refine h v' w' ?_ h2
      unfold OwnM
      rw [mlL_app, List.length_append]
      exact h1
theorem OwnM.grown {w w' : World} {base : Nat} {v : Value} {l : List Mv} (h : OwnM w base v l) {a : World} (k : Kept a w) (hb : a.heap.size ≤ base) (hg : w.grownBy w' v.ownBlock) : Kept a w' :=
  k.grownBy hg (fun g hgv => by have := (World.ownsRow.lt h g hgv).1; omega)
/-- A new slice of moves is told. -/
def NewM (w : World) (l : List Mv) (e : Ending) (w' : World) : Prop := ∃ v, e = .returned v ∧ OwnM w' w.heap.size v l ∧ Kept w w'
/-- A load of one of them. -/
theorem wpList_load_mvi {ops : Array Oper} {rest : List Oper} {op : Oper} {a : Act} {w : World} {Q : Exit → Act → World → Prop} (hw : Region.wanted op (yielded ops a.tmps) = true) (x : Operand) (ho : op.op = .load 35 x)
    (g off : Nat) (hx : a.eval x = .pointer (some ⟨g, off, none⟩)) (m : Mv) (hg : w.rangeAt g off (ml m))
    (h : wpList Tryz.prog ops Q rest (a.put op.dst (.agg (ml m).toArray)) w) : wpList Tryz.prog ops Q (op :: rest) a w :=
  wpList_step fun _ hK => by
    rw [if_pos hw]
    exact wp_load_mid 35 x ho g off hx (ml m) _ hg Tryz.underlying35 rfl sizeM (hK _ _ h)
theorem take_load_mvi {ops : Array Oper} {S : World → Prop} {op : Oper} {a : Act} (hw : Region.wanted op (yielded ops a.tmps) = true) (x : Operand) (ho : op.op = .load 35 x)
    (g off : Nat) (hx : a.eval x = .pointer (some ⟨g, off, none⟩)) (m : Mv) (hS : ∀ w, S w → w.rangeAt g off (ml m)) : YieldsIf Tryz.prog ops S op (.agg (ml m).toArray) a :=
  yieldsIf_load_mid hw 35 x ho g off hx (ml m) _ hS Tryz.underlying35 rfl sizeM
theorem range_kept {w w' : World} {g off : Nat} {l : List Value} (h : w.rangeAt g off l) (k : Kept w w') : w'.rangeAt g off l := fun i x hx => kept_cell k (h i x hx)
theorem ml_sz (m : Mv) : (Tryz.prog.info? 35).map (·.size) = some (ml m).toArray.size := by rw [sizeM]; rfl
theorem zeroMv : (Tryz.prog.info? 35).map (fun i => (i.zero, i.size)) = some (some (.agg (ml Zm).toArray), 3) := by kernel_rfl
theorem run_zero_mv (w : World) : (zeroValue 35).run Tryz.prog w = .ok (.agg (ml Zm).toArray) w := (zero_of_info zeroMv).1 w
theorem wpList_new_mv {ops : Array Oper} {rest : List Oper} {o : Oper} {a : Act} {w : World} {Q : Exit → Act → World → Prop} (hgd : o.guard = none) (ho : o.op = .alloc 35)
    (h : wpList Tryz.prog ops Q rest (a.put o.dst (.pointer (some ⟨w.heap.size, 0, none⟩))) (w.alloc (.cells (ml Zm).toArray 35))) : wpList Tryz.prog ops Q (o :: rest) a w := by
  refine wpList_plain hgd fun _ hK => ?_
  unfold Oper.wp execOp
  simp only [ho, Instr.alloc, Sem.run_bind, run_zero_mv, Result.andThen_ok, newVar, newRow, Value.cells]
  exact hK _ _ h
theorem wpList_store_newmv {ops : Array Oper} {rest : List Oper} {o : Oper} {a : Act} {w : World} {Q : Exit → Act → World → Prop} (hgd : o.guard = none) (x y : Operand) (ho : o.op = .store 35 x y)
    (j k : Mv) (hx : a.eval x = .pointer (some ⟨w.heap.size, 0, none⟩)) (hy : a.eval y = .agg (ml k).toArray)
    (h : wpList Tryz.prog ops Q rest (a.put o.dst undef) (w.alloc (.cells (ml k).toArray 35))) : wpList Tryz.prog ops Q (o :: rest) a (w.alloc (.cells (ml j).toArray 35)) := by
  refine wpList_store_row hgd 35 x y ho w.heap.size (ml k).toArray hx hy 35 _ (heap_alloc_new w _) (ml_sz k) rfl (ml_one _) ?_
  rw [World.setRow_alloc_new]
  exact h
theorem bt_mv3 (f t p : Int) : Tryz.prog.built 35 [(0, .int .i64 f), (1, .int .i64 t), (2, .int .i64 p)] = some (ml ⟨f, t, p⟩).toArray := by kernel_rfl
theorem bt_mv2 (f t : Int) : Tryz.prog.built 35 [(0, .int .i64 f), (1, .int .i64 t)] = some (ml ⟨f, t, 0⟩).toArray := by kernel_rfl
theorem wpList_bt_mv3 {ops : Array Oper} {rest : List Oper} {o : Oper} {a : Act} {w : World} {Q : Exit → Act → World → Prop} (hg : o.guard = none) (x0 x1 x2 : Operand) (ho : o.op = .build 35 #[(0, x0), (1, x1), (2, x2)])
    (f t p : Int) (h0 : a.eval x0 = .int .i64 f) (h1 : a.eval x1 = .int .i64 t) (h2 : a.eval x2 = .int .i64 p)
    (h : wpList Tryz.prog ops Q rest (a.put o.dst (.agg (ml ⟨f, t, p⟩).toArray)) w) : wpList Tryz.prog ops Q (o :: rest) a w :=
  wpList_built hg _ _ ho _ (by
    have : ((#[(0, x0), (1, x1), (2, x2)] : Array (Nat × Operand)).map fun (i, x) => (i, a.eval x)).toList = [(0, .int .i64 f), (1, .int .i64 t), (2, .int .i64 p)] := by simp [h0, h1, h2]
    rw [this]; exact bt_mv3 f t p) h
theorem wpList_bt_mv2 {ops : Array Oper} {rest : List Oper} {o : Oper} {a : Act} {w : World} {Q : Exit → Act → World → Prop} (hg : o.guard = none) (x0 x1 : Operand) (ho : o.op = .build 35 #[(0, x0), (1, x1)])
    (f t : Int) (h0 : a.eval x0 = .int .i64 f) (h1 : a.eval x1 = .int .i64 t)
    (h : wpList Tryz.prog ops Q rest (a.put o.dst (.agg (ml ⟨f, t, 0⟩).toArray)) w) : wpList Tryz.prog ops Q (o :: rest) a w :=
  wpList_built hg _ _ ho _ (by
    have : ((#[(0, x0), (1, x1)] : Array (Nat × Operand)).map fun (i, x) => (i, a.eval x)).toList = [(0, .int .i64 f), (1, .int .i64 t)] := by simp [h0, h1]
    rw [this]; exact bt_mv2 f t) h
/-- One move as a slice. -/
theorem run_bslice_mv (m : Mv) (w : World) : (Instr.buildSlice 30 1 #[(0, .agg (ml m).toArray)]).run Tryz.prog w = .ok (.slice (some ⟨w.heap.size, 0, none⟩) 1 1) (w.alloc (.cells (ml m).toArray 35)) := by
  have hs : (sizeOf 35).run Tryz.prog w = .ok 3 w := by
    cases hq : Tryz.prog.info? 35 with
    | none => have := sizeM; simp [hq] at this
    | some i => have := sizeM; simp [hq] at this; simp [sizeOf, typeInfo, hq, this]
  have hf : Instr.fill (fun i => some (i * 3, 3)) (Array.map (fun x => [Value.int .i64 0, Value.int .i64 0, Value.int .i64 0][x % 3]?.getD default) (Array.range 3)) [(0, .agg (ml m).toArray)] = some (ml m).toArray := by obtain ⟨f, t, p⟩ := m; kernel_rfl
  have hz : ml Zm = [Value.int .i64 0, Value.int .i64 0, Value.int .i64 0] := rfl
  simp only [Instr.buildSlice, Sem.run_bind, run_underlying Tryz.underlying30, Result.andThen_ok, hs, run_zero_mv, Sem.run_pure, Value.cells]
  simp [run_zero_mv, newRow, hs, hz, hf]
theorem wpList_bslice_mv {ops : Array Oper} {rest : List Oper} {o : Oper} {a : Act} {w : World} {Q : Exit → Act → World → Prop} (hgd : o.guard = none) (x : Operand) (ho : o.op = .buildSlice 30 1 #[(0, x)])
    (m : Mv) (hx : a.eval x = .agg (ml m).toArray)
    (h : wpList Tryz.prog ops Q rest (a.put o.dst (.slice (some ⟨w.heap.size, 0, none⟩) 1 1)) (w.alloc (.cells (ml m).toArray 35))) : wpList Tryz.prog ops Q (o :: rest) a w := by
  refine wpList_plain hgd fun _ hK => ?_
  have hp : ((#[(0, x)] : Array (Nat × Operand)).map fun (i, x) => (i, a.eval x)) = #[(0, .agg (ml m).toArray)] := by simp [hx]
  unfold Oper.wp execOp
  simp only [ho, hp, Sem.run_bind, run_bslice_mv, Result.andThen_ok, Sem.run_pure]
  exact hK _ _ h
end Go.Proofs.YtkebpchhpidogaaGreatDoor
