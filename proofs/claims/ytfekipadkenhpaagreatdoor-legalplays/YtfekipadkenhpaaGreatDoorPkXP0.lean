/- BoG · PoA · GeL · LeJ · LeN: my texts, in their order. -/
import Derived.Test.YtfekipadkenhpaaGreatDoorPkXMPRFT0
import Derived.Test.YtfekipadkenhpaaGreatDoorPkXMPF0
import Derived.Test.YtfekipadkenhpaaGreatDoorPkXMPF1
import Derived.Test.YtfekipadkenhpaaGreatDoorPkXMPF2
import Derived.Test.YtfekipadkenhpaaGreatDoorPkXPRN0
import Derived.Test.YtfekipadkenhpaaGreatDoorPkXPR0
import Derived.Test.YtfekipadkenhpaaGreatDoorPkA
import Derived.Test.YtfekipadkenhpaaGreatDoorPkB
import Derived.Test.YtfekipadkenhpaaGreatDoorPkC
import Derived.Test.YtfekipadkenhpaaGreatDoorPkD
import Derived.Test.YtfekipadkenhpaaGreatDoorPkE
import Derived.Test.YtfekipadkenhpaaGreatDoorPkF
import Derived.Test.YtfekipadkenhpaaGreatDoorPkGa
import Derived.Test.YtfekipadkenhpaaGreatDoorPkGb
import Derived.Test.YtfekipadkenhpaaGreatDoorPkGc
import Derived.Test.YtfekipadkenhpaaGreatDoorPkGd
import Derived.Test.YtfekipadkenhpaaGreatDoorPkGe
import Derived.Test.YtfekipadkenhpaaGreatDoorPkGf
import Derived.Test.YtfekipadkenhpaaGreatDoorPkGg
import Derived.Test.YtfekipadkenhpaaGreatDoorPkGh
import Derived.Test.YtfekipadkenhpaaGreatDoorPkGj
import Derived.Test.YtfekipadkenhpaaGreatDoorPkH
import Derived.Test.YtfekipadkenhpaaGreatDoorPkI
import Derived.Test.YtfekipadkenhpaaGreatDoorPkJ
import Derived.Test.YtfekipadkenhpaaGreatDoorPkK
import Derived.Test.YtfekipadkenhpaaGreatDoorPkL
import Derived.Test.YtfekipadkenhpaaGreatDoorPkLa
import Derived.Test.YtfekipadkenhpaaGreatDoorPkLd
import Derived.Test.YtfekipadkenhpaaGreatDoorPkLe
import Derived.Test.YtfekipadkenhpaaGreatDoorPkLf
import Derived.Test.YtfekipadkenhpaaGreatDoorPkLg
import Derived.Test.YtfekipadkenhpaaGreatDoorPkLh
import Derived.Test.YtfekipadkenhpaaGreatDoorPkLk
import Derived.Test.YtfekipadkenhpaaGreatDoorPkLw
import Derived.Test.YtfekipadkenhpaaGreatDoorPkM
import Derived.Test.YtfekipadkenhpaaGreatDoorPkQ
import Derived.Test.YtfekipadkenhpaaGreatDoorPkR
import Derived.Laws.StructEq
namespace Go.Proofs.YtfekipadkenhpaaGreatDoor
open Go.RowKit
set_option linter.unusedVariables false
set_option linter.unusedSimpArgs false
set_option maxRecDepth 100000
theorem beqB_refl (A : List Int) : beqB A A = true := by unfold beqB; simp
/-- Two positions compared. -/
def beqP (p q : Ps) : Bool := beqB p.B q.B && (p.t == q.t) && (p.c == q.c) && (p.e == q.e)
theorem beqP_refl (p : Ps) : beqP p p = true := by simp [beqP, beqB_refl]
theorem fieldsP : (Tryz.prog.fieldsOf 26).toList.map (fun f => (f.name == "_", f.type, f.offset)) = [(false, 24, 0), (false, 3, 64), (false, 3, 65), (false, 3, 66)] := by kernel_rfl
theorem stoodP : Tryz.prog.stoodInHeld 26 = false := by kernel_rfl
theorem eqGuardP : Tryz.prog.eqGuardType Tryz.prog.depth 26 = false := by kernel_rfl
theorem run_part_b {p : Ps} (h : p.B.length = 64) (w : World) : (part 24 (pl p).toArray 0).run Tryz.prog w = .ok (.agg (cl p.B).toArray) w := by
 have hs : (sizeOf 24).run Tryz.prog w = .ok 64 w := by
  cases hq : Tryz.prog.info? 24 with
  | none => have := size24; simp [hq] at this
  | some i => have := size24; simp [hq] at this; simp [sizeOf, typeInfo, hq, this]
 have hl : (cl p.B).length = 64 := by rw [cl_length, h]
 simp only [part, isAgg, Sem.run_bind, run_underlying Tryz.underlying24, Result.andThen_ok, Sem.run_pure, if_true, hs]
 simp [pl, List.take_append, hl]
theorem run_part_i {p : Ps} (h : p.B.length = 64) (k : Nat) {x : Int} (hk : (tlP p)[k]? = some (.int .i64 x)) (w : World) : (part 3 (pl p).toArray (64 + k)).run Tryz.prog w = .ok (.int .i64 x) w := by
 have hl : (cl p.B).length = 64 := by rw [cl_length, h]
 have h2 : (pl p)[64 + k]? = some (.int .i64 x) := by
  unfold pl
  rw [List.getElem?_append_right (by omega), show 64 + k - (cl p.B).length = k by omega, hk]
 simp [part, isAgg, run_underlying Tryz.underlying3, h2]
theorem run_equal_p {p q : Ps} (hp : p.B.length = 64) (hq : q.B.length = 64) (w : World) :
  (Op.equalIn 10000 26 (.agg (pl p).toArray) (.agg (pl q).toArray)).run Tryz.prog w = .ok (beqP p q) w := by
 have hu : Tryz.prog.underlying 26 = some (.struct (Tryz.prog.fieldsOf 26)) := by kernel_rfl
 rw [run_equalIn_struct w 9999 _ _ _ hu stoodP]
 obtain ⟨f0, f1, f2, f3, hf, n0, t0, o0, n1, t1, o1, n2, t2, o2, n3, t3, o3⟩ : ∃ f0 f1 f2 f3, (Tryz.prog.fieldsOf 26).toList = [f0, f1, f2, f3] ∧ f0.name ≠ "_" ∧ f0.type = 24 ∧ f0.offset = 0 ∧
   f1.name ≠ "_" ∧ f1.type = 3 ∧ f1.offset = 64 ∧ f2.name ≠ "_" ∧ f2.type = 3 ∧ f2.offset = 65 ∧ f3.name ≠ "_" ∧ f3.type = 3 ∧ f3.offset = 66 := by
  have h := fieldsP
  generalize (Tryz.prog.fieldsOf 26).toList = fs at h
  have hl : fs.length = 4 := by simpa using congrArg List.length h
  match fs, hl with
  | [f0, f1, f2, f3], _ =>
   simp only [List.map_cons, List.map_nil, List.cons.injEq, Prod.mk.injEq, beq_eq_false_iff_ne, and_true] at h
   exact ⟨f0, f1, f2, f3, rfl, h.1.1, h.1.2.1, h.1.2.2, h.2.1.1, h.2.1.2.1, h.2.1.2.2, h.2.2.1.1, h.2.2.1.2.1, h.2.2.1.2.2, h.2.2.2.1, h.2.2.2.2.1, h.2.2.2.2.2⟩
 have i8 : ∀ a b : Int, (Op.equalIn 9999 3 (.int .i64 a) (.int .i64 b)).run Tryz.prog w = .ok (a == b) w := fun a b => run_equalIn_int w 9998 _ _ _ a b Tryz.underlying3
 have eb : (Op.equalIn 9999 24 (.agg (cl p.B).toArray) (.agg (cl q.B).toArray)).run Tryz.prog w = .ok (beqB p.B q.B) w := by
  obtain ⟨i, hi⟩ : ∃ i, Tryz.prog.info? 22 = some i := by
   cases hq : Tryz.prog.info? 22 with
   | none => have := info22; simp [hq] at this
   | some i => exact ⟨i, rfl⟩
  rw [run_equalIn_array w 9998 _ _ Tryz.underlying24 hi, cells22]
  exact run_eqItems_cl 9997 p.B q.B hp hq w _ (fun i hi => by simpa using hi)
 have a1 := run_part_i hp 0 (show (tlP p)[0]? = some (.int .i64 p.t) from rfl) w
 have a2 := run_part_i hp 1 (show (tlP p)[1]? = some (.int .i64 p.c) from rfl) w
 have a3 := run_part_i hp 2 (show (tlP p)[2]? = some (.int .i64 p.e) from rfl) w
 have b1 := run_part_i hq 0 (show (tlP q)[0]? = some (.int .i64 q.t) from rfl) w
 have b2 := run_part_i hq 1 (show (tlP q)[1]? = some (.int .i64 q.c) from rfl) w
 have b3 := run_part_i hq 2 (show (tlP q)[2]? = some (.int .i64 q.e) from rfl) w
 rw [hf]
 unfold beqP
 rw [Op.eqFields, if_pos n0]
 simp only [Sem.run_bind, t0, o0, run_part_b hp, run_part_b hq, Result.andThen_ok, eb]
 cases beqB p.B q.B
 ·simp
 ·simp only [Bool.not_true, Bool.false_eq_true, if_false, Bool.true_and]
  rw [Op.eqFields, if_pos n1]
  simp only [Sem.run_bind, t1, o1, a1, b1, Result.andThen_ok, i8]
  cases p.t == q.t
  ·simp
  ·simp only [Bool.not_true, Bool.false_eq_true, if_false, Bool.true_and]
   rw [Op.eqFields, if_pos n2]
   simp only [Sem.run_bind, t2, o2, a2, b2, Result.andThen_ok, i8]
   cases p.c == q.c
   ·simp
   ·simp only [Bool.not_true, Bool.false_eq_true, if_false, Bool.true_and]
    rw [Op.eqFields, if_pos n3]
    simp only [Sem.run_bind, t3, o3, a3, b3, Result.andThen_ok, i8]
    cases p.e == q.e
    ·simp
    ·simp [Op.eqFields]
theorem run_eql_p {p q : Ps} (hp : p.B.length = 64) (hq : q.B.length = 64) (w : World) : (binOp .eql 26 (.agg (pl p).toArray) (.agg (pl q).toArray)).run Tryz.prog w = .ok (.bool (beqP p q)) w := by
 rw [run_eql_struct, run_equal_p hp hq]; rfl
theorem take_eql_p {ops : Array Oper} {S : World → Prop} {op : Oper} {a : Act} {b : Bool} (hw : Region.wanted op (yielded ops a.tmps) = true) (x y : Operand) (ty : TypeId) (ho : op.op = .binOp .eql 26 x y ty)
  (p q : Ps) (hx : a.eval x = .agg (pl p).toArray) (hy : a.eval y = .agg (pl q).toArray) (h : p.B.length = 64 ∧ q.B.length = 64 ∧ beqP p q = b) : YieldsIf Tryz.prog ops S op (.bool b) a :=
 .inl ⟨hw, fun w _ => by
  unfold execOp
  simp only [ho, hx, hy, Sem.run_bind, run_eqGuard_agg w _ _ _ _ _ _ eqGuardP, run_eql_p h.1 h.2.1, Result.andThen_ok, Sem.run_pure, h.2.2]⟩
theorem wpList_eql_p {ops : Array Oper} {rest : List Oper} {o : Oper} {a : Act} {w : World} {Q : Exit → Act → World → Prop} {b : Bool} (hw : Region.wanted o (yielded ops a.tmps) = true) (x y : Operand) (ty : TypeId) (ho : o.op = .binOp .eql 26 x y ty)
  (p q : Ps) (hx : a.eval x = .agg (pl p).toArray) (hy : a.eval y = .agg (pl q).toArray) (h : p.B.length = 64 ∧ q.B.length = 64 ∧ beqP p q = b)
  (hk : wpList Tryz.prog ops Q rest (a.put o.dst (.bool b)) w) : wpList Tryz.prog ops Q (o :: rest) a w :=
 wpList_step fun _ hK => by
  rw [if_pos hw]
  unfold Oper.wp execOp
  simp only [ho, hx, hy, Sem.run_bind, run_eqGuard_agg w _ _ _ _ _ _ eqGuardP, run_eql_p h.1 h.2.1, Result.andThen_ok, Sem.run_pure, h.2.2, Oper.upon_value]
  exact hK _ _ hk
theorem rgoes_is (p : Ps) (hB : Brd p.B) (hr : pwI p = 0) (m : Mv) (w : World) : Calls Tryz.prog 47 #[.agg (pl p).toArray, .agg (ml m).toArray] w fun e w' => e = .returned (.bool (goesM p m)) ∧ Kept w w' := by
 have HP : Hid (PAt _ _ p) := ⟨hB.1, heap_alloc2_old w (.cells (pl p).toArray 26) (.cells (ml m).toArray 36)⟩
 have HM : Hid (MAt _ _ m) := ⟨heap_alloc2_new w (.cells (pl p).toArray 26) (.cells (ml m).toArray 36)⟩
 have HK0 := Lib.hid (((Kept.refl w).alloc (.cells (pl p).toArray 26)).alloc (.cells (ml m).toArray 36))
 have HFo := Lib.hid (fun w => rformed_is p hB (right_t hr).1 m w)
 cases hf : formB p m
 ·rw [hf] at HFo
  have HV := Lib.hid (goes_not hf)
  clear hB hr hf
  go_enter Tryz.func47, Tryz.ntmps47
  go_wp2_with (first | (refine wpList_load_ps (by rfl) _ rfl _ rfl _ (HP.out) ?_) | (refine wpList_load_pb (by rfl) _ rfl _ rfl _ (HP.out) ?_) | (refine wpList_load_mv (by rfl) _ rfl _ rfl _ (HM.out) ?_))
  refine (HFo.out _).mono ?_
  rintro e w1 ⟨rfl, k1⟩
  have HK1 := Lib.hid (HK0.out.trans k1)
  clear k1
  go_wp2
  go_ret
  exact ⟨by rw [HV.out]; rfl, HK1.out⟩
 ·rw [hf] at HFo
  obtain ⟨f, t, F⟩ := form_of hB (show okM p m = true by unfold okM; rw [hr, hf]; rfl)
  have HPw := Lib.hid (fun w => rpawn_is p.B hB f F.f1 w)
  cases hk : (kindI (p.B.getD f 0) == 1)
  ·rw [hk] at HPw
   have HH := Lib.hid (fun w => hits_is p.B hB f F.f1 (t : Int) w)
   have HRt := Lib.hid (fun w => rightR_is p hB (right_t hr).2.1.1 (right_t hr).2.1.2 (right_pos hr).2.2.2.1 m f t F.hf F.ht F.f1 F.t1 w)
   have hgt := right_gt (p := p) (m := m)
   have hV := goes_man hf (by rw [F.pb, hk])
   rw [← hgt, F.hf, F.ht] at hV
   have HV := Lib.hid hV
   have hcf := HM.out.f
   have hct := HM.out.t
   rw [F.hf] at hcf
   rw [F.ht] at hct
   generalize hitB p.B (f : Int) (t : Int) = hb at *
   generalize hR (castN p m) = x at *
   have hcT := Lib.hid hct
   clear hB hr hf hk F hgt hV hct
   cases hb
   ·go_enter Tryz.func47, Tryz.ntmps47
    go_wp2_with (first | (refine wpList_load_ps (by rfl) _ rfl _ rfl _ (HP.out) ?_) | (refine wpList_load_pb (by rfl) _ rfl _ rfl _ (HP.out) ?_) | (refine wpList_load_mv (by rfl) _ rfl _ rfl _ (HM.out) ?_))
    refine (HFo.out _).mono ?_
    rintro e w1 ⟨rfl, k1⟩
    have HK1 := Lib.hid (HK0.out.trans k1)
    have HP1 := Lib.hid (HP.out.kept k1)
    have HM1 := Lib.hid (MAt.kept HM.out k1)
    have hcf1 := kept_cell k1 hcf
    have hct1 := kept_cell k1 hcT.out
    clear k1 hcf
    go_wp2_with (first | (refine wpList_load_ps (by rfl) _ rfl _ rfl _ (HP1.out) ?_) | (refine wpList_load_pb (by rfl) _ rfl _ rfl _ (HP1.out) ?_) | (refine wpList_load_mv (by rfl) _ rfl _ rfl _ (HM1.out) ?_))
    refine (HPw.out _).mono ?_
    rintro e w2 ⟨rfl, k2⟩
    have HK2 := Lib.hid (HK1.out.trans k2)
    have HP2 := Lib.hid (HP1.out.kept k2)
    have HM2 := Lib.hid (MAt.kept HM1.out k2)
    have hcf2 := kept_cell k2 hcf1
    have hct2 := kept_cell k2 hct1
    clear k2 hcf1 hct1
    go_wp2_with (first | (refine wpList_load_ps (by rfl) _ rfl _ rfl _ (HP2.out) ?_) | (refine wpList_load_pb (by rfl) _ rfl _ rfl _ (HP2.out) ?_) | (refine wpList_load_mv (by rfl) _ rfl _ rfl _ (HM2.out) ?_))
    refine (HH.out _).mono ?_
    rintro e w3 ⟨rfl, k3⟩
    have HK3 := Lib.hid (HK2.out.trans k3)
    have HP3 := Lib.hid (HP2.out.kept k3)
    have HM3 := Lib.hid (MAt.kept HM2.out k3)
    clear k3 hcf2 hct2
    go_wp2_with (first | (refine wpList_load_ps (by rfl) _ rfl _ rfl _ (HP3.out) ?_) | (refine wpList_load_pb (by rfl) _ rfl _ rfl _ (HP3.out) ?_) | (refine wpList_load_mv (by rfl) _ rfl _ rfl _ (HM3.out) ?_))
    refine (HRt.out _).mono ?_
    rintro e w4 ⟨rfl, k4⟩
    have HK4 := Lib.hid (HK3.out.trans k4)
    clear k4
    go_wp2
    go_ret
    exact ⟨by rw [HV.out]; rfl, HK4.out⟩
   ·go_enter Tryz.func47, Tryz.ntmps47
    go_wp2_with (first | (refine wpList_load_ps (by rfl) _ rfl _ rfl _ (HP.out) ?_) | (refine wpList_load_pb (by rfl) _ rfl _ rfl _ (HP.out) ?_) | (refine wpList_load_mv (by rfl) _ rfl _ rfl _ (HM.out) ?_))
    refine (HFo.out _).mono ?_
    rintro e w1 ⟨rfl, k1⟩
    have HK1 := Lib.hid (HK0.out.trans k1)
    have HP1 := Lib.hid (HP.out.kept k1)
    have HM1 := Lib.hid (MAt.kept HM.out k1)
    have hcf1 := kept_cell k1 hcf
    have hct1 := kept_cell k1 hcT.out
    clear k1 hcf
    go_wp2_with (first | (refine wpList_load_ps (by rfl) _ rfl _ rfl _ (HP1.out) ?_) | (refine wpList_load_pb (by rfl) _ rfl _ rfl _ (HP1.out) ?_) | (refine wpList_load_mv (by rfl) _ rfl _ rfl _ (HM1.out) ?_))
    refine (HPw.out _).mono ?_
    rintro e w2 ⟨rfl, k2⟩
    have HK2 := Lib.hid (HK1.out.trans k2)
    have HP2 := Lib.hid (HP1.out.kept k2)
    have HM2 := Lib.hid (MAt.kept HM1.out k2)
    have hcf2 := kept_cell k2 hcf1
    have hct2 := kept_cell k2 hct1
    clear k2 hcf1 hct1
    go_wp2_with (first | (refine wpList_load_ps (by rfl) _ rfl _ rfl _ (HP2.out) ?_) | (refine wpList_load_pb (by rfl) _ rfl _ rfl _ (HP2.out) ?_) | (refine wpList_load_mv (by rfl) _ rfl _ rfl _ (HM2.out) ?_))
    refine (HH.out _).mono ?_
    rintro e w3 ⟨rfl, k3⟩
    have HK3 := Lib.hid (HK2.out.trans k3)
    clear k3 hcf2 hct2
    go_wp2
    go_ret
    exact ⟨by rw [HV.out]; rfl, HK3.out⟩
  ·rw [hk] at HPw
   have HG := Lib.hid (fun w => rpgo_is p m f t (F.pf (beq_iff_eq.1 hk)) w)
   have HV := Lib.hid (goes_pawn hf (by rw [F.pb, hk]))
   have hcf := HM.out.f
   rw [F.hf] at hcf
   generalize pgoB p m = b at *
   clear hB hr hf hk F
   go_enter Tryz.func47, Tryz.ntmps47
   go_wp2_with (first | (refine wpList_load_ps (by rfl) _ rfl _ rfl _ (HP.out) ?_) | (refine wpList_load_pb (by rfl) _ rfl _ rfl _ (HP.out) ?_) | (refine wpList_load_mv (by rfl) _ rfl _ rfl _ (HM.out) ?_))
   refine (HFo.out _).mono ?_
   rintro e w1 ⟨rfl, k1⟩
   have HK1 := Lib.hid (HK0.out.trans k1)
   have HP1 := Lib.hid (HP.out.kept k1)
   have HM1 := Lib.hid (MAt.kept HM.out k1)
   have hcf1 := kept_cell k1 hcf
   clear k1 hcf
   go_wp2_with (first | (refine wpList_load_ps (by rfl) _ rfl _ rfl _ (HP1.out) ?_) | (refine wpList_load_pb (by rfl) _ rfl _ rfl _ (HP1.out) ?_) | (refine wpList_load_mv (by rfl) _ rfl _ rfl _ (HM1.out) ?_))
   refine (HPw.out _).mono ?_
   rintro e w2 ⟨rfl, k2⟩
   have HK2 := Lib.hid (HK1.out.trans k2)
   have HP2 := Lib.hid (HP1.out.kept k2)
   have HM2 := Lib.hid (MAt.kept HM1.out k2)
   clear k2 hcf1
   go_wp2_with (first | (refine wpList_load_ps (by rfl) _ rfl _ rfl _ (HP2.out) ?_) | (refine wpList_load_pb (by rfl) _ rfl _ rfl _ (HP2.out) ?_) | (refine wpList_load_mv (by rfl) _ rfl _ rfl _ (HM2.out) ?_))
   refine (HG.out _).mono ?_
   rintro e w3 ⟨rfl, k3⟩
   have HK3 := Lib.hid (HK2.out.trans k3)
   clear k3
   go_wp2
   go_ret
   exact ⟨by rw [HV.out]; rfl, HK3.out⟩
theorem rlegal_is (p : Ps) (hB : Brd p.B) (hr : pwI p = 0) (m : Mv) (w : World) :
  Calls Tryz.prog 22 #[.agg (pl p).toArray, .agg (ml m).toArray] w fun e w' => e = .returned (.bool (legB p m)) ∧ Kept w w' := by
 have HP : Hid (PAt _ _ p) := ⟨hB.1, heap_alloc2_old w (.cells (pl p).toArray 26) (.cells (ml m).toArray 36)⟩
 have HM : Hid (MAt _ _ m) := ⟨heap_alloc2_new w (.cells (pl p).toArray 26) (.cells (ml m).toArray 36)⟩
 have HK0 := Lib.hid (((Kept.refl w).alloc (.cells (pl p).toArray 26)).alloc (.cells (ml m).toArray 36))
 have HG := Lib.hid (fun w => rgoes_is p hB hr m w)
 have HS := Lib.hid (fun (hg : goesM p m = true) w => rstays_is p hB hr m hg w)
 cases hg : goesM p m
 ·have HV : Hid (legB p m = false) := by show _ = _; unfold legB; rw [hg]; rfl
  rw [hg] at HG
  clear hB hr hg HS
  go_enter Tryz.func22, Tryz.ntmps22
  go_wp2_with (first | (refine wpList_load_ps (by rfl) _ rfl _ rfl _ (HP.out) ?_) | (refine wpList_load_pb (by rfl) _ rfl _ rfl _ (HP.out) ?_) | (refine wpList_load_mv (by rfl) _ rfl _ rfl _ (HM.out) ?_))
  refine (HG.out _).mono ?_
  rintro e w1 ⟨rfl, k1⟩
  have HK1 := Lib.hid (HK0.out.trans k1)
  clear k1
  go_wp2
  go_ret
  exact ⟨by rw [HV.out]; rfl, HK1.out⟩
 ·have HV : Hid (legB p m = stayB p m) := by show _ = _; unfold legB; rw [hg]; rfl
  have HS1 := Lib.hid (HS.out hg)
  rw [hg] at HG
  clear hB hr hg HS
  generalize stayB p m = sb at *
  go_enter Tryz.func22, Tryz.ntmps22
  go_wp2_with (first | (refine wpList_load_ps (by rfl) _ rfl _ rfl _ (HP.out) ?_) | (refine wpList_load_pb (by rfl) _ rfl _ rfl _ (HP.out) ?_) | (refine wpList_load_mv (by rfl) _ rfl _ rfl _ (HM.out) ?_))
  refine (HG.out _).mono ?_
  rintro e w1 ⟨rfl, k1⟩
  have HK1 := Lib.hid (HK0.out.trans k1)
  have HP1 := Lib.hid (HP.out.kept k1)
  have HM1 := Lib.hid (MAt.kept HM.out k1)
  clear k1
  go_wp2_with (first | (refine wpList_load_ps (by rfl) _ rfl _ rfl _ (HP1.out) ?_) | (refine wpList_load_pb (by rfl) _ rfl _ rfl _ (HP1.out) ?_) | (refine wpList_load_mv (by rfl) _ rfl _ rfl _ (HM1.out) ?_))
  refine (HS1.out _).mono ?_
  rintro e w2 ⟨rfl, k2⟩
  have HK2 := Lib.hid (HK1.out.trans k2)
  clear k2
  go_wp2
  go_ret
  exact ⟨by rw [HV.out]; rfl, HK2.out⟩
set_option maxHeartbeats 4000000 in
theorem plays_wrong (p : Ps) (hB : Brd p.B) (m : Mv) (h : pwI p ≠ 0) (w : World) (hT : TabG w) :
  Calls Tryz.prog 4 #[.agg (pl p).toArray, .agg (ml m).toArray] w fun e w' => e = .returned (.bool true) ∧ Kept w w' := by
 have HP : Hid (PAt _ _ p) := ⟨hB.1, heap_alloc2_old w (.cells (pl p).toArray 26) (.cells (ml m).toArray 36)⟩
 have HM : Hid (MAt _ _ m) := ⟨heap_alloc2_new w (.cells (pl p).toArray 26) (.cells (ml m).toArray 36)⟩
 have HK0 := Lib.hid (((Kept.refl w).alloc (.cells (pl p).toArray 26)).alloc (.cells (ml m).toArray 36))
 have HT := Lib.hid (hT.kept HK0.out)
 have hpl : Hid (p.B.length = 64) := hB.1
 have HPl := Lib.hid (fun r g a b w hT hR => play_is r g a b p hB m w hT hR)
 have HLg := Lib.hid (fun r g a b w hT hR => legal_is r g a b p hB m w hT hR)
 have HWr := Lib.hid (fun w => rpwrong_is p hB w)
 have hP : playP p m = Zp := by unfold playP; rw [if_pos h]
 have hE : playE p m = pwI p := by unfold playE; rw [if_pos h]
 have hA : legA p m = false := by unfold legA; rw [show (pwI p == 0) = false from beq_eq_false_iff_ne.2 h]; rfl
 rw [hP, hE] at HPl
 rw [hA] at HLg
 have hql : Hid (Zp.B.length = 64) := Zp_len
 have hv : (pwI p != 0) = true := bne_iff_ne.2 h
 generalize pwI p = v at *
 clear hB hT h hP hE hA
 go_enter Tryz.func4, Tryz.ntmps4
 go_wp2_with fail
 refine (legal_wake _ HT.out).mono ?_
 rintro e w1 ⟨rfl, k1⟩
 have HK1 := Lib.hid (HK0.out.trans k1)
 have HP1 := Lib.hid (HP.out.kept k1)
 have HM1 := Lib.hid (MAt.kept HM.out k1)
 have HT1 := Lib.hid (HT.out.kept k1)
 clear k1
 go_wp2_with fail
 refine (rnew_is _).mono ?_
 rintro e w2 ⟨r, g, a, b, rfl, hR, k1⟩
 have HK2 := Lib.hid (HK1.out.trans k1)
 have HP2 := Lib.hid (HP1.out.kept k1)
 have HM2 := Lib.hid (MAt.kept HM1.out k1)
 have HT2 := Lib.hid (HT1.out.kept k1)
 have HR2 := Lib.hid hR
 clear k1 hR
 go_wp2_with (first | (refine wpList_load_ps (by rfl) _ rfl _ rfl _ (HP2.out) ?_) | (refine wpList_load_pb (by rfl) _ rfl _ rfl _ (HP2.out) ?_) | (refine wpList_load_mv (by rfl) _ rfl _ rfl _ (HM2.out) ?_))
 refine (HPl.out r g a b _ HT2.out HR2.out).mono ?_
 rintro e w3 ⟨rfl, k3⟩
 have KA := Lib.hid (k3.alloc (.cells (pl Zp).toArray 26))
 have HK3 := Lib.hid (HK2.out.trans KA.out)
 have HP3 := Lib.hid (HP2.out.kept KA.out)
 have HM3 := Lib.hid (MAt.kept HM2.out KA.out)
 have HT3 := Lib.hid (HT2.out.kept KA.out)
 have HR3 := Lib.hid (HR2.out.kept KA.out)
 have HQ3 := Lib.hid (PAt.new w3 hql.out)
 clear k3 KA
 go_wp2_with (first | (with_reducible refine wpList_new_p rfl rfl ?_) | ((with_reducible refine wpList_store_newp rfl _ _ rfl Zp Zp Zp_len hql.out ?_ ?_ ?_); exact rfl; exact rfl) | (refine wpList_load_ps (by rfl) _ rfl _ rfl _ HP3.out ?_))
 generalize w3.alloc (.cells (pl Zp).toArray 26) = W3 at *
 generalize w3.heap.size = gq at *
 refine (HWr.out _).mono ?_
 rintro e w4 ⟨rfl, k4⟩
 have HK4 := Lib.hid (HK3.out.trans k4)
 have HP4 := Lib.hid (HP3.out.kept k4)
 have HM4 := Lib.hid (MAt.kept HM3.out k4)
 have HT4 := Lib.hid (HT3.out.kept k4)
 have HR4 := Lib.hid (HR3.out.kept k4)
 have HQ4 := Lib.hid (HQ3.out.kept k4)
 clear k4
 go_wp2_with (first | (refine wpList_load_ps (by rfl) _ rfl _ rfl _ HQ4.out ?_) | (refine wpList_load_ps (by rfl) _ rfl _ rfl _ HP4.out ?_) | (refine wpList_load_mv (by rfl) _ rfl _ rfl _ HM4.out ?_) | (refine wpList_built_p0 (by rfl) rfl ?_) | (refine wpList_eql_p (by rfl) _ _ _ rfl Zp Zp rfl rfl ⟨Zp_len, Zp_len, beqP_refl _⟩ ?_))
 refine (HLg.out r g a b _ HT4.out HR4.out).mono ?_
 rintro e w9 ⟨rfl, k9⟩
 have HK9 := Lib.hid (HK4.out.trans k9)
 clear k9
 go_wp2
 go_ret
 exact ⟨rfl, HK9.out⟩
set_option maxHeartbeats 4000000 in
theorem plays_no (p : Ps) (hB : Brd p.B) (m : Mv) (h : pwI p = 0) (hl : legB p m = false) (w : World) (hT : TabG w) :
  Calls Tryz.prog 4 #[.agg (pl p).toArray, .agg (ml m).toArray] w fun e w' => e = .returned (.bool true) ∧ Kept w w' := by
 have HP : Hid (PAt _ _ p) := ⟨hB.1, heap_alloc2_old w (.cells (pl p).toArray 26) (.cells (ml m).toArray 36)⟩
 have HM : Hid (MAt _ _ m) := ⟨heap_alloc2_new w (.cells (pl p).toArray 26) (.cells (ml m).toArray 36)⟩
 have HK0 := Lib.hid (((Kept.refl w).alloc (.cells (pl p).toArray 26)).alloc (.cells (ml m).toArray 36))
 have HT := Lib.hid (hT.kept HK0.out)
 have hpl : Hid (p.B.length = 64) := hB.1
 have HPl := Lib.hid (fun r g a b w hT hR => play_is r g a b p hB m w hT hR)
 have HLg := Lib.hid (fun r g a b w hT hR => legal_is r g a b p hB m w hT hR)
 have HWr := Lib.hid (fun w => rpwrong_is p hB w)
 have hP : playP p m = Zp := by rw [playP_in h, hl]; rfl
 have hE : playE p m = 5 := by rw [playE_in h, hl]; rfl
 have hA : legA p m = false := by unfold legA; rw [hl, Bool.and_false]
 have HRl := Lib.hid (fun w => rlegal_is p hB h m w)
 rw [hP, hE] at HPl
 rw [hA] at HLg
 rw [hl] at HRl
 rw [h] at HWr
 have hql : Hid (Zp.B.length = 64) := Zp_len
 clear hB hT h hP hE hA hl
 go_enter Tryz.func4, Tryz.ntmps4
 go_wp2_with fail
 refine (legal_wake _ HT.out).mono ?_
 rintro e w1 ⟨rfl, k1⟩
 have HK1 := Lib.hid (HK0.out.trans k1)
 have HP1 := Lib.hid (HP.out.kept k1)
 have HM1 := Lib.hid (MAt.kept HM.out k1)
 have HT1 := Lib.hid (HT.out.kept k1)
 clear k1
 go_wp2_with fail
 refine (rnew_is _).mono ?_
 rintro e w2 ⟨r, g, a, b, rfl, hR, k1⟩
 have HK2 := Lib.hid (HK1.out.trans k1)
 have HP2 := Lib.hid (HP1.out.kept k1)
 have HM2 := Lib.hid (MAt.kept HM1.out k1)
 have HT2 := Lib.hid (HT1.out.kept k1)
 have HR2 := Lib.hid hR
 clear k1 hR
 go_wp2_with (first | (refine wpList_load_ps (by rfl) _ rfl _ rfl _ (HP2.out) ?_) | (refine wpList_load_pb (by rfl) _ rfl _ rfl _ (HP2.out) ?_) | (refine wpList_load_mv (by rfl) _ rfl _ rfl _ (HM2.out) ?_))
 refine (HPl.out r g a b _ HT2.out HR2.out).mono ?_
 rintro e w3 ⟨rfl, k3⟩
 have KA := Lib.hid (k3.alloc (.cells (pl Zp).toArray 26))
 have HK3 := Lib.hid (HK2.out.trans KA.out)
 have HP3 := Lib.hid (HP2.out.kept KA.out)
 have HM3 := Lib.hid (MAt.kept HM2.out KA.out)
 have HT3 := Lib.hid (HT2.out.kept KA.out)
 have HR3 := Lib.hid (HR2.out.kept KA.out)
 have HQ3 := Lib.hid (PAt.new w3 hql.out)
 clear k3 KA
 go_wp2_with (first | (with_reducible refine wpList_new_p rfl rfl ?_) | ((with_reducible refine wpList_store_newp rfl _ _ rfl Zp Zp Zp_len hql.out ?_ ?_ ?_); exact rfl; exact rfl) | (refine wpList_load_ps (by rfl) _ rfl _ rfl _ HP3.out ?_))
 generalize w3.alloc (.cells (pl Zp).toArray 26) = W3 at *
 generalize w3.heap.size = gq at *
 refine (HWr.out _).mono ?_
 rintro e w4 ⟨rfl, k4⟩
 have HK4 := Lib.hid (HK3.out.trans k4)
 have HP4 := Lib.hid (HP3.out.kept k4)
 have HM4 := Lib.hid (MAt.kept HM3.out k4)
 have HT4 := Lib.hid (HT3.out.kept k4)
 have HR4 := Lib.hid (HR3.out.kept k4)
 have HQ4 := Lib.hid (HQ3.out.kept k4)
 clear k4
 go_wp2_with (first | (refine wpList_load_ps (by rfl) _ rfl _ rfl _ (HP4.out) ?_) | (refine wpList_load_pb (by rfl) _ rfl _ rfl _ (HP4.out) ?_) | (refine wpList_load_mv (by rfl) _ rfl _ rfl _ (HM4.out) ?_))
 refine (HRl.out _).mono ?_
 rintro e w5 ⟨rfl, k5⟩
 have HK5 := Lib.hid (HK4.out.trans k5)
 have HP5 := Lib.hid (HP4.out.kept k5)
 have HM5 := Lib.hid (MAt.kept HM4.out k5)
 have HT5 := Lib.hid (HT4.out.kept k5)
 have HR5 := Lib.hid (HR4.out.kept k5)
 have HQ5 := Lib.hid (HQ4.out.kept k5)
 clear k5
 go_wp2_with (first | (refine wpList_load_ps (by rfl) _ rfl _ rfl _ HQ5.out ?_) | (refine wpList_load_ps (by rfl) _ rfl _ rfl _ HP5.out ?_) | (refine wpList_load_mv (by rfl) _ rfl _ rfl _ HM5.out ?_) | (refine wpList_built_p0 (by rfl) rfl ?_) | (refine wpList_eql_p (by rfl) _ _ _ rfl Zp Zp rfl rfl ⟨Zp_len, Zp_len, beqP_refl _⟩ ?_))
 refine (HLg.out r g a b _ HT5.out HR5.out).mono ?_
 rintro e w9 ⟨rfl, k9⟩
 have HK9 := Lib.hid (HK5.out.trans k9)
 clear k9
 go_wp2
 go_ret
 exact ⟨rfl, HK9.out⟩
set_option maxHeartbeats 4000000 in
theorem plays_yes (p : Ps) (hB : Brd p.B) (m : Mv) (h : pwI p = 0) (hl : legB p m = true) (w : World) (hT : TabG w) :
  Calls Tryz.prog 4 #[.agg (pl p).toArray, .agg (ml m).toArray] w fun e w' => e = .returned (.bool true) ∧ Kept w w' := by
 have HP : Hid (PAt _ _ p) := ⟨hB.1, heap_alloc2_old w (.cells (pl p).toArray 26) (.cells (ml m).toArray 36)⟩
 have HM : Hid (MAt _ _ m) := ⟨heap_alloc2_new w (.cells (pl p).toArray 26) (.cells (ml m).toArray 36)⟩
 have HK0 := Lib.hid (((Kept.refl w).alloc (.cells (pl p).toArray 26)).alloc (.cells (ml m).toArray 36))
 have HT := Lib.hid (hT.kept HK0.out)
 have hpl : Hid (p.B.length = 64) := hB.1
 have HPl := Lib.hid (fun r g a b w hT hR => play_is r g a b p hB m w hT hR)
 have HLg := Lib.hid (fun r g a b w hT hR => legal_is r g a b p hB m w hT hR)
 have HWr := Lib.hid (fun w => rpwrong_is p hB w)
 have hP : playP p m = behP p m := by rw [playP_in h, hl]; rfl
 have hE : playE p m = 0 := by rw [playE_in h, hl]; rfl
 have hA : legA p m = true := by unfold legA; rw [hl, h]; rfl
 obtain ⟨hqr, hqb, hok⟩ := leg_right hB h hl
 obtain ⟨f, t, F⟩ := form_of hB hok
 obtain ⟨t01, ⟨c0, c1⟩, _⟩ := right_t h
 have HBe : Hid (∀ w, Calls Tryz.prog 23 #[.agg (pl p).toArray, .agg (ml m).toArray] w (RetP w (behP p m))) := fun w => by have := behind_is p hB t01 c0 c1 (right_pos h).2.2.2.1 m (okM_on hok) F.prm f t F.hf F.ht w; rw [behP_eq F] at this; exact this
 have HRl := Lib.hid (fun w => rlegal_is p hB h m w)
 have HPw := Lib.hid (fun w hw => pwrong_is (behP p m) hqb w hw)
 rw [hP, hE] at HPl
 rw [hA] at HLg
 rw [hl] at HRl
 rw [h] at HWr
 rw [hqr] at HPw
 have hql : Hid ((behP p m).B.length = 64) := hqb.1
 clear hB hT h hP hE hA hl hqr hqb hok F t01 c0 c1
 generalize behP p m = q at *
 go_enter Tryz.func4, Tryz.ntmps4
 go_wp2_with fail
 refine (legal_wake _ HT.out).mono ?_
 rintro e w1 ⟨rfl, k1⟩
 have HK1 := Lib.hid (HK0.out.trans k1)
 have HP1 := Lib.hid (HP.out.kept k1)
 have HM1 := Lib.hid (MAt.kept HM.out k1)
 have HT1 := Lib.hid (HT.out.kept k1)
 clear k1
 go_wp2_with fail
 refine (rnew_is _).mono ?_
 rintro e w2 ⟨r, g, a, b, rfl, hR, k1⟩
 have HK2 := Lib.hid (HK1.out.trans k1)
 have HP2 := Lib.hid (HP1.out.kept k1)
 have HM2 := Lib.hid (MAt.kept HM1.out k1)
 have HT2 := Lib.hid (HT1.out.kept k1)
 have HR2 := Lib.hid hR
 clear k1 hR
 go_wp2_with (first | (refine wpList_load_ps (by rfl) _ rfl _ rfl _ (HP2.out) ?_) | (refine wpList_load_pb (by rfl) _ rfl _ rfl _ (HP2.out) ?_) | (refine wpList_load_mv (by rfl) _ rfl _ rfl _ (HM2.out) ?_))
 refine (HPl.out r g a b _ HT2.out HR2.out).mono ?_
 rintro e w3 ⟨rfl, k3⟩
 have KA := Lib.hid (k3.alloc (.cells (pl q).toArray 26))
 have HK3 := Lib.hid (HK2.out.trans KA.out)
 have HP3 := Lib.hid (HP2.out.kept KA.out)
 have HM3 := Lib.hid (MAt.kept HM2.out KA.out)
 have HT3 := Lib.hid (HT2.out.kept KA.out)
 have HR3 := Lib.hid (HR2.out.kept KA.out)
 have HQ3 := Lib.hid (PAt.new w3 hql.out)
 clear k3 KA
 go_wp2_with (first | (with_reducible refine wpList_new_p rfl rfl ?_) | ((with_reducible refine wpList_store_newp rfl _ _ rfl Zp q Zp_len hql.out ?_ ?_ ?_); exact rfl; exact rfl) | (refine wpList_load_ps (by rfl) _ rfl _ rfl _ HP3.out ?_))
 generalize w3.alloc (.cells (pl q).toArray 26) = W3 at *
 generalize w3.heap.size = gq at *
 refine (HWr.out _).mono ?_
 rintro e w4 ⟨rfl, k4⟩
 have HK4 := Lib.hid (HK3.out.trans k4)
 have HP4 := Lib.hid (HP3.out.kept k4)
 have HM4 := Lib.hid (MAt.kept HM3.out k4)
 have HT4 := Lib.hid (HT3.out.kept k4)
 have HR4 := Lib.hid (HR3.out.kept k4)
 have HQ4 := Lib.hid (HQ3.out.kept k4)
 clear k4
 go_wp2_with (first | (refine wpList_load_ps (by rfl) _ rfl _ rfl _ (HP4.out) ?_) | (refine wpList_load_pb (by rfl) _ rfl _ rfl _ (HP4.out) ?_) | (refine wpList_load_mv (by rfl) _ rfl _ rfl _ (HM4.out) ?_))
 refine (HRl.out _).mono ?_
 rintro e w5 ⟨rfl, k5⟩
 have HK5 := Lib.hid (HK4.out.trans k5)
 have HP5 := Lib.hid (HP4.out.kept k5)
 have HM5 := Lib.hid (MAt.kept HM4.out k5)
 have HT5 := Lib.hid (HT4.out.kept k5)
 have HR5 := Lib.hid (HR4.out.kept k5)
 have HQ5 := Lib.hid (HQ4.out.kept k5)
 clear k5
 go_wp2
 refine wp_region_held_drew (S := Kept _) (by kernel_rfl) (Kept.refl _).drew (fun hHeld => ?_)
 refine rT 0 56 (.int .i64 0) rfl rfl hHeld ?_
 simp only [Act.put, sA, sZ, sU]
 refine rT 1 57 (.bool true) rfl rfl hHeld ?_
 simp only [pA, pN, sZ, sU]
 refine rT 2 58 (.bool true) rfl rfl hHeld ?_
 simp only [pA, pN, sZ, sU]
 refine rY 3 59 rfl rfl (take_load_ps (by rfl) _ rfl _ rfl q hql.out (fun _ h => (HQ5.out).kept h)) hHeld ?_
 simp only [pA, pN, sZ, sU]
 refine rY 4 60 rfl rfl (take_load_ps (by rfl) _ rfl _ rfl p hpl.out (fun _ h => (HP5.out).kept h)) hHeld ?_
 simp only [pA, pN, sZ, sU]
 refine rY 5 61 rfl rfl (take_load_mv (by rfl) _ rfl _ rfl m (fun _ h => MAt.kept (HM5.out) h)) hHeld ?_
 simp only [pA, pN, sZ, sU]
 refine rR 6 rfl (fun K hK => ?_)
 rw [if_pos (by rfl)]
 go_simp
 refine (HBe.out _).mono ?_
 rintro e x1 ⟨rfl, gx1⟩
 refine hK.out _ _ (hHeld.trans gx1) (fun _ => ?_)
 replace hHeld := hHeld.trans gx1
 clear hK K
 refine rY 7 63 rfl rfl (take_eql_p (by rfl) _ _ _ rfl q q rfl rfl (⟨hql.out, hql.out, beqP_refl _⟩)) hHeld ?_
 simp only [pA, pN, sZ, sU]
 refine rT 8 64 (.bool true) rfl rfl hHeld ?_
 simp only [pA, pN, sZ, sU]
 refine rT 9 65 (.bool true) rfl rfl hHeld ?_
 simp only [pA, pN, sZ, sU]
 refine rT 10 66 (.pointer (some ⟨r, 0, none⟩)) rfl rfl hHeld ?_
 simp only [pA, pN, sZ, sU]
 refine rY 11 67 rfl rfl (take_load_ps (by rfl) _ rfl _ rfl p hpl.out (fun _ h => (HP5.out).kept h)) hHeld ?_
 simp only [pA, pN, sZ, sU]
 refine rY 12 68 rfl rfl (take_load_mv (by rfl) _ rfl _ rfl m (fun _ h => MAt.kept (HM5.out) h)) hHeld ?_
 simp only [pA, pN, sZ, sU]
 refine rR 13 rfl (fun K hK => ?_)
 rw [if_pos (by rfl)]
 go_simp
 refine (HLg.out r g a b _ (HT5.out.kept hHeld) (HR5.out.kept hHeld)).mono ?_
 rintro e x2 ⟨rfl, gx2⟩
 refine hK.out _ _ (hHeld.trans gx2) (fun _ => ?_)
 replace hHeld := hHeld.trans gx2
 clear hK K
 refine rT 14 70 (.bool true) rfl rfl hHeld ?_
 simp only [pA, pN, sZ, sU]
 refine rT 15 71 (.bool true) rfl rfl hHeld ?_
 simp only [pA, pN, sZ, sU]
 refine rY 16 72 rfl rfl (take_load_ps (by rfl) _ rfl _ rfl q hql.out (fun _ h => (HQ5.out).kept h)) hHeld ?_
 simp only [pA, pN, sZ, sU]
 refine rR 17 rfl (fun K hK => ?_)
 rw [if_pos (by rfl)]
 go_simp
 refine (HPw.out _ (HT5.out.tabm.tabs.kept hHeld)).mono ?_
 rintro e x3 ⟨rfl, gx3⟩
 refine hK.out _ _ (hHeld.trans gx3) (fun _ => ?_)
 replace hHeld := hHeld.trans gx3
 clear hK K
 refine rT 18 74 (.bool true) rfl rfl hHeld ?_
 simp only [pA, pN, sZ, sU]
 refine rT 19 75 (.bool true) rfl rfl hHeld ?_
 simp only [pA, pN, sZ, sU]
 refine rT 20 4 (.bool true) rfl rfl hHeld ?_
 simp only [pA, pN, sZ, sU]
 refine wpAnyH_done (by kernel_rfl) ?_ _
 have HKe := Lib.hid (HK5.out.trans hHeld)
 clear hHeld
 go_wp2
 go_ret
 exact ⟨rfl, HKe.out⟩
theorem walkLegalPlays (p : Ps) (hB : Brd p.B) (m : Mv) (w : World) (hT : TabG w) :
  Calls Tryz.prog 4 #[.agg (pl p).toArray, .agg (ml m).toArray] w fun e w' => e = .returned (.bool true) ∧ Kept w w' := by
 by_cases h : pwI p = 0
 ·cases hl : legB p m
  ·exact plays_no p hB m h hl w hT
  ·exact plays_yes p hB m h hl w hT
 ·exact plays_wrong p hB m h w hT
end Go.Proofs.YtfekipadkenhpaaGreatDoor
