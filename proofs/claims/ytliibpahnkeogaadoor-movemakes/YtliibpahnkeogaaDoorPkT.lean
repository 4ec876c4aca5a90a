/- The document's Make; the walk of MoveMakes. (Written by wip/mkmvx.py.). -/
import Derived.Test.YtliibpahnkeogaaDoorPkQ
import Derived.Test.YtliibpahnkeogaaDoorPkS
namespace Go.Proofs.YtliibpahnkeogaaDoor
open Go.RowKit
set_option linter.unusedVariables false
set_option linter.unusedSimpArgs false
set_option maxRecDepth 100000

theorem run_neq_p {p q : Ps} (hp : p.B.length = 64) (hq : q.B.length = 64) (w : World) : (binOp .neq 26 (.agg (pl p).toArray) (.agg (pl q).toArray)).run Tryd.prog w = .ok (.bool (!beqP p q)) w := by
  simp only [binOp, Sem.run_bind, Op.equal, Op.maxDepth, run_equal_p hp hq, Result.andThen_ok, Sem.run_pure]
theorem wpList_neq_p {ops : Array Oper} {rest : List Oper} {o : Oper} {a : Act} {w : World} {Q : Exit → Act → World → Prop} {b : Bool} (hw : Region.wanted o (yielded ops a.tmps) = true) (x y : Operand) (ty : TypeId) (ho : o.op = .binOp .neq 26 x y ty)
    (p q : Ps) (hx : a.eval x = .agg (pl p).toArray) (hy : a.eval y = .agg (pl q).toArray) (h : p.B.length = 64 ∧ q.B.length = 64 ∧ (!beqP p q) = b)
    (hk : wpList Tryd.prog ops Q rest (a.put o.dst (.bool b)) w) : wpList Tryd.prog ops Q (o :: rest) a w :=
  wpList_step fun _ hK => by
    rw [if_pos hw]
    unfold Oper.wp execOp
    simp only [ho, hx, hy, Sem.run_bind, run_eqGuard_agg w _ _ _ _ _ _ eqGuardP, run_neq_p h.1 h.2.1, Result.andThen_ok, Sem.run_pure, h.2.2, Oper.upon_value]
    exact hK _ _ hk
set_option maxHeartbeats 2000000 in
theorem rmake_wrong (p : Ps) (hB : Brd p.B) (m : Mv) (h : pwI p ≠ 0) (w : World) :
    Calls Tryd.prog 10 #[.agg (pl p).toArray, .agg (ml m).toArray] w (RetPE w Zp (pwI p)) := by
  have HP : Hid (PAt _ _ p) := ⟨hB.1, heap_alloc2_old w (.cells (pl p).toArray 26) (.cells (ml m).toArray 28)⟩
  have HM : Hid (MAt _ _ m) := ⟨heap_alloc2_new w (.cells (pl p).toArray 26) (.cells (ml m).toArray 28)⟩
  have HK0 := Lib.hid (((Kept.refl w).alloc (.cells (pl p).toArray 26)).alloc (.cells (ml m).toArray 28))
  have HK1 := Lib.hid (HK0.out.alloc (.cells (pl Zp).toArray 26))
  have HP1 := Lib.hid (HP.out.kept ((Kept.refl _).alloc (.cells (pl Zp).toArray 26)))
  have HM1 := Lib.hid (MAt.kept HM.out ((Kept.refl _).alloc (.cells (pl Zp).toArray 26)))
  have HR1 : Hid (PAt _ _ Zp) := PAt.new ((w.alloc (.cells (pl p).toArray 26)).alloc (.cells (ml m).toArray 28)) Zp_len
  have hsz : ((w.alloc (.cells (pl p).toArray 26)).alloc (.cells (ml m).toArray 28)).heap.size = w.heap.size + 2 := by simp
  rw [hsz] at HR1
  have HC := Lib.hid (rpwrong_is p hB)
  have hv' : (pwI p != 0) = true := bne_iff_ne.2 h
  generalize pwI p = v at *
  clear hB h HP HM HK0 hsz
  go_enter Tryd.func10, Tryd.ntmps10
  go_wp2_with (first | (with_reducible refine wpList_new_p rfl rfl ?_) | (refine wpList_load_ps (by rfl) _ rfl _ rfl _ HP1.out ?_))
  refine (HC.out _).mono ?_
  rintro e w1 ⟨rfl, k1⟩
  have HK2 := Lib.hid (HK1.out.trans k1)
  have HR2 := Lib.hid (HR1.out.kept k1)
  have HP2 := Lib.hid (HP1.out.kept k1)
  have HM2 := Lib.hid (MAt.kept HM1.out k1)
  clear k1
  go_wp2_with (first | (refine wpList_built_p0 (by rfl) rfl ?_) | (refine wpList_store_ps rfl _ _ rfl (w.heap.size + 2) Zp Zp HR2.out Zp_len rfl rfl ?_))
  refine bodyPost_ret (v := .tuple #[.agg (pl Zp).toArray, .int .i64 v]) ?_ rfl ⟨rfl, HK2.out.setRow (by omega) _⟩
  exact (results_pos_tmp (s := 4) (t := 5) rfl _ rfl (HR2.out.setRow Zp_len)).trans rfl
set_option maxHeartbeats 2000000 in
theorem rmake_unformed (p : Ps) (hB : Brd p.B) (m : Mv) (h : pwI p = 0) (hf : formB p m = false) (w : World) :
    Calls Tryd.prog 10 #[.agg (pl p).toArray, .agg (ml m).toArray] w (RetPE w Zp 5) := by
  have HP : Hid (PAt _ _ p) := ⟨hB.1, heap_alloc2_old w (.cells (pl p).toArray 26) (.cells (ml m).toArray 28)⟩
  have HM : Hid (MAt _ _ m) := ⟨heap_alloc2_new w (.cells (pl p).toArray 26) (.cells (ml m).toArray 28)⟩
  have HK0 := Lib.hid (((Kept.refl w).alloc (.cells (pl p).toArray 26)).alloc (.cells (ml m).toArray 28))
  have HK1 := Lib.hid (HK0.out.alloc (.cells (pl Zp).toArray 26))
  have HP1 := Lib.hid (HP.out.kept ((Kept.refl _).alloc (.cells (pl Zp).toArray 26)))
  have HM1 := Lib.hid (MAt.kept HM.out ((Kept.refl _).alloc (.cells (pl Zp).toArray 26)))
  have HR1 : Hid (PAt _ _ Zp) := PAt.new ((w.alloc (.cells (pl p).toArray 26)).alloc (.cells (ml m).toArray 28)) Zp_len
  have hsz : ((w.alloc (.cells (pl p).toArray 26)).alloc (.cells (ml m).toArray 28)).heap.size = w.heap.size + 2 := by simp
  rw [hsz] at HR1
  have HC := Lib.hid (rpwrong_is p hB)
  have HF := Lib.hid (fun w => rformed_is p hB (right_t h).1 m w)
  rw [h] at HC
  rw [hf] at HF
  clear hB h HP HM HK0 hsz hf
  go_enter Tryd.func10, Tryd.ntmps10
  go_wp2_with (first | (with_reducible refine wpList_new_p rfl rfl ?_) | (refine wpList_load_ps (by rfl) _ rfl _ rfl _ HP1.out ?_))
  refine (HC.out _).mono ?_
  rintro e w1 ⟨rfl, k1⟩
  have HK2 := Lib.hid (HK1.out.trans k1)
  have HR2 := Lib.hid (HR1.out.kept k1)
  have HP2 := Lib.hid (HP1.out.kept k1)
  have HM2 := Lib.hid (MAt.kept HM1.out k1)
  clear k1
  go_wp2_with (first | (refine wpList_load_ps (by rfl) _ rfl _ rfl _ (HP2.out) ?_) | (refine wpList_load_pb (by rfl) _ rfl _ rfl _ (HP2.out) ?_) | (refine wpList_load_mv (by rfl) _ rfl _ rfl _ (HM2.out) ?_))
  refine (HF.out _).mono ?_
  rintro e w2 ⟨rfl, k2⟩
  have HK3 := Lib.hid (HK2.out.trans k2)
  have HR3 := Lib.hid (HR2.out.kept k2)
  have HP3 := Lib.hid (HP2.out.kept k2)
  have HM3 := Lib.hid (MAt.kept HM2.out k2)
  clear k2
  go_wp2_with (first | (refine wpList_built_p0 (by rfl) rfl ?_) | (refine wpList_store_ps rfl _ _ rfl (w.heap.size + 2) Zp Zp HR3.out Zp_len rfl rfl ?_))
  refine bodyPost_ret (v := .tuple #[.agg (pl Zp).toArray, .int .i64 5]) ?_ rfl ⟨rfl, HK3.out.setRow (by omega) _⟩
  exact (results_pos_tmp (s := 4) (t := 5) rfl _ rfl (HR3.out.setRow Zp_len)).trans rfl
set_option maxHeartbeats 2000000 in
theorem rmake_yes (p : Ps) (hB : Brd p.B) (m : Mv) (h : okM p m = true) (w : World) :
    Calls Tryd.prog 10 #[.agg (pl p).toArray, .agg (ml m).toArray] w (RetPE w (behP p m) 0) := by
  obtain ⟨hw, hf⟩ := okM_right h
  obtain ⟨t01, ⟨c0, c1⟩, _⟩ := right_t hw
  obtain ⟨f, t, hFm⟩ := form_of hB h
  have HP : Hid (PAt _ _ p) := ⟨hB.1, heap_alloc2_old w (.cells (pl p).toArray 26) (.cells (ml m).toArray 28)⟩
  have HM : Hid (MAt _ _ m) := ⟨heap_alloc2_new w (.cells (pl p).toArray 26) (.cells (ml m).toArray 28)⟩
  have HK0 := Lib.hid (((Kept.refl w).alloc (.cells (pl p).toArray 26)).alloc (.cells (ml m).toArray 28))
  have HK1 := Lib.hid (HK0.out.alloc (.cells (pl Zp).toArray 26))
  have HP1 := Lib.hid (HP.out.kept ((Kept.refl _).alloc (.cells (pl Zp).toArray 26)))
  have HM1 := Lib.hid (MAt.kept HM.out ((Kept.refl _).alloc (.cells (pl Zp).toArray 26)))
  have HR1 : Hid (PAt _ _ Zp) := PAt.new ((w.alloc (.cells (pl p).toArray 26)).alloc (.cells (ml m).toArray 28)) Zp_len
  have hsz : ((w.alloc (.cells (pl p).toArray 26)).alloc (.cells (ml m).toArray 28)).heap.size = w.heap.size + 2 := by simp
  rw [hsz] at HR1
  have HC := Lib.hid (rpwrong_is p hB)
  have HF := Lib.hid (fun w => rformed_is p hB t01 m w)
  have HBh := Lib.hid (fun w => behind_is p hB t01 c0 c1 (right_pos hw).2.2.2.1 m (okM_on h) (form_promo hf) f t hFm.hf hFm.ht w)
  rw [behP_eq hFm] at HBh
  have hql : Hid ((behP p m).B.length = 64) := behB_len hB.1
  rw [hw] at HC
  rw [hf] at HF
  clear hB h HP HM HK0 hsz hf hw t01 c0 c1 hFm
  generalize behP p m = q at *
  go_enter Tryd.func10, Tryd.ntmps10
  go_wp2_with (first | (with_reducible refine wpList_new_p rfl rfl ?_) | (refine wpList_load_ps (by rfl) _ rfl _ rfl _ HP1.out ?_))
  refine (HC.out _).mono ?_
  rintro e w1 ⟨rfl, k1⟩
  have HK2 := Lib.hid (HK1.out.trans k1)
  have HR2 := Lib.hid (HR1.out.kept k1)
  have HP2 := Lib.hid (HP1.out.kept k1)
  have HM2 := Lib.hid (MAt.kept HM1.out k1)
  clear k1
  go_wp2_with (first | (refine wpList_load_ps (by rfl) _ rfl _ rfl _ (HP2.out) ?_) | (refine wpList_load_pb (by rfl) _ rfl _ rfl _ (HP2.out) ?_) | (refine wpList_load_mv (by rfl) _ rfl _ rfl _ (HM2.out) ?_))
  refine (HF.out _).mono ?_
  rintro e w2 ⟨rfl, k2⟩
  have HK3 := Lib.hid (HK2.out.trans k2)
  have HR3 := Lib.hid (HR2.out.kept k2)
  have HP3 := Lib.hid (HP2.out.kept k2)
  have HM3 := Lib.hid (MAt.kept HM2.out k2)
  clear k2
  go_wp2_with (first | (refine wpList_load_ps (by rfl) _ rfl _ rfl _ (HP3.out) ?_) | (refine wpList_load_pb (by rfl) _ rfl _ rfl _ (HP3.out) ?_) | (refine wpList_load_mv (by rfl) _ rfl _ rfl _ (HM3.out) ?_))
  refine (HBh.out _).mono ?_
  rintro e w3 ⟨rfl, k3⟩
  have HK4 := Lib.hid (HK3.out.trans k3)
  have HR4 := Lib.hid (HR3.out.kept k3)
  clear k3
  go_wp2_with (refine wpList_store_ps rfl _ _ rfl (w.heap.size + 2) Zp q HR4.out hql.out rfl rfl ?_)
  refine bodyPost_ret (v := .tuple #[.agg (pl q).toArray, .int .i64 0]) ?_ rfl ⟨rfl, HK4.out.setRow (by omega) _⟩
  exact (results_pos_tmp (s := 4) (t := 5) rfl _ rfl (HR4.out.setRow hql.out)).trans rfl
theorem rmake_no (p : Ps) (hB : Brd p.B) (m : Mv) (h : okM p m = false) (w : World) :
    Calls Tryd.prog 10 #[.agg (pl p).toArray, .agg (ml m).toArray] w (RetPE w Zp (errI p)) := by
  unfold errI
  by_cases hv : pwI p = 0
  · rw [if_neg (by simpa using hv)]
    refine rmake_unformed p hB m hv ?_ w
    unfold okM at h
    rw [hv] at h
    simpa using h
  · rw [if_pos hv]; exact rmake_wrong p hB m hv w
theorem right_pos_iff {p : Ps} {m : Mv} : decide (0 < hR (castN p m)) = decide (castN p m < 4) := by
  have := castN_le p m
  generalize castN p m = k at *
  have : k = 0 ∨ k = 1 ∨ k = 2 ∨ k = 3 ∨ k = 4 := by omega
  rcases this with rfl | rfl | rfl | rfl | rfl <;> decide
set_option maxHeartbeats 4000000 in
theorem makes_no (p : Ps) (hB : Brd p.B) (m : Mv) (h : okM p m = false) (w : World) (hT : TabM w) :
    Calls Tryd.prog 3 #[.agg (pl p).toArray, .agg (ml m).toArray] w fun e w' => e = .returned (.bool true) ∧ Kept w w' := by
  have HP : Hid (PAt _ _ p) := ⟨hB.1, heap_alloc2_old w (.cells (pl p).toArray 26) (.cells (ml m).toArray 28)⟩
  have HM : Hid (MAt _ _ m) := ⟨heap_alloc2_new w (.cells (pl p).toArray 26) (.cells (ml m).toArray 28)⟩
  have HK0 := Lib.hid (((Kept.refl w).alloc (.cells (pl p).toArray 26)).alloc (.cells (ml m).toArray 28))
  have HT := Lib.hid (hT.kept HK0.out)
  have hql : Hid (Zp.B.length = 64) := Zp_len
  have HC1 := Lib.hid (fun w hw => make_no p hB m h w hw)
  have HC2 := Lib.hid (fun w => rmake_no p hB m h w)
  have HC3 := Lib.hid (fun w hw => mformed_is p hB m w hw)
  have HC4 := Lib.hid (fun w hw => takes_no p hB m h w hw)
  have HC5 := Lib.hid (fun w hw => castles_no p hB m h w hw)
  rw [h] at HC3
  have hne := errI_ne p
  have hne' : (errI p == 0) = false := by have := hne; rw [bne] at this; simpa using this
  have hnn : (errI p != errI p) = false := by simp
  generalize errI p = x at *
  clear hB hT h
  go_enter Tryd.func3, Tryd.ntmps3
  go_wp2_with fail
  refine (move_wake _ HT.out).mono ?_
  rintro e w1 ⟨rfl, k1⟩
  have HK1 := Lib.hid (HK0.out.trans k1)
  have HP1 := Lib.hid (HP.out.kept k1)
  have HM1 := Lib.hid (MAt.kept HM.out k1)
  have HT1 := Lib.hid (HT.out.kept k1)
  clear k1
  go_wp2_with (first | (refine wpList_load_ps (by rfl) _ rfl _ rfl _ (HP1.out) ?_) | (refine wpList_load_pb (by rfl) _ rfl _ rfl _ (HP1.out) ?_) | (refine wpList_load_mv (by rfl) _ rfl _ rfl _ (HM1.out) ?_))
  refine (HC1.out _ HT1.out).mono ?_
  rintro e w2 ⟨rfl, k2⟩
  have KA := Lib.hid (k2.alloc (.cells (pl Zp).toArray 26))
  have HK2 := Lib.hid (HK1.out.trans KA.out)
  have HQ2 := Lib.hid (PAt.new w2 hql.out)
  have HP2 := Lib.hid (HP1.out.kept KA.out)
  have HM2 := Lib.hid (MAt.kept HM1.out KA.out)
  have HT2 := Lib.hid (HT1.out.kept KA.out)
  clear k2 KA
  go_wp2_with (first | (with_reducible refine wpList_new_p rfl rfl ?_) | ((with_reducible refine wpList_store_newp rfl _ _ rfl Zp Zp Zp_len hql.out ?_ ?_ ?_); exact rfl; exact rfl) | (refine wpList_load_ps (by rfl) _ rfl _ rfl _ HP2.out ?_) | (refine wpList_load_mv (by rfl) _ rfl _ rfl _ HM2.out ?_))
  generalize w2.alloc (.cells (pl Zp).toArray 26) = W2 at *
  generalize w2.heap.size = gq at *
  refine (HC2.out _).mono ?_
  rintro e w3 ⟨rfl, k3⟩
  have KA := Lib.hid (k3.alloc (.cells (pl Zp).toArray 26))
  have HK3 := Lib.hid (HK2.out.trans KA.out)
  have HX3 := Lib.hid (PAt.new w3 hql.out)
  have HQ3 := Lib.hid (HQ2.out.kept KA.out)
  have HP3 := Lib.hid (HP2.out.kept KA.out)
  have HM3 := Lib.hid (MAt.kept HM2.out KA.out)
  have HT3 := Lib.hid (HT2.out.kept KA.out)
  clear k3 KA
  go_wp2_with (first | (with_reducible refine wpList_new_p rfl rfl ?_) | ((with_reducible refine wpList_store_newp rfl _ _ rfl Zp Zp Zp_len hql.out ?_ ?_ ?_); exact rfl; exact rfl) | (refine wpList_load_ps (by rfl) _ rfl _ rfl _ HQ3.out ?_) | (refine wpList_load_ps (by rfl) _ rfl _ rfl _ HX3.out ?_) | (refine wpList_load_ps (by rfl) _ rfl _ rfl _ HP3.out ?_) | (refine wpList_load_mv (by rfl) _ rfl _ rfl _ HM3.out ?_) | (refine wpList_neq_p (by rfl) _ _ _ rfl Zp Zp rfl rfl (b := false) ⟨hql.out, hql.out, by rw [beqP_refl]; rfl⟩ ?_))
  refine (HC3.out _ HT3.out).mono ?_
  rintro e w4 ⟨rfl, k4⟩
  have HK4 := Lib.hid (HK3.out.trans k4)
  have HP4 := Lib.hid (HP3.out.kept k4)
  have HM4 := Lib.hid (MAt.kept HM3.out k4)
  have HT4 := Lib.hid (HT3.out.kept k4)
  clear k4
  go_wp2_with (first | (refine wpList_load_ps (by rfl) _ rfl _ rfl _ (HP4.out) ?_) | (refine wpList_load_pb (by rfl) _ rfl _ rfl _ (HP4.out) ?_) | (refine wpList_load_mv (by rfl) _ rfl _ rfl _ (HM4.out) ?_))
  refine (HC4.out _ HT4.out).mono ?_
  rintro e w5 ⟨rfl, k5⟩
  have HK5 := Lib.hid (HK4.out.trans k5)
  have HP5 := Lib.hid (HP4.out.kept k5)
  have HM5 := Lib.hid (MAt.kept HM4.out k5)
  have HT5 := Lib.hid (HT4.out.kept k5)
  clear k5
  go_wp2_with (first | (refine wpList_load_ps (by rfl) _ rfl _ rfl _ (HP5.out) ?_) | (refine wpList_load_pb (by rfl) _ rfl _ rfl _ (HP5.out) ?_) | (refine wpList_load_mv (by rfl) _ rfl _ rfl _ (HM5.out) ?_))
  refine (HC5.out _ HT5.out).mono ?_
  rintro e w6 ⟨rfl, k6⟩
  have HK6 := Lib.hid (HK5.out.trans k6)
  clear k6
  go_wp2
  go_ret
  exact ⟨rfl, HK6.out⟩
set_option maxHeartbeats 4000000 in
theorem makes_take (p : Ps) (hB : Brd p.B) (m : Mv) (h : okM p m = true) (ht : 0 ≤ takeI p m) (w : World) (hT : TabM w) :
    Calls Tryd.prog 3 #[.agg (pl p).toArray, .agg (ml m).toArray] w fun e w' => e = .returned (.bool true) ∧ Kept w w' := by
  obtain ⟨hw, hf⟩ := okM_right h
  obtain ⟨t01, ⟨c0, c1⟩, _⟩ := right_t hw
  obtain ⟨f, t, hFm⟩ := form_of hB h
  have HP : Hid (PAt _ _ p) := ⟨hB.1, heap_alloc2_old w (.cells (pl p).toArray 26) (.cells (ml m).toArray 28)⟩
  have HM : Hid (MAt _ _ m) := ⟨heap_alloc2_new w (.cells (pl p).toArray 26) (.cells (ml m).toArray 28)⟩
  have HK0 := Lib.hid (((Kept.refl w).alloc (.cells (pl p).toArray 26)).alloc (.cells (ml m).toArray 28))
  have HT := Lib.hid (hT.kept HK0.out)
  have hpl : Hid (p.B.length = 64) := hB.1
  have hql : Hid ((behP p m).B.length = 64) := behB_len hB.1
  have HC1 := Lib.hid (fun w hw => make_yes p hB m h w hw)
  have HC2 := Lib.hid (fun w => rmake_yes p hB m h w)
  have HC3 := Lib.hid (fun w hw => mformed_is p hB m w hw)
  have HC4 := Lib.hid (fun w hw => takes_yes p hB m h w hw)
  have HC5 := Lib.hid (fun w => rtakes_is p hB m (okM_on h) w)
  have HC6 := Lib.hid (fun w hw => castles_yes p hB m h w hw)
  have HC7 := Lib.hid (fun w => rightR_is p hB c0 c1 (right_pos hw).2.2.2.1 m f t hFm.hf hFm.ht hFm.f1 hFm.t1 w)
  have hcc := right_pos_iff (p := p) (m := m)
  rw [h] at HC3
  generalize behP p m = q at *
  have a := take_on (p := p) (m := m) rfl ht
  rw [a.1, a.2] at HC4
  generalize takeI p m = x at *
  have hx0 : ¬ x < 0 := by omega
  have hxd : decide ((0 : Int) ≤ x) = true := decide_eq_true ht
  have hxx : (x == x) = true := by simp
  clear a
  generalize decide (castN p m < 4) = cb at *
  generalize hR (castN p m) = hr at *
  have hcb : (cb == cb) = true := by simp
  clear hB hT h hf hw t01 c0 c1 hFm
  go_enter Tryd.func3, Tryd.ntmps3
  go_wp2_with fail
  refine (move_wake _ HT.out).mono ?_
  rintro e w1 ⟨rfl, k1⟩
  have HK1 := Lib.hid (HK0.out.trans k1)
  have HP1 := Lib.hid (HP.out.kept k1)
  have HM1 := Lib.hid (MAt.kept HM.out k1)
  have HT1 := Lib.hid (HT.out.kept k1)
  clear k1
  go_wp2_with (first | (refine wpList_load_ps (by rfl) _ rfl _ rfl _ (HP1.out) ?_) | (refine wpList_load_pb (by rfl) _ rfl _ rfl _ (HP1.out) ?_) | (refine wpList_load_mv (by rfl) _ rfl _ rfl _ (HM1.out) ?_))
  refine (HC1.out _ HT1.out).mono ?_
  rintro e w2 ⟨rfl, k2⟩
  have KA := Lib.hid (k2.alloc (.cells (pl q).toArray 26))
  have HK2 := Lib.hid (HK1.out.trans KA.out)
  have HQ2 := Lib.hid (PAt.new w2 hql.out)
  have HP2 := Lib.hid (HP1.out.kept KA.out)
  have HM2 := Lib.hid (MAt.kept HM1.out KA.out)
  have HT2 := Lib.hid (HT1.out.kept KA.out)
  clear k2 KA
  go_wp2_with (first | (with_reducible refine wpList_new_p rfl rfl ?_) | ((with_reducible refine wpList_store_newp rfl _ _ rfl Zp q Zp_len hql.out ?_ ?_ ?_); exact rfl; exact rfl) | (refine wpList_load_ps (by rfl) _ rfl _ rfl _ HP2.out ?_) | (refine wpList_load_mv (by rfl) _ rfl _ rfl _ HM2.out ?_))
  generalize w2.alloc (.cells (pl q).toArray 26) = W2 at *
  generalize w2.heap.size = gq at *
  refine (HC2.out _).mono ?_
  rintro e w3 ⟨rfl, k3⟩
  have KA := Lib.hid (k3.alloc (.cells (pl q).toArray 26))
  have HK3 := Lib.hid (HK2.out.trans KA.out)
  have HX3 := Lib.hid (PAt.new w3 hql.out)
  have HQ3 := Lib.hid (HQ2.out.kept KA.out)
  have HP3 := Lib.hid (HP2.out.kept KA.out)
  have HM3 := Lib.hid (MAt.kept HM2.out KA.out)
  have HT3 := Lib.hid (HT2.out.kept KA.out)
  clear k3 KA
  go_wp2_with (first | (with_reducible refine wpList_new_p rfl rfl ?_) | ((with_reducible refine wpList_store_newp rfl _ _ rfl Zp q Zp_len hql.out ?_ ?_ ?_); exact rfl; exact rfl) | (refine wpList_load_ps (by rfl) _ rfl _ rfl _ HQ3.out ?_) | (refine wpList_load_ps (by rfl) _ rfl _ rfl _ HX3.out ?_) | (refine wpList_load_ps (by rfl) _ rfl _ rfl _ HP3.out ?_) | (refine wpList_load_mv (by rfl) _ rfl _ rfl _ HM3.out ?_) | (refine wpList_neq_p (by rfl) _ _ _ rfl q q rfl rfl (b := false) ⟨hql.out, hql.out, by rw [beqP_refl]; rfl⟩ ?_))
  refine (HC3.out _ HT3.out).mono ?_
  rintro e w4 ⟨rfl, k4⟩
  have HK4 := Lib.hid (HK3.out.trans k4)
  have HP4 := Lib.hid (HP3.out.kept k4)
  have HM4 := Lib.hid (MAt.kept HM3.out k4)
  have HT4 := Lib.hid (HT3.out.kept k4)
  clear k4
  go_wp2_with (first | (refine wpList_load_ps (by rfl) _ rfl _ rfl _ (HP4.out) ?_) | (refine wpList_load_pb (by rfl) _ rfl _ rfl _ (HP4.out) ?_) | (refine wpList_load_mv (by rfl) _ rfl _ rfl _ (HM4.out) ?_))
  refine (HC4.out _ HT4.out).mono ?_
  rintro e w5 ⟨rfl, k5⟩
  have HK5 := Lib.hid (HK4.out.trans k5)
  have HP5 := Lib.hid (HP4.out.kept k5)
  have HM5 := Lib.hid (MAt.kept HM4.out k5)
  have HT5 := Lib.hid (HT4.out.kept k5)
  clear k5
  go_wp2_with (first | (refine wpList_load_ps (by rfl) _ rfl _ rfl _ (HP5.out) ?_) | (refine wpList_load_pb (by rfl) _ rfl _ rfl _ (HP5.out) ?_) | (refine wpList_load_mv (by rfl) _ rfl _ rfl _ (HM5.out) ?_))
  refine (HC5.out _).mono ?_
  rintro e w6 ⟨rfl, k6⟩
  have HK6 := Lib.hid (HK5.out.trans k6)
  have HP6 := Lib.hid (HP5.out.kept k6)
  have HM6 := Lib.hid (MAt.kept HM5.out k6)
  have HT6 := Lib.hid (HT5.out.kept k6)
  clear k6
  go_wp2
  refine wp_region_held_drew (S := Kept _) (by kernel_rfl) (Kept.refl _).drew (fun hHeld => ?_)
  refine rg_take (i := 0) (v := (.bool true)) (some 65) rfl rfl (by kernel_rfl) (by kernel_rfl) (by kernel_rfl) (fun _ _ _ h => h) (Or.inl ⟨by rfl, fun _ _ => by go_simp⟩) hHeld ?_
  simp only [Act.put, List.setIfInBounds_toArray, List.set_cons_zero, List.set_cons_succ]
  refine rg_take (i := 1) (v := (.int .i64 x)) (some 66) rfl rfl (by kernel_rfl) (by kernel_rfl) (by kernel_rfl) (fun _ _ _ h => h) (Or.inl ⟨by rfl, fun _ _ => by go_simp⟩) hHeld ?_
  simp only [Act.put, List.setIfInBounds_toArray, List.set_cons_zero, List.set_cons_succ]
  refine rg_take (i := 2) (v := (.bool true)) (some 67) rfl rfl (by kernel_rfl) (by kernel_rfl) (by kernel_rfl) (fun _ _ _ h => h) (Or.inl ⟨by rfl, fun _ _ => by go_simp⟩) hHeld ?_
  simp only [Act.put, List.setIfInBounds_toArray, List.set_cons_zero, List.set_cons_succ]
  refine rg_take (i := 3) (v := (.bool true)) (some 68) rfl rfl (by kernel_rfl) (by kernel_rfl) (by kernel_rfl) (fun _ _ _ h => h) (Or.inl ⟨by rfl, fun _ _ => by go_simp⟩) hHeld ?_
  simp only [Act.put, List.setIfInBounds_toArray, List.set_cons_zero, List.set_cons_succ]
  refine rg_take (i := 4) (v := (.bool true)) (some 69) rfl rfl (by kernel_rfl) (by kernel_rfl) (by kernel_rfl) (fun _ _ _ h => h) (Or.inl ⟨by rfl, fun _ _ => by go_simp⟩) hHeld ?_
  simp only [Act.put, List.setIfInBounds_toArray, List.set_cons_zero, List.set_cons_succ]
  refine rg_take (i := 5) (v := (.int .i64 x)) (some 70) rfl rfl (by kernel_rfl) (by kernel_rfl) (by kernel_rfl) (fun _ _ _ h => h) (Or.inl ⟨by rfl, fun _ _ => by go_simp⟩) hHeld ?_
  simp only [Act.put, List.setIfInBounds_toArray, List.set_cons_zero, List.set_cons_succ]
  refine rg_take (i := 6) (v := (.int .i64 x)) (some 71) rfl rfl (by kernel_rfl) (by kernel_rfl) (by kernel_rfl) (fun _ _ _ h => h) (Or.inl ⟨by rfl, fun _ _ => by go_simp⟩) hHeld ?_
  simp only [Act.put, List.setIfInBounds_toArray, List.set_cons_zero, List.set_cons_succ]
  refine wpAnyH_ready (rs := [7]) (by kernel_rfl) (by simp) ?_
  refine AllReadyH.cons rfl (fun K hK => ?_) AllReadyH.nil
  go_simp
  refine hK.out _ _ hHeld (fun _ => ?_)
  clear hK K
  refine rg_take (i := 8) (v := (.bool true)) (some 73) rfl rfl (by kernel_rfl) (by kernel_rfl) (by kernel_rfl) (fun _ _ _ h => h) (Or.inl ⟨by rfl, fun _ _ => by first | (go_simp; done) | (go_simp; intro h; omega)⟩) hHeld ?_
  simp only [Act.put, List.setIfInBounds_toArray, List.set_cons_zero, List.set_cons_succ]
  refine rg_take (i := 9) (v := (.bool true)) (some 74) rfl rfl (by kernel_rfl) (by kernel_rfl) (by kernel_rfl) (fun _ _ _ h => h) (Or.inl ⟨by rfl, fun _ _ => by go_simp⟩) hHeld ?_
  simp only [Act.put, List.setIfInBounds_toArray, List.set_cons_zero, List.set_cons_succ]
  refine rg_take (i := 10) (v := (.bool true)) (some 75) rfl rfl (by kernel_rfl) (by kernel_rfl) (by kernel_rfl) (fun _ _ _ h => h) (Or.inl ⟨by rfl, fun _ _ => by go_simp⟩) hHeld ?_
  simp only [Act.put, List.setIfInBounds_toArray, List.set_cons_zero, List.set_cons_succ]
  refine rg_take (i := 11) (some 76) rfl rfl (by kernel_rfl) (by kernel_rfl) (by kernel_rfl) (fun _ _ _ h => h) (take_load_ps (by rfl) _ rfl _ rfl p hpl.out (fun _ h => (HP6.out).kept h)) hHeld ?_
  simp only [Act.put, List.setIfInBounds_toArray, List.set_cons_zero, List.set_cons_succ]
  refine rg_take (i := 12) (some 77) rfl rfl (by kernel_rfl) (by kernel_rfl) (by kernel_rfl) (fun _ _ _ h => h) (take_load_mv (by rfl) _ rfl _ rfl m (fun _ h => MAt.kept (HM6.out) h)) hHeld ?_
  simp only [Act.put, List.setIfInBounds_toArray, List.set_cons_zero, List.set_cons_succ]
  refine rg_take (i := 14) (some 79) rfl rfl (by kernel_rfl) (by kernel_rfl) (by kernel_rfl) (fun _ _ _ h => h) (take_load_ps (by rfl) _ rfl _ rfl p hpl.out (fun _ h => (HP6.out).kept h)) hHeld ?_
  simp only [Act.put, List.setIfInBounds_toArray, List.set_cons_zero, List.set_cons_succ]
  refine rg_take (i := 15) (some 80) rfl rfl (by kernel_rfl) (by kernel_rfl) (by kernel_rfl) (fun _ _ _ h => h) (take_load_mv (by rfl) _ rfl _ rfl m (fun _ h => MAt.kept (HM6.out) h)) hHeld ?_
  simp only [Act.put, List.setIfInBounds_toArray, List.set_cons_zero, List.set_cons_succ]
  refine wpAnyH_ready (rs := [13]) (by kernel_rfl) (by simp) ?_
  refine AllReadyH.cons rfl (fun K hK => ?_) AllReadyH.nil
  go_simp
  refine (HC6.out _ (HT6.out.kept hHeld)).mono ?_
  rintro e v1 ⟨rfl, gv1⟩
  refine hK.out _ _ (hHeld.trans gv1) (fun _ => ?_)
  replace hHeld := hHeld.trans gv1
  clear hK K
  refine wpAnyH_ready (rs := [16]) (by kernel_rfl) (by simp) ?_
  refine AllReadyH.cons rfl (fun K hK => ?_) AllReadyH.nil
  go_simp
  refine (HC7.out _).mono ?_
  rintro e v2 ⟨rfl, gv2⟩
  refine hK.out _ _ (hHeld.trans gv2) (fun _ => ?_)
  replace hHeld := hHeld.trans gv2
  clear hK K
  refine rg_take (i := 17) (v := (.bool cb)) (some 82) rfl rfl (by kernel_rfl) (by kernel_rfl) (by kernel_rfl) (fun _ _ _ h => h) (Or.inl ⟨by rfl, fun _ _ => by go_simp⟩) hHeld ?_
  simp only [Act.put, List.setIfInBounds_toArray, List.set_cons_zero, List.set_cons_succ]
  refine rg_take (i := 18) (v := (.bool true)) (some 83) rfl rfl (by kernel_rfl) (by kernel_rfl) (by kernel_rfl) (fun _ _ _ h => h) (Or.inl ⟨by rfl, fun _ _ => by go_simp⟩) hHeld ?_
  simp only [Act.put, List.setIfInBounds_toArray, List.set_cons_zero, List.set_cons_succ]
  refine rg_take (i := 19) (v := (.bool true)) (some 84) rfl rfl (by kernel_rfl) (by kernel_rfl) (by kernel_rfl) (fun _ _ _ h => h) (Or.inl ⟨by rfl, fun _ _ => by go_simp⟩) hHeld ?_
  simp only [Act.put, List.setIfInBounds_toArray, List.set_cons_zero, List.set_cons_succ]
  refine rg_take (i := 20) (v := (.bool true)) (some 4) rfl rfl (by kernel_rfl) (by kernel_rfl) (by kernel_rfl) (fun _ _ _ h => h) (Or.inl ⟨by rfl, fun _ _ => by go_simp⟩) hHeld ?_
  simp only [Act.put, List.setIfInBounds_toArray, List.set_cons_zero, List.set_cons_succ]
  refine wpAnyH_done (by kernel_rfl) ?_ _
  go_wp2
  go_ret
  exact ⟨rfl, HK6.out.trans hHeld⟩
set_option maxHeartbeats 4000000 in
theorem makes_not (p : Ps) (hB : Brd p.B) (m : Mv) (h : okM p m = true) (ht : ¬ 0 ≤ takeI p m) (w : World) (hT : TabM w) :
    Calls Tryd.prog 3 #[.agg (pl p).toArray, .agg (ml m).toArray] w fun e w' => e = .returned (.bool true) ∧ Kept w w' := by
  obtain ⟨hw, hf⟩ := okM_right h
  obtain ⟨t01, ⟨c0, c1⟩, _⟩ := right_t hw
  obtain ⟨f, t, hFm⟩ := form_of hB h
  have HP : Hid (PAt _ _ p) := ⟨hB.1, heap_alloc2_old w (.cells (pl p).toArray 26) (.cells (ml m).toArray 28)⟩
  have HM : Hid (MAt _ _ m) := ⟨heap_alloc2_new w (.cells (pl p).toArray 26) (.cells (ml m).toArray 28)⟩
  have HK0 := Lib.hid (((Kept.refl w).alloc (.cells (pl p).toArray 26)).alloc (.cells (ml m).toArray 28))
  have HT := Lib.hid (hT.kept HK0.out)
  have hpl : Hid (p.B.length = 64) := hB.1
  have hql : Hid ((behP p m).B.length = 64) := behB_len hB.1
  have HC1 := Lib.hid (fun w hw => make_yes p hB m h w hw)
  have HC2 := Lib.hid (fun w => rmake_yes p hB m h w)
  have HC3 := Lib.hid (fun w hw => mformed_is p hB m w hw)
  have HC4 := Lib.hid (fun w hw => takes_yes p hB m h w hw)
  have HC5 := Lib.hid (fun w => rtakes_is p hB m (okM_on h) w)
  have HC6 := Lib.hid (fun w hw => castles_yes p hB m h w hw)
  have HC7 := Lib.hid (fun w => rightR_is p hB c0 c1 (right_pos hw).2.2.2.1 m f t hFm.hf hFm.ht hFm.f1 hFm.t1 w)
  have hcc := right_pos_iff (p := p) (m := m)
  rw [h] at HC3
  generalize behP p m = q at *
  have a : takeS p m = 0 ∧ takeB p m = false := by unfold takeS takeB; rw [if_neg ht, decide_eq_false ht]; exact ⟨rfl, rfl⟩
  rw [a.1, a.2] at HC4
  generalize takeI p m = x at *
  have hx0 : x < 0 := by omega
  have hxd : decide ((0 : Int) ≤ x) = false := decide_eq_false ht
  clear a
  generalize decide (castN p m < 4) = cb at *
  generalize hR (castN p m) = hr at *
  have hcb : (cb == cb) = true := by simp
  clear hB hT h hf hw t01 c0 c1 hFm
  go_enter Tryd.func3, Tryd.ntmps3
  go_wp2_with fail
  refine (move_wake _ HT.out).mono ?_
  rintro e w1 ⟨rfl, k1⟩
  have HK1 := Lib.hid (HK0.out.trans k1)
  have HP1 := Lib.hid (HP.out.kept k1)
  have HM1 := Lib.hid (MAt.kept HM.out k1)
  have HT1 := Lib.hid (HT.out.kept k1)
  clear k1
  go_wp2_with (first | (refine wpList_load_ps (by rfl) _ rfl _ rfl _ (HP1.out) ?_) | (refine wpList_load_pb (by rfl) _ rfl _ rfl _ (HP1.out) ?_) | (refine wpList_load_mv (by rfl) _ rfl _ rfl _ (HM1.out) ?_))
  refine (HC1.out _ HT1.out).mono ?_
  rintro e w2 ⟨rfl, k2⟩
  have KA := Lib.hid (k2.alloc (.cells (pl q).toArray 26))
  have HK2 := Lib.hid (HK1.out.trans KA.out)
  have HQ2 := Lib.hid (PAt.new w2 hql.out)
  have HP2 := Lib.hid (HP1.out.kept KA.out)
  have HM2 := Lib.hid (MAt.kept HM1.out KA.out)
  have HT2 := Lib.hid (HT1.out.kept KA.out)
  clear k2 KA
  go_wp2_with (first | (with_reducible refine wpList_new_p rfl rfl ?_) | ((with_reducible refine wpList_store_newp rfl _ _ rfl Zp q Zp_len hql.out ?_ ?_ ?_); exact rfl; exact rfl) | (refine wpList_load_ps (by rfl) _ rfl _ rfl _ HP2.out ?_) | (refine wpList_load_mv (by rfl) _ rfl _ rfl _ HM2.out ?_))
  generalize w2.alloc (.cells (pl q).toArray 26) = W2 at *
  generalize w2.heap.size = gq at *
  refine (HC2.out _).mono ?_
  rintro e w3 ⟨rfl, k3⟩
  have KA := Lib.hid (k3.alloc (.cells (pl q).toArray 26))
  have HK3 := Lib.hid (HK2.out.trans KA.out)
  have HX3 := Lib.hid (PAt.new w3 hql.out)
  have HQ3 := Lib.hid (HQ2.out.kept KA.out)
  have HP3 := Lib.hid (HP2.out.kept KA.out)
  have HM3 := Lib.hid (MAt.kept HM2.out KA.out)
  have HT3 := Lib.hid (HT2.out.kept KA.out)
  clear k3 KA
  go_wp2_with (first | (with_reducible refine wpList_new_p rfl rfl ?_) | ((with_reducible refine wpList_store_newp rfl _ _ rfl Zp q Zp_len hql.out ?_ ?_ ?_); exact rfl; exact rfl) | (refine wpList_load_ps (by rfl) _ rfl _ rfl _ HQ3.out ?_) | (refine wpList_load_ps (by rfl) _ rfl _ rfl _ HX3.out ?_) | (refine wpList_load_ps (by rfl) _ rfl _ rfl _ HP3.out ?_) | (refine wpList_load_mv (by rfl) _ rfl _ rfl _ HM3.out ?_) | (refine wpList_neq_p (by rfl) _ _ _ rfl q q rfl rfl (b := false) ⟨hql.out, hql.out, by rw [beqP_refl]; rfl⟩ ?_))
  refine (HC3.out _ HT3.out).mono ?_
  rintro e w4 ⟨rfl, k4⟩
  have HK4 := Lib.hid (HK3.out.trans k4)
  have HP4 := Lib.hid (HP3.out.kept k4)
  have HM4 := Lib.hid (MAt.kept HM3.out k4)
  have HT4 := Lib.hid (HT3.out.kept k4)
  clear k4
  go_wp2_with (first | (refine wpList_load_ps (by rfl) _ rfl _ rfl _ (HP4.out) ?_) | (refine wpList_load_pb (by rfl) _ rfl _ rfl _ (HP4.out) ?_) | (refine wpList_load_mv (by rfl) _ rfl _ rfl _ (HM4.out) ?_))
  refine (HC4.out _ HT4.out).mono ?_
  rintro e w5 ⟨rfl, k5⟩
  have HK5 := Lib.hid (HK4.out.trans k5)
  have HP5 := Lib.hid (HP4.out.kept k5)
  have HM5 := Lib.hid (MAt.kept HM4.out k5)
  have HT5 := Lib.hid (HT4.out.kept k5)
  clear k5
  go_wp2_with (first | (refine wpList_load_ps (by rfl) _ rfl _ rfl _ (HP5.out) ?_) | (refine wpList_load_pb (by rfl) _ rfl _ rfl _ (HP5.out) ?_) | (refine wpList_load_mv (by rfl) _ rfl _ rfl _ (HM5.out) ?_))
  refine (HC5.out _).mono ?_
  rintro e w6 ⟨rfl, k6⟩
  have HK6 := Lib.hid (HK5.out.trans k6)
  have HP6 := Lib.hid (HP5.out.kept k6)
  have HM6 := Lib.hid (MAt.kept HM5.out k6)
  have HT6 := Lib.hid (HT5.out.kept k6)
  clear k6
  go_wp2
  refine wp_region_held_drew (S := Kept _) (by kernel_rfl) (Kept.refl _).drew (fun hHeld => ?_)
  refine rg_take (i := 0) (v := (.bool false)) (some 65) rfl rfl (by kernel_rfl) (by kernel_rfl) (by kernel_rfl) (fun _ _ _ h => h) (Or.inl ⟨by rfl, fun _ _ => by go_simp⟩) hHeld ?_
  simp only [Act.put, List.setIfInBounds_toArray, List.set_cons_zero, List.set_cons_succ]
  refine rg_take (i := 1) (v := (.int .i64 x)) (some 66) rfl rfl (by kernel_rfl) (by kernel_rfl) (by kernel_rfl) (fun _ _ _ h => h) (Or.inl ⟨by rfl, fun _ _ => by go_simp⟩) hHeld ?_
  simp only [Act.put, List.setIfInBounds_toArray, List.set_cons_zero, List.set_cons_succ]
  refine rg_take (i := 2) (v := (.bool false)) (some 67) rfl rfl (by kernel_rfl) (by kernel_rfl) (by kernel_rfl) (fun _ _ _ h => h) (Or.inl ⟨by rfl, fun _ _ => by go_simp⟩) hHeld ?_
  simp only [Act.put, List.setIfInBounds_toArray, List.set_cons_zero, List.set_cons_succ]
  refine rg_take (i := 3) (v := (.bool true)) (some 68) rfl rfl (by kernel_rfl) (by kernel_rfl) (by kernel_rfl) (fun _ _ _ h => h) (Or.inl ⟨by rfl, fun _ _ => by go_simp⟩) hHeld ?_
  simp only [Act.put, List.setIfInBounds_toArray, List.set_cons_zero, List.set_cons_succ]
  refine rg_take (i := 4) (v := (.bool true)) (some 69) rfl rfl (by kernel_rfl) (by kernel_rfl) (by kernel_rfl) (fun _ _ _ h => h) (Or.inl ⟨by rfl, fun _ _ => by go_simp⟩) hHeld ?_
  simp only [Act.put, List.setIfInBounds_toArray, List.set_cons_zero, List.set_cons_succ]
  refine rg_take (i := 5) (v := (.int .i64 0)) (some 70) rfl rfl (by kernel_rfl) (by kernel_rfl) (by kernel_rfl) (fun _ _ _ h => h) (Or.inl ⟨by rfl, fun _ _ => by go_simp⟩) hHeld ?_
  simp only [Act.put, List.setIfInBounds_toArray, List.set_cons_zero, List.set_cons_succ]
  refine rg_take (i := 6) (v := (.int .i64 x)) (some 71) rfl rfl (by kernel_rfl) (by kernel_rfl) (by kernel_rfl) (fun _ _ _ h => h) (Or.inl ⟨by rfl, fun _ _ => by go_simp⟩) hHeld ?_
  simp only [Act.put, List.setIfInBounds_toArray, List.set_cons_zero, List.set_cons_succ]
  refine wpAnyH_ready (rs := [7]) (by kernel_rfl) (by simp) ?_
  refine AllReadyH.cons rfl (fun K hK => ?_) AllReadyH.nil
  go_simp
  refine hK.out _ _ hHeld (fun _ => ?_)
  clear hK K
  refine rg_take (i := 8) (v := (.bool true)) (some 73) rfl rfl (by kernel_rfl) (by kernel_rfl) (by kernel_rfl) (fun _ _ _ h => h) (Or.inl ⟨by rfl, fun _ _ => by first | (go_simp; done) | (go_simp; intro h; omega)⟩) hHeld ?_
  simp only [Act.put, List.setIfInBounds_toArray, List.set_cons_zero, List.set_cons_succ]
  refine rg_take (i := 9) (v := (.bool true)) (some 74) rfl rfl (by kernel_rfl) (by kernel_rfl) (by kernel_rfl) (fun _ _ _ h => h) (Or.inl ⟨by rfl, fun _ _ => by go_simp⟩) hHeld ?_
  simp only [Act.put, List.setIfInBounds_toArray, List.set_cons_zero, List.set_cons_succ]
  refine rg_take (i := 10) (v := (.bool true)) (some 75) rfl rfl (by kernel_rfl) (by kernel_rfl) (by kernel_rfl) (fun _ _ _ h => h) (Or.inl ⟨by rfl, fun _ _ => by go_simp⟩) hHeld ?_
  simp only [Act.put, List.setIfInBounds_toArray, List.set_cons_zero, List.set_cons_succ]
  refine rg_take (i := 11) (some 76) rfl rfl (by kernel_rfl) (by kernel_rfl) (by kernel_rfl) (fun _ _ _ h => h) (take_load_ps (by rfl) _ rfl _ rfl p hpl.out (fun _ h => (HP6.out).kept h)) hHeld ?_
  simp only [Act.put, List.setIfInBounds_toArray, List.set_cons_zero, List.set_cons_succ]
  refine rg_take (i := 12) (some 77) rfl rfl (by kernel_rfl) (by kernel_rfl) (by kernel_rfl) (fun _ _ _ h => h) (take_load_mv (by rfl) _ rfl _ rfl m (fun _ h => MAt.kept (HM6.out) h)) hHeld ?_
  simp only [Act.put, List.setIfInBounds_toArray, List.set_cons_zero, List.set_cons_succ]
  refine rg_take (i := 14) (some 79) rfl rfl (by kernel_rfl) (by kernel_rfl) (by kernel_rfl) (fun _ _ _ h => h) (take_load_ps (by rfl) _ rfl _ rfl p hpl.out (fun _ h => (HP6.out).kept h)) hHeld ?_
  simp only [Act.put, List.setIfInBounds_toArray, List.set_cons_zero, List.set_cons_succ]
  refine rg_take (i := 15) (some 80) rfl rfl (by kernel_rfl) (by kernel_rfl) (by kernel_rfl) (fun _ _ _ h => h) (take_load_mv (by rfl) _ rfl _ rfl m (fun _ h => MAt.kept (HM6.out) h)) hHeld ?_
  simp only [Act.put, List.setIfInBounds_toArray, List.set_cons_zero, List.set_cons_succ]
  refine wpAnyH_ready (rs := [13]) (by kernel_rfl) (by simp) ?_
  refine AllReadyH.cons rfl (fun K hK => ?_) AllReadyH.nil
  go_simp
  refine (HC6.out _ (HT6.out.kept hHeld)).mono ?_
  rintro e v1 ⟨rfl, gv1⟩
  refine hK.out _ _ (hHeld.trans gv1) (fun _ => ?_)
  replace hHeld := hHeld.trans gv1
  clear hK K
  refine wpAnyH_ready (rs := [16]) (by kernel_rfl) (by simp) ?_
  refine AllReadyH.cons rfl (fun K hK => ?_) AllReadyH.nil
  go_simp
  refine (HC7.out _).mono ?_
  rintro e v2 ⟨rfl, gv2⟩
  refine hK.out _ _ (hHeld.trans gv2) (fun _ => ?_)
  replace hHeld := hHeld.trans gv2
  clear hK K
  refine rg_take (i := 17) (v := (.bool cb)) (some 82) rfl rfl (by kernel_rfl) (by kernel_rfl) (by kernel_rfl) (fun _ _ _ h => h) (Or.inl ⟨by rfl, fun _ _ => by go_simp⟩) hHeld ?_
  simp only [Act.put, List.setIfInBounds_toArray, List.set_cons_zero, List.set_cons_succ]
  refine rg_take (i := 18) (v := (.bool true)) (some 83) rfl rfl (by kernel_rfl) (by kernel_rfl) (by kernel_rfl) (fun _ _ _ h => h) (Or.inl ⟨by rfl, fun _ _ => by go_simp⟩) hHeld ?_
  simp only [Act.put, List.setIfInBounds_toArray, List.set_cons_zero, List.set_cons_succ]
  refine rg_take (i := 19) (v := (.bool true)) (some 84) rfl rfl (by kernel_rfl) (by kernel_rfl) (by kernel_rfl) (fun _ _ _ h => h) (Or.inl ⟨by rfl, fun _ _ => by go_simp⟩) hHeld ?_
  simp only [Act.put, List.setIfInBounds_toArray, List.set_cons_zero, List.set_cons_succ]
  refine rg_take (i := 20) (v := (.bool true)) (some 4) rfl rfl (by kernel_rfl) (by kernel_rfl) (by kernel_rfl) (fun _ _ _ h => h) (Or.inl ⟨by rfl, fun _ _ => by go_simp⟩) hHeld ?_
  simp only [Act.put, List.setIfInBounds_toArray, List.set_cons_zero, List.set_cons_succ]
  refine wpAnyH_done (by kernel_rfl) ?_ _
  go_wp2
  go_ret
  exact ⟨rfl, HK6.out.trans hHeld⟩
theorem walkMoveMakes (p : Ps) (hB : Brd p.B) (m : Mv) (w : World) (hT : TabM w) :
    Calls Tryd.prog 3 #[.agg (pl p).toArray, .agg (ml m).toArray] w fun e w' => e = .returned (.bool true) ∧ Kept w w' := by
  cases h : okM p m
  · exact makes_no p hB m h w hT
  · by_cases ht : 0 ≤ takeI p m
    · exact makes_take p hB m h ht w hT
    · exact makes_not p hB m h ht w hT
end Go.Proofs.YtliibpahnkeogaaDoor
