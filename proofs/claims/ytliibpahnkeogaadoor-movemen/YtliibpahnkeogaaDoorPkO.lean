/- The document's Formed. (Written by wip/mkmvj.py.). -/
import Derived.Test.YtliibpahnkeogaaDoorPkN
namespace Go.Proofs.YtliibpahnkeogaaDoor
open Go.RowKit
set_option linter.unusedVariables false
set_option linter.unusedSimpArgs false
set_option maxRecDepth 100000

theorem rside_k (m : Int) (w : World) : Calls Tryd.prog 46 #[.int .i64 m] w fun e w' => e = .returned (.int .i64 (sideI m)) ∧ Kept w w' :=
  (rside_any m w).mono fun _ _ ⟨a, b⟩ => ⟨a, b ▸ Kept.refl _⟩
theorem rright_k (s : Int) (w : World) : Calls Tryd.prog 45 #[.int .i64 s] w fun e w' => e = .returned (.bool (onB s)) ∧ Kept w w' := by
  unfold onB
  by_cases h : 0 ≤ s ∧ s < 64
  · rw [decide_eq_true h]; exact (rright_yes s w h.1 h.2).mono fun _ _ ⟨a, b⟩ => ⟨a, b ▸ Kept.refl _⟩
  · rw [decide_eq_false h]; exact (rright_no s w (by omega)).mono fun _ _ ⟨a, b⟩ => ⟨a, b ▸ Kept.refl _⟩
theorem rformed_f (p : Ps) (hB : Brd p.B) (t01 : p.t = 0 ∨ p.t = 1) (m : Mv) (h : onB m.f = false) (w : World) :
    Calls Tryd.prog 17 #[.agg (pl p).toArray, .agg (ml m).toArray] w fun e w' => e = .returned (.bool (formB p m)) ∧ Kept w w' := by
  have HP : Hid (PAt _ _ p) := ⟨hB.1, heap_alloc2_old w (.cells (pl p).toArray 26) (.cells (ml m).toArray 28)⟩
  have HM : Hid (MAt _ _ m) := ⟨heap_alloc2_new w (.cells (pl p).toArray 26) (.cells (ml m).toArray 28)⟩
  have HK0 := Lib.hid (((Kept.refl w).alloc (.cells (pl p).toArray 26)).alloc (.cells (ml m).toArray 28))
  have HV : Hid (formB p m = false) := by
    show _ = _
    have : ¬ (0 ≤ m.f ∧ m.f < 64) := by simpa [onB] using h
    unfold formB manA
    rw [if_neg this, side_zero, show ((-1 : Int) == p.t) = false from beq_eq_false_iff_ne.2 (by omega)]
    rfl
  have HC := Lib.hid (rright_k m.f)
  rw [h] at HC
  have cf := HM.out.f
  clear hB t01 h
  go_enter Tryd.func17, Tryd.ntmps17
  go_wp2_with fail
  refine (HC.out _).mono ?_
  rintro e w1 ⟨rfl, k1⟩
  have HK1 := Lib.hid (HK0.out.trans k1)
  clear k1 cf
  go_wp2
  go_ret
  exact ⟨by rw [HV.out]; rfl, HK1.out⟩
theorem rformed_t (p : Ps) (hB : Brd p.B) (m : Mv) (hf : onB m.f = true) (h : onB m.t = false) (w : World) :
    Calls Tryd.prog 17 #[.agg (pl p).toArray, .agg (ml m).toArray] w fun e w' => e = .returned (.bool (formB p m)) ∧ Kept w w' := by
  have HP : Hid (PAt _ _ p) := ⟨hB.1, heap_alloc2_old w (.cells (pl p).toArray 26) (.cells (ml m).toArray 28)⟩
  have HM : Hid (MAt _ _ m) := ⟨heap_alloc2_new w (.cells (pl p).toArray 26) (.cells (ml m).toArray 28)⟩
  have HK0 := Lib.hid (((Kept.refl w).alloc (.cells (pl p).toArray 26)).alloc (.cells (ml m).toArray 28))
  have HV : Hid (formB p m = false) := by show _ = _; unfold formB; rw [h]; simp
  have HC := Lib.hid (rright_k m.f)
  have HC2 := Lib.hid (rright_k m.t)
  rw [hf] at HC
  rw [h] at HC2
  have cf := HM.out.f
  clear hB h hf
  go_enter Tryd.func17, Tryd.ntmps17
  go_wp2_with fail
  refine (HC.out _).mono ?_
  rintro e w1 ⟨rfl, k1⟩
  have HK1 := Lib.hid (HK0.out.trans k1)
  have HM1 := Lib.hid (MAt.kept HM.out k1)
  have ct := HM1.out.t
  clear k1 cf
  go_wp2_with fail
  refine (HC2.out _).mono ?_
  rintro e w2 ⟨rfl, k2⟩
  have HK2 := Lib.hid (HK1.out.trans k2)
  clear k2 ct
  go_wp2
  go_ret
  exact ⟨by rw [HV.out]; rfl, HK2.out⟩
theorem i8_i64 {B : List Int} (hB : Brd B) {k : Nat} (hk : k < 64) : IntKind.i64.wrap (B.getD k 0) = B.getD k 0 := by
  have := hB.2 k hk
  exact IntWalk.i64_in _ (by omega)
theorem promo_turn (n : Int) : ((true == (n != 0)) && promoB n) = (decide (2 ≤ n) && decide (n ≤ 5)) := by
  rw [Bool.eq_iff_iff]
  simp only [promoB, Bool.and_eq_true, Bool.or_eq_true, beq_iff_eq, decide_eq_true_eq, bne_iff_ne]
  constructor
  · rintro ⟨h1, h2⟩
    have h1' : n ≠ 0 := bne_iff_ne.1 h1.symm
    exact h2.resolve_left h1'
  · intro h
    exact ⟨(bne_iff_ne.2 (by omega)).symm, .inr h⟩
theorem promo_stay (n : Int) : ((false == (n != 0)) && promoB n) = (n == 0) := by
  rw [Bool.eq_iff_iff]
  simp only [promoB, Bool.and_eq_true, Bool.or_eq_true, beq_iff_eq, decide_eq_true_eq, bne_iff_ne]
  constructor
  · rintro ⟨h1, h2⟩
    by_cases h : n = 0
    · exact h
    · have := (bne_iff_ne (a := n) (b := 0)).2 h
      rw [← h1] at this; cases this
  · intro h
    subst h
    exact ⟨rfl, .inl rfl⟩
set_option maxHeartbeats 2000000 in
theorem rformed1 (p : Ps) (hB : Brd p.B) (m : Mv) (f t : Nat) (hf : m.f = f) (ht : m.t = t) (f1 : f < 64) (t1 : t < 64) (h1 : (sideI (manA p.B m.f) == p.t) = false) (w : World) :
    Calls Tryd.prog 17 #[.agg (pl p).toArray, .agg (ml m).toArray] w fun e w' => e = .returned (.bool (formB p m)) ∧ Kept w w' := by
  have HP : Hid (PAt _ _ p) := ⟨hB.1, heap_alloc2_old w (.cells (pl p).toArray 26) (.cells (ml m).toArray 28)⟩
  have HM : Hid (MAt _ _ m) := ⟨heap_alloc2_new w (.cells (pl p).toArray 26) (.cells (ml m).toArray 28)⟩
  have HK0 := Lib.hid (((Kept.refl w).alloc (.cells (pl p).toArray 26)).alloc (.cells (ml m).toArray 28))
  have hpl : Hid (p.B.length = 64) := hB.1
  have hon1 : onB m.f = true := by unfold onB; simp; omega
  have hon2 : onB m.t = true := by unfold onB; simp; omega
  have HC := Lib.hid (rright_k m.f)
  have HC2 := Lib.hid (rright_k m.t)
  rw [hon1, hf] at HC
  rw [hon2, ht] at HC2
  have em : manA p.B m.f = p.B.getD f 0 := by unfold manA bAt; rw [if_pos (by omega), hf, Int.toNat_natCast]
  have en : manA p.B m.t = p.B.getD t 0 := by unfold manA bAt; rw [if_pos (by omega), ht, Int.toNat_natCast]
  have xf := HM.out.f
  rw [hf] at xf
  have hcf := Lib.hid xf
  have xt := HM.out.t
  rw [ht] at xt
  have hct := Lib.hid xt
  have HQ1 := Lib.hid (HP.out.sq f f1)
  have HQ2 := Lib.hid (HP.out.sq t t1)
  have w1 := i8_i64 hB f1
  have w2 := i8_i64 hB t1
  have HPw := Lib.hid (rpawn_is p.B hB f f1)
  have HRk := Lib.hid (fun w => rrank_k (t : Int) w (by omega) (by omega))
  have hfI : (f : Int) < 64 := by omega
  have htI : (t : Int) < 64 := by omega
  rw [em] at h1
  have HV : Hid (formB p m = false) := by show _ = _; unfold formB; rw [em, h1]; rfl
  have h1' : (sideI (p.B.getD f 0) != p.t) = true := by rw [bne, h1]; rfl
  clear hB hon1 hon2 em en hf ht xt
  generalize p.B.getD f 0 = x at *
  generalize p.B.getD t 0 = y at *
  go_enter Tryd.func17, Tryd.ntmps17
  go_wp2_with fail
  refine (HC.out _).mono ?_
  rintro e v1 ⟨rfl, k1⟩
  have HK1 := Lib.hid (HK0.out.trans k1)
  have hct1 := Lib.hid (kept_cell k1 hct.out)
  have xt := hct1.out
  have KK1 := Lib.hid k1
  clear k1 xf
  go_wp2_with fail
  refine (HC2.out _).mono ?_
  rintro e v2 ⟨rfl, k2⟩
  have HK2 := Lib.hid (HK1.out.trans k2)
  have KK2 := Lib.hid (KK1.out.trans k2)
  have HP2 := Lib.hid (HP.out.kept KK2.out)
  have HM2 := Lib.hid (MAt.kept HM.out KK2.out)
  have hcf2 := Lib.hid (kept_cell KK2.out hcf.out)
  have hct2 := Lib.hid (kept_cell KK2.out hct.out)
  have HQ12 := Lib.hid (kept_cell KK2.out HQ1.out)
  have HQ22 := Lib.hid (kept_cell KK2.out HQ2.out)
  clear k2 xt
  go_wp2
  refine wp_region_held_drew (S := Kept _) (by kernel_rfl) (Kept.refl _).drew (fun hHeld => ?_)
  refine rg_take (i := 0) (v := (.pointer (some ⟨w.heap.size + 1, 0, none⟩))) (some 17) rfl rfl (by kernel_rfl) (by kernel_rfl) (by kernel_rfl) (fun _ _ _ h => h) (Or.inl ⟨by rfl, fun _ _ => by go_simp⟩) hHeld ?_
  simp only [Act.put, List.setIfInBounds_toArray, List.set_cons_zero, List.set_cons_succ]
  refine rg_take (i := 1) (v := (.int .i64 ↑f)) (some 18) rfl rfl (by kernel_rfl) (by kernel_rfl) (by kernel_rfl) (fun _ _ _ h => h) (Or.inl ⟨by rfl, fun w' h => by have h' := kept_cell h (hcf2.out); go_simp⟩) hHeld ?_
  simp only [Act.put, List.setIfInBounds_toArray, List.set_cons_zero, List.set_cons_succ]
  refine rg_take (i := 2) (v := (.pointer (some ⟨w.heap.size, 0, none⟩))) (some 19) rfl rfl (by kernel_rfl) (by kernel_rfl) (by kernel_rfl) (fun _ _ _ h => h) (Or.inl ⟨by rfl, fun _ _ => by go_simp⟩) hHeld ?_
  simp only [Act.put, List.setIfInBounds_toArray, List.set_cons_zero, List.set_cons_succ]
  refine rg_take (i := 3) (v := (.pointer (some ⟨w.heap.size, f, none⟩))) (some 20) rfl rfl (by kernel_rfl) (by kernel_rfl) (by kernel_rfl) (fun _ _ _ h => h) (Or.inl ⟨by rfl, fun _ _ => by go_simp⟩) hHeld ?_
  simp only [Act.put, List.setIfInBounds_toArray, List.set_cons_zero, List.set_cons_succ]
  refine rg_take (i := 4) (v := (.int .i8 x)) (some 21) rfl rfl (by kernel_rfl) (by kernel_rfl) (by kernel_rfl) (fun _ _ _ h => h) (Or.inl ⟨by rfl, fun w' h => by have h' := kept_cell h (HQ12.out); go_simp⟩) hHeld ?_
  simp only [Act.put, List.setIfInBounds_toArray, List.set_cons_zero, List.set_cons_succ]
  refine rg_take (i := 5) (v := (.int .i64 x)) (some 22) rfl rfl (by kernel_rfl) (by kernel_rfl) (by kernel_rfl) (fun _ _ _ h => h) (Or.inl ⟨by rfl, fun _ _ => by go_simp⟩) hHeld ?_
  simp only [Act.put, List.setIfInBounds_toArray, List.set_cons_zero, List.set_cons_succ]
  refine rg_take (i := 7) (v := (.pointer (some ⟨w.heap.size, 64, none⟩))) (some 24) rfl rfl (by kernel_rfl) (by kernel_rfl) (by kernel_rfl) (fun _ _ _ h => h) (Or.inl ⟨by rfl, fun _ _ => by go_simp⟩) hHeld ?_
  simp only [Act.put, List.setIfInBounds_toArray, List.set_cons_zero, List.set_cons_succ]
  refine rg_take (i := 8) (v := (.int .i64 p.t)) (some 25) rfl rfl (by kernel_rfl) (by kernel_rfl) (by kernel_rfl) (fun _ _ _ h => h) (Or.inl ⟨by rfl, fun w' h => by have h' := kept_cell h (HP2.out.turn); go_simp⟩) hHeld ?_
  simp only [Act.put, List.setIfInBounds_toArray, List.set_cons_zero, List.set_cons_succ]
  refine wpAnyH_ready (rs := [6]) (by kernel_rfl) (by simp) ?_
  refine AllReadyH.cons rfl (fun K hK => ?_) AllReadyH.nil
  go_simp
  refine (rside_k x _).mono ?_
  rintro e v3 ⟨rfl, gv3⟩
  refine hK.out _ _ (hHeld.trans gv3) (fun _ => ?_)
  replace hHeld := hHeld.trans gv3
  clear hK K
  refine rg_take (i := 9) (v := (.bool true)) (some 26) rfl rfl (by kernel_rfl) (by kernel_rfl) (by kernel_rfl) (fun _ _ _ h => h) (Or.inl ⟨by rfl, fun _ _ => by go_simp⟩) hHeld ?_
  simp only [Act.put, List.setIfInBounds_toArray, List.set_cons_zero, List.set_cons_succ]
  refine rg_take (i := 10) (v := (.bool true)) (some 27) rfl rfl (by kernel_rfl) (by kernel_rfl) (by kernel_rfl) (fun _ _ _ h => h) (Or.inl ⟨by rfl, fun _ _ => by go_simp⟩) hHeld ?_
  simp only [Act.put, List.setIfInBounds_toArray, List.set_cons_zero, List.set_cons_succ]
  refine rg_take (i := 11) (some 28) rfl rfl (by kernel_rfl) (by kernel_rfl) (by kernel_rfl) (fun _ _ _ h => h) (Or.inr ⟨by rfl, rfl⟩) hHeld ?_
  simp only [Act.put, List.setIfInBounds_toArray, List.set_cons_zero, List.set_cons_succ]
  refine rg_take (i := 12) (some 29) rfl rfl (by kernel_rfl) (by kernel_rfl) (by kernel_rfl) (fun _ _ _ h => h) (Or.inr ⟨by rfl, rfl⟩) hHeld ?_
  simp only [Act.put, List.setIfInBounds_toArray, List.set_cons_zero, List.set_cons_succ]
  refine rg_take (i := 13) (some 30) rfl rfl (by kernel_rfl) (by kernel_rfl) (by kernel_rfl) (fun _ _ _ h => h) (Or.inr ⟨by rfl, rfl⟩) hHeld ?_
  simp only [Act.put, List.setIfInBounds_toArray, List.set_cons_zero, List.set_cons_succ]
  refine rg_take (i := 14) (some 31) rfl rfl (by kernel_rfl) (by kernel_rfl) (by kernel_rfl) (fun _ _ _ h => h) (Or.inr ⟨by rfl, rfl⟩) hHeld ?_
  simp only [Act.put, List.setIfInBounds_toArray, List.set_cons_zero, List.set_cons_succ]
  refine rg_take (i := 15) (some 32) rfl rfl (by kernel_rfl) (by kernel_rfl) (by kernel_rfl) (fun _ _ _ h => h) (Or.inr ⟨by rfl, rfl⟩) hHeld ?_
  simp only [Act.put, List.setIfInBounds_toArray, List.set_cons_zero, List.set_cons_succ]
  refine rg_take (i := 16) (some 33) rfl rfl (by kernel_rfl) (by kernel_rfl) (by kernel_rfl) (fun _ _ _ h => h) (Or.inr ⟨by rfl, rfl⟩) hHeld ?_
  simp only [Act.put, List.setIfInBounds_toArray, List.set_cons_zero, List.set_cons_succ]
  refine rg_take (i := 17) (some 34) rfl rfl (by kernel_rfl) (by kernel_rfl) (by kernel_rfl) (fun _ _ _ h => h) (Or.inr ⟨by rfl, rfl⟩) hHeld ?_
  simp only [Act.put, List.setIfInBounds_toArray, List.set_cons_zero, List.set_cons_succ]
  refine rg_take (i := 18) (some 35) rfl rfl (by kernel_rfl) (by kernel_rfl) (by kernel_rfl) (fun _ _ _ h => h) (Or.inr ⟨by rfl, rfl⟩) hHeld ?_
  simp only [Act.put, List.setIfInBounds_toArray, List.set_cons_zero, List.set_cons_succ]
  refine rg_take (i := 19) (some 36) rfl rfl (by kernel_rfl) (by kernel_rfl) (by kernel_rfl) (fun _ _ _ h => h) (Or.inr ⟨by rfl, rfl⟩) hHeld ?_
  simp only [Act.put, List.setIfInBounds_toArray, List.set_cons_zero, List.set_cons_succ]
  refine rg_take (i := 20) (some 37) rfl rfl (by kernel_rfl) (by kernel_rfl) (by kernel_rfl) (fun _ _ _ h => h) (Or.inr ⟨by rfl, rfl⟩) hHeld ?_
  simp only [Act.put, List.setIfInBounds_toArray, List.set_cons_zero, List.set_cons_succ]
  refine rg_take (i := 21) (v := (.bool true)) (some 38) rfl rfl (by kernel_rfl) (by kernel_rfl) (by kernel_rfl) (fun _ _ _ h => h) (Or.inl ⟨by rfl, fun _ _ => by go_simp⟩) hHeld ?_
  simp only [Act.put, List.setIfInBounds_toArray, List.set_cons_zero, List.set_cons_succ]
  refine wpAnyH_done (by kernel_rfl) ?_ _
  go_wp2
  go_ret
  exact ⟨by rw [HV.out]; rfl, HK2.out.trans hHeld⟩
set_option maxHeartbeats 2000000 in
theorem rformed2 (p : Ps) (hB : Brd p.B) (m : Mv) (f t : Nat) (hf : m.f = f) (ht : m.t = t) (f1 : f < 64) (t1 : t < 64) (h1 : (sideI (manA p.B m.f) == p.t) = true) (h3 : (sideI (manA p.B m.t) == p.t) = true) (w : World) :
    Calls Tryd.prog 17 #[.agg (pl p).toArray, .agg (ml m).toArray] w fun e w' => e = .returned (.bool (formB p m)) ∧ Kept w w' := by
  have HP : Hid (PAt _ _ p) := ⟨hB.1, heap_alloc2_old w (.cells (pl p).toArray 26) (.cells (ml m).toArray 28)⟩
  have HM : Hid (MAt _ _ m) := ⟨heap_alloc2_new w (.cells (pl p).toArray 26) (.cells (ml m).toArray 28)⟩
  have HK0 := Lib.hid (((Kept.refl w).alloc (.cells (pl p).toArray 26)).alloc (.cells (ml m).toArray 28))
  have hpl : Hid (p.B.length = 64) := hB.1
  have hon1 : onB m.f = true := by unfold onB; simp; omega
  have hon2 : onB m.t = true := by unfold onB; simp; omega
  have HC := Lib.hid (rright_k m.f)
  have HC2 := Lib.hid (rright_k m.t)
  rw [hon1, hf] at HC
  rw [hon2, ht] at HC2
  have em : manA p.B m.f = p.B.getD f 0 := by unfold manA bAt; rw [if_pos (by omega), hf, Int.toNat_natCast]
  have en : manA p.B m.t = p.B.getD t 0 := by unfold manA bAt; rw [if_pos (by omega), ht, Int.toNat_natCast]
  have xf := HM.out.f
  rw [hf] at xf
  have hcf := Lib.hid xf
  have xt := HM.out.t
  rw [ht] at xt
  have hct := Lib.hid xt
  have HQ1 := Lib.hid (HP.out.sq f f1)
  have HQ2 := Lib.hid (HP.out.sq t t1)
  have w1 := i8_i64 hB f1
  have w2 := i8_i64 hB t1
  have HPw := Lib.hid (rpawn_is p.B hB f f1)
  have HRk := Lib.hid (fun w => rrank_k (t : Int) w (by omega) (by omega))
  have hfI : (f : Int) < 64 := by omega
  have htI : (t : Int) < 64 := by omega
  rw [em] at h1
  have HV : Hid (formB p m = false) := by show _ = _; unfold formB; rw [h3]; simp
  rw [en] at h3
  have h1' : (sideI (p.B.getD f 0) != p.t) = false := by rw [bne, h1]; rfl
  clear hB hon1 hon2 em en hf ht xt
  generalize p.B.getD f 0 = x at *
  generalize p.B.getD t 0 = y at *
  go_enter Tryd.func17, Tryd.ntmps17
  go_wp2_with fail
  refine (HC.out _).mono ?_
  rintro e v1 ⟨rfl, k1⟩
  have HK1 := Lib.hid (HK0.out.trans k1)
  have hct1 := Lib.hid (kept_cell k1 hct.out)
  have xt := hct1.out
  have KK1 := Lib.hid k1
  clear k1 xf
  go_wp2_with fail
  refine (HC2.out _).mono ?_
  rintro e v2 ⟨rfl, k2⟩
  have HK2 := Lib.hid (HK1.out.trans k2)
  have KK2 := Lib.hid (KK1.out.trans k2)
  have HP2 := Lib.hid (HP.out.kept KK2.out)
  have HM2 := Lib.hid (MAt.kept HM.out KK2.out)
  have hcf2 := Lib.hid (kept_cell KK2.out hcf.out)
  have hct2 := Lib.hid (kept_cell KK2.out hct.out)
  have HQ12 := Lib.hid (kept_cell KK2.out HQ1.out)
  have HQ22 := Lib.hid (kept_cell KK2.out HQ2.out)
  clear k2 xt
  go_wp2
  refine wp_region_held_drew (S := Kept _) (by kernel_rfl) (Kept.refl _).drew (fun hHeld => ?_)
  refine rg_take (i := 0) (v := (.pointer (some ⟨w.heap.size + 1, 0, none⟩))) (some 17) rfl rfl (by kernel_rfl) (by kernel_rfl) (by kernel_rfl) (fun _ _ _ h => h) (Or.inl ⟨by rfl, fun _ _ => by go_simp⟩) hHeld ?_
  simp only [Act.put, List.setIfInBounds_toArray, List.set_cons_zero, List.set_cons_succ]
  refine rg_take (i := 1) (v := (.int .i64 ↑f)) (some 18) rfl rfl (by kernel_rfl) (by kernel_rfl) (by kernel_rfl) (fun _ _ _ h => h) (Or.inl ⟨by rfl, fun w' h => by have h' := kept_cell h (hcf2.out); go_simp⟩) hHeld ?_
  simp only [Act.put, List.setIfInBounds_toArray, List.set_cons_zero, List.set_cons_succ]
  refine rg_take (i := 2) (v := (.pointer (some ⟨w.heap.size, 0, none⟩))) (some 19) rfl rfl (by kernel_rfl) (by kernel_rfl) (by kernel_rfl) (fun _ _ _ h => h) (Or.inl ⟨by rfl, fun _ _ => by go_simp⟩) hHeld ?_
  simp only [Act.put, List.setIfInBounds_toArray, List.set_cons_zero, List.set_cons_succ]
  refine rg_take (i := 3) (v := (.pointer (some ⟨w.heap.size, f, none⟩))) (some 20) rfl rfl (by kernel_rfl) (by kernel_rfl) (by kernel_rfl) (fun _ _ _ h => h) (Or.inl ⟨by rfl, fun _ _ => by go_simp⟩) hHeld ?_
  simp only [Act.put, List.setIfInBounds_toArray, List.set_cons_zero, List.set_cons_succ]
  refine rg_take (i := 4) (v := (.int .i8 x)) (some 21) rfl rfl (by kernel_rfl) (by kernel_rfl) (by kernel_rfl) (fun _ _ _ h => h) (Or.inl ⟨by rfl, fun w' h => by have h' := kept_cell h (HQ12.out); go_simp⟩) hHeld ?_
  simp only [Act.put, List.setIfInBounds_toArray, List.set_cons_zero, List.set_cons_succ]
  refine rg_take (i := 5) (v := (.int .i64 x)) (some 22) rfl rfl (by kernel_rfl) (by kernel_rfl) (by kernel_rfl) (fun _ _ _ h => h) (Or.inl ⟨by rfl, fun _ _ => by go_simp⟩) hHeld ?_
  simp only [Act.put, List.setIfInBounds_toArray, List.set_cons_zero, List.set_cons_succ]
  refine rg_take (i := 7) (v := (.pointer (some ⟨w.heap.size, 64, none⟩))) (some 24) rfl rfl (by kernel_rfl) (by kernel_rfl) (by kernel_rfl) (fun _ _ _ h => h) (Or.inl ⟨by rfl, fun _ _ => by go_simp⟩) hHeld ?_
  simp only [Act.put, List.setIfInBounds_toArray, List.set_cons_zero, List.set_cons_succ]
  refine rg_take (i := 8) (v := (.int .i64 p.t)) (some 25) rfl rfl (by kernel_rfl) (by kernel_rfl) (by kernel_rfl) (fun _ _ _ h => h) (Or.inl ⟨by rfl, fun w' h => by have h' := kept_cell h (HP2.out.turn); go_simp⟩) hHeld ?_
  simp only [Act.put, List.setIfInBounds_toArray, List.set_cons_zero, List.set_cons_succ]
  refine wpAnyH_ready (rs := [6]) (by kernel_rfl) (by simp) ?_
  refine AllReadyH.cons rfl (fun K hK => ?_) AllReadyH.nil
  go_simp
  refine (rside_k x _).mono ?_
  rintro e v3 ⟨rfl, gv3⟩
  refine hK.out _ _ (hHeld.trans gv3) (fun _ => ?_)
  replace hHeld := hHeld.trans gv3
  clear hK K
  refine rg_take (i := 9) (v := (.bool false)) (some 26) rfl rfl (by kernel_rfl) (by kernel_rfl) (by kernel_rfl) (fun _ _ _ h => h) (Or.inl ⟨by rfl, fun _ _ => by go_simp⟩) hHeld ?_
  simp only [Act.put, List.setIfInBounds_toArray, List.set_cons_zero, List.set_cons_succ]
  refine rg_take (i := 10) (v := (.bool false)) (some 27) rfl rfl (by kernel_rfl) (by kernel_rfl) (by kernel_rfl) (fun _ _ _ h => h) (Or.inl ⟨by rfl, fun _ _ => by go_simp⟩) hHeld ?_
  simp only [Act.put, List.setIfInBounds_toArray, List.set_cons_zero, List.set_cons_succ]
  refine rg_take (i := 11) (v := (.pointer (some ⟨w.heap.size + 1, 1, none⟩))) (some 28) rfl rfl (by kernel_rfl) (by kernel_rfl) (by kernel_rfl) (fun _ _ _ h => h) (Or.inl ⟨by rfl, fun _ _ => by go_simp⟩) hHeld ?_
  simp only [Act.put, List.setIfInBounds_toArray, List.set_cons_zero, List.set_cons_succ]
  refine rg_take (i := 12) (v := (.int .i64 ↑t)) (some 29) rfl rfl (by kernel_rfl) (by kernel_rfl) (by kernel_rfl) (fun _ _ _ h => h) (Or.inl ⟨by rfl, fun w' h => by have h' := kept_cell h (hct2.out); go_simp⟩) hHeld ?_
  simp only [Act.put, List.setIfInBounds_toArray, List.set_cons_zero, List.set_cons_succ]
  refine rg_take (i := 13) (v := (.pointer (some ⟨w.heap.size, 0, none⟩))) (some 30) rfl rfl (by kernel_rfl) (by kernel_rfl) (by kernel_rfl) (fun _ _ _ h => h) (Or.inl ⟨by rfl, fun _ _ => by go_simp⟩) hHeld ?_
  simp only [Act.put, List.setIfInBounds_toArray, List.set_cons_zero, List.set_cons_succ]
  refine rg_take (i := 14) (v := (.pointer (some ⟨w.heap.size, t, none⟩))) (some 31) rfl rfl (by kernel_rfl) (by kernel_rfl) (by kernel_rfl) (fun _ _ _ h => h) (Or.inl ⟨by rfl, fun _ _ => by go_simp⟩) hHeld ?_
  simp only [Act.put, List.setIfInBounds_toArray, List.set_cons_zero, List.set_cons_succ]
  refine rg_take (i := 15) (v := (.int .i8 y)) (some 32) rfl rfl (by kernel_rfl) (by kernel_rfl) (by kernel_rfl) (fun _ _ _ h => h) (Or.inl ⟨by rfl, fun w' h => by have h' := kept_cell h (HQ22.out); go_simp⟩) hHeld ?_
  simp only [Act.put, List.setIfInBounds_toArray, List.set_cons_zero, List.set_cons_succ]
  refine rg_take (i := 16) (v := (.int .i64 y)) (some 33) rfl rfl (by kernel_rfl) (by kernel_rfl) (by kernel_rfl) (fun _ _ _ h => h) (Or.inl ⟨by rfl, fun _ _ => by go_simp⟩) hHeld ?_
  simp only [Act.put, List.setIfInBounds_toArray, List.set_cons_zero, List.set_cons_succ]
  refine rg_take (i := 18) (v := (.pointer (some ⟨w.heap.size, 64, none⟩))) (some 35) rfl rfl (by kernel_rfl) (by kernel_rfl) (by kernel_rfl) (fun _ _ _ h => h) (Or.inl ⟨by rfl, fun _ _ => by go_simp⟩) hHeld ?_
  simp only [Act.put, List.setIfInBounds_toArray, List.set_cons_zero, List.set_cons_succ]
  refine rg_take (i := 19) (v := (.int .i64 p.t)) (some 36) rfl rfl (by kernel_rfl) (by kernel_rfl) (by kernel_rfl) (fun _ _ _ h => h) (Or.inl ⟨by rfl, fun w' h => by have h' := kept_cell h (HP2.out.turn); go_simp⟩) hHeld ?_
  simp only [Act.put, List.setIfInBounds_toArray, List.set_cons_zero, List.set_cons_succ]
  refine wpAnyH_ready (rs := [17]) (by kernel_rfl) (by simp) ?_
  refine AllReadyH.cons rfl (fun K hK => ?_) AllReadyH.nil
  go_simp
  refine (rside_k y _).mono ?_
  rintro e v4 ⟨rfl, gv4⟩
  refine hK.out _ _ (hHeld.trans gv4) (fun _ => ?_)
  replace hHeld := hHeld.trans gv4
  clear hK K
  refine rg_take (i := 20) (v := (.bool true)) (some 37) rfl rfl (by kernel_rfl) (by kernel_rfl) (by kernel_rfl) (fun _ _ _ h => h) (Or.inl ⟨by rfl, fun _ _ => by go_simp⟩) hHeld ?_
  simp only [Act.put, List.setIfInBounds_toArray, List.set_cons_zero, List.set_cons_succ]
  refine rg_take (i := 21) (v := (.bool true)) (some 38) rfl rfl (by kernel_rfl) (by kernel_rfl) (by kernel_rfl) (fun _ _ _ h => h) (Or.inl ⟨by rfl, fun _ _ => by go_simp⟩) hHeld ?_
  simp only [Act.put, List.setIfInBounds_toArray, List.set_cons_zero, List.set_cons_succ]
  refine wpAnyH_done (by kernel_rfl) ?_ _
  go_wp2
  go_ret
  exact ⟨by rw [HV.out]; rfl, HK2.out.trans hHeld⟩
set_option maxHeartbeats 2000000 in
theorem rformed3w (p : Ps) (hB : Brd p.B) (m : Mv) (f t : Nat) (hf : m.f = f) (ht : m.t = t) (f1 : f < 64) (t1 : t < 64) (h1 : (sideI (manA p.B m.f) == p.t) = true) (h3 : (sideI (manA p.B m.t) == p.t) = false) (h4 : (kindI (manA p.B m.f) == 1) = false) (hT : p.t = 0) (w : World) :
    Calls Tryd.prog 17 #[.agg (pl p).toArray, .agg (ml m).toArray] w fun e w' => e = .returned (.bool (formB p m)) ∧ Kept w w' := by
  have HP : Hid (PAt _ _ p) := ⟨hB.1, heap_alloc2_old w (.cells (pl p).toArray 26) (.cells (ml m).toArray 28)⟩
  have HM : Hid (MAt _ _ m) := ⟨heap_alloc2_new w (.cells (pl p).toArray 26) (.cells (ml m).toArray 28)⟩
  have HK0 := Lib.hid (((Kept.refl w).alloc (.cells (pl p).toArray 26)).alloc (.cells (ml m).toArray 28))
  have hpl : Hid (p.B.length = 64) := hB.1
  have hon1 : onB m.f = true := by unfold onB; simp; omega
  have hon2 : onB m.t = true := by unfold onB; simp; omega
  have HC := Lib.hid (rright_k m.f)
  have HC2 := Lib.hid (rright_k m.t)
  rw [hon1, hf] at HC
  rw [hon2, ht] at HC2
  have em : manA p.B m.f = p.B.getD f 0 := by unfold manA bAt; rw [if_pos (by omega), hf, Int.toNat_natCast]
  have en : manA p.B m.t = p.B.getD t 0 := by unfold manA bAt; rw [if_pos (by omega), ht, Int.toNat_natCast]
  have xf := HM.out.f
  rw [hf] at xf
  have hcf := Lib.hid xf
  have xt := HM.out.t
  rw [ht] at xt
  have hct := Lib.hid xt
  have HQ1 := Lib.hid (HP.out.sq f f1)
  have HQ2 := Lib.hid (HP.out.sq t t1)
  have w1 := i8_i64 hB f1
  have w2 := i8_i64 hB t1
  have HPw := Lib.hid (rpawn_is p.B hB f f1)
  have HRk := Lib.hid (fun w => rrank_k (t : Int) w (by omega) (by omega))
  have hfI : (f : Int) < 64 := by omega
  have htI : (t : Int) < 64 := by omega
  rw [em] at h1 h4
  have HV : Hid (formB p m = (m.p == 0)) := by
    show _ = _
    rw [← promo_stay]
    unfold formB turnsB
    rw [em, h1, hon2, h3, h4]; rfl
  rw [en] at h3
  have HTv := Lib.hid hT
  clear hT
  have h1' : (sideI (p.B.getD f 0) != p.t) = false := by rw [bne, h1]; rfl
  clear hB hon1 hon2 em en hf ht xt
  generalize p.B.getD f 0 = x at *
  generalize p.B.getD t 0 = y at *
  go_enter Tryd.func17, Tryd.ntmps17
  go_wp2_with fail
  refine (HC.out _).mono ?_
  rintro e v1 ⟨rfl, k1⟩
  have HK1 := Lib.hid (HK0.out.trans k1)
  have hct1 := Lib.hid (kept_cell k1 hct.out)
  have xt := hct1.out
  have KK1 := Lib.hid k1
  clear k1 xf
  go_wp2_with fail
  refine (HC2.out _).mono ?_
  rintro e v2 ⟨rfl, k2⟩
  have HK2 := Lib.hid (HK1.out.trans k2)
  have KK2 := Lib.hid (KK1.out.trans k2)
  have HP2 := Lib.hid (HP.out.kept KK2.out)
  have HM2 := Lib.hid (MAt.kept HM.out KK2.out)
  have hcf2 := Lib.hid (kept_cell KK2.out hcf.out)
  have hct2 := Lib.hid (kept_cell KK2.out hct.out)
  have HQ12 := Lib.hid (kept_cell KK2.out HQ1.out)
  have HQ22 := Lib.hid (kept_cell KK2.out HQ2.out)
  clear k2 xt
  go_wp2
  refine wp_region_held_drew (S := Kept _) (by kernel_rfl) (Kept.refl _).drew (fun hHeld => ?_)
  refine rg_take (i := 0) (v := (.pointer (some ⟨w.heap.size + 1, 0, none⟩))) (some 17) rfl rfl (by kernel_rfl) (by kernel_rfl) (by kernel_rfl) (fun _ _ _ h => h) (Or.inl ⟨by rfl, fun _ _ => by go_simp⟩) hHeld ?_
  simp only [Act.put, List.setIfInBounds_toArray, List.set_cons_zero, List.set_cons_succ]
  refine rg_take (i := 1) (v := (.int .i64 ↑f)) (some 18) rfl rfl (by kernel_rfl) (by kernel_rfl) (by kernel_rfl) (fun _ _ _ h => h) (Or.inl ⟨by rfl, fun w' h => by have h' := kept_cell h (hcf2.out); go_simp⟩) hHeld ?_
  simp only [Act.put, List.setIfInBounds_toArray, List.set_cons_zero, List.set_cons_succ]
  refine rg_take (i := 2) (v := (.pointer (some ⟨w.heap.size, 0, none⟩))) (some 19) rfl rfl (by kernel_rfl) (by kernel_rfl) (by kernel_rfl) (fun _ _ _ h => h) (Or.inl ⟨by rfl, fun _ _ => by go_simp⟩) hHeld ?_
  simp only [Act.put, List.setIfInBounds_toArray, List.set_cons_zero, List.set_cons_succ]
  refine rg_take (i := 3) (v := (.pointer (some ⟨w.heap.size, f, none⟩))) (some 20) rfl rfl (by kernel_rfl) (by kernel_rfl) (by kernel_rfl) (fun _ _ _ h => h) (Or.inl ⟨by rfl, fun _ _ => by go_simp⟩) hHeld ?_
  simp only [Act.put, List.setIfInBounds_toArray, List.set_cons_zero, List.set_cons_succ]
  refine rg_take (i := 4) (v := (.int .i8 x)) (some 21) rfl rfl (by kernel_rfl) (by kernel_rfl) (by kernel_rfl) (fun _ _ _ h => h) (Or.inl ⟨by rfl, fun w' h => by have h' := kept_cell h (HQ12.out); go_simp⟩) hHeld ?_
  simp only [Act.put, List.setIfInBounds_toArray, List.set_cons_zero, List.set_cons_succ]
  refine rg_take (i := 5) (v := (.int .i64 x)) (some 22) rfl rfl (by kernel_rfl) (by kernel_rfl) (by kernel_rfl) (fun _ _ _ h => h) (Or.inl ⟨by rfl, fun _ _ => by go_simp⟩) hHeld ?_
  simp only [Act.put, List.setIfInBounds_toArray, List.set_cons_zero, List.set_cons_succ]
  refine rg_take (i := 7) (v := (.pointer (some ⟨w.heap.size, 64, none⟩))) (some 24) rfl rfl (by kernel_rfl) (by kernel_rfl) (by kernel_rfl) (fun _ _ _ h => h) (Or.inl ⟨by rfl, fun _ _ => by go_simp⟩) hHeld ?_
  simp only [Act.put, List.setIfInBounds_toArray, List.set_cons_zero, List.set_cons_succ]
  refine rg_take (i := 8) (v := (.int .i64 p.t)) (some 25) rfl rfl (by kernel_rfl) (by kernel_rfl) (by kernel_rfl) (fun _ _ _ h => h) (Or.inl ⟨by rfl, fun w' h => by have h' := kept_cell h (HP2.out.turn); go_simp⟩) hHeld ?_
  simp only [Act.put, List.setIfInBounds_toArray, List.set_cons_zero, List.set_cons_succ]
  refine wpAnyH_ready (rs := [6]) (by kernel_rfl) (by simp) ?_
  refine AllReadyH.cons rfl (fun K hK => ?_) AllReadyH.nil
  go_simp
  refine (rside_k x _).mono ?_
  rintro e v3 ⟨rfl, gv3⟩
  refine hK.out _ _ (hHeld.trans gv3) (fun _ => ?_)
  replace hHeld := hHeld.trans gv3
  clear hK K
  refine rg_take (i := 9) (v := (.bool false)) (some 26) rfl rfl (by kernel_rfl) (by kernel_rfl) (by kernel_rfl) (fun _ _ _ h => h) (Or.inl ⟨by rfl, fun _ _ => by go_simp⟩) hHeld ?_
  simp only [Act.put, List.setIfInBounds_toArray, List.set_cons_zero, List.set_cons_succ]
  refine rg_take (i := 10) (v := (.bool false)) (some 27) rfl rfl (by kernel_rfl) (by kernel_rfl) (by kernel_rfl) (fun _ _ _ h => h) (Or.inl ⟨by rfl, fun _ _ => by go_simp⟩) hHeld ?_
  simp only [Act.put, List.setIfInBounds_toArray, List.set_cons_zero, List.set_cons_succ]
  refine rg_take (i := 11) (v := (.pointer (some ⟨w.heap.size + 1, 1, none⟩))) (some 28) rfl rfl (by kernel_rfl) (by kernel_rfl) (by kernel_rfl) (fun _ _ _ h => h) (Or.inl ⟨by rfl, fun _ _ => by go_simp⟩) hHeld ?_
  simp only [Act.put, List.setIfInBounds_toArray, List.set_cons_zero, List.set_cons_succ]
  refine rg_take (i := 12) (v := (.int .i64 ↑t)) (some 29) rfl rfl (by kernel_rfl) (by kernel_rfl) (by kernel_rfl) (fun _ _ _ h => h) (Or.inl ⟨by rfl, fun w' h => by have h' := kept_cell h (hct2.out); go_simp⟩) hHeld ?_
  simp only [Act.put, List.setIfInBounds_toArray, List.set_cons_zero, List.set_cons_succ]
  refine rg_take (i := 13) (v := (.pointer (some ⟨w.heap.size, 0, none⟩))) (some 30) rfl rfl (by kernel_rfl) (by kernel_rfl) (by kernel_rfl) (fun _ _ _ h => h) (Or.inl ⟨by rfl, fun _ _ => by go_simp⟩) hHeld ?_
  simp only [Act.put, List.setIfInBounds_toArray, List.set_cons_zero, List.set_cons_succ]
  refine rg_take (i := 14) (v := (.pointer (some ⟨w.heap.size, t, none⟩))) (some 31) rfl rfl (by kernel_rfl) (by kernel_rfl) (by kernel_rfl) (fun _ _ _ h => h) (Or.inl ⟨by rfl, fun _ _ => by go_simp⟩) hHeld ?_
  simp only [Act.put, List.setIfInBounds_toArray, List.set_cons_zero, List.set_cons_succ]
  refine rg_take (i := 15) (v := (.int .i8 y)) (some 32) rfl rfl (by kernel_rfl) (by kernel_rfl) (by kernel_rfl) (fun _ _ _ h => h) (Or.inl ⟨by rfl, fun w' h => by have h' := kept_cell h (HQ22.out); go_simp⟩) hHeld ?_
  simp only [Act.put, List.setIfInBounds_toArray, List.set_cons_zero, List.set_cons_succ]
  refine rg_take (i := 16) (v := (.int .i64 y)) (some 33) rfl rfl (by kernel_rfl) (by kernel_rfl) (by kernel_rfl) (fun _ _ _ h => h) (Or.inl ⟨by rfl, fun _ _ => by go_simp⟩) hHeld ?_
  simp only [Act.put, List.setIfInBounds_toArray, List.set_cons_zero, List.set_cons_succ]
  refine rg_take (i := 18) (v := (.pointer (some ⟨w.heap.size, 64, none⟩))) (some 35) rfl rfl (by kernel_rfl) (by kernel_rfl) (by kernel_rfl) (fun _ _ _ h => h) (Or.inl ⟨by rfl, fun _ _ => by go_simp⟩) hHeld ?_
  simp only [Act.put, List.setIfInBounds_toArray, List.set_cons_zero, List.set_cons_succ]
  refine rg_take (i := 19) (v := (.int .i64 p.t)) (some 36) rfl rfl (by kernel_rfl) (by kernel_rfl) (by kernel_rfl) (fun _ _ _ h => h) (Or.inl ⟨by rfl, fun w' h => by have h' := kept_cell h (HP2.out.turn); go_simp⟩) hHeld ?_
  simp only [Act.put, List.setIfInBounds_toArray, List.set_cons_zero, List.set_cons_succ]
  refine wpAnyH_ready (rs := [17]) (by kernel_rfl) (by simp) ?_
  refine AllReadyH.cons rfl (fun K hK => ?_) AllReadyH.nil
  go_simp
  refine (rside_k y _).mono ?_
  rintro e v4 ⟨rfl, gv4⟩
  refine hK.out _ _ (hHeld.trans gv4) (fun _ => ?_)
  replace hHeld := hHeld.trans gv4
  clear hK K
  refine rg_take (i := 20) (v := (.bool false)) (some 37) rfl rfl (by kernel_rfl) (by kernel_rfl) (by kernel_rfl) (fun _ _ _ h => h) (Or.inl ⟨by rfl, fun _ _ => by go_simp⟩) hHeld ?_
  simp only [Act.put, List.setIfInBounds_toArray, List.set_cons_zero, List.set_cons_succ]
  refine rg_take (i := 21) (v := (.bool false)) (some 38) rfl rfl (by kernel_rfl) (by kernel_rfl) (by kernel_rfl) (fun _ _ _ h => h) (Or.inl ⟨by rfl, fun _ _ => by go_simp⟩) hHeld ?_
  simp only [Act.put, List.setIfInBounds_toArray, List.set_cons_zero, List.set_cons_succ]
  refine wpAnyH_done (by kernel_rfl) ?_ _
  have KK5 := Lib.hid (KK2.out.trans hHeld)
  have HP5 := Lib.hid (HP.out.kept KK5.out)
  have HM5 := Lib.hid (MAt.kept HM.out KK5.out)
  have hcf5 := Lib.hid (kept_cell KK5.out hcf.out)
  have HK5 := Lib.hid (HK2.out.trans hHeld)
  clear hHeld
  have tt := HP5.out.turn
  have cf5 := hcf5.out
  rw [HTv.out] at tt
  rw [h4] at HPw
  go_wp2_with (first | (refine wpList_load_ps (by rfl) _ rfl _ rfl _ (HP5.out) ?_) | (refine wpList_load_pb (by rfl) _ rfl _ rfl _ (HP5.out) ?_) | (refine wpList_load_mv (by rfl) _ rfl _ rfl _ (HM5.out) ?_))
  refine (HPw.out _).mono ?_
  rintro e v6 ⟨rfl, k6⟩
  have KK6 := Lib.hid (KK5.out.trans k6)
  have HM6 := Lib.hid (MAt.kept HM.out KK6.out)
  have hct6 := Lib.hid (kept_cell KK6.out hct.out)
  have HK6 := Lib.hid (HK5.out.trans k6)
  clear k6 tt cf5
  have cp := HM6.out.p
  go_wp2
  go_ret
  exact ⟨by rw [HV.out]; rfl, HK6.out⟩
set_option maxHeartbeats 2000000 in
theorem rformed4wn (p : Ps) (hB : Brd p.B) (m : Mv) (f t : Nat) (hf : m.f = f) (ht : m.t = t) (f1 : f < 64) (t1 : t < 64) (h1 : (sideI (manA p.B m.f) == p.t) = true) (h3 : (sideI (manA p.B m.t) == p.t) = false) (h4 : (kindI (manA p.B m.f) == 1) = true) (hT : p.t = 0) (h5 : ((t : Int) / 8 == 7) = false) (w : World) :
    Calls Tryd.prog 17 #[.agg (pl p).toArray, .agg (ml m).toArray] w fun e w' => e = .returned (.bool (formB p m)) ∧ Kept w w' := by
  have HP : Hid (PAt _ _ p) := ⟨hB.1, heap_alloc2_old w (.cells (pl p).toArray 26) (.cells (ml m).toArray 28)⟩
  have HM : Hid (MAt _ _ m) := ⟨heap_alloc2_new w (.cells (pl p).toArray 26) (.cells (ml m).toArray 28)⟩
  have HK0 := Lib.hid (((Kept.refl w).alloc (.cells (pl p).toArray 26)).alloc (.cells (ml m).toArray 28))
  have hpl : Hid (p.B.length = 64) := hB.1
  have hon1 : onB m.f = true := by unfold onB; simp; omega
  have hon2 : onB m.t = true := by unfold onB; simp; omega
  have HC := Lib.hid (rright_k m.f)
  have HC2 := Lib.hid (rright_k m.t)
  rw [hon1, hf] at HC
  rw [hon2, ht] at HC2
  have em : manA p.B m.f = p.B.getD f 0 := by unfold manA bAt; rw [if_pos (by omega), hf, Int.toNat_natCast]
  have en : manA p.B m.t = p.B.getD t 0 := by unfold manA bAt; rw [if_pos (by omega), ht, Int.toNat_natCast]
  have xf := HM.out.f
  rw [hf] at xf
  have hcf := Lib.hid xf
  have xt := HM.out.t
  rw [ht] at xt
  have hct := Lib.hid xt
  have HQ1 := Lib.hid (HP.out.sq f f1)
  have HQ2 := Lib.hid (HP.out.sq t t1)
  have w1 := i8_i64 hB f1
  have w2 := i8_i64 hB t1
  have HPw := Lib.hid (rpawn_is p.B hB f f1)
  have HRk := Lib.hid (fun w => rrank_k (t : Int) w (by omega) (by omega))
  have hfI : (f : Int) < 64 := by omega
  have htI : (t : Int) < 64 := by omega
  rw [em] at h1 h4
  have HV : Hid (formB p m = (m.p == 0)) := by
    show _ = _
    rw [← promo_stay]
    unfold formB turnsB lastI
    rw [em, h1, hon2, h3, h4, hT, ht]
    simp only [if_true, if_false, show ((1 : Int) = 0) = False by simp]
    rw [h5]; rfl
  rw [en] at h3
  have HTv := Lib.hid hT
  clear hT
  generalize (t : Int) / 8 = rk at *
  have h1' : (sideI (p.B.getD f 0) != p.t) = false := by rw [bne, h1]; rfl
  clear hB hon1 hon2 em en hf ht xt
  generalize p.B.getD f 0 = x at *
  generalize p.B.getD t 0 = y at *
  go_enter Tryd.func17, Tryd.ntmps17
  go_wp2_with fail
  refine (HC.out _).mono ?_
  rintro e v1 ⟨rfl, k1⟩
  have HK1 := Lib.hid (HK0.out.trans k1)
  have hct1 := Lib.hid (kept_cell k1 hct.out)
  have xt := hct1.out
  have KK1 := Lib.hid k1
  clear k1 xf
  go_wp2_with fail
  refine (HC2.out _).mono ?_
  rintro e v2 ⟨rfl, k2⟩
  have HK2 := Lib.hid (HK1.out.trans k2)
  have KK2 := Lib.hid (KK1.out.trans k2)
  have HP2 := Lib.hid (HP.out.kept KK2.out)
  have HM2 := Lib.hid (MAt.kept HM.out KK2.out)
  have hcf2 := Lib.hid (kept_cell KK2.out hcf.out)
  have hct2 := Lib.hid (kept_cell KK2.out hct.out)
  have HQ12 := Lib.hid (kept_cell KK2.out HQ1.out)
  have HQ22 := Lib.hid (kept_cell KK2.out HQ2.out)
  clear k2 xt
  go_wp2
  refine wp_region_held_drew (S := Kept _) (by kernel_rfl) (Kept.refl _).drew (fun hHeld => ?_)
  refine rg_take (i := 0) (v := (.pointer (some ⟨w.heap.size + 1, 0, none⟩))) (some 17) rfl rfl (by kernel_rfl) (by kernel_rfl) (by kernel_rfl) (fun _ _ _ h => h) (Or.inl ⟨by rfl, fun _ _ => by go_simp⟩) hHeld ?_
  simp only [Act.put, List.setIfInBounds_toArray, List.set_cons_zero, List.set_cons_succ]
  refine rg_take (i := 1) (v := (.int .i64 ↑f)) (some 18) rfl rfl (by kernel_rfl) (by kernel_rfl) (by kernel_rfl) (fun _ _ _ h => h) (Or.inl ⟨by rfl, fun w' h => by have h' := kept_cell h (hcf2.out); go_simp⟩) hHeld ?_
  simp only [Act.put, List.setIfInBounds_toArray, List.set_cons_zero, List.set_cons_succ]
  refine rg_take (i := 2) (v := (.pointer (some ⟨w.heap.size, 0, none⟩))) (some 19) rfl rfl (by kernel_rfl) (by kernel_rfl) (by kernel_rfl) (fun _ _ _ h => h) (Or.inl ⟨by rfl, fun _ _ => by go_simp⟩) hHeld ?_
  simp only [Act.put, List.setIfInBounds_toArray, List.set_cons_zero, List.set_cons_succ]
  refine rg_take (i := 3) (v := (.pointer (some ⟨w.heap.size, f, none⟩))) (some 20) rfl rfl (by kernel_rfl) (by kernel_rfl) (by kernel_rfl) (fun _ _ _ h => h) (Or.inl ⟨by rfl, fun _ _ => by go_simp⟩) hHeld ?_
  simp only [Act.put, List.setIfInBounds_toArray, List.set_cons_zero, List.set_cons_succ]
  refine rg_take (i := 4) (v := (.int .i8 x)) (some 21) rfl rfl (by kernel_rfl) (by kernel_rfl) (by kernel_rfl) (fun _ _ _ h => h) (Or.inl ⟨by rfl, fun w' h => by have h' := kept_cell h (HQ12.out); go_simp⟩) hHeld ?_
  simp only [Act.put, List.setIfInBounds_toArray, List.set_cons_zero, List.set_cons_succ]
  refine rg_take (i := 5) (v := (.int .i64 x)) (some 22) rfl rfl (by kernel_rfl) (by kernel_rfl) (by kernel_rfl) (fun _ _ _ h => h) (Or.inl ⟨by rfl, fun _ _ => by go_simp⟩) hHeld ?_
  simp only [Act.put, List.setIfInBounds_toArray, List.set_cons_zero, List.set_cons_succ]
  refine rg_take (i := 7) (v := (.pointer (some ⟨w.heap.size, 64, none⟩))) (some 24) rfl rfl (by kernel_rfl) (by kernel_rfl) (by kernel_rfl) (fun _ _ _ h => h) (Or.inl ⟨by rfl, fun _ _ => by go_simp⟩) hHeld ?_
  simp only [Act.put, List.setIfInBounds_toArray, List.set_cons_zero, List.set_cons_succ]
  refine rg_take (i := 8) (v := (.int .i64 p.t)) (some 25) rfl rfl (by kernel_rfl) (by kernel_rfl) (by kernel_rfl) (fun _ _ _ h => h) (Or.inl ⟨by rfl, fun w' h => by have h' := kept_cell h (HP2.out.turn); go_simp⟩) hHeld ?_
  simp only [Act.put, List.setIfInBounds_toArray, List.set_cons_zero, List.set_cons_succ]
  refine wpAnyH_ready (rs := [6]) (by kernel_rfl) (by simp) ?_
  refine AllReadyH.cons rfl (fun K hK => ?_) AllReadyH.nil
  go_simp
  refine (rside_k x _).mono ?_
  rintro e v3 ⟨rfl, gv3⟩
  refine hK.out _ _ (hHeld.trans gv3) (fun _ => ?_)
  replace hHeld := hHeld.trans gv3
  clear hK K
  refine rg_take (i := 9) (v := (.bool false)) (some 26) rfl rfl (by kernel_rfl) (by kernel_rfl) (by kernel_rfl) (fun _ _ _ h => h) (Or.inl ⟨by rfl, fun _ _ => by go_simp⟩) hHeld ?_
  simp only [Act.put, List.setIfInBounds_toArray, List.set_cons_zero, List.set_cons_succ]
  refine rg_take (i := 10) (v := (.bool false)) (some 27) rfl rfl (by kernel_rfl) (by kernel_rfl) (by kernel_rfl) (fun _ _ _ h => h) (Or.inl ⟨by rfl, fun _ _ => by go_simp⟩) hHeld ?_
  simp only [Act.put, List.setIfInBounds_toArray, List.set_cons_zero, List.set_cons_succ]
  refine rg_take (i := 11) (v := (.pointer (some ⟨w.heap.size + 1, 1, none⟩))) (some 28) rfl rfl (by kernel_rfl) (by kernel_rfl) (by kernel_rfl) (fun _ _ _ h => h) (Or.inl ⟨by rfl, fun _ _ => by go_simp⟩) hHeld ?_
  simp only [Act.put, List.setIfInBounds_toArray, List.set_cons_zero, List.set_cons_succ]
  refine rg_take (i := 12) (v := (.int .i64 ↑t)) (some 29) rfl rfl (by kernel_rfl) (by kernel_rfl) (by kernel_rfl) (fun _ _ _ h => h) (Or.inl ⟨by rfl, fun w' h => by have h' := kept_cell h (hct2.out); go_simp⟩) hHeld ?_
  simp only [Act.put, List.setIfInBounds_toArray, List.set_cons_zero, List.set_cons_succ]
  refine rg_take (i := 13) (v := (.pointer (some ⟨w.heap.size, 0, none⟩))) (some 30) rfl rfl (by kernel_rfl) (by kernel_rfl) (by kernel_rfl) (fun _ _ _ h => h) (Or.inl ⟨by rfl, fun _ _ => by go_simp⟩) hHeld ?_
  simp only [Act.put, List.setIfInBounds_toArray, List.set_cons_zero, List.set_cons_succ]
  refine rg_take (i := 14) (v := (.pointer (some ⟨w.heap.size, t, none⟩))) (some 31) rfl rfl (by kernel_rfl) (by kernel_rfl) (by kernel_rfl) (fun _ _ _ h => h) (Or.inl ⟨by rfl, fun _ _ => by go_simp⟩) hHeld ?_
  simp only [Act.put, List.setIfInBounds_toArray, List.set_cons_zero, List.set_cons_succ]
  refine rg_take (i := 15) (v := (.int .i8 y)) (some 32) rfl rfl (by kernel_rfl) (by kernel_rfl) (by kernel_rfl) (fun _ _ _ h => h) (Or.inl ⟨by rfl, fun w' h => by have h' := kept_cell h (HQ22.out); go_simp⟩) hHeld ?_
  simp only [Act.put, List.setIfInBounds_toArray, List.set_cons_zero, List.set_cons_succ]
  refine rg_take (i := 16) (v := (.int .i64 y)) (some 33) rfl rfl (by kernel_rfl) (by kernel_rfl) (by kernel_rfl) (fun _ _ _ h => h) (Or.inl ⟨by rfl, fun _ _ => by go_simp⟩) hHeld ?_
  simp only [Act.put, List.setIfInBounds_toArray, List.set_cons_zero, List.set_cons_succ]
  refine rg_take (i := 18) (v := (.pointer (some ⟨w.heap.size, 64, none⟩))) (some 35) rfl rfl (by kernel_rfl) (by kernel_rfl) (by kernel_rfl) (fun _ _ _ h => h) (Or.inl ⟨by rfl, fun _ _ => by go_simp⟩) hHeld ?_
  simp only [Act.put, List.setIfInBounds_toArray, List.set_cons_zero, List.set_cons_succ]
  refine rg_take (i := 19) (v := (.int .i64 p.t)) (some 36) rfl rfl (by kernel_rfl) (by kernel_rfl) (by kernel_rfl) (fun _ _ _ h => h) (Or.inl ⟨by rfl, fun w' h => by have h' := kept_cell h (HP2.out.turn); go_simp⟩) hHeld ?_
  simp only [Act.put, List.setIfInBounds_toArray, List.set_cons_zero, List.set_cons_succ]
  refine wpAnyH_ready (rs := [17]) (by kernel_rfl) (by simp) ?_
  refine AllReadyH.cons rfl (fun K hK => ?_) AllReadyH.nil
  go_simp
  refine (rside_k y _).mono ?_
  rintro e v4 ⟨rfl, gv4⟩
  refine hK.out _ _ (hHeld.trans gv4) (fun _ => ?_)
  replace hHeld := hHeld.trans gv4
  clear hK K
  refine rg_take (i := 20) (v := (.bool false)) (some 37) rfl rfl (by kernel_rfl) (by kernel_rfl) (by kernel_rfl) (fun _ _ _ h => h) (Or.inl ⟨by rfl, fun _ _ => by go_simp⟩) hHeld ?_
  simp only [Act.put, List.setIfInBounds_toArray, List.set_cons_zero, List.set_cons_succ]
  refine rg_take (i := 21) (v := (.bool false)) (some 38) rfl rfl (by kernel_rfl) (by kernel_rfl) (by kernel_rfl) (fun _ _ _ h => h) (Or.inl ⟨by rfl, fun _ _ => by go_simp⟩) hHeld ?_
  simp only [Act.put, List.setIfInBounds_toArray, List.set_cons_zero, List.set_cons_succ]
  refine wpAnyH_done (by kernel_rfl) ?_ _
  have KK5 := Lib.hid (KK2.out.trans hHeld)
  have HP5 := Lib.hid (HP.out.kept KK5.out)
  have HM5 := Lib.hid (MAt.kept HM.out KK5.out)
  have hcf5 := Lib.hid (kept_cell KK5.out hcf.out)
  have HK5 := Lib.hid (HK2.out.trans hHeld)
  clear hHeld
  have tt := HP5.out.turn
  have cf5 := hcf5.out
  rw [HTv.out] at tt
  rw [h4] at HPw
  go_wp2_with (first | (refine wpList_load_ps (by rfl) _ rfl _ rfl _ (HP5.out) ?_) | (refine wpList_load_pb (by rfl) _ rfl _ rfl _ (HP5.out) ?_) | (refine wpList_load_mv (by rfl) _ rfl _ rfl _ (HM5.out) ?_))
  refine (HPw.out _).mono ?_
  rintro e v6 ⟨rfl, k6⟩
  have KK6 := Lib.hid (KK5.out.trans k6)
  have HM6 := Lib.hid (MAt.kept HM.out KK6.out)
  have hct6 := Lib.hid (kept_cell KK6.out hct.out)
  have HK6 := Lib.hid (HK5.out.trans k6)
  clear k6 tt cf5
  have ct6 := hct6.out
  go_wp2_with fail
  refine (HRk.out _).mono ?_
  rintro e v7 ⟨rfl, k7⟩
  have HM7 := Lib.hid (MAt.kept HM6.out k7)
  have HK7 := Lib.hid (HK6.out.trans k7)
  clear k7 ct6
  have cp := HM7.out.p
  go_wp2
  go_ret
  exact ⟨by rw [HV.out]; rfl, HK7.out⟩
set_option maxHeartbeats 2000000 in
theorem rformed4wy (p : Ps) (hB : Brd p.B) (m : Mv) (f t : Nat) (hf : m.f = f) (ht : m.t = t) (f1 : f < 64) (t1 : t < 64) (h1 : (sideI (manA p.B m.f) == p.t) = true) (h3 : (sideI (manA p.B m.t) == p.t) = false) (h4 : (kindI (manA p.B m.f) == 1) = true) (hT : p.t = 0) (h5 : ((t : Int) / 8 == 7) = true) (w : World) :
    Calls Tryd.prog 17 #[.agg (pl p).toArray, .agg (ml m).toArray] w fun e w' => e = .returned (.bool (formB p m)) ∧ Kept w w' := by
  have HP : Hid (PAt _ _ p) := ⟨hB.1, heap_alloc2_old w (.cells (pl p).toArray 26) (.cells (ml m).toArray 28)⟩
  have HM : Hid (MAt _ _ m) := ⟨heap_alloc2_new w (.cells (pl p).toArray 26) (.cells (ml m).toArray 28)⟩
  have HK0 := Lib.hid (((Kept.refl w).alloc (.cells (pl p).toArray 26)).alloc (.cells (ml m).toArray 28))
  have hpl : Hid (p.B.length = 64) := hB.1
  have hon1 : onB m.f = true := by unfold onB; simp; omega
  have hon2 : onB m.t = true := by unfold onB; simp; omega
  have HC := Lib.hid (rright_k m.f)
  have HC2 := Lib.hid (rright_k m.t)
  rw [hon1, hf] at HC
  rw [hon2, ht] at HC2
  have em : manA p.B m.f = p.B.getD f 0 := by unfold manA bAt; rw [if_pos (by omega), hf, Int.toNat_natCast]
  have en : manA p.B m.t = p.B.getD t 0 := by unfold manA bAt; rw [if_pos (by omega), ht, Int.toNat_natCast]
  have xf := HM.out.f
  rw [hf] at xf
  have hcf := Lib.hid xf
  have xt := HM.out.t
  rw [ht] at xt
  have hct := Lib.hid xt
  have HQ1 := Lib.hid (HP.out.sq f f1)
  have HQ2 := Lib.hid (HP.out.sq t t1)
  have w1 := i8_i64 hB f1
  have w2 := i8_i64 hB t1
  have HPw := Lib.hid (rpawn_is p.B hB f f1)
  have HRk := Lib.hid (fun w => rrank_k (t : Int) w (by omega) (by omega))
  have hfI : (f : Int) < 64 := by omega
  have htI : (t : Int) < 64 := by omega
  rw [em] at h1 h4
  have HV : Hid (formB p m = (decide (2 ≤ m.p) && decide (m.p ≤ 5))) := by
    show _ = _
    rw [← promo_turn]
    unfold formB turnsB lastI
    rw [em, h1, hon2, h3, h4, hT, ht]
    simp only [if_true, if_false, show ((1 : Int) = 0) = False by simp]
    rw [h5]; rfl
  rw [en] at h3
  have HTv := Lib.hid hT
  clear hT
  generalize (t : Int) / 8 = rk at *
  have h1' : (sideI (p.B.getD f 0) != p.t) = false := by rw [bne, h1]; rfl
  clear hB hon1 hon2 em en hf ht xt
  generalize p.B.getD f 0 = x at *
  generalize p.B.getD t 0 = y at *
  go_enter Tryd.func17, Tryd.ntmps17
  go_wp2_with fail
  refine (HC.out _).mono ?_
  rintro e v1 ⟨rfl, k1⟩
  have HK1 := Lib.hid (HK0.out.trans k1)
  have hct1 := Lib.hid (kept_cell k1 hct.out)
  have xt := hct1.out
  have KK1 := Lib.hid k1
  clear k1 xf
  go_wp2_with fail
  refine (HC2.out _).mono ?_
  rintro e v2 ⟨rfl, k2⟩
  have HK2 := Lib.hid (HK1.out.trans k2)
  have KK2 := Lib.hid (KK1.out.trans k2)
  have HP2 := Lib.hid (HP.out.kept KK2.out)
  have HM2 := Lib.hid (MAt.kept HM.out KK2.out)
  have hcf2 := Lib.hid (kept_cell KK2.out hcf.out)
  have hct2 := Lib.hid (kept_cell KK2.out hct.out)
  have HQ12 := Lib.hid (kept_cell KK2.out HQ1.out)
  have HQ22 := Lib.hid (kept_cell KK2.out HQ2.out)
  clear k2 xt
  go_wp2
  refine wp_region_held_drew (S := Kept _) (by kernel_rfl) (Kept.refl _).drew (fun hHeld => ?_)
  refine rg_take (i := 0) (v := (.pointer (some ⟨w.heap.size + 1, 0, none⟩))) (some 17) rfl rfl (by kernel_rfl) (by kernel_rfl) (by kernel_rfl) (fun _ _ _ h => h) (Or.inl ⟨by rfl, fun _ _ => by go_simp⟩) hHeld ?_
  simp only [Act.put, List.setIfInBounds_toArray, List.set_cons_zero, List.set_cons_succ]
  refine rg_take (i := 1) (v := (.int .i64 ↑f)) (some 18) rfl rfl (by kernel_rfl) (by kernel_rfl) (by kernel_rfl) (fun _ _ _ h => h) (Or.inl ⟨by rfl, fun w' h => by have h' := kept_cell h (hcf2.out); go_simp⟩) hHeld ?_
  simp only [Act.put, List.setIfInBounds_toArray, List.set_cons_zero, List.set_cons_succ]
  refine rg_take (i := 2) (v := (.pointer (some ⟨w.heap.size, 0, none⟩))) (some 19) rfl rfl (by kernel_rfl) (by kernel_rfl) (by kernel_rfl) (fun _ _ _ h => h) (Or.inl ⟨by rfl, fun _ _ => by go_simp⟩) hHeld ?_
  simp only [Act.put, List.setIfInBounds_toArray, List.set_cons_zero, List.set_cons_succ]
  refine rg_take (i := 3) (v := (.pointer (some ⟨w.heap.size, f, none⟩))) (some 20) rfl rfl (by kernel_rfl) (by kernel_rfl) (by kernel_rfl) (fun _ _ _ h => h) (Or.inl ⟨by rfl, fun _ _ => by go_simp⟩) hHeld ?_
  simp only [Act.put, List.setIfInBounds_toArray, List.set_cons_zero, List.set_cons_succ]
  refine rg_take (i := 4) (v := (.int .i8 x)) (some 21) rfl rfl (by kernel_rfl) (by kernel_rfl) (by kernel_rfl) (fun _ _ _ h => h) (Or.inl ⟨by rfl, fun w' h => by have h' := kept_cell h (HQ12.out); go_simp⟩) hHeld ?_
  simp only [Act.put, List.setIfInBounds_toArray, List.set_cons_zero, List.set_cons_succ]
  refine rg_take (i := 5) (v := (.int .i64 x)) (some 22) rfl rfl (by kernel_rfl) (by kernel_rfl) (by kernel_rfl) (fun _ _ _ h => h) (Or.inl ⟨by rfl, fun _ _ => by go_simp⟩) hHeld ?_
  simp only [Act.put, List.setIfInBounds_toArray, List.set_cons_zero, List.set_cons_succ]
  refine rg_take (i := 7) (v := (.pointer (some ⟨w.heap.size, 64, none⟩))) (some 24) rfl rfl (by kernel_rfl) (by kernel_rfl) (by kernel_rfl) (fun _ _ _ h => h) (Or.inl ⟨by rfl, fun _ _ => by go_simp⟩) hHeld ?_
  simp only [Act.put, List.setIfInBounds_toArray, List.set_cons_zero, List.set_cons_succ]
  refine rg_take (i := 8) (v := (.int .i64 p.t)) (some 25) rfl rfl (by kernel_rfl) (by kernel_rfl) (by kernel_rfl) (fun _ _ _ h => h) (Or.inl ⟨by rfl, fun w' h => by have h' := kept_cell h (HP2.out.turn); go_simp⟩) hHeld ?_
  simp only [Act.put, List.setIfInBounds_toArray, List.set_cons_zero, List.set_cons_succ]
  refine wpAnyH_ready (rs := [6]) (by kernel_rfl) (by simp) ?_
  refine AllReadyH.cons rfl (fun K hK => ?_) AllReadyH.nil
  go_simp
  refine (rside_k x _).mono ?_
  rintro e v3 ⟨rfl, gv3⟩
  refine hK.out _ _ (hHeld.trans gv3) (fun _ => ?_)
  replace hHeld := hHeld.trans gv3
  clear hK K
  refine rg_take (i := 9) (v := (.bool false)) (some 26) rfl rfl (by kernel_rfl) (by kernel_rfl) (by kernel_rfl) (fun _ _ _ h => h) (Or.inl ⟨by rfl, fun _ _ => by go_simp⟩) hHeld ?_
  simp only [Act.put, List.setIfInBounds_toArray, List.set_cons_zero, List.set_cons_succ]
  refine rg_take (i := 10) (v := (.bool false)) (some 27) rfl rfl (by kernel_rfl) (by kernel_rfl) (by kernel_rfl) (fun _ _ _ h => h) (Or.inl ⟨by rfl, fun _ _ => by go_simp⟩) hHeld ?_
  simp only [Act.put, List.setIfInBounds_toArray, List.set_cons_zero, List.set_cons_succ]
  refine rg_take (i := 11) (v := (.pointer (some ⟨w.heap.size + 1, 1, none⟩))) (some 28) rfl rfl (by kernel_rfl) (by kernel_rfl) (by kernel_rfl) (fun _ _ _ h => h) (Or.inl ⟨by rfl, fun _ _ => by go_simp⟩) hHeld ?_
  simp only [Act.put, List.setIfInBounds_toArray, List.set_cons_zero, List.set_cons_succ]
  refine rg_take (i := 12) (v := (.int .i64 ↑t)) (some 29) rfl rfl (by kernel_rfl) (by kernel_rfl) (by kernel_rfl) (fun _ _ _ h => h) (Or.inl ⟨by rfl, fun w' h => by have h' := kept_cell h (hct2.out); go_simp⟩) hHeld ?_
  simp only [Act.put, List.setIfInBounds_toArray, List.set_cons_zero, List.set_cons_succ]
  refine rg_take (i := 13) (v := (.pointer (some ⟨w.heap.size, 0, none⟩))) (some 30) rfl rfl (by kernel_rfl) (by kernel_rfl) (by kernel_rfl) (fun _ _ _ h => h) (Or.inl ⟨by rfl, fun _ _ => by go_simp⟩) hHeld ?_
  simp only [Act.put, List.setIfInBounds_toArray, List.set_cons_zero, List.set_cons_succ]
  refine rg_take (i := 14) (v := (.pointer (some ⟨w.heap.size, t, none⟩))) (some 31) rfl rfl (by kernel_rfl) (by kernel_rfl) (by kernel_rfl) (fun _ _ _ h => h) (Or.inl ⟨by rfl, fun _ _ => by go_simp⟩) hHeld ?_
  simp only [Act.put, List.setIfInBounds_toArray, List.set_cons_zero, List.set_cons_succ]
  refine rg_take (i := 15) (v := (.int .i8 y)) (some 32) rfl rfl (by kernel_rfl) (by kernel_rfl) (by kernel_rfl) (fun _ _ _ h => h) (Or.inl ⟨by rfl, fun w' h => by have h' := kept_cell h (HQ22.out); go_simp⟩) hHeld ?_
  simp only [Act.put, List.setIfInBounds_toArray, List.set_cons_zero, List.set_cons_succ]
  refine rg_take (i := 16) (v := (.int .i64 y)) (some 33) rfl rfl (by kernel_rfl) (by kernel_rfl) (by kernel_rfl) (fun _ _ _ h => h) (Or.inl ⟨by rfl, fun _ _ => by go_simp⟩) hHeld ?_
  simp only [Act.put, List.setIfInBounds_toArray, List.set_cons_zero, List.set_cons_succ]
  refine rg_take (i := 18) (v := (.pointer (some ⟨w.heap.size, 64, none⟩))) (some 35) rfl rfl (by kernel_rfl) (by kernel_rfl) (by kernel_rfl) (fun _ _ _ h => h) (Or.inl ⟨by rfl, fun _ _ => by go_simp⟩) hHeld ?_
  simp only [Act.put, List.setIfInBounds_toArray, List.set_cons_zero, List.set_cons_succ]
  refine rg_take (i := 19) (v := (.int .i64 p.t)) (some 36) rfl rfl (by kernel_rfl) (by kernel_rfl) (by kernel_rfl) (fun _ _ _ h => h) (Or.inl ⟨by rfl, fun w' h => by have h' := kept_cell h (HP2.out.turn); go_simp⟩) hHeld ?_
  simp only [Act.put, List.setIfInBounds_toArray, List.set_cons_zero, List.set_cons_succ]
  refine wpAnyH_ready (rs := [17]) (by kernel_rfl) (by simp) ?_
  refine AllReadyH.cons rfl (fun K hK => ?_) AllReadyH.nil
  go_simp
  refine (rside_k y _).mono ?_
  rintro e v4 ⟨rfl, gv4⟩
  refine hK.out _ _ (hHeld.trans gv4) (fun _ => ?_)
  replace hHeld := hHeld.trans gv4
  clear hK K
  refine rg_take (i := 20) (v := (.bool false)) (some 37) rfl rfl (by kernel_rfl) (by kernel_rfl) (by kernel_rfl) (fun _ _ _ h => h) (Or.inl ⟨by rfl, fun _ _ => by go_simp⟩) hHeld ?_
  simp only [Act.put, List.setIfInBounds_toArray, List.set_cons_zero, List.set_cons_succ]
  refine rg_take (i := 21) (v := (.bool false)) (some 38) rfl rfl (by kernel_rfl) (by kernel_rfl) (by kernel_rfl) (fun _ _ _ h => h) (Or.inl ⟨by rfl, fun _ _ => by go_simp⟩) hHeld ?_
  simp only [Act.put, List.setIfInBounds_toArray, List.set_cons_zero, List.set_cons_succ]
  refine wpAnyH_done (by kernel_rfl) ?_ _
  have KK5 := Lib.hid (KK2.out.trans hHeld)
  have HP5 := Lib.hid (HP.out.kept KK5.out)
  have HM5 := Lib.hid (MAt.kept HM.out KK5.out)
  have hcf5 := Lib.hid (kept_cell KK5.out hcf.out)
  have HK5 := Lib.hid (HK2.out.trans hHeld)
  clear hHeld
  have tt := HP5.out.turn
  have cf5 := hcf5.out
  rw [HTv.out] at tt
  rw [h4] at HPw
  go_wp2_with (first | (refine wpList_load_ps (by rfl) _ rfl _ rfl _ (HP5.out) ?_) | (refine wpList_load_pb (by rfl) _ rfl _ rfl _ (HP5.out) ?_) | (refine wpList_load_mv (by rfl) _ rfl _ rfl _ (HM5.out) ?_))
  refine (HPw.out _).mono ?_
  rintro e v6 ⟨rfl, k6⟩
  have KK6 := Lib.hid (KK5.out.trans k6)
  have HM6 := Lib.hid (MAt.kept HM.out KK6.out)
  have hct6 := Lib.hid (kept_cell KK6.out hct.out)
  have HK6 := Lib.hid (HK5.out.trans k6)
  clear k6 tt cf5
  have ct6 := hct6.out
  go_wp2_with fail
  refine (HRk.out _).mono ?_
  rintro e v7 ⟨rfl, k7⟩
  have HM7 := Lib.hid (MAt.kept HM6.out k7)
  have HK7 := Lib.hid (HK6.out.trans k7)
  clear k7 ct6
  have cp := HM7.out.p
  cases h6 : decide (2 ≤ m.p)
  · rw [h6] at HV
    go_wp2
    go_ret
    exact ⟨by rw [HV.out]; rfl, HK7.out⟩
  · rw [h6] at HV
    go_wp2
    go_ret
    exact ⟨by rw [HV.out]; rfl, HK7.out⟩
set_option maxHeartbeats 2000000 in
theorem rformed3b (p : Ps) (hB : Brd p.B) (m : Mv) (f t : Nat) (hf : m.f = f) (ht : m.t = t) (f1 : f < 64) (t1 : t < 64) (h1 : (sideI (manA p.B m.f) == p.t) = true) (h3 : (sideI (manA p.B m.t) == p.t) = false) (h4 : (kindI (manA p.B m.f) == 1) = false) (hT : p.t = 1) (w : World) :
    Calls Tryd.prog 17 #[.agg (pl p).toArray, .agg (ml m).toArray] w fun e w' => e = .returned (.bool (formB p m)) ∧ Kept w w' := by
  have HP : Hid (PAt _ _ p) := ⟨hB.1, heap_alloc2_old w (.cells (pl p).toArray 26) (.cells (ml m).toArray 28)⟩
  have HM : Hid (MAt _ _ m) := ⟨heap_alloc2_new w (.cells (pl p).toArray 26) (.cells (ml m).toArray 28)⟩
  have HK0 := Lib.hid (((Kept.refl w).alloc (.cells (pl p).toArray 26)).alloc (.cells (ml m).toArray 28))
  have hpl : Hid (p.B.length = 64) := hB.1
  have hon1 : onB m.f = true := by unfold onB; simp; omega
  have hon2 : onB m.t = true := by unfold onB; simp; omega
  have HC := Lib.hid (rright_k m.f)
  have HC2 := Lib.hid (rright_k m.t)
  rw [hon1, hf] at HC
  rw [hon2, ht] at HC2
  have em : manA p.B m.f = p.B.getD f 0 := by unfold manA bAt; rw [if_pos (by omega), hf, Int.toNat_natCast]
  have en : manA p.B m.t = p.B.getD t 0 := by unfold manA bAt; rw [if_pos (by omega), ht, Int.toNat_natCast]
  have xf := HM.out.f
  rw [hf] at xf
  have hcf := Lib.hid xf
  have xt := HM.out.t
  rw [ht] at xt
  have hct := Lib.hid xt
  have HQ1 := Lib.hid (HP.out.sq f f1)
  have HQ2 := Lib.hid (HP.out.sq t t1)
  have w1 := i8_i64 hB f1
  have w2 := i8_i64 hB t1
  have HPw := Lib.hid (rpawn_is p.B hB f f1)
  have HRk := Lib.hid (fun w => rrank_k (t : Int) w (by omega) (by omega))
  have hfI : (f : Int) < 64 := by omega
  have htI : (t : Int) < 64 := by omega
  rw [em] at h1 h4
  have HV : Hid (formB p m = (m.p == 0)) := by
    show _ = _
    rw [← promo_stay]
    unfold formB turnsB
    rw [em, h1, hon2, h3, h4]; rfl
  rw [en] at h3
  have HTv := Lib.hid hT
  clear hT
  have h1' : (sideI (p.B.getD f 0) != p.t) = false := by rw [bne, h1]; rfl
  clear hB hon1 hon2 em en hf ht xt
  generalize p.B.getD f 0 = x at *
  generalize p.B.getD t 0 = y at *
  go_enter Tryd.func17, Tryd.ntmps17
  go_wp2_with fail
  refine (HC.out _).mono ?_
  rintro e v1 ⟨rfl, k1⟩
  have HK1 := Lib.hid (HK0.out.trans k1)
  have hct1 := Lib.hid (kept_cell k1 hct.out)
  have xt := hct1.out
  have KK1 := Lib.hid k1
  clear k1 xf
  go_wp2_with fail
  refine (HC2.out _).mono ?_
  rintro e v2 ⟨rfl, k2⟩
  have HK2 := Lib.hid (HK1.out.trans k2)
  have KK2 := Lib.hid (KK1.out.trans k2)
  have HP2 := Lib.hid (HP.out.kept KK2.out)
  have HM2 := Lib.hid (MAt.kept HM.out KK2.out)
  have hcf2 := Lib.hid (kept_cell KK2.out hcf.out)
  have hct2 := Lib.hid (kept_cell KK2.out hct.out)
  have HQ12 := Lib.hid (kept_cell KK2.out HQ1.out)
  have HQ22 := Lib.hid (kept_cell KK2.out HQ2.out)
  clear k2 xt
  go_wp2
  refine wp_region_held_drew (S := Kept _) (by kernel_rfl) (Kept.refl _).drew (fun hHeld => ?_)
  refine rg_take (i := 0) (v := (.pointer (some ⟨w.heap.size + 1, 0, none⟩))) (some 17) rfl rfl (by kernel_rfl) (by kernel_rfl) (by kernel_rfl) (fun _ _ _ h => h) (Or.inl ⟨by rfl, fun _ _ => by go_simp⟩) hHeld ?_
  simp only [Act.put, List.setIfInBounds_toArray, List.set_cons_zero, List.set_cons_succ]
  refine rg_take (i := 1) (v := (.int .i64 ↑f)) (some 18) rfl rfl (by kernel_rfl) (by kernel_rfl) (by kernel_rfl) (fun _ _ _ h => h) (Or.inl ⟨by rfl, fun w' h => by have h' := kept_cell h (hcf2.out); go_simp⟩) hHeld ?_
  simp only [Act.put, List.setIfInBounds_toArray, List.set_cons_zero, List.set_cons_succ]
  refine rg_take (i := 2) (v := (.pointer (some ⟨w.heap.size, 0, none⟩))) (some 19) rfl rfl (by kernel_rfl) (by kernel_rfl) (by kernel_rfl) (fun _ _ _ h => h) (Or.inl ⟨by rfl, fun _ _ => by go_simp⟩) hHeld ?_
  simp only [Act.put, List.setIfInBounds_toArray, List.set_cons_zero, List.set_cons_succ]
  refine rg_take (i := 3) (v := (.pointer (some ⟨w.heap.size, f, none⟩))) (some 20) rfl rfl (by kernel_rfl) (by kernel_rfl) (by kernel_rfl) (fun _ _ _ h => h) (Or.inl ⟨by rfl, fun _ _ => by go_simp⟩) hHeld ?_
  simp only [Act.put, List.setIfInBounds_toArray, List.set_cons_zero, List.set_cons_succ]
  refine rg_take (i := 4) (v := (.int .i8 x)) (some 21) rfl rfl (by kernel_rfl) (by kernel_rfl) (by kernel_rfl) (fun _ _ _ h => h) (Or.inl ⟨by rfl, fun w' h => by have h' := kept_cell h (HQ12.out); go_simp⟩) hHeld ?_
  simp only [Act.put, List.setIfInBounds_toArray, List.set_cons_zero, List.set_cons_succ]
  refine rg_take (i := 5) (v := (.int .i64 x)) (some 22) rfl rfl (by kernel_rfl) (by kernel_rfl) (by kernel_rfl) (fun _ _ _ h => h) (Or.inl ⟨by rfl, fun _ _ => by go_simp⟩) hHeld ?_
  simp only [Act.put, List.setIfInBounds_toArray, List.set_cons_zero, List.set_cons_succ]
  refine rg_take (i := 7) (v := (.pointer (some ⟨w.heap.size, 64, none⟩))) (some 24) rfl rfl (by kernel_rfl) (by kernel_rfl) (by kernel_rfl) (fun _ _ _ h => h) (Or.inl ⟨by rfl, fun _ _ => by go_simp⟩) hHeld ?_
  simp only [Act.put, List.setIfInBounds_toArray, List.set_cons_zero, List.set_cons_succ]
  refine rg_take (i := 8) (v := (.int .i64 p.t)) (some 25) rfl rfl (by kernel_rfl) (by kernel_rfl) (by kernel_rfl) (fun _ _ _ h => h) (Or.inl ⟨by rfl, fun w' h => by have h' := kept_cell h (HP2.out.turn); go_simp⟩) hHeld ?_
  simp only [Act.put, List.setIfInBounds_toArray, List.set_cons_zero, List.set_cons_succ]
  refine wpAnyH_ready (rs := [6]) (by kernel_rfl) (by simp) ?_
  refine AllReadyH.cons rfl (fun K hK => ?_) AllReadyH.nil
  go_simp
  refine (rside_k x _).mono ?_
  rintro e v3 ⟨rfl, gv3⟩
  refine hK.out _ _ (hHeld.trans gv3) (fun _ => ?_)
  replace hHeld := hHeld.trans gv3
  clear hK K
  refine rg_take (i := 9) (v := (.bool false)) (some 26) rfl rfl (by kernel_rfl) (by kernel_rfl) (by kernel_rfl) (fun _ _ _ h => h) (Or.inl ⟨by rfl, fun _ _ => by go_simp⟩) hHeld ?_
  simp only [Act.put, List.setIfInBounds_toArray, List.set_cons_zero, List.set_cons_succ]
  refine rg_take (i := 10) (v := (.bool false)) (some 27) rfl rfl (by kernel_rfl) (by kernel_rfl) (by kernel_rfl) (fun _ _ _ h => h) (Or.inl ⟨by rfl, fun _ _ => by go_simp⟩) hHeld ?_
  simp only [Act.put, List.setIfInBounds_toArray, List.set_cons_zero, List.set_cons_succ]
  refine rg_take (i := 11) (v := (.pointer (some ⟨w.heap.size + 1, 1, none⟩))) (some 28) rfl rfl (by kernel_rfl) (by kernel_rfl) (by kernel_rfl) (fun _ _ _ h => h) (Or.inl ⟨by rfl, fun _ _ => by go_simp⟩) hHeld ?_
  simp only [Act.put, List.setIfInBounds_toArray, List.set_cons_zero, List.set_cons_succ]
  refine rg_take (i := 12) (v := (.int .i64 ↑t)) (some 29) rfl rfl (by kernel_rfl) (by kernel_rfl) (by kernel_rfl) (fun _ _ _ h => h) (Or.inl ⟨by rfl, fun w' h => by have h' := kept_cell h (hct2.out); go_simp⟩) hHeld ?_
  simp only [Act.put, List.setIfInBounds_toArray, List.set_cons_zero, List.set_cons_succ]
  refine rg_take (i := 13) (v := (.pointer (some ⟨w.heap.size, 0, none⟩))) (some 30) rfl rfl (by kernel_rfl) (by kernel_rfl) (by kernel_rfl) (fun _ _ _ h => h) (Or.inl ⟨by rfl, fun _ _ => by go_simp⟩) hHeld ?_
  simp only [Act.put, List.setIfInBounds_toArray, List.set_cons_zero, List.set_cons_succ]
  refine rg_take (i := 14) (v := (.pointer (some ⟨w.heap.size, t, none⟩))) (some 31) rfl rfl (by kernel_rfl) (by kernel_rfl) (by kernel_rfl) (fun _ _ _ h => h) (Or.inl ⟨by rfl, fun _ _ => by go_simp⟩) hHeld ?_
  simp only [Act.put, List.setIfInBounds_toArray, List.set_cons_zero, List.set_cons_succ]
  refine rg_take (i := 15) (v := (.int .i8 y)) (some 32) rfl rfl (by kernel_rfl) (by kernel_rfl) (by kernel_rfl) (fun _ _ _ h => h) (Or.inl ⟨by rfl, fun w' h => by have h' := kept_cell h (HQ22.out); go_simp⟩) hHeld ?_
  simp only [Act.put, List.setIfInBounds_toArray, List.set_cons_zero, List.set_cons_succ]
  refine rg_take (i := 16) (v := (.int .i64 y)) (some 33) rfl rfl (by kernel_rfl) (by kernel_rfl) (by kernel_rfl) (fun _ _ _ h => h) (Or.inl ⟨by rfl, fun _ _ => by go_simp⟩) hHeld ?_
  simp only [Act.put, List.setIfInBounds_toArray, List.set_cons_zero, List.set_cons_succ]
  refine rg_take (i := 18) (v := (.pointer (some ⟨w.heap.size, 64, none⟩))) (some 35) rfl rfl (by kernel_rfl) (by kernel_rfl) (by kernel_rfl) (fun _ _ _ h => h) (Or.inl ⟨by rfl, fun _ _ => by go_simp⟩) hHeld ?_
  simp only [Act.put, List.setIfInBounds_toArray, List.set_cons_zero, List.set_cons_succ]
  refine rg_take (i := 19) (v := (.int .i64 p.t)) (some 36) rfl rfl (by kernel_rfl) (by kernel_rfl) (by kernel_rfl) (fun _ _ _ h => h) (Or.inl ⟨by rfl, fun w' h => by have h' := kept_cell h (HP2.out.turn); go_simp⟩) hHeld ?_
  simp only [Act.put, List.setIfInBounds_toArray, List.set_cons_zero, List.set_cons_succ]
  refine wpAnyH_ready (rs := [17]) (by kernel_rfl) (by simp) ?_
  refine AllReadyH.cons rfl (fun K hK => ?_) AllReadyH.nil
  go_simp
  refine (rside_k y _).mono ?_
  rintro e v4 ⟨rfl, gv4⟩
  refine hK.out _ _ (hHeld.trans gv4) (fun _ => ?_)
  replace hHeld := hHeld.trans gv4
  clear hK K
  refine rg_take (i := 20) (v := (.bool false)) (some 37) rfl rfl (by kernel_rfl) (by kernel_rfl) (by kernel_rfl) (fun _ _ _ h => h) (Or.inl ⟨by rfl, fun _ _ => by go_simp⟩) hHeld ?_
  simp only [Act.put, List.setIfInBounds_toArray, List.set_cons_zero, List.set_cons_succ]
  refine rg_take (i := 21) (v := (.bool false)) (some 38) rfl rfl (by kernel_rfl) (by kernel_rfl) (by kernel_rfl) (fun _ _ _ h => h) (Or.inl ⟨by rfl, fun _ _ => by go_simp⟩) hHeld ?_
  simp only [Act.put, List.setIfInBounds_toArray, List.set_cons_zero, List.set_cons_succ]
  refine wpAnyH_done (by kernel_rfl) ?_ _
  have KK5 := Lib.hid (KK2.out.trans hHeld)
  have HP5 := Lib.hid (HP.out.kept KK5.out)
  have HM5 := Lib.hid (MAt.kept HM.out KK5.out)
  have hcf5 := Lib.hid (kept_cell KK5.out hcf.out)
  have HK5 := Lib.hid (HK2.out.trans hHeld)
  clear hHeld
  have tt := HP5.out.turn
  have cf5 := hcf5.out
  rw [HTv.out] at tt
  rw [h4] at HPw
  go_wp2_with (first | (refine wpList_load_ps (by rfl) _ rfl _ rfl _ (HP5.out) ?_) | (refine wpList_load_pb (by rfl) _ rfl _ rfl _ (HP5.out) ?_) | (refine wpList_load_mv (by rfl) _ rfl _ rfl _ (HM5.out) ?_))
  refine (HPw.out _).mono ?_
  rintro e v6 ⟨rfl, k6⟩
  have KK6 := Lib.hid (KK5.out.trans k6)
  have HM6 := Lib.hid (MAt.kept HM.out KK6.out)
  have hct6 := Lib.hid (kept_cell KK6.out hct.out)
  have HK6 := Lib.hid (HK5.out.trans k6)
  clear k6 tt cf5
  have cp := HM6.out.p
  go_wp2
  go_ret
  exact ⟨by rw [HV.out]; rfl, HK6.out⟩
set_option maxHeartbeats 2000000 in
theorem rformed4bn (p : Ps) (hB : Brd p.B) (m : Mv) (f t : Nat) (hf : m.f = f) (ht : m.t = t) (f1 : f < 64) (t1 : t < 64) (h1 : (sideI (manA p.B m.f) == p.t) = true) (h3 : (sideI (manA p.B m.t) == p.t) = false) (h4 : (kindI (manA p.B m.f) == 1) = true) (hT : p.t = 1) (h5 : ((t : Int) / 8 == 0) = false) (w : World) :
    Calls Tryd.prog 17 #[.agg (pl p).toArray, .agg (ml m).toArray] w fun e w' => e = .returned (.bool (formB p m)) ∧ Kept w w' := by
  have HP : Hid (PAt _ _ p) := ⟨hB.1, heap_alloc2_old w (.cells (pl p).toArray 26) (.cells (ml m).toArray 28)⟩
  have HM : Hid (MAt _ _ m) := ⟨heap_alloc2_new w (.cells (pl p).toArray 26) (.cells (ml m).toArray 28)⟩
  have HK0 := Lib.hid (((Kept.refl w).alloc (.cells (pl p).toArray 26)).alloc (.cells (ml m).toArray 28))
  have hpl : Hid (p.B.length = 64) := hB.1
  have hon1 : onB m.f = true := by unfold onB; simp; omega
  have hon2 : onB m.t = true := by unfold onB; simp; omega
  have HC := Lib.hid (rright_k m.f)
  have HC2 := Lib.hid (rright_k m.t)
  rw [hon1, hf] at HC
  rw [hon2, ht] at HC2
  have em : manA p.B m.f = p.B.getD f 0 := by unfold manA bAt; rw [if_pos (by omega), hf, Int.toNat_natCast]
  have en : manA p.B m.t = p.B.getD t 0 := by unfold manA bAt; rw [if_pos (by omega), ht, Int.toNat_natCast]
  have xf := HM.out.f
  rw [hf] at xf
  have hcf := Lib.hid xf
  have xt := HM.out.t
  rw [ht] at xt
  have hct := Lib.hid xt
  have HQ1 := Lib.hid (HP.out.sq f f1)
  have HQ2 := Lib.hid (HP.out.sq t t1)
  have w1 := i8_i64 hB f1
  have w2 := i8_i64 hB t1
  have HPw := Lib.hid (rpawn_is p.B hB f f1)
  have HRk := Lib.hid (fun w => rrank_k (t : Int) w (by omega) (by omega))
  have hfI : (f : Int) < 64 := by omega
  have htI : (t : Int) < 64 := by omega
  rw [em] at h1 h4
  have HV : Hid (formB p m = (m.p == 0)) := by
    show _ = _
    rw [← promo_stay]
    unfold formB turnsB lastI
    rw [em, h1, hon2, h3, h4, hT, ht]
    simp only [if_true, if_false, show ((1 : Int) = 0) = False by simp]
    rw [h5]; rfl
  rw [en] at h3
  have HTv := Lib.hid hT
  clear hT
  generalize (t : Int) / 8 = rk at *
  have h1' : (sideI (p.B.getD f 0) != p.t) = false := by rw [bne, h1]; rfl
  clear hB hon1 hon2 em en hf ht xt
  generalize p.B.getD f 0 = x at *
  generalize p.B.getD t 0 = y at *
  go_enter Tryd.func17, Tryd.ntmps17
  go_wp2_with fail
  refine (HC.out _).mono ?_
  rintro e v1 ⟨rfl, k1⟩
  have HK1 := Lib.hid (HK0.out.trans k1)
  have hct1 := Lib.hid (kept_cell k1 hct.out)
  have xt := hct1.out
  have KK1 := Lib.hid k1
  clear k1 xf
  go_wp2_with fail
  refine (HC2.out _).mono ?_
  rintro e v2 ⟨rfl, k2⟩
  have HK2 := Lib.hid (HK1.out.trans k2)
  have KK2 := Lib.hid (KK1.out.trans k2)
  have HP2 := Lib.hid (HP.out.kept KK2.out)
  have HM2 := Lib.hid (MAt.kept HM.out KK2.out)
  have hcf2 := Lib.hid (kept_cell KK2.out hcf.out)
  have hct2 := Lib.hid (kept_cell KK2.out hct.out)
  have HQ12 := Lib.hid (kept_cell KK2.out HQ1.out)
  have HQ22 := Lib.hid (kept_cell KK2.out HQ2.out)
  clear k2 xt
  go_wp2
  refine wp_region_held_drew (S := Kept _) (by kernel_rfl) (Kept.refl _).drew (fun hHeld => ?_)
  refine rg_take (i := 0) (v := (.pointer (some ⟨w.heap.size + 1, 0, none⟩))) (some 17) rfl rfl (by kernel_rfl) (by kernel_rfl) (by kernel_rfl) (fun _ _ _ h => h) (Or.inl ⟨by rfl, fun _ _ => by go_simp⟩) hHeld ?_
  simp only [Act.put, List.setIfInBounds_toArray, List.set_cons_zero, List.set_cons_succ]
  refine rg_take (i := 1) (v := (.int .i64 ↑f)) (some 18) rfl rfl (by kernel_rfl) (by kernel_rfl) (by kernel_rfl) (fun _ _ _ h => h) (Or.inl ⟨by rfl, fun w' h => by have h' := kept_cell h (hcf2.out); go_simp⟩) hHeld ?_
  simp only [Act.put, List.setIfInBounds_toArray, List.set_cons_zero, List.set_cons_succ]
  refine rg_take (i := 2) (v := (.pointer (some ⟨w.heap.size, 0, none⟩))) (some 19) rfl rfl (by kernel_rfl) (by kernel_rfl) (by kernel_rfl) (fun _ _ _ h => h) (Or.inl ⟨by rfl, fun _ _ => by go_simp⟩) hHeld ?_
  simp only [Act.put, List.setIfInBounds_toArray, List.set_cons_zero, List.set_cons_succ]
  refine rg_take (i := 3) (v := (.pointer (some ⟨w.heap.size, f, none⟩))) (some 20) rfl rfl (by kernel_rfl) (by kernel_rfl) (by kernel_rfl) (fun _ _ _ h => h) (Or.inl ⟨by rfl, fun _ _ => by go_simp⟩) hHeld ?_
  simp only [Act.put, List.setIfInBounds_toArray, List.set_cons_zero, List.set_cons_succ]
  refine rg_take (i := 4) (v := (.int .i8 x)) (some 21) rfl rfl (by kernel_rfl) (by kernel_rfl) (by kernel_rfl) (fun _ _ _ h => h) (Or.inl ⟨by rfl, fun w' h => by have h' := kept_cell h (HQ12.out); go_simp⟩) hHeld ?_
  simp only [Act.put, List.setIfInBounds_toArray, List.set_cons_zero, List.set_cons_succ]
  refine rg_take (i := 5) (v := (.int .i64 x)) (some 22) rfl rfl (by kernel_rfl) (by kernel_rfl) (by kernel_rfl) (fun _ _ _ h => h) (Or.inl ⟨by rfl, fun _ _ => by go_simp⟩) hHeld ?_
  simp only [Act.put, List.setIfInBounds_toArray, List.set_cons_zero, List.set_cons_succ]
  refine rg_take (i := 7) (v := (.pointer (some ⟨w.heap.size, 64, none⟩))) (some 24) rfl rfl (by kernel_rfl) (by kernel_rfl) (by kernel_rfl) (fun _ _ _ h => h) (Or.inl ⟨by rfl, fun _ _ => by go_simp⟩) hHeld ?_
  simp only [Act.put, List.setIfInBounds_toArray, List.set_cons_zero, List.set_cons_succ]
  refine rg_take (i := 8) (v := (.int .i64 p.t)) (some 25) rfl rfl (by kernel_rfl) (by kernel_rfl) (by kernel_rfl) (fun _ _ _ h => h) (Or.inl ⟨by rfl, fun w' h => by have h' := kept_cell h (HP2.out.turn); go_simp⟩) hHeld ?_
  simp only [Act.put, List.setIfInBounds_toArray, List.set_cons_zero, List.set_cons_succ]
  refine wpAnyH_ready (rs := [6]) (by kernel_rfl) (by simp) ?_
  refine AllReadyH.cons rfl (fun K hK => ?_) AllReadyH.nil
  go_simp
  refine (rside_k x _).mono ?_
  rintro e v3 ⟨rfl, gv3⟩
  refine hK.out _ _ (hHeld.trans gv3) (fun _ => ?_)
  replace hHeld := hHeld.trans gv3
  clear hK K
  refine rg_take (i := 9) (v := (.bool false)) (some 26) rfl rfl (by kernel_rfl) (by kernel_rfl) (by kernel_rfl) (fun _ _ _ h => h) (Or.inl ⟨by rfl, fun _ _ => by go_simp⟩) hHeld ?_
  simp only [Act.put, List.setIfInBounds_toArray, List.set_cons_zero, List.set_cons_succ]
  refine rg_take (i := 10) (v := (.bool false)) (some 27) rfl rfl (by kernel_rfl) (by kernel_rfl) (by kernel_rfl) (fun _ _ _ h => h) (Or.inl ⟨by rfl, fun _ _ => by go_simp⟩) hHeld ?_
  simp only [Act.put, List.setIfInBounds_toArray, List.set_cons_zero, List.set_cons_succ]
  refine rg_take (i := 11) (v := (.pointer (some ⟨w.heap.size + 1, 1, none⟩))) (some 28) rfl rfl (by kernel_rfl) (by kernel_rfl) (by kernel_rfl) (fun _ _ _ h => h) (Or.inl ⟨by rfl, fun _ _ => by go_simp⟩) hHeld ?_
  simp only [Act.put, List.setIfInBounds_toArray, List.set_cons_zero, List.set_cons_succ]
  refine rg_take (i := 12) (v := (.int .i64 ↑t)) (some 29) rfl rfl (by kernel_rfl) (by kernel_rfl) (by kernel_rfl) (fun _ _ _ h => h) (Or.inl ⟨by rfl, fun w' h => by have h' := kept_cell h (hct2.out); go_simp⟩) hHeld ?_
  simp only [Act.put, List.setIfInBounds_toArray, List.set_cons_zero, List.set_cons_succ]
  refine rg_take (i := 13) (v := (.pointer (some ⟨w.heap.size, 0, none⟩))) (some 30) rfl rfl (by kernel_rfl) (by kernel_rfl) (by kernel_rfl) (fun _ _ _ h => h) (Or.inl ⟨by rfl, fun _ _ => by go_simp⟩) hHeld ?_
  simp only [Act.put, List.setIfInBounds_toArray, List.set_cons_zero, List.set_cons_succ]
  refine rg_take (i := 14) (v := (.pointer (some ⟨w.heap.size, t, none⟩))) (some 31) rfl rfl (by kernel_rfl) (by kernel_rfl) (by kernel_rfl) (fun _ _ _ h => h) (Or.inl ⟨by rfl, fun _ _ => by go_simp⟩) hHeld ?_
  simp only [Act.put, List.setIfInBounds_toArray, List.set_cons_zero, List.set_cons_succ]
  refine rg_take (i := 15) (v := (.int .i8 y)) (some 32) rfl rfl (by kernel_rfl) (by kernel_rfl) (by kernel_rfl) (fun _ _ _ h => h) (Or.inl ⟨by rfl, fun w' h => by have h' := kept_cell h (HQ22.out); go_simp⟩) hHeld ?_
  simp only [Act.put, List.setIfInBounds_toArray, List.set_cons_zero, List.set_cons_succ]
  refine rg_take (i := 16) (v := (.int .i64 y)) (some 33) rfl rfl (by kernel_rfl) (by kernel_rfl) (by kernel_rfl) (fun _ _ _ h => h) (Or.inl ⟨by rfl, fun _ _ => by go_simp⟩) hHeld ?_
  simp only [Act.put, List.setIfInBounds_toArray, List.set_cons_zero, List.set_cons_succ]
  refine rg_take (i := 18) (v := (.pointer (some ⟨w.heap.size, 64, none⟩))) (some 35) rfl rfl (by kernel_rfl) (by kernel_rfl) (by kernel_rfl) (fun _ _ _ h => h) (Or.inl ⟨by rfl, fun _ _ => by go_simp⟩) hHeld ?_
  simp only [Act.put, List.setIfInBounds_toArray, List.set_cons_zero, List.set_cons_succ]
  refine rg_take (i := 19) (v := (.int .i64 p.t)) (some 36) rfl rfl (by kernel_rfl) (by kernel_rfl) (by kernel_rfl) (fun _ _ _ h => h) (Or.inl ⟨by rfl, fun w' h => by have h' := kept_cell h (HP2.out.turn); go_simp⟩) hHeld ?_
  simp only [Act.put, List.setIfInBounds_toArray, List.set_cons_zero, List.set_cons_succ]
  refine wpAnyH_ready (rs := [17]) (by kernel_rfl) (by simp) ?_
  refine AllReadyH.cons rfl (fun K hK => ?_) AllReadyH.nil
  go_simp
  refine (rside_k y _).mono ?_
  rintro e v4 ⟨rfl, gv4⟩
  refine hK.out _ _ (hHeld.trans gv4) (fun _ => ?_)
  replace hHeld := hHeld.trans gv4
  clear hK K
  refine rg_take (i := 20) (v := (.bool false)) (some 37) rfl rfl (by kernel_rfl) (by kernel_rfl) (by kernel_rfl) (fun _ _ _ h => h) (Or.inl ⟨by rfl, fun _ _ => by go_simp⟩) hHeld ?_
  simp only [Act.put, List.setIfInBounds_toArray, List.set_cons_zero, List.set_cons_succ]
  refine rg_take (i := 21) (v := (.bool false)) (some 38) rfl rfl (by kernel_rfl) (by kernel_rfl) (by kernel_rfl) (fun _ _ _ h => h) (Or.inl ⟨by rfl, fun _ _ => by go_simp⟩) hHeld ?_
  simp only [Act.put, List.setIfInBounds_toArray, List.set_cons_zero, List.set_cons_succ]
  refine wpAnyH_done (by kernel_rfl) ?_ _
  have KK5 := Lib.hid (KK2.out.trans hHeld)
  have HP5 := Lib.hid (HP.out.kept KK5.out)
  have HM5 := Lib.hid (MAt.kept HM.out KK5.out)
  have hcf5 := Lib.hid (kept_cell KK5.out hcf.out)
  have HK5 := Lib.hid (HK2.out.trans hHeld)
  clear hHeld
  have tt := HP5.out.turn
  have cf5 := hcf5.out
  rw [HTv.out] at tt
  rw [h4] at HPw
  go_wp2_with (first | (refine wpList_load_ps (by rfl) _ rfl _ rfl _ (HP5.out) ?_) | (refine wpList_load_pb (by rfl) _ rfl _ rfl _ (HP5.out) ?_) | (refine wpList_load_mv (by rfl) _ rfl _ rfl _ (HM5.out) ?_))
  refine (HPw.out _).mono ?_
  rintro e v6 ⟨rfl, k6⟩
  have KK6 := Lib.hid (KK5.out.trans k6)
  have HM6 := Lib.hid (MAt.kept HM.out KK6.out)
  have hct6 := Lib.hid (kept_cell KK6.out hct.out)
  have HK6 := Lib.hid (HK5.out.trans k6)
  clear k6 tt cf5
  have ct6 := hct6.out
  go_wp2_with fail
  refine (HRk.out _).mono ?_
  rintro e v7 ⟨rfl, k7⟩
  have HM7 := Lib.hid (MAt.kept HM6.out k7)
  have HK7 := Lib.hid (HK6.out.trans k7)
  clear k7 ct6
  have cp := HM7.out.p
  go_wp2
  go_ret
  exact ⟨by rw [HV.out]; rfl, HK7.out⟩
set_option maxHeartbeats 2000000 in
theorem rformed4by (p : Ps) (hB : Brd p.B) (m : Mv) (f t : Nat) (hf : m.f = f) (ht : m.t = t) (f1 : f < 64) (t1 : t < 64) (h1 : (sideI (manA p.B m.f) == p.t) = true) (h3 : (sideI (manA p.B m.t) == p.t) = false) (h4 : (kindI (manA p.B m.f) == 1) = true) (hT : p.t = 1) (h5 : ((t : Int) / 8 == 0) = true) (w : World) :
    Calls Tryd.prog 17 #[.agg (pl p).toArray, .agg (ml m).toArray] w fun e w' => e = .returned (.bool (formB p m)) ∧ Kept w w' := by
  have HP : Hid (PAt _ _ p) := ⟨hB.1, heap_alloc2_old w (.cells (pl p).toArray 26) (.cells (ml m).toArray 28)⟩
  have HM : Hid (MAt _ _ m) := ⟨heap_alloc2_new w (.cells (pl p).toArray 26) (.cells (ml m).toArray 28)⟩
  have HK0 := Lib.hid (((Kept.refl w).alloc (.cells (pl p).toArray 26)).alloc (.cells (ml m).toArray 28))
  have hpl : Hid (p.B.length = 64) := hB.1
  have hon1 : onB m.f = true := by unfold onB; simp; omega
  have hon2 : onB m.t = true := by unfold onB; simp; omega
  have HC := Lib.hid (rright_k m.f)
  have HC2 := Lib.hid (rright_k m.t)
  rw [hon1, hf] at HC
  rw [hon2, ht] at HC2
  have em : manA p.B m.f = p.B.getD f 0 := by unfold manA bAt; rw [if_pos (by omega), hf, Int.toNat_natCast]
  have en : manA p.B m.t = p.B.getD t 0 := by unfold manA bAt; rw [if_pos (by omega), ht, Int.toNat_natCast]
  have xf := HM.out.f
  rw [hf] at xf
  have hcf := Lib.hid xf
  have xt := HM.out.t
  rw [ht] at xt
  have hct := Lib.hid xt
  have HQ1 := Lib.hid (HP.out.sq f f1)
  have HQ2 := Lib.hid (HP.out.sq t t1)
  have w1 := i8_i64 hB f1
  have w2 := i8_i64 hB t1
  have HPw := Lib.hid (rpawn_is p.B hB f f1)
  have HRk := Lib.hid (fun w => rrank_k (t : Int) w (by omega) (by omega))
  have hfI : (f : Int) < 64 := by omega
  have htI : (t : Int) < 64 := by omega
  rw [em] at h1 h4
  have HV : Hid (formB p m = (decide (2 ≤ m.p) && decide (m.p ≤ 5))) := by
    show _ = _
    rw [← promo_turn]
    unfold formB turnsB lastI
    rw [em, h1, hon2, h3, h4, hT, ht]
    simp only [if_true, if_false, show ((1 : Int) = 0) = False by simp]
    rw [h5]; rfl
  rw [en] at h3
  have HTv := Lib.hid hT
  clear hT
  generalize (t : Int) / 8 = rk at *
  have h1' : (sideI (p.B.getD f 0) != p.t) = false := by rw [bne, h1]; rfl
  clear hB hon1 hon2 em en hf ht xt
  generalize p.B.getD f 0 = x at *
  generalize p.B.getD t 0 = y at *
  go_enter Tryd.func17, Tryd.ntmps17
  go_wp2_with fail
  refine (HC.out _).mono ?_
  rintro e v1 ⟨rfl, k1⟩
  have HK1 := Lib.hid (HK0.out.trans k1)
  have hct1 := Lib.hid (kept_cell k1 hct.out)
  have xt := hct1.out
  have KK1 := Lib.hid k1
  clear k1 xf
  go_wp2_with fail
  refine (HC2.out _).mono ?_
  rintro e v2 ⟨rfl, k2⟩
  have HK2 := Lib.hid (HK1.out.trans k2)
  have KK2 := Lib.hid (KK1.out.trans k2)
  have HP2 := Lib.hid (HP.out.kept KK2.out)
  have HM2 := Lib.hid (MAt.kept HM.out KK2.out)
  have hcf2 := Lib.hid (kept_cell KK2.out hcf.out)
  have hct2 := Lib.hid (kept_cell KK2.out hct.out)
  have HQ12 := Lib.hid (kept_cell KK2.out HQ1.out)
  have HQ22 := Lib.hid (kept_cell KK2.out HQ2.out)
  clear k2 xt
  go_wp2
  refine wp_region_held_drew (S := Kept _) (by kernel_rfl) (Kept.refl _).drew (fun hHeld => ?_)
  refine rg_take (i := 0) (v := (.pointer (some ⟨w.heap.size + 1, 0, none⟩))) (some 17) rfl rfl (by kernel_rfl) (by kernel_rfl) (by kernel_rfl) (fun _ _ _ h => h) (Or.inl ⟨by rfl, fun _ _ => by go_simp⟩) hHeld ?_
  simp only [Act.put, List.setIfInBounds_toArray, List.set_cons_zero, List.set_cons_succ]
  refine rg_take (i := 1) (v := (.int .i64 ↑f)) (some 18) rfl rfl (by kernel_rfl) (by kernel_rfl) (by kernel_rfl) (fun _ _ _ h => h) (Or.inl ⟨by rfl, fun w' h => by have h' := kept_cell h (hcf2.out); go_simp⟩) hHeld ?_
  simp only [Act.put, List.setIfInBounds_toArray, List.set_cons_zero, List.set_cons_succ]
  refine rg_take (i := 2) (v := (.pointer (some ⟨w.heap.size, 0, none⟩))) (some 19) rfl rfl (by kernel_rfl) (by kernel_rfl) (by kernel_rfl) (fun _ _ _ h => h) (Or.inl ⟨by rfl, fun _ _ => by go_simp⟩) hHeld ?_
  simp only [Act.put, List.setIfInBounds_toArray, List.set_cons_zero, List.set_cons_succ]
  refine rg_take (i := 3) (v := (.pointer (some ⟨w.heap.size, f, none⟩))) (some 20) rfl rfl (by kernel_rfl) (by kernel_rfl) (by kernel_rfl) (fun _ _ _ h => h) (Or.inl ⟨by rfl, fun _ _ => by go_simp⟩) hHeld ?_
  simp only [Act.put, List.setIfInBounds_toArray, List.set_cons_zero, List.set_cons_succ]
  refine rg_take (i := 4) (v := (.int .i8 x)) (some 21) rfl rfl (by kernel_rfl) (by kernel_rfl) (by kernel_rfl) (fun _ _ _ h => h) (Or.inl ⟨by rfl, fun w' h => by have h' := kept_cell h (HQ12.out); go_simp⟩) hHeld ?_
  simp only [Act.put, List.setIfInBounds_toArray, List.set_cons_zero, List.set_cons_succ]
  refine rg_take (i := 5) (v := (.int .i64 x)) (some 22) rfl rfl (by kernel_rfl) (by kernel_rfl) (by kernel_rfl) (fun _ _ _ h => h) (Or.inl ⟨by rfl, fun _ _ => by go_simp⟩) hHeld ?_
  simp only [Act.put, List.setIfInBounds_toArray, List.set_cons_zero, List.set_cons_succ]
  refine rg_take (i := 7) (v := (.pointer (some ⟨w.heap.size, 64, none⟩))) (some 24) rfl rfl (by kernel_rfl) (by kernel_rfl) (by kernel_rfl) (fun _ _ _ h => h) (Or.inl ⟨by rfl, fun _ _ => by go_simp⟩) hHeld ?_
  simp only [Act.put, List.setIfInBounds_toArray, List.set_cons_zero, List.set_cons_succ]
  refine rg_take (i := 8) (v := (.int .i64 p.t)) (some 25) rfl rfl (by kernel_rfl) (by kernel_rfl) (by kernel_rfl) (fun _ _ _ h => h) (Or.inl ⟨by rfl, fun w' h => by have h' := kept_cell h (HP2.out.turn); go_simp⟩) hHeld ?_
  simp only [Act.put, List.setIfInBounds_toArray, List.set_cons_zero, List.set_cons_succ]
  refine wpAnyH_ready (rs := [6]) (by kernel_rfl) (by simp) ?_
  refine AllReadyH.cons rfl (fun K hK => ?_) AllReadyH.nil
  go_simp
  refine (rside_k x _).mono ?_
  rintro e v3 ⟨rfl, gv3⟩
  refine hK.out _ _ (hHeld.trans gv3) (fun _ => ?_)
  replace hHeld := hHeld.trans gv3
  clear hK K
  refine rg_take (i := 9) (v := (.bool false)) (some 26) rfl rfl (by kernel_rfl) (by kernel_rfl) (by kernel_rfl) (fun _ _ _ h => h) (Or.inl ⟨by rfl, fun _ _ => by go_simp⟩) hHeld ?_
  simp only [Act.put, List.setIfInBounds_toArray, List.set_cons_zero, List.set_cons_succ]
  refine rg_take (i := 10) (v := (.bool false)) (some 27) rfl rfl (by kernel_rfl) (by kernel_rfl) (by kernel_rfl) (fun _ _ _ h => h) (Or.inl ⟨by rfl, fun _ _ => by go_simp⟩) hHeld ?_
  simp only [Act.put, List.setIfInBounds_toArray, List.set_cons_zero, List.set_cons_succ]
  refine rg_take (i := 11) (v := (.pointer (some ⟨w.heap.size + 1, 1, none⟩))) (some 28) rfl rfl (by kernel_rfl) (by kernel_rfl) (by kernel_rfl) (fun _ _ _ h => h) (Or.inl ⟨by rfl, fun _ _ => by go_simp⟩) hHeld ?_
  simp only [Act.put, List.setIfInBounds_toArray, List.set_cons_zero, List.set_cons_succ]
  refine rg_take (i := 12) (v := (.int .i64 ↑t)) (some 29) rfl rfl (by kernel_rfl) (by kernel_rfl) (by kernel_rfl) (fun _ _ _ h => h) (Or.inl ⟨by rfl, fun w' h => by have h' := kept_cell h (hct2.out); go_simp⟩) hHeld ?_
  simp only [Act.put, List.setIfInBounds_toArray, List.set_cons_zero, List.set_cons_succ]
  refine rg_take (i := 13) (v := (.pointer (some ⟨w.heap.size, 0, none⟩))) (some 30) rfl rfl (by kernel_rfl) (by kernel_rfl) (by kernel_rfl) (fun _ _ _ h => h) (Or.inl ⟨by rfl, fun _ _ => by go_simp⟩) hHeld ?_
  simp only [Act.put, List.setIfInBounds_toArray, List.set_cons_zero, List.set_cons_succ]
  refine rg_take (i := 14) (v := (.pointer (some ⟨w.heap.size, t, none⟩))) (some 31) rfl rfl (by kernel_rfl) (by kernel_rfl) (by kernel_rfl) (fun _ _ _ h => h) (Or.inl ⟨by rfl, fun _ _ => by go_simp⟩) hHeld ?_
  simp only [Act.put, List.setIfInBounds_toArray, List.set_cons_zero, List.set_cons_succ]
  refine rg_take (i := 15) (v := (.int .i8 y)) (some 32) rfl rfl (by kernel_rfl) (by kernel_rfl) (by kernel_rfl) (fun _ _ _ h => h) (Or.inl ⟨by rfl, fun w' h => by have h' := kept_cell h (HQ22.out); go_simp⟩) hHeld ?_
  simp only [Act.put, List.setIfInBounds_toArray, List.set_cons_zero, List.set_cons_succ]
  refine rg_take (i := 16) (v := (.int .i64 y)) (some 33) rfl rfl (by kernel_rfl) (by kernel_rfl) (by kernel_rfl) (fun _ _ _ h => h) (Or.inl ⟨by rfl, fun _ _ => by go_simp⟩) hHeld ?_
  simp only [Act.put, List.setIfInBounds_toArray, List.set_cons_zero, List.set_cons_succ]
  refine rg_take (i := 18) (v := (.pointer (some ⟨w.heap.size, 64, none⟩))) (some 35) rfl rfl (by kernel_rfl) (by kernel_rfl) (by kernel_rfl) (fun _ _ _ h => h) (Or.inl ⟨by rfl, fun _ _ => by go_simp⟩) hHeld ?_
  simp only [Act.put, List.setIfInBounds_toArray, List.set_cons_zero, List.set_cons_succ]
  refine rg_take (i := 19) (v := (.int .i64 p.t)) (some 36) rfl rfl (by kernel_rfl) (by kernel_rfl) (by kernel_rfl) (fun _ _ _ h => h) (Or.inl ⟨by rfl, fun w' h => by have h' := kept_cell h (HP2.out.turn); go_simp⟩) hHeld ?_
  simp only [Act.put, List.setIfInBounds_toArray, List.set_cons_zero, List.set_cons_succ]
  refine wpAnyH_ready (rs := [17]) (by kernel_rfl) (by simp) ?_
  refine AllReadyH.cons rfl (fun K hK => ?_) AllReadyH.nil
  go_simp
  refine (rside_k y _).mono ?_
  rintro e v4 ⟨rfl, gv4⟩
  refine hK.out _ _ (hHeld.trans gv4) (fun _ => ?_)
  replace hHeld := hHeld.trans gv4
  clear hK K
  refine rg_take (i := 20) (v := (.bool false)) (some 37) rfl rfl (by kernel_rfl) (by kernel_rfl) (by kernel_rfl) (fun _ _ _ h => h) (Or.inl ⟨by rfl, fun _ _ => by go_simp⟩) hHeld ?_
  simp only [Act.put, List.setIfInBounds_toArray, List.set_cons_zero, List.set_cons_succ]
  refine rg_take (i := 21) (v := (.bool false)) (some 38) rfl rfl (by kernel_rfl) (by kernel_rfl) (by kernel_rfl) (fun _ _ _ h => h) (Or.inl ⟨by rfl, fun _ _ => by go_simp⟩) hHeld ?_
  simp only [Act.put, List.setIfInBounds_toArray, List.set_cons_zero, List.set_cons_succ]
  refine wpAnyH_done (by kernel_rfl) ?_ _
  have KK5 := Lib.hid (KK2.out.trans hHeld)
  have HP5 := Lib.hid (HP.out.kept KK5.out)
  have HM5 := Lib.hid (MAt.kept HM.out KK5.out)
  have hcf5 := Lib.hid (kept_cell KK5.out hcf.out)
  have HK5 := Lib.hid (HK2.out.trans hHeld)
  clear hHeld
  have tt := HP5.out.turn
  have cf5 := hcf5.out
  rw [HTv.out] at tt
  rw [h4] at HPw
  go_wp2_with (first | (refine wpList_load_ps (by rfl) _ rfl _ rfl _ (HP5.out) ?_) | (refine wpList_load_pb (by rfl) _ rfl _ rfl _ (HP5.out) ?_) | (refine wpList_load_mv (by rfl) _ rfl _ rfl _ (HM5.out) ?_))
  refine (HPw.out _).mono ?_
  rintro e v6 ⟨rfl, k6⟩
  have KK6 := Lib.hid (KK5.out.trans k6)
  have HM6 := Lib.hid (MAt.kept HM.out KK6.out)
  have hct6 := Lib.hid (kept_cell KK6.out hct.out)
  have HK6 := Lib.hid (HK5.out.trans k6)
  clear k6 tt cf5
  have ct6 := hct6.out
  go_wp2_with fail
  refine (HRk.out _).mono ?_
  rintro e v7 ⟨rfl, k7⟩
  have HM7 := Lib.hid (MAt.kept HM6.out k7)
  have HK7 := Lib.hid (HK6.out.trans k7)
  clear k7 ct6
  have cp := HM7.out.p
  cases h6 : decide (2 ≤ m.p)
  · rw [h6] at HV
    go_wp2
    go_ret
    exact ⟨by rw [HV.out]; rfl, HK7.out⟩
  · rw [h6] at HV
    go_wp2
    go_ret
    exact ⟨by rw [HV.out]; rfl, HK7.out⟩
theorem rformed_is (p : Ps) (hB : Brd p.B) (t01 : p.t = 0 ∨ p.t = 1) (m : Mv) (w : World) :
    Calls Tryd.prog 17 #[.agg (pl p).toArray, .agg (ml m).toArray] w fun e w' => e = .returned (.bool (formB p m)) ∧ Kept w w' := by
  cases ho1 : onB m.f
  · exact rformed_f p hB t01 m ho1 w
  · cases ho2 : onB m.t
    · exact rformed_t p hB m ho1 ho2 w
    · have a1 : 0 ≤ m.f ∧ m.f < 64 := by simpa [onB] using ho1
      have a2 : 0 ≤ m.t ∧ m.t < 64 := by simpa [onB] using ho2
      obtain ⟨f, hf⟩ := Int.eq_ofNat_of_zero_le a1.1
      obtain ⟨t, ht⟩ := Int.eq_ofNat_of_zero_le a2.1
      have f1 : f < 64 := by omega
      have t1 : t < 64 := by omega
      cases h1 : (sideI (manA p.B m.f) == p.t)
      · exact rformed1 p hB m f t hf ht f1 t1 h1 w
      · cases h3 : (sideI (manA p.B m.t) == p.t)
        · cases h4 : (kindI (manA p.B m.f) == 1)
          · rcases t01 with hT | hT
            · exact rformed3w p hB m f t hf ht f1 t1 h1 h3 h4 hT w
            · exact rformed3b p hB m f t hf ht f1 t1 h1 h3 h4 hT w
          · rcases t01 with hT | hT
            · cases h5 : ((t : Int) / 8 == 7)
              · exact rformed4wn p hB m f t hf ht f1 t1 h1 h3 h4 hT h5 w
              · exact rformed4wy p hB m f t hf ht f1 t1 h1 h3 h4 hT h5 w
            · cases h5 : ((t : Int) / 8 == 0)
              · exact rformed4bn p hB m f t hf ht f1 t1 h1 h3 h4 hT h5 w
              · exact rformed4by p hB m f t hf ht f1 t1 h1 h3 h4 hT h5 w
        · exact rformed2 p hB m f t hf ht f1 t1 h1 h3 w
end Go.Proofs.YtliibpahnkeogaaDoor
