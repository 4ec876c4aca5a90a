/- The document's Pawn, clear, lost, Takes, Formed. (Written by wip/mkmvi.py.). -/
import Derived.Test.YtliibpahnkeogaaDoorPkE
import Derived.Test.YtliibpahnkeogaaDoorPkH
import Derived.Test.YtliibpahnkeogaaDoorPkL
namespace Go.Proofs.YtliibpahnkeogaaDoor
open Go.RowKit
set_option linter.unusedVariables false
set_option linter.unusedSimpArgs false
set_option maxRecDepth 100000

theorem rpawn_is (B : List Int) (hB : Brd B) (k : Nat) (hk : k < 64) (w : World) : Calls Tryd.prog 35 #[.agg (cl B).toArray, .int .i64 (k : Int)] w fun e w' => e = .returned (.bool (kindI (B.getD k 0) == 1)) ∧ Kept w w' := by
  have c := cell_cl hB.1 (heap_alloc_new w (.cells (cl B).toArray 24)) k hk
  have HV := Lib.hid (kindI_one (B.getD k 0))
  generalize B.getD k 0 = x at *
  have hkI : (k : Int) < 64 := by omega
  clear hB
  cases h1 : (x == 1)
  · rw [h1] at HV
    go_enter Tryd.func35, Tryd.ntmps35
    go_wp2
    go_ret
    exact ⟨by rw [HV.out]; rfl, (Kept.refl _).alloc _⟩
  · rw [h1] at HV
    go_enter Tryd.func35, Tryd.ntmps35
    go_wp2
    go_ret
    exact ⟨by rw [HV.out]; rfl, (Kept.refl _).alloc _⟩
theorem free_iff (B : List Int) (k : Nat) : freeB B k = true ↔ ∀ s, s < 64 → wLo k ≤ s → s < wHi k → B.getD s 0 = 0 := by
  constructor
  · intro h s hs h1 h2
    by_cases hz : B.getD s 0 = 0
    · exact hz
    · rw [free_no hs h1 h2 hz] at h; cases h
  · intro h
    refine free_yes fun s h1 h2 => h s ?_ h1 h2
    have : wHi k ≤ 64 := by unfold wHi; rcases k with _ | _ | _ | _ | k <;> simp
    omega
theorem free_0 (B : List Int) : freeB B 0 = ((B.getD 5 0 == 0) && (B.getD 6 0 == 0)) := by
  rw [Bool.eq_iff_iff, free_iff]
  simp only [Bool.and_eq_true, beq_iff_eq]
  constructor
  · intro h; exact ⟨h 5 (by omega) (by decide) (by decide), h 6 (by omega) (by decide) (by decide)⟩
  · rintro ⟨a, b⟩ s _ h1 h2
    have h1' : 5 ≤ s := h1
    have h2' : s < 7 := h2
    have : s = 5 ∨ s = 6 := by omega
    rcases this with rfl | rfl <;> assumption
theorem rclear_0 (B : List Int) (hB : Brd B) (w : World) : Calls Tryd.prog 39 #[.agg (cl B).toArray, .int .i64 1] w fun e w' => e = .returned (.bool (freeB B 0)) ∧ Kept w w' := by
  have c5 := cell_cl hB.1 (heap_alloc_new w (.cells (cl B).toArray 24)) 5 (by omega)
  have c6 := cell_cl hB.1 (heap_alloc_new w (.cells (cl B).toArray 24)) 6 (by omega)
  have HV := Lib.hid (free_0 B)
  clear hB
  generalize B.getD 5 0 = x5 at *
  generalize B.getD 6 0 = x6 at *
  cases h1 : (x5 == 0)
  · rw [h1] at HV
    go_enter Tryd.func39, Tryd.ntmps39
    go_wp2
    go_ret
    exact ⟨by rw [HV.out]; rfl, (Kept.refl _).alloc _⟩
  · rw [h1] at HV
    go_enter Tryd.func39, Tryd.ntmps39
    go_wp2
    go_ret
    exact ⟨by rw [HV.out]; rfl, (Kept.refl _).alloc _⟩
theorem free_1 (B : List Int) : freeB B 1 = (((B.getD 1 0 == 0) && (B.getD 2 0 == 0)) && (B.getD 3 0 == 0)) := by
  rw [Bool.eq_iff_iff, free_iff]
  simp only [Bool.and_eq_true, beq_iff_eq]
  constructor
  · intro h; exact ⟨⟨h 1 (by omega) (by decide) (by decide), h 2 (by omega) (by decide) (by decide)⟩, h 3 (by omega) (by decide) (by decide)⟩
  · rintro ⟨⟨a, b⟩, c⟩ s _ h1 h2
    have h1' : 1 ≤ s := h1
    have h2' : s < 4 := h2
    have : s = 1 ∨ s = 2 ∨ s = 3 := by omega
    rcases this with rfl | rfl | rfl <;> assumption
theorem rclear_1 (B : List Int) (hB : Brd B) (w : World) : Calls Tryd.prog 39 #[.agg (cl B).toArray, .int .i64 2] w fun e w' => e = .returned (.bool (freeB B 1)) ∧ Kept w w' := by
  have c1 := cell_cl hB.1 (heap_alloc_new w (.cells (cl B).toArray 24)) 1 (by omega)
  have c2 := cell_cl hB.1 (heap_alloc_new w (.cells (cl B).toArray 24)) 2 (by omega)
  have c3 := cell_cl hB.1 (heap_alloc_new w (.cells (cl B).toArray 24)) 3 (by omega)
  have HV := Lib.hid (free_1 B)
  clear hB
  generalize B.getD 1 0 = x1 at *
  generalize B.getD 2 0 = x2 at *
  generalize B.getD 3 0 = x3 at *
  cases h1 : (x1 == 0)
  · rw [h1] at HV
    go_enter Tryd.func39, Tryd.ntmps39
    go_wp2
    go_ret
    exact ⟨by rw [HV.out]; rfl, (Kept.refl _).alloc _⟩
  · rw [h1] at HV
    cases h2 : (x2 == 0)
    · rw [h2] at HV
      go_enter Tryd.func39, Tryd.ntmps39
      go_wp2
      go_ret
      exact ⟨by rw [HV.out]; rfl, (Kept.refl _).alloc _⟩
    · rw [h2] at HV
      go_enter Tryd.func39, Tryd.ntmps39
      go_wp2
      go_ret
      exact ⟨by rw [HV.out]; rfl, (Kept.refl _).alloc _⟩
theorem free_2 (B : List Int) : freeB B 2 = ((B.getD 61 0 == 0) && (B.getD 62 0 == 0)) := by
  rw [Bool.eq_iff_iff, free_iff]
  simp only [Bool.and_eq_true, beq_iff_eq]
  constructor
  · intro h; exact ⟨h 61 (by omega) (by decide) (by decide), h 62 (by omega) (by decide) (by decide)⟩
  · rintro ⟨a, b⟩ s _ h1 h2
    have h1' : 61 ≤ s := h1
    have h2' : s < 63 := h2
    have : s = 61 ∨ s = 62 := by omega
    rcases this with rfl | rfl <;> assumption
theorem rclear_2 (B : List Int) (hB : Brd B) (w : World) : Calls Tryd.prog 39 #[.agg (cl B).toArray, .int .i64 4] w fun e w' => e = .returned (.bool (freeB B 2)) ∧ Kept w w' := by
  have c61 := cell_cl hB.1 (heap_alloc_new w (.cells (cl B).toArray 24)) 61 (by omega)
  have c62 := cell_cl hB.1 (heap_alloc_new w (.cells (cl B).toArray 24)) 62 (by omega)
  have HV := Lib.hid (free_2 B)
  clear hB
  generalize B.getD 61 0 = x61 at *
  generalize B.getD 62 0 = x62 at *
  cases h1 : (x61 == 0)
  · rw [h1] at HV
    go_enter Tryd.func39, Tryd.ntmps39
    go_wp2
    go_ret
    exact ⟨by rw [HV.out]; rfl, (Kept.refl _).alloc _⟩
  · rw [h1] at HV
    go_enter Tryd.func39, Tryd.ntmps39
    go_wp2
    go_ret
    exact ⟨by rw [HV.out]; rfl, (Kept.refl _).alloc _⟩
theorem free_3 (B : List Int) : freeB B 3 = (((B.getD 57 0 == 0) && (B.getD 58 0 == 0)) && (B.getD 59 0 == 0)) := by
  rw [Bool.eq_iff_iff, free_iff]
  simp only [Bool.and_eq_true, beq_iff_eq]
  constructor
  · intro h; exact ⟨⟨h 57 (by omega) (by decide) (by decide), h 58 (by omega) (by decide) (by decide)⟩, h 59 (by omega) (by decide) (by decide)⟩
  · rintro ⟨⟨a, b⟩, c⟩ s _ h1 h2
    have h1' : 57 ≤ s := h1
    have h2' : s < 60 := h2
    have : s = 57 ∨ s = 58 ∨ s = 59 := by omega
    rcases this with rfl | rfl | rfl <;> assumption
theorem rclear_3 (B : List Int) (hB : Brd B) (w : World) : Calls Tryd.prog 39 #[.agg (cl B).toArray, .int .i64 8] w fun e w' => e = .returned (.bool (freeB B 3)) ∧ Kept w w' := by
  have c57 := cell_cl hB.1 (heap_alloc_new w (.cells (cl B).toArray 24)) 57 (by omega)
  have c58 := cell_cl hB.1 (heap_alloc_new w (.cells (cl B).toArray 24)) 58 (by omega)
  have c59 := cell_cl hB.1 (heap_alloc_new w (.cells (cl B).toArray 24)) 59 (by omega)
  have HV := Lib.hid (free_3 B)
  clear hB
  generalize B.getD 57 0 = x57 at *
  generalize B.getD 58 0 = x58 at *
  generalize B.getD 59 0 = x59 at *
  cases h1 : (x57 == 0)
  · rw [h1] at HV
    go_enter Tryd.func39, Tryd.ntmps39
    go_wp2
    go_ret
    exact ⟨by rw [HV.out]; rfl, (Kept.refl _).alloc _⟩
  · rw [h1] at HV
    cases h2 : (x58 == 0)
    · rw [h2] at HV
      go_enter Tryd.func39, Tryd.ntmps39
      go_wp2
      go_ret
      exact ⟨by rw [HV.out]; rfl, (Kept.refl _).alloc _⟩
    · rw [h2] at HV
      go_enter Tryd.func39, Tryd.ntmps39
      go_wp2
      go_ret
      exact ⟨by rw [HV.out]; rfl, (Kept.refl _).alloc _⟩
theorem rclear_is (B : List Int) (hB : Brd B) (k : Nat) (hk : k < 4) (w : World) : Calls Tryd.prog 39 #[.agg (cl B).toArray, .int .i64 (hR k)] w fun e w' => e = .returned (.bool (freeB B k)) ∧ Kept w w' := by
  have : k = 0 ∨ k = 1 ∨ k = 2 ∨ k = 3 := by omega
  rcases this with rfl | rfl | rfl | rfl
  · exact rclear_0 B hB w
  · exact rclear_1 B hB w
  · exact rclear_2 B hB w
  · exact rclear_3 B hB w
/-- The rights that go with a square, summed up. -/
def lostI (s : Int) : Int := if s = 0 then 2 else if s = 4 then 3 else if s = 7 then 1 else if s = 56 then 8 else if s = 60 then 12 else if s = 63 then 4 else 0
theorem lost_is (s : Int) (w : World) : Calls Tryd.prog 78 #[.int .i64 s] w fun e w' => e = .returned (.int .i64 (lostI s)) ∧ Kept w w' := by
  by_cases h0 : s = 0
  · have HV : Hid (lostI s = 2) := by show _ = _; unfold lostI; rw [if_pos h0]
    have b0 : (s == 0) = true := beq_iff_eq.2 h0
    clear h0
    go_enter Tryd.func78, Tryd.ntmps78
    go_wp2
    go_ret
    exact ⟨by rw [HV.out]; rfl, Kept.refl _⟩
  · have b0 : (s == 0) = false := beq_eq_false_iff_ne.2 h0
    by_cases h1 : s = 4
    · have HV : Hid (lostI s = 3) := by show _ = _; unfold lostI; rw [if_neg h0, if_pos h1]
      have b1 : (s == 4) = true := beq_iff_eq.2 h1
      clear h0 h1
      go_enter Tryd.func78, Tryd.ntmps78
      go_wp2
      go_ret
      exact ⟨by rw [HV.out]; rfl, Kept.refl _⟩
    · have b1 : (s == 4) = false := beq_eq_false_iff_ne.2 h1
      by_cases h2 : s = 7
      · have HV : Hid (lostI s = 1) := by show _ = _; unfold lostI; rw [if_neg h0, if_neg h1, if_pos h2]
        have b2 : (s == 7) = true := beq_iff_eq.2 h2
        clear h0 h1 h2
        go_enter Tryd.func78, Tryd.ntmps78
        go_wp2
        go_ret
        exact ⟨by rw [HV.out]; rfl, Kept.refl _⟩
      · have b2 : (s == 7) = false := beq_eq_false_iff_ne.2 h2
        by_cases h3 : s = 56
        · have HV : Hid (lostI s = 8) := by show _ = _; unfold lostI; rw [if_neg h0, if_neg h1, if_neg h2, if_pos h3]
          have b3 : (s == 56) = true := beq_iff_eq.2 h3
          clear h0 h1 h2 h3
          go_enter Tryd.func78, Tryd.ntmps78
          go_wp2
          go_ret
          exact ⟨by rw [HV.out]; rfl, Kept.refl _⟩
        · have b3 : (s == 56) = false := beq_eq_false_iff_ne.2 h3
          by_cases h4 : s = 60
          · have HV : Hid (lostI s = 12) := by show _ = _; unfold lostI; rw [if_neg h0, if_neg h1, if_neg h2, if_neg h3, if_pos h4]
            have b4 : (s == 60) = true := beq_iff_eq.2 h4
            clear h0 h1 h2 h3 h4
            go_enter Tryd.func78, Tryd.ntmps78
            go_wp2
            go_ret
            exact ⟨by rw [HV.out]; rfl, Kept.refl _⟩
          · have b4 : (s == 60) = false := beq_eq_false_iff_ne.2 h4
            by_cases h5 : s = 63
            · have HV : Hid (lostI s = 4) := by show _ = _; unfold lostI; rw [if_neg h0, if_neg h1, if_neg h2, if_neg h3, if_neg h4, if_pos h5]
              have b5 : (s == 63) = true := beq_iff_eq.2 h5
              clear h0 h1 h2 h3 h4 h5
              go_enter Tryd.func78, Tryd.ntmps78
              go_wp2
              go_ret
              exact ⟨by rw [HV.out]; rfl, Kept.refl _⟩
            · have b5 : (s == 63) = false := beq_eq_false_iff_ne.2 h5
              have HV : Hid (lostI s = 0) := by show _ = _; unfold lostI; rw [if_neg h0, if_neg h1, if_neg h2, if_neg h3, if_neg h4, if_neg h5]
              clear h0 h1 h2 h3 h4 h5
              go_enter Tryd.func78, Tryd.ntmps78
              go_wp2
              go_ret
              exact ⟨by rw [HV.out]; rfl, Kept.refl _⟩
set_option maxHeartbeats 2000000 in
theorem rtakes0 (p : Ps) (hB : Brd p.B) (m : Mv) (f t : Nat) (hf : m.f = f) (ht : m.t = t) (f1 : f < 64) (t1 : t < 64) (h0 : bAt p.B m.t ≠ 0) (w : World) :
    Calls Tryd.prog 14 #[.agg (pl p).toArray, .agg (ml m).toArray] w fun e w' => e = .returned (.int .i64 (takeI p m)) ∧ Kept w w' := by
  have HP : Hid (PAt _ _ p) := ⟨hB.1, heap_alloc2_old w (.cells (pl p).toArray 26) (.cells (ml m).toArray 28)⟩
  have HM : Hid (MAt _ _ m) := ⟨heap_alloc2_new w (.cells (pl p).toArray 26) (.cells (ml m).toArray 28)⟩
  have HK0 := Lib.hid (((Kept.refl w).alloc (.cells (pl p).toArray 26)).alloc (.cells (ml m).toArray 28))
  have hpl : Hid (p.B.length = 64) := hB.1
  have xt := HM.out.t
  rw [ht] at xt
  have hct := Lib.hid xt
  have xf := HM.out.f
  rw [hf] at xf
  have hcf := Lib.hid xf
  clear xf
  have ct := HP.out.sq t t1
  have eb : bAt p.B m.t = p.B.getD t 0 := by unfold bAt; rw [ht, Int.toNat_natCast]
  have ep : pawnB p m = (kindI (p.B.getD f 0) == 1) := by unfold pawnB bAt; rw [hf, Int.toNat_natCast]
  have HPw := Lib.hid (rpawn_is p.B hB f f1)
  have HF1 := Lib.hid (fun w => rfile_k (f : Int) w (by omega) (by omega))
  have HF2 := Lib.hid (fun w => rfile_k (t : Int) w (by omega) (by omega))
  have HPs := Lib.hid (rpassed_is p hB)
  have htI : (t : Int) < 64 := by omega
  have HV : Hid (takeI p m = t) := by show _ = _; unfold takeI; rw [if_pos h0, ht]
  rw [eb] at h0
  have hb : (p.B.getD t 0 != 0) = true := bne_iff_ne.2 h0
  generalize p.B.getD t 0 = x at *
  clear h0 eb ep
  clear hB hf ht
  go_enter Tryd.func14, Tryd.ntmps14
  go_wp2
  go_ret
  exact ⟨by rw [HV.out]; rfl, HK0.out⟩
set_option maxHeartbeats 2000000 in
theorem rtakes1 (p : Ps) (hB : Brd p.B) (m : Mv) (f t : Nat) (hf : m.f = f) (ht : m.t = t) (f1 : f < 64) (t1 : t < 64) (h0 : bAt p.B m.t = 0) (h1 : pawnB p m = false) (w : World) :
    Calls Tryd.prog 14 #[.agg (pl p).toArray, .agg (ml m).toArray] w fun e w' => e = .returned (.int .i64 (takeI p m)) ∧ Kept w w' := by
  have HP : Hid (PAt _ _ p) := ⟨hB.1, heap_alloc2_old w (.cells (pl p).toArray 26) (.cells (ml m).toArray 28)⟩
  have HM : Hid (MAt _ _ m) := ⟨heap_alloc2_new w (.cells (pl p).toArray 26) (.cells (ml m).toArray 28)⟩
  have HK0 := Lib.hid (((Kept.refl w).alloc (.cells (pl p).toArray 26)).alloc (.cells (ml m).toArray 28))
  have hpl : Hid (p.B.length = 64) := hB.1
  have xt := HM.out.t
  rw [ht] at xt
  have hct := Lib.hid xt
  have xf := HM.out.f
  rw [hf] at xf
  have hcf := Lib.hid xf
  clear xf
  have ct := HP.out.sq t t1
  have eb : bAt p.B m.t = p.B.getD t 0 := by unfold bAt; rw [ht, Int.toNat_natCast]
  have ep : pawnB p m = (kindI (p.B.getD f 0) == 1) := by unfold pawnB bAt; rw [hf, Int.toNat_natCast]
  have HPw := Lib.hid (rpawn_is p.B hB f f1)
  have HF1 := Lib.hid (fun w => rfile_k (f : Int) w (by omega) (by omega))
  have HF2 := Lib.hid (fun w => rfile_k (t : Int) w (by omega) (by omega))
  have HPs := Lib.hid (rpassed_is p hB)
  have htI : (t : Int) < 64 := by omega
  have HV : Hid (takeI p m = -1) := by show _ = _; unfold takeI epTake; rw [if_neg (by simpa using h0), if_neg (by simp [h1])]
  rw [eb] at h0
  rw [h0] at ct
  rw [h1] at ep
  rw [← ep] at HPw
  clear h0 eb ep h1
  clear hB hf ht
  go_enter Tryd.func14, Tryd.ntmps14
  go_wp2
  clear ct xt
  generalize (w.alloc (.cells (pl p).toArray 26)).alloc (.cells (ml m).toArray 28) = W at *
  refine wp_region_held_drew (S := Kept _) (by kernel_rfl) (Kept.refl _).drew (fun hHeld => ?_)
  refine rg_take (i := 0) (v := (.pointer (some ⟨w.heap.size, 0, none⟩))) (some 13) rfl rfl (by kernel_rfl) (by kernel_rfl) (by kernel_rfl) (fun _ _ _ h => h) (Or.inl ⟨by rfl, fun _ _ => by go_simp⟩) hHeld ?_
  simp only [Act.put, List.setIfInBounds_toArray, List.set_cons_zero, List.set_cons_succ]
  refine rg_take (i := 1) (some 14) rfl rfl (by kernel_rfl) (by kernel_rfl) (by kernel_rfl) (fun _ _ _ h => h) (take_load_pb (by rfl) _ rfl _ rfl p hpl.out (fun _ h => (HP.out).kept h)) hHeld ?_
  simp only [Act.put, List.setIfInBounds_toArray, List.set_cons_zero, List.set_cons_succ]
  refine rg_take (i := 2) (v := (.pointer (some ⟨w.heap.size + 1, 0, none⟩))) (some 15) rfl rfl (by kernel_rfl) (by kernel_rfl) (by kernel_rfl) (fun _ _ _ h => h) (Or.inl ⟨by rfl, fun _ _ => by go_simp⟩) hHeld ?_
  simp only [Act.put, List.setIfInBounds_toArray, List.set_cons_zero, List.set_cons_succ]
  refine rg_take (i := 3) (v := (.int .i64 ↑f)) (some 16) rfl rfl (by kernel_rfl) (by kernel_rfl) (by kernel_rfl) (fun _ _ _ h => h) (Or.inl ⟨by rfl, fun w' h => by have h' := kept_cell h (hcf.out); go_simp⟩) hHeld ?_
  simp only [Act.put, List.setIfInBounds_toArray, List.set_cons_zero, List.set_cons_succ]
  refine wpAnyH_ready (rs := [4]) (by kernel_rfl) (by simp) ?_
  refine AllReadyH.cons rfl (fun K hK => ?_) AllReadyH.nil
  go_simp
  refine (HPw.out _).mono ?_
  rintro e w2 ⟨rfl, gw2⟩
  refine hK.out _ _ (hHeld.trans gw2) (fun _ => ?_)
  replace hHeld := hHeld.trans gw2
  clear hK K
  refine rg_take (i := 5) (v := (.bool false)) (some 18) rfl rfl (by kernel_rfl) (by kernel_rfl) (by kernel_rfl) (fun _ _ _ h => h) (Or.inl ⟨by rfl, fun _ _ => by go_simp⟩) hHeld ?_
  simp only [Act.put, List.setIfInBounds_toArray, List.set_cons_zero, List.set_cons_succ]
  refine rg_take (i := 6) (some 19) rfl rfl (by kernel_rfl) (by kernel_rfl) (by kernel_rfl) (fun _ _ _ h => h) (Or.inr ⟨by rfl, rfl⟩) hHeld ?_
  simp only [Act.put, List.setIfInBounds_toArray, List.set_cons_zero, List.set_cons_succ]
  refine rg_take (i := 7) (some 20) rfl rfl (by kernel_rfl) (by kernel_rfl) (by kernel_rfl) (fun _ _ _ h => h) (Or.inr ⟨by rfl, rfl⟩) hHeld ?_
  simp only [Act.put, List.setIfInBounds_toArray, List.set_cons_zero, List.set_cons_succ]
  refine rg_take (i := 8) (some 21) rfl rfl (by kernel_rfl) (by kernel_rfl) (by kernel_rfl) (fun _ _ _ h => h) (Or.inr ⟨by rfl, rfl⟩) hHeld ?_
  simp only [Act.put, List.setIfInBounds_toArray, List.set_cons_zero, List.set_cons_succ]
  refine rg_take (i := 9) (v := (.bool false)) (some 22) rfl rfl (by kernel_rfl) (by kernel_rfl) (by kernel_rfl) (fun _ _ _ h => h) (Or.inl ⟨by rfl, fun _ _ => by go_simp⟩) hHeld ?_
  simp only [Act.put, List.setIfInBounds_toArray, List.set_cons_zero, List.set_cons_succ]
  refine rg_take (i := 10) (v := (.bool false)) (some 23) rfl rfl (by kernel_rfl) (by kernel_rfl) (by kernel_rfl) (fun _ _ _ h => h) (Or.inl ⟨by rfl, fun _ _ => by go_simp⟩) hHeld ?_
  simp only [Act.put, List.setIfInBounds_toArray, List.set_cons_zero, List.set_cons_succ]
  refine rg_take (i := 11) (some 24) rfl rfl (by kernel_rfl) (by kernel_rfl) (by kernel_rfl) (fun _ _ _ h => h) (Or.inr ⟨by rfl, rfl⟩) hHeld ?_
  simp only [Act.put, List.setIfInBounds_toArray, List.set_cons_zero, List.set_cons_succ]
  refine rg_take (i := 12) (some 25) rfl rfl (by kernel_rfl) (by kernel_rfl) (by kernel_rfl) (fun _ _ _ h => h) (Or.inr ⟨by rfl, rfl⟩) hHeld ?_
  simp only [Act.put, List.setIfInBounds_toArray, List.set_cons_zero, List.set_cons_succ]
  refine rg_take (i := 13) (some 26) rfl rfl (by kernel_rfl) (by kernel_rfl) (by kernel_rfl) (fun _ _ _ h => h) (Or.inr ⟨by rfl, rfl⟩) hHeld ?_
  simp only [Act.put, List.setIfInBounds_toArray, List.set_cons_zero, List.set_cons_succ]
  refine rg_take (i := 14) (some 27) rfl rfl (by kernel_rfl) (by kernel_rfl) (by kernel_rfl) (fun _ _ _ h => h) (Or.inr ⟨by rfl, rfl⟩) hHeld ?_
  simp only [Act.put, List.setIfInBounds_toArray, List.set_cons_zero, List.set_cons_succ]
  refine rg_take (i := 15) (some 28) rfl rfl (by kernel_rfl) (by kernel_rfl) (by kernel_rfl) (fun _ _ _ h => h) (Or.inr ⟨by rfl, rfl⟩) hHeld ?_
  simp only [Act.put, List.setIfInBounds_toArray, List.set_cons_zero, List.set_cons_succ]
  refine rg_take (i := 16) (v := (.bool false)) (some 29) rfl rfl (by kernel_rfl) (by kernel_rfl) (by kernel_rfl) (fun _ _ _ h => h) (Or.inl ⟨by rfl, fun _ _ => by go_simp⟩) hHeld ?_
  simp only [Act.put, List.setIfInBounds_toArray, List.set_cons_zero, List.set_cons_succ]
  refine rg_take (i := 17) (v := (.bool false)) (some 30) rfl rfl (by kernel_rfl) (by kernel_rfl) (by kernel_rfl) (fun _ _ _ h => h) (Or.inl ⟨by rfl, fun _ _ => by go_simp⟩) hHeld ?_
  simp only [Act.put, List.setIfInBounds_toArray, List.set_cons_zero, List.set_cons_succ]
  refine rg_take (i := 18) (some 31) rfl rfl (by kernel_rfl) (by kernel_rfl) (by kernel_rfl) (fun _ _ _ h => h) (Or.inr ⟨by rfl, rfl⟩) hHeld ?_
  simp only [Act.put, List.setIfInBounds_toArray, List.set_cons_zero, List.set_cons_succ]
  refine rg_take (i := 19) (some 32) rfl rfl (by kernel_rfl) (by kernel_rfl) (by kernel_rfl) (fun _ _ _ h => h) (Or.inr ⟨by rfl, rfl⟩) hHeld ?_
  simp only [Act.put, List.setIfInBounds_toArray, List.set_cons_zero, List.set_cons_succ]
  refine rg_take (i := 20) (some 33) rfl rfl (by kernel_rfl) (by kernel_rfl) (by kernel_rfl) (fun _ _ _ h => h) (Or.inr ⟨by rfl, rfl⟩) hHeld ?_
  simp only [Act.put, List.setIfInBounds_toArray, List.set_cons_zero, List.set_cons_succ]
  refine rg_take (i := 21) (some 34) rfl rfl (by kernel_rfl) (by kernel_rfl) (by kernel_rfl) (fun _ _ _ h => h) (Or.inr ⟨by rfl, rfl⟩) hHeld ?_
  simp only [Act.put, List.setIfInBounds_toArray, List.set_cons_zero, List.set_cons_succ]
  refine rg_take (i := 22) (some 35) rfl rfl (by kernel_rfl) (by kernel_rfl) (by kernel_rfl) (fun _ _ _ h => h) (Or.inr ⟨by rfl, rfl⟩) hHeld ?_
  simp only [Act.put, List.setIfInBounds_toArray, List.set_cons_zero, List.set_cons_succ]
  refine rg_take (i := 23) (some 36) rfl rfl (by kernel_rfl) (by kernel_rfl) (by kernel_rfl) (fun _ _ _ h => h) (Or.inr ⟨by rfl, rfl⟩) hHeld ?_
  simp only [Act.put, List.setIfInBounds_toArray, List.set_cons_zero, List.set_cons_succ]
  refine rg_take (i := 24) (some 37) rfl rfl (by kernel_rfl) (by kernel_rfl) (by kernel_rfl) (fun _ _ _ h => h) (Or.inr ⟨by rfl, rfl⟩) hHeld ?_
  simp only [Act.put, List.setIfInBounds_toArray, List.set_cons_zero, List.set_cons_succ]
  refine rg_take (i := 25) (v := (.bool false)) (some 38) rfl rfl (by kernel_rfl) (by kernel_rfl) (by kernel_rfl) (fun _ _ _ h => h) (Or.inl ⟨by rfl, fun _ _ => by go_simp⟩) hHeld ?_
  simp only [Act.put, List.setIfInBounds_toArray, List.set_cons_zero, List.set_cons_succ]
  refine wpAnyH_done (by kernel_rfl) ?_ _
  go_wp2
  go_ret
  exact ⟨by rw [HV.out]; rfl, HK0.out.trans hHeld⟩
set_option maxHeartbeats 2000000 in
theorem rtakes2 (p : Ps) (hB : Brd p.B) (m : Mv) (f t : Nat) (hf : m.f = f) (ht : m.t = t) (f1 : f < 64) (t1 : t < 64) (h0 : bAt p.B m.t = 0) (h1 : pawnB p m = true) (he : ¬ 0 ≤ p.e) (w : World) :
    Calls Tryd.prog 14 #[.agg (pl p).toArray, .agg (ml m).toArray] w fun e w' => e = .returned (.int .i64 (takeI p m)) ∧ Kept w w' := by
  have HP : Hid (PAt _ _ p) := ⟨hB.1, heap_alloc2_old w (.cells (pl p).toArray 26) (.cells (ml m).toArray 28)⟩
  have HM : Hid (MAt _ _ m) := ⟨heap_alloc2_new w (.cells (pl p).toArray 26) (.cells (ml m).toArray 28)⟩
  have HK0 := Lib.hid (((Kept.refl w).alloc (.cells (pl p).toArray 26)).alloc (.cells (ml m).toArray 28))
  have hpl : Hid (p.B.length = 64) := hB.1
  have xt := HM.out.t
  rw [ht] at xt
  have hct := Lib.hid xt
  have xf := HM.out.f
  rw [hf] at xf
  have hcf := Lib.hid xf
  clear xf
  have ct := HP.out.sq t t1
  have eb : bAt p.B m.t = p.B.getD t 0 := by unfold bAt; rw [ht, Int.toNat_natCast]
  have ep : pawnB p m = (kindI (p.B.getD f 0) == 1) := by unfold pawnB bAt; rw [hf, Int.toNat_natCast]
  have HPw := Lib.hid (rpawn_is p.B hB f f1)
  have HF1 := Lib.hid (fun w => rfile_k (f : Int) w (by omega) (by omega))
  have HF2 := Lib.hid (fun w => rfile_k (t : Int) w (by omega) (by omega))
  have HPs := Lib.hid (rpassed_is p hB)
  have htI : (t : Int) < 64 := by omega
  have HV : Hid (takeI p m = -1) := by show _ = _; unfold takeI epTake; rw [if_neg (by simpa using h0), if_neg (by simp [show (m.t == p.e) = false from beq_eq_false_iff_ne.2 (by omega)])]
  have he' : decide ((0 : Int) ≤ p.e) = false := decide_eq_false he
  rw [eb] at h0
  rw [h0] at ct
  rw [h1] at ep
  rw [← ep] at HPw
  clear h0 eb ep h1
  clear hB hf ht
  go_enter Tryd.func14, Tryd.ntmps14
  go_wp2
  clear ct xt
  generalize (w.alloc (.cells (pl p).toArray 26)).alloc (.cells (ml m).toArray 28) = W at *
  refine wp_region_held_drew (S := Kept _) (by kernel_rfl) (Kept.refl _).drew (fun hHeld => ?_)
  refine rg_take (i := 0) (v := (.pointer (some ⟨w.heap.size, 0, none⟩))) (some 13) rfl rfl (by kernel_rfl) (by kernel_rfl) (by kernel_rfl) (fun _ _ _ h => h) (Or.inl ⟨by rfl, fun _ _ => by go_simp⟩) hHeld ?_
  simp only [Act.put, List.setIfInBounds_toArray, List.set_cons_zero, List.set_cons_succ]
  refine rg_take (i := 1) (some 14) rfl rfl (by kernel_rfl) (by kernel_rfl) (by kernel_rfl) (fun _ _ _ h => h) (take_load_pb (by rfl) _ rfl _ rfl p hpl.out (fun _ h => (HP.out).kept h)) hHeld ?_
  simp only [Act.put, List.setIfInBounds_toArray, List.set_cons_zero, List.set_cons_succ]
  refine rg_take (i := 2) (v := (.pointer (some ⟨w.heap.size + 1, 0, none⟩))) (some 15) rfl rfl (by kernel_rfl) (by kernel_rfl) (by kernel_rfl) (fun _ _ _ h => h) (Or.inl ⟨by rfl, fun _ _ => by go_simp⟩) hHeld ?_
  simp only [Act.put, List.setIfInBounds_toArray, List.set_cons_zero, List.set_cons_succ]
  refine rg_take (i := 3) (v := (.int .i64 ↑f)) (some 16) rfl rfl (by kernel_rfl) (by kernel_rfl) (by kernel_rfl) (fun _ _ _ h => h) (Or.inl ⟨by rfl, fun w' h => by have h' := kept_cell h (hcf.out); go_simp⟩) hHeld ?_
  simp only [Act.put, List.setIfInBounds_toArray, List.set_cons_zero, List.set_cons_succ]
  refine wpAnyH_ready (rs := [4]) (by kernel_rfl) (by simp) ?_
  refine AllReadyH.cons rfl (fun K hK => ?_) AllReadyH.nil
  go_simp
  refine (HPw.out _).mono ?_
  rintro e w2 ⟨rfl, gw2⟩
  refine hK.out _ _ (hHeld.trans gw2) (fun _ => ?_)
  replace hHeld := hHeld.trans gw2
  clear hK K
  refine rg_take (i := 5) (v := (.bool true)) (some 18) rfl rfl (by kernel_rfl) (by kernel_rfl) (by kernel_rfl) (fun _ _ _ h => h) (Or.inl ⟨by rfl, fun _ _ => by go_simp⟩) hHeld ?_
  simp only [Act.put, List.setIfInBounds_toArray, List.set_cons_zero, List.set_cons_succ]
  refine rg_take (i := 6) (v := (.pointer (some ⟨w.heap.size, 66, none⟩))) (some 19) rfl rfl (by kernel_rfl) (by kernel_rfl) (by kernel_rfl) (fun _ _ _ h => h) (Or.inl ⟨by rfl, fun _ _ => by go_simp⟩) hHeld ?_
  simp only [Act.put, List.setIfInBounds_toArray, List.set_cons_zero, List.set_cons_succ]
  refine rg_take (i := 7) (v := (.int .i64 p.e)) (some 20) rfl rfl (by kernel_rfl) (by kernel_rfl) (by kernel_rfl) (fun _ _ _ h => h) (Or.inl ⟨by rfl, fun w' h => by have h' := kept_cell h (HP.out.ep); go_simp⟩) hHeld ?_
  simp only [Act.put, List.setIfInBounds_toArray, List.set_cons_zero, List.set_cons_succ]
  refine rg_take (i := 8) (v := (.bool false)) (some 21) rfl rfl (by kernel_rfl) (by kernel_rfl) (by kernel_rfl) (fun _ _ _ h => h) (Or.inl ⟨by rfl, fun _ _ => by go_simp⟩) hHeld ?_
  simp only [Act.put, List.setIfInBounds_toArray, List.set_cons_zero, List.set_cons_succ]
  refine rg_take (i := 9) (v := (.bool false)) (some 22) rfl rfl (by kernel_rfl) (by kernel_rfl) (by kernel_rfl) (fun _ _ _ h => h) (Or.inl ⟨by rfl, fun _ _ => by go_simp⟩) hHeld ?_
  simp only [Act.put, List.setIfInBounds_toArray, List.set_cons_zero, List.set_cons_succ]
  refine rg_take (i := 10) (v := (.bool false)) (some 23) rfl rfl (by kernel_rfl) (by kernel_rfl) (by kernel_rfl) (fun _ _ _ h => h) (Or.inl ⟨by rfl, fun _ _ => by go_simp⟩) hHeld ?_
  simp only [Act.put, List.setIfInBounds_toArray, List.set_cons_zero, List.set_cons_succ]
  refine rg_take (i := 11) (some 24) rfl rfl (by kernel_rfl) (by kernel_rfl) (by kernel_rfl) (fun _ _ _ h => h) (Or.inr ⟨by rfl, rfl⟩) hHeld ?_
  simp only [Act.put, List.setIfInBounds_toArray, List.set_cons_zero, List.set_cons_succ]
  refine rg_take (i := 12) (some 25) rfl rfl (by kernel_rfl) (by kernel_rfl) (by kernel_rfl) (fun _ _ _ h => h) (Or.inr ⟨by rfl, rfl⟩) hHeld ?_
  simp only [Act.put, List.setIfInBounds_toArray, List.set_cons_zero, List.set_cons_succ]
  refine rg_take (i := 13) (some 26) rfl rfl (by kernel_rfl) (by kernel_rfl) (by kernel_rfl) (fun _ _ _ h => h) (Or.inr ⟨by rfl, rfl⟩) hHeld ?_
  simp only [Act.put, List.setIfInBounds_toArray, List.set_cons_zero, List.set_cons_succ]
  refine rg_take (i := 14) (some 27) rfl rfl (by kernel_rfl) (by kernel_rfl) (by kernel_rfl) (fun _ _ _ h => h) (Or.inr ⟨by rfl, rfl⟩) hHeld ?_
  simp only [Act.put, List.setIfInBounds_toArray, List.set_cons_zero, List.set_cons_succ]
  refine rg_take (i := 15) (some 28) rfl rfl (by kernel_rfl) (by kernel_rfl) (by kernel_rfl) (fun _ _ _ h => h) (Or.inr ⟨by rfl, rfl⟩) hHeld ?_
  simp only [Act.put, List.setIfInBounds_toArray, List.set_cons_zero, List.set_cons_succ]
  refine rg_take (i := 16) (v := (.bool false)) (some 29) rfl rfl (by kernel_rfl) (by kernel_rfl) (by kernel_rfl) (fun _ _ _ h => h) (Or.inl ⟨by rfl, fun _ _ => by go_simp⟩) hHeld ?_
  simp only [Act.put, List.setIfInBounds_toArray, List.set_cons_zero, List.set_cons_succ]
  refine rg_take (i := 17) (v := (.bool false)) (some 30) rfl rfl (by kernel_rfl) (by kernel_rfl) (by kernel_rfl) (fun _ _ _ h => h) (Or.inl ⟨by rfl, fun _ _ => by go_simp⟩) hHeld ?_
  simp only [Act.put, List.setIfInBounds_toArray, List.set_cons_zero, List.set_cons_succ]
  refine rg_take (i := 18) (some 31) rfl rfl (by kernel_rfl) (by kernel_rfl) (by kernel_rfl) (fun _ _ _ h => h) (Or.inr ⟨by rfl, rfl⟩) hHeld ?_
  simp only [Act.put, List.setIfInBounds_toArray, List.set_cons_zero, List.set_cons_succ]
  refine rg_take (i := 19) (some 32) rfl rfl (by kernel_rfl) (by kernel_rfl) (by kernel_rfl) (fun _ _ _ h => h) (Or.inr ⟨by rfl, rfl⟩) hHeld ?_
  simp only [Act.put, List.setIfInBounds_toArray, List.set_cons_zero, List.set_cons_succ]
  refine rg_take (i := 20) (some 33) rfl rfl (by kernel_rfl) (by kernel_rfl) (by kernel_rfl) (fun _ _ _ h => h) (Or.inr ⟨by rfl, rfl⟩) hHeld ?_
  simp only [Act.put, List.setIfInBounds_toArray, List.set_cons_zero, List.set_cons_succ]
  refine rg_take (i := 21) (some 34) rfl rfl (by kernel_rfl) (by kernel_rfl) (by kernel_rfl) (fun _ _ _ h => h) (Or.inr ⟨by rfl, rfl⟩) hHeld ?_
  simp only [Act.put, List.setIfInBounds_toArray, List.set_cons_zero, List.set_cons_succ]
  refine rg_take (i := 22) (some 35) rfl rfl (by kernel_rfl) (by kernel_rfl) (by kernel_rfl) (fun _ _ _ h => h) (Or.inr ⟨by rfl, rfl⟩) hHeld ?_
  simp only [Act.put, List.setIfInBounds_toArray, List.set_cons_zero, List.set_cons_succ]
  refine rg_take (i := 23) (some 36) rfl rfl (by kernel_rfl) (by kernel_rfl) (by kernel_rfl) (fun _ _ _ h => h) (Or.inr ⟨by rfl, rfl⟩) hHeld ?_
  simp only [Act.put, List.setIfInBounds_toArray, List.set_cons_zero, List.set_cons_succ]
  refine rg_take (i := 24) (some 37) rfl rfl (by kernel_rfl) (by kernel_rfl) (by kernel_rfl) (fun _ _ _ h => h) (Or.inr ⟨by rfl, rfl⟩) hHeld ?_
  simp only [Act.put, List.setIfInBounds_toArray, List.set_cons_zero, List.set_cons_succ]
  refine rg_take (i := 25) (v := (.bool false)) (some 38) rfl rfl (by kernel_rfl) (by kernel_rfl) (by kernel_rfl) (fun _ _ _ h => h) (Or.inl ⟨by rfl, fun _ _ => by go_simp⟩) hHeld ?_
  simp only [Act.put, List.setIfInBounds_toArray, List.set_cons_zero, List.set_cons_succ]
  refine wpAnyH_done (by kernel_rfl) ?_ _
  go_wp2
  go_ret
  exact ⟨by rw [HV.out]; rfl, HK0.out.trans hHeld⟩
set_option maxHeartbeats 2000000 in
theorem rtakes3 (p : Ps) (hB : Brd p.B) (m : Mv) (f t : Nat) (hf : m.f = f) (ht : m.t = t) (f1 : f < 64) (t1 : t < 64) (h0 : bAt p.B m.t = 0) (h1 : pawnB p m = true) (he : 0 ≤ p.e) (h2 : (m.t == p.e) = false) (w : World) :
    Calls Tryd.prog 14 #[.agg (pl p).toArray, .agg (ml m).toArray] w fun e w' => e = .returned (.int .i64 (takeI p m)) ∧ Kept w w' := by
  have HP : Hid (PAt _ _ p) := ⟨hB.1, heap_alloc2_old w (.cells (pl p).toArray 26) (.cells (ml m).toArray 28)⟩
  have HM : Hid (MAt _ _ m) := ⟨heap_alloc2_new w (.cells (pl p).toArray 26) (.cells (ml m).toArray 28)⟩
  have HK0 := Lib.hid (((Kept.refl w).alloc (.cells (pl p).toArray 26)).alloc (.cells (ml m).toArray 28))
  have hpl : Hid (p.B.length = 64) := hB.1
  have xt := HM.out.t
  rw [ht] at xt
  have hct := Lib.hid xt
  have xf := HM.out.f
  rw [hf] at xf
  have hcf := Lib.hid xf
  clear xf
  have ct := HP.out.sq t t1
  have eb : bAt p.B m.t = p.B.getD t 0 := by unfold bAt; rw [ht, Int.toNat_natCast]
  have ep : pawnB p m = (kindI (p.B.getD f 0) == 1) := by unfold pawnB bAt; rw [hf, Int.toNat_natCast]
  have HPw := Lib.hid (rpawn_is p.B hB f f1)
  have HF1 := Lib.hid (fun w => rfile_k (f : Int) w (by omega) (by omega))
  have HF2 := Lib.hid (fun w => rfile_k (t : Int) w (by omega) (by omega))
  have HPs := Lib.hid (rpassed_is p hB)
  have htI : (t : Int) < 64 := by omega
  have HV : Hid (takeI p m = -1) := by show _ = _; unfold takeI epTake; rw [if_neg (by simpa using h0), if_neg (by simp [h2])]
  have he' : decide ((0 : Int) ≤ p.e) = true := decide_eq_true he
  rw [ht] at h2
  rw [eb] at h0
  rw [h0] at ct
  rw [h1] at ep
  rw [← ep] at HPw
  clear h0 eb ep h1
  clear hB hf ht
  go_enter Tryd.func14, Tryd.ntmps14
  go_wp2
  clear ct xt
  generalize (w.alloc (.cells (pl p).toArray 26)).alloc (.cells (ml m).toArray 28) = W at *
  refine wp_region_held_drew (S := Kept _) (by kernel_rfl) (Kept.refl _).drew (fun hHeld => ?_)
  refine rg_take (i := 0) (v := (.pointer (some ⟨w.heap.size, 0, none⟩))) (some 13) rfl rfl (by kernel_rfl) (by kernel_rfl) (by kernel_rfl) (fun _ _ _ h => h) (Or.inl ⟨by rfl, fun _ _ => by go_simp⟩) hHeld ?_
  simp only [Act.put, List.setIfInBounds_toArray, List.set_cons_zero, List.set_cons_succ]
  refine rg_take (i := 1) (some 14) rfl rfl (by kernel_rfl) (by kernel_rfl) (by kernel_rfl) (fun _ _ _ h => h) (take_load_pb (by rfl) _ rfl _ rfl p hpl.out (fun _ h => (HP.out).kept h)) hHeld ?_
  simp only [Act.put, List.setIfInBounds_toArray, List.set_cons_zero, List.set_cons_succ]
  refine rg_take (i := 2) (v := (.pointer (some ⟨w.heap.size + 1, 0, none⟩))) (some 15) rfl rfl (by kernel_rfl) (by kernel_rfl) (by kernel_rfl) (fun _ _ _ h => h) (Or.inl ⟨by rfl, fun _ _ => by go_simp⟩) hHeld ?_
  simp only [Act.put, List.setIfInBounds_toArray, List.set_cons_zero, List.set_cons_succ]
  refine rg_take (i := 3) (v := (.int .i64 ↑f)) (some 16) rfl rfl (by kernel_rfl) (by kernel_rfl) (by kernel_rfl) (fun _ _ _ h => h) (Or.inl ⟨by rfl, fun w' h => by have h' := kept_cell h (hcf.out); go_simp⟩) hHeld ?_
  simp only [Act.put, List.setIfInBounds_toArray, List.set_cons_zero, List.set_cons_succ]
  refine wpAnyH_ready (rs := [4]) (by kernel_rfl) (by simp) ?_
  refine AllReadyH.cons rfl (fun K hK => ?_) AllReadyH.nil
  go_simp
  refine (HPw.out _).mono ?_
  rintro e w2 ⟨rfl, gw2⟩
  refine hK.out _ _ (hHeld.trans gw2) (fun _ => ?_)
  replace hHeld := hHeld.trans gw2
  clear hK K
  refine rg_take (i := 5) (v := (.bool true)) (some 18) rfl rfl (by kernel_rfl) (by kernel_rfl) (by kernel_rfl) (fun _ _ _ h => h) (Or.inl ⟨by rfl, fun _ _ => by go_simp⟩) hHeld ?_
  simp only [Act.put, List.setIfInBounds_toArray, List.set_cons_zero, List.set_cons_succ]
  refine rg_take (i := 6) (v := (.pointer (some ⟨w.heap.size, 66, none⟩))) (some 19) rfl rfl (by kernel_rfl) (by kernel_rfl) (by kernel_rfl) (fun _ _ _ h => h) (Or.inl ⟨by rfl, fun _ _ => by go_simp⟩) hHeld ?_
  simp only [Act.put, List.setIfInBounds_toArray, List.set_cons_zero, List.set_cons_succ]
  refine rg_take (i := 7) (v := (.int .i64 p.e)) (some 20) rfl rfl (by kernel_rfl) (by kernel_rfl) (by kernel_rfl) (fun _ _ _ h => h) (Or.inl ⟨by rfl, fun w' h => by have h' := kept_cell h (HP.out.ep); go_simp⟩) hHeld ?_
  simp only [Act.put, List.setIfInBounds_toArray, List.set_cons_zero, List.set_cons_succ]
  refine rg_take (i := 8) (v := (.bool true)) (some 21) rfl rfl (by kernel_rfl) (by kernel_rfl) (by kernel_rfl) (fun _ _ _ h => h) (Or.inl ⟨by rfl, fun _ _ => by go_simp⟩) hHeld ?_
  simp only [Act.put, List.setIfInBounds_toArray, List.set_cons_zero, List.set_cons_succ]
  refine rg_take (i := 9) (v := (.bool true)) (some 22) rfl rfl (by kernel_rfl) (by kernel_rfl) (by kernel_rfl) (fun _ _ _ h => h) (Or.inl ⟨by rfl, fun _ _ => by go_simp⟩) hHeld ?_
  simp only [Act.put, List.setIfInBounds_toArray, List.set_cons_zero, List.set_cons_succ]
  refine rg_take (i := 10) (v := (.bool true)) (some 23) rfl rfl (by kernel_rfl) (by kernel_rfl) (by kernel_rfl) (fun _ _ _ h => h) (Or.inl ⟨by rfl, fun _ _ => by go_simp⟩) hHeld ?_
  simp only [Act.put, List.setIfInBounds_toArray, List.set_cons_zero, List.set_cons_succ]
  refine rg_take (i := 11) (v := (.pointer (some ⟨w.heap.size + 1, 1, none⟩))) (some 24) rfl rfl (by kernel_rfl) (by kernel_rfl) (by kernel_rfl) (fun _ _ _ h => h) (Or.inl ⟨by rfl, fun _ _ => by go_simp⟩) hHeld ?_
  simp only [Act.put, List.setIfInBounds_toArray, List.set_cons_zero, List.set_cons_succ]
  refine rg_take (i := 12) (v := (.int .i64 ↑t)) (some 25) rfl rfl (by kernel_rfl) (by kernel_rfl) (by kernel_rfl) (fun _ _ _ h => h) (Or.inl ⟨by rfl, fun w' h => by have h' := kept_cell h (hct.out); go_simp⟩) hHeld ?_
  simp only [Act.put, List.setIfInBounds_toArray, List.set_cons_zero, List.set_cons_succ]
  refine rg_take (i := 13) (v := (.pointer (some ⟨w.heap.size, 66, none⟩))) (some 26) rfl rfl (by kernel_rfl) (by kernel_rfl) (by kernel_rfl) (fun _ _ _ h => h) (Or.inl ⟨by rfl, fun _ _ => by go_simp⟩) hHeld ?_
  simp only [Act.put, List.setIfInBounds_toArray, List.set_cons_zero, List.set_cons_succ]
  refine rg_take (i := 14) (v := (.int .i64 p.e)) (some 27) rfl rfl (by kernel_rfl) (by kernel_rfl) (by kernel_rfl) (fun _ _ _ h => h) (Or.inl ⟨by rfl, fun w' h => by have h' := kept_cell h (HP.out.ep); go_simp⟩) hHeld ?_
  simp only [Act.put, List.setIfInBounds_toArray, List.set_cons_zero, List.set_cons_succ]
  refine rg_take (i := 15) (v := (.bool false)) (some 28) rfl rfl (by kernel_rfl) (by kernel_rfl) (by kernel_rfl) (fun _ _ _ h => h) (Or.inl ⟨by rfl, fun _ _ => by go_simp⟩) hHeld ?_
  simp only [Act.put, List.setIfInBounds_toArray, List.set_cons_zero, List.set_cons_succ]
  refine rg_take (i := 16) (v := (.bool false)) (some 29) rfl rfl (by kernel_rfl) (by kernel_rfl) (by kernel_rfl) (fun _ _ _ h => h) (Or.inl ⟨by rfl, fun _ _ => by go_simp⟩) hHeld ?_
  simp only [Act.put, List.setIfInBounds_toArray, List.set_cons_zero, List.set_cons_succ]
  refine rg_take (i := 17) (v := (.bool false)) (some 30) rfl rfl (by kernel_rfl) (by kernel_rfl) (by kernel_rfl) (fun _ _ _ h => h) (Or.inl ⟨by rfl, fun _ _ => by go_simp⟩) hHeld ?_
  simp only [Act.put, List.setIfInBounds_toArray, List.set_cons_zero, List.set_cons_succ]
  refine rg_take (i := 18) (some 31) rfl rfl (by kernel_rfl) (by kernel_rfl) (by kernel_rfl) (fun _ _ _ h => h) (Or.inr ⟨by rfl, rfl⟩) hHeld ?_
  simp only [Act.put, List.setIfInBounds_toArray, List.set_cons_zero, List.set_cons_succ]
  refine rg_take (i := 19) (some 32) rfl rfl (by kernel_rfl) (by kernel_rfl) (by kernel_rfl) (fun _ _ _ h => h) (Or.inr ⟨by rfl, rfl⟩) hHeld ?_
  simp only [Act.put, List.setIfInBounds_toArray, List.set_cons_zero, List.set_cons_succ]
  refine rg_take (i := 20) (some 33) rfl rfl (by kernel_rfl) (by kernel_rfl) (by kernel_rfl) (fun _ _ _ h => h) (Or.inr ⟨by rfl, rfl⟩) hHeld ?_
  simp only [Act.put, List.setIfInBounds_toArray, List.set_cons_zero, List.set_cons_succ]
  refine rg_take (i := 21) (some 34) rfl rfl (by kernel_rfl) (by kernel_rfl) (by kernel_rfl) (fun _ _ _ h => h) (Or.inr ⟨by rfl, rfl⟩) hHeld ?_
  simp only [Act.put, List.setIfInBounds_toArray, List.set_cons_zero, List.set_cons_succ]
  refine rg_take (i := 22) (some 35) rfl rfl (by kernel_rfl) (by kernel_rfl) (by kernel_rfl) (fun _ _ _ h => h) (Or.inr ⟨by rfl, rfl⟩) hHeld ?_
  simp only [Act.put, List.setIfInBounds_toArray, List.set_cons_zero, List.set_cons_succ]
  refine rg_take (i := 23) (some 36) rfl rfl (by kernel_rfl) (by kernel_rfl) (by kernel_rfl) (fun _ _ _ h => h) (Or.inr ⟨by rfl, rfl⟩) hHeld ?_
  simp only [Act.put, List.setIfInBounds_toArray, List.set_cons_zero, List.set_cons_succ]
  refine rg_take (i := 24) (some 37) rfl rfl (by kernel_rfl) (by kernel_rfl) (by kernel_rfl) (fun _ _ _ h => h) (Or.inr ⟨by rfl, rfl⟩) hHeld ?_
  simp only [Act.put, List.setIfInBounds_toArray, List.set_cons_zero, List.set_cons_succ]
  refine rg_take (i := 25) (v := (.bool false)) (some 38) rfl rfl (by kernel_rfl) (by kernel_rfl) (by kernel_rfl) (fun _ _ _ h => h) (Or.inl ⟨by rfl, fun _ _ => by go_simp⟩) hHeld ?_
  simp only [Act.put, List.setIfInBounds_toArray, List.set_cons_zero, List.set_cons_succ]
  refine wpAnyH_done (by kernel_rfl) ?_ _
  go_wp2
  go_ret
  exact ⟨by rw [HV.out]; rfl, HK0.out.trans hHeld⟩
set_option maxHeartbeats 2000000 in
theorem rtakes4 (p : Ps) (hB : Brd p.B) (m : Mv) (f t : Nat) (hf : m.f = f) (ht : m.t = t) (f1 : f < 64) (t1 : t < 64) (h0 : bAt p.B m.t = 0) (h1 : pawnB p m = true) (he : 0 ≤ p.e) (h2 : (m.t == p.e) = true) (h3 : (m.f % 8 != m.t % 8) = false) (w : World) :
    Calls Tryd.prog 14 #[.agg (pl p).toArray, .agg (ml m).toArray] w fun e w' => e = .returned (.int .i64 (takeI p m)) ∧ Kept w w' := by
  have HP : Hid (PAt _ _ p) := ⟨hB.1, heap_alloc2_old w (.cells (pl p).toArray 26) (.cells (ml m).toArray 28)⟩
  have HM : Hid (MAt _ _ m) := ⟨heap_alloc2_new w (.cells (pl p).toArray 26) (.cells (ml m).toArray 28)⟩
  have HK0 := Lib.hid (((Kept.refl w).alloc (.cells (pl p).toArray 26)).alloc (.cells (ml m).toArray 28))
  have hpl : Hid (p.B.length = 64) := hB.1
  have xt := HM.out.t
  rw [ht] at xt
  have hct := Lib.hid xt
  have xf := HM.out.f
  rw [hf] at xf
  have hcf := Lib.hid xf
  clear xf
  have ct := HP.out.sq t t1
  have eb : bAt p.B m.t = p.B.getD t 0 := by unfold bAt; rw [ht, Int.toNat_natCast]
  have ep : pawnB p m = (kindI (p.B.getD f 0) == 1) := by unfold pawnB bAt; rw [hf, Int.toNat_natCast]
  have HPw := Lib.hid (rpawn_is p.B hB f f1)
  have HF1 := Lib.hid (fun w => rfile_k (f : Int) w (by omega) (by omega))
  have HF2 := Lib.hid (fun w => rfile_k (t : Int) w (by omega) (by omega))
  have HPs := Lib.hid (rpassed_is p hB)
  have htI : (t : Int) < 64 := by omega
  have HV : Hid (takeI p m = -1) := by show _ = _; unfold takeI epTake; rw [if_neg (by simpa using h0), if_neg (by simp [h3])]
  have he' : decide ((0 : Int) ≤ p.e) = true := decide_eq_true he
  have h3' : ((t : Int) % 8 != (f : Int) % 8) = false := by rw [← h3, hf, ht, bne_comm]
  rw [ht] at h2
  clear h3
  rw [eb] at h0
  rw [h0] at ct
  rw [h1] at ep
  rw [← ep] at HPw
  clear h0 eb ep h1
  clear hB hf ht
  go_enter Tryd.func14, Tryd.ntmps14
  go_wp2
  clear ct xt
  generalize (w.alloc (.cells (pl p).toArray 26)).alloc (.cells (ml m).toArray 28) = W at *
  refine wp_region_held_drew (S := Kept _) (by kernel_rfl) (Kept.refl _).drew (fun hHeld => ?_)
  refine rg_take (i := 0) (v := (.pointer (some ⟨w.heap.size, 0, none⟩))) (some 13) rfl rfl (by kernel_rfl) (by kernel_rfl) (by kernel_rfl) (fun _ _ _ h => h) (Or.inl ⟨by rfl, fun _ _ => by go_simp⟩) hHeld ?_
  simp only [Act.put, List.setIfInBounds_toArray, List.set_cons_zero, List.set_cons_succ]
  refine rg_take (i := 1) (some 14) rfl rfl (by kernel_rfl) (by kernel_rfl) (by kernel_rfl) (fun _ _ _ h => h) (take_load_pb (by rfl) _ rfl _ rfl p hpl.out (fun _ h => (HP.out).kept h)) hHeld ?_
  simp only [Act.put, List.setIfInBounds_toArray, List.set_cons_zero, List.set_cons_succ]
  refine rg_take (i := 2) (v := (.pointer (some ⟨w.heap.size + 1, 0, none⟩))) (some 15) rfl rfl (by kernel_rfl) (by kernel_rfl) (by kernel_rfl) (fun _ _ _ h => h) (Or.inl ⟨by rfl, fun _ _ => by go_simp⟩) hHeld ?_
  simp only [Act.put, List.setIfInBounds_toArray, List.set_cons_zero, List.set_cons_succ]
  refine rg_take (i := 3) (v := (.int .i64 ↑f)) (some 16) rfl rfl (by kernel_rfl) (by kernel_rfl) (by kernel_rfl) (fun _ _ _ h => h) (Or.inl ⟨by rfl, fun w' h => by have h' := kept_cell h (hcf.out); go_simp⟩) hHeld ?_
  simp only [Act.put, List.setIfInBounds_toArray, List.set_cons_zero, List.set_cons_succ]
  refine wpAnyH_ready (rs := [4]) (by kernel_rfl) (by simp) ?_
  refine AllReadyH.cons rfl (fun K hK => ?_) AllReadyH.nil
  go_simp
  refine (HPw.out _).mono ?_
  rintro e w2 ⟨rfl, gw2⟩
  refine hK.out _ _ (hHeld.trans gw2) (fun _ => ?_)
  replace hHeld := hHeld.trans gw2
  clear hK K
  refine rg_take (i := 5) (v := (.bool true)) (some 18) rfl rfl (by kernel_rfl) (by kernel_rfl) (by kernel_rfl) (fun _ _ _ h => h) (Or.inl ⟨by rfl, fun _ _ => by go_simp⟩) hHeld ?_
  simp only [Act.put, List.setIfInBounds_toArray, List.set_cons_zero, List.set_cons_succ]
  refine rg_take (i := 6) (v := (.pointer (some ⟨w.heap.size, 66, none⟩))) (some 19) rfl rfl (by kernel_rfl) (by kernel_rfl) (by kernel_rfl) (fun _ _ _ h => h) (Or.inl ⟨by rfl, fun _ _ => by go_simp⟩) hHeld ?_
  simp only [Act.put, List.setIfInBounds_toArray, List.set_cons_zero, List.set_cons_succ]
  refine rg_take (i := 7) (v := (.int .i64 p.e)) (some 20) rfl rfl (by kernel_rfl) (by kernel_rfl) (by kernel_rfl) (fun _ _ _ h => h) (Or.inl ⟨by rfl, fun w' h => by have h' := kept_cell h (HP.out.ep); go_simp⟩) hHeld ?_
  simp only [Act.put, List.setIfInBounds_toArray, List.set_cons_zero, List.set_cons_succ]
  refine rg_take (i := 8) (v := (.bool true)) (some 21) rfl rfl (by kernel_rfl) (by kernel_rfl) (by kernel_rfl) (fun _ _ _ h => h) (Or.inl ⟨by rfl, fun _ _ => by go_simp⟩) hHeld ?_
  simp only [Act.put, List.setIfInBounds_toArray, List.set_cons_zero, List.set_cons_succ]
  refine rg_take (i := 9) (v := (.bool true)) (some 22) rfl rfl (by kernel_rfl) (by kernel_rfl) (by kernel_rfl) (fun _ _ _ h => h) (Or.inl ⟨by rfl, fun _ _ => by go_simp⟩) hHeld ?_
  simp only [Act.put, List.setIfInBounds_toArray, List.set_cons_zero, List.set_cons_succ]
  refine rg_take (i := 10) (v := (.bool true)) (some 23) rfl rfl (by kernel_rfl) (by kernel_rfl) (by kernel_rfl) (fun _ _ _ h => h) (Or.inl ⟨by rfl, fun _ _ => by go_simp⟩) hHeld ?_
  simp only [Act.put, List.setIfInBounds_toArray, List.set_cons_zero, List.set_cons_succ]
  refine rg_take (i := 11) (v := (.pointer (some ⟨w.heap.size + 1, 1, none⟩))) (some 24) rfl rfl (by kernel_rfl) (by kernel_rfl) (by kernel_rfl) (fun _ _ _ h => h) (Or.inl ⟨by rfl, fun _ _ => by go_simp⟩) hHeld ?_
  simp only [Act.put, List.setIfInBounds_toArray, List.set_cons_zero, List.set_cons_succ]
  refine rg_take (i := 12) (v := (.int .i64 ↑t)) (some 25) rfl rfl (by kernel_rfl) (by kernel_rfl) (by kernel_rfl) (fun _ _ _ h => h) (Or.inl ⟨by rfl, fun w' h => by have h' := kept_cell h (hct.out); go_simp⟩) hHeld ?_
  simp only [Act.put, List.setIfInBounds_toArray, List.set_cons_zero, List.set_cons_succ]
  refine rg_take (i := 13) (v := (.pointer (some ⟨w.heap.size, 66, none⟩))) (some 26) rfl rfl (by kernel_rfl) (by kernel_rfl) (by kernel_rfl) (fun _ _ _ h => h) (Or.inl ⟨by rfl, fun _ _ => by go_simp⟩) hHeld ?_
  simp only [Act.put, List.setIfInBounds_toArray, List.set_cons_zero, List.set_cons_succ]
  refine rg_take (i := 14) (v := (.int .i64 p.e)) (some 27) rfl rfl (by kernel_rfl) (by kernel_rfl) (by kernel_rfl) (fun _ _ _ h => h) (Or.inl ⟨by rfl, fun w' h => by have h' := kept_cell h (HP.out.ep); go_simp⟩) hHeld ?_
  simp only [Act.put, List.setIfInBounds_toArray, List.set_cons_zero, List.set_cons_succ]
  refine rg_take (i := 15) (v := (.bool true)) (some 28) rfl rfl (by kernel_rfl) (by kernel_rfl) (by kernel_rfl) (fun _ _ _ h => h) (Or.inl ⟨by rfl, fun _ _ => by go_simp⟩) hHeld ?_
  simp only [Act.put, List.setIfInBounds_toArray, List.set_cons_zero, List.set_cons_succ]
  refine rg_take (i := 16) (v := (.bool true)) (some 29) rfl rfl (by kernel_rfl) (by kernel_rfl) (by kernel_rfl) (fun _ _ _ h => h) (Or.inl ⟨by rfl, fun _ _ => by go_simp⟩) hHeld ?_
  simp only [Act.put, List.setIfInBounds_toArray, List.set_cons_zero, List.set_cons_succ]
  refine rg_take (i := 17) (v := (.bool true)) (some 30) rfl rfl (by kernel_rfl) (by kernel_rfl) (by kernel_rfl) (fun _ _ _ h => h) (Or.inl ⟨by rfl, fun _ _ => by go_simp⟩) hHeld ?_
  simp only [Act.put, List.setIfInBounds_toArray, List.set_cons_zero, List.set_cons_succ]
  refine rg_take (i := 18) (v := (.pointer (some ⟨w.heap.size + 1, 1, none⟩))) (some 31) rfl rfl (by kernel_rfl) (by kernel_rfl) (by kernel_rfl) (fun _ _ _ h => h) (Or.inl ⟨by rfl, fun _ _ => by go_simp⟩) hHeld ?_
  simp only [Act.put, List.setIfInBounds_toArray, List.set_cons_zero, List.set_cons_succ]
  refine rg_take (i := 19) (v := (.int .i64 ↑t)) (some 32) rfl rfl (by kernel_rfl) (by kernel_rfl) (by kernel_rfl) (fun _ _ _ h => h) (Or.inl ⟨by rfl, fun w' h => by have h' := kept_cell h (hct.out); go_simp⟩) hHeld ?_
  simp only [Act.put, List.setIfInBounds_toArray, List.set_cons_zero, List.set_cons_succ]
  refine rg_take (i := 21) (v := (.pointer (some ⟨w.heap.size + 1, 0, none⟩))) (some 34) rfl rfl (by kernel_rfl) (by kernel_rfl) (by kernel_rfl) (fun _ _ _ h => h) (Or.inl ⟨by rfl, fun _ _ => by go_simp⟩) hHeld ?_
  simp only [Act.put, List.setIfInBounds_toArray, List.set_cons_zero, List.set_cons_succ]
  refine rg_take (i := 22) (v := (.int .i64 ↑f)) (some 35) rfl rfl (by kernel_rfl) (by kernel_rfl) (by kernel_rfl) (fun _ _ _ h => h) (Or.inl ⟨by rfl, fun w' h => by have h' := kept_cell h (hcf.out); go_simp⟩) hHeld ?_
  simp only [Act.put, List.setIfInBounds_toArray, List.set_cons_zero, List.set_cons_succ]
  refine wpAnyH_ready (rs := [20]) (by kernel_rfl) (by simp) ?_
  refine AllReadyH.cons rfl (fun K hK => ?_) AllReadyH.nil
  go_simp
  refine (HF2.out _).mono ?_
  rintro e w3 ⟨rfl, gw3⟩
  refine hK.out _ _ (hHeld.trans gw3) (fun _ => ?_)
  replace hHeld := hHeld.trans gw3
  clear hK K
  refine wpAnyH_ready (rs := [23]) (by kernel_rfl) (by simp) ?_
  refine AllReadyH.cons rfl (fun K hK => ?_) AllReadyH.nil
  go_simp
  refine (HF1.out _).mono ?_
  rintro e w4 ⟨rfl, gw4⟩
  refine hK.out _ _ (hHeld.trans gw4) (fun _ => ?_)
  replace hHeld := hHeld.trans gw4
  clear hK K
  refine rg_take (i := 24) (v := (.bool false)) (some 37) rfl rfl (by kernel_rfl) (by kernel_rfl) (by kernel_rfl) (fun _ _ _ h => h) (Or.inl ⟨by rfl, fun _ _ => by go_simp⟩) hHeld ?_
  simp only [Act.put, List.setIfInBounds_toArray, List.set_cons_zero, List.set_cons_succ]
  refine rg_take (i := 25) (v := (.bool false)) (some 38) rfl rfl (by kernel_rfl) (by kernel_rfl) (by kernel_rfl) (fun _ _ _ h => h) (Or.inl ⟨by rfl, fun _ _ => by go_simp⟩) hHeld ?_
  simp only [Act.put, List.setIfInBounds_toArray, List.set_cons_zero, List.set_cons_succ]
  refine wpAnyH_done (by kernel_rfl) ?_ _
  go_wp2
  go_ret
  exact ⟨by rw [HV.out]; rfl, HK0.out.trans hHeld⟩
set_option maxHeartbeats 2000000 in
theorem rtakes5 (p : Ps) (hB : Brd p.B) (m : Mv) (f t : Nat) (hf : m.f = f) (ht : m.t = t) (f1 : f < 64) (t1 : t < 64) (h0 : bAt p.B m.t = 0) (h1 : pawnB p m = true) (he : 0 ≤ p.e) (h2 : (m.t == p.e) = true) (h3 : (m.f % 8 != m.t % 8) = true) (w : World) :
    Calls Tryd.prog 14 #[.agg (pl p).toArray, .agg (ml m).toArray] w fun e w' => e = .returned (.int .i64 (takeI p m)) ∧ Kept w w' := by
  have HP : Hid (PAt _ _ p) := ⟨hB.1, heap_alloc2_old w (.cells (pl p).toArray 26) (.cells (ml m).toArray 28)⟩
  have HM : Hid (MAt _ _ m) := ⟨heap_alloc2_new w (.cells (pl p).toArray 26) (.cells (ml m).toArray 28)⟩
  have HK0 := Lib.hid (((Kept.refl w).alloc (.cells (pl p).toArray 26)).alloc (.cells (ml m).toArray 28))
  have hpl : Hid (p.B.length = 64) := hB.1
  have xt := HM.out.t
  rw [ht] at xt
  have hct := Lib.hid xt
  have xf := HM.out.f
  rw [hf] at xf
  have hcf := Lib.hid xf
  clear xf
  have ct := HP.out.sq t t1
  have eb : bAt p.B m.t = p.B.getD t 0 := by unfold bAt; rw [ht, Int.toNat_natCast]
  have ep : pawnB p m = (kindI (p.B.getD f 0) == 1) := by unfold pawnB bAt; rw [hf, Int.toNat_natCast]
  have HPw := Lib.hid (rpawn_is p.B hB f f1)
  have HF1 := Lib.hid (fun w => rfile_k (f : Int) w (by omega) (by omega))
  have HF2 := Lib.hid (fun w => rfile_k (t : Int) w (by omega) (by omega))
  have HPs := Lib.hid (rpassed_is p hB)
  have htI : (t : Int) < 64 := by omega
  have HV : Hid (takeI p m = passI p) := by show _ = _; unfold takeI epTake; rw [if_neg (by simpa using h0), if_pos (by rw [h1, h2, h3]; rfl)]
  have he' : decide ((0 : Int) ≤ p.e) = true := decide_eq_true he
  have h3' : ((t : Int) % 8 != (f : Int) % 8) = true := by rw [← h3, hf, ht, bne_comm]
  rw [ht] at h2
  clear h3
  rw [eb] at h0
  rw [h0] at ct
  rw [h1] at ep
  rw [← ep] at HPw
  clear h0 eb ep h1
  clear hB hf ht
  go_enter Tryd.func14, Tryd.ntmps14
  go_wp2
  clear ct xt
  generalize (w.alloc (.cells (pl p).toArray 26)).alloc (.cells (ml m).toArray 28) = W at *
  refine wp_region_held_drew (S := Kept _) (by kernel_rfl) (Kept.refl _).drew (fun hHeld => ?_)
  refine rg_take (i := 0) (v := (.pointer (some ⟨w.heap.size, 0, none⟩))) (some 13) rfl rfl (by kernel_rfl) (by kernel_rfl) (by kernel_rfl) (fun _ _ _ h => h) (Or.inl ⟨by rfl, fun _ _ => by go_simp⟩) hHeld ?_
  simp only [Act.put, List.setIfInBounds_toArray, List.set_cons_zero, List.set_cons_succ]
  refine rg_take (i := 1) (some 14) rfl rfl (by kernel_rfl) (by kernel_rfl) (by kernel_rfl) (fun _ _ _ h => h) (take_load_pb (by rfl) _ rfl _ rfl p hpl.out (fun _ h => (HP.out).kept h)) hHeld ?_
  simp only [Act.put, List.setIfInBounds_toArray, List.set_cons_zero, List.set_cons_succ]
  refine rg_take (i := 2) (v := (.pointer (some ⟨w.heap.size + 1, 0, none⟩))) (some 15) rfl rfl (by kernel_rfl) (by kernel_rfl) (by kernel_rfl) (fun _ _ _ h => h) (Or.inl ⟨by rfl, fun _ _ => by go_simp⟩) hHeld ?_
  simp only [Act.put, List.setIfInBounds_toArray, List.set_cons_zero, List.set_cons_succ]
  refine rg_take (i := 3) (v := (.int .i64 ↑f)) (some 16) rfl rfl (by kernel_rfl) (by kernel_rfl) (by kernel_rfl) (fun _ _ _ h => h) (Or.inl ⟨by rfl, fun w' h => by have h' := kept_cell h (hcf.out); go_simp⟩) hHeld ?_
  simp only [Act.put, List.setIfInBounds_toArray, List.set_cons_zero, List.set_cons_succ]
  refine wpAnyH_ready (rs := [4]) (by kernel_rfl) (by simp) ?_
  refine AllReadyH.cons rfl (fun K hK => ?_) AllReadyH.nil
  go_simp
  refine (HPw.out _).mono ?_
  rintro e w2 ⟨rfl, gw2⟩
  refine hK.out _ _ (hHeld.trans gw2) (fun _ => ?_)
  replace hHeld := hHeld.trans gw2
  clear hK K
  refine rg_take (i := 5) (v := (.bool true)) (some 18) rfl rfl (by kernel_rfl) (by kernel_rfl) (by kernel_rfl) (fun _ _ _ h => h) (Or.inl ⟨by rfl, fun _ _ => by go_simp⟩) hHeld ?_
  simp only [Act.put, List.setIfInBounds_toArray, List.set_cons_zero, List.set_cons_succ]
  refine rg_take (i := 6) (v := (.pointer (some ⟨w.heap.size, 66, none⟩))) (some 19) rfl rfl (by kernel_rfl) (by kernel_rfl) (by kernel_rfl) (fun _ _ _ h => h) (Or.inl ⟨by rfl, fun _ _ => by go_simp⟩) hHeld ?_
  simp only [Act.put, List.setIfInBounds_toArray, List.set_cons_zero, List.set_cons_succ]
  refine rg_take (i := 7) (v := (.int .i64 p.e)) (some 20) rfl rfl (by kernel_rfl) (by kernel_rfl) (by kernel_rfl) (fun _ _ _ h => h) (Or.inl ⟨by rfl, fun w' h => by have h' := kept_cell h (HP.out.ep); go_simp⟩) hHeld ?_
  simp only [Act.put, List.setIfInBounds_toArray, List.set_cons_zero, List.set_cons_succ]
  refine rg_take (i := 8) (v := (.bool true)) (some 21) rfl rfl (by kernel_rfl) (by kernel_rfl) (by kernel_rfl) (fun _ _ _ h => h) (Or.inl ⟨by rfl, fun _ _ => by go_simp⟩) hHeld ?_
  simp only [Act.put, List.setIfInBounds_toArray, List.set_cons_zero, List.set_cons_succ]
  refine rg_take (i := 9) (v := (.bool true)) (some 22) rfl rfl (by kernel_rfl) (by kernel_rfl) (by kernel_rfl) (fun _ _ _ h => h) (Or.inl ⟨by rfl, fun _ _ => by go_simp⟩) hHeld ?_
  simp only [Act.put, List.setIfInBounds_toArray, List.set_cons_zero, List.set_cons_succ]
  refine rg_take (i := 10) (v := (.bool true)) (some 23) rfl rfl (by kernel_rfl) (by kernel_rfl) (by kernel_rfl) (fun _ _ _ h => h) (Or.inl ⟨by rfl, fun _ _ => by go_simp⟩) hHeld ?_
  simp only [Act.put, List.setIfInBounds_toArray, List.set_cons_zero, List.set_cons_succ]
  refine rg_take (i := 11) (v := (.pointer (some ⟨w.heap.size + 1, 1, none⟩))) (some 24) rfl rfl (by kernel_rfl) (by kernel_rfl) (by kernel_rfl) (fun _ _ _ h => h) (Or.inl ⟨by rfl, fun _ _ => by go_simp⟩) hHeld ?_
  simp only [Act.put, List.setIfInBounds_toArray, List.set_cons_zero, List.set_cons_succ]
  refine rg_take (i := 12) (v := (.int .i64 ↑t)) (some 25) rfl rfl (by kernel_rfl) (by kernel_rfl) (by kernel_rfl) (fun _ _ _ h => h) (Or.inl ⟨by rfl, fun w' h => by have h' := kept_cell h (hct.out); go_simp⟩) hHeld ?_
  simp only [Act.put, List.setIfInBounds_toArray, List.set_cons_zero, List.set_cons_succ]
  refine rg_take (i := 13) (v := (.pointer (some ⟨w.heap.size, 66, none⟩))) (some 26) rfl rfl (by kernel_rfl) (by kernel_rfl) (by kernel_rfl) (fun _ _ _ h => h) (Or.inl ⟨by rfl, fun _ _ => by go_simp⟩) hHeld ?_
  simp only [Act.put, List.setIfInBounds_toArray, List.set_cons_zero, List.set_cons_succ]
  refine rg_take (i := 14) (v := (.int .i64 p.e)) (some 27) rfl rfl (by kernel_rfl) (by kernel_rfl) (by kernel_rfl) (fun _ _ _ h => h) (Or.inl ⟨by rfl, fun w' h => by have h' := kept_cell h (HP.out.ep); go_simp⟩) hHeld ?_
  simp only [Act.put, List.setIfInBounds_toArray, List.set_cons_zero, List.set_cons_succ]
  refine rg_take (i := 15) (v := (.bool true)) (some 28) rfl rfl (by kernel_rfl) (by kernel_rfl) (by kernel_rfl) (fun _ _ _ h => h) (Or.inl ⟨by rfl, fun _ _ => by go_simp⟩) hHeld ?_
  simp only [Act.put, List.setIfInBounds_toArray, List.set_cons_zero, List.set_cons_succ]
  refine rg_take (i := 16) (v := (.bool true)) (some 29) rfl rfl (by kernel_rfl) (by kernel_rfl) (by kernel_rfl) (fun _ _ _ h => h) (Or.inl ⟨by rfl, fun _ _ => by go_simp⟩) hHeld ?_
  simp only [Act.put, List.setIfInBounds_toArray, List.set_cons_zero, List.set_cons_succ]
  refine rg_take (i := 17) (v := (.bool true)) (some 30) rfl rfl (by kernel_rfl) (by kernel_rfl) (by kernel_rfl) (fun _ _ _ h => h) (Or.inl ⟨by rfl, fun _ _ => by go_simp⟩) hHeld ?_
  simp only [Act.put, List.setIfInBounds_toArray, List.set_cons_zero, List.set_cons_succ]
  refine rg_take (i := 18) (v := (.pointer (some ⟨w.heap.size + 1, 1, none⟩))) (some 31) rfl rfl (by kernel_rfl) (by kernel_rfl) (by kernel_rfl) (fun _ _ _ h => h) (Or.inl ⟨by rfl, fun _ _ => by go_simp⟩) hHeld ?_
  simp only [Act.put, List.setIfInBounds_toArray, List.set_cons_zero, List.set_cons_succ]
  refine rg_take (i := 19) (v := (.int .i64 ↑t)) (some 32) rfl rfl (by kernel_rfl) (by kernel_rfl) (by kernel_rfl) (fun _ _ _ h => h) (Or.inl ⟨by rfl, fun w' h => by have h' := kept_cell h (hct.out); go_simp⟩) hHeld ?_
  simp only [Act.put, List.setIfInBounds_toArray, List.set_cons_zero, List.set_cons_succ]
  refine rg_take (i := 21) (v := (.pointer (some ⟨w.heap.size + 1, 0, none⟩))) (some 34) rfl rfl (by kernel_rfl) (by kernel_rfl) (by kernel_rfl) (fun _ _ _ h => h) (Or.inl ⟨by rfl, fun _ _ => by go_simp⟩) hHeld ?_
  simp only [Act.put, List.setIfInBounds_toArray, List.set_cons_zero, List.set_cons_succ]
  refine rg_take (i := 22) (v := (.int .i64 ↑f)) (some 35) rfl rfl (by kernel_rfl) (by kernel_rfl) (by kernel_rfl) (fun _ _ _ h => h) (Or.inl ⟨by rfl, fun w' h => by have h' := kept_cell h (hcf.out); go_simp⟩) hHeld ?_
  simp only [Act.put, List.setIfInBounds_toArray, List.set_cons_zero, List.set_cons_succ]
  refine wpAnyH_ready (rs := [20]) (by kernel_rfl) (by simp) ?_
  refine AllReadyH.cons rfl (fun K hK => ?_) AllReadyH.nil
  go_simp
  refine (HF2.out _).mono ?_
  rintro e w3 ⟨rfl, gw3⟩
  refine hK.out _ _ (hHeld.trans gw3) (fun _ => ?_)
  replace hHeld := hHeld.trans gw3
  clear hK K
  refine wpAnyH_ready (rs := [23]) (by kernel_rfl) (by simp) ?_
  refine AllReadyH.cons rfl (fun K hK => ?_) AllReadyH.nil
  go_simp
  refine (HF1.out _).mono ?_
  rintro e w4 ⟨rfl, gw4⟩
  refine hK.out _ _ (hHeld.trans gw4) (fun _ => ?_)
  replace hHeld := hHeld.trans gw4
  clear hK K
  refine rg_take (i := 24) (v := (.bool true)) (some 37) rfl rfl (by kernel_rfl) (by kernel_rfl) (by kernel_rfl) (fun _ _ _ h => h) (Or.inl ⟨by rfl, fun _ _ => by go_simp⟩) hHeld ?_
  simp only [Act.put, List.setIfInBounds_toArray, List.set_cons_zero, List.set_cons_succ]
  refine rg_take (i := 25) (v := (.bool true)) (some 38) rfl rfl (by kernel_rfl) (by kernel_rfl) (by kernel_rfl) (fun _ _ _ h => h) (Or.inl ⟨by rfl, fun _ _ => by go_simp⟩) hHeld ?_
  simp only [Act.put, List.setIfInBounds_toArray, List.set_cons_zero, List.set_cons_succ]
  refine wpAnyH_done (by kernel_rfl) ?_ _
  have HP4 := Lib.hid (HP.out.kept hHeld)
  have HK4 := Lib.hid (HK0.out.trans hHeld)
  clear hHeld
  go_wp2_with (first | (refine wpList_load_ps (by rfl) _ rfl _ rfl _ (HP4.out) ?_) | (refine wpList_load_pb (by rfl) _ rfl _ rfl _ (HP4.out) ?_))
  refine (HPs.out _).mono ?_
  rintro e w5 ⟨rfl, k5⟩
  have HK5 := Lib.hid (HK4.out.trans k5)
  clear k5
  go_wp2
  go_ret
  exact ⟨by rw [HV.out]; rfl, HK5.out⟩
theorem rtakes_is (p : Ps) (hB : Brd p.B) (m : Mv) (ho : On m) (w : World) :
    Calls Tryd.prog 14 #[.agg (pl p).toArray, .agg (ml m).toArray] w fun e w' => e = .returned (.int .i64 (takeI p m)) ∧ Kept w w' := by
  obtain ⟨f, hf⟩ := Int.eq_ofNat_of_zero_le ho.f0
  obtain ⟨t, ht⟩ := Int.eq_ofNat_of_zero_le ho.t0
  have f1 : f < 64 := by have := ho.f1; omega
  have t1 : t < 64 := by have := ho.t1; omega
  by_cases h0 : bAt p.B m.t = 0
  · cases h1 : pawnB p m
    · exact rtakes1 p hB m f t hf ht f1 t1 h0 h1 w
    · by_cases he : 0 ≤ p.e
      · cases h2 : (m.t == p.e)
        · exact rtakes3 p hB m f t hf ht f1 t1 h0 h1 he h2 w
        · cases h3 : (m.f % 8 != m.t % 8)
          · exact rtakes4 p hB m f t hf ht f1 t1 h0 h1 he h2 h3 w
          · exact rtakes5 p hB m f t hf ht f1 t1 h0 h1 he h2 h3 w
      · exact rtakes2 p hB m f t hf ht f1 t1 h0 h1 he w
  · exact rtakes0 p hB m f t hf ht f1 t1 h0 w
end Go.Proofs.YtliibpahnkeogaaDoor
