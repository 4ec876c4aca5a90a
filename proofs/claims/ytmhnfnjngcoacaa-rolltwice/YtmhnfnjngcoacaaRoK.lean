/- The walk of RollTwice. -/
import Derived.Test.YtmhnfnjngcoacaaRoJ
import Derived.BigRegion
namespace Go.Proofs.Ytmhnfnjngcoacaa
open Go.RowKit
set_option linter.unusedVariables false
set_option linter.unusedSimpArgs false

/-- The text with one man more. -/
theorem more_text (B : List Int) (k at_ : Nat) (hk : k < 6) : (((⟨(rollT B).toArray⟩ : ByteArray) ++ ⟨#[32]⟩) ++ lettN (5 - k) ++ nameOf (at_ : Nat)).data.toList = rollT B ++ (32 :: itemT (11 - k) at_) := by
  rw [bs_app, bs_app, bs_app]
  unfold itemT
  rw [show (11 - k) % 6 = 5 - k by omega]
  simp
theorem more_man (k : Nat) (hk : k < 6) : inOrd (11 - k) = -((k : Int) + 1) := by
  unfold inOrd
  rw [if_neg (by omega)]
  omega
theorem conv_two (at_ : Nat) (h : at_ < 64) (x y : Int) (hx : x = 97 + (at_ : Int) % 8) (hy : y = 49 + (at_ : Int) / 8) (w : World) :
    (convert 34 9 (.slice (some ⟨w.heap.size, 0, none⟩) 2 2)).run Try.prog (w.alloc (.cells #[.int .u8 x, .int .u8 y] 5)) = .ok (.string (nameOf (at_ : Nat))) (w.alloc (.cells #[.int .u8 x, .int .u8 y] 5)) := by
  subst hx
  subst hy
  obtain ⟨a, b, e, ha, hb⟩ := name_bytes at_ h
  have e1 : (97 : Int) + (at_ : Int) % 8 = (a.toNat : Int) := by omega
  have e2 : (49 : Int) + (at_ : Int) / 8 = (b.toNat : Int) := by omega
  rw [e1, e2]
  have h3 := run_convert_bytes_back (P := Try.prog) (w.alloc (.cells #[.int .u8 (a.toNat : Int), .int .u8 (b.toNat : Int)] 5)) 34 9 5 ⟨w.heap.size, 0, none⟩ 2 [a, b] Try.underlying34 Try.underlying5 Try.underlying9 ?_
  · have : nameOf (at_ : Nat) = ⟨[a, b].toArray⟩ := bs_eq e
    rw [this]
    exact h3
  · intro j hj
    match j, hj with
    | 0, _ => simp [Addr.add, go_sem]
    | 1, _ => simp [Addr.add, go_sem]
set_option maxHeartbeats 2000000 in
theorem walkRollTwice (B : List Int) (hB : Brd B) (s : Int) (ws : (Lit.int .u8 s).wf = true) (kd : Int) (wk : (Lit.int .u8 kd).wf = true) (w : World) :
    Calls Try.prog 4 #[.agg (cl B).toArray, .int .u8 s, .int .u8 kd] w fun e w' => e = .returned (.bool true) ∧ Kept w w' := by
  have hbl := Lib.hid (heap_alloc_new w (.cells (cl B).toArray 24))
  have hk0 := Lib.hid ((Kept.refl w).alloc (.cells (cl B).toArray 24))
  have hz := Lib.hid (size_cl hB.1)
  have hzz := Lib.hid (size_cl Zb_brd.1)
  have H := Lib.hid hB
  have hBl := Lib.hid hB.1
  have hmin : IntKind.u8.min = 0 := by decide
  have hmax : IntKind.u8.max = 255 := by decide
  have hs0 : 0 ≤ s ∧ s ≤ 255 := by simpa [Lit.wf, hmin, hmax] using ws
  have hq0 : 0 ≤ kd ∧ kd ≤ 255 := by simpa [Lit.wf, hmin, hmax] using wk
  clear hmin hmax hB ws wk
  cases hR : rightB B with
  | false =>
    go_enter Try.func4, Try.ntmps4
    go_wp2_with fail
    refine (rollwakes _).mono ?_
    rintro e w1 ⟨rfl, g1⟩
    go_wp2_with (refine wpList_load_w (by rfl) _ rfl _ rfl _ (g1.heap hbl.out) hz.out ?_)
    refine (rollwrite_no B H.out hR _).mono ?_
    rintro e w2 ⟨rfl, g2⟩
    go_wp2
    go_ret
    exact ⟨rfl, hk0.out.trans (g1.trans g2)⟩
  | true =>
    obtain ⟨k, hk⟩ : ∃ k : Nat, kd % 6 = (k : Int) := ⟨(kd % 6).toNat, by omega⟩
    obtain ⟨p, hp⟩ : ∃ p : Nat, s % 64 = (p : Int) := ⟨(s % 64).toNat, by omega⟩
    have hk6 : k < 6 := by omega
    have hp64 : p < 64 := by omega
    go_enter Try.func4, Try.ntmps4
    go_wp2_with fail
    refine (rollwakes _).mono ?_
    rintro e w1 ⟨rfl, g1⟩
    go_wp2_with (refine wpList_load_w (by rfl) _ rfl _ rfl _ (g1.heap hbl.out) hz.out ?_)
    refine (rollwrite_yes B H.out hR _).mono ?_
    rintro e w2 ⟨rfl, g2⟩
    have K2 := Lib.hid (hk0.out.trans (g1.trans g2))
    have hb2 := Lib.hid ((g1.trans g2).heap hbl.out)
    clear g1 g2
    go_wp2
    rw [hp]
    have hTl := roll_size B
    have hTb := rollT_len B
    have HMT := Lib.hid (more_text B k p hk6)
    obtain ⟨T, hT⟩ : ∃ T : ByteArray, (⟨(rollT B).toArray⟩ : ByteArray) = T := ⟨_, rfl⟩
    rw [hT] at hTl HMT
    rw [hT]
    have HT := Lib.hid hT
    have z1 : ¬ 9223372036854775807 < T.size + 1 := by omega
    have z2 : ¬ 9223372036854775807 < T.size + 1 + (lettN (5 - k)).size := by have : (lettN (5 - k)).size = 1 := rfl; omega
    have z3 : ¬ 9223372036854775807 < T.size + 1 + (lettN (5 - k)).size + (nameOf (p : Nat)).size := by have : (lettN (5 - k)).size = 1 := rfl; have : (nameOf (p : Nat)).size = 2 := rfl; omega
    have k1 : kd.tmod 6 = (k : Int) := by rw [Int.tmod_eq_emod_of_nonneg hq0.1]; exact hk
    have k2 : IntKind.u8.wrap (k : Int) = (k : Int) := by
      have : k = 0 ∨ k = 1 ∨ k = 2 ∨ k = 3 ∨ k = 4 ∨ k = 5 := by omega
      rcases this with rfl | rfl | rfl | rfl | rfl | rfl <;> decide
    have k3 : IntKind.u8.wrap ((k : Int) + 1) = (k : Int) + 1 := by
      have : k = 0 ∨ k = 1 ∨ k = 2 ∨ k = 3 ∨ k = 4 ∨ k = 5 := by omega
      rcases this with rfl | rfl | rfl | rfl | rfl | rfl <;> decide
    have hcut : (⟨#[80, 78, 66, 82, 81, 75]⟩ : ByteArray).extract k (k + 1) = lettN (5 - k) := by
      have := cut_w (5 - k) (by omega)
      rwa [show 6 - (5 - k) - 1 = k by omega, show 6 - (5 - k) = k + 1 by omega] at this
    have z1' : T.size ≤ 9223372036854775806 := by omega
    have z2' : T.size + 1 + (lettN (5 - k)).size ≤ 9223372036854775807 := by omega
    have z3' : T.size + 1 + (lettN (5 - k)).size + (nameOf (p : Nat)).size ≤ 9223372036854775807 := by omega
    have m1 : 0 ≤ (k : Int) + 1 := by omega
    have m2 : (k : Int) + 1 ≤ 6 := by omega
    have m3 : (k : Int) ≤ (k : Int) + 1 := by omega
    have p1 : (p : Int).tmod 8 = (p : Int) % 8 := Int.tmod_eq_emod_of_nonneg (by omega)
    have wrapU : ∀ x : Int, 0 ≤ x → x ≤ 127 → IntKind.u8.wrap x = x := fun x h0 h1 => IntWalk.u8_in x (by omega)
    have p2 := wrapU ((p : Int) % 8) (by omega) (by omega)
    have p3 := wrapU (97 + (p : Int) % 8) (by omega) (by omega)
    have p4 : IntKind.i64.wrap ((p : Int) / 8) = (p : Int) / 8 := IntWalk.i64_in _ (by omega)
    have p5 := wrapU ((p : Int) / 8) (by omega) (by omega)
    have p6 := wrapU (49 + (p : Int) / 8) (by omega) (by omega)
    have HTL := Lib.hid hTl
    clear hT hTl hTb wrapU
    refine wp_region_held_drew (S := Kept _) (by kernel_rfl) (Kept.refl _).drew (fun hHeld => ?_)
    refine rg_take (i := 0) (v := (.string T)) (some 29) rfl rfl (by kernel_rfl) (by kernel_rfl) (by kernel_rfl) (fun _ _ _ h => h) (Or.inl ⟨by rfl, fun _ _ => by go_simp⟩) hHeld ?_
    simp only [Act.put, List.setIfInBounds_toArray, List.set_cons_zero, List.set_cons_succ]
    refine rg_take (i := 1) (v := (.string (T ++ ⟨#[32]⟩))) (some 30) rfl rfl (by kernel_rfl) (by kernel_rfl) (by kernel_rfl) (fun _ _ _ h => h) (Or.inl ⟨by rfl, fun _ _ => by go_simp⟩) hHeld ?_
    simp only [Act.put, List.setIfInBounds_toArray, List.set_cons_zero, List.set_cons_succ]
    refine rg_take (i := 2) (v := (.int .u8 kd)) (some 31) rfl rfl (by kernel_rfl) (by kernel_rfl) (by kernel_rfl) (fun _ _ _ h => h) (Or.inl ⟨by rfl, fun _ _ => by go_simp⟩) hHeld ?_
    simp only [Act.put, List.setIfInBounds_toArray, List.set_cons_zero, List.set_cons_succ]
    refine rg_take (i := 3) (v := (.int .u8 (k : Int))) (some 32) rfl rfl (by kernel_rfl) (by kernel_rfl) (by kernel_rfl) (fun _ _ _ h => h) (Or.inl ⟨by rfl, fun _ _ => by go_simp⟩) hHeld ?_
    simp only [Act.put, List.setIfInBounds_toArray, List.set_cons_zero, List.set_cons_succ]
    refine rg_take (i := 4) (v := (.int .u8 kd)) (some 33) rfl rfl (by kernel_rfl) (by kernel_rfl) (by kernel_rfl) (fun _ _ _ h => h) (Or.inl ⟨by rfl, fun _ _ => by go_simp⟩) hHeld ?_
    simp only [Act.put, List.setIfInBounds_toArray, List.set_cons_zero, List.set_cons_succ]
    refine rg_take (i := 5) (v := (.int .u8 (k : Int))) (some 34) rfl rfl (by kernel_rfl) (by kernel_rfl) (by kernel_rfl) (fun _ _ _ h => h) (Or.inl ⟨by rfl, fun _ _ => by go_simp⟩) hHeld ?_
    simp only [Act.put, List.setIfInBounds_toArray, List.set_cons_zero, List.set_cons_succ]
    refine rg_take (i := 6) (v := (.int .u8 ((k : Int) + 1))) (some 35) rfl rfl (by kernel_rfl) (by kernel_rfl) (by kernel_rfl) (fun _ _ _ h => h) (Or.inl ⟨by rfl, fun _ _ => by go_simp⟩) hHeld ?_
    simp only [Act.put, List.setIfInBounds_toArray, List.set_cons_zero, List.set_cons_succ]
    refine rg_take (i := 7) (v := (.string (lettN (5 - k)))) (some 36) rfl rfl (by kernel_rfl) (by kernel_rfl) (by kernel_rfl) (fun _ _ _ h => h) (Or.inl ⟨by rfl, fun _ _ => by go_simp⟩) hHeld ?_
    simp only [Act.put, List.setIfInBounds_toArray, List.set_cons_zero, List.set_cons_succ]
    refine rg_take (i := 8) (v := (.string ((T ++ ⟨#[32]⟩) ++ lettN (5 - k)))) (some 37) rfl rfl (by kernel_rfl) (by kernel_rfl) (by kernel_rfl) (fun _ _ _ h => h) (Or.inl ⟨by rfl, fun _ _ => by go_simp⟩) hHeld ?_
    simp only [Act.put, List.setIfInBounds_toArray, List.set_cons_zero, List.set_cons_succ]
    refine rg_take (i := 9) (v := (.int .i64 (p : Int))) (some 38) rfl rfl (by kernel_rfl) (by kernel_rfl) (by kernel_rfl) (fun _ _ _ h => h) (Or.inl ⟨by rfl, fun _ _ => by go_simp⟩) hHeld ?_
    simp only [Act.put, List.setIfInBounds_toArray, List.set_cons_zero, List.set_cons_succ]
    refine rg_take (i := 10) (v := (.int .i64 ((p : Int) % 8))) (some 39) rfl rfl (by kernel_rfl) (by kernel_rfl) (by kernel_rfl) (fun _ _ _ h => h) (Or.inl ⟨by rfl, fun _ _ => by go_simp⟩) hHeld ?_
    simp only [Act.put, List.setIfInBounds_toArray, List.set_cons_zero, List.set_cons_succ]
    refine rg_take (i := 11) (v := (.int .u8 ((p : Int) % 8))) (some 40) rfl rfl (by kernel_rfl) (by kernel_rfl) (by kernel_rfl) (fun _ _ _ h => h) (Or.inl ⟨by rfl, fun _ _ => by go_simp⟩) hHeld ?_
    simp only [Act.put, List.setIfInBounds_toArray, List.set_cons_zero, List.set_cons_succ]
    refine rg_take (i := 12) (v := (.int .u8 (97 + (p : Int) % 8))) (some 41) rfl rfl (by kernel_rfl) (by kernel_rfl) (by kernel_rfl) (fun _ _ _ h => h) (Or.inl ⟨by rfl, fun _ _ => by go_simp⟩) hHeld ?_
    simp only [Act.put, List.setIfInBounds_toArray, List.set_cons_zero, List.set_cons_succ]
    refine rg_take (i := 13) (v := (.int .i64 (p : Int))) (some 42) rfl rfl (by kernel_rfl) (by kernel_rfl) (by kernel_rfl) (fun _ _ _ h => h) (Or.inl ⟨by rfl, fun _ _ => by go_simp⟩) hHeld ?_
    simp only [Act.put, List.setIfInBounds_toArray, List.set_cons_zero, List.set_cons_succ]
    refine rg_take (i := 14) (v := (.int .i64 ((p : Int) / 8))) (some 43) rfl rfl (by kernel_rfl) (by kernel_rfl) (by kernel_rfl) (fun _ _ _ h => h) (Or.inl ⟨by rfl, fun _ _ => by go_simp⟩) hHeld ?_
    simp only [Act.put, List.setIfInBounds_toArray, List.set_cons_zero, List.set_cons_succ]
    refine rg_take (i := 15) (v := (.int .u8 ((p : Int) / 8))) (some 44) rfl rfl (by kernel_rfl) (by kernel_rfl) (by kernel_rfl) (fun _ _ _ h => h) (Or.inl ⟨by rfl, fun _ _ => by go_simp⟩) hHeld ?_
    simp only [Act.put, List.setIfInBounds_toArray, List.set_cons_zero, List.set_cons_succ]
    refine rg_take (i := 16) (v := (.int .u8 (49 + (p : Int) / 8))) (some 45) rfl rfl (by kernel_rfl) (by kernel_rfl) (by kernel_rfl) (fun _ _ _ h => h) (Or.inl ⟨by rfl, fun _ _ => by go_simp⟩) hHeld ?_
    simp only [Act.put, List.setIfInBounds_toArray, List.set_cons_zero, List.set_cons_succ]
    refine wpAnyH_ready (rs := [17]) (by kernel_rfl) (by simp) ?_
    refine AllReadyH.cons rfl (fun K hK => ?_) AllReadyH.nil
    go_simp
    refine hK.out _ _ ((Kept.refl _).alloc _).drew (fun hHeld => ?_)
    clear hK K
    have hcv : (convert 34 9 (.slice (some ⟨w2.heap.size, 0, none⟩) 2 2)).run Try.prog (w2.alloc (.cells #[.int .u8 (97 + (p : Int) % 8), .int .u8 (49 + (p : Int) / 8)] 5)).drew = .ok (.string (nameOf (p : Nat))) (w2.alloc (.cells #[.int .u8 (97 + (p : Int) % 8), .int .u8 (49 + (p : Int) / 8)] 5)).drew := conv_two p hp64 _ _ rfl rfl w2.drew
    refine wpAnyH_ready (rs := [18]) (by kernel_rfl) (by simp) ?_
    refine AllReadyH.cons rfl (fun K hK => ?_) AllReadyH.nil
    go_simp
    refine hK.out _ _ hHeld (fun _ => ?_)
    clear hK K hcv
    refine rg_take (i := 19) (v := (.string ((T ++ ⟨#[32]⟩) ++ lettN (5 - k) ++ nameOf (p : Nat)))) (some 48) rfl rfl (by kernel_rfl) (by kernel_rfl) (by kernel_rfl) (fun _ _ _ h => h) (Or.inl ⟨by rfl, fun _ _ => by go_simp⟩) hHeld ?_
    simp only [Act.put, List.setIfInBounds_toArray, List.set_cons_zero, List.set_cons_succ]
    refine rg_take (i := 20) (v := (.string ((T ++ ⟨#[32]⟩) ++ lettN (5 - k) ++ nameOf (p : Nat)))) (some 10) rfl rfl (by kernel_rfl) (by kernel_rfl) (by kernel_rfl) (fun _ _ _ h => h) (Or.inl ⟨by rfl, fun _ _ => by go_simp⟩) hHeld ?_
    simp only [Act.put, List.setIfInBounds_toArray, List.set_cons_zero, List.set_cons_succ]
    refine wpAnyH_done (by kernel_rfl) ?_ _
    generalize hw3 : (w2.alloc (.cells #[.int .u8 (97 + (p : Int) % 8), .int .u8 (49 + (p : Int) / 8)] 5)).drew = w3 at *
    have K3 := Lib.hid (K2.out.trans hHeld)
    have hb3 := Lib.hid (hHeld.heap hb2.out)
    clear hHeld hw3
    generalize hU : (T ++ ⟨#[32]⟩) ++ lettN (5 - k) ++ nameOf (p : Nat) = U at *
    have hUl : U.size = T.size + 4 := by
      have := congrArg List.length HMT.out
      rw [len_size, List.length_append, List.length_cons, itemT_len, ← HTL.out] at this
      exact this
    have hUs : Hid (U.size ≤ 5000) := by
      have := HTL.out
      have := rollT_len B
      refine Lib.hid ?_
      omega
    have hUz : U.size ≤ 5000 := hUs.out
    have hU1 : 1 ≤ U.size := by omega
    have hUL : (rollT B ++ (32 :: itemT (11 - k) p)).length = U.size := by rw [← HMT.out, len_size]
    clear hU z1 z2 z3 z1' z2' z3' p1 p2 p3 p4 p5 p6 hcut m3
    by_cases h0 : B.getD p 0 = 0
    · have hrd := more_yes H.out.1 hR (11 - k) p (by omega) (by omega) hp64 h0
      rw [hUL, ← HMT.out, more_man k hk6] at hrd
      have hcall := Lib.hid (rollread_is U (by omega) _ _ _ hrd)
      obtain ⟨m, hm⟩ : ∃ m : Int, -((k : Int) + 1) = m := ⟨_, rfl⟩
      rw [hm] at hcall
      have hneg : IntKind.i8.wrap (-((k : Int) + 1)) = m := by
        rw [← hm]
        have : k = 0 ∨ k = 1 ∨ k = 2 ∨ k = 3 ∨ k = 4 ∨ k = 5 := by omega
        rcases this with rfl | rfl | rfl | rfl | rfl | rfl <;> decide
      have hpos : IntKind.i8.wrap ((k : Int) + 1) = (k : Int) + 1 := by
        have : k = 0 ∨ k = 1 ∨ k = 2 ∨ k = 3 ∨ k = 4 ∨ k = 5 := by omega
        rcases this with rfl | rfl | rfl | rfl | rfl | rfl <;> decide
      have hl := Lib.hid (show (B.set p m).length = 64 by simpa using H.out.1)
      have hzc := Lib.hid (size_cl hl.out)
      have hset := cl_set B p m
      clear hrd hm HMT hUL
      go_wp2_with fail
      refine (hcall.out _).mono ?_
      rintro e w4 ⟨rfl, g4⟩
      have K4 := Lib.hid (K3.out.trans g4)
      have hb4 := Lib.hid (((Kept.refl w4).alloc (.cells (cl (B.set p m)).toArray 24)).heap (g4.heap hb3.out))
      have cB := cell_cl H.out.1 hb4.out p hp64
      rw [h0] at cB
      have hb7 := Lib.hid (heap_alloc2_old w4 (.cells (cl (B.set p m)).toArray 24) (.cells (cl (B.set p m)).toArray 24))
      have hb9 := Lib.hid (heap_alloc2_new w4 (.cells (cl (B.set p m)).toArray 24) (.cells (cl (B.set p m)).toArray 24))
      have h9 := heap_alloc2_new w4 (.cells (cl (B.set p m)).toArray 24) (.cells (cl B).toArray 24)
      have hc := cell_cl H.out.1 h9 p hp64
      have hf := frozen_of_row _ (w4.heap.size + 1) p _ _ h9
      rw [h0] at hc
      clear h9 g4 h0
      go_wp2_with (first | (with_reducible refine wpList_new_b rfl rfl ?_) | ((with_reducible refine wpList_store_new rfl _ _ rfl Zb (B.set p m) Zb_len hl.out ?_ ?_ ?_); exact rfl; exact rfl) | (refine wpList_load_w (by rfl) _ rfl w.heap.size rfl B hb4.out hz.out ?_) | ((with_reducible refine wpList_store_new rfl _ _ rfl Zb B Zb_len hBl.out ?_ ?_ ?_); exact rfl; exact rfl) | (refine wpList_load_w (by rfl) _ rfl w4.heap.size rfl (B.set p m) hb7.out hzc.out ?_) | (refine wpList_load_w (by rfl) _ rfl (w4.heap.size + 1) rfl (B.set p m) hb9.out hzc.out ?_) | (refine wpList_eql_w (by rfl) _ _ _ rfl (B.set p m) (B.set p m) rfl rfl ⟨hl.out, hl.out, beqB_refl _⟩ ?_))
      go_ret
      exact ⟨rfl, (K4.out.alloc _).alloc _⟩
    · have hrd := more_twice H.out.1 hR (11 - k) p (by omega) (by omega) hp64 h0
      rw [hUL, ← HMT.out] at hrd
      obtain ⟨n, hn⟩ : ∃ n, U.size - 1 = n := ⟨_, rfl⟩
      rw [hn] at hrd
      have hcall := Lib.hid (rollread_is U (by omega) _ _ _ hrd)
      have hnn : ((n : Int) == (U.size : Int) - 1) = true := by rw [beq_iff_eq]; omega
      have bx : (B.getD p 0 != 0) = true := bne_iff_ne.2 h0
      clear hrd HMT hUL
      go_wp2_with fail
      refine (hcall.out _).mono ?_
      rintro e w4 ⟨rfl, g4⟩
      have K4 := Lib.hid (K3.out.trans g4)
      have hb4 := Lib.hid (((Kept.refl w4).alloc (.cells (cl Zb).toArray 24)).heap (g4.heap hb3.out))
      have cB := cell_cl H.out.1 hb4.out p hp64
      have hbc := Lib.hid (heap_alloc_new w4 (.cells (cl Zb).toArray 24))
      obtain ⟨b1, b2⟩ := H.out.2 p hp64
      generalize B.getD p 0 = x at *
      clear g4 h0
      go_wp2_with (first | (with_reducible refine wpList_new_b rfl rfl ?_) | ((with_reducible refine wpList_store_new rfl _ _ rfl Zb Zb Zb_len Zb_len ?_ ?_ ?_); exact rfl; exact rfl) | (refine wpList_load_w (by rfl) _ rfl w4.heap.size rfl Zb hbc.out hzz.out ?_) | (refine wpList_zero_w (by rfl) rfl ?_) | (refine wpList_eql_w (by rfl) _ _ _ rfl Zb Zb rfl rfl ⟨Zb_len, Zb_len, beqB_refl _⟩ ?_))
      go_ret
      exact ⟨rfl, K4.out.alloc _⟩
end Go.Proofs.Ytmhnfnjngcoacaa
