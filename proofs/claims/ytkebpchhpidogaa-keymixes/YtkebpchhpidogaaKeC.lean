/- The contracts of keys: rights; a position's key; what it becomes; the document's. -/
import Derived.Test.YtkebpchhpidogaaKeB
namespace Go.Proofs.Ytkebpchhpidogaa
open Go.RowKit
set_option linter.unusedVariables false
set_option linter.unusedSimpArgs false

theorem calls_kept {P : Program} {f : FuncId} {args : Array Value} {w : World} {v : Ending} (h : Calls P f args w fun e w' => e = v ∧ w = w') : Calls P f args w fun e w' => e = v ∧ Kept w w' :=
  h.mono fun _ _ ⟨a, b⟩ => ⟨a, b ▸ Kept.refl _⟩
theorem pow_4 {n : Nat} (h : n < 4) : 1 ≤ ((2 ^ n : Nat) : Int) ∧ ((2 ^ n : Nat) : Int) ≤ 8 := by
  have : n = 0 ∨ n = 1 ∨ n = 2 ∨ n = 3 := by omega
  rcases this with rfl | rfl | rfl | rfl <;> decide
theorem krights_is (c : Int) (w : World) : Calls Try.prog 13 #[.int .i64 c] w fun e w' => e = .returned (.int .u64 (rgsK c)) ∧ w = w' := by
  go_enter Try.func13, Try.ntmps13
  go_wp2
  go_loopw [3, 4] (fun t3 t4 wr => ∃ n : Nat, n ≤ 4 ∧ t3 = .int .u64 (rgtN c n) ∧ t4 = .int .i64 ((2 ^ n : Nat) : Int) ∧ w = wr) (fun _ t4 _ => (16 - intOf t4).toNat)
  case atStart => exact ⟨0, by omega, rfl, rfl, rfl⟩
  case round =>
    obtain ⟨n, hn, rfl, rfl, rfl⟩ := hrel
    by_cases hlt : n < 4
    · obtain ⟨r1, r8⟩ := pow_4 hlt
      have HS : Hid (((2 ^ (n + 1) : Nat) : Int) = ((2 ^ n : Nat) : Int) * 2) := by show ((2 ^ (n + 1) : Nat) : Int) = _; rw [Nat.pow_succ]; omega
      have HU := Lib.hid (rgtN_u c n)
      have HN : Hid (rgtN c (n + 1) = xr (rgtN c n) (rgtK c (2 ^ n : Nat))) := by show _ = _; rfl
      generalize rgtN c n = k at *
      generalize ((2 ^ n : Nat) : Int) = r at *
      by_cases hb : bits .and .i64 c r = 0
      · have hb' : (bits .and .i64 c r == 0) = true := by rw [hb]; rfl
        have HE : Hid (rgtN c (n + 1) = k) := by show _ = _; rw [HN.out]; unfold rgtK; rw [if_pos hb, xr_zero HU.out]
        clear hb HN
        go_wp2
        go_roundw
        case rel => exact ⟨n + 1, by omega, by rw [HE.out], by rw [HS.out], trivial⟩
        case measure => simp [intOf]; omega
      · have hb' : (bits .and .i64 c r == 0) = false := beq_eq_false_iff_ne.2 hb
        have HM := Lib.hid (kmixed_is 1032 r)
        have HE : Hid (rgtN c (n + 1) = xr k (mixI (IntKind.u64.wrap (1032 + r)))) := by show _ = _; rw [HN.out]; unfold rgtK; rw [if_neg hb, U.wrap ⟨by omega, by omega⟩]
        generalize mixI (IntKind.u64.wrap (1032 + r)) = q at *
        clear hb HN
        go_wp2_with fail
        refine (HM.out _).mono ?_
        rintro e w1 ⟨rfl, rfl⟩
        go_wp2
        go_roundw
        case rel => exact ⟨n + 1, by omega, by rw [HE.out], by rw [HS.out], trivial⟩
        case measure => simp [intOf]; omega
    · obtain rfl : n = 4 := by omega
      go_wp2
      go_ret
      exact ⟨rfl, rfl⟩
set_option maxHeartbeats 1000000 in
theorem kof_is (p : Ps) (hB : Brd p.B) (w : World) : Calls Try.prog 8 #[.agg (pl p).toArray] w fun e w' => e = .returned (.int .u64 (keyP p)) ∧ Kept w w' := by
  have HP := Lib.hid (PAt.new w hB.1)
  have HK0 := Lib.hid ((Kept.refl w).alloc (.cells (pl p).toArray 30))
  have hpl : Hid (p.B.length = 64) := hB.1
  have HC1 := Lib.hid (fun w => calls_kept (kside_is p.t w))
  have HC2 := Lib.hid (fun w => calls_kept (krights_is p.c w))
  have HC3 := Lib.hid (fun w => calls_kept (kpassed_is p.e w))
  have HMn := Lib.hid (fun i (hi : i < 64) w => kman_is i hi (p.B.getD i 0) (hB.2 i hi).1 (hB.2 i hi).2 w)
  have HBs : Hid (baseK p = xr (xr (sideK p.t) (rgsK p.c)) (pasK p.e)) := by show _ = _; rfl
  have HE : Hid (keyP p = xr (baseK p) (menN p.B 64)) := by show _ = _; rfl
  have HSt : Hid (∀ i, xr (xr (baseK p) (menN p.B i)) (manK i (p.B.getD i 0)) = xr (baseK p) (menN p.B (i + 1))) := fun i => xr_assoc _ _ _
  have H0 : Hid (xr (baseK p) (menN p.B 0) = baseK p) := xr_zero (base_u p)
  generalize sideK p.t = a1 at *
  generalize rgsK p.c = a2 at *
  generalize pasK p.e = a3 at *
  generalize baseK p = b at *
  clear hB
  go_enter Try.func8, Try.ntmps8
  go_wp2
  refine wp_region_held_drew (S := Kept _) (by kernel_rfl) (Kept.refl _).drew (fun hHeld => ?_)
  refine rT 0 6 (.pointer (some ⟨w.heap.size, 64, none⟩)) rfl rfl hHeld ?_
  simp only [pA, pN, sZ, sU]
  refine rC 1 7 (.int .i64 p.t) rfl rfl (fun _ h => kept_cell h (HP.out.turn)) hHeld ?_
  simp only [pA, pN, sZ, sU]
  refine rT 3 9 (.pointer (some ⟨w.heap.size, 65, none⟩)) rfl rfl hHeld ?_
  simp only [pA, pN, sZ, sU]
  refine rC 4 10 (.int .i64 p.c) rfl rfl (fun _ h => kept_cell h (HP.out.cas)) hHeld ?_
  simp only [pA, pN, sZ, sU]
  refine rT 7 13 (.pointer (some ⟨w.heap.size, 66, none⟩)) rfl rfl hHeld ?_
  simp only [pA, pN, sZ, sU]
  refine rC 8 14 (.int .i64 p.e) rfl rfl (fun _ h => kept_cell h (HP.out.ep)) hHeld ?_
  simp only [pA, pN, sZ, sU]
  refine rR 2 rfl (fun K hK => ?_)
  go_simp
  refine (HC1.out _).mono ?_
  rintro e x1 ⟨rfl, gx1⟩
  refine hK.out _ _ (hHeld.trans gx1) (fun _ => ?_)
  replace hHeld := hHeld.trans gx1
  clear hK K
  refine rR 5 rfl (fun K hK => ?_)
  go_simp
  refine (HC2.out _).mono ?_
  rintro e x2 ⟨rfl, gx2⟩
  refine hK.out _ _ (hHeld.trans gx2) (fun _ => ?_)
  replace hHeld := hHeld.trans gx2
  clear hK K
  refine rT 6 12 (.int .u64 (xr a1 a2)) rfl rfl hHeld ?_
  simp only [pA, pN, sZ, sU]
  refine rR 9 rfl (fun K hK => ?_)
  go_simp
  refine (HC3.out _).mono ?_
  rintro e x3 ⟨rfl, gx3⟩
  refine hK.out _ _ (hHeld.trans gx3) (fun _ => ?_)
  replace hHeld := hHeld.trans gx3
  clear hK K
  refine rT 10 16 (.int .u64 (xr (xr a1 a2) a3)) rfl rfl hHeld ?_
  simp only [pA, pN, sZ, sU]
  refine rT 11 3 (.int .u64 (xr (xr a1 a2) a3)) rfl rfl hHeld ?_
  simp only [pA, pN, sZ, sU]
  refine wpAnyH_done (by kernel_rfl) ?_ _
  rw [← HBs.out]
  have HKX := Lib.hid (HK0.out.trans hHeld)
  have HPX := Lib.hid (HP.out.kept hHeld)
  clear hHeld gx1 gx2 gx3
  go_wp2_with (refine wpList_load_pb (by rfl) _ rfl _ rfl _ HPX.out ?_)
  go_loopw [3, 19] (fun t3 t19 wr => ∃ i : Nat, i ≤ 64 ∧ t19 = .int .i64 i ∧ t3 = .int .u64 (xr b (menN p.B i)) ∧ x3 = wr) (fun _ t19 _ => 64 - (intOf t19).toNat)
  case atStart => exact ⟨0, by omega, rfl, by rw [H0.out], rfl⟩
  case round =>
    obtain ⟨i, hi, rfl, rfl, rfl⟩ := hrel
    by_cases hi : i < 64
    · have hiI : (i : Int) < 64 := by omega
      have hxi := run_index_cl p.B hpl.out i hi
      have HMi := Lib.hid (HMn.out i hi)
      have HSi := Lib.hid (HSt.out i)
      generalize xr b (menN p.B i) = y at *
      generalize manK i (p.B.getD i 0) = u at *
      generalize p.B.getD i 0 = m at *
      go_wp2_with fail
      refine (HMi.out _).mono ?_
      rintro e w1 ⟨rfl, rfl⟩
      go_wp2
      go_roundw
      case rel => exact ⟨i + 1, by omega, by go_num, congrArg (Value.int .u64) HSi.out, trivial⟩
      case measure => simp [intOf]; omega
    · obtain rfl : i = 64 := by omega
      rw [← HE.out]
      go_wp2
      go_ret
      exact ⟨rfl, HKX.out⟩
end Go.Proofs.Ytkebpchhpidogaa
