/- Stipulations: the document's decimal, Text, digit. -/
import Derived.Test.YtnlgjakohoimhaaDoorSiK
import Derived.Test.YtnlgjakohoimhaaDoorLxF
namespace Go.Proofs.YtnlgjakohoimhaaDoor
open Go.RowKit
set_option linter.unusedVariables false
set_option linter.unusedSimpArgs false
set_option maxRecDepth 100000
set_option maxHeartbeats 4000000

def dgT : ByteArray := ⟨#[48, 49, 50, 51, 52, 53, 54, 55, 56, 57]⟩
theorem dg_one (k : Nat) (h : k < 10) : dgT.extract k (k + 1) = ⟨#[UInt8.ofNat (48 + k)]⟩ := by
  refine bs_inj ?_
  rw [bs_extract]
  have : k = 0 ∨ k = 1 ∨ k = 2 ∨ k = 3 ∨ k = 4 ∨ k = 5 ∨ k = 6 ∨ k = 7 ∨ k = 8 ∨ k = 9 := by omega
  rcases this with rfl | rfl | rfl | rfl | rfl | rfl | rfl | rfl | rfl | rfl <;> rfl
theorem dT_1 {n : Nat} (h : n < 10) : dT n = ⟨#[UInt8.ofNat (48 + n)]⟩ := bs_inj (by rw [bs_dT, show ((n : Int)).toNat = n from rfl, dig_1 h]; rfl)
theorem dT_2 {n : Nat} (h : 10 ≤ n) (h2 : n < 100) : (⟨#[UInt8.ofNat (48 + n / 10)]⟩ : ByteArray) ++ ⟨#[UInt8.ofNat (48 + n % 10)]⟩ = dT n :=
  bs_inj (by rw [bs_append, bs_dT, show ((n : Int)).toNat = n from rfl, dig_2 h h2]; rfl)
theorem run_dg (k : Nat) (h : k < 10) (i j : Int) (hi : i = k) (hj : j = k + 1) (w : World) :
    (Instr.slice 9 (.string ⟨#[48, 49, 50, 51, 52, 53, 54, 55, 56, 57]⟩) (some (.int .i64 i)) (some (.int .i64 j)) none).run Tryd.prog w = .ok (.string ⟨#[UInt8.ofNat (48 + k)]⟩) w :=
  run_cut dgT k (k + 1) i j hi (by omega) (by omega) (by show k + 1 ≤ 10; omega) _ (dg_one k h) w
theorem decimal_is (n : Nat) (hn : n < 100) (w : World) : Calls Tryd.prog 33 #[.int .i64 n] w fun e w' => e = .returned (.string (dT n)) ∧ Kept w w' := by
  by_cases h : n < 10
  · have hs := run_dg n h (n : Int) ((n : Int) + 1) rfl rfl
    have HE := Lib.hid (dT_1 h)
    have hl : (n : Int) < 10 := by omega
    generalize (⟨#[UInt8.ofNat (48 + n)]⟩ : ByteArray) = x at hs HE
    clear h
    go_enter Tryd.func33, Tryd.ntmps33
    go_wp2
    go_ret
    exact ⟨by rw [HE.out]; first | done | rfl, Kept.refl _⟩
  · have hs1 := run_dg (n / 10) (by omega) ((n : Int) / 10) ((n : Int) / 10 + 1) (by omega) (by omega)
    have hs2 := run_dg (n % 10) (by omega) ((n : Int) % 10) ((n : Int) % 10 + 1) (by omega) (by omega)
    have q2 : (n : Int).tmod 10 = (n : Int) % 10 := Int.tmod_eq_emod_of_nonneg (by omega)
    have w1 : IntKind.i64.wrap ((n : Int) / 10) = (n : Int) / 10 := IntWalk.i64_in _ (by omega)
    have w2 : IntKind.i64.wrap ((n : Int) % 10) = (n : Int) % 10 := IntWalk.i64_in _ (by omega)
    have w3 : IntKind.i64.wrap ((n : Int) / 10 + 1) = (n : Int) / 10 + 1 := IntWalk.i64_in _ (by omega)
    have w4 : IntKind.i64.wrap ((n : Int) % 10 + 1) = (n : Int) % 10 + 1 := IntWalk.i64_in _ (by omega)
    have HE := Lib.hid (dT_2 (n := n) (by omega) hn)
    have hl : ¬ (n : Int) < 10 := by omega
    have e1 : (⟨#[UInt8.ofNat (48 + n / 10)]⟩ : ByteArray).size = 1 := rfl
    have e2 : (⟨#[UInt8.ofNat (48 + n % 10)]⟩ : ByteArray).size = 1 := rfl
    generalize (⟨#[UInt8.ofNat (48 + n / 10)]⟩ : ByteArray) = x at hs1 HE e1
    generalize (⟨#[UInt8.ofNat (48 + n % 10)]⟩ : ByteArray) = y at hs2 HE e2
    have z1 : x.size + y.size ≤ 9223372036854775807 := by omega
    clear e1 e2
    clear h
    go_enter Tryd.func33, Tryd.ntmps33
    go_wp2_with fail
    refine wp_region_held_drew (S := Kept _) (by kernel_rfl) (Kept.refl _).drew (fun hHeld => ?_)
    refine rT 0 11 (.string ⟨#[48, 49, 50, 51, 52, 53, 54, 55, 56, 57]⟩) rfl rfl hHeld ?_
    simp only [pA, pN, sZ, sU]
    refine rT 1 12 (.int .i64 n) rfl rfl hHeld ?_
    simp only [pA, pN, sZ, sU]
    refine rT 2 13 (.int .i64 ((n : Int) / 10)) rfl rfl hHeld ?_
    simp only [pA, pN, sZ, sU]
    refine rT 3 14 (.int .i64 n) rfl rfl hHeld ?_
    simp only [pA, pN, sZ, sU]
    refine rT 4 15 (.int .i64 ((n : Int) / 10)) rfl rfl hHeld ?_
    simp only [pA, pN, sZ, sU]
    refine rT 5 16 (.int .i64 ((n : Int) / 10 + 1)) rfl rfl hHeld ?_
    simp only [pA, pN, sZ, sU]
    refine rT 6 17 (.string x) rfl rfl hHeld ?_
    simp only [pA, pN, sZ, sU]
    refine rT 7 18 (.string ⟨#[48, 49, 50, 51, 52, 53, 54, 55, 56, 57]⟩) rfl rfl hHeld ?_
    simp only [pA, pN, sZ, sU]
    refine rT 8 19 (.int .i64 n) rfl rfl hHeld ?_
    simp only [pA, pN, sZ, sU]
    refine rT 9 20 (.int .i64 ((n : Int) % 10)) rfl rfl hHeld ?_
    simp only [pA, pN, sZ, sU]
    refine rT 10 21 (.int .i64 n) rfl rfl hHeld ?_
    simp only [pA, pN, sZ, sU]
    refine rT 11 22 (.int .i64 ((n : Int) % 10)) rfl rfl hHeld ?_
    simp only [pA, pN, sZ, sU]
    refine rT 12 23 (.int .i64 ((n : Int) % 10 + 1)) rfl rfl hHeld ?_
    simp only [pA, pN, sZ, sU]
    refine rT 13 24 (.string y) rfl rfl hHeld ?_
    simp only [pA, pN, sZ, sU]
    refine rT 14 25 (.string (x ++ y)) rfl rfl hHeld ?_
    simp only [pA, pN, sZ, sU]
    refine rT 15 2 (.string (x ++ y)) rfl rfl hHeld ?_
    simp only [pA, pN, sZ, sU]
    refine wpAnyH_done (by kernel_rfl) ?_ _
    have HK := Lib.hid hHeld
    clear hHeld
    go_wp2
    go_ret
    exact ⟨by rw [← HE.out]; first | done | rfl, HK.out⟩
theorem rtext_is (s : Stp) (hs : okS s = true) (w : World) : Calls Tryd.prog 14 #[qv s] w fun e w' => e = .returned (.string (txT s)) ∧ Kept w w' := by
  have HW := Lib.hid (TAt.new w s)
  have HK := Lib.hid ((Kept.refl w).alloc (.cells (ql s).toArray 24))
  obtain ⟨k, g, n, h⟩ := s
  unfold qv
  unfold ql at HK
  dsimp only at HK ⊢
  have hbb := okS_M hs
  obtain ⟨N, rfl⟩ : ∃ N : Nat, n = N := ⟨n.toNat, by have := hbb.1; dsimp only at this; omega⟩
  have hN : N < 100 := by have := hbb.2.1; dsimp only [Int.toNat_natCast] at this; omega
  have z1 := kT_size k
  have z2 := gT_size g
  have z3 := dT_size N hN
  have z12 : (kT k).size + (gT g).size ≤ 9223372036854775807 := by omega
  have z13 : (kT k ++ gT g).size + (dT N).size ≤ 9223372036854775807 := by rw [ByteArray.size_append]; omega
  have z15 : (kT k).size + (gT g).size + (dT N).size ≤ 9223372036854775807 := by omega
  have z14 : (kT k ++ gT g ++ dT N).size ≤ 9 := by rw [ByteArray.size_append, ByteArray.size_append]; omega
  have hk := HW.out.k
  have hg := HW.out.g
  have hnn := HW.out.n
  clear hbb hs
  go_enter Tryd.func14, Tryd.ntmps14
  go_wp2_with fail
  refine wp_region_held_drew (S := Kept _) (by kernel_rfl) (Kept.refl _).drew (fun hHeld => ?_)
  refine rT 0 4 (.pointer (some ⟨w.heap.size, 0, none⟩)) rfl rfl hHeld ?_
  simp only [pA, pN, sZ, sU]
  refine rC 1 5 (.int .i64 k) rfl rfl (fun _ h => kept_cell h (HW.out.k)) hHeld ?_
  simp only [pA, pN, sZ, sU]
  refine rT 3 7 (.pointer (some ⟨w.heap.size, 1, none⟩)) rfl rfl hHeld ?_
  simp only [pA, pN, sZ, sU]
  refine rC 4 8 (.int .i64 g) rfl rfl (fun _ h => kept_cell h (HW.out.g)) hHeld ?_
  simp only [pA, pN, sZ, sU]
  refine rT 7 11 (.pointer (some ⟨w.heap.size, 2, none⟩)) rfl rfl hHeld ?_
  simp only [pA, pN, sZ, sU]
  refine rC 8 12 (.int .i64 N) rfl rfl (fun _ h => kept_cell h (HW.out.n)) hHeld ?_
  simp only [pA, pN, sZ, sU]
  refine rR 2 rfl (fun K hK => ?_)
  go_simp
  refine ((rkT_is k _)).mono ?_
  rintro e w3 ⟨rfl, gw3⟩
  refine hK.out _ _ (hHeld.trans gw3) (fun _ => ?_)
  replace hHeld := hHeld.trans gw3
  clear hK K
  refine rR 5 rfl (fun K hK => ?_)
  go_simp
  refine ((rgT_is g _)).mono ?_
  rintro e w4 ⟨rfl, gw4⟩
  refine hK.out _ _ (hHeld.trans gw4) (fun _ => ?_)
  replace hHeld := hHeld.trans gw4
  clear hK K
  refine rT 6 10 (.string (kT k ++ gT g)) rfl rfl hHeld ?_
  simp only [pA, pN, sZ, sU]
  refine rR 9 rfl (fun K hK => ?_)
  go_simp
  refine ((decimal_is N hN _)).mono ?_
  rintro e w5 ⟨rfl, gw5⟩
  refine hK.out _ _ (hHeld.trans gw5) (fun _ => ?_)
  replace hHeld := hHeld.trans gw5
  clear hK K
  refine rT 10 14 (.string (kT k ++ gT g ++ dT N)) rfl rfl hHeld ?_
  simp only [pA, pN, sZ, sU]
  refine rT 11 3 (.string (kT k ++ gT g ++ dT N)) rfl rfl hHeld ?_
  simp only [pA, pN, sZ, sU]
  refine wpAnyH_done (by kernel_rfl) ?_ _
  have HK2 := Lib.hid (HK.out.trans hHeld)
  have hh := (HW.out.kept hHeld).h
  clear hHeld hk hg hnn
  cases h
  · go_wp2
    go_ret
    exact ⟨rfl, HK2.out⟩
  · go_wp2
    go_ret
    exact ⟨rfl, HK2.out⟩
theorem digit_is (t : ByteArray) (P : Nat) (ht : t.size ≤ 1000) (w : World) : Calls Tryd.prog 27 #[.string t, .int .i64 P] w fun e w' => e = .returned (.bool (digB t P)) ∧ Kept w w' := by
  have HE : Hid (digB t P = match (bs t)[P]? with
    | none => false
    | some b => isD b && (decide ((P : Int) < 2) || !((bs t)[((P : Int) - 2).toNat]? == some 46))) := Lib.hid rfl
  by_cases h : P < t.size
  · obtain ⟨b, hb⟩ : ∃ b, (bs t)[P]? = some b := ⟨_, bs_getq t P h⟩
    have ib := run_idx t P P rfl b hb
    rw [hb] at HE
    dsimp only at HE
    clear hb
    by_cases h1 : b.toNat < 48
    · have H2 := Lib.hid (show digB t P = false by rw [HE.out]; unfold isD; rw [decide_eq_false (by omega)]; rfl)
      go_enter Tryd.func27, Tryd.ntmps27
      go_wp2
      go_ret
      exact ⟨by rw [H2.out]; first | done | rfl, Kept.refl _⟩
    · by_cases h2 : 57 < b.toNat
      · have H2 := Lib.hid (show digB t P = false by rw [HE.out]; unfold isD; rw [decide_eq_false (show ¬ b.toNat ≤ 57 by omega), Bool.and_false]; rfl)
        go_enter Tryd.func27, Tryd.ntmps27
        go_wp2
        go_ret
        exact ⟨by rw [H2.out]; first | done | rfl, Kept.refl _⟩
      · have hd : isD b = true := by rw [isD_iff]; omega
        rw [hd, Bool.true_and] at HE
        by_cases h3 : (P : Int) < 2
        · have H2 := Lib.hid (show digB t P = true by rw [HE.out, decide_eq_true h3]; rfl)
          go_enter Tryd.func27, Tryd.ntmps27
          go_wp2
          go_ret
          exact ⟨by rw [H2.out]; first | done | rfl, Kept.refl _⟩
        · rw [decide_eq_false h3, Bool.false_or, show ((P : Int) - 2).toNat = P - 2 by omega] at HE
          obtain ⟨c, hc⟩ : ∃ c, (bs t)[P - 2]? = some c := ⟨_, bs_getq t (P - 2) (by omega)⟩
          have ic := run_idx t ((P : Int) - 2) (P - 2) (by omega) c hc
          rw [hc] at HE
          by_cases h4 : c = 46
          · have H2 := Lib.hid (show digB t P = false by rw [HE.out, h4]; rfl)
            have hn : (((c.toNat : Nat) : Int) != 46) = false := by rw [h4]; rfl
            clear h4 hc
            go_enter Tryd.func27, Tryd.ntmps27
            go_wp2
            go_ret
            exact ⟨by rw [H2.out]; first | done | rfl, Kept.refl _⟩
          · have H2 := Lib.hid (show digB t P = true by rw [HE.out]; simp [h4])
            have hn : (((c.toNat : Nat) : Int) != 46) = true := by
              rw [bne_iff_ne]; intro e; exact h4 (UInt8.toNat.inj ((show c.toNat = 46 by omega).trans rfl))
            clear h4 hc
            go_enter Tryd.func27, Tryd.ntmps27
            go_wp2
            go_ret
            exact ⟨by rw [H2.out]; first | done | rfl, Kept.refl _⟩
  · have hn : (bs t)[P]? = none := List.getElem?_eq_none (by rw [bs_len]; omega)
    have H2 := Lib.hid (show digB t P = false by rw [HE.out, hn])
    have h' : (t.size : Int) ≤ P := by omega
    clear hn h
    go_enter Tryd.func27, Tryd.ntmps27
    go_wp2
    go_ret
    exact ⟨by rw [H2.out]; first | done | rfl, Kept.refl _⟩
end Go.Proofs.YtnlgjakohoimhaaDoor
