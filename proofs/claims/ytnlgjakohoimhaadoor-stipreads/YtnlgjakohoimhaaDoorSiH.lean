/- Stipulations: Write, Begins, Plies, Mover. -/
import Derived.Test.YtnlgjakohoimhaaDoorSiG
namespace Go.Proofs.YtnlgjakohoimhaaDoor
open Go.RowKit
set_option linter.unusedVariables false
set_option linter.unusedSimpArgs false
set_option maxRecDepth 100000
set_option maxHeartbeats 4000000

theorem itoa_is (n : Nat) (hn : n < 100) (w : World) : Calls Tryd.prog 30 #[.int .i64 n] w fun e w' => e = .returned (.string (dT n)) ∧ Kept w w' := by
  refine (Tryd.strconv_Itoa_small n hn w).mono ?_
  rintro e w' ⟨rfl, rfl⟩
  exact ⟨rfl, Kept.refl _⟩
theorem kT_size (k : Int) : (kT k).size ≤ 6 := by 
  unfold kT
  repeat' split
  all_goals decide
theorem gT_size (g : Int) : (gT g).size ≤ 1 := by 
  unfold gT
  repeat' split
  all_goals decide
theorem opT_sz (k g : Int) : (opT k g).size ≤ 7 := by
  have h1 := kT_size k
  have h2 := gT_size g
  unfold opT
  rw [ByteArray.size_append]; omega
theorem dT_size (n : Nat) (hn : n < 100) : (dT n).size ≤ 2 := by
  rw [← bs_len, bs_dT, show ((n : Int)).toNat = n from rfl]
  by_cases h : n < 10
  · rw [dig_1 h]; simp
  · rw [dig_2 (by omega) hn]; simp
def wrT (s : Stp) : ByteArray := if okS s = true then txT s else ⟨#[]⟩
theorem write_is (s : Stp) (w : World) (hT : TabS w) : Calls Tryd.prog 10 #[qv s] w fun e w' => e = .returned (.tuple #[.string (wrT s), .bool (okS s)]) ∧ Kept w w' := by
  have HW := Lib.hid (TAt.new w s)
  have HK := Lib.hid ((Kept.refl w).alloc (.cells (ql s).toArray 24))
  have HT := Lib.hid hT
  clear hT
  obtain ⟨k, g, n, h⟩ := s
  unfold qv
  unfold ql at HK
  dsimp only at HK ⊢
  have HR := Lib.hid (right_is ⟨k, g, n, h⟩)
  obtain ⟨b, hb⟩ : ∃ b, okS ⟨k, g, n, h⟩ = b := ⟨_, rfl⟩
  cases b
  · have HE := Lib.hid (show wrT ⟨k, g, n, h⟩ = ⟨#[]⟩ by unfold wrT; rw [if_neg (by rw [hb]; simp)])
    have HB := Lib.hid hb
    clear hb
    go_enter Tryd.func10, Tryd.ntmps10
    go_wp2_with (refine wpList_load_q (by rfl) _ rfl _ 0 rfl ⟨k, g, n, h⟩ HW.out.range ?_)
    refine (HR.out _).mono ?_
    rw [HB.out]
    rintro e w2 ⟨rfl, g2⟩
    have HK2 := Lib.hid (HK.out.trans g2)
    clear g2
    go_wp2
    go_ret2
    exact ⟨by rw [HE.out, HB.out]; first | done | rfl, HK2.out⟩
  · have hbb := okS_M hb
    have hgg : okG k g = true := by unfold okS at hb; rw [Bool.and_eq_true] at hb; exact hb.1
    obtain ⟨N, rfl⟩ : ∃ N : Nat, n = N := ⟨n.toNat, by have := hbb.1; dsimp only at this; omega⟩
    have hN : N < 100 := by have := hbb.2.1; dsimp only [Int.toNat_natCast] at this; omega
    have z1 := opT_sz k g
    have z2 := dT_size N hN
    have z12 : (opT k g).size + (dT N).size ≤ 9223372036854775807 := by omega
    have HE : Hid (wrT ⟨k, g, N, h⟩ = txT ⟨k, g, N, h⟩) := Lib.hid (by unfold wrT; rw [if_pos hb])
    have HB := Lib.hid hb
    clear hb hbb
    go_enter Tryd.func10, Tryd.ntmps10
    go_wp2_with (refine wpList_load_q (by rfl) _ rfl _ 0 rfl ⟨k, g, N, h⟩ HW.out.range ?_)
    refine (HR.out _).mono ?_
    rw [HB.out]
    rintro e w2 ⟨rfl, g2⟩
    have HK2 := Lib.hid (HK.out.trans g2)
    have HW2 := Lib.hid (HW.out.kept g2)
    clear g2
    go_wp2_with fail
    refine wp_region_held_drew (S := Kept _) (by kernel_rfl) (Kept.refl _).drew (fun hHeld => ?_)
    refine rY 0 8 rfl rfl (take_load_q (by rfl) _ rfl w.heap.size 0 rfl ⟨k, g, N, h⟩ (fun _ h => TAt.range (TAt.kept (HW2.out) h))) hHeld ?_
    simp only [pA, pN, sZ, sU]
    refine rT 2 10 (.pointer (some ⟨w.heap.size, 2, none⟩)) rfl rfl hHeld ?_
    simp only [pA, pN, sZ, sU]
    refine rC 3 11 (.int .i64 N) rfl rfl (fun _ h => kept_cell h (HW2.out.n)) hHeld ?_
    simp only [pA, pN, sZ, sU]
    refine rR 1 rfl (fun K hK => ?_)
    go_simp
    refine ((head_is k g N h hgg _ (HT.out.kept (HK2.out.trans hHeld)))).mono ?_
    rintro e w3 ⟨rfl, gw3⟩
    refine hK.out _ _ (hHeld.trans gw3) (fun _ => ?_)
    replace hHeld := hHeld.trans gw3
    clear hK K
    refine rR 4 rfl (fun K hK => ?_)
    go_simp
    refine ((itoa_is N hN _)).mono ?_
    rintro e w4 ⟨rfl, gw4⟩
    refine hK.out _ _ (hHeld.trans gw4) (fun _ => ?_)
    replace hHeld := hHeld.trans gw4
    clear hK K
    refine rT 5 13 (.string (opT k g ++ dT N)) rfl rfl hHeld ?_
    simp only [pA, pN, sZ, sU]
    refine rT 6 4 (.string (opT k g ++ dT N)) rfl rfl hHeld ?_
    simp only [pA, pN, sZ, sU]
    refine wpAnyH_done (by kernel_rfl) ?_ _
    have HK3 := Lib.hid (HK2.out.trans hHeld)
    have hw3 := (HW2.out.kept hHeld).h
    clear hHeld
    cases h
    · go_wp2
      go_ret2
      exact ⟨by rw [HE.out, HB.out]; first | done | rfl, HK3.out⟩
    · have z3 : (opT k g ++ dT N).size ≤ 9 := by rw [ByteArray.size_append]; omega
      go_wp2
      go_ret2
      exact ⟨by rw [HE.out, HB.out]; first | done | rfl, HK3.out⟩
end Go.Proofs.YtnlgjakohoimhaaDoor
