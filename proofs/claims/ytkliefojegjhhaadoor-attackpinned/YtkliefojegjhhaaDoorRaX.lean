/- Of whatever is asked; Line. The document's steps. -/
import Derived.Test.YtkliefojegjhhaaDoorRaW
namespace Go.Proofs.YtkliefojegjhhaaDoor
open Go.RowKit
set_option linter.unusedVariables false
set_option linter.unusedSimpArgs false

theorem of_off (m s : Int) (h : s < 0 ∨ 64 ≤ s) (g : Nat) (w : World) :
    Calls Tryd.prog 14 #[.pointer (some ⟨g, 0, none⟩), .int .i64 m, .int .i64 s] w (NewR 32 w (ofL m s)) := by
  have HE := Lib.hid (ofN_off (m := m) h 16)
  have H := Lib.hid h
  clear h
  go_enter Tryd.func14, Tryd.ntmps14
  go_wp2_with fail
  refine (right_no _ _ H.out).mono ?_
  rintro e w' ⟨rfl, rfl⟩
  go_wp2
  go_ret
  exact ⟨_, rfl, by unfold ofL; rw [HE.out]; exact RowsZ.nil _ _ _, Kept.refl _⟩
theorem of_is (m s : Int) (g : Nat) (w : World) (hT : Tab w g) (hS : Steps w) :
    Calls Tryd.prog 14 #[.pointer (some ⟨g, 0, none⟩), .int .i64 m, .int .i64 s] w (NewR 32 w (ofL m s)) := by
  by_cases h : s < 0 ∨ 64 ≤ s
  · exact of_off m s h g w
  · obtain ⟨n, rfl⟩ := Int.eq_ofNat_of_zero_le (show 0 ≤ s by omega)
    exact of_in m n (by omega) g w hT hS
theorem of_nil (m s : Int) (w : World) :
    Calls Tryd.prog 14 #[.pointer none, .int .i64 m, .int .i64 s] w fun e w' => e = .returned (.slice none 0 0) ∧ w = w' := by
  go_enter Tryd.func14, Tryd.ntmps14
  go_wp2
  go_ret
  exact ⟨rfl, rfl⟩
theorem line_nil (a b : Int) (w : World) :
    Calls Tryd.prog 19 #[.pointer none, .int .i64 a, .int .i64 b] w fun e w' => e = .returned (.slice none 0 0) ∧ w = w' := by
  go_enter Tryd.func19, Tryd.ntmps19
  go_wp2
  go_ret
  exact ⟨rfl, rfl⟩
theorem line_off (a b : Int) (h : a < 0 ∨ 64 ≤ a) (g : Nat) (w : World) :
    Calls Tryd.prog 19 #[.pointer (some ⟨g, 0, none⟩), .int .i64 a, .int .i64 b] w (NewZ w (lineL a b)) := by
  have HE := Lib.hid (lineN_off (a := a) (b := b) (by omega) 0)
  have H := Lib.hid h
  clear h
  go_enter Tryd.func19, Tryd.ntmps19
  go_wp2_with fail
  refine (right_no _ _ H.out).mono ?_
  rintro e w' ⟨rfl, rfl⟩
  go_wp2
  go_ret
  exact ⟨_, rfl, by unfold lineL; rw [HE.out]; exact OwnZ.nil _ _, Kept.refl _⟩
theorem run_head (gA off N cap m : Nat) (h : m ≤ cap) (w : World) :
    (Instr.sliceAt 30 (.slice (some ⟨gA, off, none⟩) N cap) none (some (.int .i64 (m : Int))) none).run Tryd.prog w = .ok (.slice (some ⟨gA, off, none⟩) m cap) w := by
  obtain ⟨i0, hi0, hz0, hz1, hz2⟩ := partsZ infoZ
  have ht := Tryd.underlying30
  have he : Tryd.prog.elem 30 = 3 := by kernel_rfl
  rw [run_sliceAt_slice w _ _ _ _ _ (by rw [he]; exact ht), run_slice_h w _ _ _ _ (by rw [he]; exact ht) _ _ (by omega) (by omega), he]
  simp [sizeOf, typeInfo, hi0, hz1, sliced, Addr.add]
theorem line_in (a : Nat) (b : Int) (ha : a < 64) (g : Nat) (w : World) (hT : Tab w g) :
    Calls Tryd.prog 19 #[.pointer (some ⟨g, 0, none⟩), .int .i64 (a : Int), .int .i64 b] w (NewZ w (lineL (a : Int) b)) := by
  have HT := Lib.hid hT
  clear hT
  go_enter Tryd.func19, Tryd.ntmps19
  go_wp2_with fail
  refine (right_yes _ _ (by omega) (by omega)).mono ?_
  rintro e w' ⟨rfl, rfl⟩
  go_wp2
  go_loop [17] (fun t17 => ∃ n : Nat, n ≤ 8 ∧ t17 = .int .i64 n ∧ lineL (a : Int) b = lineN (a : Int) b n) (fun t17 => 8 - (intOf t17).toNat)
  case atStart => exact ⟨0, by omega, rfl, rfl⟩
  case round =>
    obtain ⟨n, hn, rfl, hE⟩ := hrel
    have HE := Lib.hid hE
    clear hE
    by_cases hlt : n < 8
    · have hlt' : (n : Int) < 8 := by omega
      have HN := Lib.hid (lineN_step (a : Int) b n hlt)
      obtain ⟨u, gA, hc, hls⟩ := HT.out.at_ n a (by omega) ha
      have h8 := alongL_len n (a : Int)
      have hn16 : (n : Int) < 16 := by omega
      generalize alongL n (a : Int) = A at *
      cases hb : A.contains b
      · have HI := Lib.hid (idxI_none (l := A) (x := b) hb)
        rw [hb] at HN
        obtain ⟨au, cu, rfl⟩ := hls.slice
        have HL := Lib.hid hls
        clear hls hb
        go_wp2_with fail
        refine (indexZ_is gA _ A b _ HL.out).mono ?_
        rw [HI.out]
        rintro e w' ⟨rfl, rfl⟩
        go_wp2
        go_round
        case rel => exact ⟨n + 1, by omega, by go_num, by rw [HE.out, HN.out]; rfl⟩
        case measure => simp [intOf]; omega
      · have hm : b ∈ A := List.contains_iff_mem.1 hb
        obtain ⟨p, hp⟩ : ∃ p, A.idxOf b = p := ⟨_, rfl⟩
        have hpl : p < A.length := by rw [← hp]; exact List.idxOf_lt_length_iff.2 hm
        have HI := Lib.hid (show idxI A b = (p : Nat) by unfold idxI; rw [if_pos hb, hp])
        rw [hb, if_pos rfl, hp] at HN
        obtain ⟨off, cu, rfl, hk1, hk2, _⟩ := hls.full (by omega)
        have HL := Lib.hid hls
        have hr := run_head gA off A.length cu p (by omega)
        have HT2 := Lib.hid (hls.take p (by omega))
        have HT3 := Lib.hid (show (A.take p).length ≤ 1000 by rw [List.length_take]; omega)
        unfold maxLen at hk2
        clear hls hb hm hp
        generalize A.length = N at *
        go_wp2_with fail
        refine (indexZ_is gA _ A b _ HL.out).mono ?_
        rw [HI.out]
        rintro e w' ⟨rfl, rfl⟩
        go_wp2_with fail
        refine (fresh_is gA _ (A.take p) _ HT2.out HT3.out).mono ?_
        rintro e w3 ⟨v3, rfl, hown, k3⟩
        have HO := Lib.hid hown
        have HK := Lib.hid k3
        clear hown k3
        go_wp2
        go_ret
        exact ⟨_, rfl, by rw [HE.out, HN.out]; exact HO.out, HK.out⟩
    · have hlt' : ¬ (n : Int) < 8 := by omega
      have HZ := Lib.hid (lineN_end (a : Int) b n (by omega))
      go_wp2
      go_ret
      exact ⟨_, rfl, by rw [HE.out, HZ.out]; exact OwnZ.nil _ _, Kept.refl _⟩
theorem line_is (a b : Int) (g : Nat) (w : World) (hT : Tab w g) :
    Calls Tryd.prog 19 #[.pointer (some ⟨g, 0, none⟩), .int .i64 a, .int .i64 b] w (NewZ w (lineL a b)) := by
  by_cases h : a < 0 ∨ 64 ≤ a
  · exact line_off a b h g w
  · obtain ⟨n, rfl⟩ := Int.eq_ofNat_of_zero_le (show 0 ≤ a by omega)
    exact line_in n b (by omega) g w hT
/-- The document's steps, as numbers. -/
def stZ (m : Int) : List Int := (stepsL m).flatMap fun p => [p.1, p.2]
theorem flat_len : ∀ P : List (Int × Int), (P.flatMap fun p => [p.1, p.2]).length = 2 * P.length
  | [] => rfl
  | p :: P => by rw [List.flatMap_cons, List.length_append, flat_len P, List.length_cons]; simp; omega
theorem flat_at : ∀ (P : List (Int × Int)) (j : Nat) (p : Int × Int), P[j]? = some p → (P.flatMap fun p => [p.1, p.2])[2 * j]? = some p.1 ∧ (P.flatMap fun p => [p.1, p.2])[2 * j + 1]? = some p.2
  | [], j, p, h => by simp at h
  | q :: P, 0, p, h => by simp at h; subst h; simp
  | q :: P, j + 1, p, h => by
    rw [List.getElem?_cons_succ] at h
    have := flat_at P j p h
    rw [List.flatMap_cons]
    rw [show 2 * (j + 1) = 2 * j + 2 by omega, show 2 * j + 2 + 1 = (2 * j + 1) + 2 by omega]
    simpa using this
theorem stZ_len (m : Int) : (stZ m).length = 2 * (stepsL m).length := flat_len _
theorem stepsL_len (m : Int) : (stepsL m).length ≤ 8 := by
  unfold stepsL
  repeat' split
  all_goals simp
def straightZ : List Int := [0, 1, 1, 0, 0, -1, -1, 0]
def slantZ : List Int := [1, 1, 1, -1, -1, -1, -1, 1]
set_option maxHeartbeats 1000000 in
theorem rsteps_is (m : Int) (w : World) : Calls Tryd.prog 38 #[.int .i64 m] w (NewZ w (stZ m)) := by
  have hk := Lib.hid (rknd_any m)
  have hq := knd_is m
  have hp := @knd_pawn m
  have e : stZ m = (if knd m = 1 then [1, m, -1, m] else if knd m = 2 then [1, 2, 2, 1, 2, -1, 1, -2, -1, -2, -2, -1, -2, 1, -1, 2] else if knd m = 3 then slantZ else if knd m = 4 then straightZ else if knd m = 0 then [] else straightZ ++ slantZ) := by
    unfold stZ stepsL
    repeat' split
    all_goals first | rfl | simp_all
  generalize stZ m = Z at *
  generalize knd m = q at *
  have H1 := Lib.hid (LsZ.lit w straightZ (by decide))
  have H2 := Lib.hid (LsZ.lit (w.alloc (.cells (zl straightZ).toArray 3)) slantZ (by decide))
  obtain ⟨W, eW⟩ : ∃ W, W = (w.alloc (.cells (zl straightZ).toArray 3)).alloc (.cells (zl slantZ).toArray 3) := ⟨_, rfl⟩
  have HW : Hid (W = (w.alloc (.cells #[.int .i64 0, .int .i64 1, .int .i64 1, .int .i64 0, .int .i64 0, .int .i64 (-1), .int .i64 (-1), .int .i64 0] 3)).alloc (.cells #[.int .i64 1, .int .i64 1, .int .i64 1, .int .i64 (-1), .int .i64 (-1), .int .i64 (-1), .int .i64 (-1), .int .i64 1] 3)) := Lib.hid eW
  have HK := Lib.hid (show Kept w W by rw [eW]; exact ((Kept.refl w).alloc _).alloc _)
  have HA := Lib.hid (show LsZ W w.heap.size (.slice (some ⟨w.heap.size, 0, none⟩) 8 8) straightZ by rw [eW]; exact H1.out.kept ((Kept.refl _).alloc _))
  have HB := Lib.hid (show LsZ W (w.heap.size + 1) (.slice (some ⟨w.heap.size + 1, 0, none⟩) 8 8) slantZ by rw [eW]; have := H2.out; simpa [slantZ] using this)
  clear eW H1 H2
  rcases hq with rfl | rfl | rfl | rfl | rfl | rfl | rfl
  · have HE := Lib.hid (show Z = [] from e)
    clear e hp
    go_enter Tryd.func38, Tryd.ntmps38
    go_wp2_with fail
    refine (hk.out _).mono ?_
    rintro e w' ⟨rfl, rfl⟩
    rw [← HW.out]
    go_wp2
    go_ret
    exact ⟨_, rfl, by rw [HE.out]; exact OwnZ.nil _ _, HK.out⟩
  · have hk1 : (.cells #[.int .i64 1, .int .i64 m, .int .i64 (-1), .int .i64 m] 3 : Obj) = .cells (zl [1, m, -1, m]).toArray 3 := rfl
    have KK1 := (Kept.refl W).alloc (.cells (zl [1, m, -1, m]).toArray 3)
    clear hk1
    have HE := Lib.hid (show Z = [1, m, -1, m] from e)
    clear e hp
    go_enter Tryd.func38, Tryd.ntmps38
    go_wp2_with fail
    refine (hk.out _).mono ?_
    rintro e w' ⟨rfl, rfl⟩
    rw [← HW.out]
    go_wp2_with (at_builtin; refine wpList_append_z rfl _ _ rfl w.heap.size W.heap.size _ _ [] [1, m, -1, m] rfl rfl (OwnZ.nil _ _) (LsZ.lit _ [1, m, -1, m] (by simp)) ?c1 ?d1 ?_)
    case c1 => simp
    case d1 => (try simp); have := HK.out.size; omega
    intro v1 w1 hown1 hg1
    have K1 := (OwnZ.nil _ W.heap.size).grown (a := W) KK1 (Nat.le_refl _) hg1
    replace hown1 : OwnZ w1 w.heap.size v1 [1, m, -1, m] := hown1
    obtain ⟨a1, cap1, rfl⟩ := hown1.slice
    have HO1 := Lib.hid hown1
    have HK1 := Lib.hid K1
    clear hown1 hg1 K1
    go_wp2
    go_ret
    exact ⟨_, rfl, by rw [HE.out]; exact HO1.out, HK.out.trans HK1.out⟩
  · have KK1 := (Kept.refl W).alloc (.cells (zl [1, 2, 2, 1, 2, -1, 1, -2]).toArray 3)
    have HE := Lib.hid (show Z = [1, 2, 2, 1, 2, -1, 1, -2, -1, -2, -2, -1, -2, 1, -1, 2] from e)
    clear e hp
    go_enter Tryd.func38, Tryd.ntmps38
    go_wp2_with fail
    refine (hk.out _).mono ?_
    rintro e w' ⟨rfl, rfl⟩
    rw [← HW.out]
    go_wp2_with (at_builtin; refine wpList_append_z rfl _ _ rfl w.heap.size W.heap.size _ _ [] [1, 2, 2, 1, 2, -1, 1, -2] rfl rfl (OwnZ.nil _ _) (LsZ.lit _ [1, 2, 2, 1, 2, -1, 1, -2] (by simp)) ?c1 ?d1 ?_)
    case c1 => decide
    case d1 => (try simp); have := HK.out.size; omega
    intro v1 w1 hown1 hg1
    have K1 := (OwnZ.nil _ W.heap.size).grown (a := W) KK1 (Nat.le_refl _) hg1
    replace hown1 : OwnZ w1 w.heap.size v1 [1, 2, 2, 1, 2, -1, 1, -2] := hown1
    obtain ⟨a1, cap1, rfl⟩ := hown1.slice
    have HO1 := Lib.hid hown1
    have HK1 := Lib.hid K1
    clear hown1 hg1 K1
    have HA1 := Lib.hid (HO1.out.kept ((Kept.refl _).alloc (.cells (zl [-1, -2, -2, -1, -2, 1, -1, 2]).toArray 3)))
    have KK2 := HK1.out.alloc (.cells (zl [-1, -2, -2, -1, -2, 1, -1, 2]).toArray 3)
    go_wp2_with (at_builtin; refine wpList_append_z rfl _ _ rfl w.heap.size w1.heap.size _ _ [1, 2, 2, 1, 2, -1, 1, -2] [-1, -2, -2, -1, -2, 1, -1, 2] rfl rfl HA1.out (LsZ.lit _ [-1, -2, -2, -1, -2, 1, -1, 2] (by simp)) ?c2 ?d2 ?_)
    case c2 => decide
    case d2 => (try simp); have := HK.out.size; have := HK1.out.size; omega
    intro v2 w2 hown2 hg2
    have K2 := HA1.out.grown (a := w) (HK.out.trans KK2) (Nat.le_refl _) hg2
    obtain ⟨a2, cap2, rfl⟩ := hown2.slice
    have HO2 := Lib.hid hown2
    have HK2 := Lib.hid K2
    clear hown2 hg2 K2
    go_wp2
    go_ret
    exact ⟨_, rfl, by rw [HE.out]; exact HO2.out, HK2.out⟩
  · have KK1 := Kept.refl W
    have HE := Lib.hid (show Z = slantZ from e)
    clear e hp
    go_enter Tryd.func38, Tryd.ntmps38
    go_wp2_with fail
    refine (hk.out _).mono ?_
    rintro e w' ⟨rfl, rfl⟩
    rw [← HW.out]
    go_wp2_with (at_builtin; refine wpList_append_z rfl _ _ rfl w.heap.size (w.heap.size + 1) _ _ [] slantZ rfl rfl (OwnZ.nil _ _) HB.out ?c1 ?d1 ?_)
    case c1 => decide
    case d1 => (try simp); have := HK.out.size; omega
    intro v1 w1 hown1 hg1
    have K1 := (OwnZ.nil _ W.heap.size).grown (a := W) KK1 (Nat.le_refl _) hg1
    replace hown1 : OwnZ w1 w.heap.size v1 slantZ := hown1
    obtain ⟨a1, cap1, rfl⟩ := hown1.slice
    have HO1 := Lib.hid hown1
    have HK1 := Lib.hid K1
    clear hown1 hg1 K1
    go_wp2
    go_ret
    exact ⟨_, rfl, by rw [HE.out]; exact HO1.out, HK.out.trans HK1.out⟩
  · have KK1 := Kept.refl W
    have HE := Lib.hid (show Z = straightZ from e)
    clear e hp
    go_enter Tryd.func38, Tryd.ntmps38
    go_wp2_with fail
    refine (hk.out _).mono ?_
    rintro e w' ⟨rfl, rfl⟩
    rw [← HW.out]
    go_wp2_with (at_builtin; refine wpList_append_z rfl _ _ rfl w.heap.size w.heap.size _ _ [] straightZ rfl rfl (OwnZ.nil _ _) HA.out ?c1 ?d1 ?_)
    case c1 => decide
    case d1 => (try simp); have := HK.out.size; omega
    intro v1 w1 hown1 hg1
    have K1 := (OwnZ.nil _ W.heap.size).grown (a := W) KK1 (Nat.le_refl _) hg1
    replace hown1 : OwnZ w1 w.heap.size v1 straightZ := hown1
    obtain ⟨a1, cap1, rfl⟩ := hown1.slice
    have HO1 := Lib.hid hown1
    have HK1 := Lib.hid K1
    clear hown1 hg1 K1
    go_wp2
    go_ret
    exact ⟨_, rfl, by rw [HE.out]; exact HO1.out, HK.out.trans HK1.out⟩
  · have KK1 := Kept.refl W
    have HE := Lib.hid (show Z = straightZ ++ slantZ from e)
    clear e hp
    go_enter Tryd.func38, Tryd.ntmps38
    go_wp2_with fail
    refine (hk.out _).mono ?_
    rintro e w' ⟨rfl, rfl⟩
    rw [← HW.out]
    go_wp2_with (at_builtin; refine wpList_append_z rfl _ _ rfl w.heap.size w.heap.size _ _ [] straightZ rfl rfl (OwnZ.nil _ _) HA.out ?c1 ?d1 ?_)
    case c1 => decide
    case d1 => (try simp); have := HK.out.size; omega
    intro v1 w1 hown1 hg1
    have K1 := (OwnZ.nil _ W.heap.size).grown (a := W) KK1 (Nat.le_refl _) hg1
    replace hown1 : OwnZ w1 w.heap.size v1 straightZ := hown1
    obtain ⟨a1, cap1, rfl⟩ := hown1.slice
    have HO1 := Lib.hid hown1
    have HK1 := Lib.hid K1
    clear hown1 hg1 K1
    have HB1 := Lib.hid (HB.out.kept HK1.out)
    go_wp2_with (at_builtin; refine wpList_append_z rfl _ _ rfl w.heap.size (w.heap.size + 1) _ _ straightZ slantZ rfl rfl HO1.out HB1.out ?c2 ?d2 ?_)
    case c2 => decide
    case d2 => have := HK.out.size; have := HK1.out.size; omega
    intro v2 w2 hown2 hg2
    have K2 := HO1.out.grown (a := w) (HK.out.trans HK1.out) (Nat.le_refl _) hg2
    obtain ⟨a2, cap2, rfl⟩ := hown2.slice
    have HO2 := Lib.hid hown2
    have HK2 := Lib.hid K2
    clear hown2 hg2 K2
    go_wp2
    go_ret
    exact ⟨_, rfl, by rw [HE.out]; exact HO2.out, HK2.out⟩
  · have KK1 := Kept.refl W
    have HE := Lib.hid (show Z = straightZ ++ slantZ from e)
    clear e hp
    go_enter Tryd.func38, Tryd.ntmps38
    go_wp2_with fail
    refine (hk.out _).mono ?_
    rintro e w' ⟨rfl, rfl⟩
    rw [← HW.out]
    go_wp2_with (at_builtin; refine wpList_append_z rfl _ _ rfl w.heap.size w.heap.size _ _ [] straightZ rfl rfl (OwnZ.nil _ _) HA.out ?c1 ?d1 ?_)
    case c1 => decide
    case d1 => (try simp); have := HK.out.size; omega
    intro v1 w1 hown1 hg1
    have K1 := (OwnZ.nil _ W.heap.size).grown (a := W) KK1 (Nat.le_refl _) hg1
    replace hown1 : OwnZ w1 w.heap.size v1 straightZ := hown1
    obtain ⟨a1, cap1, rfl⟩ := hown1.slice
    have HO1 := Lib.hid hown1
    have HK1 := Lib.hid K1
    clear hown1 hg1 K1
    have HB1 := Lib.hid (HB.out.kept HK1.out)
    go_wp2_with (at_builtin; refine wpList_append_z rfl _ _ rfl w.heap.size (w.heap.size + 1) _ _ straightZ slantZ rfl rfl HO1.out HB1.out ?c2 ?d2 ?_)
    case c2 => decide
    case d2 => have := HK.out.size; have := HK1.out.size; omega
    intro v2 w2 hown2 hg2
    have K2 := HO1.out.grown (a := w) (HK.out.trans HK1.out) (Nat.le_refl _) hg2
    obtain ⟨a2, cap2, rfl⟩ := hown2.slice
    have HO2 := Lib.hid hown2
    have HK2 := Lib.hid K2
    clear hown2 hg2 K2
    go_wp2
    go_ret
    exact ⟨_, rfl, by rw [HE.out]; exact HO2.out, HK2.out⟩
end Go.Proofs.YtkliefojegjhhaaDoor
