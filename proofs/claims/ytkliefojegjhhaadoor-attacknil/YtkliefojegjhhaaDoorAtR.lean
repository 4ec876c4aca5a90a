/- Pinned, whole. -/
import Derived.Test.YtkliefojegjhhaaDoorAtQ
namespace Go.Proofs.YtkliefojegjhhaaDoor
open Go.RowKit
set_option linter.unusedVariables false
set_option linter.unusedSimpArgs false

theorem pinned_nil (B : List Int) (hB : Brd B) (s : Int) (w : World) :
    Calls Tryd.prog 31 #[.pointer none, .agg (cl B).toArray, .int .i64 s] w (NewZ w []) := by
  have hz := Lib.hid (size_cl hB.1)
  have hbl := Lib.hid (((Kept.refl (w.alloc (.cells (cl B).toArray 40))).alloc (.cells #[.int .i64 s] 3)).heap (heap_alloc_new w (.cells (cl B).toArray 40)))
  clear hB
  go_enter Tryd.func31, Tryd.ntmps31
  go_wp2_with (refine wpList_load_w (by rfl) _ rfl _ rfl _ (hbl.out) hz.out ?_)
  refine (sees_nil B s _).mono ?_
  rintro e w1 ⟨rfl, k1⟩
  have HK := Lib.hid ((((Kept.refl w).alloc _).alloc _).trans k1)
  clear k1
  go_wp2
  go_ret
  exact ⟨_, rfl, OwnZ.nil _ _, HK.out⟩
set_option maxRecDepth 100000 in
set_option maxHeartbeats 4000000 in
theorem pinned_is (a : Addr) (B : List Int) (hB : Brd B) (s : Int) (w : World) (hS : Steps w) :
    Calls Tryd.prog 31 #[.pointer (some a), .agg (cl B).toArray, .int .i64 s] w (NewZ w (pinnedL B s)) := by
  have hz := Lib.hid (size_cl hB.1)
  have hbl := Lib.hid (((Kept.refl (w.alloc (.cells (cl B).toArray 40))).alloc (.cells #[.int .i64 s] 3)).heap (heap_alloc_new w (.cells (cl B).toArray 40)))
  have HB := Lib.hid hB
  have HSt := Lib.hid hS
  have hSee := Lib.hid (sees_is a B hB s)
  clear hS
  cases hc : okS s && rightB B
  · rw [hc] at hSee
    have HE := Lib.hid (show pinnedL B s = [] by unfold pinnedL; rw [hc]; rfl)
    clear hB hc
    go_enter Tryd.func31, Tryd.ntmps31
    go_wp2_with (refine wpList_load_w (by rfl) _ rfl _ rfl _ (hbl.out) hz.out ?_)
    refine (hSee.out _).mono ?_
    rintro e w1 ⟨rfl, k1⟩
    have HK := Lib.hid ((((Kept.refl w).alloc _).alloc _).trans k1)
    clear k1
    go_wp2
    go_ret
    exact ⟨_, rfl, by rw [HE.out]; exact OwnZ.nil _ _, HK.out⟩
  · rw [hc] at hSee
    obtain ⟨h0, h1⟩ := okS_iff.1 (Bool.and_eq_true _ _ ▸ hc).1
    obtain ⟨n, rfl⟩ := Int.eq_ofNat_of_zero_le h0
    have hn : n < 64 := by omega
    obtain ⟨hb1, hb2⟩ := hB.2 n hn
    have hx : bAt B (n : Int) = B.getD n 0 := rfl
    have hcs0 : ((w.alloc (.cells (cl B).toArray 40)).alloc (.cells #[.int .i64 (n : Int)] 3)).heap[w.heap.size + 1]? = some (.cells #[.int .i64 (n : Int)] 3 (0, 0)) := by
      have := heap_alloc_new (w.alloc (.cells (cl B).toArray 40)) (.cells #[.int .i64 (n : Int)] 3)
      simpa using this
    have HCs0 := Lib.hid hcs0
    have HP0 := Lib.hid (show pinnedL B (n : Int) = if okS (n : Int) && rightB B && !(kindI (bAt B (n : Int)) == 6) then srt (pinL (kingI B (sideI (bAt B (n : Int)))) (n : Int) (tellL (B.set n 0) (kingI B (sideI (bAt B (n : Int)))) (otherI (sideI (bAt B (n : Int)))))) else [] from rfl)
    rw [hc, hx, Bool.true_and] at HP0
    clear hc hcs0 hx
    obtain ⟨x, hxx⟩ : ∃ x, B.getD n 0 = x := ⟨_, rfl⟩
    rw [hxx] at hb1 hb2 HP0
    cases hk6 : (kindI x == 6)
    · rw [hk6] at HP0
      have HP := Lib.hid (show pinnedL B (n : Int) = srt (pinL (kingI B (sideI x)) (n : Int) (tellL (B.set n 0) (kingI B (sideI x)) (otherI (sideI x)))) by rw [HP0.out]; rfl)
      have HKg := Lib.hid (king_any B hB (sideI x))
      have HB0 := Lib.hid (set_brd hB hn)
      clear HP0 hB
      generalize kingI B (sideI x) = k at *
      go_enter Tryd.func31, Tryd.ntmps31
      go_wp2_with (refine wpList_load_w (by rfl) _ rfl _ rfl _ (hbl.out) hz.out ?_)
      refine (hSee.out _).mono ?_
      rintro e w1 ⟨rfl, k1⟩
      have hbw1 := Lib.hid (k1.heap hbl.out)
      have hcb := board_cell HB.out hbw1.out n hn
      rw [hxx] at hcb
      have hcs := cell_box (k1.heap HCs0.out)
      have HK1 := Lib.hid ((((Kept.refl w).alloc _).alloc _).trans k1)
      have HCs1 := Lib.hid (k1.heap HCs0.out)
      clear k1
      go_wp2_with fail
      refine (mkind_any x _).mono ?_
      rintro e w' ⟨rfl, rfl⟩
      go_wp2_with fail
      refine (mside_any x _).mono ?_
      rintro e w' ⟨rfl, rfl⟩
      go_wp2_with (refine wpList_load_w (by rfl) _ rfl _ rfl _ (hbw1.out) hz.out ?_)
      refine (HKg.out _).mono ?_
      rintro e w2 ⟨rfl, k2⟩
      have hbw2 := Lib.hid (k2.heap hbw1.out)
      have HCs2 := Lib.hid (k2.heap HCs1.out)
      have HK2 := Lib.hid (HK1.out.trans k2)
      have KA := Lib.hid ((Kept.refl w2).alloc (.cells #[.int .i64 k] 3))
      have hcs2 := cell_box (KA.out.heap HCs2.out)
      have hcb2 := board_cell HB.out (KA.out.heap hbw2.out) n hn
      have hfr2 : (w2.alloc (.cells #[.int .i64 k] 3)).frozen? ⟨w.heap.size, n, none⟩ = false := by simp [World.frozen?, KA.out.heap hbw2.out]
      have hwlt : w.heap.size < w2.heap.size := lt_of_heap hbw2.out
      rw [hxx] at hcb2
      clear k2 hcb hcs
      go_wp2
      generalize eW : ((w2.setCell ⟨w.heap.size, n, none⟩ (.int .i8 0)).alloc (.cells #[.int .i64 k] 3)).alloc (.cells #[.slice none 0 0] 30) = W1
      have hsz2 : (w2.setCell ⟨w.heap.size, n, none⟩ (.int .i8 0)).heap.size = w2.heap.size := by simp [World.setCell]
      have kA : Kept (w2.setCell ⟨w.heap.size, n, none⟩ (.int .i8 0)) W1 := by rw [← eW]; exact ((Kept.refl _).alloc _).alloc _
      have e1 : W1.heap[w.heap.size]? = some (.cells (cl (B.set n 0)).toArray 40 (0, 0)) := kA.heap (heap_set_cl 0 hbw2.out)
      have e2 : W1.heap[w.heap.size + 1]? = some (.cells #[.int .i64 (n : Int)] 3 (0, 0)) := kA.heap ((heap_setCell_other w2 _ _ _ (by simp)).trans HCs2.out)
      have e3 : W1.heap[w2.heap.size]? = some (.cells #[.int .i64 k] 3 (0, 0)) := by
        rw [← eW, ← hsz2]
        exact ((Kept.refl _).alloc _).heap (heap_alloc_new (w2.setCell ⟨w.heap.size, n, none⟩ (.int .i8 0)) _)
      have e4 : W1.heap[w2.heap.size + 1]? = some (.cells #[.slice none 0 0] 30 (0, 0)) := by
        rw [← eW, ← hsz2]
        have := heap_alloc_new ((w2.setCell ⟨w.heap.size, n, none⟩ (.int .i8 0)).alloc (.cells #[.int .i64 k] 3)) (.cells #[.slice none 0 0] 30)
        simpa using this
      have kW : Kept w W1 := by
        rw [← eW]
        exact ((HK2.out.setCell (p := ⟨w.heap.size, n, none⟩) (Nat.le_refl _) _).alloc _).alloc _
      have hSt1 := HSt.out.kept kW
      have hlowG := HSt.out.low
      have hgs : w.heap.size + 1 < w2.heap.size := lt_of_heap HCs2.out
      have hTells := tells_pin k (n : Int) (w2.heap.size + 1) w2.heap.size (w.heap.size + 1) (by omega) (by omega) (by omega)
      have HStr := Lib.hid (fun x1 (kx : Kept W1 x1) => strikers_is (B.set n 0) HB0.out k (otherI (sideI x)) w.heap.size (w2.heap.size + 1) _ _ _ hTells x1 (kx.heap e1) (hSt1.kept kx) (by omega) (by omega) (lt_of_heap (kx.heap e4))
        (fun w1 kk => ⟨OutBox.start (kk.heap (kx.heap e4)), cell_box (kk.heap (kx.heap e3)), cell_box (kk.heap (kx.heap e2)), (hSt1.kept kx).kept kk⟩))
      have hck := cell_box e3
      have HKW := Lib.hid kW
      have hgo := Lib.hid (show w.heap.size ≤ w2.heap.size + 1 by omega)
      have HLen := Lib.hid (show (pinL k (n : Int) (tellL (B.set n 0) k (otherI (sideI x)))).length ≤ 1000 by have := pin_len k (n : Int) (tellL (B.set n 0) k (otherI (sideI x))) [] (by simp); unfold pinL; omega)
      clear eW kA e1 e2 e4 e3 kW hSt1 hTells hcs2 hcb2 hfr2 hsz2 hlowG hgs
      refine wp_region_held_drew (S := KB W1 (w2.heap.size + 1)) (by kernel_rfl) ((KB.refl _ _).kept (Kept.refl _).drew) (fun hHeld => ?_)
      refine rg_take (i := 0) (v := .int .i64 k) (some 33) rfl rfl (by kernel_rfl) (by kernel_rfl) (by kernel_rfl) (fun _ _ _ h => h) (Or.inl ⟨by rfl, fun w' h => by have h' := h.cell (by simp) hck; go_simp⟩) hHeld ?_
      simp only [Act.put, List.setIfInBounds_toArray, List.set_cons_zero, List.set_cons_succ]
      refine rg_take (i := 1) (v := (.int .i64 (sideI x))) (some 34) rfl rfl (by kernel_rfl) (by kernel_rfl) (by kernel_rfl) (fun _ _ _ h => h) (Or.inl ⟨by rfl, fun _ _ => by go_simp⟩) hHeld ?_
      simp only [Act.put, List.setIfInBounds_toArray, List.set_cons_zero, List.set_cons_succ]
      refine rg_take (i := 3) (v := (.func (.func 58) #[] #[.pointer (some ⟨w2.heap.size, 0, none⟩), .pointer (some ⟨w.heap.size + 1, 0, none⟩), .pointer (some ⟨w2.heap.size + 1, 0, none⟩)])) (some 36) rfl rfl (by kernel_rfl) (by kernel_rfl) (by kernel_rfl) (fun _ _ _ h => h) (Or.inl ⟨by rfl, fun _ _ => by go_simp⟩) hHeld ?_
      simp only [Act.put, List.setIfInBounds_toArray, List.set_cons_zero, List.set_cons_succ]
      refine wpAnyH_ready (rs := [2]) (by kernel_rfl) (by simp) ?_
      refine AllReadyH.cons rfl (fun K hK => ?_) AllReadyH.nil
      go_simp
      refine (other_any (sideI x) _).mono ?_
      rintro e x1 ⟨rfl, kx1⟩
      refine hK.out _ _ (hHeld.kept kx1) (fun _ => ?_)
      have kX := (Kept.refl W1).drew.trans kx1
      clear hHeld hK K kx1
      refine wpAnyH_ready (rs := [4]) (by kernel_rfl) (by simp) ?_
      refine AllReadyH.cons rfl (fun K hK => ?_) AllReadyH.nil
      go_simp
      refine (HStr.out x1 kX).mono ?_
      rintro e w3 ⟨rfl, W, kW, hI3⟩
      refine hK.out _ _ (hI3.1.kb.on (kX.trans kW)) (fun _ => ?_)
      have HKw2 := Lib.hid (HKW.out.trans (kX.trans kW))
      obtain ⟨hO3, _⟩ := hI3
      clear hK K kW kX
      refine wpAnyH_done (by kernel_rfl) ?_ _
      obtain ⟨v, q1, q2⟩ := hO3.box
      have c3 := cell_box q1
      have HI3 := Lib.hid hO3
      have Q1 := Lib.hid q1
      have Q2 := Lib.hid q2
      clear hO3 q1 q2
      go_wp2_with fail
      refine (sort_own w3 W.heap.size v _ Q2.out HLen.out).mono ?_
      rintro e w4 ⟨rfl, ho4, hg4⟩
      obtain ⟨q4, kb4⟩ := HI3.out.sorted Q1.out Q2.out ho4 hg4
      have c4 := cell_box q4
      have HO4 := Lib.hid ho4
      have HK4 := Lib.hid (kb4.below HKw2.out hgo.out)
      clear ho4 hg4 q4 kb4
      go_wp2
      go_ret
      exact ⟨_, rfl, by rw [HP.out]; exact HO4.out.low HKw2.out.size, HK4.out⟩
    · rw [hk6] at HP0
      have HE := Lib.hid (show pinnedL B (n : Int) = [] by rw [HP0.out]; rfl)
      clear HP0 hB
      go_enter Tryd.func31, Tryd.ntmps31
      go_wp2_with (refine wpList_load_w (by rfl) _ rfl _ rfl _ (hbl.out) hz.out ?_)
      refine (hSee.out _).mono ?_
      rintro e w1 ⟨rfl, k1⟩
      have hbw1 := Lib.hid (k1.heap hbl.out)
      have hcb := board_cell HB.out hbw1.out n hn
      rw [hxx] at hcb
      have hcs := cell_box (k1.heap HCs0.out)
      have HK1 := Lib.hid ((((Kept.refl w).alloc _).alloc _).trans k1)
      clear k1
      go_wp2_with fail
      refine (mkind_any x _).mono ?_
      rintro e w' ⟨rfl, rfl⟩
      go_wp2
      go_ret
      exact ⟨_, rfl, by rw [HE.out]; exact OwnZ.nil _ _, HK1.out⟩
end Go.Proofs.YtkliefojegjhhaaDoor
