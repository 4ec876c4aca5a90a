/- sees, Strikes, By, Struck. -/
import Derived.Test.YtkliefojegjhhaaDoorAtC
namespace Go.Proofs.YtkliefojegjhhaaDoor
open Go.RowKit
set_option linter.unusedVariables false
set_option linter.unusedSimpArgs false

theorem okS_yes {s : Int} (h0 : 0 ≤ s) (h1 : s < 64) : okS s = true := by unfold okS; simp [h0, h1]
theorem okS_no {s : Int} (h : s < 0 ∨ 64 ≤ s) : okS s = false := by unfold okS; simp; omega
theorem okS_iff {s : Int} : okS s = true ↔ 0 ≤ s ∧ s < 64 := by unfold okS; simp
theorem Steps.low {w : World} (h : Steps w) : 0 < w.heap.size := World.block_lt_of_cell? w _ (h 0 (by omega)).1
theorem sees_is (a : Addr) (B : List Int) (hB : Brd B) (s : Int) (w : World) :
    Calls Tryd.prog 46 #[.pointer (some a), .agg (cl B).toArray, .int .i64 s] w fun e w' => e = .returned (.bool (okS s && rightB B)) ∧ Kept w w' := by
  have hz := Lib.hid (size_cl hB.1)
  have hbl := Lib.hid (heap_alloc_new w (.cells (cl B).toArray 40))
  have HB := Lib.hid hB
  clear hB
  by_cases hs : s < 0 ∨ 64 ≤ s
  · rw [okS_no hs, Bool.false_and]
    have HS := Lib.hid hs
    clear hs
    go_enter Tryd.func46, Tryd.ntmps46
    go_wp2_with fail
    refine (right_no _ _ HS.out).mono ?_
    rintro e w' ⟨rfl, rfl⟩
    go_wp2
    go_ret
    exact ⟨rfl, (Kept.refl _).alloc _⟩
  · rw [okS_yes (by omega) (by omega), Bool.true_and]
    go_enter Tryd.func46, Tryd.ntmps46
    go_wp2_with fail
    refine (right_yes _ _ (by omega) (by omega)).mono ?_
    rintro e w' ⟨rfl, rfl⟩
    go_wp2_with (refine wpList_load_w (by rfl) _ rfl _ rfl _ (hbl.out) hz.out ?_)
    refine (bright_is B HB.out _).mono ?_
    rintro e w1 ⟨rfl, k1⟩
    have HK := Lib.hid (((Kept.refl w).alloc _).trans k1)
    clear k1
    go_wp2
    go_ret
    exact ⟨rfl, HK.out⟩
theorem sees_nil (B : List Int) (s : Int) (w : World) :
    Calls Tryd.prog 46 #[.pointer none, .agg (cl B).toArray, .int .i64 s] w fun e w' => e = .returned (.bool false) ∧ Kept w w' := by
  go_enter Tryd.func46, Tryd.ntmps46
  go_wp2
  go_ret
  exact ⟨rfl, (Kept.refl _).alloc _⟩
theorem told_snoc (m : Int) (l : List (Int × Nat × Nat)) (t : Int) (way far : Nat) :
    ((l ++ [(t, way, far)]).filter (toldM m)).map (·.1) = if reachB m way far = true then (l.filter (toldM m)).map (·.1) ++ [t] else (l.filter (toldM m)).map (·.1) := by
  rw [filter_snoc]
  show ((l.filter (toldM m)) ++ if reachB m way far = true then [(t, way, far)] else []).map (·.1) = _
  split <;> simp
set_option maxHeartbeats 2000000 in
set_option maxRecDepth 100000 in
theorem strikes_is (a : Addr) (B : List Int) (hB : Brd B) (s : Int) (w : World) (hS : Steps w) :
    Calls Tryd.prog 25 #[.pointer (some a), .agg (cl B).toArray, .int .i64 s] w (NewZ w (if okS s && rightB B then zn (strikesN B s) else [])) := by
  have hz := Lib.hid (size_cl hB.1)
  have hbl := Lib.hid (heap_alloc_new w (.cells (cl B).toArray 40))
  have HB := Lib.hid hB
  have HSt := Lib.hid hS
  have hSee := Lib.hid (sees_is a B hB s)
  clear hS
  cases hc : okS s && rightB B
  · rw [hc] at hSee
    clear hB hc
    rw [if_neg (by simp)]
    go_enter Tryd.func25, Tryd.ntmps25
    go_wp2_with (refine wpList_load_w (by rfl) _ rfl _ rfl _ (hbl.out) hz.out ?_)
    refine (hSee.out _).mono ?_
    rintro e w1 ⟨rfl, k1⟩
    have HK := Lib.hid (((Kept.refl w).alloc _).trans k1)
    clear k1
    go_wp2
    go_ret
    exact ⟨_, rfl, OwnZ.nil _ _, HK.out⟩
  · rw [hc] at hSee
    rw [if_pos rfl]
    obtain ⟨h0, h1⟩ := okS_iff.1 (Bool.and_eq_true _ _ ▸ hc).1
    obtain ⟨n, rfl⟩ := Int.eq_ofNat_of_zero_le h0
    have hn : n < 64 := by omega
    obtain ⟨hb1, hb2⟩ := hB.2 n hn
    have hOut := Lib.hid (sort_outM B (n : Int) h0 h1)
    have hx : bAt B (n : Int) = B.getD n 0 := rfl
    have hlen : (outM B (n : Int)).length ≤ 1000 := by
      unfold outM lookL
      have h1 := List.length_filter_le (toldM (bAt B (n : Int))) (lookN (ansM (bAt B (n : Int))) B n 16)
      have h2 := lookN_len (ansM (bAt B (n : Int))) B n 16
      rw [List.length_map]
      omega
    have HLen := Lib.hid hlen
    have HLk := Lib.hid (show ∀ (k : Nat) (caps : Array Value) (Inv : List (Int × Nat × Nat) → World → Prop) (hS : Sees B (n : Int) w.heap.size k caps (ansM (bAt B (n : Int))) Inv) (W : World) (hI : Inv [] W), _ from fun k caps Inv hS W hI => look_is B hB w.heap.size (n : Int) k caps _ Inv hS W hI)
    have HO : Hid (((lookL (ansM (bAt B (n : Int))) B (n : Int)).filter (toldM (bAt B (n : Int)))).map (·.1) = outM B (n : Int)) := rfl
    rw [hx] at HLk HO
    clear hB hc hx hlen
    generalize hxx : B.getD n 0 = x at *
    go_enter Tryd.func25, Tryd.ntmps25
    go_wp2_with (refine wpList_load_w (by rfl) _ rfl _ rfl _ (hbl.out) hz.out ?_)
    refine (hSee.out _).mono ?_
    rintro e w1 ⟨rfl, k1⟩
    have hb1' := k1.heap hbl.out
    have hcell := board_cell HB.out hb1' n hn
    rw [hxx] at hcell
    replace hcell := kept_cell ((Kept.refl w1).alloc (.cells #[.slice none 0 0] 30)) hcell
    have hwlt : w.heap.size < w1.heap.size := lt_of_heap hb1'
    obtain ⟨W, eW⟩ : ∃ W, W = (w1.alloc (.cells #[.slice none 0 0] 30)).alloc (.cells #[.int .i64 x] 3) := ⟨_, rfl⟩
    have HW := Lib.hid eW
    have hKW : Kept w1 W := by rw [eW]; exact ((Kept.refl _).alloc _).alloc _
    have hgo : W.heap[w1.heap.size]? = some (.cells #[.slice none 0 0] 30 (0, 0)) := by rw [eW]; exact ((Kept.refl _).alloc _).heap (heap_alloc_new w1 _)
    have hgm : W.heap[w1.heap.size + 1]? = some (.cells #[.int .i64 x] 3 (0, 0)) := by
      rw [eW]
      have := heap_alloc_new (w1.alloc (.cells #[.slice none 0 0] 30)) (.cells #[.int .i64 x] 3)
      simpa using this
    have hKw : Kept w W := ((Kept.refl w).alloc _).trans (k1.trans hKW)
    have hStW := HSt.out.kept hKw
    have hlowG := HSt.out.low
    have hSees : Sees B (n : Int) w.heap.size 48 #[.pointer (some ⟨w1.heap.size + 1, 0, none⟩), .pointer (some ⟨w1.heap.size, 0, none⟩)] (ansM x) (fun l w' => OutBox W w1.heap.size ((l.filter (toldM x)).map (·.1)) w') := by
      refine ⟨fun args w => fun_enters Tryd.func48 (by kernel_rfl) rfl args w, fun l w w' h k => h.kept k, fun l w' h => h.kb.steps (by omega) hStW, fun l w' h => h.kb.heap (by omega) (hKW.heap hb1'), ?_⟩
      intro l t way far w' hI hl ht hw hf hf8 hr
      rw [told_snoc]
      exact strikes1_is W w1.heap.size (w1.heap.size + 1) x _ t way far w' hI (by rw [List.length_map]; have := List.length_filter_le (toldM x) l; omega) (hI.kb.cell (by simp) (cell_box hgm)) (hI.kb.steps (by omega) hStW) hw hf hf8
    have HLook := Lib.hid (HLk.out _ _ _ hSees W (OutBox.start hgo))
    have HKw := Lib.hid hKw
    have Hlt := Lib.hid (Nat.le_of_lt hwlt)
    clear hSees hStW hKw hgo hgm hKW eW k1 hb1' hxx hwlt hlowG
    go_wp2_with fail
    rw [← HW.out]
    refine HLook.out.mono ?_
    rintro e w3 ⟨rfl, hI3⟩
    rw [HO.out] at hI3
    obtain ⟨v, q1, q2⟩ := hI3.box
    have c3 := cell_box q1
    have HI3 := Lib.hid hI3
    have Q1 := Lib.hid q1
    have Q2 := Lib.hid q2
    clear hI3 q1 q2 hcell
    go_wp2_with fail
    refine (sort_own w3 W.heap.size v _ Q2.out HLen.out).mono ?_
    rintro e w4 ⟨rfl, ho4, hg4⟩
    obtain ⟨q4, kb4⟩ := HI3.out.sorted Q1.out Q2.out ho4 hg4
    have c4 := cell_box q4
    have HO4 := Lib.hid ho4
    have HK4 := Lib.hid (kb4.below HKw.out Hlt.out)
    clear ho4 hg4 q4 kb4
    go_wp2
    go_ret
    exact ⟨_, rfl, by rw [← hOut.out]; exact HO4.out.low HKw.out.size, HK4.out⟩
theorem strikes_nil (B : List Int) (hB : Brd B) (s : Int) (w : World) :
    Calls Tryd.prog 25 #[.pointer none, .agg (cl B).toArray, .int .i64 s] w (NewZ w []) := by
  have hz := Lib.hid (size_cl hB.1)
  have hbl := Lib.hid (heap_alloc_new w (.cells (cl B).toArray 40))
  clear hB
  go_enter Tryd.func25, Tryd.ntmps25
  go_wp2_with (refine wpList_load_w (by rfl) _ rfl _ rfl _ (hbl.out) hz.out ?_)
  refine (sees_nil B s _).mono ?_
  rintro e w1 ⟨rfl, k1⟩
  have HK := Lib.hid (((Kept.refl w).alloc _).trans k1)
  clear k1
  go_wp2
  go_ret
  exact ⟨_, rfl, OwnZ.nil _ _, HK.out⟩
end Go.Proofs.YtkliefojegjhhaaDoor
