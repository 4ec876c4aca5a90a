/- The document's Read. -/
import Derived.Test.YtkfjpecehighlaaFoG
namespace Go.Proofs.Ytkfjpecehighlaa
open Go.RowKit
set_option linter.unusedVariables false
set_option linter.unusedSimpArgs false

theorem KeptB.cell {g : Nat} {w w' : World} (k : KeptB g w w') {b o : Nat} {v : Value} (hb : b ≠ g) (h : w.cell? ⟨b, o, none⟩ = some v) : w'.cell? ⟨b, o, none⟩ = some v := by
  have hlt : b < w.heap.size := by
    by_cases hi : b < w.heap.size
    · exact hi
    · have e : w.heap[b]? = none := by simp; omega
      simp [World.cell?, e] at h
  have := k.block b hlt hb
  simpa [World.cell?, this] using h
/-- The board as far as the document's Read has laid it. -/
def layB (S : List Int) (n : Nat) : List Int := tab fun k => if sw k < n then S.getD (sw k) 0 else 0
theorem layB_zero (S : List Int) : layB S 0 = Zb := by
  rw [← tab_of Zb Zb_brd.1]
  refine tab_ext fun i hi => ?_
  simp only [Nat.not_lt_zero, if_false]
  unfold Zb
  rw [List.getD, List.getElem?_replicate]; split <;> rfl
theorem layB_all (S : List Int) : layB S 64 = bd S := by
  refine tab_ext fun i hi => ?_
  rw [if_pos (by unfold sw; omega)]
theorem layB_succ (S : List Int) (n : Nat) (hn : n < 64) : layB S (n + 1) = (layB S n).set (sw n) (S.getD n 0) := by
  unfold layB
  rw [tab_set]
  refine tab_ext fun i hi => ?_
  by_cases e : i = sw n
  · have : sw i = n := by rw [e]; unfold sw; omega
    rw [if_pos e, this, if_pos (by omega)]
  · have : sw i ≠ n := by intro h; apply e; rw [← h]; unfold sw; omega
    rw [if_neg e]
    by_cases h : sw i < n
    · rw [if_pos h, if_pos (by omega)]
    · rw [if_neg h, if_neg (by omega)]
theorem layB_length (S : List Int) (n : Nat) : (layB S n).length = 64 := tab_length _
theorem says_int (t : ByteArray) (hm : t.size ≤ 1000) (n : Nat) (hn : n + 1 ≤ t.size) (w : World) :
    Calls Try.prog 9 #[.string t, .int .i64 ((n : Int) + 1)] w (SaysPost (t.data.toList.take (n + 1)) w) := by
  have := says_is t hm (n + 1) hn w
  rwa [show ((n + 1 : Nat) : Int) = (n : Int) + 1 by omega] at this
theorem S_get (S : List Int) (i : Nat) (h : ∀ x ∈ S, -6 ≤ x ∧ x ≤ 6) : -6 ≤ S.getD i 0 ∧ S.getD i 0 ≤ 6 := by
  rw [List.getD]
  cases e : S[i]? with
  | none => simp
  | some x => have := h x (List.mem_of_getElem? e); simpa using this
theorem wrap8 (m : Int) (h : -6 ≤ m ∧ m ≤ 6) : IntKind.i8.wrap m = m := by
  have : m = -6 ∨ m = -5 ∨ m = -4 ∨ m = -3 ∨ m = -2 ∨ m = -1 ∨ m = 0 ∨ m = 1 ∨ m = 2 ∨ m = 3 ∨ m = 4 ∨ m = 5 ∨ m = 6 := by omega
  rcases this with rfl | rfl | rfl | rfl | rfl | rfl | rfl | rfl | rfl | rfl | rfl | rfl | rfl <;> decide
theorem run_can (v : Value) (a b : Int) (c : Bool) (w : World) : (Instr.field 37 (.agg (sx v a b c)) 3).run Try.prog w = .ok (.bool c) w := by
  simp [Instr.field, Sem.run_bind, run_underlying Try.underlying37, asAgg, Go.part, isAgg, run_underlying Try.underlying4, sx]
set_option maxRecDepth 100000 in
theorem rread_is (t : ByteArray) (hm : t.size ≤ 1000) (w : World) :
    Calls Try.prog 6 #[.string t] w fun e w' => ∃ (B : List Int) (n : Nat) (x : Int), e = .returned (.tuple #[.agg (cl B).toArray, .int .i64 n, .int .i64 x]) ∧ Reads t.data.toList B n x ∧ Kept w w' := by
  have hz := Lib.hid (size_cl Zb_brd.1)
  go_enter Try.func6, Try.ntmps6
  go_wp2_with (with_reducible refine wpList_new_b rfl rfl ?_)
  go_loopw [5] (fun t5 wr => ∃ k : Nat, k ≤ t.size ∧ t5 = .int .i64 k ∧ (∃ s, says (t.data.toList.take k) = some s) ∧ wr.heap[w.heap.size]? = some (.cells (cl Zb).toArray 25 (0, 0)) ∧ Kept w wr) (fun t5 _ => t.size - (intOf t5).toNat)
  case atStart => exact ⟨0, by omega, rfl, ⟨_, rfl⟩, heap_alloc_new w _, (Kept.refl w).alloc _⟩
  case round =>
    obtain ⟨k, hk, rfl, hs, hr, hK⟩ := hrel
    have HS := Lib.hid hs
    have HR := Lib.hid hr
    have HK := Lib.hid hK
    clear hs hr hK
    by_cases hl : k < t.size
    · have hl' : (k : Int) < (t.size : Int) := by omega
      go_wp2_with fail
      refine (says_int t hm k hl _).mono ?_
      rintro e w1 ⟨g1, ⟨hn, rfl⟩ | ⟨s, v, hs, rfl, hown⟩⟩
      · have HN := Lib.hid hn
        have HR1 := Lib.hid (g1.heap HR.out)
        have HK1 := Lib.hid (HK.out.trans g1)
        clear hn g1
        have hcan := run_can (.slice none 0 0) 0 0 false
        have e0 : sx0 = sx (.slice none 0 0) 0 0 false := rfl
        go_wp2_with (first | (refine wpList_zero_w (by rfl) rfl ?_) | (refine wpList_store_row rfl 25 _ _ rfl w.heap.size (cl Zb).toArray rfl rfl 25 _ HR1.out hz.out rfl (cl_one _) ?_))
        refine bodyPost_ret (v := .tuple #[.agg (cl Zb).toArray, .int .i64 k, .int .i64 2]) ?_ rfl ⟨Zb, k, 2, rfl, .inl ⟨by rw [len_size]; exact hl, HS.out, HN.out, rfl, rfl⟩, HK1.out.setRow (by omega) _⟩
        exact (results_board_tmp2 (p := 2) (t := 3) (u := 4) rfl _ _ w.heap.size Zb Zb_brd.1 rfl (setRow_heap _ _ _ _ _ _ HR1.out)).trans rfl
      · have HS1 := Lib.hid hs
        have HR1 := Lib.hid (g1.heap HR.out)
        have HK1 := Lib.hid (HK.out.trans g1)
        clear hs g1 hown
        have hcan := run_can v s.2.1 s.2.2 true
        go_wp2
        go_roundw
        case rel => exact ⟨k + 1, by omega, by go_num, ⟨s, HS1.out⟩, HR1.out, HK1.out⟩
        case measure => simp [intOf]; omega
    · have he : k = t.size := by omega
      have hl' : ¬ (k : Int) < (t.size : Int) := by omega
      have HE := Lib.hid he
      clear he hl
      go_wp2_with fail
      refine (says_is t hm k hk _).mono ?_
      rintro e w1 ⟨g1, ⟨hn, rfl⟩ | ⟨⟨S, rows, row⟩, v, hs, rfl, hown⟩⟩
      · obtain ⟨s, hs⟩ := HS.out
        rw [hs] at hn
        cases hn
      · have HI := Lib.hid (says_inv hs)
        have HA : Hid (says t.data.toList = some (S, rows, row)) := by
          have := hs
          rwa [HE.out, ← len_size, List.take_length] at this
        have HR1 := Lib.hid (g1.heap HR.out)
        have HK1 := Lib.hid (HK.out.trans g1)
        change OwnsI w1 _ v S at hown
        obtain ⟨a, cap, ev⟩ := OwnsI.slice hown
        subst ev
        have HO := Lib.hid hown
        clear hs g1 hown
        simp only [sx]
        by_cases h64 : S.length < 64
        · have h64' : (S.length : Int) < 64 := by omega
          have hk2 := Lib.hid ((Kept.refl w1).alloc (.cells (sx (.slice a S.length cap) rows row true) 37))
          have HR2 := Lib.hid (hk2.out.heap HR1.out)
          have HK2 := Lib.hid (HK1.out.trans hk2.out)
          go_wp2_with (first | (refine wpList_zero_w (by rfl) rfl ?_) | (refine wpList_store_row rfl 25 _ _ rfl w.heap.size (cl Zb).toArray rfl rfl 25 _ HR2.out hz.out rfl (cl_one _) ?_))
          refine bodyPost_ret (v := .tuple #[.agg (cl Zb).toArray, .int .i64 k, .int .i64 1]) ?_ rfl ⟨Zb, k, 1, rfl, .inr ⟨_, HA.out, by rw [HE.out, len_size], .inl ⟨h64, rfl, rfl⟩⟩, HK2.out.setRow (by omega) _⟩
          exact (results_board_tmp2 (p := 2) (t := 3) (u := 4) rfl _ _ w.heap.size Zb Zb_brd.1 rfl (setRow_heap _ _ _ _ _ _ HR2.out)).trans rfl
        · have h64' : ¬ (S.length : Int) < 64 := by omega
          obtain ⟨g, ea, hgb, _⟩ := OwnsI.at_ HO.out 0 (by omega)
          subst ea
          obtain ⟨W, eW⟩ : ∃ W, W = (w1.alloc (.cells (sx (.slice (some ⟨g, 0, none⟩) S.length cap) rows row true) 37)).alloc (.cells (cl Zb).toArray 25) := ⟨_, rfl⟩
          have hk2 := Lib.hid (show Kept w1 W by rw [eW]; exact ((Kept.refl w1).alloc _).alloc _)
          have HR2 := Lib.hid (hk2.out.heap HR1.out)
          have HK2 := Lib.hid (HK1.out.trans hk2.out)
          have HX2 := Lib.hid (show W.heap[w1.heap.size]? = some (.cells (sx (.slice (some ⟨g, 0, none⟩) S.length cap) rows row true) 37 (0, 0)) by rw [eW]; exact heap_alloc2_old _ _ _)
          have HB2 := Lib.hid (show W.heap[w1.heap.size + 1]? = some (.cells (cl Zb).toArray 25 (0, 0)) by rw [eW]; exact heap_alloc2_new _ _ _)
          have HC2 : Hid (∀ j, j < S.length → W.cell? ⟨g, j, none⟩ = some (.int .i64 (S.getD j 0)) ∧ g < w1.heap.size) := by
            intro j hj
            obtain ⟨g', e', _, hc⟩ := OwnsI.at_ HO.out j hj
            cases e'
            have hg : g < w1.heap.size := by
              by_cases hi : g < w1.heap.size
              · exact hi
              · have e : w1.heap[g]? = none := by simp; omega
                simp [World.cell?, e] at hc
            exact ⟨(KeptB.of (g := g + 1) hk2.out).cell (by omega) hc, hg⟩
          have HW := Lib.hid eW
          have HSz := Lib.hid (show w.heap.size < w1.heap.size from lt_of_heap HR1.out)
          clear eW
          go_wp2_with (with_reducible refine wpList_new_b rfl rfl ?_)
          go_loopw [8] (fun t8 wz => ∃ i : Nat, i ≤ 64 ∧ t8 = .int .i64 i ∧ KeptB (w1.heap.size + 1) W wz ∧ wz.heap[w1.heap.size + 1]? = some (.cells (cl (layB S i)).toArray 25 (0, 0))) (fun t8 _ => 64 - (intOf t8).toNat)
          case atStart => exact ⟨0, by omega, rfl, by rw [HW.out]; exact KeptB.refl _ _, by rw [layB_zero]; have := HB2.out; rw [HW.out] at this; exact this⟩
          case round =>
            obtain ⟨i, hi, rfl, hkb, hbb⟩ := hrel
            have HKB := Lib.hid hkb
            have HBB := Lib.hid hbb
            clear hkb hbb
            by_cases hl : i < 64
            · have hil : (i : Int) < (S.length : Int) := by omega
              have hx := HKB.out.heap (by omega) HX2.out
              have x0 : wr.cell? ⟨w1.heap.size, 0, none⟩ = some (.slice (some ⟨g, 0, none⟩) S.length cap) := by rw [cell_of_row _ _ _ _ _ (0, 0) hx]; rfl
              have hgc := HC2.out i (by omega)
              have hxc := HKB.out.cell (by omega) hgc.1
              have hb6 := S_get S i HI.out.men
              have hwr := wrap8 _ hb6
              have hsw : 8 * (7 - (i : Int) / 8) + (i : Int) % 8 = ((sw i : Nat) : Int) := by unfold sw; omega
              have hsw64 : sw i < 64 := by unfold sw; omega
              have hbc := cell_cl (layB_length S i) HBB.out (sw i) hsw64
              have hbf := frozen_of_row _ (w1.heap.size + 1) (sw i) _ _ HBB.out
              have HBN := Lib.hid (heap_set_cl (k := sw i) (S.getD i 0) HBB.out)
              rw [← layB_succ S i hl] at HBN
              have HKN := Lib.hid (HKB.out.setCell (sw i) (.int .i8 (S.getD i 0)))
              generalize S.getD i 0 = y at *
              generalize (layB S i).getD (sw i) 0 = z at *
              clear hx hgc hb6
              go_wp2
              go_roundw
              case rel => exact ⟨i + 1, by omega, by go_num, HKN.out, HBN.out⟩
              case measure => simp [intOf]; omega
            · have e64 : i = 64 := by omega
              subst e64
              have HB3 : Hid (wr.heap[w1.heap.size + 1]? = some (.cells (cl (bd S)).toArray 25 (0, 0))) := by rw [← layB_all]; exact HBB.out
              have HR3 := Lib.hid (HKB.out.heap (show w.heap.size ≠ w1.heap.size + 1 by have := HSz.out; omega) HR2.out)
              have HK3 := Lib.hid (HKB.out.kept HK2.out (by have := HSz.out; omega))
              have hlen := Lib.hid (bd_length S)
              clear HBB HKB hl
              go_wp2_with (first | (refine wpList_load_w (by rfl) _ rfl _ rfl _ HB3.out (size_cl hlen.out) ?_) | (refine wpList_store_row rfl 25 _ _ rfl w.heap.size (cl (bd S)).toArray rfl rfl 25 _ HR3.out (by rw [size24, cl_size _ hlen.out]) (by rw [cl_size _ hlen.out]; rfl) (cl_one _) ?_))
              refine bodyPost_ret (v := .tuple #[.agg (cl (bd S)).toArray, .int .i64 k, .int .i64 0]) ?_ rfl ⟨bd S, k, 0, rfl, .inr ⟨_, HA.out, by rw [HE.out, len_size], .inr ⟨by show 64 ≤ S.length; omega, rfl, rfl⟩⟩, HK3.out.setRow (by omega) _⟩
              exact (results_board_tmp2 (p := 2) (t := 3) (u := 4) rfl _ _ w.heap.size _ hlen.out rfl (setRow_heap _ _ _ _ _ _ HR3.out)).trans rfl
end Go.Proofs.Ytkfjpecehighlaa
