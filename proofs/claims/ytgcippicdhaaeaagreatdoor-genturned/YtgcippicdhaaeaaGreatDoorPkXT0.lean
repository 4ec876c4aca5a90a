/- SqA · BoP · BoQ · PoJ · PoK · MvP · GeA · GeT · GeU: my texts, in their order. -/
import Derived.Test.YtgcippicdhaaeaaGreatDoorPkXFMTA0
import Derived.Test.YtgcippicdhaaeaaGreatDoorPkXFTA0
import Derived.Test.YtgcippicdhaaeaaGreatDoorPkXFTA1
import Derived.Test.YtgcippicdhaaeaaGreatDoorPkXFMT0
import Derived.Test.YtgcippicdhaaeaaGreatDoorPkXNFT0
import Derived.Test.YtgcippicdhaaeaaGreatDoorPkXFT0
import Derived.Test.YtgcippicdhaaeaaGreatDoorPkXMT0
import Derived.Test.YtgcippicdhaaeaaGreatDoorPkA
import Derived.Test.YtgcippicdhaaeaaGreatDoorPkB
import Derived.Test.YtgcippicdhaaeaaGreatDoorPkC
import Derived.Test.YtgcippicdhaaeaaGreatDoorPkD
import Derived.Test.YtgcippicdhaaeaaGreatDoorPkE
import Derived.Test.YtgcippicdhaaeaaGreatDoorPkF
import Derived.Test.YtgcippicdhaaeaaGreatDoorPkGa
import Derived.Test.YtgcippicdhaaeaaGreatDoorPkGb
import Derived.Test.YtgcippicdhaaeaaGreatDoorPkGc
import Derived.Test.YtgcippicdhaaeaaGreatDoorPkGd
import Derived.Test.YtgcippicdhaaeaaGreatDoorPkGe
import Derived.Test.YtgcippicdhaaeaaGreatDoorPkGf
import Derived.Test.YtgcippicdhaaeaaGreatDoorPkGg
import Derived.Test.YtgcippicdhaaeaaGreatDoorPkGw
import Derived.Test.YtgcippicdhaaeaaGreatDoorPkH
import Derived.Test.YtgcippicdhaaeaaGreatDoorPkI
import Derived.Test.YtgcippicdhaaeaaGreatDoorPkJ
import Derived.Test.YtgcippicdhaaeaaGreatDoorPkK
import Derived.Test.YtgcippicdhaaeaaGreatDoorPkL
import Derived.Test.YtgcippicdhaaeaaGreatDoorPkM
import Derived.Test.YtgcippicdhaaeaaGreatDoorPkR
import Derived.Test.YtgcippicdhaaeaaGreatDoorPkU
namespace Go.Proofs.YtgcippicdhaaeaaGreatDoor
open Go.RowKit
set_option linter.unusedVariables false

theorem flip_yes (s : Int) (w : World) (h0 : 0 ≤ s) (h1 : s < 64) :
    Calls Tryz.prog 39 #[.int .i64 s] w fun e w' => e = .returned (.int .i64 ((7 - s / 8) * 8 + s % 8)) ∧ w = w' := by
  go_enter Tryz.func39, Tryz.ntmps39
  go_wp2_with (first | (go_at_call 41; refine (right_yes _ _ (by omega) (by omega)).mono ?_; rintro e w' ⟨rfl, rfl⟩) | (go_at_call 76; refine (file_yes _ _ (by omega) (by omega)).mono ?_; rintro e w' ⟨rfl, rfl⟩) | (go_at_call 70; refine (rank_yes _ _ (by omega) (by omega)).mono ?_; rintro e w' ⟨rfl, rfl⟩))
  go_ret
  exact ⟨rfl, rfl⟩
theorem flip_no (s : Int) (w : World) (h : s < 0 ∨ 64 ≤ s) :
    Calls Tryz.prog 39 #[.int .i64 s] w fun e w' => e = .returned (.int .i64 (-1)) ∧ w = w' := by
  go_enter Tryz.func39, Tryz.ntmps39
  go_wp2_with (go_at_call 41; refine (right_no _ _ h).mono ?_; rintro e w' ⟨rfl, rfl⟩)
  go_ret
  exact ⟨rfl, rfl⟩
end Go.Proofs.YtgcippicdhaaeaaGreatDoor
namespace Go.Proofs.YtgcippicdhaaeaaGreatDoor
open Go.RowKit
set_option linter.unusedVariables false
set_option linter.unusedSimpArgs false
set_option maxRecDepth 100000

theorem tk_zero (B : List Int) : tab (tk B 0) = Zb := by
  refine Eq.trans (tab_ext (g := fun i => Zb.getD i 0) fun i hi => ?_) (tab_of Zb Zb_brd.1)
  have : Zb.getD i 0 = 0 := by unfold Zb; rw [List.getD, List.getElem?_replicate]; split <;> rfl
  rw [this]; unfold tk; rw [if_neg (by omega)]
theorem tk_set {B : List Int} {k : Nat} (hk : k < 64) : (tab (tk B k)).set (flipN k) (negI (B.getD k 0)) = tab (tk B (k + 1)) := by
  rw [tab_set]
  refine tab_ext fun i hi => ?_
  unfold tk
  by_cases e : i = flipN k
  · subst e
    rw [if_pos rfl, flipN_flip hk, if_pos (by omega)]
  · have e' : flipN i ≠ k := fun h => e (by rw [← h, flipN_flip hi])
    rw [if_neg e]
    by_cases l : flipN i < k
    · rw [if_pos l, if_pos (by omega)]
    · rw [if_neg l, if_neg (by omega)]
theorem tk_end (B : List Int) (k : Nat) (h : ¬ k < 64) : tab (tk B k) = turnL B :=
  tab_ext fun i hi => by have := flipN_lt hi; unfold tk; rw [if_pos (by omega)]
end Go.Proofs.YtgcippicdhaaeaaGreatDoor
namespace Go.Proofs.YtgcippicdhaaeaaGreatDoor
open Go.RowKit
set_option linter.unusedVariables false
set_option linter.unusedSimpArgs false
set_option maxRecDepth 100000

theorem flip_n (k : Nat) (hk : k < 64) (w : World) :
    Calls Tryz.prog 39 #[.int .i64 k] w fun e w' => e = .returned (.int .i64 (flipN k : Nat)) ∧ w = w' := by
  have := flip_yes (k : Int) w (by omega) (by omega)
  rwa [← flipN_int hk] at this
theorem heap3 (w : World) (A B C : Obj) : (((w.alloc A).alloc B).alloc C).heap[w.heap.size]? = some A ∧ (((w.alloc A).alloc B).alloc C).heap[w.heap.size + 1]? = some B ∧ (((w.alloc A).alloc B).alloc C).heap[w.heap.size + 2]? = some C := by
  have e1 : (w.alloc A).heap.size = w.heap.size + 1 := by simp
  have e2 : ((w.alloc A).alloc B).heap.size = w.heap.size + 2 := by simp
  refine ⟨?_, ?_, ?_⟩
  · rw [Below.heap_alloc _ C _ (by omega)]; exact heap_alloc2_old w A B
  · rw [Below.heap_alloc _ C _ (by omega)]; exact heap_alloc2_new w A B
  · rw [← e2]; exact heap_alloc_new _ C
theorem turned_is (B : List Int) (hB : Brd B) (w : World) :
    Calls Tryz.prog 38 #[.agg (cl B).toArray] w (RetB w (turnL B)) := by
  obtain ⟨i0, i1, i2⟩ := heap3 w (.cells (cl B).toArray 24) (.cells (cl Zb).toArray 24) (.cells (cl Zb).toArray 24)
  have h00 := Lib.hid i0
  have h01 := Lib.hid i1
  have h02 := Lib.hid i2
  have H := Lib.hid hB
  have hz := Lib.hid (size_cl hB.1)
  clear hB i0 i1 i2
  go_enter Tryz.func38, Tryz.ntmps38
  go_wp2_with (first | (with_reducible refine wpList_new_b rfl rfl ?_) | (with_reducible refine wpList_load_row rfl 24 _ rfl _ rfl _ _ _ _ h00.out Tryz.underlying24 rfl hz.out ?_))
  go_loopw [7] (fun i wr => ∃ k : Nat, k ≤ 64 ∧ i = .int .i64 k ∧ Hid (wr.heap[w.heap.size + 2]? = some (.cells (cl (tab (tk B k))).toArray 24 (0, 0))) ∧ Hid (wr.heap[w.heap.size + 1]? = some (.cells (cl Zb).toArray 24 (0, 0))) ∧ Kept w wr) (fun i _ => 64 - (intOf i).toNat)
  case atStart => exact ⟨0, by omega, rfl, by rw [tk_zero]; exact h02, h01, (((Kept.refl _).alloc _).alloc _).alloc _⟩
  case round =>
    obtain ⟨k, hk, rfl, g0, g1, hK⟩ := hrel
    by_cases hlt : k < 64
    · have hx := run_index_cl B H.out.1 k hlt
      obtain ⟨hb1, hb2⟩ := H.out.2 k hlt
      obtain ⟨x, ex⟩ : ∃ x, x = B.getD k 0 := ⟨_, rfl⟩
      rw [← ex] at hx hb1 hb2
      have hj := flipN_lt hlt
      have hcall := Lib.hid (flip_n k hlt)
      obtain ⟨j, ej⟩ : ∃ j, j = flipN k := ⟨_, rfl⟩
      rw [← ej] at hj hcall
      have hset : Hid ((tab (tk B k)).set j (negI x) = tab (tk B (k + 1))) := by rw [ex, ej]; exact tk_set hlt
      clear ex ej
      have hc := cell_cl (tab_length _) g0.out j hj
      have hf := frozen_of_row wr (w.heap.size + 2) j _ _ g0.out
      have hg : Hid _ := heap_set_cl (k := j) (negI x) g0.out
      have hg' : Hid _ := (heap_setCell_other wr ⟨w.heap.size + 2, j, none⟩ (w.heap.size + 1) (.int .i8 (negI x)) (by simp)).trans g1.out
      have hK' := hK.setCell (p := ⟨w.heap.size + 2, j, none⟩) (by show w.heap.size ≤ w.heap.size + 2; omega) (.int .i8 (negI x))
      have hneg : IntKind.i8.wrap (-x) = negI x := rfl
      generalize (tab (tk B k)).getD j 0 = y at hc
      go_wp2_with fail
      refine (hcall.out _).mono ?_
      rintro e w' ⟨rfl, rfl⟩
      go_wp2
      go_roundw
      case rel => exact ⟨k + 1, by omega, by go_num, by rw [← hset.out]; exact hg, hg', hK'⟩
      case measure => simp [intOf]; omega
    · have hz' := Lib.hid (size_cl (tab_length (tk B k)))
      go_wp2_with (first
        | (with_reducible refine wpList_load_row rfl 24 _ rfl _ rfl _ _ _ _ g0.out Tryz.underlying24 rfl hz'.out ?_)
        | (refine wpList_store_row rfl 24 _ _ rfl (w.heap.size + 1) (cl (tab (tk B k))).toArray rfl rfl 24 _ g1.out hz'.out (by rw [cl_size _ Zb_brd.1, cl_size _ (tab_length _)]) (cl_one _) ?_))
      refine bodyPost_ret (v := .agg (cl (tab (tk B k))).toArray) ?_ rfl ⟨?_, ?_⟩
      · exact results_cell_row rfl _ _ (w.heap.size + 1) 24 _ (0, 0) _ rfl (setRow_heap _ _ _ _ _ _ g1.out) Tryz.underlying24 rfl hz'.out
      · rw [tk_end _ _ hlt]
      · exact hK.setRow (by omega) _
end Go.Proofs.YtgcippicdhaaeaaGreatDoor
namespace Go.Proofs.YtgcippicdhaaeaaGreatDoor
open Go.RowKit
set_option linter.unusedVariables false
set_option maxRecDepth 100000
set_option linter.unusedSimpArgs false

theorem turnP_turn {p : Ps} (hB : Brd p.B) (h : pwI p = 0) : turnP (turnP p) = p := by
  obtain ⟨a0, a1, a2, a3, a4⟩ := right_pos h
  obtain ⟨ht, ⟨c0, c1⟩, e0, e1⟩ := (within_iff p).1 a1
  have o1 : otherI p.t = 1 - p.t := by unfold otherI; split <;> first | omega | (split <;> omega)
  have o2 : otherI (1 - p.t) = p.t := by unfold otherI; split <;> first | omega | (split <;> omega)
  obtain ⟨B, t, c, e⟩ := p
  unfold turnP
  dsimp only at *
  rw [turn_turn hB, o1, o2, (ex_at c0 c1).2.2.1]
  congr 1
  by_cases he : 0 ≤ e
  · exact (flI_on he (by omega)).2.2.2.2.1
  · have : e = -1 := by omega
    subst this; rfl
end Go.Proofs.YtgcippicdhaaeaaGreatDoor
namespace Go.Proofs.YtgcippicdhaaeaaGreatDoor
open Go.RowKit
set_option linter.unusedVariables false
set_option maxRecDepth 100000
set_option linter.unusedSimpArgs false

theorem flip_any (s : Int) (w : World) : Calls Tryz.prog 39 #[.int .i64 s] w fun e w' => e = .returned (.int .i64 (flI s)) ∧ Kept w w' := by
  unfold flI
  by_cases h : 0 ≤ s ∧ s < 64
  · rw [if_pos h]; exact (flip_yes s w h.1 h.2).mono fun _ _ ⟨a, b⟩ => ⟨a, b ▸ Kept.refl _⟩
  · rw [if_neg h]; exact (flip_no s w (by omega)).mono fun _ _ ⟨a, b⟩ => ⟨a, b ▸ Kept.refl _⟩
theorem ex_bits_all : ∀ c : Fin 16, bits .or .i64 (IntKind.i64.wrap (bits .and .i64 ((c : Nat) : Int) 3 * 4)) (bits .and .i64 ((c : Nat) : Int) 12 / 4) = exI ((c : Nat) : Int) := by decide +kernel
theorem ex_bits {c : Int} (h0 : 0 ≤ c) (h1 : c ≤ 15) : bits .or .i64 (IntKind.i64.wrap (bits .and .i64 c 3 * 4)) (bits .and .i64 c 12 / 4) = exI c := by
  have := ex_bits_all ⟨c.toNat, by omega⟩
  simp only [show ((c.toNat : Nat) : Int) = c by omega] at this
  exact this
set_option maxRecDepth 100000 in
set_option maxHeartbeats 2000000 in
theorem pturned_is (p : Ps) (hB : Brd p.B) (h0 : 0 ≤ p.c) (h1 : p.c ≤ 15) (w : World) : Calls Tryz.prog 18 #[.agg (pl p).toArray] w (RetP w (turnP p)) := by
  have HP : Hid (PAt _ _ p) := ⟨hB.1, heap_alloc2_old w (.cells (pl p).toArray 26) (.cells (pl Zp).toArray 26)⟩
  have HR : Hid (PAt _ _ Zp) := ⟨Zp_len, heap_alloc2_new w (.cells (pl p).toArray 26) (.cells (pl Zp).toArray 26)⟩
  have HK := Lib.hid (((Kept.refl w).alloc (.cells (pl p).toArray 26)).alloc (.cells (pl Zp).toArray 26))
  have hpl : Hid (p.B.length = 64) := hB.1
  have htl : Hid ((turnP p).B.length = 64) := tab_length _
  have HC1 := Lib.hid (turned_is p.B hB)
  have HC2 := Lib.hid (other_any p.t)
  have HC3 := Lib.hid (flip_any p.e)
  have hex := ex_bits h0 h1
  clear hB h0 h1
  go_enter Tryz.func18, Tryz.ntmps18
  go_wp2_with (with_reducible refine wpList_new_p rfl rfl ?_)
  generalize (w.alloc (.cells (pl p).toArray 26)).alloc (.cells (pl Zp).toArray 26) = W at *
  have hne : w.heap.size ≠ w.heap.size + 1 := by omega
  refine wp_region_held_drew (S := KB (W) (w.heap.size + 1)) (by kernel_rfl) ((KB.refl _ _).kept (Kept.refl _).drew) (fun hHeld => ?_)
  have hKp := (Kept.refl (W)).drew
  refine rg_take (i := 0) (v := (.pointer (some ⟨w.heap.size, 0, none⟩))) (some 3) rfl rfl (by kernel_rfl) (by kernel_rfl) (by kernel_rfl) (fun _ _ _ h => h) (Or.inl ⟨by rfl, fun _ _ => by go_simp⟩) hHeld ?_
  simp only [Act.put, List.setIfInBounds_toArray, List.set_cons_zero, List.set_cons_succ]
  refine rg_take (i := 1) (some 4) rfl rfl (by kernel_rfl) (by kernel_rfl) (by kernel_rfl) (fun _ _ _ h => h) (take_load_pb (by rfl) _ rfl _ rfl p hpl.out (fun _ h => (HP.out).kb h (hne))) hHeld ?_
  simp only [Act.put, List.setIfInBounds_toArray, List.set_cons_zero, List.set_cons_succ]
  refine rg_take (i := 3) (v := (.pointer (some ⟨w.heap.size, 64, none⟩))) (some 6) rfl rfl (by kernel_rfl) (by kernel_rfl) (by kernel_rfl) (fun _ _ _ h => h) (Or.inl ⟨by rfl, fun _ _ => by go_simp⟩) hHeld ?_
  simp only [Act.put, List.setIfInBounds_toArray, List.set_cons_zero, List.set_cons_succ]
  refine rg_take (i := 4) (v := (.int .i64 p.t)) (some 7) rfl rfl (by kernel_rfl) (by kernel_rfl) (by kernel_rfl) (fun _ _ _ h => h) (Or.inl ⟨by rfl, fun w' h => by have h' := KB.cell h (hne) (HP.out.turn); go_simp⟩) hHeld ?_
  simp only [Act.put, List.setIfInBounds_toArray, List.set_cons_zero, List.set_cons_succ]
  refine rg_take (i := 6) (v := (.pointer (some ⟨w.heap.size, 65, none⟩))) (some 9) rfl rfl (by kernel_rfl) (by kernel_rfl) (by kernel_rfl) (fun _ _ _ h => h) (Or.inl ⟨by rfl, fun _ _ => by go_simp⟩) hHeld ?_
  simp only [Act.put, List.setIfInBounds_toArray, List.set_cons_zero, List.set_cons_succ]
  refine rg_take (i := 7) (v := (.int .i64 p.c)) (some 10) rfl rfl (by kernel_rfl) (by kernel_rfl) (by kernel_rfl) (fun _ _ _ h => h) (Or.inl ⟨by rfl, fun w' h => by have h' := KB.cell h (hne) (HP.out.cas); go_simp⟩) hHeld ?_
  simp only [Act.put, List.setIfInBounds_toArray, List.set_cons_zero, List.set_cons_succ]
  refine rg_take (i := 8) (v := (.int .i64 (bits .and .i64 p.c 3))) (some 11) rfl rfl (by kernel_rfl) (by kernel_rfl) (by kernel_rfl) (fun _ _ _ h => h) (Or.inl ⟨by rfl, fun _ _ => by go_simp⟩) hHeld ?_
  simp only [Act.put, List.setIfInBounds_toArray, List.set_cons_zero, List.set_cons_succ]
  refine rg_take (i := 9) (v := (.int .i64 (IntKind.i64.wrap (bits .and .i64 p.c 3 * 4)))) (some 12) rfl rfl (by kernel_rfl) (by kernel_rfl) (by kernel_rfl) (fun _ _ _ h => h) (Or.inl ⟨by rfl, fun _ _ => by go_simp⟩) hHeld ?_
  simp only [Act.put, List.setIfInBounds_toArray, List.set_cons_zero, List.set_cons_succ]
  refine rg_take (i := 10) (v := (.pointer (some ⟨w.heap.size, 65, none⟩))) (some 13) rfl rfl (by kernel_rfl) (by kernel_rfl) (by kernel_rfl) (fun _ _ _ h => h) (Or.inl ⟨by rfl, fun _ _ => by go_simp⟩) hHeld ?_
  simp only [Act.put, List.setIfInBounds_toArray, List.set_cons_zero, List.set_cons_succ]
  refine rg_take (i := 11) (v := (.int .i64 p.c)) (some 14) rfl rfl (by kernel_rfl) (by kernel_rfl) (by kernel_rfl) (fun _ _ _ h => h) (Or.inl ⟨by rfl, fun w' h => by have h' := KB.cell h (hne) (HP.out.cas); go_simp⟩) hHeld ?_
  simp only [Act.put, List.setIfInBounds_toArray, List.set_cons_zero, List.set_cons_succ]
  refine rg_take (i := 12) (v := (.int .i64 (bits .and .i64 p.c 12))) (some 15) rfl rfl (by kernel_rfl) (by kernel_rfl) (by kernel_rfl) (fun _ _ _ h => h) (Or.inl ⟨by rfl, fun _ _ => by go_simp⟩) hHeld ?_
  simp only [Act.put, List.setIfInBounds_toArray, List.set_cons_zero, List.set_cons_succ]
  refine rg_take (i := 13) (v := (.int .i64 (bits .and .i64 p.c 12 / 4))) (some 16) rfl rfl (by kernel_rfl) (by kernel_rfl) (by kernel_rfl) (fun _ _ _ h => h) (Or.inl ⟨by rfl, fun _ _ => by go_simp⟩) hHeld ?_
  simp only [Act.put, List.setIfInBounds_toArray, List.set_cons_zero, List.set_cons_succ]
  refine rg_take (i := 14) (v := (.int .i64 (exI p.c))) (some 17) rfl rfl (by kernel_rfl) (by kernel_rfl) (by kernel_rfl) (fun _ _ _ h => h) (Or.inl ⟨by rfl, fun _ _ => by go_simp⟩) hHeld ?_
  simp only [Act.put, List.setIfInBounds_toArray, List.set_cons_zero, List.set_cons_succ]
  refine rg_take (i := 15) (v := (.pointer (some ⟨w.heap.size, 66, none⟩))) (some 18) rfl rfl (by kernel_rfl) (by kernel_rfl) (by kernel_rfl) (fun _ _ _ h => h) (Or.inl ⟨by rfl, fun _ _ => by go_simp⟩) hHeld ?_
  simp only [Act.put, List.setIfInBounds_toArray, List.set_cons_zero, List.set_cons_succ]
  refine rg_take (i := 16) (v := (.int .i64 p.e)) (some 19) rfl rfl (by kernel_rfl) (by kernel_rfl) (by kernel_rfl) (fun _ _ _ h => h) (Or.inl ⟨by rfl, fun w' h => by have h' := KB.cell h (hne) (HP.out.ep); go_simp⟩) hHeld ?_
  simp only [Act.put, List.setIfInBounds_toArray, List.set_cons_zero, List.set_cons_succ]
  refine wpAnyH_ready (rs := [2]) (by kernel_rfl) (by simp) ?_
  refine AllReadyH.cons rfl (fun K hK => ?_) AllReadyH.nil
  go_simp
  refine (HC1.out _).mono ?_
  rintro e x1 ⟨rfl, gx1⟩
  refine hK.out _ _ (hHeld.kept gx1) (fun _ => ?_)
  replace hHeld := hHeld.kept gx1
  replace hKp := hKp.trans gx1
  clear hK K
  refine wpAnyH_ready (rs := [5]) (by kernel_rfl) (by simp) ?_
  refine AllReadyH.cons rfl (fun K hK => ?_) AllReadyH.nil
  go_simp
  refine (HC2.out _).mono ?_
  rintro e x2 ⟨rfl, gx2⟩
  refine hK.out _ _ (hHeld.kept gx2) (fun _ => ?_)
  replace hHeld := hHeld.kept gx2
  replace hKp := hKp.trans gx2
  clear hK K
  refine wpAnyH_ready (rs := [17]) (by kernel_rfl) (by simp) ?_
  refine AllReadyH.cons rfl (fun K hK => ?_) AllReadyH.nil
  go_simp
  refine (HC3.out _).mono ?_
  rintro e x3 ⟨rfl, gx3⟩
  refine hK.out _ _ (hHeld.kept gx3) (fun _ => ?_)
  replace hHeld := hHeld.kept gx3
  replace hKp := hKp.trans gx3
  clear hK K
  refine rg_take (i := 18) (some 21) rfl rfl (by kernel_rfl) (by kernel_rfl) (by kernel_rfl) (fun _ _ _ h => h) (take_build_p4 (by rfl) _ _ _ _ rfl (turnL p.B) (otherI p.t) (exI p.c) (flI p.e) htl.out rfl rfl rfl rfl) hHeld ?_
  simp only [Act.put, List.setIfInBounds_toArray, List.set_cons_zero, List.set_cons_succ]
  refine wpAnyH_ready (rs := [19]) (by kernel_rfl) (by simp) ?_
  refine AllReadyH.cons rfl (fun K hK => ?_) AllReadyH.nil
  rw [if_pos (by rfl)]
  have HR3 := Lib.hid (HR.out.kept hKp)
  refine wp_store_row 26 _ _ rfl (w.heap.size + 1) (pl (turnP p)).toArray rfl rfl 26 _ HR3.out.at_ (size_pl htl.out) (by rw [pl_size Zp_len, pl_size htl.out]) (pl_one _) ?_
  refine hK.out _ _ (KB.row hHeld _) (fun _ => ?_)
  clear hK K
  refine wpAnyH_done (by kernel_rfl) ?_ _
  go_wp2
  refine bodyPost_ret (v := .agg (pl (turnP p)).toArray) ?_ rfl ⟨rfl, (HK.out.trans hKp).setRow (by omega) _⟩
  exact results_p rfl _ rfl (HR3.out.setRow htl.out)
end Go.Proofs.YtgcippicdhaaeaaGreatDoor
namespace Go.Proofs.YtgcippicdhaaeaaGreatDoor
open Go.RowKit
set_option linter.unusedVariables false
set_option linter.unusedSimpArgs false
set_option maxRecDepth 100000

def swK (k : Nat) : Nat := [2, 3, 0, 1].getD k 4
theorem flN_lt {k : Nat} (h : k < 64) : flipN k < 64 := flipN_lt h
theorem turn_len64 (B : List Int) : (turnL B).length = 64 := tab_length _
/-- What is taken. -/
theorem pass_val {q : Ps} (h : 0 ≤ passI q) : (q.t = 0 ∧ 40 ≤ q.e ∧ q.e < 48 ∧ passI q = q.e - 8) ∨ (q.t = 1 ∧ 16 ≤ q.e ∧ q.e < 24 ∧ passI q = q.e + 8) := by
  unfold passI at h ⊢
  split at h
  · next hc => left; rw [if_pos hc]; exact ⟨hc.1, hc.2.1, hc.2.2.1, rfl⟩
  · next hn =>
    split at h
    · next hc => right; rw [if_neg hn, if_pos hc]; exact ⟨hc.1, hc.2.1, hc.2.2.1, rfl⟩
    · omega
theorem pass_turnI {p : Ps} (hB : Brd p.B) (hr : pwI p = 0) (h : 0 ≤ passI p) : passI (turnP p) = flI (passI p) := by
  obtain ⟨a0, a1, _⟩ := right_pos hr
  obtain ⟨ht, _, _⟩ := (within_iff p).1 a1
  obtain ⟨hrb, _⟩ := king_one a0
  have h2 := pass_turn hB hrb ht h
  have et := turnP_t ht
  have ee : (turnP p).e = flI p.e := rfl
  rcases pass_val h with ⟨b1, b2, b3, b4⟩ | ⟨b1, b2, b3, b4⟩
  · rcases pass_val h2 with ⟨d1, d2, d3, d4⟩ | ⟨d1, d2, d3, d4⟩
    · omega
    · rw [d4, ee, b4]
      obtain ⟨_, _, _, _, _, g5⟩ := flI_on (s := p.e) (by omega) (by omega)
      obtain ⟨_, _, _, _, _, k5⟩ := flI_on (s := p.e - 8) (by omega) (by omega)
      omega
  · rcases pass_val h2 with ⟨d1, d2, d3, d4⟩ | ⟨d1, d2, d3, d4⟩
    · rw [d4, ee, b4]
      obtain ⟨_, _, _, _, _, g5⟩ := flI_on (s := p.e) (by omega) (by omega)
      obtain ⟨_, _, _, _, _, k5⟩ := flI_on (s := p.e + 8) (by omega) (by omega)
      omega
    · omega
theorem Fm.right_e {p : Ps} {m : Mv} {f t : Nat} (h : Fm p m f t) : -1 ≤ p.e ∧ p.e ≤ 63 := (right_t h.right).2.2
theorem bAt_f {p : Ps} {m : Mv} {f t : Nat} (h : Fm p m f t) : bAt p.B m.f = p.B.getD f 0 := by unfold bAt; rw [h.hf, Int.toNat_natCast]
theorem bAt_t {p : Ps} {m : Mv} {f t : Nat} (h : Fm p m f t) : bAt p.B m.t = p.B.getD t 0 := by unfold bAt; rw [h.ht, Int.toNat_natCast]
theorem sq_turn {p : Ps} (ok : OkL p.B) {k : Nat} (hk : k < 64) : (turnP p).B.getD (flipN k) 0 = - p.B.getD k 0 := by
  show (turnL p.B).getD (flipN k) 0 = _
  rw [ok.turn (flipN_lt hk), flipN_flip hk]
theorem pawn_turn {p : Ps} {m : Mv} {f t : Nat} (h : Fm p m f t) : pawnB (turnP p) (turnM m) = pawnB p m := by
  unfold pawnB
  rw [bAt_f h.turn, bAt_f h, sq_turn h.okL h.f1, kind_mi]
theorem file_turn {p : Ps} {m : Mv} {f t : Nat} (h : Fm p m f t) : (turnM m).f % 8 = m.f % 8 ∧ (turnM m).t % 8 = m.t % 8 := by
  have h1 := h.turn.hf
  have h2 := h.turn.ht
  have := flipN_div h.f1
  have := flipN_div h.t1
  have := h.hf
  have := h.ht
  omega
theorem ep_turn {p : Ps} {m : Mv} {f t : Nat} (h : Fm p m f t) : epTake (turnP p) (turnM m) = epTake p m := by
  unfold epTake
  have he : ((turnM m).t == (turnP p).e) = (m.t == p.e) := by
    rw [Bool.eq_iff_iff, beq_iff_eq, beq_iff_eq]
    show flI m.t = flI p.e ↔ _
    have hb := h.right_e
    have h2 := h.ht
    have h3 := h.t1
    obtain ⟨_, _, _, _, g4, _⟩ := flI_on (s := m.t) (by omega) (by omega)
    constructor
    · intro e
      by_cases hn : 0 ≤ p.e
      · obtain ⟨_, _, _, _, k4, _⟩ := flI_on (s := p.e) hn (by omega)
        rw [← g4, e, k4]
      · have : flI p.e = -1 := by unfold flI; rw [if_neg (by omega)]
        obtain ⟨g0, _⟩ := flI_on (s := m.t) (by omega) (by omega)
        omega
    · intro e; rw [e]
  rw [pawn_turn h, he, (file_turn h).1, (file_turn h).2]
theorem take_turn {p : Ps} {m : Mv} {f t : Nat} (h : Fm p m f t) : takeI (turnP p) (turnM m) = (if 0 ≤ takeI p m then flI (takeI p m) else -1) := by
  have e1 : bAt (turnP p).B (turnM m).t = - bAt p.B m.t := by rw [bAt_t h.turn, bAt_t h, sq_turn h.okL h.t1]
  by_cases h0 : bAt p.B m.t = 0
  · have a : takeI p m = (if epTake p m then passI p else -1) := by unfold takeI; rw [if_neg (by simpa using h0)]
    have b : takeI (turnP p) (turnM m) = (if epTake p m then passI (turnP p) else -1) := by unfold takeI; rw [if_neg (by rw [e1, h0]; decide), ep_turn h]
    rw [a, b]
    cases he : epTake p m
    · rfl
    · simp only [if_true]
      have hee : m.t = p.e := by unfold epTake at he; simp only [Bool.and_eq_true, beq_iff_eq] at he; exact he.1.2
      have hp : 0 ≤ passI p := by
        have := (right_pos h.right).2.2.2.2
        unfold epB passB at this
        rw [Bool.or_eq_true, decide_eq_true_eq, beq_iff_eq] at this
        rcases this with x | x
        · exact x
        · have := h.ht; omega
      rw [if_pos hp]
      exact pass_turnI h.brd h.right hp
  · have a : takeI p m = m.t := by unfold takeI; rw [if_pos h0]
    have b : takeI (turnP p) (turnM m) = (turnM m).t := by unfold takeI; rw [if_pos (by rw [e1]; omega)]
    rw [a, b, if_pos (by have := h.ht; omega)]
    rfl
/-- Castling. -/
theorem free_turn_all : ∀ k : Fin 4, swK k < 4 ∧ hKg (swK k) = flipN (hKg k) ∧ hRk (swK k) = flipN (hRk k) ∧ wTo (swK k) = flipN (wTo k) ∧ swK (swK k) = k := by decide +kernel
theorem sw_at {k : Nat} (hk : k < 4) : swK k < 4 ∧ hKg (swK k) = flipN (hKg k) ∧ hRk (swK k) = flipN (hRk k) ∧ wTo (swK k) = flipN (wTo k) ∧ swK (swK k) = k := free_turn_all ⟨k, hk⟩
theorem btw_turn_all : ∀ k : Fin 4, ∀ s : Fin 64, (wLo (swK k) ≤ flipN s ∧ flipN s < wHi (swK k)) ↔ (wLo k ≤ s ∧ (s : Nat) < wHi k) := by decide +kernel
theorem free_turn {p : Ps} (ok : OkL p.B) {k : Nat} (hk : k < 4) : freeB (turnP p).B (swK k) = freeB p.B k := by
  rw [Bool.eq_iff_iff, free_iff, free_iff]
  constructor
  · intro h s hs h1 h2
    have hb := (btw_turn_all ⟨k, hk⟩ ⟨s, hs⟩).2 ⟨h1, h2⟩
    have := h (flipN s) (flipN_lt hs) hb.1 hb.2
    rw [sq_turn ok hs] at this
    omega
  · intro h s hs h1 h2
    have hb := (btw_turn_all ⟨k, hk⟩ ⟨flipN s, flipN_lt hs⟩).1 ⟨by simp only [flipN_flip hs]; exact h1, by simp only [flipN_flip hs]; exact h2⟩
    have := h (flipN s) (flipN_lt hs) hb.1 hb.2
    have q := sq_turn ok (flipN_lt hs)
    rw [flipN_flip hs, this] at q
    simpa using q
theorem castB_turn {p : Ps} {m : Mv} {f t : Nat} (h : Fm p m f t) {k : Nat} (hk : k < 4) : castB (turnP p) (turnM m) (swK k) = castB p m k := by
  obtain ⟨s1, s2, s3, s4, s5⟩ := sw_at hk
  obtain ⟨_, ⟨c0, c1⟩, _⟩ := right_t h.right
  obtain ⟨_, _, _, r1, r2, r4, r8⟩ := ex_at c0 c1
  unfold castB
  have hr : rgtB (turnP p).c (hR (swK k)) = rgtB p.c (hR k) := by
    show rgtB (exI p.c) _ = _
    have : k = 0 ∨ k = 1 ∨ k = 2 ∨ k = 3 := by omega
    rcases this with rfl | rfl | rfl | rfl
    · exact r4
    · exact r8
    · exact r1
    · exact r2
  have hf : ((turnM m).f == ((hKg (swK k) : Nat) : Int)) = (m.f == ((hKg k : Nat) : Int)) := by
    rw [Bool.eq_iff_iff, beq_iff_eq, beq_iff_eq, h.turn.hf, h.hf, s2]
    have a := flipN_flip h.f1
    have b := flipN_flip (hKg_lt k)
    constructor
    · intro e
      have e' : flipN f = flipN (hKg k) := by omega
      rw [e'] at a
      omega
    · intro e
      have e' : f = hKg k := by omega
      rw [e']
  have ht : ((turnM m).t == ((wTo (swK k) : Nat) : Int)) = (m.t == ((wTo k : Nat) : Int)) := by
    rw [Bool.eq_iff_iff, beq_iff_eq, beq_iff_eq, h.turn.ht, h.ht, s4]
    have a := flipN_flip h.t1
    have b := flipN_flip (wTo_lt k)
    constructor
    · intro e
      have e' : flipN t = flipN (wTo k) := by omega
      rw [e'] at a
      omega
    · intro e
      have e' : t = wTo k := by omega
      rw [e']
  rw [hr, hf, ht, free_turn h.okL hk]
theorem cast_uniq {p : Ps} {m : Mv} {j k : Nat} (hj : j < 4) (hk : k < 4) (h1 : castB p m j = true) (h2 : castB p m k = true) : j = k := by
  unfold castB at h1 h2
  simp only [Bool.and_eq_true, beq_iff_eq] at h1 h2
  have e1 : wTo j = wTo k := by have := h1.1.2; have := h2.1.2; omega
  have : ∀ a b : Fin 4, wTo a = wTo b → a = b := by decide +kernel
  exact congrArg Fin.val (this ⟨j, hj⟩ ⟨k, hk⟩ e1)
theorem cast_some {p : Ps} {m : Mv} {k : Nat} (h : castB p m k = true) (hk : k < 4) : castN p m < 4 := by
  by_cases hc : castN p m < 4
  · exact hc
  · exfalso
    have hn : castN p m = 4 := by have := castN_le p m; omega
    unfold castN at hn
    have : k = 0 ∨ k = 1 ∨ k = 2 ∨ k = 3 := by omega
    rcases this with rfl | rfl | rfl | rfl
    · rw [if_pos h] at hn; omega
    · split at hn
      · omega
      · omega
    · split at hn
      · omega
      · split at hn
        · omega
        · omega
    · split at hn
      · omega
      · split at hn
        · omega
        · split at hn
          · omega
          · omega
theorem castN_turn {p : Ps} {m : Mv} {f t : Nat} (h : Fm p m f t) : castN (turnP p) (turnM m) = (if castN p m < 4 then swK (castN p m) else 4) := by
  by_cases hc : castN p m < 4
  · rw [if_pos hc]
    have hb := cast_is hc rfl
    rw [← castB_turn h hc] at hb
    have hs := (sw_at hc).1
    refine cast_at hs hb fun j hj => ?_
    rw [Bool.eq_false_iff]
    intro hx
    have := cast_uniq (by omega) hs hx hb
    omega
  · rw [if_neg hc]
    refine cast_none fun j hj => ?_
    obtain ⟨s1, _, _, _, s5⟩ := sw_at hj
    rw [← s5, castB_turn h s1, Bool.eq_false_iff]
    intro hx
    have := cast_some hx s1
    omega
end Go.Proofs.YtgcippicdhaaeaaGreatDoor
namespace Go.Proofs.YtgcippicdhaaeaaGreatDoor
open Go.RowKit
set_option linter.unusedVariables false
set_option linter.unusedSimpArgs false
set_option maxRecDepth 100000

theorem allN_sorted (p : Ps) (n : Nat) : (allN p n).Pairwise fun a b => lessB a b = true := by
  unfold allN
  rw [List.pairwise_flatMap]
  refine ⟨fun f _ => fromN_sorted p f, List.pairwise_lt_range.imp fun {a b} hab x hx y hy => ?_⟩
  have x1 := (mem_fromN.1 hx).1
  have y1 := (mem_fromN.1 hy).1
  exact (less_iff _ _).2 (.inl (by omega))
end Go.Proofs.YtgcippicdhaaeaaGreatDoor
namespace Go.Proofs.YtgcippicdhaaeaaGreatDoor
open Go.RowKit
set_option linter.unusedVariables false
set_option linter.unusedSimpArgs false
set_option maxRecDepth 100000

theorem turn_empty {p : Ps} (hB : Brd p.B) (hr : pwI p = 0) {x : Int} (h0 : 0 ≤ x) (h1 : x < 64) (h : bAt p.B x = 0) : bAt (turnP p).B (flI x) = 0 := by
  have := bAt_turn hB (king_one (right_pos hr).1).1 h0 h1
  show bAt (turnL p.B) (flI x) = 0
  rw [this, h]; rfl
theorem up_turn {t : Int} (h : t = 0 ∨ t = 1) : upI (1 - t) = - upI t ∧ secI (1 - t) = 7 - secI t := by rcases h with rfl | rfl <;> decide
theorem up_two {t : Int} : upI t = 8 ∨ upI t = -8 := by unfold upI; split <;> simp
theorem fl_up {x u : Int} (h0 : 0 ≤ x) (h1 : x < 64) (hu : u = 8 ∨ u = -8 ∨ u = 16 ∨ u = -16) (h2 : 0 ≤ x + u) (h3 : x + u < 64) : flI (x + u) = flI x + -u := by
  have a := (flI_on h0 h1).2.2.2.2.2
  have b := (flI_on h2 h3).2.2.2.2.2
  rw [a, b]
  rcases hu with rfl | rfl | rfl | rfl <;> omega
theorem goes_turn {p : Ps} {m : Mv} (hB : Brd p.B) (hr : pwI p = 0) (h : goesM p m = true) : goesM (turnP p) (turnM m) = true := by
  have hok : okM p m = true := by unfold okM; rw [hr, goes_form h]; rfl
  obtain ⟨f, t, F⟩ := form_of hB hok
  have FT := F.turn
  have hform := (okM_right FT.ok).2
  have hright := (king_one (right_pos hr).1).1
  have hpt := pawn_turn F
  have tt : (turnP p).t = 1 - p.t := turnP_t F.t01
  have f0 : (0 : Int) ≤ (f : Int) ∧ (f : Int) < 64 := by have := F.f1; omega
  have t0 : (0 : Int) ≤ (t : Int) ∧ (t : Int) < 64 := by have := F.t1; omega
  have ef : (turnM m).f = flI (f : Int) := by show flI m.f = _; rw [F.hf]
  have et : (turnM m).t = flI (t : Int) := by show flI m.t = _; rw [F.ht]
  cases hp : pawnB p m
  · have hpt' : pawnB (turnP p) (turnM m) = false := by rw [hpt, hp]
    unfold goesM at h ⊢
    rw [hform, hpt', Bool.true_and, if_neg (by decide), Bool.or_eq_true, decide_eq_true_eq]
    rw [goes_form (by unfold goesM; exact h), hp, Bool.true_and, if_neg (by decide), Bool.or_eq_true, decide_eq_true_eq] at h
    rcases h with h | h
    · left
      rw [hitB_iff] at h ⊢
      rw [ef, et]
      rw [F.hf, F.ht] at h
      exact strike_turn hB hright f0.1 f0.2 h
    · right
      rw [castN_turn F, if_pos h]
      exact (sw_at h).1
  · have hpt' : pawnB (turnP p) (turnM m) = true := by rw [hpt, hp]
    have hk : kindI (p.B.getD f 0) = 1 := by unfold pawnB bAt at hp; rw [F.hf, Int.toNat_natCast] at hp; exact beq_iff_eq.1 hp
    have P : Pw p f := ⟨hB, hr, F.f1, F.own, hk⟩
    have hrk := P.rank
    unfold goesM at h ⊢
    rw [hform, hpt', Bool.true_and, if_pos rfl]
    rw [goes_form (by unfold goesM; exact h), hp, Bool.true_and, if_pos rfl] at h
    unfold pgoB at h ⊢
    rw [F.hf, F.ht] at h
    rw [ef, et, tt, (up_turn F.t01).1, (up_turn F.t01).2]
    simp only [Bool.or_eq_true, Bool.and_eq_true, beq_iff_eq] at h ⊢
    rcases h with ⟨h1, h2⟩ | ⟨⟨⟨h1, h2⟩, h3⟩, h4⟩ | ⟨h1, h2⟩
    · left
      refine ⟨turn_empty hB hr t0.1 t0.2 h1, ?_⟩
      have := fl_up (u := upI p.t) f0.1 f0.2 (by rcases up_two (t := p.t) with e | e <;> simp [e]) (by omega) (by omega)
      rw [h2, this]
    · right; left
      rcases P.turn with ⟨q1, q2, q3, q4, q5⟩ | ⟨q1, q2, q3, q4, q5⟩
      · rw [q3] at h2 h4 ⊢
        rw [q4] at h3 ⊢
        have e1 := fl_up (u := 16) f0.1 f0.2 (by simp) (by omega) (by omega)
        have e2 := fl_up (u := 8) f0.1 f0.2 (by simp) (by omega) (by omega)
        refine ⟨⟨⟨turn_empty hB hr t0.1 t0.2 h1, ?_⟩, ?_⟩, ?_⟩
        · rw [h2, show (2 : Int) * 8 = 16 from rfl, e1]; rfl
        · have := (flI_on f0.1 f0.2).2.2.2.1; omega
        · rw [← e2]; exact turn_empty hB hr (by omega) (by omega) h4
      · rw [q3] at h2 h4 ⊢
        rw [q4] at h3 ⊢
        have e1 := fl_up (u := -16) f0.1 f0.2 (by simp) (by omega) (by omega)
        have e2 := fl_up (u := -8) f0.1 f0.2 (by simp) (by omega) (by omega)
        refine ⟨⟨⟨turn_empty hB hr t0.1 t0.2 h1, ?_⟩, ?_⟩, ?_⟩
        · rw [h2, show (2 : Int) * -8 = -16 from rfl, e1]; rfl
        · have := (flI_on f0.1 f0.2).2.2.2.1; omega
        · rw [← e2]; exact turn_empty hB hr (by omega) (by omega) h4
    · right; right
      refine ⟨?_, ?_⟩
      · rw [hitB_iff] at h1 ⊢
        exact strike_turn hB hright f0.1 f0.2 h1
      · unfold takeB at h2 ⊢
        rw [decide_eq_true_eq] at h2 ⊢
        rw [take_turn F, if_pos h2]
        have hlt := (take_lt (p := p) (okM_on hok)).2
        have hs : takeS p m = takeI p m := by unfold takeS; rw [if_pos h2]
        exact (flI_on h2 (by omega)).1
theorem turnM_turn {m : Mv} (h : On m) : turnM (turnM m) = m := by
  obtain ⟨f, t, q⟩ := m
  unfold turnM
  dsimp only
  rw [(flI_on h.f0 h.f1).2.2.2.2.1, (flI_on h.t0 h.t1).2.2.2.2.1]
theorem brd_turn {p : Ps} (hB : Brd p.B) (hr : pwI p = 0) : Brd (turnP p).B := by
  have hok := okL_of hB hr
  refine ⟨turn_len64 _, fun i hi => ?_⟩
  show -128 ≤ (turnL p.B).getD i 0 ∧ (turnL p.B).getD i 0 ≤ 127
  rw [hok.turn hi]
  have := hok.2 (flipN i) (flN_lt hi)
  omega
theorem all_turn {p : Ps} (hB : Brd p.B) (hr : pwI p = 0) : ((allL p).map turnM).Perm (allL (turnP p)) := by
  have hr' := turnP_right hB hr
  have hB' := brd_turn hB hr
  have t01 := (right_t hr).1
  have t01' := (right_t hr').1
  have hon : ∀ m, m ∈ allL p → On m := fun m hm => form_on t01 (goes_form ((mem_allN t01).1 hm))
  have hnd : (allL (turnP p)).Nodup := sorted_nodup (allN_sorted (turnP p) 64)
  have hnm : ((allL p).map turnM).Nodup := by
    unfold List.Nodup
    rw [List.pairwise_map]
    refine List.Pairwise.imp_of_mem (R := fun a b => a ≠ b) (fun {a b} ha hb hne e => hne ?_) (show (allL p).Nodup from sorted_nodup (allN_sorted p 64))
    rw [← turnM_turn (hon a ha), ← turnM_turn (hon b hb), e]
  refine (List.perm_ext_iff_of_nodup hnm hnd).2 fun x => ?_
  rw [List.mem_map]
  constructor
  · rintro ⟨m, hm, rfl⟩
    exact (mem_allN t01').2 (goes_turn hB hr ((mem_allN t01).1 hm))
  · intro hx
    have hx' := (mem_allN t01').1 hx
    have h2 := goes_turn hB' hr' hx'
    rw [turnP_turn hB hr] at h2
    exact ⟨turnM x, (mem_allN t01).2 h2, turnM_turn (form_on t01' (goes_form hx'))⟩
theorem xorA_all : ∀ k : Fin 64, bits .xor .i64 ((k : Nat) : Int) 56 = flI ((k : Nat) : Int) := by decide +kernel
theorem xorA {x : Int} (h0 : 0 ≤ x) (h1 : x < 64) : bits .xor .i64 x 56 = flI x := by
  have := xorA_all ⟨x.toNat, by omega⟩
  simp only [show ((x.toNat : Nat) : Int) = x by omega] at this
  exact this
end Go.Proofs.YtgcippicdhaaeaaGreatDoor
namespace Go.Proofs.YtgcippicdhaaeaaGreatDoor
open Go.RowKit
set_option linter.unusedVariables false
set_option linter.unusedSimpArgs false
set_option maxRecDepth 100000

theorem ml_set0 (m : Mv) (a : Int) : (ml m).toArray.setIfInBounds 0 (.int .i64 a) = (ml ⟨a, m.t, m.p⟩).toArray := rfl
theorem ml_set1 (m : Mv) (a : Int) : (ml m).toArray.setIfInBounds 1 (.int .i64 a) = (ml ⟨m.f, a, m.p⟩).toArray := rfl
set_option maxHeartbeats 4000000 in
theorem turned_not (p : Ps) (hB : Brd p.B) (hr : pwI p ≠ 0) (w : World) (hT : TabG w) :
    Calls Tryz.prog 6 #[.agg (pl p).toArray] w fun e w' => e = .returned (.bool true) ∧ Kept w w' := by
  have HP := Lib.hid (PAt.new w hB.1)
  have HK0 := Lib.hid ((Kept.refl w).alloc (.cells (pl p).toArray 26))
  have HT := Lib.hid (hT.kept HK0.out)
  have HRr := Lib.hid (fun w => rrightP_is p hB w)
  rw [show (pwI p == 0) = false from beq_eq_false_iff_ne.2 hr] at HRr
  clear hB hT hr
  go_enter Tryz.func6, Tryz.ntmps6
  go_wp2_with fail
  refine (gen_wake _ HT.out).mono ?_
  rintro e w1 ⟨rfl, k1⟩
  have HK1 := Lib.hid (HK0.out.trans k1)
  have HP1 := Lib.hid (HP.out.kept k1)
  clear k1
  go_wp2_with (first | (refine wpList_load_ps (by rfl) _ rfl _ rfl _ (HP1.out) ?_) | (refine wpList_load_pb (by rfl) _ rfl _ rfl _ (HP1.out) ?_))
  refine (HRr.out _).mono ?_
  rintro e w2 ⟨rfl, k2⟩
  have HK2 := Lib.hid (HK1.out.trans k2)
  clear k2
  go_wp2
  go_ret
  exact ⟨rfl, HK2.out⟩
set_option maxHeartbeats 8000000 in
theorem turned_in (p : Ps) (hB : Brd p.B) (hr : pwI p = 0) (w : World) (hT : TabG w) :
    Calls Tryz.prog 6 #[.agg (pl p).toArray] w fun e w' => e = .returned (.bool true) ∧ Kept w w' := by
  have HP := Lib.hid (PAt.new w hB.1)
  have HK0 := Lib.hid ((Kept.refl w).alloc (.cells (pl p).toArray 26))
  have HT := Lib.hid (hT.kept HK0.out)
  have hpl : Hid (p.B.length = 64) := hB.1
  have HRr := Lib.hid (fun w => rrightP_is p hB w)
  rw [show (pwI p == 0) = true from beq_iff_eq.2 hr] at HRr
  have e1 : allR p = allL p := by unfold allR; rw [if_pos hr]
  have e2 : allR (turnP p) = allL (turnP p) := by unfold allR; rw [if_pos (turnP_right hB hr)]
  have HAl := Lib.hid (fun g a w hT hE => all_is g a p hB w hT hE)
  have HAt := Lib.hid (fun g a w hT hE => all_is g a (turnP p) (brd_turn hB hr) w hT hE)
  rw [e1] at HAl
  rw [e2] at HAt
  have HTu := Lib.hid (fun w => pturned_is p hB (right_t hr).2.1.1 (right_t hr).2.1.2 w)
  have hperm := all_turn hB hr
  have hlen : (allL (turnP p)).length = (allL p).length := by have := hperm.length_eq; rw [List.length_map] at this; exact this.symm
  have HMet : Hid (∀ m, m ∈ allL p → hasM (allL (turnP p)) (turnM m) = true) := fun m hm => hasM_iff.2 (hperm.subset (List.mem_map_of_mem hm))
  have HOn : Hid (∀ m, m ∈ allL p → On m) := fun m hm => form_on (right_t hr).1 (goes_form ((mem_allN (right_t hr).1).1 hm))
  have HLl : Hid ((allL p).length ≤ 24576) := allN_len p 64
  have HLn := Lib.hid hlen
  generalize allL (turnP p) = T at *
  generalize allL p = L at *
  generalize hTP : turnP p = tp at *
  clear hB hT hr e1 e2 hperm hlen hTP
  go_enter Tryz.func6, Tryz.ntmps6
  go_wp2_with fail
  refine (gen_wake _ HT.out).mono ?_
  rintro e w1 ⟨rfl, k1⟩
  have HK1 := Lib.hid k1
  have HP1 := Lib.hid (HP.out.kept k1)
  clear k1
  go_wp2_with (first | (refine wpList_load_ps (by rfl) _ rfl _ rfl _ (HP1.out) ?_) | (refine wpList_load_pb (by rfl) _ rfl _ rfl _ (HP1.out) ?_))
  refine (HRr.out _).mono ?_
  rintro e w2 ⟨rfl, k2⟩
  have HK2 := Lib.hid (HK1.out.trans k2)
  clear k2
  go_wp2_with fail
  refine (gnew_is _).mono ?_
  rintro e w3 ⟨g, a, rfl, hE, k3⟩
  have HE := Lib.hid hE
  have HK3 := Lib.hid (HK2.out.trans k3)
  have HP3 := Lib.hid (HP.out.kept HK3.out)
  have HT3 := Lib.hid (HT.out.kept HK3.out)
  clear hE k3
  go_wp2
  refine wp_region_held_drew (S := Kept _) (by kernel_rfl) (Kept.refl _).drew (fun hHeld => ?_)
  refine rg_take (i := 0) (v := (.pointer (some ⟨g, 0, none⟩))) (some 17) rfl rfl (by kernel_rfl) (by kernel_rfl) (by kernel_rfl) (fun _ _ _ h => h) (Or.inl ⟨by rfl, fun _ _ => by go_simp⟩) hHeld ?_
  simp only [Act.put, List.setIfInBounds_toArray, List.set_cons_zero, List.set_cons_succ]
  refine rg_take (i := 1) (some 18) rfl rfl (by kernel_rfl) (by kernel_rfl) (by kernel_rfl) (fun _ _ _ h => h) (take_load_ps (by rfl) _ rfl _ rfl p hpl.out (fun _ h => (HP3.out).kept h)) hHeld ?_
  simp only [Act.put, List.setIfInBounds_toArray, List.set_cons_zero, List.set_cons_succ]
  refine rg_take (i := 3) (v := (.pointer (some ⟨g, 0, none⟩))) (some 20) rfl rfl (by kernel_rfl) (by kernel_rfl) (by kernel_rfl) (fun _ _ _ h => h) (Or.inl ⟨by rfl, fun _ _ => by go_simp⟩) hHeld ?_
  simp only [Act.put, List.setIfInBounds_toArray, List.set_cons_zero, List.set_cons_succ]
  refine rg_take (i := 4) (some 21) rfl rfl (by kernel_rfl) (by kernel_rfl) (by kernel_rfl) (fun _ _ _ h => h) (take_load_ps (by rfl) _ rfl _ rfl p hpl.out (fun _ h => (HP3.out).kept h)) hHeld ?_
  simp only [Act.put, List.setIfInBounds_toArray, List.set_cons_zero, List.set_cons_succ]
  refine wpAnyH_ready (rs := [2]) (by kernel_rfl) (by simp) ?_
  refine AllReadyH.cons rfl (fun K hK => ?_) AllReadyH.nil
  go_simp
  refine (HAl.out g a _ (HT3.out.kept hHeld) (HE.out.kept hHeld)).mono ?_
  rintro e x1 ⟨vx1, rfl, hox1, gx1⟩
  obtain ⟨ax1, cx1, rfl⟩ := hox1.slice
  have HOx1 := Lib.hid hox1
  clear hox1
  refine hK.out _ _ (hHeld.trans gx1) (fun _ => ?_)
  replace hHeld := hHeld.trans gx1
  clear hK K
  refine wpAnyH_ready (rs := [5]) (by kernel_rfl) (by simp) ?_
  refine AllReadyH.cons rfl (fun K hK => ?_) AllReadyH.nil
  go_simp
  refine (HTu.out _).mono ?_
  rintro e x2 ⟨rfl, gx2⟩
  refine hK.out _ _ (hHeld.trans gx2) (fun _ => ?_)
  replace hHeld := hHeld.trans gx2
  clear hK K
  have HO2 := Lib.hid (HOx1.out.kept gx2)
  refine wpAnyH_ready (rs := [6]) (by kernel_rfl) (by simp) ?_
  refine AllReadyH.cons rfl (fun K hK => ?_) AllReadyH.nil
  go_simp
  refine (HAt.out g a _ (HT3.out.kept hHeld) (HE.out.kept hHeld)).mono ?_
  rintro e X ⟨vX, rfl, hoX, gX⟩
  obtain ⟨aX, cX, rfl⟩ := hoX.slice
  have HOX := Lib.hid hoX
  clear hoX
  refine hK.out _ _ (hHeld.trans gX) (fun _ => ?_)
  replace hHeld := hHeld.trans gX
  clear hK K
  refine rg_take (i := 7) (v := (.slice ax1 L.length cx1)) (some 4) rfl rfl (by kernel_rfl) (by kernel_rfl) (by kernel_rfl) (fun _ _ _ h => h) (Or.inl ⟨by rfl, fun _ _ => by go_simp⟩) hHeld ?_
  simp only [Act.put, List.setIfInBounds_toArray, List.set_cons_zero, List.set_cons_succ]
  refine rg_take (i := 8) (v := (.slice aX T.length cX)) (some 5) rfl rfl (by kernel_rfl) (by kernel_rfl) (by kernel_rfl) (fun _ _ _ h => h) (Or.inl ⟨by rfl, fun _ _ => by go_simp⟩) hHeld ?_
  simp only [Act.put, List.setIfInBounds_toArray, List.set_cons_zero, List.set_cons_succ]
  refine wpAnyH_done (by kernel_rfl) ?_ _
  have HKX := Lib.hid (HK3.out.trans hHeld)
  obtain ⟨gl, hls, _⟩ := (HO2.out.kept gX).ls
  obtain ⟨gt, hlt, _⟩ := HOX.out.ls
  have HLs := Lib.hid hls
  have HLt := Lib.hid hlt
  have hln := HLn.out
  generalize hn' : T.length = n' at *
  generalize hn : L.length = n at *
  subst hln
  have HN := Lib.hid hn
  have HN' := Lib.hid hn'
  clear hHeld gX gx1 gx2 hls hlt hn hn' HLn
  go_wp2
  go_loopw [31] (fun t31 wr => ∃ k : Nat, k ≤ n' ∧ t31 = .int .i64 k ∧ Kept X wr) (fun t31 _ => n' - (intOf t31).toNat)
  case atStart => exact ⟨0, Nat.zero_le _, rfl, Kept.refl _⟩
  case round =>
    obtain ⟨k, hk, rfl, hK⟩ := hrel
    have HK := Lib.hid hK
    by_cases hkl : k < n'
    · have hkl' : (k : Int) < (n' : Int) := by omega
      obtain ⟨x, hx⟩ : ∃ x, L[k]? = some x := ⟨_, List.getElem?_eq_getElem (by have := HN.out; omega)⟩
      have hmx := List.mem_of_getElem? hx
      obtain ⟨off, cap, he, hc1, hc2, h3⟩ := HLs.out.full (by have := HN.out; omega)
      rw [HN.out] at he
      injection he with he1 he2 he3
      subst he1 he3
      rw [HN.out] at hc1
      unfold maxLen at hc2
      have HRx := Lib.hid (range_i (range_kept h3 hK) hx)
      have ho := HOn.out x hmx
      have hxf := xorA ho.f0 ho.f1
      have hxt := xorA ho.t0 ho.t1
      have HXb := Lib.hid (MAt.new wr x)
      have cf := HXb.out.f
      have ct := HXb.out.t
      have fz0 : (wr.alloc (.cells (ml x).toArray 35)).frozen? ⟨wr.heap.size, 0, none⟩ = false := RAt.frozen HXb.out 0
      have fz1 : (wr.alloc (.cells (ml x).toArray 35)).frozen? ⟨wr.heap.size, 1, none⟩ = false := RAt.frozen HXb.out 1
      have s0 := ml_set0 x (flI x.f)
      have s1 := ml_set1 ⟨flI x.f, x.t, x.p⟩ (flI x.t)
      have HMt := Lib.hid (HMet.out x hmx)
      have HMe : Hid (turnM x = ⟨flI x.f, flI x.t, x.p⟩) := rfl
      have HB0 := Lib.hid (MAt.new wr (turnM x))
      have HKb := Lib.hid (hK.alloc (.cells (ml (turnM x)).toArray 35))
      clear h3 hx hK hmx ho
      go_wp2_with (first | (refine wpList_load_mvi (by rfl) _ rfl gl (off + k * 3) rfl x HRx.out ?_) | (with_reducible refine wpList_new_mv rfl rfl ?_) | ((with_reducible refine wpList_store_newmv rfl _ _ rfl Zm x ?_ ?_ ?_); exact rfl; exact rfl))
      rw [show (⟨flI x.f, flI x.t, x.p⟩ : Mv) = turnM x from rfl]
      clear s0 s1 cf ct fz0 fz1 hxf hxt HMe HXb HRx
      generalize turnM x = m' at *
      generalize wr.alloc (.cells (ml m').toArray 35) = W at *
      generalize wr.heap.size = gb at *
      go_loopw [8, 45] (fun t8 t45 wr => ∃ j : Nat, j ≤ n' ∧ t45 = .int .i64 j ∧ t8 = .bool (metP T m' j) ∧ Kept W wr) (fun _ t45 _ => n' - (intOf t45).toNat)
      case atStart => exact ⟨0, Nat.zero_le _, rfl, rfl, Kept.refl _⟩
      case round =>
        obtain ⟨j, hj, rfl, rfl, hKj⟩ := hrel
        have HKj := Lib.hid hKj
        by_cases hjl : j < n'
        · have hjl' : (j : Int) < (n' : Int) := by omega
          obtain ⟨y, hy⟩ : ∃ y, T[j]? = some y := ⟨_, List.getElem?_eq_getElem (by have := HN'.out; omega)⟩
          obtain ⟨off2, cap2, he, hd1, hd2, h3⟩ := HLt.out.full (by have := HN'.out; omega)
          rw [HN'.out] at he
          injection he with he1 he2 he3
          subst he1 he3
          rw [HN'.out] at hd1
          unfold maxLen at hd2
          have HRy := Lib.hid (range_i (range_kept h3 (HKb.out.trans hKj)) hy)
          have HMs := Lib.hid (metP_succ (m := m') hy)
          have HYb := Lib.hid (MAt.new wr y)
          have HKy := Lib.hid (hKj.alloc (.cells (ml y).toArray 35))
          have HMy := Lib.hid (MAt.kept HB0.out HKy.out)
          obtain ⟨bx, hbx⟩ : ∃ bx, beqM y m' = bx := ⟨_, rfl⟩
          have Hbx := Lib.hid hbx
          rw [hbx] at HMs
          clear h3 hy hKj hbx
          cases hmt : metP T m' j
          · have Hmt := Lib.hid hmt
            clear hmt
            go_wp2_with (first | (refine wpList_load_mvi (by rfl) _ rfl gt (off2 + j * 3) rfl y HRy.out ?_) | (with_reducible refine wpList_new_mv rfl rfl ?_) | ((with_reducible refine wpList_store_newmv rfl _ _ rfl Zm y ?_ ?_ ?_); exact rfl; exact rfl) | (refine wpList_load_mv (by rfl) _ rfl _ rfl _ HYb.out ?_) | (refine wpList_load_mv (by rfl) _ rfl _ rfl _ HMy.out ?_) | (refine wpList_eql_mv (by rfl) _ _ _ rfl y m' rfl rfl Hbx.out ?_))
            go_roundw
            case rel => exact ⟨j + 1, by omega, by go_num, by rw [HMs.out, Hmt.out]; rfl, HKy.out⟩
            case measure => simp [intOf]; omega
          · have Hmt := Lib.hid hmt
            clear hmt
            go_wp2_with (first | (refine wpList_load_mvi (by rfl) _ rfl gt (off2 + j * 3) rfl y HRy.out ?_) | (with_reducible refine wpList_new_mv rfl rfl ?_) | ((with_reducible refine wpList_store_newmv rfl _ _ rfl Zm y ?_ ?_ ?_); exact rfl; exact rfl))
            go_roundw
            case rel => exact ⟨j + 1, by omega, by go_num, by rw [HMs.out, Hmt.out]; rfl, HKy.out⟩
            case measure => simp [intOf]; omega
        · obtain rfl : j = n' := by omega
          have hmt : metP T m' j = true := by have := metP_end T m'; rw [HN'.out, HMt.out] at this; exact this
          have HKe := Lib.hid (HKb.out.trans hKj)
          clear hKj
          rw [hmt]
          clear hmt
          go_wp2
          go_roundw
          case rel => exact ⟨k + 1, by omega, by go_num, HKe.out⟩
          case measure => simp [intOf]; omega
    · obtain rfl : k = n' := by omega
      clear hK
      go_wp2
      go_ret
      exact ⟨rfl, HK0.out.trans (HKX.out.trans HK.out)⟩
theorem walkGenTurned (p : Ps) (hB : Brd p.B) (w : World) (hT : TabG w) :
    Calls Tryz.prog 6 #[.agg (pl p).toArray] w fun e w' => e = .returned (.bool true) ∧ Kept w w' := by
  by_cases hr : pwI p = 0
  · exact turned_in p hB hr w hT
  · exact turned_not p hB hr w hT
end Go.Proofs.YtgcippicdhaaeaaGreatDoor
