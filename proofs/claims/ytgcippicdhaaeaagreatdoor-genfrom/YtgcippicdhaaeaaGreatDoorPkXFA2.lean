/- GeJ · GeL · GeM: my texts, in their order. -/
import Derived.Test.YtgcippicdhaaeaaGreatDoorPkXFMTA0
import Derived.Test.YtgcippicdhaaeaaGreatDoorPkXNFTA0
import Derived.Test.YtgcippicdhaaeaaGreatDoorPkXNFA0
import Derived.Test.YtgcippicdhaaeaaGreatDoorPkXFTA0
import Derived.Test.YtgcippicdhaaeaaGreatDoorPkXFA0
import Derived.Test.YtgcippicdhaaeaaGreatDoorPkA
import Derived.Test.YtgcippicdhaaeaaGreatDoorPkB
import Derived.Test.YtgcippicdhaaeaaGreatDoorPkC
import Derived.Test.YtgcippicdhaaeaaGreatDoorPkD
import Derived.Test.YtgcippicdhaaeaaGreatDoorPkE
import Derived.Test.YtgcippicdhaaeaaGreatDoorPkF
import Derived.Test.YtgcippicdhaaeaaGreatDoorPkGa
import Derived.Test.YtgcippicdhaaeaaGreatDoorPkGb
import Derived.Test.YtgcippicdhaaeaaGreatDoorPkGc
import Derived.Test.YtgcippicdhaaeaaGreatDoorPkGd
import Derived.Test.YtgcippicdhaaeaaGreatDoorPkGe
import Derived.Test.YtgcippicdhaaeaaGreatDoorPkGf
import Derived.Test.YtgcippicdhaaeaaGreatDoorPkGg
import Derived.Test.YtgcippicdhaaeaaGreatDoorPkGw
import Derived.Test.YtgcippicdhaaeaaGreatDoorPkH
import Derived.Test.YtgcippicdhaaeaaGreatDoorPkI
import Derived.Test.YtgcippicdhaaeaaGreatDoorPkJ
import Derived.Test.YtgcippicdhaaeaaGreatDoorPkK
import Derived.Test.YtgcippicdhaaeaaGreatDoorPkL
import Derived.Test.YtgcippicdhaaeaaGreatDoorPkM
import Derived.Test.YtgcippicdhaaeaaGreatDoorPkU
namespace Go.Proofs.YtgcippicdhaaeaaGreatDoor
open Go.RowKit
set_option linter.unusedVariables false
set_option linter.unusedSimpArgs false
set_option maxRecDepth 100000

theorem right_gt {p : Ps} {m : Mv} : decide (0 < hR (castN p m)) = decide (castN p m < 4) := by
  have := castN_le p m
  generalize castN p m = k at *
  have : k = 0 ∨ k = 1 ∨ k = 2 ∨ k = 3 ∨ k = 4 := by omega
  rcases this with rfl | rfl | rfl | rfl | rfl <;> decide
theorem ofL_one {m s : Int} (hn : slidesB m = false) {l : List Int} (h : l ∈ ofL m s) : l.length ≤ 1 := by
  unfold ofL ofN at h
  obtain ⟨w, _, hw⟩ := List.mem_flatMap.1 h
  unfold oneL at hw
  split at hw
  · cases hw
  · simp at hw
    subst hw
    unfold cutL
    rw [hn]
    simp only [Bool.false_eq_true, if_false, List.length_take]
    omega
theorem hit_first {B : List Int} {s to : Int} {i : Nat} {l : List Int} (hl : (ofL (bAt B s) s)[i]? = some l) (hk : l[0]? = some to) : hitB B s to = true :=
  hit_found hl hk fun j hj => by omega
theorem hit_nowhere {B : List Int} {s to : Int} (hn : slidesB (bAt B s) = false) (h : ∀ (i : Nat) (l : List Int), (ofL (bAt B s) s)[i]? = some l → l[0]? ≠ some to) : hitB B s to = false :=
  hit_none fun i l hl => upto_end fun j hj => by
    have := ofL_one hn (List.mem_of_getElem? hl)
    obtain rfl : j = 0 := by omega
    exact h i l hl
theorem wr64 {x : Int} (h0 : -1000 ≤ x) (h1 : x ≤ 1000) : IntKind.i64.wrap x = x := IntWalk.i64_in _ (by omega)
theorem pgo_split {p : Ps} {m : Mv} {f t : Nat} (h : Pf p m f t) (U S : Int) (hU : upI p.t = U) (hS : secI p.t = S) : pgoB p m =
    (((p.B.getD t 0 == 0) && ((t : Int) == (f : Int) + U)) || (((p.B.getD t 0 == 0) && ((t : Int) == (f : Int) + 2 * U) && ((f : Int) / 8 == S) && (bAt p.B ((f : Int) + U) == 0)) || (hitB p.B (f : Int) (t : Int) && decide (0 ≤ takeI p m)))) := by
  have e : bAt p.B m.t = p.B.getD t 0 := by unfold bAt; rw [h.ht, Int.toNat_natCast]
  unfold pgoB takeB
  rw [e, h.hf, h.ht, hU, hS]
set_option maxHeartbeats 4000000 in
theorem rpgo_w1 (p : Ps) (m : Mv) (f t : Nat) (h : Pf p m f t) (hp : p.t = 0) (h0 : p.B.getD t 0 = 0) (hq : ((t : Int) == (f : Int) + (8)) = true) (w : World) :
    Calls Tryz.prog 28 #[.agg (pl p).toArray, .agg (ml m).toArray] w fun e w' => e = .returned (.bool (pgoB p m)) ∧ Kept w w' := by
  have hB := h.pw.brd
  have HP : Hid (PAt _ _ p) := ⟨hB.1, heap_alloc2_old w (.cells (pl p).toArray 26) (.cells (ml m).toArray 35)⟩
  have HM : Hid (MAt _ _ m) := ⟨heap_alloc2_new w (.cells (pl p).toArray 26) (.cells (ml m).toArray 35)⟩
  have HK0 := Lib.hid (((Kept.refl w).alloc (.cells (pl p).toArray 26)).alloc (.cells (ml m).toArray 35))
  have hcf := HM.out.f
  have hct := HM.out.t
  rw [h.hf] at hcf
  rw [h.ht] at hct
  have htn := HP.out.turn
  rw [hp] at htn
  have hsq := HP.out.sq t h.t1
  have hrk := h.pw.rank
  have ht1 := h.t1
  have HV := Lib.hid (pgo_split h (8) 1 (by rw [hp]; rfl) (by rw [hp]; rfl))
  have htI : (t : Int) < 64 := by omega
  have hw1 : IntKind.i64.wrap ((f : Int) + (8)) = (f : Int) + (8) := wr64 (by omega) (by omega)
  have hw2 : IntKind.i64.wrap ((f : Int) + (16)) = (f : Int) + 2 * (8) := by rw [wr64 (by omega) (by omega)]; omega
  have HR : Hid (pgoB p m = true) := by show _ = _; rw [HV.out, h0, hq]; simp
  rw [h0] at hsq
  clear HV
  go_enter Tryz.func28, Tryz.ntmps28
  go_wp2
  go_ret
  exact ⟨by rw [HR.out]; rfl, HK0.out⟩
set_option maxHeartbeats 4000000 in
theorem rpgo_w2 (p : Ps) (m : Mv) (f t : Nat) (h : Pf p m f t) (hp : p.t = 0) (h0 : p.B.getD t 0 = 0) (hq : ((t : Int) == (f : Int) + (8)) = false) (hq2 : ((t : Int) == (f : Int) + (16)) = true) (hs : ((f : Int) / 8 == 1) = true) (w : World) :
    Calls Tryz.prog 28 #[.agg (pl p).toArray, .agg (ml m).toArray] w fun e w' => e = .returned (.bool (pgoB p m)) ∧ Kept w w' := by
  have hB := h.pw.brd
  have HP : Hid (PAt _ _ p) := ⟨hB.1, heap_alloc2_old w (.cells (pl p).toArray 26) (.cells (ml m).toArray 35)⟩
  have HM : Hid (MAt _ _ m) := ⟨heap_alloc2_new w (.cells (pl p).toArray 26) (.cells (ml m).toArray 35)⟩
  have HK0 := Lib.hid (((Kept.refl w).alloc (.cells (pl p).toArray 26)).alloc (.cells (ml m).toArray 35))
  have hcf := HM.out.f
  have hct := HM.out.t
  rw [h.hf] at hcf
  rw [h.ht] at hct
  have htn := HP.out.turn
  rw [hp] at htn
  have hsq := HP.out.sq t h.t1
  have hrk := h.pw.rank
  have ht1 := h.t1
  have HV := Lib.hid (pgo_split h (8) 1 (by rw [hp]; rfl) (by rw [hp]; rfl))
  have htI : (t : Int) < 64 := by omega
  have hw1 : IntKind.i64.wrap ((f : Int) + (8)) = (f : Int) + (8) := wr64 (by omega) (by omega)
  have hw2 : IntKind.i64.wrap ((f : Int) + (16)) = (f : Int) + 2 * (8) := by rw [wr64 (by omega) (by omega)]; omega
  have hsf := HP.out.sq f h.pw.s1
  have HTk := Lib.hid (fun w => rtakes_is p hB m h.on w)
  have hns : slidesB (bAt p.B (f : Int)) = false := by unfold slidesB; rw [knd_kind, show bAt p.B (f : Int) = p.B.getD f 0 from rfl, h.pw.kind]; rfl
  have HF := Lib.hid (fun (i : Nat) (l : List Int) => hit_first (B := p.B) (s := (f : Int)) (to := (t : Int)) (i := i) (l := l))
  have HN := Lib.hid (hit_nowhere (to := (t : Int)) hns)
  have HPos := Lib.hid (fun l (hl : l ∈ ofL (bAt p.B (f : Int)) (f : Int)) => (ofL_pos hl).1)
  have hbd := hB.2 f h.pw.s1
  have hwx := i8_i64 hB h.pw.s1
  have hx : bAt p.B (f : Int) = p.B.getD f 0 := rfl
  rw [hx] at HF HN HPos
  have HOf := Lib.hid (rof_is (p.B.getD f 0) (f : Int))
  have hx0 := hsf
  have hfI : (f : Int) < 64 := by have := h.pw.s1; omega
  generalize hitB p.B (f : Int) (t : Int) = hb at *
  generalize takeI p m = tk at *
  generalize ofL (p.B.getD f 0) (f : Int) = L at *
  generalize p.B.getD f 0 = x0 at *
  have hk : ∃ k : Nat, (f : Int) + (8) = (k : Int) ∧ k < 64 := ⟨((f : Int) + (8)).toNat, by omega, by omega⟩
  obtain ⟨k, ek, k64⟩ := hk
  have hsk := HP.out.sq k k64
  have hsk2 : ((w.alloc (.cells (pl p).toArray 26)).alloc (.cells (ml m).toArray 35)).cell? ⟨w.heap.size, f + 8, none⟩ = some (.int .i8 (p.B.getD k 0)) := by rw [show f + 8 = k by omega]; exact hsk
  have hsk3 : ((w.alloc (.cells (pl p).toArray 26)).alloc (.cells (ml m).toArray 35)).cell? ⟨w.heap.size, ((f : Int) + 8).toNat, none⟩ = some (.int .i8 (p.B.getD k 0)) := by rw [show ((f : Int) + 8).toNat = k by omega]; exact hsk
  have hsk4 : ((w.alloc (.cells (pl p).toArray 26)).alloc (.cells (ml m).toArray 35)).cell? ⟨w.heap.size, f + 8, none⟩ = some (.int .i8 (p.B.getD k 0)) := by rw [show f + 8 = k by omega]; exact hsk
  have ebk : bAt p.B ((f : Int) + (8)) = p.B.getD k 0 := by rw [ek]; rfl
  rw [h0] at hsq
  have hq2' : ((t : Int) == (f : Int) + 2 * (8)) = true := hq2
  rw [ebk, h0, hq, hq2', hs] at HV
  clear hq2'
  have hkI : (k : Int) < 64 := by omega
  have HRk := Lib.hid (fun w => rrank_yes (f : Int) w (by omega) hfI)
  generalize p.B.getD k 0 = y at *
  generalize (f : Int) / 8 = rk at *
  cases hy : (y == 0)
  · rw [hy] at HV
    have HV' : Hid (pgoB p m = (hb && decide (0 ≤ tk))) := by show _ = _; rw [HV.out]; simp
    clear HV
    have HV := HV'
    clear HV' h0 ebk ek
    go_enter Tryz.func28, Tryz.ntmps28
    go_wp2_with fail
    refine (HRk.out _).mono ?_
    rintro e w9 ⟨rfl, rfl⟩
    go_wp2
    clear hq hq2
    have HPr := Lib.hid HP.out
    have HMr := Lib.hid HM.out
    refine wp_region_held_drew (S := Kept _) (by kernel_rfl) (Kept.refl _).drew (fun hHeld => ?_)
    refine rg_take (i := 0) (v := (.pointer (some ⟨w.heap.size + 1, 0, none⟩))) (some 60) rfl rfl (by kernel_rfl) (by kernel_rfl) (by kernel_rfl) (fun _ _ _ h => h) (Or.inl ⟨by rfl, fun _ _ => by go_simp⟩) hHeld ?_
    simp only [Act.put, List.setIfInBounds_toArray, List.set_cons_zero, List.set_cons_succ]
    refine rg_take (i := 1) (v := (.int .i64 (f : Int))) (some 61) rfl rfl (by kernel_rfl) (by kernel_rfl) (by kernel_rfl) (fun _ _ _ h => h) (Or.inl ⟨by rfl, fun w' h => by have h' := kept_cell h (hcf); go_simp⟩) hHeld ?_
    simp only [Act.put, List.setIfInBounds_toArray, List.set_cons_zero, List.set_cons_succ]
    refine rg_take (i := 2) (v := (.pointer (some ⟨w.heap.size, 0, none⟩))) (some 62) rfl rfl (by kernel_rfl) (by kernel_rfl) (by kernel_rfl) (fun _ _ _ h => h) (Or.inl ⟨by rfl, fun _ _ => by go_simp⟩) hHeld ?_
    simp only [Act.put, List.setIfInBounds_toArray, List.set_cons_zero, List.set_cons_succ]
    refine rg_take (i := 3) (v := (.pointer (some ⟨w.heap.size, f, none⟩))) (some 63) rfl rfl (by kernel_rfl) (by kernel_rfl) (by kernel_rfl) (fun _ _ _ h => h) (Or.inl ⟨by rfl, fun _ _ => by go_simp⟩) hHeld ?_
    simp only [Act.put, List.setIfInBounds_toArray, List.set_cons_zero, List.set_cons_succ]
    refine rg_take (i := 4) (v := (.int .i8 x0)) (some 64) rfl rfl (by kernel_rfl) (by kernel_rfl) (by kernel_rfl) (fun _ _ _ h => h) (Or.inl ⟨by rfl, fun w' h => by have h' := kept_cell h (hx0); go_simp⟩) hHeld ?_
    simp only [Act.put, List.setIfInBounds_toArray, List.set_cons_zero, List.set_cons_succ]
    refine rg_take (i := 5) (v := (.int .i64 x0)) (some 65) rfl rfl (by kernel_rfl) (by kernel_rfl) (by kernel_rfl) (fun _ _ _ h => h) (Or.inl ⟨by rfl, fun _ _ => by go_simp⟩) hHeld ?_
    simp only [Act.put, List.setIfInBounds_toArray, List.set_cons_zero, List.set_cons_succ]
    refine rg_take (i := 6) (v := (.pointer (some ⟨w.heap.size + 1, 0, none⟩))) (some 66) rfl rfl (by kernel_rfl) (by kernel_rfl) (by kernel_rfl) (fun _ _ _ h => h) (Or.inl ⟨by rfl, fun _ _ => by go_simp⟩) hHeld ?_
    simp only [Act.put, List.setIfInBounds_toArray, List.set_cons_zero, List.set_cons_succ]
    refine rg_take (i := 7) (v := (.int .i64 (f : Int))) (some 67) rfl rfl (by kernel_rfl) (by kernel_rfl) (by kernel_rfl) (fun _ _ _ h => h) (Or.inl ⟨by rfl, fun w' h => by have h' := kept_cell h (hcf); go_simp⟩) hHeld ?_
    simp only [Act.put, List.setIfInBounds_toArray, List.set_cons_zero, List.set_cons_succ]
    refine wpAnyH_ready (rs := [8]) (by kernel_rfl) (by simp) ?_
    refine AllReadyH.cons rfl (fun K hK => ?_) AllReadyH.nil
    go_simp
    refine (HOf.out _).mono ?_
    rintro e W ⟨v, rfl, hR, kW⟩
    refine hK.out _ _ (hHeld.trans kW) (fun _ => ?_)
    replace hHeld := hHeld.trans kW
    clear hK K
    refine rg_take (i := 9) (v := v) (some 7) rfl rfl (by kernel_rfl) (by kernel_rfl) (by kernel_rfl) (fun _ _ _ h => h) (Or.inl ⟨by rfl, fun _ _ => by go_simp⟩) hHeld ?_
    simp only [Act.put, List.setIfInBounds_toArray, List.set_cons_zero, List.set_cons_succ]
    refine wpAnyH_done (by kernel_rfl) ?_ _
    have HKW := Lib.hid hHeld
    have HPW := Lib.hid (HP.out.kept hHeld)
    have HMW := Lib.hid (MAt.kept HM.out hHeld)
    have hctW := kept_cell hHeld hct
    clear hHeld kW hcf hx0 hct hsq htn HPr HMr
    by_cases hL : 0 < L.length
    · obtain ⟨g7, c7, rfl, hn1, hn2, hrow⟩ := hR.read hL
      unfold maxLen at hn2
      have HRow := Lib.hid hrow
      generalize hN : L.length = N at *
      have HNN := Lib.hid hN
      clear hR hrow hN
      go_wp2
      go_loopw [8] (fun t8 wr => ∃ i : Nat, i ≤ N ∧ t8 = .int .i64 i ∧ (∀ j l, j < i → L[j]? = some l → l[0]? ≠ some (t : Int)) ∧ Kept W wr) (fun t8 _ => N - (intOf t8).toNat)
      case atStart => exact ⟨0, by omega, rfl, fun j l hj => by omega, Kept.refl _⟩
      case round =>
        obtain ⟨i, hi, rfl, hno, hK⟩ := hrel
        have HNo := Lib.hid hno
        have HK := Lib.hid hK
        have hctR := kept_cell hK hctW
        clear hno
        by_cases hlt : i < N
        · have hlt' : (i : Int) < (N : Int) := by omega
          obtain ⟨l, hl⟩ : ∃ l, L[i]? = some l := ⟨_, List.getElem?_eq_getElem (by have := HNN.out; omega)⟩
          obtain ⟨u, g, hcu, hls, _⟩ := HRow.out i l hl
          have hpos := HPos.out l (List.mem_of_getElem? hl)
          obtain ⟨y, hy⟩ : ∃ y, l[0]? = some y := ⟨_, List.getElem?_eq_getElem hpos⟩
          obtain ⟨off, cu, rfl, hk1, hk2, hcell⟩ := hls.full hpos
          have Hl := Lib.hid hl
          have d1 := kept_cell hK (hcell 0 y hy)
          have d0 := kept_cell hK hcu
          rw [Nat.add_zero] at d1
          have HY := Lib.hid hy
          have hbm : l.length ≤ 9223372036854775807 := by unfold maxLen at hk2; omega
          have HMr := Lib.hid (MAt.kept HMW.out hK)
          have HPr := Lib.hid (HPW.out.kept hK)
          clear hl hy hcell hk1 hk2 hcu hls hK
          generalize hM : l.length = M at *
          clear hM
          have hposI : (0 : Int) < (M : Int) := by omega
          by_cases hto : y = (t : Int)
          · have b0 : (y == (t : Int)) = true := by simpa using hto
            have HE := Lib.hid (HF.out i l Hl.out (by rw [HY.out, hto]))
            clear hto
            go_wp2
            refine wp_region_held_drew (S := Kept _) (by kernel_rfl) (Kept.refl _).drew (fun hHeld => ?_)
            refine rg_take (i := 0) (v := (.slice (some ⟨g7, 0, none⟩) N c7)) (some 75) rfl rfl (by kernel_rfl) (by kernel_rfl) (by kernel_rfl) (fun _ _ _ h => h) (Or.inl ⟨by rfl, fun _ _ => by go_simp⟩) hHeld ?_
            simp only [Act.put, List.setIfInBounds_toArray, List.set_cons_zero, List.set_cons_succ]
            refine rg_take (i := 1) (v := (.int .i64 (i : Int))) (some 76) rfl rfl (by kernel_rfl) (by kernel_rfl) (by kernel_rfl) (fun _ _ _ h => h) (Or.inl ⟨by rfl, fun _ _ => by go_simp⟩) hHeld ?_
            simp only [Act.put, List.setIfInBounds_toArray, List.set_cons_zero, List.set_cons_succ]
            refine rg_take (i := 2) (v := (.pointer (some ⟨g7, i, none⟩))) (some 77) rfl rfl (by kernel_rfl) (by kernel_rfl) (by kernel_rfl) (fun _ _ _ h => h) (Or.inl ⟨by rfl, fun _ _ => by go_simp⟩) hHeld ?_
            simp only [Act.put, List.setIfInBounds_toArray, List.set_cons_zero, List.set_cons_succ]
            refine rg_take (i := 3) (v := (.slice (some ⟨g, off, none⟩) M cu)) (some 78) rfl rfl (by kernel_rfl) (by kernel_rfl) (by kernel_rfl) (fun _ _ _ h => h) (Or.inl ⟨by rfl, fun w' h => by have h' := kept_cell h (d0); go_simp⟩) hHeld ?_
            simp only [Act.put, List.setIfInBounds_toArray, List.set_cons_zero, List.set_cons_succ]
            refine rg_take (i := 4) (v := (.pointer (some ⟨g, off, none⟩))) (some 79) rfl rfl (by kernel_rfl) (by kernel_rfl) (by kernel_rfl) (fun _ _ _ h => h) (Or.inl ⟨by rfl, fun _ _ => by go_simp⟩) hHeld ?_
            simp only [Act.put, List.setIfInBounds_toArray, List.set_cons_zero, List.set_cons_succ]
            refine rg_take (i := 5) (v := (.int .i64 y)) (some 80) rfl rfl (by kernel_rfl) (by kernel_rfl) (by kernel_rfl) (fun _ _ _ h => h) (Or.inl ⟨by rfl, fun w' h => by have h' := kept_cell h (d1); go_simp⟩) hHeld ?_
            simp only [Act.put, List.setIfInBounds_toArray, List.set_cons_zero, List.set_cons_succ]
            refine rg_take (i := 6) (v := (.pointer (some ⟨w.heap.size + 1, 1, none⟩))) (some 81) rfl rfl (by kernel_rfl) (by kernel_rfl) (by kernel_rfl) (fun _ _ _ h => h) (Or.inl ⟨by rfl, fun _ _ => by go_simp⟩) hHeld ?_
            simp only [Act.put, List.setIfInBounds_toArray, List.set_cons_zero, List.set_cons_succ]
            refine rg_take (i := 7) (v := (.int .i64 (t : Int))) (some 82) rfl rfl (by kernel_rfl) (by kernel_rfl) (by kernel_rfl) (fun _ _ _ h => h) (Or.inl ⟨by rfl, fun w' h => by have h' := kept_cell h (hctR); go_simp⟩) hHeld ?_
            simp only [Act.put, List.setIfInBounds_toArray, List.set_cons_zero, List.set_cons_succ]
            refine rg_take (i := 8) (v := (.bool true)) (some 83) rfl rfl (by kernel_rfl) (by kernel_rfl) (by kernel_rfl) (fun _ _ _ h => h) (Or.inl ⟨by rfl, fun _ _ => by go_simp⟩) hHeld ?_
            simp only [Act.put, List.setIfInBounds_toArray, List.set_cons_zero, List.set_cons_succ]
            refine wpAnyH_done (by kernel_rfl) ?_ _
            have HK2 := Lib.hid (HK.out.trans hHeld)
            have HM2 := Lib.hid (MAt.kept HMr.out hHeld)
            have HP2 := Lib.hid (HPr.out.kept hHeld)
            clear hHeld
            go_wp2_with (first | (refine wpList_load_ps (by rfl) _ rfl _ rfl _ (HP2.out) ?_) | (refine wpList_load_pb (by rfl) _ rfl _ rfl _ (HP2.out) ?_) | (refine wpList_load_mv (by rfl) _ rfl _ rfl _ (HM2.out) ?_))
            refine (HTk.out _).mono ?_
            rintro e w3 ⟨rfl, k3⟩
            have HK3 := Lib.hid (HK2.out.trans k3)
            clear k3
            go_wp2
            go_ret
            exact ⟨by rw [HV.out, HE.out, Bool.true_and]; rfl, (HK0.out.trans HKW.out).trans HK3.out⟩
          · have b0 : (y == (t : Int)) = false := by simpa using hto
            have HTo := Lib.hid hto
            clear hto
            go_wp2
            refine wp_region_held_drew (S := Kept _) (by kernel_rfl) (Kept.refl _).drew (fun hHeld => ?_)
            refine rg_take (i := 0) (v := (.slice (some ⟨g7, 0, none⟩) N c7)) (some 75) rfl rfl (by kernel_rfl) (by kernel_rfl) (by kernel_rfl) (fun _ _ _ h => h) (Or.inl ⟨by rfl, fun _ _ => by go_simp⟩) hHeld ?_
            simp only [Act.put, List.setIfInBounds_toArray, List.set_cons_zero, List.set_cons_succ]
            refine rg_take (i := 1) (v := (.int .i64 (i : Int))) (some 76) rfl rfl (by kernel_rfl) (by kernel_rfl) (by kernel_rfl) (fun _ _ _ h => h) (Or.inl ⟨by rfl, fun _ _ => by go_simp⟩) hHeld ?_
            simp only [Act.put, List.setIfInBounds_toArray, List.set_cons_zero, List.set_cons_succ]
            refine rg_take (i := 2) (v := (.pointer (some ⟨g7, i, none⟩))) (some 77) rfl rfl (by kernel_rfl) (by kernel_rfl) (by kernel_rfl) (fun _ _ _ h => h) (Or.inl ⟨by rfl, fun _ _ => by go_simp⟩) hHeld ?_
            simp only [Act.put, List.setIfInBounds_toArray, List.set_cons_zero, List.set_cons_succ]
            refine rg_take (i := 3) (v := (.slice (some ⟨g, off, none⟩) M cu)) (some 78) rfl rfl (by kernel_rfl) (by kernel_rfl) (by kernel_rfl) (fun _ _ _ h => h) (Or.inl ⟨by rfl, fun w' h => by have h' := kept_cell h (d0); go_simp⟩) hHeld ?_
            simp only [Act.put, List.setIfInBounds_toArray, List.set_cons_zero, List.set_cons_succ]
            refine rg_take (i := 4) (v := (.pointer (some ⟨g, off, none⟩))) (some 79) rfl rfl (by kernel_rfl) (by kernel_rfl) (by kernel_rfl) (fun _ _ _ h => h) (Or.inl ⟨by rfl, fun _ _ => by go_simp⟩) hHeld ?_
            simp only [Act.put, List.setIfInBounds_toArray, List.set_cons_zero, List.set_cons_succ]
            refine rg_take (i := 5) (v := (.int .i64 y)) (some 80) rfl rfl (by kernel_rfl) (by kernel_rfl) (by kernel_rfl) (fun _ _ _ h => h) (Or.inl ⟨by rfl, fun w' h => by have h' := kept_cell h (d1); go_simp⟩) hHeld ?_
            simp only [Act.put, List.setIfInBounds_toArray, List.set_cons_zero, List.set_cons_succ]
            refine rg_take (i := 6) (v := (.pointer (some ⟨w.heap.size + 1, 1, none⟩))) (some 81) rfl rfl (by kernel_rfl) (by kernel_rfl) (by kernel_rfl) (fun _ _ _ h => h) (Or.inl ⟨by rfl, fun _ _ => by go_simp⟩) hHeld ?_
            simp only [Act.put, List.setIfInBounds_toArray, List.set_cons_zero, List.set_cons_succ]
            refine rg_take (i := 7) (v := (.int .i64 (t : Int))) (some 82) rfl rfl (by kernel_rfl) (by kernel_rfl) (by kernel_rfl) (fun _ _ _ h => h) (Or.inl ⟨by rfl, fun w' h => by have h' := kept_cell h (hctR); go_simp⟩) hHeld ?_
            simp only [Act.put, List.setIfInBounds_toArray, List.set_cons_zero, List.set_cons_succ]
            refine rg_take (i := 8) (v := (.bool false)) (some 83) rfl rfl (by kernel_rfl) (by kernel_rfl) (by kernel_rfl) (fun _ _ _ h => h) (Or.inl ⟨by rfl, fun _ _ => by go_simp⟩) hHeld ?_
            simp only [Act.put, List.setIfInBounds_toArray, List.set_cons_zero, List.set_cons_succ]
            refine wpAnyH_done (by kernel_rfl) ?_ _
            have HK2 := Lib.hid (HK.out.trans hHeld)
            clear hHeld
            go_wp2
            go_roundw
            case rel => exact ⟨i + 1, by omega, by go_num, fun j l' hj hl' => by
              by_cases hji : j < i
              · exact HNo.out j l' hji hl'
              · obtain rfl : j = i := by omega
                rw [Hl.out] at hl'
                rw [← Option.some.inj hl', HY.out]
                exact fun e => HTo.out (Option.some.inj e), HK2.out⟩
            case measure => simp [intOf]; omega
        · have hlt' : ¬ (i : Int) < (N : Int) := by omega
          have HE := Lib.hid (HN.out (fun j l hl => HNo.out j l (by have := (List.getElem?_eq_some_iff.1 hl).1; have := HNN.out; omega) hl))
          clear hK
          go_wp2
          go_ret
          exact ⟨by rw [HV.out, HE.out, Bool.false_and]; rfl, (HK0.out.trans HKW.out).trans HK.out⟩
    · have h0 : L = [] := List.eq_nil_of_length_eq_zero (by omega)
      have HE := Lib.hid (HN.out (fun j l hl => by rw [h0] at hl; simp at hl))
      subst h0
      obtain ⟨a7, c7, rfl⟩ := hR.slice
      clear hR
      go_wp2
      go_loopw [8] (fun t8 wr => t8 = .int .i64 0 ∧ wr = W) (fun _ _ => 0)
      case atStart => exact ⟨rfl, rfl⟩
      case round =>
        obtain ⟨rfl, rfl⟩ := hrel
        go_wp2
        go_ret
        exact ⟨by rw [HV.out, HE.out, Bool.false_and]; rfl, HK0.out.trans HKW.out⟩
  · rw [hy] at HV
    have HR : Hid (pgoB p m = true) := by show _ = _; rw [HV.out]; simp
    clear HV h0 ebk ek
    go_enter Tryz.func28, Tryz.ntmps28
    go_wp2_with fail
    refine (HRk.out _).mono ?_
    rintro e w9 ⟨rfl, rfl⟩
    go_wp2
    go_ret
    exact ⟨by rw [HR.out]; rfl, HK0.out⟩
set_option maxHeartbeats 4000000 in
theorem rpgo_w3 (p : Ps) (m : Mv) (f t : Nat) (h : Pf p m f t) (hp : p.t = 0) (h0 : p.B.getD t 0 = 0) (hq : ((t : Int) == (f : Int) + (8)) = false) (hq2 : ((t : Int) == (f : Int) + (16)) = true) (hs : ((f : Int) / 8 == 1) = false) (w : World) :
    Calls Tryz.prog 28 #[.agg (pl p).toArray, .agg (ml m).toArray] w fun e w' => e = .returned (.bool (pgoB p m)) ∧ Kept w w' := by
  have hB := h.pw.brd
  have HP : Hid (PAt _ _ p) := ⟨hB.1, heap_alloc2_old w (.cells (pl p).toArray 26) (.cells (ml m).toArray 35)⟩
  have HM : Hid (MAt _ _ m) := ⟨heap_alloc2_new w (.cells (pl p).toArray 26) (.cells (ml m).toArray 35)⟩
  have HK0 := Lib.hid (((Kept.refl w).alloc (.cells (pl p).toArray 26)).alloc (.cells (ml m).toArray 35))
  have hcf := HM.out.f
  have hct := HM.out.t
  rw [h.hf] at hcf
  rw [h.ht] at hct
  have htn := HP.out.turn
  rw [hp] at htn
  have hsq := HP.out.sq t h.t1
  have hrk := h.pw.rank
  have ht1 := h.t1
  have HV := Lib.hid (pgo_split h (8) 1 (by rw [hp]; rfl) (by rw [hp]; rfl))
  have htI : (t : Int) < 64 := by omega
  have hw1 : IntKind.i64.wrap ((f : Int) + (8)) = (f : Int) + (8) := wr64 (by omega) (by omega)
  have hw2 : IntKind.i64.wrap ((f : Int) + (16)) = (f : Int) + 2 * (8) := by rw [wr64 (by omega) (by omega)]; omega
  have hsf := HP.out.sq f h.pw.s1
  have HTk := Lib.hid (fun w => rtakes_is p hB m h.on w)
  have hns : slidesB (bAt p.B (f : Int)) = false := by unfold slidesB; rw [knd_kind, show bAt p.B (f : Int) = p.B.getD f 0 from rfl, h.pw.kind]; rfl
  have HF := Lib.hid (fun (i : Nat) (l : List Int) => hit_first (B := p.B) (s := (f : Int)) (to := (t : Int)) (i := i) (l := l))
  have HN := Lib.hid (hit_nowhere (to := (t : Int)) hns)
  have HPos := Lib.hid (fun l (hl : l ∈ ofL (bAt p.B (f : Int)) (f : Int)) => (ofL_pos hl).1)
  have hbd := hB.2 f h.pw.s1
  have hwx := i8_i64 hB h.pw.s1
  have hx : bAt p.B (f : Int) = p.B.getD f 0 := rfl
  rw [hx] at HF HN HPos
  have HOf := Lib.hid (rof_is (p.B.getD f 0) (f : Int))
  have hx0 := hsf
  have hfI : (f : Int) < 64 := by have := h.pw.s1; omega
  generalize hitB p.B (f : Int) (t : Int) = hb at *
  generalize takeI p m = tk at *
  generalize ofL (p.B.getD f 0) (f : Int) = L at *
  generalize p.B.getD f 0 = x0 at *
  rw [h0] at hsq
  have HV' : Hid (pgoB p m = (hb && decide (0 ≤ tk))) := by show _ = _; have hq2' : ((t : Int) == (f : Int) + 2 * (8)) = true := hq2; rw [HV.out, h0, hq, hq2', hs]; simp
  clear HV
  have HV := HV'
  have HRk := Lib.hid (fun w => rrank_yes (f : Int) w (by omega) hfI)
  generalize (f : Int) / 8 = rk at *
  clear HV' h0
  go_enter Tryz.func28, Tryz.ntmps28
  go_wp2_with fail
  refine (HRk.out _).mono ?_
  rintro e w9 ⟨rfl, rfl⟩
  go_wp2
  clear hq hq2
  have HPr := Lib.hid HP.out
  have HMr := Lib.hid HM.out
  refine wp_region_held_drew (S := Kept _) (by kernel_rfl) (Kept.refl _).drew (fun hHeld => ?_)
  refine rg_take (i := 0) (v := (.pointer (some ⟨w.heap.size + 1, 0, none⟩))) (some 60) rfl rfl (by kernel_rfl) (by kernel_rfl) (by kernel_rfl) (fun _ _ _ h => h) (Or.inl ⟨by rfl, fun _ _ => by go_simp⟩) hHeld ?_
  simp only [Act.put, List.setIfInBounds_toArray, List.set_cons_zero, List.set_cons_succ]
  refine rg_take (i := 1) (v := (.int .i64 (f : Int))) (some 61) rfl rfl (by kernel_rfl) (by kernel_rfl) (by kernel_rfl) (fun _ _ _ h => h) (Or.inl ⟨by rfl, fun w' h => by have h' := kept_cell h (hcf); go_simp⟩) hHeld ?_
  simp only [Act.put, List.setIfInBounds_toArray, List.set_cons_zero, List.set_cons_succ]
  refine rg_take (i := 2) (v := (.pointer (some ⟨w.heap.size, 0, none⟩))) (some 62) rfl rfl (by kernel_rfl) (by kernel_rfl) (by kernel_rfl) (fun _ _ _ h => h) (Or.inl ⟨by rfl, fun _ _ => by go_simp⟩) hHeld ?_
  simp only [Act.put, List.setIfInBounds_toArray, List.set_cons_zero, List.set_cons_succ]
  refine rg_take (i := 3) (v := (.pointer (some ⟨w.heap.size, f, none⟩))) (some 63) rfl rfl (by kernel_rfl) (by kernel_rfl) (by kernel_rfl) (fun _ _ _ h => h) (Or.inl ⟨by rfl, fun _ _ => by go_simp⟩) hHeld ?_
  simp only [Act.put, List.setIfInBounds_toArray, List.set_cons_zero, List.set_cons_succ]
  refine rg_take (i := 4) (v := (.int .i8 x0)) (some 64) rfl rfl (by kernel_rfl) (by kernel_rfl) (by kernel_rfl) (fun _ _ _ h => h) (Or.inl ⟨by rfl, fun w' h => by have h' := kept_cell h (hx0); go_simp⟩) hHeld ?_
  simp only [Act.put, List.setIfInBounds_toArray, List.set_cons_zero, List.set_cons_succ]
  refine rg_take (i := 5) (v := (.int .i64 x0)) (some 65) rfl rfl (by kernel_rfl) (by kernel_rfl) (by kernel_rfl) (fun _ _ _ h => h) (Or.inl ⟨by rfl, fun _ _ => by go_simp⟩) hHeld ?_
  simp only [Act.put, List.setIfInBounds_toArray, List.set_cons_zero, List.set_cons_succ]
  refine rg_take (i := 6) (v := (.pointer (some ⟨w.heap.size + 1, 0, none⟩))) (some 66) rfl rfl (by kernel_rfl) (by kernel_rfl) (by kernel_rfl) (fun _ _ _ h => h) (Or.inl ⟨by rfl, fun _ _ => by go_simp⟩) hHeld ?_
  simp only [Act.put, List.setIfInBounds_toArray, List.set_cons_zero, List.set_cons_succ]
  refine rg_take (i := 7) (v := (.int .i64 (f : Int))) (some 67) rfl rfl (by kernel_rfl) (by kernel_rfl) (by kernel_rfl) (fun _ _ _ h => h) (Or.inl ⟨by rfl, fun w' h => by have h' := kept_cell h (hcf); go_simp⟩) hHeld ?_
  simp only [Act.put, List.setIfInBounds_toArray, List.set_cons_zero, List.set_cons_succ]
  refine wpAnyH_ready (rs := [8]) (by kernel_rfl) (by simp) ?_
  refine AllReadyH.cons rfl (fun K hK => ?_) AllReadyH.nil
  go_simp
  refine (HOf.out _).mono ?_
  rintro e W ⟨v, rfl, hR, kW⟩
  refine hK.out _ _ (hHeld.trans kW) (fun _ => ?_)
  replace hHeld := hHeld.trans kW
  clear hK K
  refine rg_take (i := 9) (v := v) (some 7) rfl rfl (by kernel_rfl) (by kernel_rfl) (by kernel_rfl) (fun _ _ _ h => h) (Or.inl ⟨by rfl, fun _ _ => by go_simp⟩) hHeld ?_
  simp only [Act.put, List.setIfInBounds_toArray, List.set_cons_zero, List.set_cons_succ]
  refine wpAnyH_done (by kernel_rfl) ?_ _
  have HKW := Lib.hid hHeld
  have HPW := Lib.hid (HP.out.kept hHeld)
  have HMW := Lib.hid (MAt.kept HM.out hHeld)
  have hctW := kept_cell hHeld hct
  clear hHeld kW hcf hx0 hct hsq htn HPr HMr
  by_cases hL : 0 < L.length
  · obtain ⟨g7, c7, rfl, hn1, hn2, hrow⟩ := hR.read hL
    unfold maxLen at hn2
    have HRow := Lib.hid hrow
    generalize hN : L.length = N at *
    have HNN := Lib.hid hN
    clear hR hrow hN
    go_wp2
    go_loopw [8] (fun t8 wr => ∃ i : Nat, i ≤ N ∧ t8 = .int .i64 i ∧ (∀ j l, j < i → L[j]? = some l → l[0]? ≠ some (t : Int)) ∧ Kept W wr) (fun t8 _ => N - (intOf t8).toNat)
    case atStart => exact ⟨0, by omega, rfl, fun j l hj => by omega, Kept.refl _⟩
    case round =>
      obtain ⟨i, hi, rfl, hno, hK⟩ := hrel
      have HNo := Lib.hid hno
      have HK := Lib.hid hK
      have hctR := kept_cell hK hctW
      clear hno
      by_cases hlt : i < N
      · have hlt' : (i : Int) < (N : Int) := by omega
        obtain ⟨l, hl⟩ : ∃ l, L[i]? = some l := ⟨_, List.getElem?_eq_getElem (by have := HNN.out; omega)⟩
        obtain ⟨u, g, hcu, hls, _⟩ := HRow.out i l hl
        have hpos := HPos.out l (List.mem_of_getElem? hl)
        obtain ⟨y, hy⟩ : ∃ y, l[0]? = some y := ⟨_, List.getElem?_eq_getElem hpos⟩
        obtain ⟨off, cu, rfl, hk1, hk2, hcell⟩ := hls.full hpos
        have Hl := Lib.hid hl
        have d1 := kept_cell hK (hcell 0 y hy)
        have d0 := kept_cell hK hcu
        rw [Nat.add_zero] at d1
        have HY := Lib.hid hy
        have hbm : l.length ≤ 9223372036854775807 := by unfold maxLen at hk2; omega
        have HMr := Lib.hid (MAt.kept HMW.out hK)
        have HPr := Lib.hid (HPW.out.kept hK)
        clear hl hy hcell hk1 hk2 hcu hls hK
        generalize hM : l.length = M at *
        clear hM
        have hposI : (0 : Int) < (M : Int) := by omega
        by_cases hto : y = (t : Int)
        · have b0 : (y == (t : Int)) = true := by simpa using hto
          have HE := Lib.hid (HF.out i l Hl.out (by rw [HY.out, hto]))
          clear hto
          go_wp2
          refine wp_region_held_drew (S := Kept _) (by kernel_rfl) (Kept.refl _).drew (fun hHeld => ?_)
          refine rg_take (i := 0) (v := (.slice (some ⟨g7, 0, none⟩) N c7)) (some 75) rfl rfl (by kernel_rfl) (by kernel_rfl) (by kernel_rfl) (fun _ _ _ h => h) (Or.inl ⟨by rfl, fun _ _ => by go_simp⟩) hHeld ?_
          simp only [Act.put, List.setIfInBounds_toArray, List.set_cons_zero, List.set_cons_succ]
          refine rg_take (i := 1) (v := (.int .i64 (i : Int))) (some 76) rfl rfl (by kernel_rfl) (by kernel_rfl) (by kernel_rfl) (fun _ _ _ h => h) (Or.inl ⟨by rfl, fun _ _ => by go_simp⟩) hHeld ?_
          simp only [Act.put, List.setIfInBounds_toArray, List.set_cons_zero, List.set_cons_succ]
          refine rg_take (i := 2) (v := (.pointer (some ⟨g7, i, none⟩))) (some 77) rfl rfl (by kernel_rfl) (by kernel_rfl) (by kernel_rfl) (fun _ _ _ h => h) (Or.inl ⟨by rfl, fun _ _ => by go_simp⟩) hHeld ?_
          simp only [Act.put, List.setIfInBounds_toArray, List.set_cons_zero, List.set_cons_succ]
          refine rg_take (i := 3) (v := (.slice (some ⟨g, off, none⟩) M cu)) (some 78) rfl rfl (by kernel_rfl) (by kernel_rfl) (by kernel_rfl) (fun _ _ _ h => h) (Or.inl ⟨by rfl, fun w' h => by have h' := kept_cell h (d0); go_simp⟩) hHeld ?_
          simp only [Act.put, List.setIfInBounds_toArray, List.set_cons_zero, List.set_cons_succ]
          refine rg_take (i := 4) (v := (.pointer (some ⟨g, off, none⟩))) (some 79) rfl rfl (by kernel_rfl) (by kernel_rfl) (by kernel_rfl) (fun _ _ _ h => h) (Or.inl ⟨by rfl, fun _ _ => by go_simp⟩) hHeld ?_
          simp only [Act.put, List.setIfInBounds_toArray, List.set_cons_zero, List.set_cons_succ]
          refine rg_take (i := 5) (v := (.int .i64 y)) (some 80) rfl rfl (by kernel_rfl) (by kernel_rfl) (by kernel_rfl) (fun _ _ _ h => h) (Or.inl ⟨by rfl, fun w' h => by have h' := kept_cell h (d1); go_simp⟩) hHeld ?_
          simp only [Act.put, List.setIfInBounds_toArray, List.set_cons_zero, List.set_cons_succ]
          refine rg_take (i := 6) (v := (.pointer (some ⟨w.heap.size + 1, 1, none⟩))) (some 81) rfl rfl (by kernel_rfl) (by kernel_rfl) (by kernel_rfl) (fun _ _ _ h => h) (Or.inl ⟨by rfl, fun _ _ => by go_simp⟩) hHeld ?_
          simp only [Act.put, List.setIfInBounds_toArray, List.set_cons_zero, List.set_cons_succ]
          refine rg_take (i := 7) (v := (.int .i64 (t : Int))) (some 82) rfl rfl (by kernel_rfl) (by kernel_rfl) (by kernel_rfl) (fun _ _ _ h => h) (Or.inl ⟨by rfl, fun w' h => by have h' := kept_cell h (hctR); go_simp⟩) hHeld ?_
          simp only [Act.put, List.setIfInBounds_toArray, List.set_cons_zero, List.set_cons_succ]
          refine rg_take (i := 8) (v := (.bool true)) (some 83) rfl rfl (by kernel_rfl) (by kernel_rfl) (by kernel_rfl) (fun _ _ _ h => h) (Or.inl ⟨by rfl, fun _ _ => by go_simp⟩) hHeld ?_
          simp only [Act.put, List.setIfInBounds_toArray, List.set_cons_zero, List.set_cons_succ]
          refine wpAnyH_done (by kernel_rfl) ?_ _
          have HK2 := Lib.hid (HK.out.trans hHeld)
          have HM2 := Lib.hid (MAt.kept HMr.out hHeld)
          have HP2 := Lib.hid (HPr.out.kept hHeld)
          clear hHeld
          go_wp2_with (first | (refine wpList_load_ps (by rfl) _ rfl _ rfl _ (HP2.out) ?_) | (refine wpList_load_pb (by rfl) _ rfl _ rfl _ (HP2.out) ?_) | (refine wpList_load_mv (by rfl) _ rfl _ rfl _ (HM2.out) ?_))
          refine (HTk.out _).mono ?_
          rintro e w3 ⟨rfl, k3⟩
          have HK3 := Lib.hid (HK2.out.trans k3)
          clear k3
          go_wp2
          go_ret
          exact ⟨by rw [HV.out, HE.out, Bool.true_and]; rfl, (HK0.out.trans HKW.out).trans HK3.out⟩
        · have b0 : (y == (t : Int)) = false := by simpa using hto
          have HTo := Lib.hid hto
          clear hto
          go_wp2
          refine wp_region_held_drew (S := Kept _) (by kernel_rfl) (Kept.refl _).drew (fun hHeld => ?_)
          refine rg_take (i := 0) (v := (.slice (some ⟨g7, 0, none⟩) N c7)) (some 75) rfl rfl (by kernel_rfl) (by kernel_rfl) (by kernel_rfl) (fun _ _ _ h => h) (Or.inl ⟨by rfl, fun _ _ => by go_simp⟩) hHeld ?_
          simp only [Act.put, List.setIfInBounds_toArray, List.set_cons_zero, List.set_cons_succ]
          refine rg_take (i := 1) (v := (.int .i64 (i : Int))) (some 76) rfl rfl (by kernel_rfl) (by kernel_rfl) (by kernel_rfl) (fun _ _ _ h => h) (Or.inl ⟨by rfl, fun _ _ => by go_simp⟩) hHeld ?_
          simp only [Act.put, List.setIfInBounds_toArray, List.set_cons_zero, List.set_cons_succ]
          refine rg_take (i := 2) (v := (.pointer (some ⟨g7, i, none⟩))) (some 77) rfl rfl (by kernel_rfl) (by kernel_rfl) (by kernel_rfl) (fun _ _ _ h => h) (Or.inl ⟨by rfl, fun _ _ => by go_simp⟩) hHeld ?_
          simp only [Act.put, List.setIfInBounds_toArray, List.set_cons_zero, List.set_cons_succ]
          refine rg_take (i := 3) (v := (.slice (some ⟨g, off, none⟩) M cu)) (some 78) rfl rfl (by kernel_rfl) (by kernel_rfl) (by kernel_rfl) (fun _ _ _ h => h) (Or.inl ⟨by rfl, fun w' h => by have h' := kept_cell h (d0); go_simp⟩) hHeld ?_
          simp only [Act.put, List.setIfInBounds_toArray, List.set_cons_zero, List.set_cons_succ]
          refine rg_take (i := 4) (v := (.pointer (some ⟨g, off, none⟩))) (some 79) rfl rfl (by kernel_rfl) (by kernel_rfl) (by kernel_rfl) (fun _ _ _ h => h) (Or.inl ⟨by rfl, fun _ _ => by go_simp⟩) hHeld ?_
          simp only [Act.put, List.setIfInBounds_toArray, List.set_cons_zero, List.set_cons_succ]
          refine rg_take (i := 5) (v := (.int .i64 y)) (some 80) rfl rfl (by kernel_rfl) (by kernel_rfl) (by kernel_rfl) (fun _ _ _ h => h) (Or.inl ⟨by rfl, fun w' h => by have h' := kept_cell h (d1); go_simp⟩) hHeld ?_
          simp only [Act.put, List.setIfInBounds_toArray, List.set_cons_zero, List.set_cons_succ]
          refine rg_take (i := 6) (v := (.pointer (some ⟨w.heap.size + 1, 1, none⟩))) (some 81) rfl rfl (by kernel_rfl) (by kernel_rfl) (by kernel_rfl) (fun _ _ _ h => h) (Or.inl ⟨by rfl, fun _ _ => by go_simp⟩) hHeld ?_
          simp only [Act.put, List.setIfInBounds_toArray, List.set_cons_zero, List.set_cons_succ]
          refine rg_take (i := 7) (v := (.int .i64 (t : Int))) (some 82) rfl rfl (by kernel_rfl) (by kernel_rfl) (by kernel_rfl) (fun _ _ _ h => h) (Or.inl ⟨by rfl, fun w' h => by have h' := kept_cell h (hctR); go_simp⟩) hHeld ?_
          simp only [Act.put, List.setIfInBounds_toArray, List.set_cons_zero, List.set_cons_succ]
          refine rg_take (i := 8) (v := (.bool false)) (some 83) rfl rfl (by kernel_rfl) (by kernel_rfl) (by kernel_rfl) (fun _ _ _ h => h) (Or.inl ⟨by rfl, fun _ _ => by go_simp⟩) hHeld ?_
          simp only [Act.put, List.setIfInBounds_toArray, List.set_cons_zero, List.set_cons_succ]
          refine wpAnyH_done (by kernel_rfl) ?_ _
          have HK2 := Lib.hid (HK.out.trans hHeld)
          clear hHeld
          go_wp2
          go_roundw
          case rel => exact ⟨i + 1, by omega, by go_num, fun j l' hj hl' => by
            by_cases hji : j < i
            · exact HNo.out j l' hji hl'
            · obtain rfl : j = i := by omega
              rw [Hl.out] at hl'
              rw [← Option.some.inj hl', HY.out]
              exact fun e => HTo.out (Option.some.inj e), HK2.out⟩
          case measure => simp [intOf]; omega
      · have hlt' : ¬ (i : Int) < (N : Int) := by omega
        have HE := Lib.hid (HN.out (fun j l hl => HNo.out j l (by have := (List.getElem?_eq_some_iff.1 hl).1; have := HNN.out; omega) hl))
        clear hK
        go_wp2
        go_ret
        exact ⟨by rw [HV.out, HE.out, Bool.false_and]; rfl, (HK0.out.trans HKW.out).trans HK.out⟩
  · have h0 : L = [] := List.eq_nil_of_length_eq_zero (by omega)
    have HE := Lib.hid (HN.out (fun j l hl => by rw [h0] at hl; simp at hl))
    subst h0
    obtain ⟨a7, c7, rfl⟩ := hR.slice
    clear hR
    go_wp2
    go_loopw [8] (fun t8 wr => t8 = .int .i64 0 ∧ wr = W) (fun _ _ => 0)
    case atStart => exact ⟨rfl, rfl⟩
    case round =>
      obtain ⟨rfl, rfl⟩ := hrel
      go_wp2
      go_ret
      exact ⟨by rw [HV.out, HE.out, Bool.false_and]; rfl, HK0.out.trans HKW.out⟩
set_option maxHeartbeats 4000000 in
theorem rpgo_w4 (p : Ps) (m : Mv) (f t : Nat) (h : Pf p m f t) (hp : p.t = 0) (h0 : p.B.getD t 0 = 0) (hq : ((t : Int) == (f : Int) + (8)) = false) (hq2 : ((t : Int) == (f : Int) + (16)) = false) (w : World) :
    Calls Tryz.prog 28 #[.agg (pl p).toArray, .agg (ml m).toArray] w fun e w' => e = .returned (.bool (pgoB p m)) ∧ Kept w w' := by
  have hB := h.pw.brd
  have HP : Hid (PAt _ _ p) := ⟨hB.1, heap_alloc2_old w (.cells (pl p).toArray 26) (.cells (ml m).toArray 35)⟩
  have HM : Hid (MAt _ _ m) := ⟨heap_alloc2_new w (.cells (pl p).toArray 26) (.cells (ml m).toArray 35)⟩
  have HK0 := Lib.hid (((Kept.refl w).alloc (.cells (pl p).toArray 26)).alloc (.cells (ml m).toArray 35))
  have hcf := HM.out.f
  have hct := HM.out.t
  rw [h.hf] at hcf
  rw [h.ht] at hct
  have htn := HP.out.turn
  rw [hp] at htn
  have hsq := HP.out.sq t h.t1
  have hrk := h.pw.rank
  have ht1 := h.t1
  have HV := Lib.hid (pgo_split h (8) 1 (by rw [hp]; rfl) (by rw [hp]; rfl))
  have htI : (t : Int) < 64 := by omega
  have hw1 : IntKind.i64.wrap ((f : Int) + (8)) = (f : Int) + (8) := wr64 (by omega) (by omega)
  have hw2 : IntKind.i64.wrap ((f : Int) + (16)) = (f : Int) + 2 * (8) := by rw [wr64 (by omega) (by omega)]; omega
  have hsf := HP.out.sq f h.pw.s1
  have HTk := Lib.hid (fun w => rtakes_is p hB m h.on w)
  have hns : slidesB (bAt p.B (f : Int)) = false := by unfold slidesB; rw [knd_kind, show bAt p.B (f : Int) = p.B.getD f 0 from rfl, h.pw.kind]; rfl
  have HF := Lib.hid (fun (i : Nat) (l : List Int) => hit_first (B := p.B) (s := (f : Int)) (to := (t : Int)) (i := i) (l := l))
  have HN := Lib.hid (hit_nowhere (to := (t : Int)) hns)
  have HPos := Lib.hid (fun l (hl : l ∈ ofL (bAt p.B (f : Int)) (f : Int)) => (ofL_pos hl).1)
  have hbd := hB.2 f h.pw.s1
  have hwx := i8_i64 hB h.pw.s1
  have hx : bAt p.B (f : Int) = p.B.getD f 0 := rfl
  rw [hx] at HF HN HPos
  have HOf := Lib.hid (rof_is (p.B.getD f 0) (f : Int))
  have hx0 := hsf
  have hfI : (f : Int) < 64 := by have := h.pw.s1; omega
  generalize hitB p.B (f : Int) (t : Int) = hb at *
  generalize takeI p m = tk at *
  generalize ofL (p.B.getD f 0) (f : Int) = L at *
  generalize p.B.getD f 0 = x0 at *
  rw [h0] at hsq
  have HV' : Hid (pgoB p m = (hb && decide (0 ≤ tk))) := by show _ = _; have hq2' : ((t : Int) == (f : Int) + 2 * (8)) = false := hq2; rw [HV.out, h0, hq, hq2']; simp
  clear HV
  have HV := HV'
  clear HV' h0
  go_enter Tryz.func28, Tryz.ntmps28
  go_wp2
  clear hq hq2
  have HPr := Lib.hid HP.out
  have HMr := Lib.hid HM.out
  refine wp_region_held_drew (S := Kept _) (by kernel_rfl) (Kept.refl _).drew (fun hHeld => ?_)
  refine rg_take (i := 0) (v := (.pointer (some ⟨w.heap.size + 1, 0, none⟩))) (some 60) rfl rfl (by kernel_rfl) (by kernel_rfl) (by kernel_rfl) (fun _ _ _ h => h) (Or.inl ⟨by rfl, fun _ _ => by go_simp⟩) hHeld ?_
  simp only [Act.put, List.setIfInBounds_toArray, List.set_cons_zero, List.set_cons_succ]
  refine rg_take (i := 1) (v := (.int .i64 (f : Int))) (some 61) rfl rfl (by kernel_rfl) (by kernel_rfl) (by kernel_rfl) (fun _ _ _ h => h) (Or.inl ⟨by rfl, fun w' h => by have h' := kept_cell h (hcf); go_simp⟩) hHeld ?_
  simp only [Act.put, List.setIfInBounds_toArray, List.set_cons_zero, List.set_cons_succ]
  refine rg_take (i := 2) (v := (.pointer (some ⟨w.heap.size, 0, none⟩))) (some 62) rfl rfl (by kernel_rfl) (by kernel_rfl) (by kernel_rfl) (fun _ _ _ h => h) (Or.inl ⟨by rfl, fun _ _ => by go_simp⟩) hHeld ?_
  simp only [Act.put, List.setIfInBounds_toArray, List.set_cons_zero, List.set_cons_succ]
  refine rg_take (i := 3) (v := (.pointer (some ⟨w.heap.size, f, none⟩))) (some 63) rfl rfl (by kernel_rfl) (by kernel_rfl) (by kernel_rfl) (fun _ _ _ h => h) (Or.inl ⟨by rfl, fun _ _ => by go_simp⟩) hHeld ?_
  simp only [Act.put, List.setIfInBounds_toArray, List.set_cons_zero, List.set_cons_succ]
  refine rg_take (i := 4) (v := (.int .i8 x0)) (some 64) rfl rfl (by kernel_rfl) (by kernel_rfl) (by kernel_rfl) (fun _ _ _ h => h) (Or.inl ⟨by rfl, fun w' h => by have h' := kept_cell h (hx0); go_simp⟩) hHeld ?_
  simp only [Act.put, List.setIfInBounds_toArray, List.set_cons_zero, List.set_cons_succ]
  refine rg_take (i := 5) (v := (.int .i64 x0)) (some 65) rfl rfl (by kernel_rfl) (by kernel_rfl) (by kernel_rfl) (fun _ _ _ h => h) (Or.inl ⟨by rfl, fun _ _ => by go_simp⟩) hHeld ?_
  simp only [Act.put, List.setIfInBounds_toArray, List.set_cons_zero, List.set_cons_succ]
  refine rg_take (i := 6) (v := (.pointer (some ⟨w.heap.size + 1, 0, none⟩))) (some 66) rfl rfl (by kernel_rfl) (by kernel_rfl) (by kernel_rfl) (fun _ _ _ h => h) (Or.inl ⟨by rfl, fun _ _ => by go_simp⟩) hHeld ?_
  simp only [Act.put, List.setIfInBounds_toArray, List.set_cons_zero, List.set_cons_succ]
  refine rg_take (i := 7) (v := (.int .i64 (f : Int))) (some 67) rfl rfl (by kernel_rfl) (by kernel_rfl) (by kernel_rfl) (fun _ _ _ h => h) (Or.inl ⟨by rfl, fun w' h => by have h' := kept_cell h (hcf); go_simp⟩) hHeld ?_
  simp only [Act.put, List.setIfInBounds_toArray, List.set_cons_zero, List.set_cons_succ]
  refine wpAnyH_ready (rs := [8]) (by kernel_rfl) (by simp) ?_
  refine AllReadyH.cons rfl (fun K hK => ?_) AllReadyH.nil
  go_simp
  refine (HOf.out _).mono ?_
  rintro e W ⟨v, rfl, hR, kW⟩
  refine hK.out _ _ (hHeld.trans kW) (fun _ => ?_)
  replace hHeld := hHeld.trans kW
  clear hK K
  refine rg_take (i := 9) (v := v) (some 7) rfl rfl (by kernel_rfl) (by kernel_rfl) (by kernel_rfl) (fun _ _ _ h => h) (Or.inl ⟨by rfl, fun _ _ => by go_simp⟩) hHeld ?_
  simp only [Act.put, List.setIfInBounds_toArray, List.set_cons_zero, List.set_cons_succ]
  refine wpAnyH_done (by kernel_rfl) ?_ _
  have HKW := Lib.hid hHeld
  have HPW := Lib.hid (HP.out.kept hHeld)
  have HMW := Lib.hid (MAt.kept HM.out hHeld)
  have hctW := kept_cell hHeld hct
  clear hHeld kW hcf hx0 hct hsq htn HPr HMr
  by_cases hL : 0 < L.length
  · obtain ⟨g7, c7, rfl, hn1, hn2, hrow⟩ := hR.read hL
    unfold maxLen at hn2
    have HRow := Lib.hid hrow
    generalize hN : L.length = N at *
    have HNN := Lib.hid hN
    clear hR hrow hN
    go_wp2
    go_loopw [8] (fun t8 wr => ∃ i : Nat, i ≤ N ∧ t8 = .int .i64 i ∧ (∀ j l, j < i → L[j]? = some l → l[0]? ≠ some (t : Int)) ∧ Kept W wr) (fun t8 _ => N - (intOf t8).toNat)
    case atStart => exact ⟨0, by omega, rfl, fun j l hj => by omega, Kept.refl _⟩
    case round =>
      obtain ⟨i, hi, rfl, hno, hK⟩ := hrel
      have HNo := Lib.hid hno
      have HK := Lib.hid hK
      have hctR := kept_cell hK hctW
      clear hno
      by_cases hlt : i < N
      · have hlt' : (i : Int) < (N : Int) := by omega
        obtain ⟨l, hl⟩ : ∃ l, L[i]? = some l := ⟨_, List.getElem?_eq_getElem (by have := HNN.out; omega)⟩
        obtain ⟨u, g, hcu, hls, _⟩ := HRow.out i l hl
        have hpos := HPos.out l (List.mem_of_getElem? hl)
        obtain ⟨y, hy⟩ : ∃ y, l[0]? = some y := ⟨_, List.getElem?_eq_getElem hpos⟩
        obtain ⟨off, cu, rfl, hk1, hk2, hcell⟩ := hls.full hpos
        have Hl := Lib.hid hl
        have d1 := kept_cell hK (hcell 0 y hy)
        have d0 := kept_cell hK hcu
        rw [Nat.add_zero] at d1
        have HY := Lib.hid hy
        have hbm : l.length ≤ 9223372036854775807 := by unfold maxLen at hk2; omega
        have HMr := Lib.hid (MAt.kept HMW.out hK)
        have HPr := Lib.hid (HPW.out.kept hK)
        clear hl hy hcell hk1 hk2 hcu hls hK
        generalize hM : l.length = M at *
        clear hM
        have hposI : (0 : Int) < (M : Int) := by omega
        by_cases hto : y = (t : Int)
        · have b0 : (y == (t : Int)) = true := by simpa using hto
          have HE := Lib.hid (HF.out i l Hl.out (by rw [HY.out, hto]))
          clear hto
          go_wp2
          refine wp_region_held_drew (S := Kept _) (by kernel_rfl) (Kept.refl _).drew (fun hHeld => ?_)
          refine rg_take (i := 0) (v := (.slice (some ⟨g7, 0, none⟩) N c7)) (some 75) rfl rfl (by kernel_rfl) (by kernel_rfl) (by kernel_rfl) (fun _ _ _ h => h) (Or.inl ⟨by rfl, fun _ _ => by go_simp⟩) hHeld ?_
          simp only [Act.put, List.setIfInBounds_toArray, List.set_cons_zero, List.set_cons_succ]
          refine rg_take (i := 1) (v := (.int .i64 (i : Int))) (some 76) rfl rfl (by kernel_rfl) (by kernel_rfl) (by kernel_rfl) (fun _ _ _ h => h) (Or.inl ⟨by rfl, fun _ _ => by go_simp⟩) hHeld ?_
          simp only [Act.put, List.setIfInBounds_toArray, List.set_cons_zero, List.set_cons_succ]
          refine rg_take (i := 2) (v := (.pointer (some ⟨g7, i, none⟩))) (some 77) rfl rfl (by kernel_rfl) (by kernel_rfl) (by kernel_rfl) (fun _ _ _ h => h) (Or.inl ⟨by rfl, fun _ _ => by go_simp⟩) hHeld ?_
          simp only [Act.put, List.setIfInBounds_toArray, List.set_cons_zero, List.set_cons_succ]
          refine rg_take (i := 3) (v := (.slice (some ⟨g, off, none⟩) M cu)) (some 78) rfl rfl (by kernel_rfl) (by kernel_rfl) (by kernel_rfl) (fun _ _ _ h => h) (Or.inl ⟨by rfl, fun w' h => by have h' := kept_cell h (d0); go_simp⟩) hHeld ?_
          simp only [Act.put, List.setIfInBounds_toArray, List.set_cons_zero, List.set_cons_succ]
          refine rg_take (i := 4) (v := (.pointer (some ⟨g, off, none⟩))) (some 79) rfl rfl (by kernel_rfl) (by kernel_rfl) (by kernel_rfl) (fun _ _ _ h => h) (Or.inl ⟨by rfl, fun _ _ => by go_simp⟩) hHeld ?_
          simp only [Act.put, List.setIfInBounds_toArray, List.set_cons_zero, List.set_cons_succ]
          refine rg_take (i := 5) (v := (.int .i64 y)) (some 80) rfl rfl (by kernel_rfl) (by kernel_rfl) (by kernel_rfl) (fun _ _ _ h => h) (Or.inl ⟨by rfl, fun w' h => by have h' := kept_cell h (d1); go_simp⟩) hHeld ?_
          simp only [Act.put, List.setIfInBounds_toArray, List.set_cons_zero, List.set_cons_succ]
          refine rg_take (i := 6) (v := (.pointer (some ⟨w.heap.size + 1, 1, none⟩))) (some 81) rfl rfl (by kernel_rfl) (by kernel_rfl) (by kernel_rfl) (fun _ _ _ h => h) (Or.inl ⟨by rfl, fun _ _ => by go_simp⟩) hHeld ?_
          simp only [Act.put, List.setIfInBounds_toArray, List.set_cons_zero, List.set_cons_succ]
          refine rg_take (i := 7) (v := (.int .i64 (t : Int))) (some 82) rfl rfl (by kernel_rfl) (by kernel_rfl) (by kernel_rfl) (fun _ _ _ h => h) (Or.inl ⟨by rfl, fun w' h => by have h' := kept_cell h (hctR); go_simp⟩) hHeld ?_
          simp only [Act.put, List.setIfInBounds_toArray, List.set_cons_zero, List.set_cons_succ]
          refine rg_take (i := 8) (v := (.bool true)) (some 83) rfl rfl (by kernel_rfl) (by kernel_rfl) (by kernel_rfl) (fun _ _ _ h => h) (Or.inl ⟨by rfl, fun _ _ => by go_simp⟩) hHeld ?_
          simp only [Act.put, List.setIfInBounds_toArray, List.set_cons_zero, List.set_cons_succ]
          refine wpAnyH_done (by kernel_rfl) ?_ _
          have HK2 := Lib.hid (HK.out.trans hHeld)
          have HM2 := Lib.hid (MAt.kept HMr.out hHeld)
          have HP2 := Lib.hid (HPr.out.kept hHeld)
          clear hHeld
          go_wp2_with (first | (refine wpList_load_ps (by rfl) _ rfl _ rfl _ (HP2.out) ?_) | (refine wpList_load_pb (by rfl) _ rfl _ rfl _ (HP2.out) ?_) | (refine wpList_load_mv (by rfl) _ rfl _ rfl _ (HM2.out) ?_))
          refine (HTk.out _).mono ?_
          rintro e w3 ⟨rfl, k3⟩
          have HK3 := Lib.hid (HK2.out.trans k3)
          clear k3
          go_wp2
          go_ret
          exact ⟨by rw [HV.out, HE.out, Bool.true_and]; rfl, (HK0.out.trans HKW.out).trans HK3.out⟩
        · have b0 : (y == (t : Int)) = false := by simpa using hto
          have HTo := Lib.hid hto
          clear hto
          go_wp2
          refine wp_region_held_drew (S := Kept _) (by kernel_rfl) (Kept.refl _).drew (fun hHeld => ?_)
          refine rg_take (i := 0) (v := (.slice (some ⟨g7, 0, none⟩) N c7)) (some 75) rfl rfl (by kernel_rfl) (by kernel_rfl) (by kernel_rfl) (fun _ _ _ h => h) (Or.inl ⟨by rfl, fun _ _ => by go_simp⟩) hHeld ?_
          simp only [Act.put, List.setIfInBounds_toArray, List.set_cons_zero, List.set_cons_succ]
          refine rg_take (i := 1) (v := (.int .i64 (i : Int))) (some 76) rfl rfl (by kernel_rfl) (by kernel_rfl) (by kernel_rfl) (fun _ _ _ h => h) (Or.inl ⟨by rfl, fun _ _ => by go_simp⟩) hHeld ?_
          simp only [Act.put, List.setIfInBounds_toArray, List.set_cons_zero, List.set_cons_succ]
          refine rg_take (i := 2) (v := (.pointer (some ⟨g7, i, none⟩))) (some 77) rfl rfl (by kernel_rfl) (by kernel_rfl) (by kernel_rfl) (fun _ _ _ h => h) (Or.inl ⟨by rfl, fun _ _ => by go_simp⟩) hHeld ?_
          simp only [Act.put, List.setIfInBounds_toArray, List.set_cons_zero, List.set_cons_succ]
          refine rg_take (i := 3) (v := (.slice (some ⟨g, off, none⟩) M cu)) (some 78) rfl rfl (by kernel_rfl) (by kernel_rfl) (by kernel_rfl) (fun _ _ _ h => h) (Or.inl ⟨by rfl, fun w' h => by have h' := kept_cell h (d0); go_simp⟩) hHeld ?_
          simp only [Act.put, List.setIfInBounds_toArray, List.set_cons_zero, List.set_cons_succ]
          refine rg_take (i := 4) (v := (.pointer (some ⟨g, off, none⟩))) (some 79) rfl rfl (by kernel_rfl) (by kernel_rfl) (by kernel_rfl) (fun _ _ _ h => h) (Or.inl ⟨by rfl, fun _ _ => by go_simp⟩) hHeld ?_
          simp only [Act.put, List.setIfInBounds_toArray, List.set_cons_zero, List.set_cons_succ]
          refine rg_take (i := 5) (v := (.int .i64 y)) (some 80) rfl rfl (by kernel_rfl) (by kernel_rfl) (by kernel_rfl) (fun _ _ _ h => h) (Or.inl ⟨by rfl, fun w' h => by have h' := kept_cell h (d1); go_simp⟩) hHeld ?_
          simp only [Act.put, List.setIfInBounds_toArray, List.set_cons_zero, List.set_cons_succ]
          refine rg_take (i := 6) (v := (.pointer (some ⟨w.heap.size + 1, 1, none⟩))) (some 81) rfl rfl (by kernel_rfl) (by kernel_rfl) (by kernel_rfl) (fun _ _ _ h => h) (Or.inl ⟨by rfl, fun _ _ => by go_simp⟩) hHeld ?_
          simp only [Act.put, List.setIfInBounds_toArray, List.set_cons_zero, List.set_cons_succ]
          refine rg_take (i := 7) (v := (.int .i64 (t : Int))) (some 82) rfl rfl (by kernel_rfl) (by kernel_rfl) (by kernel_rfl) (fun _ _ _ h => h) (Or.inl ⟨by rfl, fun w' h => by have h' := kept_cell h (hctR); go_simp⟩) hHeld ?_
          simp only [Act.put, List.setIfInBounds_toArray, List.set_cons_zero, List.set_cons_succ]
          refine rg_take (i := 8) (v := (.bool false)) (some 83) rfl rfl (by kernel_rfl) (by kernel_rfl) (by kernel_rfl) (fun _ _ _ h => h) (Or.inl ⟨by rfl, fun _ _ => by go_simp⟩) hHeld ?_
          simp only [Act.put, List.setIfInBounds_toArray, List.set_cons_zero, List.set_cons_succ]
          refine wpAnyH_done (by kernel_rfl) ?_ _
          have HK2 := Lib.hid (HK.out.trans hHeld)
          clear hHeld
          go_wp2
          go_roundw
          case rel => exact ⟨i + 1, by omega, by go_num, fun j l' hj hl' => by
            by_cases hji : j < i
            · exact HNo.out j l' hji hl'
            · obtain rfl : j = i := by omega
              rw [Hl.out] at hl'
              rw [← Option.some.inj hl', HY.out]
              exact fun e => HTo.out (Option.some.inj e), HK2.out⟩
          case measure => simp [intOf]; omega
      · have hlt' : ¬ (i : Int) < (N : Int) := by omega
        have HE := Lib.hid (HN.out (fun j l hl => HNo.out j l (by have := (List.getElem?_eq_some_iff.1 hl).1; have := HNN.out; omega) hl))
        clear hK
        go_wp2
        go_ret
        exact ⟨by rw [HV.out, HE.out, Bool.false_and]; rfl, (HK0.out.trans HKW.out).trans HK.out⟩
  · have h0 : L = [] := List.eq_nil_of_length_eq_zero (by omega)
    have HE := Lib.hid (HN.out (fun j l hl => by rw [h0] at hl; simp at hl))
    subst h0
    obtain ⟨a7, c7, rfl⟩ := hR.slice
    clear hR
    go_wp2
    go_loopw [8] (fun t8 wr => t8 = .int .i64 0 ∧ wr = W) (fun _ _ => 0)
    case atStart => exact ⟨rfl, rfl⟩
    case round =>
      obtain ⟨rfl, rfl⟩ := hrel
      go_wp2
      go_ret
      exact ⟨by rw [HV.out, HE.out, Bool.false_and]; rfl, HK0.out.trans HKW.out⟩
set_option maxHeartbeats 4000000 in
theorem rpgo_w5 (p : Ps) (m : Mv) (f t : Nat) (h : Pf p m f t) (hp : p.t = 0) (h0 : (p.B.getD t 0 == 0) = false) (w : World) :
    Calls Tryz.prog 28 #[.agg (pl p).toArray, .agg (ml m).toArray] w fun e w' => e = .returned (.bool (pgoB p m)) ∧ Kept w w' := by
  have hB := h.pw.brd
  have HP : Hid (PAt _ _ p) := ⟨hB.1, heap_alloc2_old w (.cells (pl p).toArray 26) (.cells (ml m).toArray 35)⟩
  have HM : Hid (MAt _ _ m) := ⟨heap_alloc2_new w (.cells (pl p).toArray 26) (.cells (ml m).toArray 35)⟩
  have HK0 := Lib.hid (((Kept.refl w).alloc (.cells (pl p).toArray 26)).alloc (.cells (ml m).toArray 35))
  have hcf := HM.out.f
  have hct := HM.out.t
  rw [h.hf] at hcf
  rw [h.ht] at hct
  have htn := HP.out.turn
  rw [hp] at htn
  have hsq := HP.out.sq t h.t1
  have hrk := h.pw.rank
  have ht1 := h.t1
  have HV := Lib.hid (pgo_split h (8) 1 (by rw [hp]; rfl) (by rw [hp]; rfl))
  have htI : (t : Int) < 64 := by omega
  have hw1 : IntKind.i64.wrap ((f : Int) + (8)) = (f : Int) + (8) := wr64 (by omega) (by omega)
  have hw2 : IntKind.i64.wrap ((f : Int) + (16)) = (f : Int) + 2 * (8) := by rw [wr64 (by omega) (by omega)]; omega
  have hsf := HP.out.sq f h.pw.s1
  have HTk := Lib.hid (fun w => rtakes_is p hB m h.on w)
  have hns : slidesB (bAt p.B (f : Int)) = false := by unfold slidesB; rw [knd_kind, show bAt p.B (f : Int) = p.B.getD f 0 from rfl, h.pw.kind]; rfl
  have HF := Lib.hid (fun (i : Nat) (l : List Int) => hit_first (B := p.B) (s := (f : Int)) (to := (t : Int)) (i := i) (l := l))
  have HN := Lib.hid (hit_nowhere (to := (t : Int)) hns)
  have HPos := Lib.hid (fun l (hl : l ∈ ofL (bAt p.B (f : Int)) (f : Int)) => (ofL_pos hl).1)
  have hbd := hB.2 f h.pw.s1
  have hwx := i8_i64 hB h.pw.s1
  have hx : bAt p.B (f : Int) = p.B.getD f 0 := rfl
  rw [hx] at HF HN HPos
  have HOf := Lib.hid (rof_is (p.B.getD f 0) (f : Int))
  have hx0 := hsf
  have hfI : (f : Int) < 64 := by have := h.pw.s1; omega
  generalize hitB p.B (f : Int) (t : Int) = hb at *
  generalize takeI p m = tk at *
  generalize ofL (p.B.getD f 0) (f : Int) = L at *
  generalize p.B.getD f 0 = x0 at *
  generalize p.B.getD t 0 = x1 at *
  have HV' : Hid (pgoB p m = (hb && decide (0 ≤ tk))) := by show _ = _; rw [HV.out, h0]; simp
  clear HV
  have HV := HV'
  clear HV'
  go_enter Tryz.func28, Tryz.ntmps28
  go_wp2
  have HPr := Lib.hid HP.out
  have HMr := Lib.hid HM.out
  refine wp_region_held_drew (S := Kept _) (by kernel_rfl) (Kept.refl _).drew (fun hHeld => ?_)
  refine rg_take (i := 0) (v := (.pointer (some ⟨w.heap.size + 1, 0, none⟩))) (some 60) rfl rfl (by kernel_rfl) (by kernel_rfl) (by kernel_rfl) (fun _ _ _ h => h) (Or.inl ⟨by rfl, fun _ _ => by go_simp⟩) hHeld ?_
  simp only [Act.put, List.setIfInBounds_toArray, List.set_cons_zero, List.set_cons_succ]
  refine rg_take (i := 1) (v := (.int .i64 (f : Int))) (some 61) rfl rfl (by kernel_rfl) (by kernel_rfl) (by kernel_rfl) (fun _ _ _ h => h) (Or.inl ⟨by rfl, fun w' h => by have h' := kept_cell h (hcf); go_simp⟩) hHeld ?_
  simp only [Act.put, List.setIfInBounds_toArray, List.set_cons_zero, List.set_cons_succ]
  refine rg_take (i := 2) (v := (.pointer (some ⟨w.heap.size, 0, none⟩))) (some 62) rfl rfl (by kernel_rfl) (by kernel_rfl) (by kernel_rfl) (fun _ _ _ h => h) (Or.inl ⟨by rfl, fun _ _ => by go_simp⟩) hHeld ?_
  simp only [Act.put, List.setIfInBounds_toArray, List.set_cons_zero, List.set_cons_succ]
  refine rg_take (i := 3) (v := (.pointer (some ⟨w.heap.size, f, none⟩))) (some 63) rfl rfl (by kernel_rfl) (by kernel_rfl) (by kernel_rfl) (fun _ _ _ h => h) (Or.inl ⟨by rfl, fun _ _ => by go_simp⟩) hHeld ?_
  simp only [Act.put, List.setIfInBounds_toArray, List.set_cons_zero, List.set_cons_succ]
  refine rg_take (i := 4) (v := (.int .i8 x0)) (some 64) rfl rfl (by kernel_rfl) (by kernel_rfl) (by kernel_rfl) (fun _ _ _ h => h) (Or.inl ⟨by rfl, fun w' h => by have h' := kept_cell h (hx0); go_simp⟩) hHeld ?_
  simp only [Act.put, List.setIfInBounds_toArray, List.set_cons_zero, List.set_cons_succ]
  refine rg_take (i := 5) (v := (.int .i64 x0)) (some 65) rfl rfl (by kernel_rfl) (by kernel_rfl) (by kernel_rfl) (fun _ _ _ h => h) (Or.inl ⟨by rfl, fun _ _ => by go_simp⟩) hHeld ?_
  simp only [Act.put, List.setIfInBounds_toArray, List.set_cons_zero, List.set_cons_succ]
  refine rg_take (i := 6) (v := (.pointer (some ⟨w.heap.size + 1, 0, none⟩))) (some 66) rfl rfl (by kernel_rfl) (by kernel_rfl) (by kernel_rfl) (fun _ _ _ h => h) (Or.inl ⟨by rfl, fun _ _ => by go_simp⟩) hHeld ?_
  simp only [Act.put, List.setIfInBounds_toArray, List.set_cons_zero, List.set_cons_succ]
  refine rg_take (i := 7) (v := (.int .i64 (f : Int))) (some 67) rfl rfl (by kernel_rfl) (by kernel_rfl) (by kernel_rfl) (fun _ _ _ h => h) (Or.inl ⟨by rfl, fun w' h => by have h' := kept_cell h (hcf); go_simp⟩) hHeld ?_
  simp only [Act.put, List.setIfInBounds_toArray, List.set_cons_zero, List.set_cons_succ]
  refine wpAnyH_ready (rs := [8]) (by kernel_rfl) (by simp) ?_
  refine AllReadyH.cons rfl (fun K hK => ?_) AllReadyH.nil
  go_simp
  refine (HOf.out _).mono ?_
  rintro e W ⟨v, rfl, hR, kW⟩
  refine hK.out _ _ (hHeld.trans kW) (fun _ => ?_)
  replace hHeld := hHeld.trans kW
  clear hK K
  refine rg_take (i := 9) (v := v) (some 7) rfl rfl (by kernel_rfl) (by kernel_rfl) (by kernel_rfl) (fun _ _ _ h => h) (Or.inl ⟨by rfl, fun _ _ => by go_simp⟩) hHeld ?_
  simp only [Act.put, List.setIfInBounds_toArray, List.set_cons_zero, List.set_cons_succ]
  refine wpAnyH_done (by kernel_rfl) ?_ _
  have HKW := Lib.hid hHeld
  have HPW := Lib.hid (HP.out.kept hHeld)
  have HMW := Lib.hid (MAt.kept HM.out hHeld)
  have hctW := kept_cell hHeld hct
  clear hHeld kW hcf hx0 hct hsq htn HPr HMr
  by_cases hL : 0 < L.length
  · obtain ⟨g7, c7, rfl, hn1, hn2, hrow⟩ := hR.read hL
    unfold maxLen at hn2
    have HRow := Lib.hid hrow
    generalize hN : L.length = N at *
    have HNN := Lib.hid hN
    clear hR hrow hN
    go_wp2
    go_loopw [8] (fun t8 wr => ∃ i : Nat, i ≤ N ∧ t8 = .int .i64 i ∧ (∀ j l, j < i → L[j]? = some l → l[0]? ≠ some (t : Int)) ∧ Kept W wr) (fun t8 _ => N - (intOf t8).toNat)
    case atStart => exact ⟨0, by omega, rfl, fun j l hj => by omega, Kept.refl _⟩
    case round =>
      obtain ⟨i, hi, rfl, hno, hK⟩ := hrel
      have HNo := Lib.hid hno
      have HK := Lib.hid hK
      have hctR := kept_cell hK hctW
      clear hno
      by_cases hlt : i < N
      · have hlt' : (i : Int) < (N : Int) := by omega
        obtain ⟨l, hl⟩ : ∃ l, L[i]? = some l := ⟨_, List.getElem?_eq_getElem (by have := HNN.out; omega)⟩
        obtain ⟨u, g, hcu, hls, _⟩ := HRow.out i l hl
        have hpos := HPos.out l (List.mem_of_getElem? hl)
        obtain ⟨y, hy⟩ : ∃ y, l[0]? = some y := ⟨_, List.getElem?_eq_getElem hpos⟩
        obtain ⟨off, cu, rfl, hk1, hk2, hcell⟩ := hls.full hpos
        have Hl := Lib.hid hl
        have d1 := kept_cell hK (hcell 0 y hy)
        have d0 := kept_cell hK hcu
        rw [Nat.add_zero] at d1
        have HY := Lib.hid hy
        have hbm : l.length ≤ 9223372036854775807 := by unfold maxLen at hk2; omega
        have HMr := Lib.hid (MAt.kept HMW.out hK)
        have HPr := Lib.hid (HPW.out.kept hK)
        clear hl hy hcell hk1 hk2 hcu hls hK
        generalize hM : l.length = M at *
        clear hM
        have hposI : (0 : Int) < (M : Int) := by omega
        by_cases hto : y = (t : Int)
        · have b0 : (y == (t : Int)) = true := by simpa using hto
          have HE := Lib.hid (HF.out i l Hl.out (by rw [HY.out, hto]))
          clear hto
          go_wp2
          refine wp_region_held_drew (S := Kept _) (by kernel_rfl) (Kept.refl _).drew (fun hHeld => ?_)
          refine rg_take (i := 0) (v := (.slice (some ⟨g7, 0, none⟩) N c7)) (some 75) rfl rfl (by kernel_rfl) (by kernel_rfl) (by kernel_rfl) (fun _ _ _ h => h) (Or.inl ⟨by rfl, fun _ _ => by go_simp⟩) hHeld ?_
          simp only [Act.put, List.setIfInBounds_toArray, List.set_cons_zero, List.set_cons_succ]
          refine rg_take (i := 1) (v := (.int .i64 (i : Int))) (some 76) rfl rfl (by kernel_rfl) (by kernel_rfl) (by kernel_rfl) (fun _ _ _ h => h) (Or.inl ⟨by rfl, fun _ _ => by go_simp⟩) hHeld ?_
          simp only [Act.put, List.setIfInBounds_toArray, List.set_cons_zero, List.set_cons_succ]
          refine rg_take (i := 2) (v := (.pointer (some ⟨g7, i, none⟩))) (some 77) rfl rfl (by kernel_rfl) (by kernel_rfl) (by kernel_rfl) (fun _ _ _ h => h) (Or.inl ⟨by rfl, fun _ _ => by go_simp⟩) hHeld ?_
          simp only [Act.put, List.setIfInBounds_toArray, List.set_cons_zero, List.set_cons_succ]
          refine rg_take (i := 3) (v := (.slice (some ⟨g, off, none⟩) M cu)) (some 78) rfl rfl (by kernel_rfl) (by kernel_rfl) (by kernel_rfl) (fun _ _ _ h => h) (Or.inl ⟨by rfl, fun w' h => by have h' := kept_cell h (d0); go_simp⟩) hHeld ?_
          simp only [Act.put, List.setIfInBounds_toArray, List.set_cons_zero, List.set_cons_succ]
          refine rg_take (i := 4) (v := (.pointer (some ⟨g, off, none⟩))) (some 79) rfl rfl (by kernel_rfl) (by kernel_rfl) (by kernel_rfl) (fun _ _ _ h => h) (Or.inl ⟨by rfl, fun _ _ => by go_simp⟩) hHeld ?_
          simp only [Act.put, List.setIfInBounds_toArray, List.set_cons_zero, List.set_cons_succ]
          refine rg_take (i := 5) (v := (.int .i64 y)) (some 80) rfl rfl (by kernel_rfl) (by kernel_rfl) (by kernel_rfl) (fun _ _ _ h => h) (Or.inl ⟨by rfl, fun w' h => by have h' := kept_cell h (d1); go_simp⟩) hHeld ?_
          simp only [Act.put, List.setIfInBounds_toArray, List.set_cons_zero, List.set_cons_succ]
          refine rg_take (i := 6) (v := (.pointer (some ⟨w.heap.size + 1, 1, none⟩))) (some 81) rfl rfl (by kernel_rfl) (by kernel_rfl) (by kernel_rfl) (fun _ _ _ h => h) (Or.inl ⟨by rfl, fun _ _ => by go_simp⟩) hHeld ?_
          simp only [Act.put, List.setIfInBounds_toArray, List.set_cons_zero, List.set_cons_succ]
          refine rg_take (i := 7) (v := (.int .i64 (t : Int))) (some 82) rfl rfl (by kernel_rfl) (by kernel_rfl) (by kernel_rfl) (fun _ _ _ h => h) (Or.inl ⟨by rfl, fun w' h => by have h' := kept_cell h (hctR); go_simp⟩) hHeld ?_
          simp only [Act.put, List.setIfInBounds_toArray, List.set_cons_zero, List.set_cons_succ]
          refine rg_take (i := 8) (v := (.bool true)) (some 83) rfl rfl (by kernel_rfl) (by kernel_rfl) (by kernel_rfl) (fun _ _ _ h => h) (Or.inl ⟨by rfl, fun _ _ => by go_simp⟩) hHeld ?_
          simp only [Act.put, List.setIfInBounds_toArray, List.set_cons_zero, List.set_cons_succ]
          refine wpAnyH_done (by kernel_rfl) ?_ _
          have HK2 := Lib.hid (HK.out.trans hHeld)
          have HM2 := Lib.hid (MAt.kept HMr.out hHeld)
          have HP2 := Lib.hid (HPr.out.kept hHeld)
          clear hHeld
          go_wp2_with (first | (refine wpList_load_ps (by rfl) _ rfl _ rfl _ (HP2.out) ?_) | (refine wpList_load_pb (by rfl) _ rfl _ rfl _ (HP2.out) ?_) | (refine wpList_load_mv (by rfl) _ rfl _ rfl _ (HM2.out) ?_))
          refine (HTk.out _).mono ?_
          rintro e w3 ⟨rfl, k3⟩
          have HK3 := Lib.hid (HK2.out.trans k3)
          clear k3
          go_wp2
          go_ret
          exact ⟨by rw [HV.out, HE.out, Bool.true_and]; rfl, (HK0.out.trans HKW.out).trans HK3.out⟩
        · have b0 : (y == (t : Int)) = false := by simpa using hto
          have HTo := Lib.hid hto
          clear hto
          go_wp2
          refine wp_region_held_drew (S := Kept _) (by kernel_rfl) (Kept.refl _).drew (fun hHeld => ?_)
          refine rg_take (i := 0) (v := (.slice (some ⟨g7, 0, none⟩) N c7)) (some 75) rfl rfl (by kernel_rfl) (by kernel_rfl) (by kernel_rfl) (fun _ _ _ h => h) (Or.inl ⟨by rfl, fun _ _ => by go_simp⟩) hHeld ?_
          simp only [Act.put, List.setIfInBounds_toArray, List.set_cons_zero, List.set_cons_succ]
          refine rg_take (i := 1) (v := (.int .i64 (i : Int))) (some 76) rfl rfl (by kernel_rfl) (by kernel_rfl) (by kernel_rfl) (fun _ _ _ h => h) (Or.inl ⟨by rfl, fun _ _ => by go_simp⟩) hHeld ?_
          simp only [Act.put, List.setIfInBounds_toArray, List.set_cons_zero, List.set_cons_succ]
          refine rg_take (i := 2) (v := (.pointer (some ⟨g7, i, none⟩))) (some 77) rfl rfl (by kernel_rfl) (by kernel_rfl) (by kernel_rfl) (fun _ _ _ h => h) (Or.inl ⟨by rfl, fun _ _ => by go_simp⟩) hHeld ?_
          simp only [Act.put, List.setIfInBounds_toArray, List.set_cons_zero, List.set_cons_succ]
          refine rg_take (i := 3) (v := (.slice (some ⟨g, off, none⟩) M cu)) (some 78) rfl rfl (by kernel_rfl) (by kernel_rfl) (by kernel_rfl) (fun _ _ _ h => h) (Or.inl ⟨by rfl, fun w' h => by have h' := kept_cell h (d0); go_simp⟩) hHeld ?_
          simp only [Act.put, List.setIfInBounds_toArray, List.set_cons_zero, List.set_cons_succ]
          refine rg_take (i := 4) (v := (.pointer (some ⟨g, off, none⟩))) (some 79) rfl rfl (by kernel_rfl) (by kernel_rfl) (by kernel_rfl) (fun _ _ _ h => h) (Or.inl ⟨by rfl, fun _ _ => by go_simp⟩) hHeld ?_
          simp only [Act.put, List.setIfInBounds_toArray, List.set_cons_zero, List.set_cons_succ]
          refine rg_take (i := 5) (v := (.int .i64 y)) (some 80) rfl rfl (by kernel_rfl) (by kernel_rfl) (by kernel_rfl) (fun _ _ _ h => h) (Or.inl ⟨by rfl, fun w' h => by have h' := kept_cell h (d1); go_simp⟩) hHeld ?_
          simp only [Act.put, List.setIfInBounds_toArray, List.set_cons_zero, List.set_cons_succ]
          refine rg_take (i := 6) (v := (.pointer (some ⟨w.heap.size + 1, 1, none⟩))) (some 81) rfl rfl (by kernel_rfl) (by kernel_rfl) (by kernel_rfl) (fun _ _ _ h => h) (Or.inl ⟨by rfl, fun _ _ => by go_simp⟩) hHeld ?_
          simp only [Act.put, List.setIfInBounds_toArray, List.set_cons_zero, List.set_cons_succ]
          refine rg_take (i := 7) (v := (.int .i64 (t : Int))) (some 82) rfl rfl (by kernel_rfl) (by kernel_rfl) (by kernel_rfl) (fun _ _ _ h => h) (Or.inl ⟨by rfl, fun w' h => by have h' := kept_cell h (hctR); go_simp⟩) hHeld ?_
          simp only [Act.put, List.setIfInBounds_toArray, List.set_cons_zero, List.set_cons_succ]
          refine rg_take (i := 8) (v := (.bool false)) (some 83) rfl rfl (by kernel_rfl) (by kernel_rfl) (by kernel_rfl) (fun _ _ _ h => h) (Or.inl ⟨by rfl, fun _ _ => by go_simp⟩) hHeld ?_
          simp only [Act.put, List.setIfInBounds_toArray, List.set_cons_zero, List.set_cons_succ]
          refine wpAnyH_done (by kernel_rfl) ?_ _
          have HK2 := Lib.hid (HK.out.trans hHeld)
          clear hHeld
          go_wp2
          go_roundw
          case rel => exact ⟨i + 1, by omega, by go_num, fun j l' hj hl' => by
            by_cases hji : j < i
            · exact HNo.out j l' hji hl'
            · obtain rfl : j = i := by omega
              rw [Hl.out] at hl'
              rw [← Option.some.inj hl', HY.out]
              exact fun e => HTo.out (Option.some.inj e), HK2.out⟩
          case measure => simp [intOf]; omega
      · have hlt' : ¬ (i : Int) < (N : Int) := by omega
        have HE := Lib.hid (HN.out (fun j l hl => HNo.out j l (by have := (List.getElem?_eq_some_iff.1 hl).1; have := HNN.out; omega) hl))
        clear hK
        go_wp2
        go_ret
        exact ⟨by rw [HV.out, HE.out, Bool.false_and]; rfl, (HK0.out.trans HKW.out).trans HK.out⟩
  · have h0 : L = [] := List.eq_nil_of_length_eq_zero (by omega)
    have HE := Lib.hid (HN.out (fun j l hl => by rw [h0] at hl; simp at hl))
    subst h0
    obtain ⟨a7, c7, rfl⟩ := hR.slice
    clear hR
    go_wp2
    go_loopw [8] (fun t8 wr => t8 = .int .i64 0 ∧ wr = W) (fun _ _ => 0)
    case atStart => exact ⟨rfl, rfl⟩
    case round =>
      obtain ⟨rfl, rfl⟩ := hrel
      go_wp2
      go_ret
      exact ⟨by rw [HV.out, HE.out, Bool.false_and]; rfl, HK0.out.trans HKW.out⟩
set_option maxHeartbeats 4000000 in
theorem rpgo_b1 (p : Ps) (m : Mv) (f t : Nat) (h : Pf p m f t) (hp : p.t = 1) (h0 : p.B.getD t 0 = 0) (hq : ((t : Int) == (f : Int) + (-8)) = true) (w : World) :
    Calls Tryz.prog 28 #[.agg (pl p).toArray, .agg (ml m).toArray] w fun e w' => e = .returned (.bool (pgoB p m)) ∧ Kept w w' := by
  have hB := h.pw.brd
  have HP : Hid (PAt _ _ p) := ⟨hB.1, heap_alloc2_old w (.cells (pl p).toArray 26) (.cells (ml m).toArray 35)⟩
  have HM : Hid (MAt _ _ m) := ⟨heap_alloc2_new w (.cells (pl p).toArray 26) (.cells (ml m).toArray 35)⟩
  have HK0 := Lib.hid (((Kept.refl w).alloc (.cells (pl p).toArray 26)).alloc (.cells (ml m).toArray 35))
  have hcf := HM.out.f
  have hct := HM.out.t
  rw [h.hf] at hcf
  rw [h.ht] at hct
  have htn := HP.out.turn
  rw [hp] at htn
  have hsq := HP.out.sq t h.t1
  have hrk := h.pw.rank
  have ht1 := h.t1
  have HV := Lib.hid (pgo_split h (-8) 6 (by rw [hp]; rfl) (by rw [hp]; rfl))
  have htI : (t : Int) < 64 := by omega
  have hw1 : IntKind.i64.wrap ((f : Int) + (-8)) = (f : Int) + (-8) := wr64 (by omega) (by omega)
  have hw2 : IntKind.i64.wrap ((f : Int) + (-16)) = (f : Int) + 2 * (-8) := by rw [wr64 (by omega) (by omega)]; omega
  have HR : Hid (pgoB p m = true) := by show _ = _; rw [HV.out, h0, hq]; simp
  rw [h0] at hsq
  clear HV
  go_enter Tryz.func28, Tryz.ntmps28
  go_wp2
  go_ret
  exact ⟨by rw [HR.out]; rfl, HK0.out⟩
set_option maxHeartbeats 4000000 in
theorem rpgo_b2 (p : Ps) (m : Mv) (f t : Nat) (h : Pf p m f t) (hp : p.t = 1) (h0 : p.B.getD t 0 = 0) (hq : ((t : Int) == (f : Int) + (-8)) = false) (hq2 : ((t : Int) == (f : Int) + (-16)) = true) (hs : ((f : Int) / 8 == 6) = true) (w : World) :
    Calls Tryz.prog 28 #[.agg (pl p).toArray, .agg (ml m).toArray] w fun e w' => e = .returned (.bool (pgoB p m)) ∧ Kept w w' := by
  have hB := h.pw.brd
  have HP : Hid (PAt _ _ p) := ⟨hB.1, heap_alloc2_old w (.cells (pl p).toArray 26) (.cells (ml m).toArray 35)⟩
  have HM : Hid (MAt _ _ m) := ⟨heap_alloc2_new w (.cells (pl p).toArray 26) (.cells (ml m).toArray 35)⟩
  have HK0 := Lib.hid (((Kept.refl w).alloc (.cells (pl p).toArray 26)).alloc (.cells (ml m).toArray 35))
  have hcf := HM.out.f
  have hct := HM.out.t
  rw [h.hf] at hcf
  rw [h.ht] at hct
  have htn := HP.out.turn
  rw [hp] at htn
  have hsq := HP.out.sq t h.t1
  have hrk := h.pw.rank
  have ht1 := h.t1
  have HV := Lib.hid (pgo_split h (-8) 6 (by rw [hp]; rfl) (by rw [hp]; rfl))
  have htI : (t : Int) < 64 := by omega
  have hw1 : IntKind.i64.wrap ((f : Int) + (-8)) = (f : Int) + (-8) := wr64 (by omega) (by omega)
  have hw2 : IntKind.i64.wrap ((f : Int) + (-16)) = (f : Int) + 2 * (-8) := by rw [wr64 (by omega) (by omega)]; omega
  have hsf := HP.out.sq f h.pw.s1
  have HTk := Lib.hid (fun w => rtakes_is p hB m h.on w)
  have hns : slidesB (bAt p.B (f : Int)) = false := by unfold slidesB; rw [knd_kind, show bAt p.B (f : Int) = p.B.getD f 0 from rfl, h.pw.kind]; rfl
  have HF := Lib.hid (fun (i : Nat) (l : List Int) => hit_first (B := p.B) (s := (f : Int)) (to := (t : Int)) (i := i) (l := l))
  have HN := Lib.hid (hit_nowhere (to := (t : Int)) hns)
  have HPos := Lib.hid (fun l (hl : l ∈ ofL (bAt p.B (f : Int)) (f : Int)) => (ofL_pos hl).1)
  have hbd := hB.2 f h.pw.s1
  have hwx := i8_i64 hB h.pw.s1
  have hx : bAt p.B (f : Int) = p.B.getD f 0 := rfl
  rw [hx] at HF HN HPos
  have HOf := Lib.hid (rof_is (p.B.getD f 0) (f : Int))
  have hx0 := hsf
  have hfI : (f : Int) < 64 := by have := h.pw.s1; omega
  generalize hitB p.B (f : Int) (t : Int) = hb at *
  generalize takeI p m = tk at *
  generalize ofL (p.B.getD f 0) (f : Int) = L at *
  generalize p.B.getD f 0 = x0 at *
  have hk : ∃ k : Nat, (f : Int) + (-8) = (k : Int) ∧ k < 64 := ⟨((f : Int) + (-8)).toNat, by omega, by omega⟩
  obtain ⟨k, ek, k64⟩ := hk
  have hsk := HP.out.sq k k64
  have hsk2 : ((w.alloc (.cells (pl p).toArray 26)).alloc (.cells (ml m).toArray 35)).cell? ⟨w.heap.size, ((f : Int) + (-8)).toNat, none⟩ = some (.int .i8 (p.B.getD k 0)) := by rw [show ((f : Int) + (-8)).toNat = k by omega]; exact hsk
  have hsk3 : ((w.alloc (.cells (pl p).toArray 26)).alloc (.cells (ml m).toArray 35)).cell? ⟨w.heap.size, ((f : Int) - 8).toNat, none⟩ = some (.int .i8 (p.B.getD k 0)) := by rw [show ((f : Int) - 8).toNat = k by omega]; exact hsk
  have hsk4 : ((w.alloc (.cells (pl p).toArray 26)).alloc (.cells (ml m).toArray 35)).cell? ⟨w.heap.size, f - 8, none⟩ = some (.int .i8 (p.B.getD k 0)) := by rw [show f - 8 = k by omega]; exact hsk
  have ebk : bAt p.B ((f : Int) + (-8)) = p.B.getD k 0 := by rw [ek]; rfl
  rw [h0] at hsq
  have hq2' : ((t : Int) == (f : Int) + 2 * (-8)) = true := hq2
  rw [ebk, h0, hq, hq2', hs] at HV
  clear hq2'
  have hkI : (k : Int) < 64 := by omega
  have HRk := Lib.hid (fun w => rrank_yes (f : Int) w (by omega) hfI)
  generalize p.B.getD k 0 = y at *
  generalize (f : Int) / 8 = rk at *
  cases hy : (y == 0)
  · rw [hy] at HV
    have HV' : Hid (pgoB p m = (hb && decide (0 ≤ tk))) := by show _ = _; rw [HV.out]; simp
    clear HV
    have HV := HV'
    clear HV' h0 ebk ek
    go_enter Tryz.func28, Tryz.ntmps28
    go_wp2_with fail
    refine (HRk.out _).mono ?_
    rintro e w9 ⟨rfl, rfl⟩
    go_wp2
    clear hq hq2
    have HPr := Lib.hid HP.out
    have HMr := Lib.hid HM.out
    refine wp_region_held_drew (S := Kept _) (by kernel_rfl) (Kept.refl _).drew (fun hHeld => ?_)
    refine rg_take (i := 0) (v := (.pointer (some ⟨w.heap.size + 1, 0, none⟩))) (some 60) rfl rfl (by kernel_rfl) (by kernel_rfl) (by kernel_rfl) (fun _ _ _ h => h) (Or.inl ⟨by rfl, fun _ _ => by go_simp⟩) hHeld ?_
    simp only [Act.put, List.setIfInBounds_toArray, List.set_cons_zero, List.set_cons_succ]
    refine rg_take (i := 1) (v := (.int .i64 (f : Int))) (some 61) rfl rfl (by kernel_rfl) (by kernel_rfl) (by kernel_rfl) (fun _ _ _ h => h) (Or.inl ⟨by rfl, fun w' h => by have h' := kept_cell h (hcf); go_simp⟩) hHeld ?_
    simp only [Act.put, List.setIfInBounds_toArray, List.set_cons_zero, List.set_cons_succ]
    refine rg_take (i := 2) (v := (.pointer (some ⟨w.heap.size, 0, none⟩))) (some 62) rfl rfl (by kernel_rfl) (by kernel_rfl) (by kernel_rfl) (fun _ _ _ h => h) (Or.inl ⟨by rfl, fun _ _ => by go_simp⟩) hHeld ?_
    simp only [Act.put, List.setIfInBounds_toArray, List.set_cons_zero, List.set_cons_succ]
    refine rg_take (i := 3) (v := (.pointer (some ⟨w.heap.size, f, none⟩))) (some 63) rfl rfl (by kernel_rfl) (by kernel_rfl) (by kernel_rfl) (fun _ _ _ h => h) (Or.inl ⟨by rfl, fun _ _ => by go_simp⟩) hHeld ?_
    simp only [Act.put, List.setIfInBounds_toArray, List.set_cons_zero, List.set_cons_succ]
    refine rg_take (i := 4) (v := (.int .i8 x0)) (some 64) rfl rfl (by kernel_rfl) (by kernel_rfl) (by kernel_rfl) (fun _ _ _ h => h) (Or.inl ⟨by rfl, fun w' h => by have h' := kept_cell h (hx0); go_simp⟩) hHeld ?_
    simp only [Act.put, List.setIfInBounds_toArray, List.set_cons_zero, List.set_cons_succ]
    refine rg_take (i := 5) (v := (.int .i64 x0)) (some 65) rfl rfl (by kernel_rfl) (by kernel_rfl) (by kernel_rfl) (fun _ _ _ h => h) (Or.inl ⟨by rfl, fun _ _ => by go_simp⟩) hHeld ?_
    simp only [Act.put, List.setIfInBounds_toArray, List.set_cons_zero, List.set_cons_succ]
    refine rg_take (i := 6) (v := (.pointer (some ⟨w.heap.size + 1, 0, none⟩))) (some 66) rfl rfl (by kernel_rfl) (by kernel_rfl) (by kernel_rfl) (fun _ _ _ h => h) (Or.inl ⟨by rfl, fun _ _ => by go_simp⟩) hHeld ?_
    simp only [Act.put, List.setIfInBounds_toArray, List.set_cons_zero, List.set_cons_succ]
    refine rg_take (i := 7) (v := (.int .i64 (f : Int))) (some 67) rfl rfl (by kernel_rfl) (by kernel_rfl) (by kernel_rfl) (fun _ _ _ h => h) (Or.inl ⟨by rfl, fun w' h => by have h' := kept_cell h (hcf); go_simp⟩) hHeld ?_
    simp only [Act.put, List.setIfInBounds_toArray, List.set_cons_zero, List.set_cons_succ]
    refine wpAnyH_ready (rs := [8]) (by kernel_rfl) (by simp) ?_
    refine AllReadyH.cons rfl (fun K hK => ?_) AllReadyH.nil
    go_simp
    refine (HOf.out _).mono ?_
    rintro e W ⟨v, rfl, hR, kW⟩
    refine hK.out _ _ (hHeld.trans kW) (fun _ => ?_)
    replace hHeld := hHeld.trans kW
    clear hK K
    refine rg_take (i := 9) (v := v) (some 7) rfl rfl (by kernel_rfl) (by kernel_rfl) (by kernel_rfl) (fun _ _ _ h => h) (Or.inl ⟨by rfl, fun _ _ => by go_simp⟩) hHeld ?_
    simp only [Act.put, List.setIfInBounds_toArray, List.set_cons_zero, List.set_cons_succ]
    refine wpAnyH_done (by kernel_rfl) ?_ _
    have HKW := Lib.hid hHeld
    have HPW := Lib.hid (HP.out.kept hHeld)
    have HMW := Lib.hid (MAt.kept HM.out hHeld)
    have hctW := kept_cell hHeld hct
    clear hHeld kW hcf hx0 hct hsq htn HPr HMr
    by_cases hL : 0 < L.length
    · obtain ⟨g7, c7, rfl, hn1, hn2, hrow⟩ := hR.read hL
      unfold maxLen at hn2
      have HRow := Lib.hid hrow
      generalize hN : L.length = N at *
      have HNN := Lib.hid hN
      clear hR hrow hN
      go_wp2
      go_loopw [8] (fun t8 wr => ∃ i : Nat, i ≤ N ∧ t8 = .int .i64 i ∧ (∀ j l, j < i → L[j]? = some l → l[0]? ≠ some (t : Int)) ∧ Kept W wr) (fun t8 _ => N - (intOf t8).toNat)
      case atStart => exact ⟨0, by omega, rfl, fun j l hj => by omega, Kept.refl _⟩
      case round =>
        obtain ⟨i, hi, rfl, hno, hK⟩ := hrel
        have HNo := Lib.hid hno
        have HK := Lib.hid hK
        have hctR := kept_cell hK hctW
        clear hno
        by_cases hlt : i < N
        · have hlt' : (i : Int) < (N : Int) := by omega
          obtain ⟨l, hl⟩ : ∃ l, L[i]? = some l := ⟨_, List.getElem?_eq_getElem (by have := HNN.out; omega)⟩
          obtain ⟨u, g, hcu, hls, _⟩ := HRow.out i l hl
          have hpos := HPos.out l (List.mem_of_getElem? hl)
          obtain ⟨y, hy⟩ : ∃ y, l[0]? = some y := ⟨_, List.getElem?_eq_getElem hpos⟩
          obtain ⟨off, cu, rfl, hk1, hk2, hcell⟩ := hls.full hpos
          have Hl := Lib.hid hl
          have d1 := kept_cell hK (hcell 0 y hy)
          have d0 := kept_cell hK hcu
          rw [Nat.add_zero] at d1
          have HY := Lib.hid hy
          have hbm : l.length ≤ 9223372036854775807 := by unfold maxLen at hk2; omega
          have HMr := Lib.hid (MAt.kept HMW.out hK)
          have HPr := Lib.hid (HPW.out.kept hK)
          clear hl hy hcell hk1 hk2 hcu hls hK
          generalize hM : l.length = M at *
          clear hM
          have hposI : (0 : Int) < (M : Int) := by omega
          by_cases hto : y = (t : Int)
          · have b0 : (y == (t : Int)) = true := by simpa using hto
            have HE := Lib.hid (HF.out i l Hl.out (by rw [HY.out, hto]))
            clear hto
            go_wp2
            refine wp_region_held_drew (S := Kept _) (by kernel_rfl) (Kept.refl _).drew (fun hHeld => ?_)
            refine rg_take (i := 0) (v := (.slice (some ⟨g7, 0, none⟩) N c7)) (some 75) rfl rfl (by kernel_rfl) (by kernel_rfl) (by kernel_rfl) (fun _ _ _ h => h) (Or.inl ⟨by rfl, fun _ _ => by go_simp⟩) hHeld ?_
            simp only [Act.put, List.setIfInBounds_toArray, List.set_cons_zero, List.set_cons_succ]
            refine rg_take (i := 1) (v := (.int .i64 (i : Int))) (some 76) rfl rfl (by kernel_rfl) (by kernel_rfl) (by kernel_rfl) (fun _ _ _ h => h) (Or.inl ⟨by rfl, fun _ _ => by go_simp⟩) hHeld ?_
            simp only [Act.put, List.setIfInBounds_toArray, List.set_cons_zero, List.set_cons_succ]
            refine rg_take (i := 2) (v := (.pointer (some ⟨g7, i, none⟩))) (some 77) rfl rfl (by kernel_rfl) (by kernel_rfl) (by kernel_rfl) (fun _ _ _ h => h) (Or.inl ⟨by rfl, fun _ _ => by go_simp⟩) hHeld ?_
            simp only [Act.put, List.setIfInBounds_toArray, List.set_cons_zero, List.set_cons_succ]
            refine rg_take (i := 3) (v := (.slice (some ⟨g, off, none⟩) M cu)) (some 78) rfl rfl (by kernel_rfl) (by kernel_rfl) (by kernel_rfl) (fun _ _ _ h => h) (Or.inl ⟨by rfl, fun w' h => by have h' := kept_cell h (d0); go_simp⟩) hHeld ?_
            simp only [Act.put, List.setIfInBounds_toArray, List.set_cons_zero, List.set_cons_succ]
            refine rg_take (i := 4) (v := (.pointer (some ⟨g, off, none⟩))) (some 79) rfl rfl (by kernel_rfl) (by kernel_rfl) (by kernel_rfl) (fun _ _ _ h => h) (Or.inl ⟨by rfl, fun _ _ => by go_simp⟩) hHeld ?_
            simp only [Act.put, List.setIfInBounds_toArray, List.set_cons_zero, List.set_cons_succ]
            refine rg_take (i := 5) (v := (.int .i64 y)) (some 80) rfl rfl (by kernel_rfl) (by kernel_rfl) (by kernel_rfl) (fun _ _ _ h => h) (Or.inl ⟨by rfl, fun w' h => by have h' := kept_cell h (d1); go_simp⟩) hHeld ?_
            simp only [Act.put, List.setIfInBounds_toArray, List.set_cons_zero, List.set_cons_succ]
            refine rg_take (i := 6) (v := (.pointer (some ⟨w.heap.size + 1, 1, none⟩))) (some 81) rfl rfl (by kernel_rfl) (by kernel_rfl) (by kernel_rfl) (fun _ _ _ h => h) (Or.inl ⟨by rfl, fun _ _ => by go_simp⟩) hHeld ?_
            simp only [Act.put, List.setIfInBounds_toArray, List.set_cons_zero, List.set_cons_succ]
            refine rg_take (i := 7) (v := (.int .i64 (t : Int))) (some 82) rfl rfl (by kernel_rfl) (by kernel_rfl) (by kernel_rfl) (fun _ _ _ h => h) (Or.inl ⟨by rfl, fun w' h => by have h' := kept_cell h (hctR); go_simp⟩) hHeld ?_
            simp only [Act.put, List.setIfInBounds_toArray, List.set_cons_zero, List.set_cons_succ]
            refine rg_take (i := 8) (v := (.bool true)) (some 83) rfl rfl (by kernel_rfl) (by kernel_rfl) (by kernel_rfl) (fun _ _ _ h => h) (Or.inl ⟨by rfl, fun _ _ => by go_simp⟩) hHeld ?_
            simp only [Act.put, List.setIfInBounds_toArray, List.set_cons_zero, List.set_cons_succ]
            refine wpAnyH_done (by kernel_rfl) ?_ _
            have HK2 := Lib.hid (HK.out.trans hHeld)
            have HM2 := Lib.hid (MAt.kept HMr.out hHeld)
            have HP2 := Lib.hid (HPr.out.kept hHeld)
            clear hHeld
            go_wp2_with (first | (refine wpList_load_ps (by rfl) _ rfl _ rfl _ (HP2.out) ?_) | (refine wpList_load_pb (by rfl) _ rfl _ rfl _ (HP2.out) ?_) | (refine wpList_load_mv (by rfl) _ rfl _ rfl _ (HM2.out) ?_))
            refine (HTk.out _).mono ?_
            rintro e w3 ⟨rfl, k3⟩
            have HK3 := Lib.hid (HK2.out.trans k3)
            clear k3
            go_wp2
            go_ret
            exact ⟨by rw [HV.out, HE.out, Bool.true_and]; rfl, (HK0.out.trans HKW.out).trans HK3.out⟩
          · have b0 : (y == (t : Int)) = false := by simpa using hto
            have HTo := Lib.hid hto
            clear hto
            go_wp2
            refine wp_region_held_drew (S := Kept _) (by kernel_rfl) (Kept.refl _).drew (fun hHeld => ?_)
            refine rg_take (i := 0) (v := (.slice (some ⟨g7, 0, none⟩) N c7)) (some 75) rfl rfl (by kernel_rfl) (by kernel_rfl) (by kernel_rfl) (fun _ _ _ h => h) (Or.inl ⟨by rfl, fun _ _ => by go_simp⟩) hHeld ?_
            simp only [Act.put, List.setIfInBounds_toArray, List.set_cons_zero, List.set_cons_succ]
            refine rg_take (i := 1) (v := (.int .i64 (i : Int))) (some 76) rfl rfl (by kernel_rfl) (by kernel_rfl) (by kernel_rfl) (fun _ _ _ h => h) (Or.inl ⟨by rfl, fun _ _ => by go_simp⟩) hHeld ?_
            simp only [Act.put, List.setIfInBounds_toArray, List.set_cons_zero, List.set_cons_succ]
            refine rg_take (i := 2) (v := (.pointer (some ⟨g7, i, none⟩))) (some 77) rfl rfl (by kernel_rfl) (by kernel_rfl) (by kernel_rfl) (fun _ _ _ h => h) (Or.inl ⟨by rfl, fun _ _ => by go_simp⟩) hHeld ?_
            simp only [Act.put, List.setIfInBounds_toArray, List.set_cons_zero, List.set_cons_succ]
            refine rg_take (i := 3) (v := (.slice (some ⟨g, off, none⟩) M cu)) (some 78) rfl rfl (by kernel_rfl) (by kernel_rfl) (by kernel_rfl) (fun _ _ _ h => h) (Or.inl ⟨by rfl, fun w' h => by have h' := kept_cell h (d0); go_simp⟩) hHeld ?_
            simp only [Act.put, List.setIfInBounds_toArray, List.set_cons_zero, List.set_cons_succ]
            refine rg_take (i := 4) (v := (.pointer (some ⟨g, off, none⟩))) (some 79) rfl rfl (by kernel_rfl) (by kernel_rfl) (by kernel_rfl) (fun _ _ _ h => h) (Or.inl ⟨by rfl, fun _ _ => by go_simp⟩) hHeld ?_
            simp only [Act.put, List.setIfInBounds_toArray, List.set_cons_zero, List.set_cons_succ]
            refine rg_take (i := 5) (v := (.int .i64 y)) (some 80) rfl rfl (by kernel_rfl) (by kernel_rfl) (by kernel_rfl) (fun _ _ _ h => h) (Or.inl ⟨by rfl, fun w' h => by have h' := kept_cell h (d1); go_simp⟩) hHeld ?_
            simp only [Act.put, List.setIfInBounds_toArray, List.set_cons_zero, List.set_cons_succ]
            refine rg_take (i := 6) (v := (.pointer (some ⟨w.heap.size + 1, 1, none⟩))) (some 81) rfl rfl (by kernel_rfl) (by kernel_rfl) (by kernel_rfl) (fun _ _ _ h => h) (Or.inl ⟨by rfl, fun _ _ => by go_simp⟩) hHeld ?_
            simp only [Act.put, List.setIfInBounds_toArray, List.set_cons_zero, List.set_cons_succ]
            refine rg_take (i := 7) (v := (.int .i64 (t : Int))) (some 82) rfl rfl (by kernel_rfl) (by kernel_rfl) (by kernel_rfl) (fun _ _ _ h => h) (Or.inl ⟨by rfl, fun w' h => by have h' := kept_cell h (hctR); go_simp⟩) hHeld ?_
            simp only [Act.put, List.setIfInBounds_toArray, List.set_cons_zero, List.set_cons_succ]
            refine rg_take (i := 8) (v := (.bool false)) (some 83) rfl rfl (by kernel_rfl) (by kernel_rfl) (by kernel_rfl) (fun _ _ _ h => h) (Or.inl ⟨by rfl, fun _ _ => by go_simp⟩) hHeld ?_
            simp only [Act.put, List.setIfInBounds_toArray, List.set_cons_zero, List.set_cons_succ]
            refine wpAnyH_done (by kernel_rfl) ?_ _
            have HK2 := Lib.hid (HK.out.trans hHeld)
            clear hHeld
            go_wp2
            go_roundw
            case rel => exact ⟨i + 1, by omega, by go_num, fun j l' hj hl' => by
              by_cases hji : j < i
              · exact HNo.out j l' hji hl'
              · obtain rfl : j = i := by omega
                rw [Hl.out] at hl'
                rw [← Option.some.inj hl', HY.out]
                exact fun e => HTo.out (Option.some.inj e), HK2.out⟩
            case measure => simp [intOf]; omega
        · have hlt' : ¬ (i : Int) < (N : Int) := by omega
          have HE := Lib.hid (HN.out (fun j l hl => HNo.out j l (by have := (List.getElem?_eq_some_iff.1 hl).1; have := HNN.out; omega) hl))
          clear hK
          go_wp2
          go_ret
          exact ⟨by rw [HV.out, HE.out, Bool.false_and]; rfl, (HK0.out.trans HKW.out).trans HK.out⟩
    · have h0 : L = [] := List.eq_nil_of_length_eq_zero (by omega)
      have HE := Lib.hid (HN.out (fun j l hl => by rw [h0] at hl; simp at hl))
      subst h0
      obtain ⟨a7, c7, rfl⟩ := hR.slice
      clear hR
      go_wp2
      go_loopw [8] (fun t8 wr => t8 = .int .i64 0 ∧ wr = W) (fun _ _ => 0)
      case atStart => exact ⟨rfl, rfl⟩
      case round =>
        obtain ⟨rfl, rfl⟩ := hrel
        go_wp2
        go_ret
        exact ⟨by rw [HV.out, HE.out, Bool.false_and]; rfl, HK0.out.trans HKW.out⟩
  · rw [hy] at HV
    have HR : Hid (pgoB p m = true) := by show _ = _; rw [HV.out]; simp
    clear HV h0 ebk ek
    go_enter Tryz.func28, Tryz.ntmps28
    go_wp2_with fail
    refine (HRk.out _).mono ?_
    rintro e w9 ⟨rfl, rfl⟩
    go_wp2
    go_ret
    exact ⟨by rw [HR.out]; rfl, HK0.out⟩
set_option maxHeartbeats 4000000 in
theorem rpgo_b3 (p : Ps) (m : Mv) (f t : Nat) (h : Pf p m f t) (hp : p.t = 1) (h0 : p.B.getD t 0 = 0) (hq : ((t : Int) == (f : Int) + (-8)) = false) (hq2 : ((t : Int) == (f : Int) + (-16)) = true) (hs : ((f : Int) / 8 == 6) = false) (w : World) :
    Calls Tryz.prog 28 #[.agg (pl p).toArray, .agg (ml m).toArray] w fun e w' => e = .returned (.bool (pgoB p m)) ∧ Kept w w' := by
  have hB := h.pw.brd
  have HP : Hid (PAt _ _ p) := ⟨hB.1, heap_alloc2_old w (.cells (pl p).toArray 26) (.cells (ml m).toArray 35)⟩
  have HM : Hid (MAt _ _ m) := ⟨heap_alloc2_new w (.cells (pl p).toArray 26) (.cells (ml m).toArray 35)⟩
  have HK0 := Lib.hid (((Kept.refl w).alloc (.cells (pl p).toArray 26)).alloc (.cells (ml m).toArray 35))
  have hcf := HM.out.f
  have hct := HM.out.t
  rw [h.hf] at hcf
  rw [h.ht] at hct
  have htn := HP.out.turn
  rw [hp] at htn
  have hsq := HP.out.sq t h.t1
  have hrk := h.pw.rank
  have ht1 := h.t1
  have HV := Lib.hid (pgo_split h (-8) 6 (by rw [hp]; rfl) (by rw [hp]; rfl))
  have htI : (t : Int) < 64 := by omega
  have hw1 : IntKind.i64.wrap ((f : Int) + (-8)) = (f : Int) + (-8) := wr64 (by omega) (by omega)
  have hw2 : IntKind.i64.wrap ((f : Int) + (-16)) = (f : Int) + 2 * (-8) := by rw [wr64 (by omega) (by omega)]; omega
  have hsf := HP.out.sq f h.pw.s1
  have HTk := Lib.hid (fun w => rtakes_is p hB m h.on w)
  have hns : slidesB (bAt p.B (f : Int)) = false := by unfold slidesB; rw [knd_kind, show bAt p.B (f : Int) = p.B.getD f 0 from rfl, h.pw.kind]; rfl
  have HF := Lib.hid (fun (i : Nat) (l : List Int) => hit_first (B := p.B) (s := (f : Int)) (to := (t : Int)) (i := i) (l := l))
  have HN := Lib.hid (hit_nowhere (to := (t : Int)) hns)
  have HPos := Lib.hid (fun l (hl : l ∈ ofL (bAt p.B (f : Int)) (f : Int)) => (ofL_pos hl).1)
  have hbd := hB.2 f h.pw.s1
  have hwx := i8_i64 hB h.pw.s1
  have hx : bAt p.B (f : Int) = p.B.getD f 0 := rfl
  rw [hx] at HF HN HPos
  have HOf := Lib.hid (rof_is (p.B.getD f 0) (f : Int))
  have hx0 := hsf
  have hfI : (f : Int) < 64 := by have := h.pw.s1; omega
  generalize hitB p.B (f : Int) (t : Int) = hb at *
  generalize takeI p m = tk at *
  generalize ofL (p.B.getD f 0) (f : Int) = L at *
  generalize p.B.getD f 0 = x0 at *
  rw [h0] at hsq
  have HV' : Hid (pgoB p m = (hb && decide (0 ≤ tk))) := by show _ = _; have hq2' : ((t : Int) == (f : Int) + 2 * (-8)) = true := hq2; rw [HV.out, h0, hq, hq2', hs]; simp
  clear HV
  have HV := HV'
  have HRk := Lib.hid (fun w => rrank_yes (f : Int) w (by omega) hfI)
  generalize (f : Int) / 8 = rk at *
  clear HV' h0
  go_enter Tryz.func28, Tryz.ntmps28
  go_wp2_with fail
  refine (HRk.out _).mono ?_
  rintro e w9 ⟨rfl, rfl⟩
  go_wp2
  clear hq hq2
  have HPr := Lib.hid HP.out
  have HMr := Lib.hid HM.out
  refine wp_region_held_drew (S := Kept _) (by kernel_rfl) (Kept.refl _).drew (fun hHeld => ?_)
  refine rg_take (i := 0) (v := (.pointer (some ⟨w.heap.size + 1, 0, none⟩))) (some 60) rfl rfl (by kernel_rfl) (by kernel_rfl) (by kernel_rfl) (fun _ _ _ h => h) (Or.inl ⟨by rfl, fun _ _ => by go_simp⟩) hHeld ?_
  simp only [Act.put, List.setIfInBounds_toArray, List.set_cons_zero, List.set_cons_succ]
  refine rg_take (i := 1) (v := (.int .i64 (f : Int))) (some 61) rfl rfl (by kernel_rfl) (by kernel_rfl) (by kernel_rfl) (fun _ _ _ h => h) (Or.inl ⟨by rfl, fun w' h => by have h' := kept_cell h (hcf); go_simp⟩) hHeld ?_
  simp only [Act.put, List.setIfInBounds_toArray, List.set_cons_zero, List.set_cons_succ]
  refine rg_take (i := 2) (v := (.pointer (some ⟨w.heap.size, 0, none⟩))) (some 62) rfl rfl (by kernel_rfl) (by kernel_rfl) (by kernel_rfl) (fun _ _ _ h => h) (Or.inl ⟨by rfl, fun _ _ => by go_simp⟩) hHeld ?_
  simp only [Act.put, List.setIfInBounds_toArray, List.set_cons_zero, List.set_cons_succ]
  refine rg_take (i := 3) (v := (.pointer (some ⟨w.heap.size, f, none⟩))) (some 63) rfl rfl (by kernel_rfl) (by kernel_rfl) (by kernel_rfl) (fun _ _ _ h => h) (Or.inl ⟨by rfl, fun _ _ => by go_simp⟩) hHeld ?_
  simp only [Act.put, List.setIfInBounds_toArray, List.set_cons_zero, List.set_cons_succ]
  refine rg_take (i := 4) (v := (.int .i8 x0)) (some 64) rfl rfl (by kernel_rfl) (by kernel_rfl) (by kernel_rfl) (fun _ _ _ h => h) (Or.inl ⟨by rfl, fun w' h => by have h' := kept_cell h (hx0); go_simp⟩) hHeld ?_
  simp only [Act.put, List.setIfInBounds_toArray, List.set_cons_zero, List.set_cons_succ]
  refine rg_take (i := 5) (v := (.int .i64 x0)) (some 65) rfl rfl (by kernel_rfl) (by kernel_rfl) (by kernel_rfl) (fun _ _ _ h => h) (Or.inl ⟨by rfl, fun _ _ => by go_simp⟩) hHeld ?_
  simp only [Act.put, List.setIfInBounds_toArray, List.set_cons_zero, List.set_cons_succ]
  refine rg_take (i := 6) (v := (.pointer (some ⟨w.heap.size + 1, 0, none⟩))) (some 66) rfl rfl (by kernel_rfl) (by kernel_rfl) (by kernel_rfl) (fun _ _ _ h => h) (Or.inl ⟨by rfl, fun _ _ => by go_simp⟩) hHeld ?_
  simp only [Act.put, List.setIfInBounds_toArray, List.set_cons_zero, List.set_cons_succ]
  refine rg_take (i := 7) (v := (.int .i64 (f : Int))) (some 67) rfl rfl (by kernel_rfl) (by kernel_rfl) (by kernel_rfl) (fun _ _ _ h => h) (Or.inl ⟨by rfl, fun w' h => by have h' := kept_cell h (hcf); go_simp⟩) hHeld ?_
  simp only [Act.put, List.setIfInBounds_toArray, List.set_cons_zero, List.set_cons_succ]
  refine wpAnyH_ready (rs := [8]) (by kernel_rfl) (by simp) ?_
  refine AllReadyH.cons rfl (fun K hK => ?_) AllReadyH.nil
  go_simp
  refine (HOf.out _).mono ?_
  rintro e W ⟨v, rfl, hR, kW⟩
  refine hK.out _ _ (hHeld.trans kW) (fun _ => ?_)
  replace hHeld := hHeld.trans kW
  clear hK K
  refine rg_take (i := 9) (v := v) (some 7) rfl rfl (by kernel_rfl) (by kernel_rfl) (by kernel_rfl) (fun _ _ _ h => h) (Or.inl ⟨by rfl, fun _ _ => by go_simp⟩) hHeld ?_
  simp only [Act.put, List.setIfInBounds_toArray, List.set_cons_zero, List.set_cons_succ]
  refine wpAnyH_done (by kernel_rfl) ?_ _
  have HKW := Lib.hid hHeld
  have HPW := Lib.hid (HP.out.kept hHeld)
  have HMW := Lib.hid (MAt.kept HM.out hHeld)
  have hctW := kept_cell hHeld hct
  clear hHeld kW hcf hx0 hct hsq htn HPr HMr
  by_cases hL : 0 < L.length
  · obtain ⟨g7, c7, rfl, hn1, hn2, hrow⟩ := hR.read hL
    unfold maxLen at hn2
    have HRow := Lib.hid hrow
    generalize hN : L.length = N at *
    have HNN := Lib.hid hN
    clear hR hrow hN
    go_wp2
    go_loopw [8] (fun t8 wr => ∃ i : Nat, i ≤ N ∧ t8 = .int .i64 i ∧ (∀ j l, j < i → L[j]? = some l → l[0]? ≠ some (t : Int)) ∧ Kept W wr) (fun t8 _ => N - (intOf t8).toNat)
    case atStart => exact ⟨0, by omega, rfl, fun j l hj => by omega, Kept.refl _⟩
    case round =>
      obtain ⟨i, hi, rfl, hno, hK⟩ := hrel
      have HNo := Lib.hid hno
      have HK := Lib.hid hK
      have hctR := kept_cell hK hctW
      clear hno
      by_cases hlt : i < N
      · have hlt' : (i : Int) < (N : Int) := by omega
        obtain ⟨l, hl⟩ : ∃ l, L[i]? = some l := ⟨_, List.getElem?_eq_getElem (by have := HNN.out; omega)⟩
        obtain ⟨u, g, hcu, hls, _⟩ := HRow.out i l hl
        have hpos := HPos.out l (List.mem_of_getElem? hl)
        obtain ⟨y, hy⟩ : ∃ y, l[0]? = some y := ⟨_, List.getElem?_eq_getElem hpos⟩
        obtain ⟨off, cu, rfl, hk1, hk2, hcell⟩ := hls.full hpos
        have Hl := Lib.hid hl
        have d1 := kept_cell hK (hcell 0 y hy)
        have d0 := kept_cell hK hcu
        rw [Nat.add_zero] at d1
        have HY := Lib.hid hy
        have hbm : l.length ≤ 9223372036854775807 := by unfold maxLen at hk2; omega
        have HMr := Lib.hid (MAt.kept HMW.out hK)
        have HPr := Lib.hid (HPW.out.kept hK)
        clear hl hy hcell hk1 hk2 hcu hls hK
        generalize hM : l.length = M at *
        clear hM
        have hposI : (0 : Int) < (M : Int) := by omega
        by_cases hto : y = (t : Int)
        · have b0 : (y == (t : Int)) = true := by simpa using hto
          have HE := Lib.hid (HF.out i l Hl.out (by rw [HY.out, hto]))
          clear hto
          go_wp2
          refine wp_region_held_drew (S := Kept _) (by kernel_rfl) (Kept.refl _).drew (fun hHeld => ?_)
          refine rg_take (i := 0) (v := (.slice (some ⟨g7, 0, none⟩) N c7)) (some 75) rfl rfl (by kernel_rfl) (by kernel_rfl) (by kernel_rfl) (fun _ _ _ h => h) (Or.inl ⟨by rfl, fun _ _ => by go_simp⟩) hHeld ?_
          simp only [Act.put, List.setIfInBounds_toArray, List.set_cons_zero, List.set_cons_succ]
          refine rg_take (i := 1) (v := (.int .i64 (i : Int))) (some 76) rfl rfl (by kernel_rfl) (by kernel_rfl) (by kernel_rfl) (fun _ _ _ h => h) (Or.inl ⟨by rfl, fun _ _ => by go_simp⟩) hHeld ?_
          simp only [Act.put, List.setIfInBounds_toArray, List.set_cons_zero, List.set_cons_succ]
          refine rg_take (i := 2) (v := (.pointer (some ⟨g7, i, none⟩))) (some 77) rfl rfl (by kernel_rfl) (by kernel_rfl) (by kernel_rfl) (fun _ _ _ h => h) (Or.inl ⟨by rfl, fun _ _ => by go_simp⟩) hHeld ?_
          simp only [Act.put, List.setIfInBounds_toArray, List.set_cons_zero, List.set_cons_succ]
          refine rg_take (i := 3) (v := (.slice (some ⟨g, off, none⟩) M cu)) (some 78) rfl rfl (by kernel_rfl) (by kernel_rfl) (by kernel_rfl) (fun _ _ _ h => h) (Or.inl ⟨by rfl, fun w' h => by have h' := kept_cell h (d0); go_simp⟩) hHeld ?_
          simp only [Act.put, List.setIfInBounds_toArray, List.set_cons_zero, List.set_cons_succ]
          refine rg_take (i := 4) (v := (.pointer (some ⟨g, off, none⟩))) (some 79) rfl rfl (by kernel_rfl) (by kernel_rfl) (by kernel_rfl) (fun _ _ _ h => h) (Or.inl ⟨by rfl, fun _ _ => by go_simp⟩) hHeld ?_
          simp only [Act.put, List.setIfInBounds_toArray, List.set_cons_zero, List.set_cons_succ]
          refine rg_take (i := 5) (v := (.int .i64 y)) (some 80) rfl rfl (by kernel_rfl) (by kernel_rfl) (by kernel_rfl) (fun _ _ _ h => h) (Or.inl ⟨by rfl, fun w' h => by have h' := kept_cell h (d1); go_simp⟩) hHeld ?_
          simp only [Act.put, List.setIfInBounds_toArray, List.set_cons_zero, List.set_cons_succ]
          refine rg_take (i := 6) (v := (.pointer (some ⟨w.heap.size + 1, 1, none⟩))) (some 81) rfl rfl (by kernel_rfl) (by kernel_rfl) (by kernel_rfl) (fun _ _ _ h => h) (Or.inl ⟨by rfl, fun _ _ => by go_simp⟩) hHeld ?_
          simp only [Act.put, List.setIfInBounds_toArray, List.set_cons_zero, List.set_cons_succ]
          refine rg_take (i := 7) (v := (.int .i64 (t : Int))) (some 82) rfl rfl (by kernel_rfl) (by kernel_rfl) (by kernel_rfl) (fun _ _ _ h => h) (Or.inl ⟨by rfl, fun w' h => by have h' := kept_cell h (hctR); go_simp⟩) hHeld ?_
          simp only [Act.put, List.setIfInBounds_toArray, List.set_cons_zero, List.set_cons_succ]
          refine rg_take (i := 8) (v := (.bool true)) (some 83) rfl rfl (by kernel_rfl) (by kernel_rfl) (by kernel_rfl) (fun _ _ _ h => h) (Or.inl ⟨by rfl, fun _ _ => by go_simp⟩) hHeld ?_
          simp only [Act.put, List.setIfInBounds_toArray, List.set_cons_zero, List.set_cons_succ]
          refine wpAnyH_done (by kernel_rfl) ?_ _
          have HK2 := Lib.hid (HK.out.trans hHeld)
          have HM2 := Lib.hid (MAt.kept HMr.out hHeld)
          have HP2 := Lib.hid (HPr.out.kept hHeld)
          clear hHeld
          go_wp2_with (first | (refine wpList_load_ps (by rfl) _ rfl _ rfl _ (HP2.out) ?_) | (refine wpList_load_pb (by rfl) _ rfl _ rfl _ (HP2.out) ?_) | (refine wpList_load_mv (by rfl) _ rfl _ rfl _ (HM2.out) ?_))
          refine (HTk.out _).mono ?_
          rintro e w3 ⟨rfl, k3⟩
          have HK3 := Lib.hid (HK2.out.trans k3)
          clear k3
          go_wp2
          go_ret
          exact ⟨by rw [HV.out, HE.out, Bool.true_and]; rfl, (HK0.out.trans HKW.out).trans HK3.out⟩
        · have b0 : (y == (t : Int)) = false := by simpa using hto
          have HTo := Lib.hid hto
          clear hto
          go_wp2
          refine wp_region_held_drew (S := Kept _) (by kernel_rfl) (Kept.refl _).drew (fun hHeld => ?_)
          refine rg_take (i := 0) (v := (.slice (some ⟨g7, 0, none⟩) N c7)) (some 75) rfl rfl (by kernel_rfl) (by kernel_rfl) (by kernel_rfl) (fun _ _ _ h => h) (Or.inl ⟨by rfl, fun _ _ => by go_simp⟩) hHeld ?_
          simp only [Act.put, List.setIfInBounds_toArray, List.set_cons_zero, List.set_cons_succ]
          refine rg_take (i := 1) (v := (.int .i64 (i : Int))) (some 76) rfl rfl (by kernel_rfl) (by kernel_rfl) (by kernel_rfl) (fun _ _ _ h => h) (Or.inl ⟨by rfl, fun _ _ => by go_simp⟩) hHeld ?_
          simp only [Act.put, List.setIfInBounds_toArray, List.set_cons_zero, List.set_cons_succ]
          refine rg_take (i := 2) (v := (.pointer (some ⟨g7, i, none⟩))) (some 77) rfl rfl (by kernel_rfl) (by kernel_rfl) (by kernel_rfl) (fun _ _ _ h => h) (Or.inl ⟨by rfl, fun _ _ => by go_simp⟩) hHeld ?_
          simp only [Act.put, List.setIfInBounds_toArray, List.set_cons_zero, List.set_cons_succ]
          refine rg_take (i := 3) (v := (.slice (some ⟨g, off, none⟩) M cu)) (some 78) rfl rfl (by kernel_rfl) (by kernel_rfl) (by kernel_rfl) (fun _ _ _ h => h) (Or.inl ⟨by rfl, fun w' h => by have h' := kept_cell h (d0); go_simp⟩) hHeld ?_
          simp only [Act.put, List.setIfInBounds_toArray, List.set_cons_zero, List.set_cons_succ]
          refine rg_take (i := 4) (v := (.pointer (some ⟨g, off, none⟩))) (some 79) rfl rfl (by kernel_rfl) (by kernel_rfl) (by kernel_rfl) (fun _ _ _ h => h) (Or.inl ⟨by rfl, fun _ _ => by go_simp⟩) hHeld ?_
          simp only [Act.put, List.setIfInBounds_toArray, List.set_cons_zero, List.set_cons_succ]
          refine rg_take (i := 5) (v := (.int .i64 y)) (some 80) rfl rfl (by kernel_rfl) (by kernel_rfl) (by kernel_rfl) (fun _ _ _ h => h) (Or.inl ⟨by rfl, fun w' h => by have h' := kept_cell h (d1); go_simp⟩) hHeld ?_
          simp only [Act.put, List.setIfInBounds_toArray, List.set_cons_zero, List.set_cons_succ]
          refine rg_take (i := 6) (v := (.pointer (some ⟨w.heap.size + 1, 1, none⟩))) (some 81) rfl rfl (by kernel_rfl) (by kernel_rfl) (by kernel_rfl) (fun _ _ _ h => h) (Or.inl ⟨by rfl, fun _ _ => by go_simp⟩) hHeld ?_
          simp only [Act.put, List.setIfInBounds_toArray, List.set_cons_zero, List.set_cons_succ]
          refine rg_take (i := 7) (v := (.int .i64 (t : Int))) (some 82) rfl rfl (by kernel_rfl) (by kernel_rfl) (by kernel_rfl) (fun _ _ _ h => h) (Or.inl ⟨by rfl, fun w' h => by have h' := kept_cell h (hctR); go_simp⟩) hHeld ?_
          simp only [Act.put, List.setIfInBounds_toArray, List.set_cons_zero, List.set_cons_succ]
          refine rg_take (i := 8) (v := (.bool false)) (some 83) rfl rfl (by kernel_rfl) (by kernel_rfl) (by kernel_rfl) (fun _ _ _ h => h) (Or.inl ⟨by rfl, fun _ _ => by go_simp⟩) hHeld ?_
          simp only [Act.put, List.setIfInBounds_toArray, List.set_cons_zero, List.set_cons_succ]
          refine wpAnyH_done (by kernel_rfl) ?_ _
          have HK2 := Lib.hid (HK.out.trans hHeld)
          clear hHeld
          go_wp2
          go_roundw
          case rel => exact ⟨i + 1, by omega, by go_num, fun j l' hj hl' => by
            by_cases hji : j < i
            · exact HNo.out j l' hji hl'
            · obtain rfl : j = i := by omega
              rw [Hl.out] at hl'
              rw [← Option.some.inj hl', HY.out]
              exact fun e => HTo.out (Option.some.inj e), HK2.out⟩
          case measure => simp [intOf]; omega
      · have hlt' : ¬ (i : Int) < (N : Int) := by omega
        have HE := Lib.hid (HN.out (fun j l hl => HNo.out j l (by have := (List.getElem?_eq_some_iff.1 hl).1; have := HNN.out; omega) hl))
        clear hK
        go_wp2
        go_ret
        exact ⟨by rw [HV.out, HE.out, Bool.false_and]; rfl, (HK0.out.trans HKW.out).trans HK.out⟩
  · have h0 : L = [] := List.eq_nil_of_length_eq_zero (by omega)
    have HE := Lib.hid (HN.out (fun j l hl => by rw [h0] at hl; simp at hl))
    subst h0
    obtain ⟨a7, c7, rfl⟩ := hR.slice
    clear hR
    go_wp2
    go_loopw [8] (fun t8 wr => t8 = .int .i64 0 ∧ wr = W) (fun _ _ => 0)
    case atStart => exact ⟨rfl, rfl⟩
    case round =>
      obtain ⟨rfl, rfl⟩ := hrel
      go_wp2
      go_ret
      exact ⟨by rw [HV.out, HE.out, Bool.false_and]; rfl, HK0.out.trans HKW.out⟩
set_option maxHeartbeats 4000000 in
theorem rpgo_b4 (p : Ps) (m : Mv) (f t : Nat) (h : Pf p m f t) (hp : p.t = 1) (h0 : p.B.getD t 0 = 0) (hq : ((t : Int) == (f : Int) + (-8)) = false) (hq2 : ((t : Int) == (f : Int) + (-16)) = false) (w : World) :
    Calls Tryz.prog 28 #[.agg (pl p).toArray, .agg (ml m).toArray] w fun e w' => e = .returned (.bool (pgoB p m)) ∧ Kept w w' := by
  have hB := h.pw.brd
  have HP : Hid (PAt _ _ p) := ⟨hB.1, heap_alloc2_old w (.cells (pl p).toArray 26) (.cells (ml m).toArray 35)⟩
  have HM : Hid (MAt _ _ m) := ⟨heap_alloc2_new w (.cells (pl p).toArray 26) (.cells (ml m).toArray 35)⟩
  have HK0 := Lib.hid (((Kept.refl w).alloc (.cells (pl p).toArray 26)).alloc (.cells (ml m).toArray 35))
  have hcf := HM.out.f
  have hct := HM.out.t
  rw [h.hf] at hcf
  rw [h.ht] at hct
  have htn := HP.out.turn
  rw [hp] at htn
  have hsq := HP.out.sq t h.t1
  have hrk := h.pw.rank
  have ht1 := h.t1
  have HV := Lib.hid (pgo_split h (-8) 6 (by rw [hp]; rfl) (by rw [hp]; rfl))
  have htI : (t : Int) < 64 := by omega
  have hw1 : IntKind.i64.wrap ((f : Int) + (-8)) = (f : Int) + (-8) := wr64 (by omega) (by omega)
  have hw2 : IntKind.i64.wrap ((f : Int) + (-16)) = (f : Int) + 2 * (-8) := by rw [wr64 (by omega) (by omega)]; omega
  have hsf := HP.out.sq f h.pw.s1
  have HTk := Lib.hid (fun w => rtakes_is p hB m h.on w)
  have hns : slidesB (bAt p.B (f : Int)) = false := by unfold slidesB; rw [knd_kind, show bAt p.B (f : Int) = p.B.getD f 0 from rfl, h.pw.kind]; rfl
  have HF := Lib.hid (fun (i : Nat) (l : List Int) => hit_first (B := p.B) (s := (f : Int)) (to := (t : Int)) (i := i) (l := l))
  have HN := Lib.hid (hit_nowhere (to := (t : Int)) hns)
  have HPos := Lib.hid (fun l (hl : l ∈ ofL (bAt p.B (f : Int)) (f : Int)) => (ofL_pos hl).1)
  have hbd := hB.2 f h.pw.s1
  have hwx := i8_i64 hB h.pw.s1
  have hx : bAt p.B (f : Int) = p.B.getD f 0 := rfl
  rw [hx] at HF HN HPos
  have HOf := Lib.hid (rof_is (p.B.getD f 0) (f : Int))
  have hx0 := hsf
  have hfI : (f : Int) < 64 := by have := h.pw.s1; omega
  generalize hitB p.B (f : Int) (t : Int) = hb at *
  generalize takeI p m = tk at *
  generalize ofL (p.B.getD f 0) (f : Int) = L at *
  generalize p.B.getD f 0 = x0 at *
  rw [h0] at hsq
  have HV' : Hid (pgoB p m = (hb && decide (0 ≤ tk))) := by show _ = _; have hq2' : ((t : Int) == (f : Int) + 2 * (-8)) = false := hq2; rw [HV.out, h0, hq, hq2']; simp
  clear HV
  have HV := HV'
  clear HV' h0
  go_enter Tryz.func28, Tryz.ntmps28
  go_wp2
  clear hq hq2
  have HPr := Lib.hid HP.out
  have HMr := Lib.hid HM.out
  refine wp_region_held_drew (S := Kept _) (by kernel_rfl) (Kept.refl _).drew (fun hHeld => ?_)
  refine rg_take (i := 0) (v := (.pointer (some ⟨w.heap.size + 1, 0, none⟩))) (some 60) rfl rfl (by kernel_rfl) (by kernel_rfl) (by kernel_rfl) (fun _ _ _ h => h) (Or.inl ⟨by rfl, fun _ _ => by go_simp⟩) hHeld ?_
  simp only [Act.put, List.setIfInBounds_toArray, List.set_cons_zero, List.set_cons_succ]
  refine rg_take (i := 1) (v := (.int .i64 (f : Int))) (some 61) rfl rfl (by kernel_rfl) (by kernel_rfl) (by kernel_rfl) (fun _ _ _ h => h) (Or.inl ⟨by rfl, fun w' h => by have h' := kept_cell h (hcf); go_simp⟩) hHeld ?_
  simp only [Act.put, List.setIfInBounds_toArray, List.set_cons_zero, List.set_cons_succ]
  refine rg_take (i := 2) (v := (.pointer (some ⟨w.heap.size, 0, none⟩))) (some 62) rfl rfl (by kernel_rfl) (by kernel_rfl) (by kernel_rfl) (fun _ _ _ h => h) (Or.inl ⟨by rfl, fun _ _ => by go_simp⟩) hHeld ?_
  simp only [Act.put, List.setIfInBounds_toArray, List.set_cons_zero, List.set_cons_succ]
  refine rg_take (i := 3) (v := (.pointer (some ⟨w.heap.size, f, none⟩))) (some 63) rfl rfl (by kernel_rfl) (by kernel_rfl) (by kernel_rfl) (fun _ _ _ h => h) (Or.inl ⟨by rfl, fun _ _ => by go_simp⟩) hHeld ?_
  simp only [Act.put, List.setIfInBounds_toArray, List.set_cons_zero, List.set_cons_succ]
  refine rg_take (i := 4) (v := (.int .i8 x0)) (some 64) rfl rfl (by kernel_rfl) (by kernel_rfl) (by kernel_rfl) (fun _ _ _ h => h) (Or.inl ⟨by rfl, fun w' h => by have h' := kept_cell h (hx0); go_simp⟩) hHeld ?_
  simp only [Act.put, List.setIfInBounds_toArray, List.set_cons_zero, List.set_cons_succ]
  refine rg_take (i := 5) (v := (.int .i64 x0)) (some 65) rfl rfl (by kernel_rfl) (by kernel_rfl) (by kernel_rfl) (fun _ _ _ h => h) (Or.inl ⟨by rfl, fun _ _ => by go_simp⟩) hHeld ?_
  simp only [Act.put, List.setIfInBounds_toArray, List.set_cons_zero, List.set_cons_succ]
  refine rg_take (i := 6) (v := (.pointer (some ⟨w.heap.size + 1, 0, none⟩))) (some 66) rfl rfl (by kernel_rfl) (by kernel_rfl) (by kernel_rfl) (fun _ _ _ h => h) (Or.inl ⟨by rfl, fun _ _ => by go_simp⟩) hHeld ?_
  simp only [Act.put, List.setIfInBounds_toArray, List.set_cons_zero, List.set_cons_succ]
  refine rg_take (i := 7) (v := (.int .i64 (f : Int))) (some 67) rfl rfl (by kernel_rfl) (by kernel_rfl) (by kernel_rfl) (fun _ _ _ h => h) (Or.inl ⟨by rfl, fun w' h => by have h' := kept_cell h (hcf); go_simp⟩) hHeld ?_
  simp only [Act.put, List.setIfInBounds_toArray, List.set_cons_zero, List.set_cons_succ]
  refine wpAnyH_ready (rs := [8]) (by kernel_rfl) (by simp) ?_
  refine AllReadyH.cons rfl (fun K hK => ?_) AllReadyH.nil
  go_simp
  refine (HOf.out _).mono ?_
  rintro e W ⟨v, rfl, hR, kW⟩
  refine hK.out _ _ (hHeld.trans kW) (fun _ => ?_)
  replace hHeld := hHeld.trans kW
  clear hK K
  refine rg_take (i := 9) (v := v) (some 7) rfl rfl (by kernel_rfl) (by kernel_rfl) (by kernel_rfl) (fun _ _ _ h => h) (Or.inl ⟨by rfl, fun _ _ => by go_simp⟩) hHeld ?_
  simp only [Act.put, List.setIfInBounds_toArray, List.set_cons_zero, List.set_cons_succ]
  refine wpAnyH_done (by kernel_rfl) ?_ _
  have HKW := Lib.hid hHeld
  have HPW := Lib.hid (HP.out.kept hHeld)
  have HMW := Lib.hid (MAt.kept HM.out hHeld)
  have hctW := kept_cell hHeld hct
  clear hHeld kW hcf hx0 hct hsq htn HPr HMr
  by_cases hL : 0 < L.length
  · obtain ⟨g7, c7, rfl, hn1, hn2, hrow⟩ := hR.read hL
    unfold maxLen at hn2
    have HRow := Lib.hid hrow
    generalize hN : L.length = N at *
    have HNN := Lib.hid hN
    clear hR hrow hN
    go_wp2
    go_loopw [8] (fun t8 wr => ∃ i : Nat, i ≤ N ∧ t8 = .int .i64 i ∧ (∀ j l, j < i → L[j]? = some l → l[0]? ≠ some (t : Int)) ∧ Kept W wr) (fun t8 _ => N - (intOf t8).toNat)
    case atStart => exact ⟨0, by omega, rfl, fun j l hj => by omega, Kept.refl _⟩
    case round =>
      obtain ⟨i, hi, rfl, hno, hK⟩ := hrel
      have HNo := Lib.hid hno
      have HK := Lib.hid hK
      have hctR := kept_cell hK hctW
      clear hno
      by_cases hlt : i < N
      · have hlt' : (i : Int) < (N : Int) := by omega
        obtain ⟨l, hl⟩ : ∃ l, L[i]? = some l := ⟨_, List.getElem?_eq_getElem (by have := HNN.out; omega)⟩
        obtain ⟨u, g, hcu, hls, _⟩ := HRow.out i l hl
        have hpos := HPos.out l (List.mem_of_getElem? hl)
        obtain ⟨y, hy⟩ : ∃ y, l[0]? = some y := ⟨_, List.getElem?_eq_getElem hpos⟩
        obtain ⟨off, cu, rfl, hk1, hk2, hcell⟩ := hls.full hpos
        have Hl := Lib.hid hl
        have d1 := kept_cell hK (hcell 0 y hy)
        have d0 := kept_cell hK hcu
        rw [Nat.add_zero] at d1
        have HY := Lib.hid hy
        have hbm : l.length ≤ 9223372036854775807 := by unfold maxLen at hk2; omega
        have HMr := Lib.hid (MAt.kept HMW.out hK)
        have HPr := Lib.hid (HPW.out.kept hK)
        clear hl hy hcell hk1 hk2 hcu hls hK
        generalize hM : l.length = M at *
        clear hM
        have hposI : (0 : Int) < (M : Int) := by omega
        by_cases hto : y = (t : Int)
        · have b0 : (y == (t : Int)) = true := by simpa using hto
          have HE := Lib.hid (HF.out i l Hl.out (by rw [HY.out, hto]))
          clear hto
          go_wp2
          refine wp_region_held_drew (S := Kept _) (by kernel_rfl) (Kept.refl _).drew (fun hHeld => ?_)
          refine rg_take (i := 0) (v := (.slice (some ⟨g7, 0, none⟩) N c7)) (some 75) rfl rfl (by kernel_rfl) (by kernel_rfl) (by kernel_rfl) (fun _ _ _ h => h) (Or.inl ⟨by rfl, fun _ _ => by go_simp⟩) hHeld ?_
          simp only [Act.put, List.setIfInBounds_toArray, List.set_cons_zero, List.set_cons_succ]
          refine rg_take (i := 1) (v := (.int .i64 (i : Int))) (some 76) rfl rfl (by kernel_rfl) (by kernel_rfl) (by kernel_rfl) (fun _ _ _ h => h) (Or.inl ⟨by rfl, fun _ _ => by go_simp⟩) hHeld ?_
          simp only [Act.put, List.setIfInBounds_toArray, List.set_cons_zero, List.set_cons_succ]
          refine rg_take (i := 2) (v := (.pointer (some ⟨g7, i, none⟩))) (some 77) rfl rfl (by kernel_rfl) (by kernel_rfl) (by kernel_rfl) (fun _ _ _ h => h) (Or.inl ⟨by rfl, fun _ _ => by go_simp⟩) hHeld ?_
          simp only [Act.put, List.setIfInBounds_toArray, List.set_cons_zero, List.set_cons_succ]
          refine rg_take (i := 3) (v := (.slice (some ⟨g, off, none⟩) M cu)) (some 78) rfl rfl (by kernel_rfl) (by kernel_rfl) (by kernel_rfl) (fun _ _ _ h => h) (Or.inl ⟨by rfl, fun w' h => by have h' := kept_cell h (d0); go_simp⟩) hHeld ?_
          simp only [Act.put, List.setIfInBounds_toArray, List.set_cons_zero, List.set_cons_succ]
          refine rg_take (i := 4) (v := (.pointer (some ⟨g, off, none⟩))) (some 79) rfl rfl (by kernel_rfl) (by kernel_rfl) (by kernel_rfl) (fun _ _ _ h => h) (Or.inl ⟨by rfl, fun _ _ => by go_simp⟩) hHeld ?_
          simp only [Act.put, List.setIfInBounds_toArray, List.set_cons_zero, List.set_cons_succ]
          refine rg_take (i := 5) (v := (.int .i64 y)) (some 80) rfl rfl (by kernel_rfl) (by kernel_rfl) (by kernel_rfl) (fun _ _ _ h => h) (Or.inl ⟨by rfl, fun w' h => by have h' := kept_cell h (d1); go_simp⟩) hHeld ?_
          simp only [Act.put, List.setIfInBounds_toArray, List.set_cons_zero, List.set_cons_succ]
          refine rg_take (i := 6) (v := (.pointer (some ⟨w.heap.size + 1, 1, none⟩))) (some 81) rfl rfl (by kernel_rfl) (by kernel_rfl) (by kernel_rfl) (fun _ _ _ h => h) (Or.inl ⟨by rfl, fun _ _ => by go_simp⟩) hHeld ?_
          simp only [Act.put, List.setIfInBounds_toArray, List.set_cons_zero, List.set_cons_succ]
          refine rg_take (i := 7) (v := (.int .i64 (t : Int))) (some 82) rfl rfl (by kernel_rfl) (by kernel_rfl) (by kernel_rfl) (fun _ _ _ h => h) (Or.inl ⟨by rfl, fun w' h => by have h' := kept_cell h (hctR); go_simp⟩) hHeld ?_
          simp only [Act.put, List.setIfInBounds_toArray, List.set_cons_zero, List.set_cons_succ]
          refine rg_take (i := 8) (v := (.bool true)) (some 83) rfl rfl (by kernel_rfl) (by kernel_rfl) (by kernel_rfl) (fun _ _ _ h => h) (Or.inl ⟨by rfl, fun _ _ => by go_simp⟩) hHeld ?_
          simp only [Act.put, List.setIfInBounds_toArray, List.set_cons_zero, List.set_cons_succ]
          refine wpAnyH_done (by kernel_rfl) ?_ _
          have HK2 := Lib.hid (HK.out.trans hHeld)
          have HM2 := Lib.hid (MAt.kept HMr.out hHeld)
          have HP2 := Lib.hid (HPr.out.kept hHeld)
          clear hHeld
          go_wp2_with (first | (refine wpList_load_ps (by rfl) _ rfl _ rfl _ (HP2.out) ?_) | (refine wpList_load_pb (by rfl) _ rfl _ rfl _ (HP2.out) ?_) | (refine wpList_load_mv (by rfl) _ rfl _ rfl _ (HM2.out) ?_))
          refine (HTk.out _).mono ?_
          rintro e w3 ⟨rfl, k3⟩
          have HK3 := Lib.hid (HK2.out.trans k3)
          clear k3
          go_wp2
          go_ret
          exact ⟨by rw [HV.out, HE.out, Bool.true_and]; rfl, (HK0.out.trans HKW.out).trans HK3.out⟩
        · have b0 : (y == (t : Int)) = false := by simpa using hto
          have HTo := Lib.hid hto
          clear hto
          go_wp2
          refine wp_region_held_drew (S := Kept _) (by kernel_rfl) (Kept.refl _).drew (fun hHeld => ?_)
          refine rg_take (i := 0) (v := (.slice (some ⟨g7, 0, none⟩) N c7)) (some 75) rfl rfl (by kernel_rfl) (by kernel_rfl) (by kernel_rfl) (fun _ _ _ h => h) (Or.inl ⟨by rfl, fun _ _ => by go_simp⟩) hHeld ?_
          simp only [Act.put, List.setIfInBounds_toArray, List.set_cons_zero, List.set_cons_succ]
          refine rg_take (i := 1) (v := (.int .i64 (i : Int))) (some 76) rfl rfl (by kernel_rfl) (by kernel_rfl) (by kernel_rfl) (fun _ _ _ h => h) (Or.inl ⟨by rfl, fun _ _ => by go_simp⟩) hHeld ?_
          simp only [Act.put, List.setIfInBounds_toArray, List.set_cons_zero, List.set_cons_succ]
          refine rg_take (i := 2) (v := (.pointer (some ⟨g7, i, none⟩))) (some 77) rfl rfl (by kernel_rfl) (by kernel_rfl) (by kernel_rfl) (fun _ _ _ h => h) (Or.inl ⟨by rfl, fun _ _ => by go_simp⟩) hHeld ?_
          simp only [Act.put, List.setIfInBounds_toArray, List.set_cons_zero, List.set_cons_succ]
          refine rg_take (i := 3) (v := (.slice (some ⟨g, off, none⟩) M cu)) (some 78) rfl rfl (by kernel_rfl) (by kernel_rfl) (by kernel_rfl) (fun _ _ _ h => h) (Or.inl ⟨by rfl, fun w' h => by have h' := kept_cell h (d0); go_simp⟩) hHeld ?_
          simp only [Act.put, List.setIfInBounds_toArray, List.set_cons_zero, List.set_cons_succ]
          refine rg_take (i := 4) (v := (.pointer (some ⟨g, off, none⟩))) (some 79) rfl rfl (by kernel_rfl) (by kernel_rfl) (by kernel_rfl) (fun _ _ _ h => h) (Or.inl ⟨by rfl, fun _ _ => by go_simp⟩) hHeld ?_
          simp only [Act.put, List.setIfInBounds_toArray, List.set_cons_zero, List.set_cons_succ]
          refine rg_take (i := 5) (v := (.int .i64 y)) (some 80) rfl rfl (by kernel_rfl) (by kernel_rfl) (by kernel_rfl) (fun _ _ _ h => h) (Or.inl ⟨by rfl, fun w' h => by have h' := kept_cell h (d1); go_simp⟩) hHeld ?_
          simp only [Act.put, List.setIfInBounds_toArray, List.set_cons_zero, List.set_cons_succ]
          refine rg_take (i := 6) (v := (.pointer (some ⟨w.heap.size + 1, 1, none⟩))) (some 81) rfl rfl (by kernel_rfl) (by kernel_rfl) (by kernel_rfl) (fun _ _ _ h => h) (Or.inl ⟨by rfl, fun _ _ => by go_simp⟩) hHeld ?_
          simp only [Act.put, List.setIfInBounds_toArray, List.set_cons_zero, List.set_cons_succ]
          refine rg_take (i := 7) (v := (.int .i64 (t : Int))) (some 82) rfl rfl (by kernel_rfl) (by kernel_rfl) (by kernel_rfl) (fun _ _ _ h => h) (Or.inl ⟨by rfl, fun w' h => by have h' := kept_cell h (hctR); go_simp⟩) hHeld ?_
          simp only [Act.put, List.setIfInBounds_toArray, List.set_cons_zero, List.set_cons_succ]
          refine rg_take (i := 8) (v := (.bool false)) (some 83) rfl rfl (by kernel_rfl) (by kernel_rfl) (by kernel_rfl) (fun _ _ _ h => h) (Or.inl ⟨by rfl, fun _ _ => by go_simp⟩) hHeld ?_
          simp only [Act.put, List.setIfInBounds_toArray, List.set_cons_zero, List.set_cons_succ]
          refine wpAnyH_done (by kernel_rfl) ?_ _
          have HK2 := Lib.hid (HK.out.trans hHeld)
          clear hHeld
          go_wp2
          go_roundw
          case rel => exact ⟨i + 1, by omega, by go_num, fun j l' hj hl' => by
            by_cases hji : j < i
            · exact HNo.out j l' hji hl'
            · obtain rfl : j = i := by omega
              rw [Hl.out] at hl'
              rw [← Option.some.inj hl', HY.out]
              exact fun e => HTo.out (Option.some.inj e), HK2.out⟩
          case measure => simp [intOf]; omega
      · have hlt' : ¬ (i : Int) < (N : Int) := by omega
        have HE := Lib.hid (HN.out (fun j l hl => HNo.out j l (by have := (List.getElem?_eq_some_iff.1 hl).1; have := HNN.out; omega) hl))
        clear hK
        go_wp2
        go_ret
        exact ⟨by rw [HV.out, HE.out, Bool.false_and]; rfl, (HK0.out.trans HKW.out).trans HK.out⟩
  · have h0 : L = [] := List.eq_nil_of_length_eq_zero (by omega)
    have HE := Lib.hid (HN.out (fun j l hl => by rw [h0] at hl; simp at hl))
    subst h0
    obtain ⟨a7, c7, rfl⟩ := hR.slice
    clear hR
    go_wp2
    go_loopw [8] (fun t8 wr => t8 = .int .i64 0 ∧ wr = W) (fun _ _ => 0)
    case atStart => exact ⟨rfl, rfl⟩
    case round =>
      obtain ⟨rfl, rfl⟩ := hrel
      go_wp2
      go_ret
      exact ⟨by rw [HV.out, HE.out, Bool.false_and]; rfl, HK0.out.trans HKW.out⟩
set_option maxHeartbeats 4000000 in
theorem rpgo_b5 (p : Ps) (m : Mv) (f t : Nat) (h : Pf p m f t) (hp : p.t = 1) (h0 : (p.B.getD t 0 == 0) = false) (w : World) :
    Calls Tryz.prog 28 #[.agg (pl p).toArray, .agg (ml m).toArray] w fun e w' => e = .returned (.bool (pgoB p m)) ∧ Kept w w' := by
  have hB := h.pw.brd
  have HP : Hid (PAt _ _ p) := ⟨hB.1, heap_alloc2_old w (.cells (pl p).toArray 26) (.cells (ml m).toArray 35)⟩
  have HM : Hid (MAt _ _ m) := ⟨heap_alloc2_new w (.cells (pl p).toArray 26) (.cells (ml m).toArray 35)⟩
  have HK0 := Lib.hid (((Kept.refl w).alloc (.cells (pl p).toArray 26)).alloc (.cells (ml m).toArray 35))
  have hcf := HM.out.f
  have hct := HM.out.t
  rw [h.hf] at hcf
  rw [h.ht] at hct
  have htn := HP.out.turn
  rw [hp] at htn
  have hsq := HP.out.sq t h.t1
  have hrk := h.pw.rank
  have ht1 := h.t1
  have HV := Lib.hid (pgo_split h (-8) 6 (by rw [hp]; rfl) (by rw [hp]; rfl))
  have htI : (t : Int) < 64 := by omega
  have hw1 : IntKind.i64.wrap ((f : Int) + (-8)) = (f : Int) + (-8) := wr64 (by omega) (by omega)
  have hw2 : IntKind.i64.wrap ((f : Int) + (-16)) = (f : Int) + 2 * (-8) := by rw [wr64 (by omega) (by omega)]; omega
  have hsf := HP.out.sq f h.pw.s1
  have HTk := Lib.hid (fun w => rtakes_is p hB m h.on w)
  have hns : slidesB (bAt p.B (f : Int)) = false := by unfold slidesB; rw [knd_kind, show bAt p.B (f : Int) = p.B.getD f 0 from rfl, h.pw.kind]; rfl
  have HF := Lib.hid (fun (i : Nat) (l : List Int) => hit_first (B := p.B) (s := (f : Int)) (to := (t : Int)) (i := i) (l := l))
  have HN := Lib.hid (hit_nowhere (to := (t : Int)) hns)
  have HPos := Lib.hid (fun l (hl : l ∈ ofL (bAt p.B (f : Int)) (f : Int)) => (ofL_pos hl).1)
  have hbd := hB.2 f h.pw.s1
  have hwx := i8_i64 hB h.pw.s1
  have hx : bAt p.B (f : Int) = p.B.getD f 0 := rfl
  rw [hx] at HF HN HPos
  have HOf := Lib.hid (rof_is (p.B.getD f 0) (f : Int))
  have hx0 := hsf
  have hfI : (f : Int) < 64 := by have := h.pw.s1; omega
  generalize hitB p.B (f : Int) (t : Int) = hb at *
  generalize takeI p m = tk at *
  generalize ofL (p.B.getD f 0) (f : Int) = L at *
  generalize p.B.getD f 0 = x0 at *
  generalize p.B.getD t 0 = x1 at *
  have HV' : Hid (pgoB p m = (hb && decide (0 ≤ tk))) := by show _ = _; rw [HV.out, h0]; simp
  clear HV
  have HV := HV'
  clear HV'
  go_enter Tryz.func28, Tryz.ntmps28
  go_wp2
  have HPr := Lib.hid HP.out
  have HMr := Lib.hid HM.out
  refine wp_region_held_drew (S := Kept _) (by kernel_rfl) (Kept.refl _).drew (fun hHeld => ?_)
  refine rg_take (i := 0) (v := (.pointer (some ⟨w.heap.size + 1, 0, none⟩))) (some 60) rfl rfl (by kernel_rfl) (by kernel_rfl) (by kernel_rfl) (fun _ _ _ h => h) (Or.inl ⟨by rfl, fun _ _ => by go_simp⟩) hHeld ?_
  simp only [Act.put, List.setIfInBounds_toArray, List.set_cons_zero, List.set_cons_succ]
  refine rg_take (i := 1) (v := (.int .i64 (f : Int))) (some 61) rfl rfl (by kernel_rfl) (by kernel_rfl) (by kernel_rfl) (fun _ _ _ h => h) (Or.inl ⟨by rfl, fun w' h => by have h' := kept_cell h (hcf); go_simp⟩) hHeld ?_
  simp only [Act.put, List.setIfInBounds_toArray, List.set_cons_zero, List.set_cons_succ]
  refine rg_take (i := 2) (v := (.pointer (some ⟨w.heap.size, 0, none⟩))) (some 62) rfl rfl (by kernel_rfl) (by kernel_rfl) (by kernel_rfl) (fun _ _ _ h => h) (Or.inl ⟨by rfl, fun _ _ => by go_simp⟩) hHeld ?_
  simp only [Act.put, List.setIfInBounds_toArray, List.set_cons_zero, List.set_cons_succ]
  refine rg_take (i := 3) (v := (.pointer (some ⟨w.heap.size, f, none⟩))) (some 63) rfl rfl (by kernel_rfl) (by kernel_rfl) (by kernel_rfl) (fun _ _ _ h => h) (Or.inl ⟨by rfl, fun _ _ => by go_simp⟩) hHeld ?_
  simp only [Act.put, List.setIfInBounds_toArray, List.set_cons_zero, List.set_cons_succ]
  refine rg_take (i := 4) (v := (.int .i8 x0)) (some 64) rfl rfl (by kernel_rfl) (by kernel_rfl) (by kernel_rfl) (fun _ _ _ h => h) (Or.inl ⟨by rfl, fun w' h => by have h' := kept_cell h (hx0); go_simp⟩) hHeld ?_
  simp only [Act.put, List.setIfInBounds_toArray, List.set_cons_zero, List.set_cons_succ]
  refine rg_take (i := 5) (v := (.int .i64 x0)) (some 65) rfl rfl (by kernel_rfl) (by kernel_rfl) (by kernel_rfl) (fun _ _ _ h => h) (Or.inl ⟨by rfl, fun _ _ => by go_simp⟩) hHeld ?_
  simp only [Act.put, List.setIfInBounds_toArray, List.set_cons_zero, List.set_cons_succ]
  refine rg_take (i := 6) (v := (.pointer (some ⟨w.heap.size + 1, 0, none⟩))) (some 66) rfl rfl (by kernel_rfl) (by kernel_rfl) (by kernel_rfl) (fun _ _ _ h => h) (Or.inl ⟨by rfl, fun _ _ => by go_simp⟩) hHeld ?_
  simp only [Act.put, List.setIfInBounds_toArray, List.set_cons_zero, List.set_cons_succ]
  refine rg_take (i := 7) (v := (.int .i64 (f : Int))) (some 67) rfl rfl (by kernel_rfl) (by kernel_rfl) (by kernel_rfl) (fun _ _ _ h => h) (Or.inl ⟨by rfl, fun w' h => by have h' := kept_cell h (hcf); go_simp⟩) hHeld ?_
  simp only [Act.put, List.setIfInBounds_toArray, List.set_cons_zero, List.set_cons_succ]
  refine wpAnyH_ready (rs := [8]) (by kernel_rfl) (by simp) ?_
  refine AllReadyH.cons rfl (fun K hK => ?_) AllReadyH.nil
  go_simp
  refine (HOf.out _).mono ?_
  rintro e W ⟨v, rfl, hR, kW⟩
  refine hK.out _ _ (hHeld.trans kW) (fun _ => ?_)
  replace hHeld := hHeld.trans kW
  clear hK K
  refine rg_take (i := 9) (v := v) (some 7) rfl rfl (by kernel_rfl) (by kernel_rfl) (by kernel_rfl) (fun _ _ _ h => h) (Or.inl ⟨by rfl, fun _ _ => by go_simp⟩) hHeld ?_
  simp only [Act.put, List.setIfInBounds_toArray, List.set_cons_zero, List.set_cons_succ]
  refine wpAnyH_done (by kernel_rfl) ?_ _
  have HKW := Lib.hid hHeld
  have HPW := Lib.hid (HP.out.kept hHeld)
  have HMW := Lib.hid (MAt.kept HM.out hHeld)
  have hctW := kept_cell hHeld hct
  clear hHeld kW hcf hx0 hct hsq htn HPr HMr
  by_cases hL : 0 < L.length
  · obtain ⟨g7, c7, rfl, hn1, hn2, hrow⟩ := hR.read hL
    unfold maxLen at hn2
    have HRow := Lib.hid hrow
    generalize hN : L.length = N at *
    have HNN := Lib.hid hN
    clear hR hrow hN
    go_wp2
    go_loopw [8] (fun t8 wr => ∃ i : Nat, i ≤ N ∧ t8 = .int .i64 i ∧ (∀ j l, j < i → L[j]? = some l → l[0]? ≠ some (t : Int)) ∧ Kept W wr) (fun t8 _ => N - (intOf t8).toNat)
    case atStart => exact ⟨0, by omega, rfl, fun j l hj => by omega, Kept.refl _⟩
    case round =>
      obtain ⟨i, hi, rfl, hno, hK⟩ := hrel
      have HNo := Lib.hid hno
      have HK := Lib.hid hK
      have hctR := kept_cell hK hctW
      clear hno
      by_cases hlt : i < N
      · have hlt' : (i : Int) < (N : Int) := by omega
        obtain ⟨l, hl⟩ : ∃ l, L[i]? = some l := ⟨_, List.getElem?_eq_getElem (by have := HNN.out; omega)⟩
        obtain ⟨u, g, hcu, hls, _⟩ := HRow.out i l hl
        have hpos := HPos.out l (List.mem_of_getElem? hl)
        obtain ⟨y, hy⟩ : ∃ y, l[0]? = some y := ⟨_, List.getElem?_eq_getElem hpos⟩
        obtain ⟨off, cu, rfl, hk1, hk2, hcell⟩ := hls.full hpos
        have Hl := Lib.hid hl
        have d1 := kept_cell hK (hcell 0 y hy)
        have d0 := kept_cell hK hcu
        rw [Nat.add_zero] at d1
        have HY := Lib.hid hy
        have hbm : l.length ≤ 9223372036854775807 := by unfold maxLen at hk2; omega
        have HMr := Lib.hid (MAt.kept HMW.out hK)
        have HPr := Lib.hid (HPW.out.kept hK)
        clear hl hy hcell hk1 hk2 hcu hls hK
        generalize hM : l.length = M at *
        clear hM
        have hposI : (0 : Int) < (M : Int) := by omega
        by_cases hto : y = (t : Int)
        · have b0 : (y == (t : Int)) = true := by simpa using hto
          have HE := Lib.hid (HF.out i l Hl.out (by rw [HY.out, hto]))
          clear hto
          go_wp2
          refine wp_region_held_drew (S := Kept _) (by kernel_rfl) (Kept.refl _).drew (fun hHeld => ?_)
          refine rg_take (i := 0) (v := (.slice (some ⟨g7, 0, none⟩) N c7)) (some 75) rfl rfl (by kernel_rfl) (by kernel_rfl) (by kernel_rfl) (fun _ _ _ h => h) (Or.inl ⟨by rfl, fun _ _ => by go_simp⟩) hHeld ?_
          simp only [Act.put, List.setIfInBounds_toArray, List.set_cons_zero, List.set_cons_succ]
          refine rg_take (i := 1) (v := (.int .i64 (i : Int))) (some 76) rfl rfl (by kernel_rfl) (by kernel_rfl) (by kernel_rfl) (fun _ _ _ h => h) (Or.inl ⟨by rfl, fun _ _ => by go_simp⟩) hHeld ?_
          simp only [Act.put, List.setIfInBounds_toArray, List.set_cons_zero, List.set_cons_succ]
          refine rg_take (i := 2) (v := (.pointer (some ⟨g7, i, none⟩))) (some 77) rfl rfl (by kernel_rfl) (by kernel_rfl) (by kernel_rfl) (fun _ _ _ h => h) (Or.inl ⟨by rfl, fun _ _ => by go_simp⟩) hHeld ?_
          simp only [Act.put, List.setIfInBounds_toArray, List.set_cons_zero, List.set_cons_succ]
          refine rg_take (i := 3) (v := (.slice (some ⟨g, off, none⟩) M cu)) (some 78) rfl rfl (by kernel_rfl) (by kernel_rfl) (by kernel_rfl) (fun _ _ _ h => h) (Or.inl ⟨by rfl, fun w' h => by have h' := kept_cell h (d0); go_simp⟩) hHeld ?_
          simp only [Act.put, List.setIfInBounds_toArray, List.set_cons_zero, List.set_cons_succ]
          refine rg_take (i := 4) (v := (.pointer (some ⟨g, off, none⟩))) (some 79) rfl rfl (by kernel_rfl) (by kernel_rfl) (by kernel_rfl) (fun _ _ _ h => h) (Or.inl ⟨by rfl, fun _ _ => by go_simp⟩) hHeld ?_
          simp only [Act.put, List.setIfInBounds_toArray, List.set_cons_zero, List.set_cons_succ]
          refine rg_take (i := 5) (v := (.int .i64 y)) (some 80) rfl rfl (by kernel_rfl) (by kernel_rfl) (by kernel_rfl) (fun _ _ _ h => h) (Or.inl ⟨by rfl, fun w' h => by have h' := kept_cell h (d1); go_simp⟩) hHeld ?_
          simp only [Act.put, List.setIfInBounds_toArray, List.set_cons_zero, List.set_cons_succ]
          refine rg_take (i := 6) (v := (.pointer (some ⟨w.heap.size + 1, 1, none⟩))) (some 81) rfl rfl (by kernel_rfl) (by kernel_rfl) (by kernel_rfl) (fun _ _ _ h => h) (Or.inl ⟨by rfl, fun _ _ => by go_simp⟩) hHeld ?_
          simp only [Act.put, List.setIfInBounds_toArray, List.set_cons_zero, List.set_cons_succ]
          refine rg_take (i := 7) (v := (.int .i64 (t : Int))) (some 82) rfl rfl (by kernel_rfl) (by kernel_rfl) (by kernel_rfl) (fun _ _ _ h => h) (Or.inl ⟨by rfl, fun w' h => by have h' := kept_cell h (hctR); go_simp⟩) hHeld ?_
          simp only [Act.put, List.setIfInBounds_toArray, List.set_cons_zero, List.set_cons_succ]
          refine rg_take (i := 8) (v := (.bool true)) (some 83) rfl rfl (by kernel_rfl) (by kernel_rfl) (by kernel_rfl) (fun _ _ _ h => h) (Or.inl ⟨by rfl, fun _ _ => by go_simp⟩) hHeld ?_
          simp only [Act.put, List.setIfInBounds_toArray, List.set_cons_zero, List.set_cons_succ]
          refine wpAnyH_done (by kernel_rfl) ?_ _
          have HK2 := Lib.hid (HK.out.trans hHeld)
          have HM2 := Lib.hid (MAt.kept HMr.out hHeld)
          have HP2 := Lib.hid (HPr.out.kept hHeld)
          clear hHeld
          go_wp2_with (first | (refine wpList_load_ps (by rfl) _ rfl _ rfl _ (HP2.out) ?_) | (refine wpList_load_pb (by rfl) _ rfl _ rfl _ (HP2.out) ?_) | (refine wpList_load_mv (by rfl) _ rfl _ rfl _ (HM2.out) ?_))
          refine (HTk.out _).mono ?_
          rintro e w3 ⟨rfl, k3⟩
          have HK3 := Lib.hid (HK2.out.trans k3)
          clear k3
          go_wp2
          go_ret
          exact ⟨by rw [HV.out, HE.out, Bool.true_and]; rfl, (HK0.out.trans HKW.out).trans HK3.out⟩
        · have b0 : (y == (t : Int)) = false := by simpa using hto
          have HTo := Lib.hid hto
          clear hto
          go_wp2
          refine wp_region_held_drew (S := Kept _) (by kernel_rfl) (Kept.refl _).drew (fun hHeld => ?_)
          refine rg_take (i := 0) (v := (.slice (some ⟨g7, 0, none⟩) N c7)) (some 75) rfl rfl (by kernel_rfl) (by kernel_rfl) (by kernel_rfl) (fun _ _ _ h => h) (Or.inl ⟨by rfl, fun _ _ => by go_simp⟩) hHeld ?_
          simp only [Act.put, List.setIfInBounds_toArray, List.set_cons_zero, List.set_cons_succ]
          refine rg_take (i := 1) (v := (.int .i64 (i : Int))) (some 76) rfl rfl (by kernel_rfl) (by kernel_rfl) (by kernel_rfl) (fun _ _ _ h => h) (Or.inl ⟨by rfl, fun _ _ => by go_simp⟩) hHeld ?_
          simp only [Act.put, List.setIfInBounds_toArray, List.set_cons_zero, List.set_cons_succ]
          refine rg_take (i := 2) (v := (.pointer (some ⟨g7, i, none⟩))) (some 77) rfl rfl (by kernel_rfl) (by kernel_rfl) (by kernel_rfl) (fun _ _ _ h => h) (Or.inl ⟨by rfl, fun _ _ => by go_simp⟩) hHeld ?_
          simp only [Act.put, List.setIfInBounds_toArray, List.set_cons_zero, List.set_cons_succ]
          refine rg_take (i := 3) (v := (.slice (some ⟨g, off, none⟩) M cu)) (some 78) rfl rfl (by kernel_rfl) (by kernel_rfl) (by kernel_rfl) (fun _ _ _ h => h) (Or.inl ⟨by rfl, fun w' h => by have h' := kept_cell h (d0); go_simp⟩) hHeld ?_
          simp only [Act.put, List.setIfInBounds_toArray, List.set_cons_zero, List.set_cons_succ]
          refine rg_take (i := 4) (v := (.pointer (some ⟨g, off, none⟩))) (some 79) rfl rfl (by kernel_rfl) (by kernel_rfl) (by kernel_rfl) (fun _ _ _ h => h) (Or.inl ⟨by rfl, fun _ _ => by go_simp⟩) hHeld ?_
          simp only [Act.put, List.setIfInBounds_toArray, List.set_cons_zero, List.set_cons_succ]
          refine rg_take (i := 5) (v := (.int .i64 y)) (some 80) rfl rfl (by kernel_rfl) (by kernel_rfl) (by kernel_rfl) (fun _ _ _ h => h) (Or.inl ⟨by rfl, fun w' h => by have h' := kept_cell h (d1); go_simp⟩) hHeld ?_
          simp only [Act.put, List.setIfInBounds_toArray, List.set_cons_zero, List.set_cons_succ]
          refine rg_take (i := 6) (v := (.pointer (some ⟨w.heap.size + 1, 1, none⟩))) (some 81) rfl rfl (by kernel_rfl) (by kernel_rfl) (by kernel_rfl) (fun _ _ _ h => h) (Or.inl ⟨by rfl, fun _ _ => by go_simp⟩) hHeld ?_
          simp only [Act.put, List.setIfInBounds_toArray, List.set_cons_zero, List.set_cons_succ]
          refine rg_take (i := 7) (v := (.int .i64 (t : Int))) (some 82) rfl rfl (by kernel_rfl) (by kernel_rfl) (by kernel_rfl) (fun _ _ _ h => h) (Or.inl ⟨by rfl, fun w' h => by have h' := kept_cell h (hctR); go_simp⟩) hHeld ?_
          simp only [Act.put, List.setIfInBounds_toArray, List.set_cons_zero, List.set_cons_succ]
          refine rg_take (i := 8) (v := (.bool false)) (some 83) rfl rfl (by kernel_rfl) (by kernel_rfl) (by kernel_rfl) (fun _ _ _ h => h) (Or.inl ⟨by rfl, fun _ _ => by go_simp⟩) hHeld ?_
          simp only [Act.put, List.setIfInBounds_toArray, List.set_cons_zero, List.set_cons_succ]
          refine wpAnyH_done (by kernel_rfl) ?_ _
          have HK2 := Lib.hid (HK.out.trans hHeld)
          clear hHeld
          go_wp2
          go_roundw
          case rel => exact ⟨i + 1, by omega, by go_num, fun j l' hj hl' => by
            by_cases hji : j < i
            · exact HNo.out j l' hji hl'
            · obtain rfl : j = i := by omega
              rw [Hl.out] at hl'
              rw [← Option.some.inj hl', HY.out]
              exact fun e => HTo.out (Option.some.inj e), HK2.out⟩
          case measure => simp [intOf]; omega
      · have hlt' : ¬ (i : Int) < (N : Int) := by omega
        have HE := Lib.hid (HN.out (fun j l hl => HNo.out j l (by have := (List.getElem?_eq_some_iff.1 hl).1; have := HNN.out; omega) hl))
        clear hK
        go_wp2
        go_ret
        exact ⟨by rw [HV.out, HE.out, Bool.false_and]; rfl, (HK0.out.trans HKW.out).trans HK.out⟩
  · have h0 : L = [] := List.eq_nil_of_length_eq_zero (by omega)
    have HE := Lib.hid (HN.out (fun j l hl => by rw [h0] at hl; simp at hl))
    subst h0
    obtain ⟨a7, c7, rfl⟩ := hR.slice
    clear hR
    go_wp2
    go_loopw [8] (fun t8 wr => t8 = .int .i64 0 ∧ wr = W) (fun _ _ => 0)
    case atStart => exact ⟨rfl, rfl⟩
    case round =>
      obtain ⟨rfl, rfl⟩ := hrel
      go_wp2
      go_ret
      exact ⟨by rw [HV.out, HE.out, Bool.false_and]; rfl, HK0.out.trans HKW.out⟩
theorem rpgo_is (p : Ps) (m : Mv) (f t : Nat) (h : Pf p m f t) (w : World) :
    Calls Tryz.prog 28 #[.agg (pl p).toArray, .agg (ml m).toArray] w fun e w' => e = .returned (.bool (pgoB p m)) ∧ Kept w w' := by
  rcases h.pw.turn with ⟨hp, _⟩ | ⟨hp, _⟩
  · cases h0 : (p.B.getD t 0 == 0)
    · exact rpgo_w5 p m f t h hp h0 w
    · have h0' := beq_iff_eq.1 h0
      cases hq : ((t : Int) == (f : Int) + (8))
      · cases hq2 : ((t : Int) == (f : Int) + (16))
        · exact rpgo_w4 p m f t h hp h0' hq hq2 w
        · cases hs : ((f : Int) / 8 == 1)
          · exact rpgo_w3 p m f t h hp h0' hq hq2 hs w
          · exact rpgo_w2 p m f t h hp h0' hq hq2 hs w
      · exact rpgo_w1 p m f t h hp h0' hq w
  · cases h0 : (p.B.getD t 0 == 0)
    · exact rpgo_b5 p m f t h hp h0 w
    · have h0' := beq_iff_eq.1 h0
      cases hq : ((t : Int) == (f : Int) + (-8))
      · cases hq2 : ((t : Int) == (f : Int) + (-16))
        · exact rpgo_b4 p m f t h hp h0' hq hq2 w
        · cases hs : ((f : Int) / 8 == 6)
          · exact rpgo_b3 p m f t h hp h0' hq hq2 hs w
          · exact rpgo_b2 p m f t h hp h0' hq hq2 hs w
      · exact rpgo_b1 p m f t h hp h0' hq w
end Go.Proofs.YtgcippicdhaaeaaGreatDoor
namespace Go.Proofs.YtgcippicdhaaeaaGreatDoor
open Go.RowKit
set_option linter.unusedVariables false
set_option linter.unusedSimpArgs false
set_option maxRecDepth 100000

theorem goes_pawn {p : Ps} {m : Mv} (h : formB p m = true) (hp : pawnB p m = true) : goesM p m = pgoB p m := by unfold goesM; rw [h, hp]; rfl
theorem goes_man {p : Ps} {m : Mv} (h : formB p m = true) (hp : pawnB p m = false) : goesM p m = (hitB p.B m.f m.t || decide (castN p m < 4)) := by unfold goesM; rw [h, hp]; rfl
theorem goes_not {p : Ps} {m : Mv} (h : formB p m = false) : goesM p m = false := by unfold goesM; rw [h]; rfl
end Go.Proofs.YtgcippicdhaaeaaGreatDoor
namespace Go.Proofs.YtgcippicdhaaeaaGreatDoor
open Go.RowKit
set_option linter.unusedVariables false
set_option linter.unusedSimpArgs false
set_option maxRecDepth 100000

set_option maxHeartbeats 2000000 in
theorem sameM_yes (g1 g2 : Nat) (v1 v2 : Value) (l : List Mv) (w : World) (h1 : LsM w g1 v1 l) (h2 : LsM w g2 v2 l) :
    Calls Tryz.prog 12 #[v1, v2] w fun e w' => e = .returned (.bool true) ∧ Kept w w' := by
  by_cases hl : 0 < l.length
  · obtain ⟨o1, c1, rfl, a1, b1, k1⟩ := h1.full hl
    obtain ⟨o2, c2, rfl, a2, b2, k2⟩ := h2.full hl
    have K1 := Lib.hid k1
    have K2 := Lib.hid k2
    generalize hn : l.length = n at *
    have HN := Lib.hid hn
    have hm : n ≤ maxLen := by omega
    unfold maxLen at hm
    clear k1 k2 h1 h2 hn b1 b2
    go_enter Tryz.func12, Tryz.ntmps12
    go_wp2
    go_loopw [5] (fun t5 wr => ∃ k : Nat, k ≤ n ∧ t5 = .int .i64 k ∧ Kept w wr) (fun t5 _ => n - (intOf t5).toNat)
    case atStart => exact ⟨0, Nat.zero_le _, rfl, Kept.refl _⟩
    case round =>
      obtain ⟨k, hk, rfl, hK⟩ := hrel
      have HK := Lib.hid hK
      by_cases hlt : k < n
      · have hlt' : (k : Int) < (n : Int) := by omega
        obtain ⟨x, hx⟩ : ∃ x, l[k]? = some x := ⟨_, List.getElem?_eq_getElem (by have := HN.out; omega)⟩
        have HR1 := Lib.hid (range_i (range_kept K1.out hK) hx)
        have HR2 := Lib.hid (range_i (range_kept K2.out hK) hx)
        have Hb : Hid ((!beqM x x) = false) := by show _ = _; rw [beqM_refl]; rfl
        clear hx hK
        go_wp2
        refine wp_region_held_drew (S := Kept _) (by kernel_rfl) (Kept.refl _).drew (fun hHeld => ?_)
        refine rg_take (i := 0) (v := (.slice (some ⟨g1, o1, none⟩) n c1)) (some 17) rfl rfl (by kernel_rfl) (by kernel_rfl) (by kernel_rfl) (fun _ _ _ h => h) (Or.inl ⟨by rfl, fun _ _ => by go_simp⟩) hHeld ?_
        simp only [Act.put, List.setIfInBounds_toArray, List.set_cons_zero, List.set_cons_succ]
        refine rg_take (i := 1) (v := (.int .i64 (k : Int))) (some 18) rfl rfl (by kernel_rfl) (by kernel_rfl) (by kernel_rfl) (fun _ _ _ h => h) (Or.inl ⟨by rfl, fun _ _ => by go_simp⟩) hHeld ?_
        simp only [Act.put, List.setIfInBounds_toArray, List.set_cons_zero, List.set_cons_succ]
        refine rg_take (i := 2) (v := (.pointer (some ⟨g1, o1 + k * 3, none⟩))) (some 19) rfl rfl (by kernel_rfl) (by kernel_rfl) (by kernel_rfl) (fun _ _ _ h => h) (Or.inl ⟨by rfl, fun _ _ => by go_simp⟩) hHeld ?_
        simp only [Act.put, List.setIfInBounds_toArray, List.set_cons_zero, List.set_cons_succ]
        refine rg_take (i := 3) (some 20) rfl rfl (by kernel_rfl) (by kernel_rfl) (by kernel_rfl) (fun _ _ _ h => h) (take_load_mvi (by rfl) _ rfl g1 (o1 + k * 3) rfl x (fun _ h => range_kept (HR1.out) h)) hHeld ?_
        simp only [Act.put, List.setIfInBounds_toArray, List.set_cons_zero, List.set_cons_succ]
        refine rg_take (i := 4) (v := (.slice (some ⟨g2, o2, none⟩) n c2)) (some 21) rfl rfl (by kernel_rfl) (by kernel_rfl) (by kernel_rfl) (fun _ _ _ h => h) (Or.inl ⟨by rfl, fun _ _ => by go_simp⟩) hHeld ?_
        simp only [Act.put, List.setIfInBounds_toArray, List.set_cons_zero, List.set_cons_succ]
        refine rg_take (i := 5) (v := (.int .i64 (k : Int))) (some 22) rfl rfl (by kernel_rfl) (by kernel_rfl) (by kernel_rfl) (fun _ _ _ h => h) (Or.inl ⟨by rfl, fun _ _ => by go_simp⟩) hHeld ?_
        simp only [Act.put, List.setIfInBounds_toArray, List.set_cons_zero, List.set_cons_succ]
        refine rg_take (i := 6) (v := (.pointer (some ⟨g2, o2 + k * 3, none⟩))) (some 23) rfl rfl (by kernel_rfl) (by kernel_rfl) (by kernel_rfl) (fun _ _ _ h => h) (Or.inl ⟨by rfl, fun _ _ => by go_simp⟩) hHeld ?_
        simp only [Act.put, List.setIfInBounds_toArray, List.set_cons_zero, List.set_cons_succ]
        refine rg_take (i := 7) (some 24) rfl rfl (by kernel_rfl) (by kernel_rfl) (by kernel_rfl) (fun _ _ _ h => h) (take_load_mvi (by rfl) _ rfl g2 (o2 + k * 3) rfl x (fun _ h => range_kept (HR2.out) h)) hHeld ?_
        simp only [Act.put, List.setIfInBounds_toArray, List.set_cons_zero, List.set_cons_succ]
        refine rg_take (i := 8) (some 25) rfl rfl (by kernel_rfl) (by kernel_rfl) (by kernel_rfl) (fun _ _ _ h => h) (take_neq_mv (by rfl) _ _ _ rfl x x rfl rfl (Hb.out)) hHeld ?_
        simp only [Act.put, List.setIfInBounds_toArray, List.set_cons_zero, List.set_cons_succ]
        refine wpAnyH_done (by kernel_rfl) ?_ _
        have HK2 := Lib.hid (HK.out.trans hHeld)
        clear hHeld
        go_wp2
        go_roundw
        case rel => exact ⟨k + 1, by omega, by go_num, HK2.out⟩
        case measure => simp [intOf]; omega
      · clear hK
        go_wp2
        go_ret
        exact ⟨rfl, HK.out⟩
  · have h0 : l = [] := List.eq_nil_of_length_eq_zero (by omega)
    subst h0
    obtain ⟨a1, c1, rfl⟩ := h1.slice
    obtain ⟨a2, c2, rfl⟩ := h2.slice
    go_enter Tryz.func12, Tryz.ntmps12
    go_wp2
    go_loopw [5] (fun t5 wr => t5 = .int .i64 0 ∧ wr = w) (fun _ _ => 0)
    case atStart => exact ⟨rfl, rfl⟩
    case round =>
      obtain ⟨rfl, rfl⟩ := hrel
      go_wp2
      go_ret
      exact ⟨rfl, Kept.refl _⟩
end Go.Proofs.YtgcippicdhaaeaaGreatDoor
