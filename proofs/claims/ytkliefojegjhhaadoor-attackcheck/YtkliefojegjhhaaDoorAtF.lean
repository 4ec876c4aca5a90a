/- The document's Hits, Strikes and By. -/
import Derived.Test.YtkliefojegjhhaaDoorAtE
import Derived.Test.YtkliefojegjhhaaDoorRaY
namespace Go.Proofs.YtkliefojegjhhaaDoor
open Go.RowKit
set_option linter.unusedVariables false
set_option linter.unusedSimpArgs false

theorem rside_any (m : Int) (w : World) : Calls Tryd.prog 44 #[.int .i64 m] w fun e w' => e = .returned (.int .i64 (sideI m)) ∧ w = w' := by
  have hk := Lib.hid (rknd_any m)
  unfold sideI
  by_cases h : manB m = true
  · have hm := (manB_iff m).1 h
    have h0 : (knd m == 0) = false := by
      unfold knd
      rw [if_neg (by omega)]
      split <;> simp <;> omega
    rw [if_pos h]
    generalize knd m = q at *
    by_cases hp : 0 < m
    · have hp' : ¬ m < 0 := by omega
      rw [if_pos hp]
      clear h hm
      go_enter Tryd.func44, Tryd.ntmps44
      go_wp2_with fail
      refine (hk.out _).mono ?_
      rintro e w' ⟨rfl, rfl⟩
      go_wp2
      go_ret
      exact ⟨rfl, rfl⟩
    · have hp' : m < 0 := by omega
      rw [if_neg hp]
      clear h hm
      go_enter Tryd.func44, Tryd.ntmps44
      go_wp2_with fail
      refine (hk.out _).mono ?_
      rintro e w' ⟨rfl, rfl⟩
      go_wp2
      go_ret
      exact ⟨rfl, rfl⟩
  · have hm := (manB_not m).1 (by simpa using h)
    rw [if_neg h]
    rw [knd_none hm] at hk
    clear h hm
    go_enter Tryd.func44, Tryd.ntmps44
    go_wp2_with fail
    refine (hk.out _).mono ?_
    rintro e w' ⟨rfl, rfl⟩
    go_wp2
    go_ret
    exact ⟨rfl, rfl⟩
theorem ofL_mem {m s : Int} {l : List Int} (h : l ∈ ofL m s) {x : Int} (hx : x ∈ l) : 0 ≤ x ∧ x < 64 := by
  unfold ofL ofN at h
  obtain ⟨way, _, hl⟩ := List.mem_flatMap.1 h
  unfold oneL at hl
  split at hl
  · cases hl
  · rw [List.mem_singleton] at hl
    subst hl
    unfold cutL at hx
    split at hx
    · exact alongL_mem hx
    · exact alongL_mem (List.mem_of_mem_take hx)
theorem hit_found {B : List Int} {s to : Int} {i k : Nat} {l : List Int} (hl : (ofL (bAt B s) s)[i]? = some l) (hk : l[k]? = some to) (hc : ∀ j, j < k → ∀ y, l[j]? = some y → bAt B y = 0) : hitB B s to = true := by
  rw [hitB_iff]
  unfold strikeL
  rw [List.mem_flatMap]
  exact ⟨l, List.mem_of_getElem? hl, (mem_upto B to l).2 ⟨k, hk, hc⟩⟩
theorem hit_none {B : List Int} {s to : Int} (h : ∀ (i : Nat) (l : List Int), (ofL (bAt B s) s)[i]? = some l → to ∉ uptoL B l) : hitB B s to = false := by
  rw [Bool.eq_false_iff]
  intro hc
  rw [hitB_iff] at hc
  unfold strikeL at hc
  obtain ⟨l, hl, hx⟩ := List.mem_flatMap.1 hc
  obtain ⟨i, hi, e⟩ := List.mem_iff_getElem.1 hl
  exact h i l (by rw [List.getElem?_eq_getElem hi, e]) hx
theorem upto_end {B : List Int} {to : Int} {l : List Int} (h : ∀ j, j < l.length → l[j]? ≠ some to) : to ∉ uptoL B l := by
  rw [mem_upto]
  rintro ⟨i, hi, _⟩
  obtain ⟨hlt, _⟩ := List.getElem?_eq_some_iff.1 hi
  exact h i hlt hi
theorem upto_stop {B : List Int} {to y : Int} {l : List Int} {k : Nat} (h : ∀ j, j < k → l[j]? ≠ some to) (hy : l[k]? = some y) (hne : y ≠ to) (hb : bAt B y ≠ 0) : to ∉ uptoL B l := by
  rw [mem_upto]
  rintro ⟨i, hi, hc⟩
  by_cases h1 : i < k
  · exact h i h1 hi
  · by_cases h2 : i = k
    · subst h2; rw [hy] at hi; exact hne (Option.some.inj hi)
    · exact hb (hc k (by omega) y hy)
set_option maxRecDepth 100000 in
set_option maxHeartbeats 2000000 in
theorem hits_is (B : List Int) (hB : Brd B) (s : Nat) (hs : s < 64) (to : Int) (w : World) :
    Calls Tryd.prog 45 #[.agg (cl B).toArray, .int .i64 (s : Int), .int .i64 to] w fun e w' => e = .returned (.bool (hitB B (s : Int) to)) ∧ Kept w w' := by
  have hbl := heap_alloc_new w (.cells (cl B).toArray 40)
  have hc0 := board_cell hB hbl s hs
  obtain ⟨hb1, hb2⟩ := hB.2 s hs
  have HB := Lib.hid hB
  have HBl := Lib.hid hbl
  have HF := Lib.hid (fun (i k : Nat) (l : List Int) => hit_found (B := B) (s := (s : Int)) (to := to) (i := i) (k := k) (l := l))
  have HN := Lib.hid (hit_none (B := B) (s := (s : Int)) (to := to))
  have HMem := Lib.hid (fun (l : List Int) (h : l ∈ ofL (bAt B (s : Int)) (s : Int)) (x : Int) (hx : x ∈ l) => ofL_mem h hx)
  have hx : bAt B (s : Int) = B.getD s 0 := rfl
  rw [hx] at HF HN HMem
  have hOf := Lib.hid (rof_is (B.getD s 0) (s : Int))
  generalize hitB B (s : Int) to = hb at *
  generalize B.getD s 0 = x at *
  clear hB hbl hx
  generalize ofL x (s : Int) = L at *
  go_enter Tryd.func45, Tryd.ntmps45
  go_wp2_with fail
  refine (hOf.out _).mono ?_
  rintro e W ⟨v, rfl, hR, hK⟩
  have HK := Lib.hid (((Kept.refl w).alloc _).trans hK)
  have HBW := Lib.hid (hK.heap HBl.out)
  clear hK
  by_cases hL : 0 < L.length
  · obtain ⟨g7, c7, rfl, hn1, hn2, hrow⟩ := hR.read hL
    unfold maxLen at hn2
    have HRow := Lib.hid hrow
    generalize hN : L.length = N at *
    have HNN := Lib.hid hN
    clear hR hrow hN hc0
    go_wp2
    go_loop [8] (fun t8 => ∃ i : Nat, i ≤ N ∧ t8 = .int .i64 i ∧ ∀ j l, j < i → L[j]? = some l → to ∉ uptoL B l) (fun t8 => N - (intOf t8).toNat)
    case atStart => exact ⟨0, by omega, rfl, fun j l hj => by omega⟩
    case round =>
      obtain ⟨i, hi, rfl, hno⟩ := hrel
      have HNo := Lib.hid hno
      clear hno
      by_cases hlt : i < N
      · have hlt' : (i : Int) < (N : Int) := by omega
        obtain ⟨l, hl⟩ : ∃ l, L[i]? = some l := ⟨_, List.getElem?_eq_getElem (by have := HNN.out; omega)⟩
        obtain ⟨u, g, hcu, hls, _⟩ := HRow.out i l hl
        have HMl := Lib.hid (HMem.out l (List.mem_of_getElem? hl))
        have Hl := Lib.hid hl
        clear hl
        obtain ⟨au, cu, rfl⟩ := hls.slice
        have HLs := Lib.hid hls
        clear hls
        generalize hM : l.length = M at *
        have HMM := Lib.hid hM
        clear hM
        go_wp2
        go_loop [9] (fun t9 => ∃ k : Nat, k ≤ M ∧ t9 = .int .i64 k ∧ ∀ j, j < k → l[j]? ≠ some to ∧ ∀ y, l[j]? = some y → bAt B y = 0) (fun t9 => M - (intOf t9).toNat)
        case atStart => exact ⟨0, by omega, rfl, fun j hj => by omega⟩
        case round =>
          obtain ⟨k, hk, rfl, hin⟩ := hrel
          have HIn := Lib.hid hin
          clear hin
          by_cases hkl : k < M
          · have hkl' : (k : Int) < (M : Int) := by omega
            obtain ⟨y, hy⟩ : ∃ y, l[k]? = some y := ⟨_, List.getElem?_eq_getElem (by have := HMM.out; omega)⟩
            obtain ⟨off, cu', e6, hk1, hk2, hcell⟩ := HLs.out.full (by have := HMM.out; omega)
            injection e6 with e61 e62 e63
            have HE62 := Lib.hid e62
            subst e61 e63
            clear e62
            have d1 := hcell k _ hy
            obtain ⟨y0, y1⟩ := HMl.out y (List.mem_of_getElem? hy)
            obtain ⟨yn, rfl⟩ := Int.eq_ofNat_of_zero_le y0
            have hyn : yn < 64 := by omega
            have d2 := board_cell HB.out HBW.out yn hyn
            have HY := Lib.hid hy
            have hbm : M ≤ 9223372036854775807 := by unfold maxLen at hk2; have := HMM.out; omega
            clear hy hcell hk1 hk2
            by_cases hto : (yn : Int) = to
            · have b0 : ((yn : Int) == to) = true := by simpa using hto
              have HE := Lib.hid (HF.out i k l Hl.out (by rw [HY.out, hto]) (fun j hj y hy => (HIn.out j hj).2 y hy))
              clear hto d2
              go_wp2
              go_ret
              exact ⟨by rw [HE.out]; rfl, HK.out⟩
            · have b0 : ((yn : Int) == to) = false := by simpa using hto
              have HTo := Lib.hid hto
              clear hto
              obtain ⟨z, hz⟩ : ∃ z, B.getD yn 0 = z := ⟨_, rfl⟩
              rw [hz] at d2
              by_cases h0 : z = 0
              · have b1 : (z != 0) = false := by simpa using h0
                have HZ := Lib.hid (show bAt B (yn : Int) = 0 by show B.getD yn 0 = 0; rw [hz]; exact h0)
                clear h0 hz
                go_wp2
                go_round
                case rel => exact ⟨k + 1, by omega, by go_num, fun j hj => by
                  by_cases hji : j < k
                  · exact HIn.out j hji
                  · obtain rfl : j = k := by omega
                    rw [HY.out]
                    exact ⟨fun e => HTo.out (Option.some.inj e), fun y e => by rw [← Option.some.inj e]; exact HZ.out⟩⟩
                case measure => simp [intOf]; omega
              · have b1 : (z != 0) = true := by simpa using h0
                have HSt := Lib.hid (upto_stop (fun j hj => (HIn.out j hj).1) HY.out HTo.out (show bAt B (yn : Int) ≠ 0 by show B.getD yn 0 ≠ 0; rw [hz]; exact h0))
                clear h0 hz
                go_wp2
                go_round
                case rel => exact ⟨i + 1, by omega, by go_num, fun j l' hj hl' => by
                  by_cases hji : j < i
                  · exact HNo.out j l' hji hl'
                  · obtain rfl : j = i := by omega
                    rw [Hl.out] at hl'
                    rw [← Option.some.inj hl']
                    exact HSt.out⟩
                case measure => simp [intOf]; omega
          · have hkl' : ¬ (k : Int) < (M : Int) := by omega
            have HSt := Lib.hid (upto_end (B := B) (to := to) (l := l) (fun j hj => (HIn.out j (by have := HMM.out; omega)).1))
            go_wp2
            go_round
            case rel => exact ⟨i + 1, by omega, by go_num, fun j l' hj hl' => by
              by_cases hji : j < i
              · exact HNo.out j l' hji hl'
              · obtain rfl : j = i := by omega
                rw [Hl.out] at hl'
                rw [← Option.some.inj hl']
                exact HSt.out⟩
            case measure => simp [intOf]; omega
      · have hlt' : ¬ (i : Int) < (N : Int) := by omega
        have HE := Lib.hid (HN.out (fun j l hl => HNo.out j l (by obtain ⟨h, _⟩ := List.getElem?_eq_some_iff.1 hl; have := HNN.out; omega) hl))
        go_wp2
        go_ret
        exact ⟨by rw [HE.out]; rfl, HK.out⟩
  · have h0 : L = [] := List.eq_nil_of_length_eq_zero (by omega)
    subst h0
    obtain ⟨a7, c7, rfl⟩ := hR.slice
    have HE := Lib.hid (HN.out (fun j l hl => by simp at hl))
    clear hR hc0
    go_wp2
    go_loop [8] (fun t8 => t8 = .int .i64 0) (fun _ => 0)
    case atStart => exact rfl
    case round =>
      obtain rfl := hrel
      go_wp2
      go_ret
      exact ⟨by rw [HE.out]; rfl, HK.out⟩
end Go.Proofs.YtkliefojegjhhaaDoor
