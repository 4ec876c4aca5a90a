/- The walk of RaysBack (written by mkrba.py). -/
import Derived.Test.YtkliefojegjhhaaDoorRaZ
namespace Go.Proofs.YtkliefojegjhhaaDoor
open Go.RowKit
set_option linter.unusedVariables false
set_option linter.unusedSimpArgs false

theorem meet_at (m s : Int) {l : List Int} {t : Int} (hl : l ∈ ofL m s) (ht : t ∈ l) : (ofL (other m) t).any (fun b => hasB b s) = true := by
  have h := meet m s
  unfold meetB at h
  exact List.all_eq_true.1 (List.all_eq_true.1 h l hl) t ht
theorem any_take_succ {L : List (List Int)} {q : Nat} {b : List Int} (h : L[q]? = some b) (s : Int) : (L.take (q + 1)).any (fun b => hasB b s) = ((L.take q).any (fun b => hasB b s) || hasB b s) := by
  rw [take_snoc_at L q b h, List.any_append]
  simp
set_option maxRecDepth 100000 in
set_option maxHeartbeats 2000000 in
theorem back_w (s : Int) (w : World) (hS : Steps w) :
    Calls Tryd.prog 5 #[.int .i64 1, .int .i64 s] w fun e w' => e = .returned (.bool true) ∧ Kept w w' := by
  have HS := Lib.hid hS
  have HMet := Lib.hid (show ∀ l : List Int, l ∈ ofL 1 s → ∀ t : Int, t ∈ l → (ofL (-1) t).any (fun b => hasB b s) = true from fun l hl t ht => meet_at 1 s hl ht)
  have HPos := Lib.hid (show ∀ l : List Int, l ∈ ofL 1 s → 0 < l.length ∧ l.length ≤ 8 from fun l h => ofL_pos h)
  have HLen := Lib.hid (ofL_len 1 s)
  clear hS
  go_enter Tryd.func5, Tryd.ntmps5
  go_wp2_with fail
  refine (rays_wake _ HS.out).mono ?_
  rintro e w1 ⟨rfl, k1⟩
  have HK1 := Lib.hid k1
  clear k1
  go_wp2_with fail
  refine (make_is _ (HS.out.kept HK1.out)).mono ?_
  rintro e w2 ⟨rfl, hT, k2⟩
  have HT2 := Lib.hid hT
  have HK2 := Lib.hid (HK1.out.trans k2)
  clear hT k2
  go_wp2_with fail
  refine (of_is _ _ _ _ HT2.out (HS.out.kept HK2.out)).mono ?_
  rintro e W ⟨v, rfl, hR, k3⟩
  obtain ⟨a0, c0, rfl⟩ := hR.slice
  have HR := Lib.hid hR
  have HTW := Lib.hid (HT2.out.kept k3)
  have HKW := Lib.hid (HK2.out.trans k3)
  clear hR k3
  generalize w1.heap.size = gT at *
  generalize ofL 1 s = L at *
  generalize hN : L.length = N at *
  have HN := Lib.hid hN
  have hN16 : N ≤ 16 := HLen.out
  clear hN HLen
  go_wp2
  go_loopw [22] (fun t22 wr => ∃ i : Nat, i ≤ N ∧ t22 = .int .i64 i ∧ Kept W wr) (fun t22 _ => N - (intOf t22).toNat)
  case atStart => exact ⟨0, by omega, rfl, Kept.refl _⟩
  case round =>
    obtain ⟨i, hi, rfl, hK⟩ := hrel
    have HK := Lib.hid hK
    clear hK
    by_cases hlt : i < N
    · have hlt' : (i : Int) < (N : Int) := by omega
      obtain ⟨l, hl⟩ : ∃ l, L[i]? = some l := ⟨_, List.getElem?_eq_getElem (by have := HN.out; omega)⟩
      have hmem := List.mem_of_getElem? hl
      obtain ⟨p0, p8⟩ := HPos.out l hmem
      obtain ⟨go, co, eo, _, _, hread⟩ := HR.out.read (by have := HN.out; omega)
      injection eo with eo1 eo2 eo3
      subst eo1 eo3
      obtain ⟨u, g, hc, hls, _⟩ := hread i l hl
      obtain ⟨off, cu, rfl, hk1, hk2, hcell⟩ := hls.full p0
      have d0 := kept_cell HK.out hc
      have HC := Lib.hid hcell
      have HMl := Lib.hid (HMet.out l hmem)
      generalize hnl : l.length = n at *
      have Hnl := Lib.hid hnl
      clear hl hmem hread hls hcell hnl eo2 hc hk1 hk2
      go_wp2
      go_loopw [29] (fun t29 wr => ∃ k : Nat, k ≤ n ∧ t29 = .int .i64 k ∧ Kept W wr) (fun t29 _ => n - (intOf t29).toNat)
      case atStart => exact ⟨0, by omega, rfl, HK.out.alloc _⟩
      case round =>
        obtain ⟨k, hk, rfl, hK2⟩ := hrel
        have HKk := Lib.hid hK2
        clear hK2
        by_cases hkl : k < n
        · have hkl' : (k : Int) < (n : Int) := by omega
          obtain ⟨t, ht⟩ : ∃ t, l[k]? = some t := ⟨_, List.getElem?_eq_getElem (by have := Hnl.out; omega)⟩
          have d1 := kept_cell HKk.out (HC.out k t ht)
          have hmet := HMl.out t (List.mem_of_getElem? ht)
          have HM1 := Lib.hid hmet
          clear ht hmet
          go_wp2_with fail
          refine (of_is (-1) t _ _ (HTW.out.kept HKk.out) (HS.out.kept (HKW.out.trans HKk.out))).mono ?_
          rintro e W2 ⟨v2, rfl, hR2, k5⟩
          obtain ⟨a2, c2, rfl⟩ := hR2.slice
          have HR2 := Lib.hid hR2
          have HK5 := Lib.hid (HKk.out.trans k5)
          have HLen2 := Lib.hid (ofL_len (-1) t)
          clear hR2 k5
          generalize ofL (-1) t = L2 at *
          generalize hN2 : L2.length = N2 at *
          have HN2 := Lib.hid hN2
          have hN216 : N2 ≤ 16 := HLen2.out
          clear hN2 HLen2
          go_wp2
          go_loopw [11, 47] (fun t11 t47 wr => ∃ q : Nat, q ≤ N2 ∧ t47 = .int .i64 q ∧ t11 = .bool ((L2.take q).any fun b => hasB b s) ∧ Kept W2 wr) (fun _ t47 _ => N2 - (intOf t47).toNat)
          case atStart => exact ⟨0, by omega, rfl, rfl, Kept.refl _⟩
          case round =>
            obtain ⟨q, hq, rfl, rfl, hK3⟩ := hrel
            have HKq := Lib.hid hK3
            clear hK3
            by_cases hql : q < N2
            · have hql' : (q : Int) < (N2 : Int) := by omega
              obtain ⟨b, hb⟩ : ∃ b, L2[q]? = some b := ⟨_, List.getElem?_eq_getElem (by have := HN2.out; omega)⟩
              obtain ⟨go2, co2, eo2, _, _, hread2⟩ := HR2.out.read (by have := HN2.out; omega)
              injection eo2 with eo21 eo22 eo23
              subst eo21 eo23
              obtain ⟨u2, g2, hc2, hls2, _⟩ := hread2 q b hb
              obtain ⟨au2, cu2, rfl⟩ := hls2.slice
              have d2 := kept_cell HKq.out hc2
              have HL2 := Lib.hid (hls2.kept (HKq.out.alloc (.cells #[.slice au2 b.length cu2] 32)))
              have HS2 := Lib.hid (any_take_succ hb s)
              clear hb hread2 hls2 eo22 hc2
              generalize hm2 : (L2.take (q + 1)).any (fun b => hasB b s) = met2 at *
              have HG2 := Lib.hid hm2
              clear hm2
              generalize (L2.take q).any (fun b => hasB b s) = met1 at *
              generalize b.length = nb at *
              cases met1
              · go_wp2_with fail
                refine (has_is g2 _ b s _ HL2.out).mono ?_
                rintro e w' ⟨rfl, rfl⟩
                have hme : hasB b s = met2 := by have := HS2.out; simpa using this.symm
                rw [hme]
                clear hme HS2
                have HKr := Lib.hid (HKq.out.alloc (.cells #[.slice au2 nb cu2] 32))
                go_wp2
                go_roundw
                case rel => exact ⟨q + 1, by omega, by go_num, by rw [HG2.out], HKr.out⟩
                case measure => simp [intOf]; omega
              · have hme : met2 = true := by have := HS2.out; simpa using this
                have HKr := Lib.hid (HKq.out.alloc (.cells #[.slice au2 nb cu2] 32))
                have HMM := Lib.hid hme
                clear hme HS2
                go_wp2
                go_roundw
                case rel => exact ⟨q + 1, by omega, by go_num, by rw [HG2.out, HMM.out], HKr.out⟩
                case measure => simp [intOf]; omega
            · have hql' : ¬ (q : Int) < (N2 : Int) := by omega
              have hm : (L2.take q).any (fun b => hasB b s) = true := by rw [List.take_of_length_le (by have := HN2.out; omega)]; exact HM1.out
              rw [hm]
              clear hm
              have HKr := Lib.hid (HK5.out.trans HKq.out)
              go_wp2
              go_roundw
              case rel => exact ⟨k + 1, by omega, by go_num, HKr.out⟩
              case measure => simp [intOf]; omega
        · have hkl' : ¬ (k : Int) < (n : Int) := by omega
          go_wp2
          go_roundw
          case rel => exact ⟨i + 1, by omega, by go_num, HKk.out⟩
          case measure => simp [intOf]; omega
    · have hlt' : ¬ (i : Int) < (N : Int) := by omega
      go_wp2
      go_ret
      exact ⟨rfl, HKW.out.trans HK.out⟩
set_option maxRecDepth 100000 in
set_option maxHeartbeats 2000000 in
theorem back_b (s : Int) (w : World) (hS : Steps w) :
    Calls Tryd.prog 5 #[.int .i64 (-1), .int .i64 s] w fun e w' => e = .returned (.bool true) ∧ Kept w w' := by
  have HS := Lib.hid hS
  have HMet := Lib.hid (show ∀ l : List Int, l ∈ ofL (-1) s → ∀ t : Int, t ∈ l → (ofL 1 t).any (fun b => hasB b s) = true from fun l hl t ht => meet_at (-1) s hl ht)
  have HPos := Lib.hid (show ∀ l : List Int, l ∈ ofL (-1) s → 0 < l.length ∧ l.length ≤ 8 from fun l h => ofL_pos h)
  have HLen := Lib.hid (ofL_len (-1) s)
  clear hS
  go_enter Tryd.func5, Tryd.ntmps5
  go_wp2_with fail
  refine (rays_wake _ HS.out).mono ?_
  rintro e w1 ⟨rfl, k1⟩
  have HK1 := Lib.hid k1
  clear k1
  go_wp2_with fail
  refine (make_is _ (HS.out.kept HK1.out)).mono ?_
  rintro e w2 ⟨rfl, hT, k2⟩
  have HT2 := Lib.hid hT
  have HK2 := Lib.hid (HK1.out.trans k2)
  clear hT k2
  go_wp2_with fail
  refine (of_is _ _ _ _ HT2.out (HS.out.kept HK2.out)).mono ?_
  rintro e W ⟨v, rfl, hR, k3⟩
  obtain ⟨a0, c0, rfl⟩ := hR.slice
  have HR := Lib.hid hR
  have HTW := Lib.hid (HT2.out.kept k3)
  have HKW := Lib.hid (HK2.out.trans k3)
  clear hR k3
  generalize w1.heap.size = gT at *
  generalize ofL (-1) s = L at *
  generalize hN : L.length = N at *
  have HN := Lib.hid hN
  have hN16 : N ≤ 16 := HLen.out
  clear hN HLen
  go_wp2
  go_loopw [22] (fun t22 wr => ∃ i : Nat, i ≤ N ∧ t22 = .int .i64 i ∧ Kept W wr) (fun t22 _ => N - (intOf t22).toNat)
  case atStart => exact ⟨0, by omega, rfl, Kept.refl _⟩
  case round =>
    obtain ⟨i, hi, rfl, hK⟩ := hrel
    have HK := Lib.hid hK
    clear hK
    by_cases hlt : i < N
    · have hlt' : (i : Int) < (N : Int) := by omega
      obtain ⟨l, hl⟩ : ∃ l, L[i]? = some l := ⟨_, List.getElem?_eq_getElem (by have := HN.out; omega)⟩
      have hmem := List.mem_of_getElem? hl
      obtain ⟨p0, p8⟩ := HPos.out l hmem
      obtain ⟨go, co, eo, _, _, hread⟩ := HR.out.read (by have := HN.out; omega)
      injection eo with eo1 eo2 eo3
      subst eo1 eo3
      obtain ⟨u, g, hc, hls, _⟩ := hread i l hl
      obtain ⟨off, cu, rfl, hk1, hk2, hcell⟩ := hls.full p0
      have d0 := kept_cell HK.out hc
      have HC := Lib.hid hcell
      have HMl := Lib.hid (HMet.out l hmem)
      generalize hnl : l.length = n at *
      have Hnl := Lib.hid hnl
      clear hl hmem hread hls hcell hnl eo2 hc hk1 hk2
      go_wp2
      go_loopw [29] (fun t29 wr => ∃ k : Nat, k ≤ n ∧ t29 = .int .i64 k ∧ Kept W wr) (fun t29 _ => n - (intOf t29).toNat)
      case atStart => exact ⟨0, by omega, rfl, HK.out.alloc _⟩
      case round =>
        obtain ⟨k, hk, rfl, hK2⟩ := hrel
        have HKk := Lib.hid hK2
        clear hK2
        by_cases hkl : k < n
        · have hkl' : (k : Int) < (n : Int) := by omega
          obtain ⟨t, ht⟩ : ∃ t, l[k]? = some t := ⟨_, List.getElem?_eq_getElem (by have := Hnl.out; omega)⟩
          have d1 := kept_cell HKk.out (HC.out k t ht)
          have hmet := HMl.out t (List.mem_of_getElem? ht)
          have HM1 := Lib.hid hmet
          clear ht hmet
          go_wp2_with fail
          refine (of_is 1 t _ _ (HTW.out.kept HKk.out) (HS.out.kept (HKW.out.trans HKk.out))).mono ?_
          rintro e W2 ⟨v2, rfl, hR2, k5⟩
          obtain ⟨a2, c2, rfl⟩ := hR2.slice
          have HR2 := Lib.hid hR2
          have HK5 := Lib.hid (HKk.out.trans k5)
          have HLen2 := Lib.hid (ofL_len 1 t)
          clear hR2 k5
          generalize ofL 1 t = L2 at *
          generalize hN2 : L2.length = N2 at *
          have HN2 := Lib.hid hN2
          have hN216 : N2 ≤ 16 := HLen2.out
          clear hN2 HLen2
          go_wp2
          go_loopw [11, 47] (fun t11 t47 wr => ∃ q : Nat, q ≤ N2 ∧ t47 = .int .i64 q ∧ t11 = .bool ((L2.take q).any fun b => hasB b s) ∧ Kept W2 wr) (fun _ t47 _ => N2 - (intOf t47).toNat)
          case atStart => exact ⟨0, by omega, rfl, rfl, Kept.refl _⟩
          case round =>
            obtain ⟨q, hq, rfl, rfl, hK3⟩ := hrel
            have HKq := Lib.hid hK3
            clear hK3
            by_cases hql : q < N2
            · have hql' : (q : Int) < (N2 : Int) := by omega
              obtain ⟨b, hb⟩ : ∃ b, L2[q]? = some b := ⟨_, List.getElem?_eq_getElem (by have := HN2.out; omega)⟩
              obtain ⟨go2, co2, eo2, _, _, hread2⟩ := HR2.out.read (by have := HN2.out; omega)
              injection eo2 with eo21 eo22 eo23
              subst eo21 eo23
              obtain ⟨u2, g2, hc2, hls2, _⟩ := hread2 q b hb
              obtain ⟨au2, cu2, rfl⟩ := hls2.slice
              have d2 := kept_cell HKq.out hc2
              have HL2 := Lib.hid (hls2.kept (HKq.out.alloc (.cells #[.slice au2 b.length cu2] 32)))
              have HS2 := Lib.hid (any_take_succ hb s)
              clear hb hread2 hls2 eo22 hc2
              generalize hm2 : (L2.take (q + 1)).any (fun b => hasB b s) = met2 at *
              have HG2 := Lib.hid hm2
              clear hm2
              generalize (L2.take q).any (fun b => hasB b s) = met1 at *
              generalize b.length = nb at *
              cases met1
              · go_wp2_with fail
                refine (has_is g2 _ b s _ HL2.out).mono ?_
                rintro e w' ⟨rfl, rfl⟩
                have hme : hasB b s = met2 := by have := HS2.out; simpa using this.symm
                rw [hme]
                clear hme HS2
                have HKr := Lib.hid (HKq.out.alloc (.cells #[.slice au2 nb cu2] 32))
                go_wp2
                go_roundw
                case rel => exact ⟨q + 1, by omega, by go_num, by rw [HG2.out], HKr.out⟩
                case measure => simp [intOf]; omega
              · have hme : met2 = true := by have := HS2.out; simpa using this
                have HKr := Lib.hid (HKq.out.alloc (.cells #[.slice au2 nb cu2] 32))
                have HMM := Lib.hid hme
                clear hme HS2
                go_wp2
                go_roundw
                case rel => exact ⟨q + 1, by omega, by go_num, by rw [HG2.out, HMM.out], HKr.out⟩
                case measure => simp [intOf]; omega
            · have hql' : ¬ (q : Int) < (N2 : Int) := by omega
              have hm : (L2.take q).any (fun b => hasB b s) = true := by rw [List.take_of_length_le (by have := HN2.out; omega)]; exact HM1.out
              rw [hm]
              clear hm
              have HKr := Lib.hid (HK5.out.trans HKq.out)
              go_wp2
              go_roundw
              case rel => exact ⟨k + 1, by omega, by go_num, HKr.out⟩
              case measure => simp [intOf]; omega
        · have hkl' : ¬ (k : Int) < (n : Int) := by omega
          go_wp2
          go_roundw
          case rel => exact ⟨i + 1, by omega, by go_num, HKk.out⟩
          case measure => simp [intOf]; omega
    · have hlt' : ¬ (i : Int) < (N : Int) := by omega
      go_wp2
      go_ret
      exact ⟨rfl, HKW.out.trans HK.out⟩
set_option maxRecDepth 100000 in
set_option maxHeartbeats 2000000 in
theorem back_o (m s : Int) (b1 : (m == 1) = false) (b2 : (m == -1) = false) (w : World) (hS : Steps w) :
    Calls Tryd.prog 5 #[.int .i64 m, .int .i64 s] w fun e w' => e = .returned (.bool true) ∧ Kept w w' := by
  have HS := Lib.hid hS
  have HMet := Lib.hid (show ∀ l : List Int, l ∈ ofL m s → ∀ t : Int, t ∈ l → (ofL m t).any (fun b => hasB b s) = true from fun l hl t ht => (by have h := meet_at m s hl ht; rwa [show other m = m by unfold other; rw [if_neg (by rintro (h | h) <;> simp [h] at b1 b2)]] at h))
  have HPos := Lib.hid (show ∀ l : List Int, l ∈ ofL m s → 0 < l.length ∧ l.length ≤ 8 from fun l h => ofL_pos h)
  have HLen := Lib.hid (ofL_len m s)
  clear hS
  go_enter Tryd.func5, Tryd.ntmps5
  go_wp2_with fail
  refine (rays_wake _ HS.out).mono ?_
  rintro e w1 ⟨rfl, k1⟩
  have HK1 := Lib.hid k1
  clear k1
  go_wp2_with fail
  refine (make_is _ (HS.out.kept HK1.out)).mono ?_
  rintro e w2 ⟨rfl, hT, k2⟩
  have HT2 := Lib.hid hT
  have HK2 := Lib.hid (HK1.out.trans k2)
  clear hT k2
  go_wp2_with fail
  refine (of_is _ _ _ _ HT2.out (HS.out.kept HK2.out)).mono ?_
  rintro e W ⟨v, rfl, hR, k3⟩
  obtain ⟨a0, c0, rfl⟩ := hR.slice
  have HR := Lib.hid hR
  have HTW := Lib.hid (HT2.out.kept k3)
  have HKW := Lib.hid (HK2.out.trans k3)
  clear hR k3
  generalize w1.heap.size = gT at *
  generalize ofL m s = L at *
  generalize hN : L.length = N at *
  have HN := Lib.hid hN
  have hN16 : N ≤ 16 := HLen.out
  clear hN HLen
  go_wp2
  go_loopw [22] (fun t22 wr => ∃ i : Nat, i ≤ N ∧ t22 = .int .i64 i ∧ Kept W wr) (fun t22 _ => N - (intOf t22).toNat)
  case atStart => exact ⟨0, by omega, rfl, Kept.refl _⟩
  case round =>
    obtain ⟨i, hi, rfl, hK⟩ := hrel
    have HK := Lib.hid hK
    clear hK
    by_cases hlt : i < N
    · have hlt' : (i : Int) < (N : Int) := by omega
      obtain ⟨l, hl⟩ : ∃ l, L[i]? = some l := ⟨_, List.getElem?_eq_getElem (by have := HN.out; omega)⟩
      have hmem := List.mem_of_getElem? hl
      obtain ⟨p0, p8⟩ := HPos.out l hmem
      obtain ⟨go, co, eo, _, _, hread⟩ := HR.out.read (by have := HN.out; omega)
      injection eo with eo1 eo2 eo3
      subst eo1 eo3
      obtain ⟨u, g, hc, hls, _⟩ := hread i l hl
      obtain ⟨off, cu, rfl, hk1, hk2, hcell⟩ := hls.full p0
      have d0 := kept_cell HK.out hc
      have HC := Lib.hid hcell
      have HMl := Lib.hid (HMet.out l hmem)
      generalize hnl : l.length = n at *
      have Hnl := Lib.hid hnl
      clear hl hmem hread hls hcell hnl eo2 hc hk1 hk2
      go_wp2
      go_loopw [29] (fun t29 wr => ∃ k : Nat, k ≤ n ∧ t29 = .int .i64 k ∧ Kept W wr) (fun t29 _ => n - (intOf t29).toNat)
      case atStart => exact ⟨0, by omega, rfl, HK.out.alloc _⟩
      case round =>
        obtain ⟨k, hk, rfl, hK2⟩ := hrel
        have HKk := Lib.hid hK2
        clear hK2
        by_cases hkl : k < n
        · have hkl' : (k : Int) < (n : Int) := by omega
          obtain ⟨t, ht⟩ : ∃ t, l[k]? = some t := ⟨_, List.getElem?_eq_getElem (by have := Hnl.out; omega)⟩
          have d1 := kept_cell HKk.out (HC.out k t ht)
          have hmet := HMl.out t (List.mem_of_getElem? ht)
          have HM1 := Lib.hid hmet
          clear ht hmet
          go_wp2_with fail
          refine (of_is m t _ _ (HTW.out.kept HKk.out) (HS.out.kept (HKW.out.trans HKk.out))).mono ?_
          rintro e W2 ⟨v2, rfl, hR2, k5⟩
          obtain ⟨a2, c2, rfl⟩ := hR2.slice
          have HR2 := Lib.hid hR2
          have HK5 := Lib.hid (HKk.out.trans k5)
          have HLen2 := Lib.hid (ofL_len m t)
          clear hR2 k5
          generalize ofL m t = L2 at *
          generalize hN2 : L2.length = N2 at *
          have HN2 := Lib.hid hN2
          have hN216 : N2 ≤ 16 := HLen2.out
          clear hN2 HLen2
          go_wp2
          go_loopw [11, 47] (fun t11 t47 wr => ∃ q : Nat, q ≤ N2 ∧ t47 = .int .i64 q ∧ t11 = .bool ((L2.take q).any fun b => hasB b s) ∧ Kept W2 wr) (fun _ t47 _ => N2 - (intOf t47).toNat)
          case atStart => exact ⟨0, by omega, rfl, rfl, Kept.refl _⟩
          case round =>
            obtain ⟨q, hq, rfl, rfl, hK3⟩ := hrel
            have HKq := Lib.hid hK3
            clear hK3
            by_cases hql : q < N2
            · have hql' : (q : Int) < (N2 : Int) := by omega
              obtain ⟨b, hb⟩ : ∃ b, L2[q]? = some b := ⟨_, List.getElem?_eq_getElem (by have := HN2.out; omega)⟩
              obtain ⟨go2, co2, eo2, _, _, hread2⟩ := HR2.out.read (by have := HN2.out; omega)
              injection eo2 with eo21 eo22 eo23
              subst eo21 eo23
              obtain ⟨u2, g2, hc2, hls2, _⟩ := hread2 q b hb
              obtain ⟨au2, cu2, rfl⟩ := hls2.slice
              have d2 := kept_cell HKq.out hc2
              have HL2 := Lib.hid (hls2.kept (HKq.out.alloc (.cells #[.slice au2 b.length cu2] 32)))
              have HS2 := Lib.hid (any_take_succ hb s)
              clear hb hread2 hls2 eo22 hc2
              generalize hm2 : (L2.take (q + 1)).any (fun b => hasB b s) = met2 at *
              have HG2 := Lib.hid hm2
              clear hm2
              generalize (L2.take q).any (fun b => hasB b s) = met1 at *
              generalize b.length = nb at *
              cases met1
              · go_wp2_with fail
                refine (has_is g2 _ b s _ HL2.out).mono ?_
                rintro e w' ⟨rfl, rfl⟩
                have hme : hasB b s = met2 := by have := HS2.out; simpa using this.symm
                rw [hme]
                clear hme HS2
                have HKr := Lib.hid (HKq.out.alloc (.cells #[.slice au2 nb cu2] 32))
                go_wp2
                go_roundw
                case rel => exact ⟨q + 1, by omega, by go_num, by rw [HG2.out], HKr.out⟩
                case measure => simp [intOf]; omega
              · have hme : met2 = true := by have := HS2.out; simpa using this
                have HKr := Lib.hid (HKq.out.alloc (.cells #[.slice au2 nb cu2] 32))
                have HMM := Lib.hid hme
                clear hme HS2
                go_wp2
                go_roundw
                case rel => exact ⟨q + 1, by omega, by go_num, by rw [HG2.out, HMM.out], HKr.out⟩
                case measure => simp [intOf]; omega
            · have hql' : ¬ (q : Int) < (N2 : Int) := by omega
              have hm : (L2.take q).any (fun b => hasB b s) = true := by rw [List.take_of_length_le (by have := HN2.out; omega)]; exact HM1.out
              rw [hm]
              clear hm
              have HKr := Lib.hid (HK5.out.trans HKq.out)
              go_wp2
              go_roundw
              case rel => exact ⟨k + 1, by omega, by go_num, HKr.out⟩
              case measure => simp [intOf]; omega
        · have hkl' : ¬ (k : Int) < (n : Int) := by omega
          go_wp2
          go_roundw
          case rel => exact ⟨i + 1, by omega, by go_num, HKk.out⟩
          case measure => simp [intOf]; omega
    · have hlt' : ¬ (i : Int) < (N : Int) := by omega
      go_wp2
      go_ret
      exact ⟨rfl, HKW.out.trans HK.out⟩
theorem walkRaysBack (m : Int) (w0 : (Lit.int .i64 m).wf = true) (s : Int) (w1 : (Lit.int .i64 s).wf = true) (w : World) (hS : Steps w) :
    Calls Tryd.prog 5 #[.int .i64 m, .int .i64 s] w fun e w' => e = .returned (.bool true) ∧ Kept w w' := by
  by_cases h1 : m = 1
  · subst h1; exact back_w s w hS
  · by_cases h2 : m = -1
    · subst h2; exact back_b s w hS
    · exact back_o m s (beq_eq_false_iff_ne.2 h1) (beq_eq_false_iff_ne.2 h2) w hS
end Go.Proofs.YtkliefojegjhhaaDoor
