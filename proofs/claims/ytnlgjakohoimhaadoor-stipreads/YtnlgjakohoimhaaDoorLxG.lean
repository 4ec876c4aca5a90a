/- Number, and the document's. (Written by mklxg.py.) -/
import Derived.Test.YtnlgjakohoimhaaDoorLxE
namespace Go.Proofs.YtnlgjakohoimhaaDoor
open Go.RowKit
set_option linter.unusedVariables false
set_option linter.unusedSimpArgs false
set_option maxRecDepth 100000
set_option maxHeartbeats 4000000

theorem drop_of {l : List UInt8} {p : Nat} {b : UInt8} (h : l[p]? = some b) : l.drop p = b :: l.drop (p + 1) := by
  obtain ⟨l1, e1⟩ := List.getElem?_eq_some_iff.1 h
  rw [List.drop_eq_getElem_cons l1, e1]
section
variable {z j : Nat} {i l u n : Int} {b : UInt8} {r : List UInt8}
theorem isD_yes (h0 : 48 ≤ b.toNat) (h1 : b.toNat ≤ 57) : isD b = true := by simp [isD, h0, h1]
theorem isD_no (h : b.toNat < 48 ∨ 57 < b.toNat) : ¬ isD b = true := by simp [isD]; omega
theorem nG_end_no (h : ¬ (0 < j ∧ l ≤ n)) : numGo z i l u [] j n = ⟨i + j, 0, 1⟩ := by simp only [numGo]; rw [if_neg h]
theorem nG_end_yes (h : 0 < j ∧ l ≤ n) : numGo z i l u [] j n = ⟨i + j, n, 0⟩ := by simp only [numGo]; rw [if_pos h]
theorem nG_far_no (hb : ¬ isD b = true) (h : ¬ (0 < j ∧ l ≤ n)) : numGo z i l u (b :: r) j n = ⟨i + j, 0, 2⟩ := by simp only [numGo]; rw [if_neg hb, if_neg h]
theorem nG_far_yes (hb : ¬ isD b = true) (h : 0 < j ∧ l ≤ n) : numGo z i l u (b :: r) j n = ⟨i + j, n, 0⟩ := by simp only [numGo]; rw [if_neg hb, if_pos h]
theorem nG_lead (hb : isD b = true) (h : 0 < j ∧ n = 0) : numGo z i l u (b :: r) j n = ⟨i + j, 0, 2⟩ := by simp only [numGo]; rw [if_pos hb, if_pos h]
theorem nG_over (hb : isD b = true) (h : ¬ (0 < j ∧ n = 0)) (h2 : u < 10 * n + (b.toNat - 48) ∨ (j = 0 ∧ 10 * n + ((b.toNat : Int) - 48) = 0 ∧ 0 < l)) : numGo z i l u (b :: r) j n = ⟨i + j, 0, 2⟩ := by simp only [numGo]; rw [if_pos hb, if_neg h, if_pos h2]
theorem nG_next (hb : isD b = true) (h : ¬ (0 < j ∧ n = 0)) (h2 : ¬ (u < 10 * n + (b.toNat - 48) ∨ (j = 0 ∧ 10 * n + ((b.toNat : Int) - 48) = 0 ∧ 0 < l))) : numGo z i l u (b :: r) j n = numGo z i l u r (j + 1) (10 * n + (b.toNat - 48)) := by
  simp only [numGo]; rw [if_pos hb, if_neg h, if_neg h2]
end
theorem num_no {t : ByteArray} {i l u : Int} (h : numB t i l u = false) : inB t i = false ∨ (inB t i = true ∧ l < 0) ∨ (inB t i = true ∧ 0 ≤ l ∧ u < l) ∨ (inB t i = true ∧ 0 ≤ l ∧ l ≤ u ∧ 1000000 < u) := by
  unfold numB at h
  cases hb : inB t i with
  | false => exact .inl rfl
  | true =>
    rw [hb] at h
    simp at h
    by_cases h1 : l < 0
    · exact .inr (.inl ⟨rfl, h1⟩)
    · by_cases h2 : u < l
      · exact .inr (.inr (.inl ⟨rfl, by omega, h2⟩))
      · exact .inr (.inr (.inr ⟨rfl, by omega, by omega, h (by omega) (by omega)⟩))
theorem num_yes {t : ByteArray} {i l u : Int} (h : numB t i l u = true) : inB t i = true ∧ 0 ≤ l ∧ l ≤ u ∧ u ≤ 1000000 := by
  unfold numB at h
  simp at h
  exact ⟨h.1, h.2.1, h.2.2.1, h.2.2.2⟩
theorem number_is (t : ByteArray) (i l u : Int) (ht : t.size ≤ 1000) (w : World) :
    Calls Tryd.prog 21 #[.string t, .int .i64 i, .int .i64 l, .int .i64 u] w fun e w' => e = .returned (sv (numP t i l u)) ∧ Kept w w' := by
  have HS := Lib.hid (SAt.new w Zs)
  have HI := Lib.hid (within_is t i)
  cases hb : numB t i l u with
  | false =>
    have HE := Lib.hid (show numP t i l u = argS by unfold numP; rw [if_neg (by rw [hb]; decide)])
    rcases num_no hb with h | ⟨h, h0⟩ | ⟨h, h0, h1⟩ | ⟨h, h0, h1, h2⟩
    · rw [h] at HI
      clear hb h
      go_enter Tryd.func21, Tryd.ntmps21
      go_wp2_with (with_reducible refine wpList_new_sp rfl rfl ?_)
      refine (HI.out _).mono ?_
      rintro e w1 ⟨rfl, rfl⟩
      go_wp2_with fail
      refine (refused_is _).mono ?_
      rintro e w2 ⟨rfl, k2⟩
      have H2 := Lib.hid (HS.out.kept k2)
      have K2 := Lib.hid (((Kept.refl w).alloc _).trans k2)
      clear k2
      go_wp2_with (refine wpList_store_sp rfl _ _ rfl w.heap.size Zs argS H2.out rfl rfl ?_)
      refine bodyPost_ret (v := sv argS) ?_ rfl ⟨by rw [HE.out], K2.out.setRow (by omega) _⟩
      exact (ret_sp rfl H2.out rfl).trans rfl
    · rw [h] at HI
      clear hb h
      go_enter Tryd.func21, Tryd.ntmps21
      go_wp2_with (with_reducible refine wpList_new_sp rfl rfl ?_)
      refine (HI.out _).mono ?_
      rintro e w1 ⟨rfl, rfl⟩
      go_wp2_with fail
      refine (refused_is _).mono ?_
      rintro e w2 ⟨rfl, k2⟩
      have H2 := Lib.hid (HS.out.kept k2)
      have K2 := Lib.hid (((Kept.refl w).alloc _).trans k2)
      clear k2
      go_wp2_with (refine wpList_store_sp rfl _ _ rfl w.heap.size Zs argS H2.out rfl rfl ?_)
      refine bodyPost_ret (v := sv argS) ?_ rfl ⟨by rw [HE.out], K2.out.setRow (by omega) _⟩
      exact (ret_sp rfl H2.out rfl).trans rfl
    · rw [h] at HI
      clear hb h
      go_enter Tryd.func21, Tryd.ntmps21
      go_wp2_with (with_reducible refine wpList_new_sp rfl rfl ?_)
      refine (HI.out _).mono ?_
      rintro e w1 ⟨rfl, rfl⟩
      go_wp2_with fail
      refine (refused_is _).mono ?_
      rintro e w2 ⟨rfl, k2⟩
      have H2 := Lib.hid (HS.out.kept k2)
      have K2 := Lib.hid (((Kept.refl w).alloc _).trans k2)
      clear k2
      go_wp2_with (refine wpList_store_sp rfl _ _ rfl w.heap.size Zs argS H2.out rfl rfl ?_)
      refine bodyPost_ret (v := sv argS) ?_ rfl ⟨by rw [HE.out], K2.out.setRow (by omega) _⟩
      exact (ret_sp rfl H2.out rfl).trans rfl
    · rw [h] at HI
      clear hb h
      go_enter Tryd.func21, Tryd.ntmps21
      go_wp2_with (with_reducible refine wpList_new_sp rfl rfl ?_)
      refine (HI.out _).mono ?_
      rintro e w1 ⟨rfl, rfl⟩
      go_wp2_with fail
      refine (refused_is _).mono ?_
      rintro e w2 ⟨rfl, k2⟩
      have H2 := Lib.hid (HS.out.kept k2)
      have K2 := Lib.hid (((Kept.refl w).alloc _).trans k2)
      clear k2
      go_wp2_with (refine wpList_store_sp rfl _ _ rfl w.heap.size Zs argS H2.out rfl rfl ?_)
      refine bodyPost_ret (v := sv argS) ?_ rfl ⟨by rw [HE.out], K2.out.setRow (by omega) _⟩
      exact (ret_sp rfl H2.out rfl).trans rfl
  | true =>
    obtain ⟨hi, l0, l1, u1⟩ := num_yes hb
    rw [hi] at HI
    obtain ⟨m, rfl, hm⟩ := inB_yes hi
    have HG0 := Lib.hid (show numP t m l u = numGo t.size m l u ((bs t).drop m) 0 0 by unfold numP; rw [if_pos hb]; rfl)
    clear hb hi
    obtain ⟨s, hs⟩ : ∃ s, t.extract m t.size = s := ⟨_, rfl⟩
    obtain ⟨hz, hbs⟩ := rest_facts hm hs
    have hsl := run_rest t m hm s hs
    rw [← hbs] at HG0
    have HQ := Lib.hid (stuck_is t)
    generalize numP t m l u = G at *
    clear hs hbs
    go_enter Tryd.func21, Tryd.ntmps21
    go_wp2_with (with_reducible refine wpList_new_sp rfl rfl ?_)
    refine (HI.out _).mono ?_
    rintro e w1 ⟨rfl, rfl⟩
    go_wp2
    go_loopw [9, 10] (fun t9 t10 wr => ∃ (p : Nat) (n : Int), t9 = .int .i64 n ∧ t10 = .int .i64 t.size ∧ It w wr s p ∧ p ≤ s.size ∧ 0 ≤ n ∧ n ≤ u ∧ G = numGo t.size m l u ((bs s).drop p) p n) (fun _ _ wr => s.size - wr.iterPos (w.heap.size + 1))
    case atStart => exact ⟨0, 0, rfl, rfl, It.start w s, by omega, by omega, by omega, HG0.out⟩
    case round =>
      obtain ⟨p, n, rfl, rfl, hIt, hps, n0, n1, hG⟩ := hrel
      have HIt := Lib.hid hIt
      have HG := Lib.hid hG
      clear hIt hG
      by_cases hp : p < s.size
      · obtain ⟨q, k, b, hd, hb, hk, hq, hqb, _⟩ := sign_at s p hp
        have hnx := fun ty => next_at (P := Tryd.prog) wr (w.heap.size + 1) s p ty HIt.out.iter hp
        simp only [hd] at hnx
        have HC := Lib.hid (show G = numGo t.size m l u (b :: (bs s).drop (p + 1)) p n by rw [HG.out, drop_of hb])
        have HV := Lib.hid (show stk t.size ((m : Int) + p) = ⟨(m : Int) + p, 0, 2⟩ from if_neg (by omega))
        clear hd hb
        by_cases hr : 48 ≤ q ∧ q ≤ 57
        · obtain ⟨r0, r1⟩ := hr
          obtain ⟨_, rfl, rfl⟩ : q < 128 ∧ q = b.toNat ∧ k = 1 := by omega
          have hD := isD_yes r0 r1
          have HN := Lib.hid (HIt.out.next (p + 1))
          clear hqb
          by_cases hz0 : 0 < p ∧ n = 0
          · have HE := Lib.hid (HC.out.trans (nG_lead hD hz0))
            obtain ⟨z0, rfl⟩ := hz0
            clear hD
            go_wp2_with fail
            refine (HQ.out _ _).mono ?_
            rintro e w3 ⟨rfl, k3⟩
            have H3 := Lib.hid (HN.out.cell.kept k3)
            have K3 := Lib.hid (HN.out.kept.trans k3)
            clear k3
            go_wp2_with (refine wpList_store_sp rfl _ _ rfl w.heap.size Zs _ H3.out rfl rfl ?_)
            refine bodyPost_ret (v := sv (stk t.size ((m : Int) + p))) ?_ rfl ⟨by rw [HE.out, HV.out]; first | done | rfl, K3.out.setRow (by omega) _⟩
            exact (ret_sp rfl H3.out rfl).trans rfl
          · by_cases hov : u < 10 * n + ((b.toNat : Int) - 48)
            · have HE := Lib.hid (HC.out.trans (nG_over hD hz0 (.inl hov)))
              have hlt : p = 0 ∨ (0 < p ∧ n ≠ 0) := by omega
              clear hD hz0
              rcases hlt with rfl | ⟨z0, z1⟩
              · skip
                go_wp2_with fail
                refine (HQ.out _ _).mono ?_
                rintro e w3 ⟨rfl, k3⟩
                have H3 := Lib.hid (HN.out.cell.kept k3)
                have K3 := Lib.hid (HN.out.kept.trans k3)
                clear k3
                go_wp2_with (refine wpList_store_sp rfl _ _ rfl w.heap.size Zs _ H3.out rfl rfl ?_)
                refine bodyPost_ret (v := sv (stk t.size m)) ?_ rfl ⟨by rw [show (m : Int) = (m : Int) + ((0 : Nat) : Int) by omega, HE.out, HV.out], K3.out.setRow (by omega) _⟩
                exact (ret_sp rfl H3.out rfl).trans rfl
              · have b0 : (n == 0) = false := beq_eq_false_iff_ne.2 z1
                go_wp2_with fail
                refine (HQ.out _ _).mono ?_
                rintro e w3 ⟨rfl, k3⟩
                have H3 := Lib.hid (HN.out.cell.kept k3)
                have K3 := Lib.hid (HN.out.kept.trans k3)
                clear k3
                go_wp2_with (refine wpList_store_sp rfl _ _ rfl w.heap.size Zs _ H3.out rfl rfl ?_)
                refine bodyPost_ret (v := sv (stk t.size ((m : Int) + p))) ?_ rfl ⟨by rw [HE.out, HV.out]; first | done | rfl, K3.out.setRow (by omega) _⟩
                exact (ret_sp rfl H3.out rfl).trans rfl
            · by_cases hze : 10 * n + ((b.toNat : Int) - 48) = 0 ∧ 0 < l
              · obtain ⟨ze, zl⟩ := hze
                have hp0 : p = 0 := by omega
                have HE := Lib.hid (HC.out.trans (nG_over hD hz0 (.inr ⟨hp0, ze, zl⟩)))
                subst hp0
                have b0 : ((10 * n + ((b.toNat : Int) - 48)) == 0) = true := beq_iff_eq.2 ze
                clear hD hz0
                go_wp2_with fail
                refine (HQ.out _ _).mono ?_
                rintro e w3 ⟨rfl, k3⟩
                have H3 := Lib.hid (HN.out.cell.kept k3)
                have K3 := Lib.hid (HN.out.kept.trans k3)
                clear k3
                go_wp2_with (refine wpList_store_sp rfl _ _ rfl w.heap.size Zs _ H3.out rfl rfl ?_)
                refine bodyPost_ret (v := sv (stk t.size m)) ?_ rfl ⟨by rw [show (m : Int) = (m : Int) + ((0 : Nat) : Int) by omega, HE.out, HV.out], K3.out.setRow (by omega) _⟩
                exact (ret_sp rfl H3.out rfl).trans rfl
              · have HX := Lib.hid (HC.out.trans (nG_next hD hz0 (by omega)))
                have hlt : (p = 0 ∨ (0 < p ∧ n ≠ 0)) ∧ (10 * n + ((b.toNat : Int) - 48) ≠ 0 ∨ (10 * n + ((b.toNat : Int) - 48) = 0 ∧ l ≤ 0)) := by omega
                clear hD hz0 hze
                rcases hlt with ⟨rfl | ⟨z0, z1⟩, y1 | ⟨y1, y2⟩⟩
                · skip
                  have b1 : ((10 * n + ((b.toNat : Int) - 48)) == 0) = false := beq_eq_false_iff_ne.2 y1
                  go_wp2
                  go_roundw
                  case rel => exact ⟨0 + 1, _, rfl, rfl, HN.out, by omega, by omega, by omega, HX.out⟩
                  case measure => simp [World.iterPos, HN.out.iter, HIt.out.iter]; omega
                · skip
                  have b1 : ((10 * n + ((b.toNat : Int) - 48)) == 0) = true := beq_iff_eq.2 y1
                  have HX2 := Lib.hid (show G = numGo t.size m l u ((bs s).drop (0 + 1)) (0 + 1) 0 from by have h := HX.out; rw [y1] at h; exact h)
                  go_wp2
                  go_roundw
                  case rel => exact ⟨0 + 1, _, rfl, rfl, HN.out, by omega, by omega, by omega, HX2.out⟩
                  case measure => simp [World.iterPos, HN.out.iter, HIt.out.iter]; omega
                · have b0 : (n == 0) = false := beq_eq_false_iff_ne.2 z1
                  have b1 : ((10 * n + ((b.toNat : Int) - 48)) == 0) = false := beq_eq_false_iff_ne.2 y1
                  go_wp2
                  go_roundw
                  case rel => exact ⟨p + 1, _, rfl, rfl, HN.out, by omega, by omega, by omega, HX.out⟩
                  case measure => simp [World.iterPos, HN.out.iter, HIt.out.iter]; omega
                · exfalso; omega
        · have hbr : b.toNat < 48 ∨ 57 < b.toNat := by omega
          have hD := isD_no hbr
          have hqr : (q : Int) < 48 ∨ 57 < (q : Int) := by omega
          have HN := Lib.hid (HIt.out.next (p + k))
          clear hqb hr hbr
          by_cases hp0 : p = 0
          · have HE := Lib.hid (HC.out.trans (nG_far_no hD (by omega)))
            subst hp0
            have HN := Lib.hid (HIt.out.next k)
            clear hD
            rcases hqr with hqr | hqr
            · go_wp2_with fail
              refine (HQ.out _ _).mono ?_
              rintro e w3 ⟨rfl, k3⟩
              have H3 := Lib.hid (HN.out.cell.kept k3)
              have K3 := Lib.hid (HN.out.kept.trans k3)
              clear k3
              go_wp2_with (refine wpList_store_sp rfl _ _ rfl w.heap.size Zs _ H3.out rfl rfl ?_)
              refine bodyPost_ret (v := sv (stk t.size m)) ?_ rfl ⟨by rw [show (m : Int) = (m : Int) + ((0 : Nat) : Int) by omega, HE.out, HV.out], K3.out.setRow (by omega) _⟩
              exact (ret_sp rfl H3.out rfl).trans rfl
            · go_wp2_with fail
              refine (HQ.out _ _).mono ?_
              rintro e w3 ⟨rfl, k3⟩
              have H3 := Lib.hid (HN.out.cell.kept k3)
              have K3 := Lib.hid (HN.out.kept.trans k3)
              clear k3
              go_wp2_with (refine wpList_store_sp rfl _ _ rfl w.heap.size Zs _ H3.out rfl rfl ?_)
              refine bodyPost_ret (v := sv (stk t.size m)) ?_ rfl ⟨by rw [show (m : Int) = (m : Int) + ((0 : Nat) : Int) by omega, HE.out, HV.out], K3.out.setRow (by omega) _⟩
              exact (ret_sp rfl H3.out rfl).trans rfl
          · have be : (((m : Int) + p) == m) = false := beq_eq_false_iff_ne.2 (by omega)
            by_cases hl : n < l
            · have HE := Lib.hid (HC.out.trans (nG_far_no hD (by omega)))
              clear hD
              rcases hqr with hqr | hqr
              · go_wp2_with fail
                refine (HQ.out _ _).mono ?_
                rintro e w3 ⟨rfl, k3⟩
                have H3 := Lib.hid (HN.out.cell.kept k3)
                have K3 := Lib.hid (HN.out.kept.trans k3)
                clear k3
                go_wp2_with (refine wpList_store_sp rfl _ _ rfl w.heap.size Zs _ H3.out rfl rfl ?_)
                refine bodyPost_ret (v := sv (stk t.size ((m : Int) + p))) ?_ rfl ⟨by rw [HE.out, HV.out]; first | done | rfl, K3.out.setRow (by omega) _⟩
                exact (ret_sp rfl H3.out rfl).trans rfl
              · go_wp2_with fail
                refine (HQ.out _ _).mono ?_
                rintro e w3 ⟨rfl, k3⟩
                have H3 := Lib.hid (HN.out.cell.kept k3)
                have K3 := Lib.hid (HN.out.kept.trans k3)
                clear k3
                go_wp2_with (refine wpList_store_sp rfl _ _ rfl w.heap.size Zs _ H3.out rfl rfl ?_)
                refine bodyPost_ret (v := sv (stk t.size ((m : Int) + p))) ?_ rfl ⟨by rw [HE.out, HV.out]; first | done | rfl, K3.out.setRow (by omega) _⟩
                exact (ret_sp rfl H3.out rfl).trans rfl
            · have HE := Lib.hid (HC.out.trans (nG_far_yes hD (by omega)))
              clear hD
              rcases hqr with hqr | hqr
              · have H3 := Lib.hid HN.out.cell
                have K3 := Lib.hid HN.out.kept
                go_wp2_with (first | (refine wpList_bt_sn rfl _ _ rfl ((m : Int) + p) (n) rfl rfl ?_) | (refine wpList_store_sp rfl _ _ rfl w.heap.size Zs ⟨(m : Int) + p, n, 0⟩ H3.out rfl rfl ?_))
                refine bodyPost_ret (v := sv ⟨(m : Int) + p, n, 0⟩) ?_ rfl ⟨by rw [HE.out]; first | done | rfl, K3.out.setRow (by omega) _⟩
                exact (ret_sp rfl H3.out rfl).trans rfl
              · have H3 := Lib.hid HN.out.cell
                have K3 := Lib.hid HN.out.kept
                go_wp2_with (first | (refine wpList_bt_sn rfl _ _ rfl ((m : Int) + p) (n) rfl rfl ?_) | (refine wpList_store_sp rfl _ _ rfl w.heap.size Zs ⟨(m : Int) + p, n, 0⟩ H3.out rfl rfl ?_))
                refine bodyPost_ret (v := sv ⟨(m : Int) + p, n, 0⟩) ?_ rfl ⟨by rw [HE.out]; first | done | rfl, K3.out.setRow (by omega) _⟩
                exact (ret_sp rfl H3.out rfl).trans rfl
      · have hnx := fun ty => next_at_end (P := Tryd.prog) wr (w.heap.size + 1) s p ty HIt.out.iter hp
        have HC := Lib.hid (show G = numGo t.size m l u [] p n by rw [HG.out, show (bs s).drop p = [] from List.drop_eq_nil_of_le (by rw [bs_len]; omega)])
        have HV := Lib.hid (show stk t.size t.size = ⟨t.size, 0, 1⟩ from if_pos rfl)
        have hmp : (m : Int) + p = t.size := by omega
        by_cases hp0 : p = 0
        · have HE := Lib.hid (HC.out.trans (nG_end_no (by omega)))
          rw [hmp] at HE
          have be : ((t.size : Int) == m) = true := beq_iff_eq.2 (by omega)
          go_wp2_with fail
          refine (HQ.out _ _).mono ?_
          rintro e w3 ⟨rfl, k3⟩
          have H3 := Lib.hid (HIt.out.cell.kept k3)
          have K3 := Lib.hid (HIt.out.kept.trans k3)
          clear k3
          go_wp2_with (refine wpList_store_sp rfl _ _ rfl w.heap.size Zs _ H3.out rfl rfl ?_)
          refine bodyPost_ret (v := sv (stk t.size t.size)) ?_ rfl ⟨by rw [HE.out, HV.out]; first | done | rfl, K3.out.setRow (by omega) _⟩
          exact (ret_sp rfl H3.out rfl).trans rfl
        · have be : ((t.size : Int) == m) = false := beq_eq_false_iff_ne.2 (by omega)
          by_cases hl : n < l
          · have HE := Lib.hid (HC.out.trans (nG_end_no (by omega)))
            rw [hmp] at HE
            go_wp2_with fail
            refine (HQ.out _ _).mono ?_
            rintro e w3 ⟨rfl, k3⟩
            have H3 := Lib.hid (HIt.out.cell.kept k3)
            have K3 := Lib.hid (HIt.out.kept.trans k3)
            clear k3
            go_wp2_with (refine wpList_store_sp rfl _ _ rfl w.heap.size Zs _ H3.out rfl rfl ?_)
            refine bodyPost_ret (v := sv (stk t.size t.size)) ?_ rfl ⟨by rw [HE.out, HV.out]; first | done | rfl, K3.out.setRow (by omega) _⟩
            exact (ret_sp rfl H3.out rfl).trans rfl
          · have HE := Lib.hid (HC.out.trans (nG_end_yes (by omega)))
            rw [hmp] at HE
            have H3 := Lib.hid HIt.out.cell
            have K3 := Lib.hid HIt.out.kept
            go_wp2_with (first | (refine wpList_bt_sn rfl _ _ rfl (t.size) (n) rfl rfl ?_) | (refine wpList_store_sp rfl _ _ rfl w.heap.size Zs ⟨t.size, n, 0⟩ H3.out rfl rfl ?_))
            refine bodyPost_ret (v := sv ⟨t.size, n, 0⟩) ?_ rfl ⟨by rw [HE.out]; first | done | rfl, K3.out.setRow (by omega) _⟩
            exact (ret_sp rfl H3.out rfl).trans rfl
end Go.Proofs.YtnlgjakohoimhaaDoor
