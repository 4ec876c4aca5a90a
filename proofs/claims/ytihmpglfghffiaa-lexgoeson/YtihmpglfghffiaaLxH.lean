/- The document's. (Written by mklxg.py.) -/
import Derived.Test.YtihmpglfghffiaaLxG
namespace Go.Proofs.Ytihmpglfghffiaa
open Go.RowKit
set_option linter.unusedVariables false
set_option linter.unusedSimpArgs false
set_option maxRecDepth 100000
set_option maxHeartbeats 4000000

theorem rnumber_is (t : ByteArray) (i l u : Int) (ht : t.size ≤ 1000) (w : World) :
    Calls Try.prog 13 #[.string t, .int .i64 i, .int .i64 l, .int .i64 u] w fun e w' => e = .returned (sv (numP t i l u)) ∧ Kept w w' := by
  have HS := Lib.hid (SAt.new w Zs)
  have HI := Lib.hid (there_is t i)
  cases hb : numB t i l u with
  | false =>
    have HE := Lib.hid (show numP t i l u = argS by unfold numP; rw [if_neg (by rw [hb]; decide)])
    rcases num_no hb with h | ⟨h, h0⟩ | ⟨h, h0, h1⟩ | ⟨h, h0, h1, h2⟩
    · rw [h] at HI
      clear hb h
      go_enter Try.func13, Try.ntmps13
      go_wp2_with (with_reducible refine wpList_new_sp rfl rfl ?_)
      refine (HI.out _).mono ?_
      rintro e w1 ⟨rfl, rfl⟩
      go_wp2_with (first | (refine wpList_bt_s5 rfl _ rfl 5 rfl ?_) | (refine wpList_store_sp rfl _ _ rfl w.heap.size Zs argS HS.out rfl rfl ?_))
      refine bodyPost_ret (v := sv argS) ?_ rfl ⟨by rw [HE.out], ((Kept.refl w).alloc _).setRow (by omega) _⟩
      exact (ret_sp rfl HS.out rfl).trans rfl
    · rw [h] at HI
      clear hb h
      go_enter Try.func13, Try.ntmps13
      go_wp2_with (with_reducible refine wpList_new_sp rfl rfl ?_)
      refine (HI.out _).mono ?_
      rintro e w1 ⟨rfl, rfl⟩
      go_wp2_with (first | (refine wpList_bt_s5 rfl _ rfl 5 rfl ?_) | (refine wpList_store_sp rfl _ _ rfl w.heap.size Zs argS HS.out rfl rfl ?_))
      refine bodyPost_ret (v := sv argS) ?_ rfl ⟨by rw [HE.out], ((Kept.refl w).alloc _).setRow (by omega) _⟩
      exact (ret_sp rfl HS.out rfl).trans rfl
    · rw [h] at HI
      clear hb h
      go_enter Try.func13, Try.ntmps13
      go_wp2_with (with_reducible refine wpList_new_sp rfl rfl ?_)
      refine (HI.out _).mono ?_
      rintro e w1 ⟨rfl, rfl⟩
      go_wp2_with (first | (refine wpList_bt_s5 rfl _ rfl 5 rfl ?_) | (refine wpList_store_sp rfl _ _ rfl w.heap.size Zs argS HS.out rfl rfl ?_))
      refine bodyPost_ret (v := sv argS) ?_ rfl ⟨by rw [HE.out], ((Kept.refl w).alloc _).setRow (by omega) _⟩
      exact (ret_sp rfl HS.out rfl).trans rfl
    · rw [h] at HI
      clear hb h
      go_enter Try.func13, Try.ntmps13
      go_wp2_with (with_reducible refine wpList_new_sp rfl rfl ?_)
      refine (HI.out _).mono ?_
      rintro e w1 ⟨rfl, rfl⟩
      go_wp2_with (first | (refine wpList_bt_s5 rfl _ rfl 5 rfl ?_) | (refine wpList_store_sp rfl _ _ rfl w.heap.size Zs argS HS.out rfl rfl ?_))
      refine bodyPost_ret (v := sv argS) ?_ rfl ⟨by rw [HE.out], ((Kept.refl w).alloc _).setRow (by omega) _⟩
      exact (ret_sp rfl HS.out rfl).trans rfl
  | true =>
    obtain ⟨hi, l0, l1, u1⟩ := num_yes hb
    rw [hi] at HI
    obtain ⟨m, rfl, hm⟩ := inB_yes hi
    have HG0 := Lib.hid (show numP t m l u = numGo t.size m l u ((bs t).drop m) 0 0 by unfold numP; rw [if_pos hb]; rfl)
    clear hb hi
    obtain ⟨s, hs⟩ : ∃ s, t.extract m t.size = s := ⟨_, rfl⟩
    obtain ⟨hz, hbs⟩ := rest_facts hm hs
    have HB := Lib.hid (show ∀ p, (bs t)[m + p]? = (bs s)[p]? from fun p => by rw [hbs, List.getElem?_drop])
    rw [← hbs] at HG0
    generalize numP t m l u = G at *
    clear hs hbs
    go_enter Try.func13, Try.ntmps13
    go_wp2_with (with_reducible refine wpList_new_sp rfl rfl ?_)
    refine (HI.out _).mono ?_
    rintro e w1 ⟨rfl, rfl⟩
    go_wp2
    go_loopw [9, 10] (fun t9 t10 wr => ∃ (p : Nat) (n : Int), t9 = .int .i64 n ∧ t10 = .int .i64 ((m : Int) + p) ∧ (SAt wr w.heap.size Zs ∧ Kept w wr) ∧ p ≤ s.size ∧ 0 ≤ n ∧ n ≤ u ∧ G = numGo t.size m l u ((bs s).drop p) p n) (fun _ t10 _ => t.size - (intOf t10).toNat)
    case atStart => exact ⟨0, 0, rfl, by simp, ⟨HS.out, (Kept.refl w).alloc _⟩, by omega, by omega, by omega, HG0.out⟩
    case round =>
      obtain ⟨p, n, rfl, rfl, hL, hps, n0, n1, hG⟩ := hrel
      have HL := Lib.hid hL
      have HG := Lib.hid hG
      clear hL hG
      by_cases hp : p < s.size
      · obtain ⟨b, hb⟩ : ∃ b, (bs s)[p]? = some b := ⟨_, bs_getq s p hp⟩
        have hix := run_idx t ((m : Int) + p) (m + p) (by omega) b ((HB.out p).trans hb)
        have hlt : (m : Int) + p < t.size := by omega
        have HC := Lib.hid (show G = numGo t.size m l u (b :: (bs s).drop (p + 1)) p n by rw [HG.out, drop_of hb])
        have bz : (((m : Int) + p) == (t.size : Int)) = false := beq_eq_false_iff_ne.2 (by omega)
        have hb256 : b.toNat < 256 := b.toNat_lt
        clear hb
        by_cases hr : 48 ≤ b.toNat ∧ b.toNat ≤ 57
        · obtain ⟨r0, r1⟩ := hr
          have hD := isD_yes r0 r1
          by_cases hz0 : 0 < p ∧ n = 0
          · have HE := Lib.hid (HC.out.trans (nG_lead hD hz0))
            obtain ⟨z0, rfl⟩ := hz0
            clear hD
            go_wp2_with (first | (refine wpList_bt_se rfl _ _ rfl ((m : Int) + p) 2 rfl rfl ?_) | (refine wpList_store_sp rfl _ _ rfl w.heap.size Zs ⟨(m : Int) + p, 0, 2⟩ HL.out.1 rfl rfl ?_))
            refine bodyPost_ret (v := sv ⟨(m : Int) + p, 0, 2⟩) ?_ rfl ⟨by rw [HE.out]; first | done | rfl, HL.out.2.setRow (by omega) _⟩
            exact (ret_sp rfl HL.out.1 rfl).trans rfl
          · by_cases hov : u < 10 * n + ((b.toNat : Int) - 48)
            · have HE := Lib.hid (HC.out.trans (nG_over hD hz0 (.inl hov)))
              have hlt : (p : Int) < 1 ∨ (0 < p ∧ n ≠ 0) := by omega
              clear hD hz0
              rcases hlt with hp0 | ⟨z0, z1⟩
              · skip
                go_wp2_with (first | (refine wpList_bt_se rfl _ _ rfl ((m : Int) + p) 2 rfl rfl ?_) | (refine wpList_store_sp rfl _ _ rfl w.heap.size Zs ⟨(m : Int) + p, 0, 2⟩ HL.out.1 rfl rfl ?_))
                refine bodyPost_ret (v := sv ⟨(m : Int) + p, 0, 2⟩) ?_ rfl ⟨by rw [HE.out]; first | done | rfl, HL.out.2.setRow (by omega) _⟩
                exact (ret_sp rfl HL.out.1 rfl).trans rfl
              · have b0 : (n == 0) = false := beq_eq_false_iff_ne.2 z1
                go_wp2_with (first | (refine wpList_bt_se rfl _ _ rfl ((m : Int) + p) 2 rfl rfl ?_) | (refine wpList_store_sp rfl _ _ rfl w.heap.size Zs ⟨(m : Int) + p, 0, 2⟩ HL.out.1 rfl rfl ?_))
                refine bodyPost_ret (v := sv ⟨(m : Int) + p, 0, 2⟩) ?_ rfl ⟨by rw [HE.out]; first | done | rfl, HL.out.2.setRow (by omega) _⟩
                exact (ret_sp rfl HL.out.1 rfl).trans rfl
            · by_cases hze : (p = 0 ∧ 10 * n + ((b.toNat : Int) - 48) = 0) ∧ 0 < l
              · obtain ⟨⟨hp0, ze⟩, zl⟩ := hze
                have HE := Lib.hid (HC.out.trans (nG_over hD hz0 (.inr ⟨hp0, ze, zl⟩)))
                have b0 : ((10 * n + ((b.toNat : Int) - 48)) == 0) = true := beq_iff_eq.2 ze
                have b1 : (((m : Int) + p) == m) = true := beq_iff_eq.2 (by omega)
                have hp1 : (p : Int) < 1 := by omega
                clear hD hz0 hp0 ze
                go_wp2_with (first | (refine wpList_bt_se rfl _ _ rfl ((m : Int) + p) 2 rfl rfl ?_) | (refine wpList_store_sp rfl _ _ rfl w.heap.size Zs ⟨(m : Int) + p, 0, 2⟩ HL.out.1 rfl rfl ?_))
                refine bodyPost_ret (v := sv ⟨(m : Int) + p, 0, 2⟩) ?_ rfl ⟨by rw [HE.out]; first | done | rfl, HL.out.2.setRow (by omega) _⟩
                exact (ret_sp rfl HL.out.1 rfl).trans rfl
              · have HX := Lib.hid (HC.out.trans (nG_next hD hz0 (by omega)))
                have hlt : (p ≠ 0 ∧ 0 < p ∧ n ≠ 0) ∨ ((p : Int) < 1 ∧ (10 * n + ((b.toNat : Int) - 48) ≠ 0 ∨ (10 * n + ((b.toNat : Int) - 48) = 0 ∧ l ≤ 0))) := by omega
                clear hD hz0 hze
                rcases hlt with ⟨z2, z0, z1⟩ | ⟨z0, y1 | ⟨y1, y2⟩⟩
                · have b0 : (n == 0) = false := beq_eq_false_iff_ne.2 z1
                  have b2 : (((m : Int) + p) == m) = false := beq_eq_false_iff_ne.2 (by omega)
                  go_wp2
                  go_roundw
                  case rel => exact ⟨p + 1, _, rfl, by go_num, HL.out, by omega, by omega, by omega, HX.out⟩
                  case measure => simp [intOf]; omega
                · skip
                  have b2 : (((m : Int) + p) == m) = true := beq_iff_eq.2 (by omega)
                  have b1 : ((10 * n + ((b.toNat : Int) - 48)) == 0) = false := beq_eq_false_iff_ne.2 y1
                  go_wp2
                  go_roundw
                  case rel => exact ⟨p + 1, _, rfl, by go_num, HL.out, by omega, by omega, by omega, HX.out⟩
                  case measure => simp [intOf]; omega
                · skip
                  have b2 : (((m : Int) + p) == m) = true := beq_iff_eq.2 (by omega)
                  have b1 : ((10 * n + ((b.toNat : Int) - 48)) == 0) = true := beq_iff_eq.2 y1
                  have y3 : 10 * n + ((b.toNat : Int) - 48) < 1 := by omega
                  have HX := Lib.hid (show G = numGo t.size m l u ((bs s).drop (p + 1)) (p + 1) 0 from by have h := HX.out; rw [y1] at h; exact h)
                  go_wp2
                  go_roundw
                  case rel => exact ⟨p + 1, _, rfl, by go_num, HL.out, by omega, by omega, by omega, HX.out⟩
                  case measure => simp [intOf]; omega
        · have hbr : b.toNat < 48 ∨ (48 ≤ b.toNat ∧ 57 < b.toNat) := by omega
          have hD := isD_no (b := b) (by omega)
          clear hr
          by_cases hl : 0 < p ∧ l ≤ n
          · have HE := Lib.hid (HC.out.trans (nG_far_yes hD hl))
            obtain ⟨z0, z1⟩ := hl
            clear hD
            rcases hbr with hbr | ⟨hbr, hbs⟩
            · go_wp2_with (first | (refine wpList_bt_sn rfl _ _ rfl ((m : Int) + p) (n) rfl rfl ?_) | (refine wpList_store_sp rfl _ _ rfl w.heap.size Zs ⟨(m : Int) + p, n, 0⟩ HL.out.1 rfl rfl ?_))
              refine bodyPost_ret (v := sv ⟨(m : Int) + p, n, 0⟩) ?_ rfl ⟨by rw [HE.out]; first | done | rfl, HL.out.2.setRow (by omega) _⟩
              exact (ret_sp rfl HL.out.1 rfl).trans rfl
            · go_wp2_with (first | (refine wpList_bt_sn rfl _ _ rfl ((m : Int) + p) (n) rfl rfl ?_) | (refine wpList_store_sp rfl _ _ rfl w.heap.size Zs ⟨(m : Int) + p, n, 0⟩ HL.out.1 rfl rfl ?_))
              refine bodyPost_ret (v := sv ⟨(m : Int) + p, n, 0⟩) ?_ rfl ⟨by rw [HE.out]; first | done | rfl, HL.out.2.setRow (by omega) _⟩
              exact (ret_sp rfl HL.out.1 rfl).trans rfl
          · have HE := Lib.hid (HC.out.trans (nG_far_no hD hl))
            have hl' : (p : Int) < 1 ∨ (0 < p ∧ n < l) := by omega
            clear hD hl
            rcases hl' with z0 | ⟨z0, z1⟩
            · rcases hbr with hbr | ⟨hbr, hbs⟩
              · go_wp2_with (first | (refine wpList_bt_se rfl _ _ rfl ((m : Int) + p) 2 rfl rfl ?_) | (refine wpList_store_sp rfl _ _ rfl w.heap.size Zs ⟨(m : Int) + p, 0, 2⟩ HL.out.1 rfl rfl ?_))
                refine bodyPost_ret (v := sv ⟨(m : Int) + p, 0, 2⟩) ?_ rfl ⟨by rw [HE.out]; first | done | rfl, HL.out.2.setRow (by omega) _⟩
                exact (ret_sp rfl HL.out.1 rfl).trans rfl
              · go_wp2_with (first | (refine wpList_bt_se rfl _ _ rfl ((m : Int) + p) 2 rfl rfl ?_) | (refine wpList_store_sp rfl _ _ rfl w.heap.size Zs ⟨(m : Int) + p, 0, 2⟩ HL.out.1 rfl rfl ?_))
                refine bodyPost_ret (v := sv ⟨(m : Int) + p, 0, 2⟩) ?_ rfl ⟨by rw [HE.out]; first | done | rfl, HL.out.2.setRow (by omega) _⟩
                exact (ret_sp rfl HL.out.1 rfl).trans rfl
            · rcases hbr with hbr | ⟨hbr, hbs⟩
              · go_wp2_with (first | (refine wpList_bt_se rfl _ _ rfl ((m : Int) + p) 2 rfl rfl ?_) | (refine wpList_store_sp rfl _ _ rfl w.heap.size Zs ⟨(m : Int) + p, 0, 2⟩ HL.out.1 rfl rfl ?_))
                refine bodyPost_ret (v := sv ⟨(m : Int) + p, 0, 2⟩) ?_ rfl ⟨by rw [HE.out]; first | done | rfl, HL.out.2.setRow (by omega) _⟩
                exact (ret_sp rfl HL.out.1 rfl).trans rfl
              · go_wp2_with (first | (refine wpList_bt_se rfl _ _ rfl ((m : Int) + p) 2 rfl rfl ?_) | (refine wpList_store_sp rfl _ _ rfl w.heap.size Zs ⟨(m : Int) + p, 0, 2⟩ HL.out.1 rfl rfl ?_))
                refine bodyPost_ret (v := sv ⟨(m : Int) + p, 0, 2⟩) ?_ rfl ⟨by rw [HE.out]; first | done | rfl, HL.out.2.setRow (by omega) _⟩
                exact (ret_sp rfl HL.out.1 rfl).trans rfl
      · have HC := Lib.hid (show G = numGo t.size m l u [] p n by rw [HG.out, show (bs s).drop p = [] from List.drop_eq_nil_of_le (by rw [bs_len]; omega)])
        have hmp : (m : Int) + p = t.size := by omega
        have bz : (((m : Int) + p) == (t.size : Int)) = true := beq_iff_eq.2 hmp
        have hge : (t.size : Int) ≤ (m : Int) + p := by omega
        clear hmp
        by_cases hl : 0 < p ∧ l ≤ n
        · have HE := Lib.hid (HC.out.trans (nG_end_yes hl))
          obtain ⟨z0, z1⟩ := hl
          go_wp2_with (first | (refine wpList_bt_sn rfl _ _ rfl ((m : Int) + p) (n) rfl rfl ?_) | (refine wpList_store_sp rfl _ _ rfl w.heap.size Zs ⟨(m : Int) + p, n, 0⟩ HL.out.1 rfl rfl ?_))
          refine bodyPost_ret (v := sv ⟨(m : Int) + p, n, 0⟩) ?_ rfl ⟨by rw [HE.out]; first | done | rfl, HL.out.2.setRow (by omega) _⟩
          exact (ret_sp rfl HL.out.1 rfl).trans rfl
        · have HE := Lib.hid (HC.out.trans (nG_end_no hl))
          have hl' : (p : Int) < 1 ∨ (0 < p ∧ n < l) := by omega
          clear hl
          rcases hl' with z0 | ⟨z0, z1⟩
          · go_wp2_with (first | (refine wpList_bt_se rfl _ _ rfl ((m : Int) + p) 1 rfl rfl ?_) | (refine wpList_store_sp rfl _ _ rfl w.heap.size Zs ⟨(m : Int) + p, 0, 1⟩ HL.out.1 rfl rfl ?_))
            refine bodyPost_ret (v := sv ⟨(m : Int) + p, 0, 1⟩) ?_ rfl ⟨by rw [HE.out]; first | done | rfl, HL.out.2.setRow (by omega) _⟩
            exact (ret_sp rfl HL.out.1 rfl).trans rfl
          · go_wp2_with (first | (refine wpList_bt_se rfl _ _ rfl ((m : Int) + p) 1 rfl rfl ?_) | (refine wpList_store_sp rfl _ _ rfl w.heap.size Zs ⟨(m : Int) + p, 0, 1⟩ HL.out.1 rfl rfl ?_))
            refine bodyPost_ret (v := sv ⟨(m : Int) + p, 0, 1⟩) ?_ rfl ⟨by rw [HE.out]; first | done | rfl, HL.out.2.setRow (by omega) _⟩
            exact (ret_sp rfl HL.out.1 rfl).trans rfl
end Go.Proofs.Ytihmpglfghffiaa
