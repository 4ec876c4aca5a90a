/- Square: sign by sign. -/
import Derived.Test.YtihmpglfghffiaaLxD
namespace Go.Proofs.Ytihmpglfghffiaa
open Go.RowKit
set_option linter.unusedVariables false
set_option linter.unusedSimpArgs false
set_option maxRecDepth 100000
set_option maxHeartbeats 4000000

theorem run_rest (t : ByteArray) (m : Nat) (hm : m ≤ t.size) (s : ByteArray) (hs : t.extract m t.size = s) (w : World) :
    (Instr.slice 9 (.string t) (some (.int .i64 m)) none none).run Try.prog w = .ok (.string s) w := by
  rw [run_slice_string_from_if (h := Try.underlying9), if_pos (by omega), ← hs]
  rfl
theorem rest_facts {t s : ByteArray} {m : Nat} (hm : m ≤ t.size) (hs : t.extract m t.size = s) : s.size = t.size - m ∧ bs s = (bs t).drop m := by
  subst hs
  exact ⟨by rw [ByteArray.size_extract]; omega, bs_rest t m⟩
theorem square_is (t : ByteArray) (i : Int) (ht : t.size ≤ 1000) (w : World) :
    Calls Try.prog 16 #[.string t, .int .i64 i] w fun e w' => e = .returned (sv (sqP t i)) ∧ Kept w w' := by
  have HS := Lib.hid (SAt.new w Zs)
  have HI := Lib.hid (within_is t i)
  cases hb : inB t i with
  | false =>
    rw [hb] at HI
    have HE := Lib.hid (show sqP t i = argS by unfold sqP; rw [if_neg (by rw [hb]; decide)])
    clear hb
    go_enter Try.func16, Try.ntmps16
    go_wp2_with (with_reducible refine wpList_new_sp rfl rfl ?_)
    refine (HI.out _).mono ?_
    rintro e w1 ⟨rfl, rfl⟩
    go_wp2_with fail
    refine (refused_is _).mono ?_
    rintro e w2 ⟨rfl, k2⟩
    have H2 := Lib.hid (HS.out.kept k2)
    have K2 := Lib.hid (((Kept.refl w).alloc _).trans k2)
    clear k2
    go_wp2_with (refine wpList_store_sp rfl _ _ rfl w.heap.size Zs argS H2.out rfl rfl ?_)
    refine bodyPost_ret (v := sv argS) ?_ rfl ⟨by rw [HE.out], K2.out.setRow (by omega) _⟩
    exact (ret_sp rfl H2.out rfl).trans rfl
  | true =>
    rw [hb] at HI
    obtain ⟨m, rfl, hm⟩ := inB_yes hb
    clear hb
    obtain ⟨s, hs⟩ : ∃ s, t.extract m t.size = s := ⟨_, rfl⟩
    obtain ⟨hz, hbs⟩ := rest_facts hm hs
    have hsl := run_rest t m hm s hs
    have HB := Lib.hid (show ∀ p, (bs t)[m + p]? = (bs s)[p]? from fun p => by rw [hbs, List.getElem?_drop])
    have HQ := Lib.hid (stuck_is t)
    clear hs hbs
    go_enter Try.func16, Try.ntmps16
    go_wp2_with (with_reducible refine wpList_new_sp rfl rfl ?_)
    refine (HI.out _).mono ?_
    rintro e w1 ⟨rfl, rfl⟩
    go_wp2
    go_loopw [5] (fun t5 wr => ∃ (p : Nat) (f : Int), t5 = .int .i64 f ∧ It w wr s p ∧ ((p = 0 ∧ f = 0) ∨ (p = 1 ∧ ∃ a, (bs s)[0]? = some a ∧ 97 ≤ a.toNat ∧ a.toNat ≤ 104 ∧ f = a.toNat - 97))) (fun _ wr => s.size - wr.iterPos (w.heap.size + 1))
    case atStart => exact ⟨0, 0, rfl, It.start w s, .inl ⟨rfl, rfl⟩⟩
    case round =>
      obtain ⟨p, f, rfl, hIt, hst⟩ := hrel
      have HIt := Lib.hid hIt
      clear hIt
      by_cases hp : p < s.size
      · obtain ⟨q, k, b, hd, hb, hk, hq, hqb, _⟩ := sign_at s p hp
        have hnx := fun ty => next_at (P := Try.prog) wr (w.heap.size + 1) s p ty HIt.out.iter hp
        simp only [hd] at hnx
        clear hd
        rcases hst with ⟨rfl, rfl⟩ | ⟨rfl, a, ha, a0, a1, rfl⟩
        · by_cases hr : 97 ≤ q ∧ q ≤ 104
          · obtain ⟨r0, r1⟩ := hr
            obtain ⟨_, rfl, rfl⟩ : q < 128 ∧ q = b.toNat ∧ k = 1 := by omega
            have HN := Lib.hid (HIt.out.next 1)
            have HbB := Lib.hid hb
            clear hb hqb
            go_wp2_with fail
            refine (at_yes _ _ _ (by omega) (by omega) (by omega) (by omega)).mono ?_
            rintro e w2 ⟨rfl, rfl⟩
            go_wp2
            go_roundw
            case rel => exact ⟨1, _, rfl, HN.out, .inr ⟨rfl, b, HbB.out, r0, r1, rfl⟩⟩
            case measure => simp [World.iterPos, HN.out.iter, HIt.out.iter]; omega
          · have hbr : b.toNat < 97 ∨ 104 < b.toNat := by omega
            have HE := Lib.hid (sq_far ((show (bs t)[m]? = (bs s)[0]? from HB.out 0).trans hb) hbr)
            have HN := Lib.hid (HIt.out.next k)
            have HV := Lib.hid (show stk t.size m = ⟨m, 0, 2⟩ from if_neg (by omega))
            have hr' : (q : Int) - 97 < 0 ∨ 8 ≤ (q : Int) - 97 ∨ (0 : Int) < 0 ∨ 8 ≤ (0 : Int) := by omega
            clear hb hqb hbr hr
            go_wp2_with fail
            refine (at_no _ _ _ hr').mono ?_
            rintro e w2 ⟨rfl, rfl⟩
            go_wp2_with fail
            refine (HQ.out _ _).mono ?_
            rintro e w3 ⟨rfl, k3⟩
            have H3 := Lib.hid (HN.out.cell.kept k3)
            have K3 := Lib.hid (HN.out.kept.trans k3)
            clear k3
            go_wp2_with (refine wpList_store_sp rfl _ _ rfl w.heap.size Zs _ H3.out rfl rfl ?_)
            refine bodyPost_ret (v := sv (stk t.size m)) ?_ rfl ⟨by rw [HE.out, HV.out]; first | done | rfl, K3.out.setRow (by omega) _⟩
            exact (ret_sp rfl H3.out rfl).trans rfl
        · have HA := Lib.hid ha
          clear ha
          by_cases hr : 49 ≤ q ∧ q ≤ 56
          · obtain ⟨r0, r1⟩ := hr
            obtain ⟨_, rfl, rfl⟩ : q < 128 ∧ q = b.toNat ∧ k = 1 := by omega
            have HE := Lib.hid (sq_yes ((show (bs t)[m]? = (bs s)[0]? from HB.out 0).trans HA.out) ((HB.out 1).trans hb) a0 a1 r0 r1)
            have HN := Lib.hid (HIt.out.next 2)
            clear hb hqb
            go_wp2_with fail
            refine (at_yes _ _ _ (by omega) (by omega) (by omega) (by omega)).mono ?_
            rintro e w2 ⟨rfl, rfl⟩
            have H3 := Lib.hid HN.out.cell
            have K3 := Lib.hid HN.out.kept
            go_wp2_with (first | (refine wpList_bt_sn rfl _ _ rfl _ _ rfl rfl ?_) | (refine wpList_store_sp rfl _ _ rfl w.heap.size Zs _ H3.out rfl rfl ?_))
            refine bodyPost_ret (v := sv (sqP t m)) ?_ rfl ⟨rfl, K3.out.setRow (by omega) _⟩
            rw [HE.out]
            refine (ret_sp rfl H3.out rfl).trans ?_
            simp [sv]; omega
          · have hbr : b.toNat < 49 ∨ 56 < b.toNat := by omega
            have HE := Lib.hid (sq_bad ((show (bs t)[m]? = (bs s)[0]? from HB.out 0).trans HA.out) ((HB.out 1).trans hb) a0 a1 hbr)
            have HN := Lib.hid (HIt.out.next (1 + k))
            have HV := Lib.hid (show stk t.size ((m : Int) + 1) = ⟨(m : Int) + 1, 0, 2⟩ from if_neg (by omega))
            have hr' : (a.toNat : Int) - 97 < 0 ∨ 8 ≤ (a.toNat : Int) - 97 ∨ (q : Int) - 49 < 0 ∨ 8 ≤ (q : Int) - 49 := by omega
            clear hb hqb hbr hr
            go_wp2_with fail
            refine (at_no _ _ _ hr').mono ?_
            rintro e w2 ⟨rfl, rfl⟩
            go_wp2_with fail
            refine (HQ.out _ _).mono ?_
            rintro e w3 ⟨rfl, k3⟩
            have H3 := Lib.hid (HN.out.cell.kept k3)
            have K3 := Lib.hid (HN.out.kept.trans k3)
            clear k3
            go_wp2_with (refine wpList_store_sp rfl _ _ rfl w.heap.size Zs _ H3.out rfl rfl ?_)
            refine bodyPost_ret (v := sv (stk t.size ((m : Int) + 1))) ?_ rfl ⟨by rw [HE.out, HV.out]; first | done | rfl, K3.out.setRow (by omega) _⟩
            exact (ret_sp rfl H3.out rfl).trans rfl
      · have hnx := fun ty => next_at_end (P := Try.prog) wr (w.heap.size + 1) s p ty HIt.out.iter hp
        have HE : Hid (sqP t m = ⟨t.size, 0, 1⟩) := by
          rcases hst with ⟨rfl, rfl⟩ | ⟨rfl, a, ha, a0, a1, rfl⟩
          · show _ = _
            rw [sq_end (by omega), show m = t.size by omega]
          · have h1 : 0 < s.size := by
              have := (List.getElem?_eq_some_iff.1 ha).1
              rw [bs_len] at this; exact this
            show _ = _
            rw [sq_one ((show (bs t)[m]? = (bs s)[0]? from HB.out 0).trans ha) a0 a1 (by omega), show (t.size : Int) = m + 1 by omega]
        have HV := Lib.hid (show stk t.size t.size = ⟨t.size, 0, 1⟩ from if_pos rfl)
        clear hst
        go_wp2_with fail
        refine (HQ.out _ _).mono ?_
        rintro e w3 ⟨rfl, k3⟩
        have H3 := Lib.hid (HIt.out.cell.kept k3)
        have K3 := Lib.hid (HIt.out.kept.trans k3)
        clear k3
        go_wp2_with (refine wpList_store_sp rfl _ _ rfl w.heap.size Zs _ H3.out rfl rfl ?_)
        refine bodyPost_ret (v := sv (stk t.size t.size)) ?_ rfl ⟨by rw [HE.out, HV.out]; first | done | rfl, K3.out.setRow (by omega) _⟩
        exact (ret_sp rfl H3.out rfl).trans rfl
end Go.Proofs.Ytihmpglfghffiaa
