/- fits, begins, Word, the document's Word. -/
import Derived.Test.YtnlgjakohoimhaaDoorLxB
namespace Go.Proofs.YtnlgjakohoimhaaDoor
open Go.RowKit
set_option linter.unusedVariables false
set_option linter.unusedSimpArgs false
set_option maxRecDepth 100000
set_option maxHeartbeats 4000000

theorem common_at (t v : ByteArray) (m : Nat) (hm : m ≤ t.size) (ht : t.size ≤ 1000) (hv : v.size ≤ 1000) (w : World) :
    Calls Tryd.prog 38 #[.string (t.extract m t.size), .string v] w fun e w' => e = .returned (.int .i64 (cmn ((bs t).drop m) (bs v) : Nat)) ∧ Kept w w' := by
  rw [← bs_rest]
  refine common_is _ v ?_ hv w
  rw [ByteArray.size_extract]; omega
theorem inB_yes {t : ByteArray} {i : Int} (h : inB t i = true) : ∃ m : Nat, i = m ∧ m ≤ t.size := by
  simp [inB] at h
  obtain ⟨m, rfl⟩ := Int.eq_ofNat_of_zero_le h.1
  exact ⟨m, rfl, by omega⟩
theorem cmn_room (t v : ByteArray) (m : Nat) (hm : m ≤ t.size) : cmn ((bs t).drop m) (bs v) ≤ v.size ∧ m + cmn ((bs t).drop m) (bs v) ≤ t.size := by
  have h1 := cmn_l ((bs t).drop m) (bs v)
  have h2 := cmn_r ((bs t).drop m) (bs v)
  rw [List.length_drop, bs_len] at h1
  rw [bs_len] at h2
  omega
theorem word_is (t v : ByteArray) (i : Int) (ht : t.size ≤ 1000) (hv : v.size ≤ 1000) (w : World) :
    Calls Tryd.prog 24 #[.string t, .int .i64 i, .string v] w fun e w' => e = .returned (sv (wordP t v i)) ∧ Kept w w' := by
  have HS := Lib.hid (SAt.new w Zs)
  have HI := Lib.hid (within_is t i)
  cases hb : inB t i with
  | false =>
    rw [hb] at HI
    have HE := Lib.hid (show wordP t v i = argS by unfold wordP; rw [if_neg (by rw [hb]; decide)])
    clear hb
    go_enter Tryd.func24, Tryd.ntmps24
    go_wp2_with (with_reducible refine wpList_new_sp rfl rfl ?_)
    refine (HI.out _).mono ?_
    rintro e w1 ⟨rfl, rfl⟩
    go_wp2_with fail
    refine (refused_is _).mono ?_
    rintro e w2 ⟨rfl, k2⟩
    have H2 := Lib.hid (HS.out.kept k2)
    have K2 := Lib.hid (((Kept.refl w).alloc _).trans k2)
    clear k2
    go_wp2_with (refine wpList_store_sp rfl _ _ rfl w.heap.size Zs argS H2.out rfl rfl ?_)
    refine bodyPost_ret (v := sv argS) ?_ rfl ⟨by rw [HE.out], K2.out.setRow (by omega) _⟩
    exact (ret_sp rfl H2.out rfl).trans rfl
  | true =>
    rw [hb] at HI
    obtain ⟨m, rfl, hm⟩ := inB_yes hb
    have HC := Lib.hid (common_at t v m hm ht hv)
    have hr := cmn_room t v m hm
    have HE := Lib.hid (show wordP t v m = if cmn ((bs t).drop m) (bs v) = v.size then ⟨(m : Int) + (cmn ((bs t).drop m) (bs v) : Nat), 0, 0⟩ else stk t.size ((m : Int) + (cmn ((bs t).drop m) (bs v) : Nat)) by unfold wordP; rw [if_pos hb]; rfl)
    clear hb
    generalize cmn ((bs t).drop m) (bs v) = n at *
    by_cases hn : n = v.size
    · have HE' := Lib.hid (HE.out.trans (if_pos hn))
      have hlt : ¬ (n : Int) < v.size := by omega
      clear HE hn
      go_enter Tryd.func24, Tryd.ntmps24
      go_wp2_with (with_reducible refine wpList_new_sp rfl rfl ?_)
      refine (HI.out _).mono ?_
      rintro e w1 ⟨rfl, rfl⟩
      go_wp2_with fail
      refine (HC.out _).mono ?_
      rintro e w2 ⟨rfl, k2⟩
      have H2 := Lib.hid (HS.out.kept k2)
      have K2 := Lib.hid (((Kept.refl w).alloc _).trans k2)
      clear k2
      go_wp2_with (first | (refine wpList_bt_sa rfl _ rfl ((m : Int) + n) rfl ?_) | (refine wpList_store_sp rfl _ _ rfl w.heap.size Zs ⟨(m : Int) + n, 0, 0⟩ H2.out rfl rfl ?_))
      refine bodyPost_ret (v := sv ⟨(m : Int) + n, 0, 0⟩) ?_ rfl ⟨by rw [HE'.out], K2.out.setRow (by omega) _⟩
      exact (ret_sp rfl H2.out rfl).trans rfl
    · have HE' := Lib.hid (HE.out.trans (if_neg hn))
      have hlt : (n : Int) < v.size := by omega
      have HQ := Lib.hid (stuck_is t ((m : Int) + n))
      clear HE hn
      go_enter Tryd.func24, Tryd.ntmps24
      go_wp2_with (with_reducible refine wpList_new_sp rfl rfl ?_)
      refine (HI.out _).mono ?_
      rintro e w1 ⟨rfl, rfl⟩
      go_wp2_with fail
      refine (HC.out _).mono ?_
      rintro e w2 ⟨rfl, k2⟩
      have H2 := Lib.hid (HS.out.kept k2)
      have K2 := Lib.hid (((Kept.refl w).alloc _).trans k2)
      clear k2
      go_wp2_with fail
      refine (HQ.out _).mono ?_
      rintro e w3 ⟨rfl, k3⟩
      have H3 := Lib.hid (H2.out.kept k3)
      have K3 := Lib.hid (K2.out.trans k3)
      clear k3
      go_wp2_with (refine wpList_store_sp rfl _ _ rfl w.heap.size Zs _ H3.out rfl rfl ?_)
      refine bodyPost_ret (v := sv (stk t.size ((m : Int) + n))) ?_ rfl ⟨by rw [HE'.out], K3.out.setRow (by omega) _⟩
      exact (ret_sp rfl H3.out rfl).trans rfl
end Go.Proofs.YtnlgjakohoimhaaDoor
