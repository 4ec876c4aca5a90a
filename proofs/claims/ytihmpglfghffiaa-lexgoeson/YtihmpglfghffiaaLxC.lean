/- fits, begins, Word, the document's Word. -/
import Derived.Test.YtihmpglfghffiaaLxB
namespace Go.Proofs.Ytihmpglfghffiaa
open Go.RowKit
set_option linter.unusedVariables false
set_option linter.unusedSimpArgs false
set_option maxRecDepth 100000
set_option maxHeartbeats 4000000

theorem fits_is (t v : ByteArray) (m : Nat) (hm : m ≤ t.size) (ht : t.size ≤ 1000) (hv : v.size ≤ 1000) (w : World) :
    Calls Try.prog 24 #[.string t, .int .i64 m, .string v] w fun e w' => e = .returned (.int .i64 (cmn ((bs t).drop m) (bs v) : Nat)) ∧ Kept w w' := by
  have et := bs_len t
  have ev := bs_len v
  go_enter Try.func24, Try.ntmps24
  go_wp2
  go_loopw [7] (fun x wr => ∃ k : Nat, x = .int .i64 k ∧ m + k ≤ t.size ∧ k ≤ v.size ∧ cmn ((bs t).drop m) (bs v) = k + cmn (((bs t).drop m).drop k) ((bs v).drop k) ∧ Kept w wr) (fun x _ => 1000 - (intOf x).toNat)
  case atStart => exact ⟨0, rfl, by omega, by omega, by simp, Kept.refl _⟩
  case round =>
    obtain ⟨k, rfl, hka, hkb, hc, hK⟩ := hrel
    have HC := Lib.hid hc
    have HK := Lib.hid hK
    clear hc hK
    have ew : IntKind.i64.wrap ((m : Int) + k) = (m : Int) + k := IntWalk.i64_in _ (by omega)
    by_cases l2 : k < v.size
    · have lb : decide ((k : Int) < (v.size : Int)) = true := decide_eq_true (by omega)
      by_cases l1 : m + k < t.size
      · have cb2 : decide ((m : Int) + (k : Int) < (t.size : Int)) = true := decide_eq_true (by omega)
        have cb : decide (IntKind.i64.wrap ((m : Int) + k) < (t.size : Int)) = true := by rw [ew]; exact decide_eq_true (by omega)
        obtain ⟨x, hx⟩ : ∃ x, (bs t)[m + k]? = some x := ⟨_, bs_getq t _ l1⟩
        obtain ⟨y, hy⟩ : ∃ y, (bs v)[k]? = some y := ⟨_, bs_getq v k l2⟩
        have ia := run_idx t ((m : Int) + k) (m + k) (by omega) x hx
        have ic := run_idx t (IntKind.i64.wrap ((m : Int) + k)) (m + k) (by rw [ew]; omega) x hx
        have ib := run_idx v k k rfl y hy
        have hx' : ((bs t).drop m)[k]? = some x := by rw [List.getElem?_drop]; exact hx
        by_cases he : x = y
        · have H := Lib.hid (cmn_same _ (bs v) k x hx' (by rw [he]; exact hy))
          have hne : (((x.toNat : Nat) : Int) == ((y.toNat : Nat) : Int)) = true := by rw [he]; simp
          clear hx hy hx' he
          go_wp2_with fail
          refine wp_region_held_drew (S := Kept _) (by kernel_rfl) (Kept.refl _).drew (fun hHeld => ?_)
          refine rT 0 8 (.int .i64 k) rfl rfl hHeld ?_
          simp only [pA, pN, sZ, sU]
          refine rT 1 9 (.string v) rfl rfl hHeld ?_
          simp only [pA, pN, sZ, sU]
          refine rT 2 10 (.int .i64 v.size) rfl rfl hHeld ?_
          simp only [pA, pN, sZ, sU]
          refine rT 3 11 (.bool true) rfl rfl hHeld ?_
          simp only [pA, pN, sZ, sU]
          refine rT 4 12 (.bool true) rfl rfl hHeld ?_
          simp only [pA, pN, sZ, sU]
          refine rT 5 13 (.int .i64 m) rfl rfl hHeld ?_
          simp only [pA, pN, sZ, sU]
          refine rT 6 14 (.int .i64 k) rfl rfl hHeld ?_
          simp only [pA, pN, sZ, sU]
          refine rT 7 15 (.int .i64 ((m : Int) + k)) rfl rfl hHeld ?_
          simp only [pA, pN, sZ, sU]
          refine rT 8 16 (.string t) rfl rfl hHeld ?_
          simp only [pA, pN, sZ, sU]
          refine rT 9 17 (.int .i64 t.size) rfl rfl hHeld ?_
          simp only [pA, pN, sZ, sU]
          refine rT 10 18 (.bool true) rfl rfl hHeld ?_
          simp only [pA, pN, sZ, sU]
          refine rT 11 19 (.bool true) rfl rfl hHeld ?_
          simp only [pA, pN, sZ, sU]
          refine rT 12 20 (.bool true) rfl rfl hHeld ?_
          simp only [pA, pN, sZ, sU]
          refine rT 13 21 (.string t) rfl rfl hHeld ?_
          simp only [pA, pN, sZ, sU]
          refine rT 14 22 (.int .i64 m) rfl rfl hHeld ?_
          simp only [pA, pN, sZ, sU]
          refine rT 15 23 (.int .i64 k) rfl rfl hHeld ?_
          simp only [pA, pN, sZ, sU]
          refine rT 16 24 (.int .i64 ((m : Int) + k)) rfl rfl hHeld ?_
          simp only [pA, pN, sZ, sU]
          refine rT 17 25 (.int .u8 x.toNat) rfl rfl hHeld ?_
          simp only [pA, pN, sZ, sU]
          refine rT 18 26 (.string v) rfl rfl hHeld ?_
          simp only [pA, pN, sZ, sU]
          refine rT 19 27 (.int .i64 k) rfl rfl hHeld ?_
          simp only [pA, pN, sZ, sU]
          refine rT 20 28 (.int .u8 y.toNat) rfl rfl hHeld ?_
          simp only [pA, pN, sZ, sU]
          refine rT 21 29 (.bool true) rfl rfl hHeld ?_
          simp only [pA, pN, sZ, sU]
          refine rT 22 30 (.bool true) rfl rfl hHeld ?_
          simp only [pA, pN, sZ, sU]
          refine wpAnyH_done (by kernel_rfl) ?_ _
          go_wp2
          go_roundw
          case rel => exact ⟨k + 1, by go_num, by omega, by omega, by rw [HC.out, H.out]; omega, HK.out.trans hHeld⟩
          case measure => simp [intOf]; omega
        · have H := Lib.hid (cmn_diff _ (bs v) k x y hx' hy he)
          have hne : (((x.toNat : Nat) : Int) == ((y.toNat : Nat) : Int)) = false := by
            rw [beq_eq_false_iff_ne]; intro e; exact he (UInt8.toNat.inj (by omega))
          clear hx hy hx' he
          go_wp2_with fail
          refine wp_region_held_drew (S := Kept _) (by kernel_rfl) (Kept.refl _).drew (fun hHeld => ?_)
          refine rT 0 8 (.int .i64 k) rfl rfl hHeld ?_
          simp only [pA, pN, sZ, sU]
          refine rT 1 9 (.string v) rfl rfl hHeld ?_
          simp only [pA, pN, sZ, sU]
          refine rT 2 10 (.int .i64 v.size) rfl rfl hHeld ?_
          simp only [pA, pN, sZ, sU]
          refine rT 3 11 (.bool true) rfl rfl hHeld ?_
          simp only [pA, pN, sZ, sU]
          refine rT 4 12 (.bool true) rfl rfl hHeld ?_
          simp only [pA, pN, sZ, sU]
          refine rT 5 13 (.int .i64 m) rfl rfl hHeld ?_
          simp only [pA, pN, sZ, sU]
          refine rT 6 14 (.int .i64 k) rfl rfl hHeld ?_
          simp only [pA, pN, sZ, sU]
          refine rT 7 15 (.int .i64 ((m : Int) + k)) rfl rfl hHeld ?_
          simp only [pA, pN, sZ, sU]
          refine rT 8 16 (.string t) rfl rfl hHeld ?_
          simp only [pA, pN, sZ, sU]
          refine rT 9 17 (.int .i64 t.size) rfl rfl hHeld ?_
          simp only [pA, pN, sZ, sU]
          refine rT 10 18 (.bool true) rfl rfl hHeld ?_
          simp only [pA, pN, sZ, sU]
          refine rT 11 19 (.bool true) rfl rfl hHeld ?_
          simp only [pA, pN, sZ, sU]
          refine rT 12 20 (.bool true) rfl rfl hHeld ?_
          simp only [pA, pN, sZ, sU]
          refine rT 13 21 (.string t) rfl rfl hHeld ?_
          simp only [pA, pN, sZ, sU]
          refine rT 14 22 (.int .i64 m) rfl rfl hHeld ?_
          simp only [pA, pN, sZ, sU]
          refine rT 15 23 (.int .i64 k) rfl rfl hHeld ?_
          simp only [pA, pN, sZ, sU]
          refine rT 16 24 (.int .i64 ((m : Int) + k)) rfl rfl hHeld ?_
          simp only [pA, pN, sZ, sU]
          refine rT 17 25 (.int .u8 x.toNat) rfl rfl hHeld ?_
          simp only [pA, pN, sZ, sU]
          refine rT 18 26 (.string v) rfl rfl hHeld ?_
          simp only [pA, pN, sZ, sU]
          refine rT 19 27 (.int .i64 k) rfl rfl hHeld ?_
          simp only [pA, pN, sZ, sU]
          refine rT 20 28 (.int .u8 y.toNat) rfl rfl hHeld ?_
          simp only [pA, pN, sZ, sU]
          refine rT 21 29 (.bool false) rfl rfl hHeld ?_
          simp only [pA, pN, sZ, sU]
          refine rT 22 30 (.bool false) rfl rfl hHeld ?_
          simp only [pA, pN, sZ, sU]
          refine wpAnyH_done (by kernel_rfl) ?_ _
          go_wp2
          go_ret
          exact ⟨by rw [HC.out, H.out]; rfl, HK.out.trans hHeld⟩
      · have cb2 : decide ((m : Int) + (k : Int) < (t.size : Int)) = false := decide_eq_false (by omega)
        have cb : decide (IntKind.i64.wrap ((m : Int) + k) < (t.size : Int)) = false := by rw [ew]; exact decide_eq_false (by omega)
        have H := Lib.hid (cmn_end ((bs t).drop m) (bs v) k (by rw [List.length_drop, et]; omega))
        go_wp2_with fail
        refine wp_region_held_drew (S := Kept _) (by kernel_rfl) (Kept.refl _).drew (fun hHeld => ?_)
        refine rT 0 8 (.int .i64 k) rfl rfl hHeld ?_
        simp only [pA, pN, sZ, sU]
        refine rT 1 9 (.string v) rfl rfl hHeld ?_
        simp only [pA, pN, sZ, sU]
        refine rT 2 10 (.int .i64 v.size) rfl rfl hHeld ?_
        simp only [pA, pN, sZ, sU]
        refine rT 3 11 (.bool true) rfl rfl hHeld ?_
        simp only [pA, pN, sZ, sU]
        refine rT 4 12 (.bool true) rfl rfl hHeld ?_
        simp only [pA, pN, sZ, sU]
        refine rT 5 13 (.int .i64 m) rfl rfl hHeld ?_
        simp only [pA, pN, sZ, sU]
        refine rT 6 14 (.int .i64 k) rfl rfl hHeld ?_
        simp only [pA, pN, sZ, sU]
        refine rT 7 15 (.int .i64 ((m : Int) + k)) rfl rfl hHeld ?_
        simp only [pA, pN, sZ, sU]
        refine rT 8 16 (.string t) rfl rfl hHeld ?_
        simp only [pA, pN, sZ, sU]
        refine rT 9 17 (.int .i64 t.size) rfl rfl hHeld ?_
        simp only [pA, pN, sZ, sU]
        refine rT 10 18 (.bool false) rfl rfl hHeld ?_
        simp only [pA, pN, sZ, sU]
        refine rT 11 19 (.bool false) rfl rfl hHeld ?_
        simp only [pA, pN, sZ, sU]
        refine rT 12 20 (.bool false) rfl rfl hHeld ?_
        simp only [pA, pN, sZ, sU]
        refine rN 13 21 rfl rfl hHeld ?_
        simp only [pA, pN, sZ, sU]
        refine rN 14 22 rfl rfl hHeld ?_
        simp only [pA, pN, sZ, sU]
        refine rN 15 23 rfl rfl hHeld ?_
        simp only [pA, pN, sZ, sU]
        refine rN 16 24 rfl rfl hHeld ?_
        simp only [pA, pN, sZ, sU]
        refine rN 17 25 rfl rfl hHeld ?_
        simp only [pA, pN, sZ, sU]
        refine rN 18 26 rfl rfl hHeld ?_
        simp only [pA, pN, sZ, sU]
        refine rN 19 27 rfl rfl hHeld ?_
        simp only [pA, pN, sZ, sU]
        refine rN 20 28 rfl rfl hHeld ?_
        simp only [pA, pN, sZ, sU]
        refine rN 21 29 rfl rfl hHeld ?_
        simp only [pA, pN, sZ, sU]
        refine rT 22 30 (.bool false) rfl rfl hHeld ?_
        simp only [pA, pN, sZ, sU]
        refine wpAnyH_done (by kernel_rfl) ?_ _
        go_wp2
        go_ret
        exact ⟨by rw [HC.out, H.out]; rfl, HK.out.trans hHeld⟩
    · have lb : decide ((k : Int) < (v.size : Int)) = false := decide_eq_false (by omega)
      have H := Lib.hid (cmn_end ((bs t).drop m) (bs v) k (by omega))
      go_wp2_with fail
      refine wp_region_held_drew (S := Kept _) (by kernel_rfl) (Kept.refl _).drew (fun hHeld => ?_)
      refine rT 0 8 (.int .i64 k) rfl rfl hHeld ?_
      simp only [pA, pN, sZ, sU]
      refine rT 1 9 (.string v) rfl rfl hHeld ?_
      simp only [pA, pN, sZ, sU]
      refine rT 2 10 (.int .i64 v.size) rfl rfl hHeld ?_
      simp only [pA, pN, sZ, sU]
      refine rT 3 11 (.bool false) rfl rfl hHeld ?_
      simp only [pA, pN, sZ, sU]
      refine rT 4 12 (.bool false) rfl rfl hHeld ?_
      simp only [pA, pN, sZ, sU]
      refine rN 5 13 rfl rfl hHeld ?_
      simp only [pA, pN, sZ, sU]
      refine rN 6 14 rfl rfl hHeld ?_
      simp only [pA, pN, sZ, sU]
      refine rN 7 15 rfl rfl hHeld ?_
      simp only [pA, pN, sZ, sU]
      refine rN 8 16 rfl rfl hHeld ?_
      simp only [pA, pN, sZ, sU]
      refine rN 9 17 rfl rfl hHeld ?_
      simp only [pA, pN, sZ, sU]
      refine rN 10 18 rfl rfl hHeld ?_
      simp only [pA, pN, sZ, sU]
      refine rT 11 19 (.bool false) rfl rfl hHeld ?_
      simp only [pA, pN, sZ, sU]
      refine rT 12 20 (.bool false) rfl rfl hHeld ?_
      simp only [pA, pN, sZ, sU]
      refine rN 13 21 rfl rfl hHeld ?_
      simp only [pA, pN, sZ, sU]
      refine rN 14 22 rfl rfl hHeld ?_
      simp only [pA, pN, sZ, sU]
      refine rN 15 23 rfl rfl hHeld ?_
      simp only [pA, pN, sZ, sU]
      refine rN 16 24 rfl rfl hHeld ?_
      simp only [pA, pN, sZ, sU]
      refine rN 17 25 rfl rfl hHeld ?_
      simp only [pA, pN, sZ, sU]
      refine rN 18 26 rfl rfl hHeld ?_
      simp only [pA, pN, sZ, sU]
      refine rN 19 27 rfl rfl hHeld ?_
      simp only [pA, pN, sZ, sU]
      refine rN 20 28 rfl rfl hHeld ?_
      simp only [pA, pN, sZ, sU]
      refine rN 21 29 rfl rfl hHeld ?_
      simp only [pA, pN, sZ, sU]
      refine rT 22 30 (.bool false) rfl rfl hHeld ?_
      simp only [pA, pN, sZ, sU]
      refine wpAnyH_done (by kernel_rfl) ?_ _
      go_wp2
      go_ret
      exact ⟨by rw [HC.out, H.out]; rfl, HK.out.trans hHeld⟩
theorem common_at (t v : ByteArray) (m : Nat) (hm : m ≤ t.size) (ht : t.size ≤ 1000) (hv : v.size ≤ 1000) (w : World) :
    Calls Try.prog 21 #[.string (t.extract m t.size), .string v] w fun e w' => e = .returned (.int .i64 (cmn ((bs t).drop m) (bs v) : Nat)) ∧ Kept w w' := by
  rw [← bs_rest]
  refine common_is _ v ?_ hv w
  rw [ByteArray.size_extract]; omega
theorem inB_yes {t : ByteArray} {i : Int} (h : inB t i = true) : ∃ m : Nat, i = m ∧ m ≤ t.size := by
  simp [inB] at h
  obtain ⟨m, rfl⟩ := Int.eq_ofNat_of_zero_le h.1
  exact ⟨m, rfl, by omega⟩
theorem cmn_room (t v : ByteArray) (m : Nat) (hm : m ≤ t.size) : cmn ((bs t).drop m) (bs v) ≤ v.size ∧ m + cmn ((bs t).drop m) (bs v) ≤ t.size := by
  have h1 := cmn_l ((bs t).drop m) (bs v)
  have h2 := cmn_r ((bs t).drop m) (bs v)
  rw [List.length_drop, bs_len] at h1
  rw [bs_len] at h2
  omega
theorem word_is (t v : ByteArray) (i : Int) (ht : t.size ≤ 1000) (hv : v.size ≤ 1000) (w : World) :
    Calls Try.prog 8 #[.string t, .int .i64 i, .string v] w fun e w' => e = .returned (sv (wordP t v i)) ∧ Kept w w' := by
  have HS := Lib.hid (SAt.new w Zs)
  have HI := Lib.hid (within_is t i)
  cases hb : inB t i with
  | false =>
    rw [hb] at HI
    have HE := Lib.hid (show wordP t v i = argS by unfold wordP; rw [if_neg (by rw [hb]; decide)])
    clear hb
    go_enter Try.func8, Try.ntmps8
    go_wp2_with (with_reducible refine wpList_new_sp rfl rfl ?_)
    refine (HI.out _).mono ?_
    rintro e w1 ⟨rfl, rfl⟩
    go_wp2_with fail
    refine (refused_is _).mono ?_
    rintro e w2 ⟨rfl, k2⟩
    have H2 := Lib.hid (HS.out.kept k2)
    have K2 := Lib.hid (((Kept.refl w).alloc _).trans k2)
    clear k2
    go_wp2_with (refine wpList_store_sp rfl _ _ rfl w.heap.size Zs argS H2.out rfl rfl ?_)
    refine bodyPost_ret (v := sv argS) ?_ rfl ⟨by rw [HE.out], K2.out.setRow (by omega) _⟩
    exact (ret_sp rfl H2.out rfl).trans rfl
  | true =>
    rw [hb] at HI
    obtain ⟨m, rfl, hm⟩ := inB_yes hb
    have HC := Lib.hid (common_at t v m hm ht hv)
    have hr := cmn_room t v m hm
    have HE := Lib.hid (show wordP t v m = if cmn ((bs t).drop m) (bs v) = v.size then ⟨(m : Int) + (cmn ((bs t).drop m) (bs v) : Nat), 0, 0⟩ else stk t.size ((m : Int) + (cmn ((bs t).drop m) (bs v) : Nat)) by unfold wordP; rw [if_pos hb]; rfl)
    clear hb
    generalize cmn ((bs t).drop m) (bs v) = n at *
    by_cases hn : n = v.size
    · have HE' := Lib.hid (HE.out.trans (if_pos hn))
      have hlt : ¬ (n : Int) < v.size := by omega
      clear HE hn
      go_enter Try.func8, Try.ntmps8
      go_wp2_with (with_reducible refine wpList_new_sp rfl rfl ?_)
      refine (HI.out _).mono ?_
      rintro e w1 ⟨rfl, rfl⟩
      go_wp2_with fail
      refine (HC.out _).mono ?_
      rintro e w2 ⟨rfl, k2⟩
      have H2 := Lib.hid (HS.out.kept k2)
      have K2 := Lib.hid (((Kept.refl w).alloc _).trans k2)
      clear k2
      go_wp2_with (first | (refine wpList_bt_sa rfl _ rfl ((m : Int) + n) rfl ?_) | (refine wpList_store_sp rfl _ _ rfl w.heap.size Zs ⟨(m : Int) + n, 0, 0⟩ H2.out rfl rfl ?_))
      refine bodyPost_ret (v := sv ⟨(m : Int) + n, 0, 0⟩) ?_ rfl ⟨by rw [HE'.out], K2.out.setRow (by omega) _⟩
      exact (ret_sp rfl H2.out rfl).trans rfl
    · have HE' := Lib.hid (HE.out.trans (if_neg hn))
      have hlt : (n : Int) < v.size := by omega
      have HQ := Lib.hid (stuck_is t ((m : Int) + n))
      clear HE hn
      go_enter Try.func8, Try.ntmps8
      go_wp2_with (with_reducible refine wpList_new_sp rfl rfl ?_)
      refine (HI.out _).mono ?_
      rintro e w1 ⟨rfl, rfl⟩
      go_wp2_with fail
      refine (HC.out _).mono ?_
      rintro e w2 ⟨rfl, k2⟩
      have H2 := Lib.hid (HS.out.kept k2)
      have K2 := Lib.hid (((Kept.refl w).alloc _).trans k2)
      clear k2
      go_wp2_with fail
      refine (HQ.out _).mono ?_
      rintro e w3 ⟨rfl, k3⟩
      have H3 := Lib.hid (H2.out.kept k3)
      have K3 := Lib.hid (K2.out.trans k3)
      clear k3
      go_wp2_with (refine wpList_store_sp rfl _ _ rfl w.heap.size Zs _ H3.out rfl rfl ?_)
      refine bodyPost_ret (v := sv (stk t.size ((m : Int) + n))) ?_ rfl ⟨by rw [HE'.out], K3.out.setRow (by omega) _⟩
      exact (ret_sp rfl H3.out rfl).trans rfl
theorem rword_is (t v : ByteArray) (i : Int) (ht : t.size ≤ 1000) (hv : v.size ≤ 1000) (w : World) :
    Calls Try.prog 9 #[.string t, .int .i64 i, .string v] w fun e w' => e = .returned (sv (wordP t v i)) ∧ Kept w w' := by
  have HS := Lib.hid (SAt.new w Zs)
  have HI := Lib.hid (there_is t i)
  cases hb : inB t i with
  | false =>
    rw [hb] at HI
    have HE := Lib.hid (show wordP t v i = argS by unfold wordP; rw [if_neg (by rw [hb]; decide)])
    clear hb
    go_enter Try.func9, Try.ntmps9
    go_wp2_with (with_reducible refine wpList_new_sp rfl rfl ?_)
    refine (HI.out _).mono ?_
    rintro e w1 ⟨rfl, rfl⟩
    go_wp2_with (first | (refine wpList_bt_s5 rfl _ rfl 5 rfl ?_) | (refine wpList_store_sp rfl _ _ rfl w.heap.size Zs argS HS.out rfl rfl ?_))
    refine bodyPost_ret (v := sv argS) ?_ rfl ⟨by rw [HE.out], ((Kept.refl w).alloc _).setRow (by omega) _⟩
    exact (ret_sp rfl HS.out rfl).trans rfl
  | true =>
    rw [hb] at HI
    obtain ⟨m, rfl, hm⟩ := inB_yes hb
    have HC := Lib.hid (fits_is t v m hm ht hv)
    have hr := cmn_room t v m hm
    have HE := Lib.hid (show wordP t v m = if cmn ((bs t).drop m) (bs v) = v.size then ⟨(m : Int) + (cmn ((bs t).drop m) (bs v) : Nat), 0, 0⟩ else stk t.size ((m : Int) + (cmn ((bs t).drop m) (bs v) : Nat)) by unfold wordP; rw [if_pos hb]; rfl)
    clear hb
    generalize cmn ((bs t).drop m) (bs v) = n at *
    obtain ⟨x, hx, HX⟩ : ∃ x : Sp, wordP t v m = x ∧ Hid ((n = v.size ∧ x = ⟨(m : Int) + n, 0, 0⟩) ∨ (n ≠ v.size ∧ m + n = t.size ∧ x = ⟨(m : Int) + n, 0, 1⟩) ∨ (n ≠ v.size ∧ m + n ≠ t.size ∧ x = ⟨(m : Int) + n, 0, 2⟩)) := by
      refine ⟨_, HE.out, ?_⟩
      show _ ∨ _
      by_cases h1 : n = v.size
      · exact .inl ⟨h1, if_pos h1⟩
      · rw [if_neg h1]
        unfold stk
        by_cases h2 : m + n = t.size
        · exact .inr (.inl ⟨h1, h2, if_pos (by omega)⟩)
        · exact .inr (.inr ⟨h1, h2, if_neg (by omega)⟩)
    have HR := Lib.hid hx
    clear HE hx
    rcases HX.out with ⟨h1, hx⟩ | ⟨h1, h2, hx⟩ | ⟨h1, h2, hx⟩
    · have HQ := Lib.hid hx
      have b1 : ((n : Int) == (v.size : Int)) = true := beq_iff_eq.2 (by omega)
      clear HX hx h1
      go_enter Try.func9, Try.ntmps9
      go_wp2_with (with_reducible refine wpList_new_sp rfl rfl ?_)
      refine (HI.out _).mono ?_
      rintro e w1 ⟨rfl, rfl⟩
      go_wp2_with fail
      refine (HC.out _).mono ?_
      rintro e w2 ⟨rfl, k2⟩
      have H2 := Lib.hid (HS.out.kept k2)
      have K2 := Lib.hid (((Kept.refl w).alloc _).trans k2)
      clear k2
      go_wp2_with (first | (refine wpList_bt_sa rfl _ rfl ((m : Int) + n) rfl ?_) | (refine wpList_store_sp rfl _ _ rfl w.heap.size Zs ⟨(m : Int) + n, 0, 0⟩ H2.out rfl rfl ?_))
      refine bodyPost_ret (v := sv ⟨(m : Int) + n, 0, 0⟩) ?_ rfl ⟨by rw [HR.out, HQ.out], K2.out.setRow (by omega) _⟩
      exact (ret_sp rfl H2.out rfl).trans rfl
    · have HQ := Lib.hid hx
      have b1 : ((n : Int) == (v.size : Int)) = false := beq_eq_false_iff_ne.2 (by omega)
      have b2 : (((m : Int) + (n : Int)) == (t.size : Int)) = true := beq_iff_eq.2 (by omega)
      clear HX hx h1 h2
      go_enter Try.func9, Try.ntmps9
      go_wp2_with (with_reducible refine wpList_new_sp rfl rfl ?_)
      refine (HI.out _).mono ?_
      rintro e w1 ⟨rfl, rfl⟩
      go_wp2_with fail
      refine (HC.out _).mono ?_
      rintro e w2 ⟨rfl, k2⟩
      have H2 := Lib.hid (HS.out.kept k2)
      have K2 := Lib.hid (((Kept.refl w).alloc _).trans k2)
      clear k2
      go_wp2_with (first | (refine wpList_bt_se rfl _ _ rfl ((m : Int) + n) 1 rfl rfl ?_) | (refine wpList_store_sp rfl _ _ rfl w.heap.size Zs ⟨(m : Int) + n, 0, 1⟩ H2.out rfl rfl ?_))
      refine bodyPost_ret (v := sv ⟨(m : Int) + n, 0, 1⟩) ?_ rfl ⟨by rw [HR.out, HQ.out], K2.out.setRow (by omega) _⟩
      exact (ret_sp rfl H2.out rfl).trans rfl
    · have HQ := Lib.hid hx
      have b1 : ((n : Int) == (v.size : Int)) = false := beq_eq_false_iff_ne.2 (by omega)
      have b2 : (((m : Int) + (n : Int)) == (t.size : Int)) = false := beq_eq_false_iff_ne.2 (by omega)
      clear HX hx h1 h2
      go_enter Try.func9, Try.ntmps9
      go_wp2_with (with_reducible refine wpList_new_sp rfl rfl ?_)
      refine (HI.out _).mono ?_
      rintro e w1 ⟨rfl, rfl⟩
      go_wp2_with fail
      refine (HC.out _).mono ?_
      rintro e w2 ⟨rfl, k2⟩
      have H2 := Lib.hid (HS.out.kept k2)
      have K2 := Lib.hid (((Kept.refl w).alloc _).trans k2)
      clear k2
      go_wp2_with (first | (refine wpList_bt_se rfl _ _ rfl ((m : Int) + n) 2 rfl rfl ?_) | (refine wpList_store_sp rfl _ _ rfl w.heap.size Zs ⟨(m : Int) + n, 0, 2⟩ H2.out rfl rfl ?_))
      refine bodyPost_ret (v := sv ⟨(m : Int) + n, 0, 2⟩) ?_ rfl ⟨by rw [HR.out, HQ.out], K2.out.setRow (by omega) _⟩
      exact (ret_sp rfl H2.out rfl).trans rfl
end Go.Proofs.Ytihmpglfghffiaa
