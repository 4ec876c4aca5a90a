/- SqA · SqB · MeA · BoA · BoB · BoC · BoD · BoE · BoF · BoJ · BoK · RaM · RaR · RaS · AtM · RaW · RaX · RaY · AtE · AtF · AtG · AtH · BoP · PoA · PoD · PoE · PoF · MvL · GeL: my texts, in their order. -/
import Derived.Test.YtfekipadkenhpaaGreatDoorPkA
import Derived.Test.YtfekipadkenhpaaGreatDoorPkB
import Derived.Test.YtfekipadkenhpaaGreatDoorPkC
import Derived.Test.YtfekipadkenhpaaGreatDoorPkD
import Derived.Test.YtfekipadkenhpaaGreatDoorPkE
import Derived.Test.YtfekipadkenhpaaGreatDoorPkF
import Derived.Test.YtfekipadkenhpaaGreatDoorPkGa
import Derived.Test.YtfekipadkenhpaaGreatDoorPkGf
import Derived.Test.YtfekipadkenhpaaGreatDoorPkGg
import Derived.Test.YtfekipadkenhpaaGreatDoorPkH
import Derived.Test.YtfekipadkenhpaaGreatDoorPkI
import Derived.Test.YtfekipadkenhpaaGreatDoorPkJ
import Derived.Test.YtfekipadkenhpaaGreatDoorPkK
import Derived.Test.YtfekipadkenhpaaGreatDoorPkL
import Derived.Test.YtfekipadkenhpaaGreatDoorPkM
import Derived.Test.YtfekipadkenhpaaGreatDoorPkQ
import Derived.IntWalk
import Derived.Deep.WholeRow
import Derived.Deep.MidRow
import Derived.Deep.RegionHeld3
import Derived.Deep.AppendLies
import Derived.OwnWalk
import Derived.ChangeKeysEq
import Derived.Laws.StructEq
namespace Go.Proofs.YtfekipadkenhpaaGreatDoor
open Go.RowKit
set_option linter.unusedVariables false
theorem rright_yes (s : Int) (w : World) (h0 : 0 ≤ s) (h1 : s < 64) :
  Calls Tryz.prog 84 #[.int .i64 s] w fun e w' => e = .returned (.bool true) ∧ w = w' := by
 have h2 : s ≤ 63 := by omega
 go_enter Tryz.func84, Tryz.ntmps84
 go_wp2
 go_ret
 exact ⟨rfl, rfl⟩
theorem rright_no (s : Int) (w : World) (h : s < 0 ∨ 64 ≤ s) :
  Calls Tryz.prog 84 #[.int .i64 s] w fun e w' => e = .returned (.bool false) ∧ w = w' := by
 rcases h with h | h
 ·go_enter Tryz.func84, Tryz.ntmps84
  go_wp2
  go_ret
  exact ⟨rfl, rfl⟩
 ·have h0 : 0 ≤ s := by omega
  have hb : decide (s ≤ 63) = false := by simp; omega
  go_enter Tryz.func84, Tryz.ntmps84
  go_wp2
  go_ret
  exact ⟨rfl, rfl⟩

theorem rfile_yes (s : Int) (w : World) (h0 : 0 ≤ s) (h1 : s < 64) :
  Calls Tryz.prog 85 #[.int .i64 s] w fun e w' => e = .returned (.int .i64 (s % 8)) ∧ w = w' := by
 go_enter Tryz.func85, Tryz.ntmps85
 go_wp2_with (go_at_call 84; refine (rright_yes _ _ (by omega) (by omega)).mono ?_; rintro e w' ⟨rfl, rfl⟩)
 go_loop [0] (fun t => ∃ y : Int, 0 ≤ y ∧ y < 64 ∧ y % 8 = s % 8 ∧ t = .int .i64 y) (fun t => (intOf t).toNat)
 case atStart => exact ⟨s, h0, h1, rfl, rfl⟩
 case round =>
  obtain ⟨y, hy0, hy1, hy2, rfl⟩ := hrel
  have H := Lib.hid hy2
  clear hy2
  by_cases hlt : 8 ≤ y
  ·go_wp2
   go_round
   case rel => exact ⟨y - 8, by omega, by omega, by have := H.out; omega, rfl⟩
   case measure => simp [intOf]; omega
  ·go_wp2
   go_ret
   exact ⟨ret_int (by have := H.out; omega), rfl⟩
theorem rrank_yes (s : Int) (w : World) (h0 : 0 ≤ s) (h1 : s < 64) :
  Calls Tryz.prog 86 #[.int .i64 s] w fun e w' => e = .returned (.int .i64 (s / 8)) ∧ w = w' := by
 go_enter Tryz.func86, Tryz.ntmps86
 go_wp2_with (go_at_call 84; refine (rright_yes _ _ (by omega) (by omega)).mono ?_; rintro e w' ⟨rfl, rfl⟩)
 go_loop [0, 3] (fun t r => ∃ y n : Int, 0 ≤ y ∧ y < 64 ∧ 0 ≤ n ∧ n < 9 ∧ y / 8 + n = s / 8 ∧ t = .int .i64 y ∧ r = .int .i64 n) (fun t _ => (intOf t).toNat)
 case atStart => exact ⟨s, 0, h0, h1, by omega, by omega, by omega, rfl, rfl⟩
 case round =>
  obtain ⟨y, n, hy0, hy1, hn0, hn1, hy2, rfl, rfl⟩ := hrel
  have H := Lib.hid hy2
  clear hy2
  by_cases hlt : 8 ≤ y
  ·go_wp2
   go_round
   case rel => exact ⟨y - 8, n + 1, by omega, by omega, by omega, by have := H.out; omega, by have := H.out; omega, rfl, rfl⟩
   case measure => simp [intOf]; omega
  ·go_wp2
   go_ret
   exact ⟨ret_int (by have := H.out; omega), rfl⟩
theorem rstep_yes (s f r : Int) (w : World) (h0 : 0 ≤ s) (h1 : s < 64) (f0 : 0 ≤ s % 8 + f) (f1 : s % 8 + f < 8) (r0 : 0 ≤ s / 8 + r) (r1 : s / 8 + r < 8) :
  Calls Tryz.prog 156 #[.int .i64 s, .int .i64 f, .int .i64 r] w fun e w' => e = .returned (.int .i64 ((s / 8 + r) * 8 + (s % 8 + f))) ∧ w = w' := by
 go_enter Tryz.func156, Tryz.ntmps156
 go_wp2_with (go_at_call 84; refine (rright_yes _ _ (by omega) (by omega)).mono ?_; rintro e w' ⟨rfl, rfl⟩)
 go_loop [7] (fun t => ∃ k : Int, 0 ≤ k ∧ k ≤ (s / 8 + r) * 8 + (s % 8 + f) ∧ t = .int .i64 k) (fun t => (64 - intOf t).toNat)
 case atStart => exact ⟨0, by omega, by omega, rfl⟩
 case round =>
  obtain ⟨k, hk0, hk1, rfl⟩ := hrel
  have hk2 : k < 64 := by omega
  by_cases hf : k % 8 - s % 8 = f
  ·have b1 : (k % 8 - s % 8 == f) = true := beq_iff_eq.2 hf
   by_cases hr : k / 8 - s / 8 = r
   ·have b2 : (k / 8 - s / 8 == r) = true := beq_iff_eq.2 hr
    have H := Lib.hid (show k = (s / 8 + r) * 8 + (s % 8 + f) by omega)
    clear hf hr
    go_wp2_with (first | (go_at_call 85; refine (rfile_yes _ _ (by omega) (by omega)).mono ?_; rintro e w' ⟨rfl, rfl⟩) | (go_at_call 86; refine (rrank_yes _ _ (by omega) (by omega)).mono ?_; rintro e w' ⟨rfl, rfl⟩))
    go_ret
    exact ⟨ret_int H.out, rfl⟩
   ·have b2 : (k / 8 - s / 8 == r) = false := beq_eq_false_iff_ne.2 hr
    have hk3 : k < (s / 8 + r) * 8 + (s % 8 + f) := by omega
    clear hf hr
    go_wp2_with (first | (go_at_call 85; refine (rfile_yes _ _ (by omega) (by omega)).mono ?_; rintro e w' ⟨rfl, rfl⟩) | (go_at_call 86; refine (rrank_yes _ _ (by omega) (by omega)).mono ?_; rintro e w' ⟨rfl, rfl⟩))
    go_round
    case rel => exact ⟨k + 1, by omega, by omega, rfl⟩
    case measure => simp [intOf]; omega
  ·have b1 : (k % 8 - s % 8 == f) = false := beq_eq_false_iff_ne.2 hf
   have hk3 : k < (s / 8 + r) * 8 + (s % 8 + f) := by omega
   clear hf
   go_wp2_with (first | (go_at_call 85; refine (rfile_yes _ _ (by omega) (by omega)).mono ?_; rintro e w' ⟨rfl, rfl⟩) | (go_at_call 86; refine (rrank_yes _ _ (by omega) (by omega)).mono ?_; rintro e w' ⟨rfl, rfl⟩))
   go_round
   case rel => exact ⟨k + 1, by omega, by omega, rfl⟩
   case measure => simp [intOf]; omega
theorem rstep_no (s f r : Int) (w : World) (h0 : 0 ≤ s) (h1 : s < 64) (h : s % 8 + f < 0 ∨ 8 ≤ s % 8 + f ∨ s / 8 + r < 0 ∨ 8 ≤ s / 8 + r) :
  Calls Tryz.prog 156 #[.int .i64 s, .int .i64 f, .int .i64 r] w fun e w' => e = .returned (.int .i64 (-1)) ∧ w = w' := by
 go_enter Tryz.func156, Tryz.ntmps156
 go_wp2_with (go_at_call 84; refine (rright_yes _ _ (by omega) (by omega)).mono ?_; rintro e w' ⟨rfl, rfl⟩)
 go_loop [7] (fun t => ∃ k : Int, 0 ≤ k ∧ k ≤ 64 ∧ t = .int .i64 k) (fun t => (64 - intOf t).toNat)
 case atStart => exact ⟨0, by omega, by omega, rfl⟩
 case round =>
  obtain ⟨k, hk0, hk1, rfl⟩ := hrel
  by_cases hk2 : k < 64
  ·by_cases hf : k % 8 - s % 8 = f
   ·have b1 : (k % 8 - s % 8 == f) = true := beq_iff_eq.2 hf
    have b2 : (k / 8 - s / 8 == r) = false := beq_eq_false_iff_ne.2 (by omega)
    clear hf
    go_wp2_with (first | (go_at_call 85; refine (rfile_yes _ _ (by omega) (by omega)).mono ?_; rintro e w' ⟨rfl, rfl⟩) | (go_at_call 86; refine (rrank_yes _ _ (by omega) (by omega)).mono ?_; rintro e w' ⟨rfl, rfl⟩))
    go_round
    case rel => exact ⟨k + 1, by omega, by omega, rfl⟩
    case measure => simp [intOf]; omega
   ·have b1 : (k % 8 - s % 8 == f) = false := beq_eq_false_iff_ne.2 hf
    clear hf
    go_wp2_with (first | (go_at_call 85; refine (rfile_yes _ _ (by omega) (by omega)).mono ?_; rintro e w' ⟨rfl, rfl⟩) | (go_at_call 86; refine (rrank_yes _ _ (by omega) (by omega)).mono ?_; rintro e w' ⟨rfl, rfl⟩))
    go_round
    case rel => exact ⟨k + 1, by omega, by omega, rfl⟩
    case measure => simp [intOf]; omega
  ·go_wp2
   go_ret
   exact ⟨rfl, rfl⟩
theorem rstep_off (s f r : Int) (w : World) (h : s < 0 ∨ 64 ≤ s) :
  Calls Tryz.prog 156 #[.int .i64 s, .int .i64 f, .int .i64 r] w fun e w' => e = .returned (.int .i64 (-1)) ∧ w = w' := by
 go_enter Tryz.func156, Tryz.ntmps156
 go_wp2_with (go_at_call 84; refine (rright_no _ _ h).mono ?_; rintro e w' ⟨rfl, rfl⟩)
 go_ret
 exact ⟨rfl, rfl⟩

theorem rfar_yes (a b : Int) (w : World) (a0 : 0 ≤ a) (a1 : a < 64) (b0 : 0 ≤ b) (b1 : b < 64) :
  Calls Tryz.prog 42 #[.int .i64 a, .int .i64 b] w fun e w' => e = .returned (.int .i64 (farI a b)) ∧ w = w' := by
 go_enter Tryz.func42, Tryz.ntmps42
 go_wp2_with (first | (go_at_call 84; refine (rright_yes _ _ (by omega) (by omega)).mono ?_; rintro e w' ⟨rfl, rfl⟩) | (go_at_call 85; refine (rfile_yes _ _ (by omega) (by omega)).mono ?_; rintro e w' ⟨rfl, rfl⟩) | (go_at_call 86; refine (rrank_yes _ _ (by omega) (by omega)).mono ?_; rintro e w' ⟨rfl, rfl⟩))
 all_goals
  go_ret
  exact ⟨ret_int (by unfold farI; omega), rfl⟩
theorem rfar_no (a b : Int) (w : World) (h : a < 0 ∨ 64 ≤ a ∨ b < 0 ∨ 64 ≤ b) :
  Calls Tryz.prog 42 #[.int .i64 a, .int .i64 b] w fun e w' => e = .returned (.int .i64 (-1)) ∧ w = w' := by
 by_cases ha : a < 0 ∨ 64 ≤ a
 ·go_enter Tryz.func42, Tryz.ntmps42
  go_wp2_with (go_at_call 84; refine (rright_no _ _ ha).mono ?_; rintro e w' ⟨rfl, rfl⟩)
  go_ret
  exact ⟨rfl, rfl⟩
 ·have a0 : 0 ≤ a := by omega
  have a1 : a < 64 := by omega
  have hb : b < 0 ∨ 64 ≤ b := by omega
  clear ha h
  go_enter Tryz.func42, Tryz.ntmps42
  go_wp2_with fail
  refine (rright_yes _ _ (by omega) (by omega)).mono ?_
  rintro e w' ⟨rfl, rfl⟩
  go_wp2_with fail
  refine (rright_no _ _ hb).mono ?_
  rintro e w' ⟨rfl, rfl⟩
  go_wp2
  go_ret
  exact ⟨rfl, rfl⟩
theorem rkind_no (m : Int) (w : World) (h : m < -6 ∨ m = 0 ∨ 6 < m) :
  Calls Tryz.prog 109 #[.int .i64 m] w fun e w' => e = .returned (.int .i64 0) ∧ w = w' := by
 have H := Lib.hid h
 clear h
 go_enter Tryz.func109, Tryz.ntmps109
 go_wp2
 go_loop [3] (fun t => ∃ k : Int, 1 ≤ k ∧ k ≤ 7 ∧ t = .int .i64 k) (fun t => 7 - (intOf t).toNat)
 case atStart => exact ⟨1, by omega, by omega, rfl⟩
 case round =>
  obtain ⟨k, h1, h7, rfl⟩ := hrel
  by_cases hk : k ≤ 6
  ·have b1 : (m == k) = false := beq_eq_false_iff_ne.2 (by have := H.out; omega)
   have b2 : (m == 0 - k) = false := beq_eq_false_iff_ne.2 (by have := H.out; omega)
   have b3 : (m == -k) = false := beq_eq_false_iff_ne.2 (by have := H.out; omega)
   go_wp2
   go_round
   case rel => exact ⟨k + 1, by omega, by omega, rfl⟩
   case measure => simp [intOf]; omega
  ·go_wp2
   go_ret
   exact ⟨rfl, rfl⟩
theorem rkind_yes (m q : Int) (w : World) (h : m = q ∨ m = -q) (h1 : 1 ≤ q) (h6 : q ≤ 6) :
  Calls Tryz.prog 109 #[.int .i64 m] w fun e w' => e = .returned (.int .i64 q) ∧ w = w' := by
 have H := Lib.hid h
 clear h
 go_enter Tryz.func109, Tryz.ntmps109
 go_wp2
 go_loop [3] (fun t => ∃ k : Int, 1 ≤ k ∧ k ≤ q ∧ t = .int .i64 k) (fun t => 7 - (intOf t).toNat)
 case atStart => exact ⟨1, by omega, by omega, rfl⟩
 case round =>
  obtain ⟨k, h1, h7, rfl⟩ := hrel
  by_cases hk : k = q
  ·subst hk
   rcases H.out with h | h
   ·subst h
    go_wp2
    go_ret
    exact ⟨rfl, rfl⟩
   ·have b1 : (m == k) = false := beq_eq_false_iff_ne.2 (by omega)
    have b2 : (m == 0 - k) = true := beq_iff_eq.2 (by omega)
    have b3 : (m == -k) = true := beq_iff_eq.2 (by omega)
    clear h
    go_wp2
    go_ret
    exact ⟨rfl, rfl⟩
  ·have b1 : (m == k) = false := beq_eq_false_iff_ne.2 (by have := H.out; omega)
   have b2 : (m == 0 - k) = false := beq_eq_false_iff_ne.2 (by have := H.out; omega)
   have b3 : (m == -k) = false := beq_eq_false_iff_ne.2 (by have := H.out; omega)
   have hlt : k < q := by omega
   clear hk
   go_wp2
   go_round
   case rel => exact ⟨k + 1, by omega, by omega, rfl⟩
   case measure => simp [intOf]; omega
set_option maxRecDepth 100000
theorem rkind_any (m : Int) (w : World) :
  Calls Tryz.prog 109 #[.int .i64 m] w fun e w' => e = .returned (.int .i64 (kindI m)) ∧ w = w' := by
 unfold kindI
 by_cases h : manB m = true
 ·have := (manB_iff m).1 h
  rw [if_pos h]
  by_cases h0 : 0 < m
  ·rw [if_pos h0]; exact rkind_yes m m w (.inl rfl) (by omega) this.2.2
  ·rw [if_neg h0]; exact rkind_yes m (-m) w (.inr (by omega)) (by omega) (by omega)
 ·rw [if_neg h]; exact rkind_no m w ((manB_not m).1 (by simpa using h))
theorem kindI_one (x : Int) : (kindI x == 1) = (x == 1 || x == -1) := by
 rw [Bool.eq_iff_iff]
 simp only [beq_iff_eq, Bool.or_eq_true]
 unfold kindI
 by_cases h : manB x = true
 ·rw [if_pos h]; split <;> omega
 ·rw [if_neg h]; have := (manB_not x).1 (by simpa using h); omega
theorem rright_yes' (B : List Int) (hB : Brd B) (h : ∀ i, i < 64 → okB (B.getD i 0) = true) (w : World) :
  Calls Tryz.prog 73 #[.agg (cl B).toArray] w fun e w' => e = .returned (.bool true) ∧ Kept w w' := by
 have H := Lib.hid hB
 have HK := Lib.hid h
 clear hB h
 go_enter Tryz.func73, Tryz.ntmps73
 go_wp2
 go_loop [3] (fun i => ∃ k : Nat, k ≤ 64 ∧ i = .int .i64 k) (fun i => 64 - (intOf i).toNat)
 case atStart => exact ⟨0, by omega, rfl⟩
 case round =>
  obtain ⟨k, hk, rfl⟩ := hrel
  by_cases hlt : k < 64
  ·have hc : (w.alloc (.cells (cl B).toArray 24)).cell? ⟨w.heap.size, k, none⟩ = some (.int .i8 (B.getD k 0)) := by
    rw [cell_of_row _ _ k _ _ (0, 0) (heap_alloc_new w _)]
    simpa using cl_get B k (by rw [H.out.1]; exact hlt)
   obtain ⟨hb1, hb2⟩ := H.out.2 k hlt
   have ho := HK.out k hlt
   generalize B.getD k 0 = x at *
   by_cases h0 : (x == 0) = true
   ·have h0' : (x != 0) = false := by simpa using h0
    clear h0 ho
    go_wp2
    go_round
    case rel => exact ⟨k + 1, by omega, by go_num⟩
    case measure => simp [intOf]; omega
   ·have h0' : (x != 0) = true := by simpa using h0
    have hm : manB x = true := by
     unfold okB at ho
     simpa [h0] using ho
    have hk0 : (kindI x == 0) = false := by
     have := (manB_iff x).1 hm
     rw [beq_eq_false_iff_ne]
     unfold kindI
     rw [if_pos hm]
     split <;> omega
    clear h0 ho hm
    go_wp2_with fail
    refine (rkind_any _ _).mono ?_
    rintro e w' ⟨rfl, rfl⟩
    go_wp2
    go_round
    case rel => exact ⟨k + 1, by omega, by go_num⟩
    case measure => simp [intOf]; omega
  ·go_wp2
   go_ret
   exact ⟨rfl, (Kept.refl _).alloc _⟩
theorem rright_no' (B : List Int) (hB : Brd B) (n : Nat) (hn : n < 64) (h : okB (B.getD n 0) = false) (hf : ∀ i, i < n → okB (B.getD i 0) = true) (w : World) :
  Calls Tryz.prog 73 #[.agg (cl B).toArray] w fun e w' => e = .returned (.bool false) ∧ Kept w w' := by
 have H := Lib.hid hB
 have HK := Lib.hid hf
 have HN := Lib.hid h
 clear hB h hf
 go_enter Tryz.func73, Tryz.ntmps73
 go_wp2
 go_loop [3] (fun i => ∃ k : Nat, k ≤ n ∧ i = .int .i64 k) (fun i => 64 - (intOf i).toNat)
 case atStart => exact ⟨0, by omega, rfl⟩
 case round =>
  obtain ⟨k, hk, rfl⟩ := hrel
  have hlt : k < 64 := by omega
  have hc : (w.alloc (.cells (cl B).toArray 24)).cell? ⟨w.heap.size, k, none⟩ = some (.int .i8 (B.getD k 0)) := by
   rw [cell_of_row _ _ k _ _ (0, 0) (heap_alloc_new w _)]
   simpa using cl_get B k (by rw [H.out.1]; exact hlt)
  obtain ⟨hb1, hb2⟩ := H.out.2 k hlt
  by_cases he : k = n
  ·subst he
   have ho := HN.out
   generalize B.getD k 0 = x at *
   unfold okB at ho
   rw [Bool.or_eq_false_iff] at ho
   have h0' : (x != 0) = true := by have := ho.1; simpa using this
   have hk0 : (kindI x == 0) = true := by
    rw [beq_iff_eq]
    unfold kindI
    rw [if_neg (by rw [ho.2]; decide)]
   clear ho
   go_wp2_with fail
   refine (rkind_any _ _).mono ?_
   rintro e w' ⟨rfl, rfl⟩
   go_wp2
   go_ret
   exact ⟨rfl, (Kept.refl _).alloc _⟩
  ·have ho := HK.out k (by omega)
   have hkn : k < n := by omega
   clear he
   generalize B.getD k 0 = x at *
   by_cases h0 : (x == 0) = true
   ·have h0' : (x != 0) = false := by simpa using h0
    clear h0 ho
    go_wp2
    go_round
    case rel => exact ⟨k + 1, by omega, by go_num⟩
    case measure => simp [intOf]; omega
   ·have h0' : (x != 0) = true := by simpa using h0
    have hm : manB x = true := by
     unfold okB at ho
     simpa [h0] using ho
    have hk0 : (kindI x == 0) = false := by
     have := (manB_iff x).1 hm
     rw [beq_eq_false_iff_ne]
     unfold kindI
     rw [if_pos hm]
     split <;> omega
    clear h0 ho hm
    go_wp2_with fail
    refine (rkind_any _ _).mono ?_
    rintro e w' ⟨rfl, rfl⟩
    go_wp2
    go_round
    case rel => exact ⟨k + 1, by omega, by go_num⟩
    case measure => simp [intOf]; omega
theorem rright_is (B : List Int) (hB : Brd B) (w : World) :
  Calls Tryz.prog 73 #[.agg (cl B).toArray] w fun e w' => e = .returned (.bool (rightB B)) ∧ Kept w w' := by
 rcases first_or (fun i => !okB (B.getD i 0)) 64 with h | ⟨k, hk, h1, h2⟩
 ·have h' : ∀ i, i < 64 → okB (B.getD i 0) = true := fun i hi => by simpa using h i hi
  rw [(rightB_iff B hB.1).2 h']
  exact rright_yes' B hB h' w
 ·have h1' : okB (B.getD k 0) = false := by simpa using h1
  have : rightB B = false := by
   rw [← Bool.not_eq_true, rightB_iff B hB.1]
   intro h
   rw [h k hk] at h1'
   cases h1'
  rw [this]
  exact rright_no' B hB k hk h1' (fun i hi => by simpa using h2 i hi) w
theorem nl_snoc (l : List Nat) (k : Nat) : nl (l ++ [k]) = nl l ++ [.int .i64 (k : Int)] := by simp [nl]
theorem infoInt : (Tryz.prog.info? 3).map (fun i => (i.zero, i.size, i.bytes)) = some (some (.int .i64 0), 1, 8) := by kernel_rfl
theorem owns_none (w : World) (b : Nat) (p : Nat → Bool) : Owns w b (.slice none 0 0) (sel p 0) := by
 have : sel p 0 = [] := by simp [sel]
 rw [this]; exact World.ownsRow_nil _ _ _ _
/-- What a search for squares gives. -/
def Gives (w : World) (l : List Nat) (e : Ending) (w' : World) : Prop := ∃ v, e = .returned v ∧ Owns w' w.heap.size v l ∧ Kept w w'
theorem where_step {w W wr w1 : World} {v v' : Value} {p : Nat → Bool} {k : Nat} {o : Obj} (hp : p k = true) (hW : W.heap.size = w.heap.size + 1) (hK : Kept W wr)
  (hown : Owns wr (w.heap.size + 1) v (sel p k)) (hown' : w1.ownsRow (w.heap.size + 1) 3 1 v' ((sel p k).length + 1) (nl (sel p k) ++ [.int .i64 (k : Int)])) (hg : (wr.alloc o).grownBy w1 v.ownBlock) :
  Owns w1 (w.heap.size + 1) v' (sel p (k + 1)) ∧ Kept W w1 := by
 refine ⟨?_, ?_⟩
 ·unfold Owns
  rw [sel_yes hp, nl_snoc]
  simpa using hown'
 ·exact (hK.alloc o).grownBy hg (fun g hgv => by have := (World.ownsRow.lt hown g hgv).1; omega)
set_option maxRecDepth 100000 in
theorem rwhere_is (B : List Int) (hB : Brd B) (m : Int) (w : World) :
  Calls Tryz.prog 59 #[.agg (cl B).toArray, .int .i64 m] w (Gives w (whereL B m)) := by
 have H := Lib.hid hB
 clear hB
 obtain ⟨p, hp⟩ : ∃ p : Nat → Bool, p = fun i => B.getD i 0 == m := ⟨_, rfl⟩
 have HM : Hid (whereL B m = sel p 64) := by rw [hp]; rfl
 have HP := Lib.hid hp
 clear hp
 obtain ⟨i0, hi, hz0, hz1, hz2⟩ := info_parts infoInt
 obtain ⟨W, eW⟩ : ∃ W, W = w.alloc (.cells (cl B).toArray 24) := ⟨_, rfl⟩
 have HW := Lib.hid eW
 have hsz := Lib.hid (show W.heap.size = w.heap.size + 1 by rw [eW]; simp)
 have hbl := Lib.hid (show W.heap[w.heap.size]? = some (.cells (cl B).toArray 24 (0, 0)) by rw [eW]; exact heap_alloc_new w _)
 clear eW
 go_enter Tryz.func59, Tryz.ntmps59
 go_wp2
 go_loopw [5, 6] (fun v i wr => ∃ k : Nat, k ≤ 64 ∧ i = .int .i64 k ∧ Owns wr (w.heap.size + 1) v (sel p k) ∧ Kept W wr) (fun _ i _ => 64 - (intOf i).toNat)
 case atStart => exact ⟨0, by omega, rfl, owns_none _ _ _, by rw [HW.out]; exact Kept.refl _⟩
 case round =>
  obtain ⟨k, hk, rfl, hown, hK⟩ := hrel
  have hsl := sel_le p k
  by_cases hlt : k < 64
  ·have hc : wr.cell? ⟨w.heap.size, k, none⟩ = some (.int .i8 (B.getD k 0)) := by
    rw [cell_of_row _ _ k _ _ (0, 0) (hK.heap hbl.out)]
    simpa using cl_get B k (by rw [H.out.1]; exact hlt)
   obtain ⟨hb1, hb2⟩ := H.out.2 k hlt
   obtain ⟨x, ex⟩ : ∃ x, x = B.getD k 0 := ⟨_, rfl⟩
   rw [← ex] at hc hb1 hb2
   have hq : Hid (p k = (x == m)) := by rw [ex, HP.out]; rfl
   clear ex
   by_cases h1 : (x == m) = true
   ·have HQ : Hid (p k = true) := by rw [hq.out]; exact h1
    go_wp2_with (at_builtin; refine wpList_append_own _ rfl _ _ 44 rfl (w.heap.size + 1) 3 i0 (.int .i64 0) 1 8 Tryz.underlying44 hi hz0 hz1 hz2 rfl (by decide) _ _ _ rfl (World.ownsRow.alloc hown _) ⟨wr.heap.size, 0, none⟩ 1 1 [.int .i64 (k : Int)] rfl rfl ?c1 ?c2 ?c3 ?c4 ?c5 ?_)
    case c1 =>
     intro j u hj
     match j, hj with
     | 0, hj => simp at hj; subst hj; simp [Addr.add]
    case c2 => intro u hu; simp at hu; subst hu; rfl
    case c3 => unfold maxLen; omega
    case c4 => omega
    case c5 => have := hK.size; have := hsz.out; simp; omega
    intro v' w1 hown' hgrow _
    have R := where_step HQ.out hsz.out hK hown hown' hgrow
    clear hown' hgrow hown hK hc
    go_wp2
    go_roundw
    case rel => exact ⟨k + 1, by omega, by go_num, R.1, R.2⟩
    case measure => simp [intOf]; omega
   ·have h1' : (x == m) = false := by simpa using h1
    clear h1
    have HQ : Hid (p k = false) := by rw [hq.out]; exact h1'
    go_wp2
    go_roundw
    case rel => exact ⟨k + 1, by omega, by go_num, by rw [sel_no HQ.out]; exact hown, hK⟩
    case measure => simp [intOf]; omega
  ·go_wp2
   go_ret
   refine ⟨_, rfl, ?_, ?_⟩
   ·rw [HM.out, show 64 = k by omega]; exact hown.low (by omega)
   ·refine Kept.trans ?_ hK
    rw [HW.out]; exact (Kept.refl _).alloc _
/-- How many of the kinds 1 .. j (or of the one that is asked) the document counts. -/
def term (B : List Int) (kind side : Int) (j n : Nat) : Nat :=
 if kind = 0 ∨ kind = (j : Int) then (if side = 0 then cnt (fun i => B.getD i 0 == (j : Int)) n else if side = 1 then cnt (fun i => B.getD i 0 == -(j : Int)) n else 0) else 0
def rsum (B : List Int) (kind side : Int) : Nat → Nat
 | 0 => 0
 | j + 1 => rsum B kind side j + term B kind side (j + 1) 64
theorem term_le (B : List Int) (kind side : Int) (j : Nat) : term B kind side j 64 ≤ 64 := by
 unfold term
 split
 ·split
  ·exact cnt_le _ _
  ·split
   ·exact cnt_le _ _
   ·omega
 ·omega
theorem rsum_le (B : List Int) (kind side : Int) (j : Nat) : rsum B kind side j ≤ 64 * j := by
 induction j with
 | zero => simp [rsum]
 | succ j ih => have := term_le B kind side (j + 1); simp only [rsum]; omega
theorem cnt_succ (p : Nat → Bool) (n : Nat) : cnt p (n + 1) = cnt p n + (p n).toNat := by
 cases h : p n
 ·rw [cnt_no h]; rfl
 ·rw [cnt_yes h]; rfl
theorem cnt_zero (p : Nat → Bool) : cnt p 0 = 0 := by simp [cnt, sel]
theorem term_succ (B : List Int) (kind side : Int) (j n : Nat) : term B kind side j (n + 1) = term B kind side j n + one kind side (B.getD n 0) j := by
 unfold term one
 split
 ·split
  ·rw [cnt_succ]
  ·split
   ·rw [cnt_succ]
   ·rfl
 ·rfl
theorem one_hit (kind side x : Int) : (hit kind side x).toNat = one kind side x 1 + one kind side x 2 + one kind side x 3 + one kind side x 4 + one kind side x 5 + one kind side x 6 := by
 by_cases hm : manB x = true
 ·have h := (manB_iff x).1 hm
  have hx : x = -6 ∨ x = -5 ∨ x = -4 ∨ x = -3 ∨ x = -2 ∨ x = -1 ∨ x = 1 ∨ x = 2 ∨ x = 3 ∨ x = 4 ∨ x = 5 ∨ x = 6 := by omega
  have e1 : ∀ a b : Int, (a == b) = decide (a = b) := fun a b => by by_cases h : a = b <;> simp [h]
  have e2 : ∀ a : Int, decide (a = kind) = decide (kind = a) := fun a => by simp [eq_comm]
  have e3 : ∀ a : Int, decide (a = side) = decide (side = a) := fun a => by simp [eq_comm]
  rcases hx with rfl | rfl | rfl | rfl | rfl | rfl | rfl | rfl | rfl | rfl | rfl | rfl
  all_goals
   unfold hit sideI kindI one
   simp only [hm, e1, e2, e3]
   by_cases h0 : side = 0
   ·subst h0
    by_cases k0 : kind = 0
    ·subst k0; simp
    ·simp [k0]; try (clear e1 e2 e3; split <;> simp_all)
   ·by_cases h1 : side = 1
    ·subst h1
     by_cases k0 : kind = 0
     ·subst k0; simp
     ·simp [k0]; try (clear e1 e2 e3; split <;> simp_all)
    ·simp [h0, h1]
 ·have hm' : manB x = false := by simpa using hm
  have h := (manB_not x).1 hm'
  have z : ∀ j : Nat, 1 ≤ j → j ≤ 6 → one kind side x j = 0 := by
   intro j h1 h2
   have a1 : (x == (j : Int)) = false := beq_eq_false_iff_ne.2 (by omega)
   have a2 : (x == -(j : Int)) = false := beq_eq_false_iff_ne.2 (by omega)
   unfold one
   rw [a1, a2]
   simp
  have hh : hit kind side x = false := by unfold hit; rw [hm']; rfl
  rw [hh, z 1 (by omega) (by omega), z 2 (by omega) (by omega), z 3 (by omega) (by omega), z 4 (by omega) (by omega), z 5 (by omega) (by omega), z 6 (by omega) (by omega)]
  rfl
theorem term_zero (B : List Int) (kind side : Int) (j : Nat) : term B kind side j 0 = 0 := by
 unfold term
 simp [cnt_zero]
theorem six_terms (B : List Int) (kind side : Int) (n : Nat) :
  term B kind side 1 n + term B kind side 2 n + term B kind side 3 n + term B kind side 4 n + term B kind side 5 n + term B kind side 6 n = cnt (fun i => hit kind side (B.getD i 0)) n := by
 induction n with
 | zero => simp [term_zero, cnt_zero]
 | succ n ih =>
  rw [cnt_succ, ← ih, one_hit]
  simp only [term_succ]
  omega
theorem rsum_six (B : List Int) (kind side : Int) : rsum B kind side 6 = many B kind side := by
 unfold many
 rw [← six_terms]
 simp only [rsum, Nat.reduceAdd]
 omega
theorem rmany_is (B : List Int) (hB : Brd B) (kind side : Int) (w : World) :
  Calls Tryz.prog 83 #[.agg (cl B).toArray, .int .i64 kind, .int .i64 side] w fun e w' => e = .returned (.int .i64 (many B kind side : Nat)) ∧ Kept w w' := by
 have H := Lib.hid hB
 have hz := Lib.hid (size_cl hB.1)
 clear hB
 obtain ⟨W, eW⟩ : ∃ W, W = w.alloc (.cells (cl B).toArray 24) := ⟨_, rfl⟩
 have HW := Lib.hid eW
 have hbl := Lib.hid (show W.heap[w.heap.size]? = some (.cells (cl B).toArray 24 (0, 0)) by rw [eW]; exact heap_alloc_new w _)
 clear eW
 go_enter Tryz.func83, Tryz.ntmps83
 go_wp2
 go_loopw [7, 8] (fun n i wr => ∃ k : Nat, k ≤ 6 ∧ i = .int .i64 ((k : Int) + 1) ∧ n = .int .i64 (rsum B kind side k : Nat) ∧ Kept W wr) (fun _ i _ => 7 - (intOf i).toNat)
 case atStart => exact ⟨0, by omega, rfl, rfl, by rw [HW.out]; exact Kept.refl _⟩
 case round =>
  obtain ⟨k, hk, rfl, rfl, hK⟩ := hrel
  have hr := rsum_le B kind side k
  by_cases hlt : k < 6
  ·by_cases hskip : (kind != 0) = true ∧ (kind != (k : Int) + 1) = true
   ·have HT : Hid (rsum B kind side (k + 1) = rsum B kind side k) := by
     simp only [bne_iff_ne] at hskip
     show rsum B kind side k + term B kind side (k + 1) 64 = _
     unfold term
     rw [if_neg (by omega)]
     rfl
    obtain ⟨s1, s2⟩ := hskip
    go_wp2
    go_roundw
    case rel => exact ⟨k + 1, by omega, by go_num, by rw [HT.out], hK⟩
    case measure => simp [intOf]; omega
   ·have hC : ((kind != 0) = false) ∨ ((kind != 0) = true ∧ (kind != (k : Int) + 1) = false) := by
     by_cases h : (kind != 0) = true
     ·exact .inr ⟨h, by simpa [h] using hskip⟩
     ·exact .inl (by simpa using h)
    have hT : ∀ x, term B kind side (k + 1) 64 = x → Hid (rsum B kind side (k + 1) = rsum B kind side k + x) := fun x hx => by
     rw [← hx]; exact Lib.hid rfl
    have hcond : Hid (kind = 0 ∨ kind = ((k + 1 : Nat) : Int)) := by
     rcases hC with h | ⟨_, h⟩
     ·exact .inl (by simpa using h)
     ·exact .inr (by have : kind = (k : Int) + 1 := (by simpa using h); omega)
    have HT := Lib.hid hT
    clear hT hskip
    by_cases hs0 : (side == 0) = true
    ·have hs1 : (side == 1) = false := by
      rw [beq_eq_false_iff_ne]; have := beq_iff_eq.1 hs0; omega
     have HX := HT.out (cnt (fun i => B.getD i 0 == ((k + 1 : Nat) : Int)) 64) (by
      unfold term; rw [if_pos hcond.out, if_pos (beq_iff_eq.1 hs0)])
     have hle := cnt_le (fun i => B.getD i 0 == ((k + 1 : Nat) : Int)) 64
     have hlen := Lib.hid (show (whereL B ((k : Int) + 1)).length = cnt (fun i => B.getD i 0 == ((k + 1 : Nat) : Int)) 64 from rfl)
     generalize cnt (fun i => B.getD i 0 == ((k + 1 : Nat) : Int)) 64 = c at HX hle hlen
     clear HT
     rcases hC with hC | ⟨hC, hC'⟩
     all_goals
      go_wp2_with (first | (with_reducible refine wpList_load_row rfl 24 _ rfl _ rfl _ _ _ _ (hK.heap hbl.out) Tryz.underlying24 rfl hz.out ?_))
      refine (rwhere_is B H.out ((k : Int) + 1) _).mono ?_
      rintro e w1 ⟨v, rfl, hown, hK1⟩
      obtain ⟨aa, cap, rfl⟩ := hown.slice
      rw [hlen.out]
      clear hlen hown
      go_wp2
      go_roundw
      case rel => exact ⟨k + 1, by omega, by go_num, by rw [HX.out]; go_num, hK.trans hK1⟩
      case measure => simp [intOf]; omega
    ·have hs0' : (side == 0) = false := by simpa using hs0
     by_cases hs1 : (side == 1) = true
     ·have HX := HT.out (cnt (fun i => B.getD i 0 == -((k + 1 : Nat) : Int)) 64) (by
       unfold term; rw [if_pos hcond.out, if_neg (by simpa using hs0), if_pos (beq_iff_eq.1 hs1)])
      have hle := cnt_le (fun i => B.getD i 0 == -((k + 1 : Nat) : Int)) 64
      have hlen := Lib.hid (show (whereL B (-((k : Int) + 1))).length = cnt (fun i => B.getD i 0 == -((k + 1 : Nat) : Int)) 64 from rfl)
      generalize cnt (fun i => B.getD i 0 == -((k + 1 : Nat) : Int)) 64 = c at HX hle hlen
      clear HT hs0
      rcases hC with hC | ⟨hC, hC'⟩
      all_goals
       go_wp2_with (first | (with_reducible refine wpList_load_row rfl 24 _ rfl _ rfl _ _ _ _ (hK.heap hbl.out) Tryz.underlying24 rfl hz.out ?_))
       refine (rwhere_is B H.out _ _).mono ?_
       rintro e w1 ⟨v, rfl, hown, hK1⟩
       obtain ⟨aa, cap, rfl⟩ := hown.slice
       rw [hlen.out]
       clear hlen hown
       go_wp2
       go_roundw
       case rel => exact ⟨k + 1, by omega, by go_num, by rw [HX.out]; go_num, hK.trans hK1⟩
       case measure => simp [intOf]; omega
     ·have hs1' : (side == 1) = false := by simpa using hs1
      have HX := HT.out 0 (by
       unfold term; rw [if_pos hcond.out, if_neg (by simpa using hs0), if_neg (by simpa using hs1)])
      clear HT hs0 hs1
      rcases hC with hC | ⟨hC, hC'⟩
      all_goals
       go_wp2
       go_roundw
       case rel => exact ⟨k + 1, by omega, by go_num, by rw [HX.out]; rfl, hK⟩
       case measure => simp [intOf]; omega
  ·go_wp2
   go_ret
   refine ⟨ret_int ?_, ?_⟩
   ·rw [show k = 6 by omega, rsum_six]
   ·refine Kept.trans ?_ hK
    rw [HW.out]; exact (Kept.refl _).alloc _
theorem headI_bd (B : List Int) (x : Int) : -1 ≤ headI (whereL B x) ∧ headI (whereL B x) < 64 := by
 cases h : whereL B x with
 | nil => exact ⟨by decide, by decide⟩
 | cons a t =>
  have : a ∈ whereL B x := by rw [h]; simp
  simp [whereL, sel] at this
  show -1 ≤ (a : Int) ∧ (a : Int) < 64
  omega
set_option linter.unusedSimpArgs false
theorem rmany_i (B : List Int) (hB : Brd B) (kind side : Int) (w : World) :
  Calls Tryz.prog 83 #[.agg (cl B).toArray, .int .i64 kind, .int .i64 side] w fun e w' => e = .returned (.int .i64 (manyI B kind side)) ∧ Kept w w' := rmany_is B hB kind side w
/-- Does the document find a pawn on that file's first or last square? -/
def rEdge (B : List Int) (f : Nat) : Bool := B.getD f 0 == 1 || B.getD f 0 == -1 || B.getD (56 + f) 0 == 1 || B.getD (56 + f) 0 == -1
theorem edge_low (B : List Int) (f : Nat) (h : f < 8) : edge B f = (B.getD f 0 == 1 || B.getD f 0 == -1) := by
 unfold edge
 have e : (((f : Int) / 8 == 0)) = true := by rw [beq_iff_eq]; omega
 rw [e, kindI_one]; simp
theorem edge_high (B : List Int) (f : Nat) (h : f < 8) : edge B (56 + f) = (B.getD (56 + f) 0 == 1 || B.getD (56 + f) 0 == -1) := by
 unfold edge
 have e : ((((56 + f : Nat) : Int) / 8 == 7)) = true := by rw [beq_iff_eq]; omega
 rw [e, kindI_one]; simp
theorem edge_mid (B : List Int) (i : Nat) (h0 : 8 ≤ i) (h1 : i < 56) : edge B i = false := by
 unfold edge
 have e1 : (((i : Int) / 8 == 0)) = false := by rw [beq_eq_false_iff_ne]; omega
 have e2 : (((i : Int) / 8 == 7)) = false := by rw [beq_eq_false_iff_ne]; omega
 rw [e1, e2]; simp
theorem rEdge_edge (B : List Int) (f : Nat) (h : f < 8) : rEdge B f = (edge B f || edge B (56 + f)) := by
 rw [edge_low B f h, edge_high B f h]
 unfold rEdge
 simp only [Bool.or_assoc]
theorem edgeB_false (B : List Int) (h : ∀ f, f < 8 → rEdge B f = false) : edgeB B = false := by
 unfold edgeB
 rw [List.any_eq_false]
 intro i hi
 have hi : i < 64 := by simpa using hi
 by_cases h0 : i < 8
 ·have := h i h0
  rw [rEdge_edge B i h0, Bool.or_eq_false_iff] at this
  rw [this.1]; decide
 ·by_cases h1 : i < 56
  ·rw [edge_mid B i (by omega) h1]; decide
  ·have := h (i - 56) (by omega)
   rw [rEdge_edge B _ (by omega), Bool.or_eq_false_iff, show 56 + (i - 56) = i by omega] at this
   rw [this.2]; decide
theorem edgeB_true (B : List Int) (f : Nat) (hf : f < 8) (h : rEdge B f = true) : edgeB B = true := by
 unfold edgeB
 rw [List.any_eq_true]
 rw [rEdge_edge B f hf, Bool.or_eq_true] at h
 rcases h with h | h
 ·exact ⟨f, by simp; omega, h⟩
 ·exact ⟨56 + f, by simp; omega, h⟩
theorem rwrong_is (B : List Int) (hB : Brd B) (w : World) :
  Calls Tryz.prog 41 #[.agg (cl B).toArray] w fun e w' => e = .returned (.int .i64 (wrongI B)) ∧ Kept w w' := by
 have hbl := Lib.hid (heap_alloc_new w (.cells (cl B).toArray 24))
 have hk0 := (Kept.refl w).alloc (.cells (cl B).toArray 24)
 have hz := Lib.hid (size_cl hB.1)
 have HB := Lib.hid hB
 clear hB
 by_cases h1 : rightB B = true
 ·by_cases h2 : (manyI B 6 0 != 1) = true
  ·have HW : Hid (6 = wrongI B) := by
    unfold wrongI; rw [if_neg (by rw [h1]; decide), if_pos (.inl (bne_iff_ne.1 h2))]; rfl
   go_enter Tryz.func41, Tryz.ntmps41
   go_wp2_with (refine wpList_load_w (by rfl) _ rfl _ rfl _ (hbl.out) hz.out ?_)
   refine (rright_is B HB.out _).mono ?_
   rintro e w1 ⟨rfl, g1⟩
   go_wp2_with (refine wpList_load_w (by rfl) _ rfl _ rfl _ (g1.heap hbl.out) hz.out ?_)
   refine (rwhere_is B HB.out 6 _).mono ?_
   rintro e w2 ⟨v, rfl, o2, g2⟩
   obtain ⟨aa, cap, rfl⟩ := o2.slice
   have hlen := kings_w B
   clear o2
   go_wp2
   go_ret
   exact ⟨ret_int HW.out, (hk0.trans g1).trans g2⟩
  ·have h2' : (manyI B 6 0 != 1) = false := by simpa using h2
   by_cases h3 : (manyI B 6 1 != 1) = true
   ·have HW : Hid (6 = wrongI B) := by
     unfold wrongI; rw [if_neg (by rw [h1]; decide), if_pos (.inr (bne_iff_ne.1 h3))]; rfl
    clear h2
    go_enter Tryz.func41, Tryz.ntmps41
    go_wp2_with (refine wpList_load_w (by rfl) _ rfl _ rfl _ (hbl.out) hz.out ?_)
    refine (rright_is B HB.out _).mono ?_
    rintro e w1 ⟨rfl, g1⟩
    go_wp2_with (refine wpList_load_w (by rfl) _ rfl _ rfl _ (g1.heap hbl.out) hz.out ?_)
    refine (rwhere_is B HB.out 6 _).mono ?_
    rintro e w2 ⟨v, rfl, o2, g2⟩
    obtain ⟨aa, cap, rfl⟩ := o2.slice
    have hlen := kings_w B
    clear o2
    go_wp2_with (refine wpList_load_w (by rfl) _ rfl _ rfl _ ((g1.trans g2).heap hbl.out) hz.out ?_)
    refine (rwhere_is B HB.out (-6) _).mono ?_
    rintro e w3 ⟨v, rfl, o3, g3⟩
    obtain ⟨ab, cap', rfl⟩ := o3.slice
    have hlen' := kings_b B
    clear o3
    go_wp2
    go_ret
    exact ⟨ret_int HW.out, ((hk0.trans g1).trans g2).trans g3⟩
   ·have h3' : (manyI B 6 1 != 1) = false := by simpa using h3
    have hkings : Hid (¬ (manyI B 6 0 ≠ 1 ∨ manyI B 6 1 ≠ 1)) := by
     have a1 : manyI B 6 0 = 1 := by simpa using h2'
     have a2 : manyI B 6 1 = 1 := by simpa using h3'
     show ¬ _
     omega
    clear h2 h3
    rcases first_or (rEdge B) 8 with h4 | ⟨n, hn, h4, h5⟩
    ·have h4' : edgeB B = false := edgeB_false B h4
     have H4 := Lib.hid h4
     clear h4
     go_enter Tryz.func41, Tryz.ntmps41
     go_wp2_with (refine wpList_load_w (by rfl) _ rfl _ rfl _ (hbl.out) hz.out ?_)
     refine (rright_is B HB.out _).mono ?_
     rintro e w1 ⟨rfl, g1⟩
     go_wp2_with (refine wpList_load_w (by rfl) _ rfl _ rfl _ (g1.heap hbl.out) hz.out ?_)
     refine (rwhere_is B HB.out 6 _).mono ?_
     rintro e w2 ⟨v, rfl, o2, g2⟩
     obtain ⟨aa, cap, rfl⟩ := o2.slice
     have hlen := kings_w B
     clear o2
     go_wp2_with (refine wpList_load_w (by rfl) _ rfl _ rfl _ ((g1.trans g2).heap hbl.out) hz.out ?_)
     refine (rwhere_is B HB.out (-6) _).mono ?_
     rintro e w3 ⟨v, rfl, o3, g3⟩
     obtain ⟨ab, cap', rfl⟩ := o3.slice
     have hlen' := kings_b B
     clear o3
     go_wp2
     have hbl3 := Lib.hid (((g1.trans g2).trans g3).heap hbl.out)
     have hk3 := ((hk0.trans g1).trans g2).trans g3
     clear hlen hlen' g1 g2 g3 hk0
     go_loop [3] (fun i => ∃ k : Nat, k ≤ 8 ∧ i = .int .i64 k) (fun i => 8 - (intOf i).toNat)
     case atStart => exact ⟨0, by omega, rfl⟩
     case round =>
      obtain ⟨k, hk, rfl⟩ := hrel
      by_cases hlt : k < 8
      ·have hc : w3.cell? ⟨w.heap.size, k, none⟩ = some (.int .i8 (B.getD k 0)) := by
        rw [cell_of_row _ _ k _ _ (0, 0) hbl3.out]
        simpa using cl_get B k (by rw [HB.out.1]; omega)
       have hc' : w3.cell? ⟨w.heap.size, 56 + k, none⟩ = some (.int .i8 (B.getD (56 + k) 0)) := by
        rw [cell_of_row _ _ (56 + k) _ _ (0, 0) hbl3.out]
        simpa using cl_get B (56 + k) (by rw [HB.out.1]; omega)
       have hn := H4.out k hlt
       unfold rEdge at hn
       simp only [Bool.or_eq_false_iff] at hn
       obtain ⟨⟨⟨n1, n2⟩, n3⟩, n4⟩ := hn
       have ei : ((56 : Int) + (k : Int)).toNat = 56 + k := by omega
       generalize B.getD k 0 = x at *
       generalize B.getD (56 + k) 0 = y at *
       go_wp2
       go_round
       case rel => exact ⟨k + 1, by omega, by go_num⟩
       case measure => simp [intOf]; omega
      ·clear H4
       by_cases h5 : 16 < manyI B 0 0
       ·have HW : Hid (8 = wrongI B) := by
         unfold wrongI; rw [if_neg (by rw [h1]; decide), if_neg hkings.out, if_neg (by rw [h4']; decide), if_pos (.inl h5)]; rfl
        go_wp2_with (refine wpList_load_w (by rfl) _ rfl _ rfl _ (hbl3.out) hz.out ?_)
        refine (rmany_i B HB.out 0 0 _).mono ?_
        rintro e w5 ⟨rfl, g5⟩
        go_wp2
        go_ret
        exact ⟨ret_int HW.out, hk3.trans g5⟩
       ·have h5' : decide (16 < manyI B 0 0) = false := by simpa using h5
        by_cases h6 : 16 < manyI B 0 1
        ·have HW : Hid (8 = wrongI B) := by
          unfold wrongI; rw [if_neg (by rw [h1]; decide), if_neg hkings.out, if_neg (by rw [h4']; decide), if_pos (.inr h6)]; rfl
         go_wp2_with (refine wpList_load_w (by rfl) _ rfl _ rfl _ (hbl3.out) hz.out ?_)
         refine (rmany_i B HB.out 0 0 _).mono ?_
         rintro e w5 ⟨rfl, g5⟩
         go_wp2_with (refine wpList_load_w (by rfl) _ rfl _ rfl _ (g5.heap hbl3.out) hz.out ?_)
         refine (rmany_i B HB.out 0 1 _).mono ?_
         rintro e w6 ⟨rfl, g6⟩
         go_wp2
         go_ret
         exact ⟨ret_int HW.out, (hk3.trans g5).trans g6⟩
        ·have HW : Hid (0 = wrongI B) := by
          unfold wrongI; rw [if_neg (by rw [h1]; decide), if_neg hkings.out, if_neg (by rw [h4']; decide), if_neg (by omega)]; rfl
         have h6' : decide (16 < manyI B 0 1) = false := by simpa using h6
         go_wp2_with (refine wpList_load_w (by rfl) _ rfl _ rfl _ (hbl3.out) hz.out ?_)
         refine (rmany_i B HB.out 0 0 _).mono ?_
         rintro e w5 ⟨rfl, g5⟩
         go_wp2_with (refine wpList_load_w (by rfl) _ rfl _ rfl _ (g5.heap hbl3.out) hz.out ?_)
         refine (rmany_i B HB.out 0 1 _).mono ?_
         rintro e w6 ⟨rfl, g6⟩
         go_wp2
         go_ret
         exact ⟨ret_int HW.out, (hk3.trans g5).trans g6⟩
    ·have HW : Hid (7 = wrongI B) := by
      unfold wrongI; rw [if_neg (by rw [h1]; decide), if_neg hkings.out, if_pos (edgeB_true B n hn h4)]; rfl
     have H4 := Lib.hid h4
     have H5 := Lib.hid h5
     clear h4 h5
     go_enter Tryz.func41, Tryz.ntmps41
     go_wp2_with (refine wpList_load_w (by rfl) _ rfl _ rfl _ (hbl.out) hz.out ?_)
     refine (rright_is B HB.out _).mono ?_
     rintro e w1 ⟨rfl, g1⟩
     go_wp2_with (refine wpList_load_w (by rfl) _ rfl _ rfl _ (g1.heap hbl.out) hz.out ?_)
     refine (rwhere_is B HB.out 6 _).mono ?_
     rintro e w2 ⟨v, rfl, o2, g2⟩
     obtain ⟨aa, cap, rfl⟩ := o2.slice
     have hlen := kings_w B
     clear o2
     go_wp2_with (refine wpList_load_w (by rfl) _ rfl _ rfl _ ((g1.trans g2).heap hbl.out) hz.out ?_)
     refine (rwhere_is B HB.out (-6) _).mono ?_
     rintro e w3 ⟨v, rfl, o3, g3⟩
     obtain ⟨ab, cap', rfl⟩ := o3.slice
     have hlen' := kings_b B
     clear o3
     go_wp2
     have hbl3 := Lib.hid (((g1.trans g2).trans g3).heap hbl.out)
     have hk3 := ((hk0.trans g1).trans g2).trans g3
     clear hlen hlen' g1 g2 g3 hk0
     go_loop [3] (fun i => ∃ k : Nat, k ≤ n ∧ i = .int .i64 k) (fun i => 8 - (intOf i).toNat)
     case atStart => exact ⟨0, by omega, rfl⟩
     case round =>
      obtain ⟨k, hk, rfl⟩ := hrel
      have hlt : k < 8 := by omega
      have hc : w3.cell? ⟨w.heap.size, k, none⟩ = some (.int .i8 (B.getD k 0)) := by
       rw [cell_of_row _ _ k _ _ (0, 0) hbl3.out]
       simpa using cl_get B k (by rw [HB.out.1]; omega)
      have hc' : w3.cell? ⟨w.heap.size, 56 + k, none⟩ = some (.int .i8 (B.getD (56 + k) 0)) := by
       rw [cell_of_row _ _ (56 + k) _ _ (0, 0) hbl3.out]
       simpa using cl_get B (56 + k) (by rw [HB.out.1]; omega)
      have ei : ((56 : Int) + (k : Int)).toNat = 56 + k := by omega
      by_cases he : k = n
      ·subst he
       have hn := H4.out
       unfold rEdge at hn
       generalize B.getD k 0 = x at *
       generalize B.getD (56 + k) 0 = y at *
       by_cases n1 : (x == 1) = true
       ·clear hn
        go_wp2
        go_ret
        exact ⟨ret_int HW.out, hk3⟩
       ·have n1' : (x == 1) = false := by simpa using n1
        by_cases n2 : (x == -1) = true
        ·clear hn n1
         go_wp2
         go_ret
         exact ⟨ret_int HW.out, hk3⟩
        ·have n2' : (x == -1) = false := by simpa using n2
         by_cases n3 : (y == 1) = true
         ·clear hn n1 n2
          go_wp2
          go_ret
          exact ⟨ret_int HW.out, hk3⟩
         ·have n3' : (y == 1) = false := by simpa using n3
          rw [n1', n2', n3'] at hn
          have n4 : (y == -1) = true := by simpa using hn
          clear hn n1 n2 n3
          go_wp2
          go_ret
          exact ⟨ret_int HW.out, hk3⟩
      ·have hn := H5.out k (by omega)
       have hkn : k < n := by omega
       clear he
       unfold rEdge at hn
       simp only [Bool.or_eq_false_iff] at hn
       obtain ⟨⟨⟨n1, n2⟩, n3⟩, n4⟩ := hn
       generalize B.getD k 0 = x at *
       generalize B.getD (56 + k) 0 = y at *
       go_wp2
       go_round
       case rel => exact ⟨k + 1, by omega, by go_num⟩
       case measure => simp [intOf]; omega
 ·have h1' : rightB B = false := by simpa using h1
  clear h1
  have HW : Hid (5 = wrongI B) := by
   unfold wrongI; rw [if_pos h1']; rfl
  go_enter Tryz.func41, Tryz.ntmps41
  go_wp2_with (refine wpList_load_w (by rfl) _ rfl _ rfl _ (hbl.out) hz.out ?_)
  refine (rright_is B HB.out _).mono ?_
  rintro e w1 ⟨rfl, g1⟩
  go_wp2
  go_ret
  exact ⟨ret_int HW.out, hk0.trans g1⟩
end Go.Proofs.YtfekipadkenhpaaGreatDoor
namespace Go.Proofs.YtfekipadkenhpaaGreatDoor
set_option linter.unusedVariables false
set_option linter.unusedSimpArgs false
theorem rayN_mem : ∀ (n : Nat) (s f r x : Int), x ∈ rayN n s f r → 0 ≤ x ∧ x < 64
 | 0, _, _, _, x => by simp [rayN]
 | n + 1, s, f, r, x => by
  unfold rayN
  split
  ·simp
  ·next h =>
   intro hx
   rcases List.mem_cons.1 hx with rfl | hx
   ·rcases stI_cases s f r with ⟨_, _, _, _, _, _, e⟩ | ⟨e, _⟩ <;> omega
   ·exact rayN_mem n _ _ _ x hx
theorem rayL_mem {s f r x : Int} (h : x ∈ rayL s f r) : 0 ≤ x ∧ x < 64 := by
 unfold rayL at h
 split at h
 ·simp at h
 ·exact rayN_mem _ _ _ _ _ h
theorem rayL_none (s : Int) : rayL s 0 0 = [] := by unfold rayL; rw [if_pos ⟨rfl, rfl⟩]
theorem alongL_mem {way : Nat} {s x : Int} (h : x ∈ alongL way s) : 0 ≤ x ∧ x < 64 := by
 unfold alongL at h
 split at h
 ·exact rayL_mem (List.mem_of_mem_take h)
 ·exact rayL_mem h
/-- The document's steps of a man. -/
def stepsL (m : Int) : List (Int × Int) :=
 if knd m = 1 then [(1, m), (-1, m)]
 else if knd m = 2 then [(1, 2), (2, 1), (2, -1), (1, -2), (-1, -2), (-2, -1), (-2, 1), (-1, 2)]
 else if knd m = 3 then [(1, 1), (1, -1), (-1, -1), (-1, 1)]
 else if knd m = 4 then [(0, 1), (1, 0), (0, -1), (-1, 0)]
 else if knd m = 0 then [] else [(0, 1), (1, 0), (0, -1), (-1, 0), (1, 1), (1, -1), (-1, -1), (-1, 1)]
def ofR (m s : Int) (P : List (Int × Int)) : List (List Int) := P.flatMap fun p => oneL (cutL m (rayL s p.1 p.2))
theorem ways_steps (m : Int) (h1 : -6 ≤ m) (h2 : m ≤ 6) : ((List.range 16).filter (goesB m)).map (fun w => (wayF w, wayR w)) = stepsL m ∧ ((List.range 16).filter (goesB m)).all (fun w => decide (w < 8) || !slidesB m) = true := by
 have : m = -6 ∨ m = -5 ∨ m = -4 ∨ m = -3 ∨ m = -2 ∨ m = -1 ∨ m = 0 ∨ m = 1 ∨ m = 2 ∨ m = 3 ∨ m = 4 ∨ m = 5 ∨ m = 6 := by omega
 rcases this with rfl | rfl | rfl | rfl | rfl | rfl | rfl | rfl | rfl | rfl | rfl | rfl | rfl <;> decide +kernel
theorem stepsL_none {m : Int} (h : m < -6 ∨ m = 0 ∨ 6 < m) : stepsL m = [] := by unfold stepsL; rw [knd_none h]; simp
theorem goesB_none {m : Int} (h : m < -6 ∨ m = 0 ∨ 6 < m) (w : Nat) : goesB m w = false := by unfold goesB; rw [knd_none h]; simp
theorem ofR_is (m s : Int) : ofR m s (stepsL m) = ofL m s := by
 by_cases h : -6 ≤ m ∧ m ≤ 6
 ·obtain ⟨e1, e2⟩ := ways_steps m h.1 h.2
  unfold ofR ofL ofN
  rw [← e1, List.flatMap_map]
  generalize (List.range 16).filter (goesB m) = L at *
  clear e1
  induction L with
  | nil => rfl
  | cons w L ih =>
   rw [List.flatMap_cons, List.flatMap_cons]
   simp only [List.all_cons, Bool.and_eq_true] at e2
   rw [ih e2.2]
   congr 2
   unfold alongL
   split
   ·next h8 =>
    have : slidesB m = false := by
     have := e2.1
     simp at this
     rcases this with h | h
     ·omega
     ·exact h
    unfold cutL
    simp [this, List.take_take]
   ·rfl
 ·have h' : m < -6 ∨ m = 0 ∨ 6 < m := by omega
  rw [stepsL_none h']
  unfold ofL ofN
  rw [List.filter_eq_nil_iff.2 (fun w _ => by rw [goesB_none h']; simp)]
  rfl
end Go.Proofs.YtfekipadkenhpaaGreatDoor
namespace Go.Proofs.YtfekipadkenhpaaGreatDoor
open Go.RowKit
set_option linter.unusedVariables false
set_option linter.unusedSimpArgs false
/-- How long a slice is. -/
def slen : Value → Nat
 | .slice _ n _ => n
 | _ => 0
theorem rstep_neg (s f r : Int) (w : World) (h : (s < 0 ∨ 64 ≤ s) ∨ (0 ≤ s ∧ s < 64 ∧ (s % 8 + f < 0 ∨ 8 ≤ s % 8 + f ∨ s / 8 + r < 0 ∨ 8 ≤ s / 8 + r))) :
  Calls Tryz.prog 156 #[.int .i64 s, .int .i64 f, .int .i64 r] w fun e w' => e = .returned (.int .i64 (-1)) ∧ w = w' := by
 rcases h with h | ⟨a, b, h⟩
 ·exact rstep_off s f r w h
 ·exact rstep_no s f r w a b h
theorem rstep_any (s f r : Int) (w : World) :
  Calls Tryz.prog 156 #[.int .i64 s, .int .i64 f, .int .i64 r] w fun e w' => (∃ t, e = .returned (.int .i64 t) ∧ ((0 ≤ t ∧ 0 ≤ s ∧ s < 64 ∧ 0 ≤ s % 8 + f ∧ s % 8 + f < 8 ∧ 0 ≤ s / 8 + r ∧ s / 8 + r < 8 ∧ t = (s / 8 + r) * 8 + (s % 8 + f)) ∨ (t < 0 ∧ stI s f r = -1))) ∧ w = w' := by
 rcases stI_cases s f r with ⟨a, b, c, d, e, g, _⟩ | ⟨hs, h⟩
 ·exact (rstep_yes s f r w a b c d e g).mono fun _ _ ⟨h1, h2⟩ => ⟨⟨_, h1, .inl ⟨by omega, a, b, c, d, e, g, rfl⟩⟩, h2⟩
 ·exact (rstep_neg s f r w h).mono fun _ _ ⟨h1, h2⟩ => ⟨⟨_, h1, .inr ⟨by omega, hs⟩⟩, h2⟩
theorem rayMid_first {s f r t : Int} (h0 : ¬ (f = 0 ∧ r = 0)) (h : (0 ≤ t ∧ 0 ≤ s ∧ s < 64 ∧ 0 ≤ s % 8 + f ∧ s % 8 + f < 8 ∧ 0 ≤ s / 8 + r ∧ s / 8 + r < 8 ∧ t = (s / 8 + r) * 8 + (s % 8 + f)) ∨ (t < 0 ∧ stI s f r = -1)) : RayMid s f r [] t (decide (0 ≤ t)) := by
 rcases h with ⟨h, h'⟩ | ⟨h, h'⟩
 ·rw [decide_eq_true h]; exact RayMid.first h0 (.inl ⟨rfl, h'⟩)
 ·rw [decide_eq_false (by omega)]; exact RayMid.first h0 (.inr ⟨rfl, h'⟩)
theorem rayMid_next {s f r t u : Int} {l : List Int} (hm : RayMid s f r l t true) (h0 : ¬ (f = 0 ∧ r = 0)) (h : (0 ≤ u ∧ 0 ≤ t ∧ t < 64 ∧ 0 ≤ t % 8 + f ∧ t % 8 + f < 8 ∧ 0 ≤ t / 8 + r ∧ t / 8 + r < 8 ∧ u = (t / 8 + r) * 8 + (t % 8 + f)) ∨ (u < 0 ∧ stI t f r = -1)) : RayMid s f r (l ++ [t]) u (decide (0 ≤ u)) := by
 rcases h with ⟨h, h'⟩ | ⟨h, h'⟩
 ·rw [decide_eq_true h]; exact hm.next h0 (.inl ⟨rfl, h'⟩)
 ·rw [decide_eq_false (by omega)]; exact hm.next h0 (.inr ⟨rfl, h'⟩)
set_option maxHeartbeats 1000000 in
theorem rray_is (s f r : Int) (w : World) :
  Calls Tryz.prog 132 #[.int .i64 s, .int .i64 f, .int .i64 r] w (NewZ w (rayL s f r)) := by
 by_cases h0 : f = 0 ∧ r = 0
 ·obtain ⟨rfl, rfl⟩ := h0
  go_enter Tryz.func132, Tryz.ntmps132
  go_wp2
  go_ret
  exact ⟨_, rfl, by rw [rayL_none]; exact OwnZ.nil _ _, Kept.refl _⟩
 ·have H0 := Lib.hid h0
  have HP := Lib.hid (rstep_any · f r ·)
  have hb : (f == 0) = false ∨ ((f == 0) = true ∧ (r == 0) = false) := by
   by_cases hf : f = 0
   ·right; refine ⟨by simpa using hf, ?_⟩; rw [beq_eq_false_iff_ne]; exact fun hr => h0 ⟨hf, hr⟩
   ·left; simpa using hf
  clear h0
  rcases hb with hb | ⟨hb, hb2⟩
  all_goals
   go_enter Tryz.func132, Tryz.ntmps132
   go_wp2_with fail
   refine (HP.out _ _).mono ?_
   rintro e w' ⟨⟨t, rfl, ht⟩, rfl⟩
   have HT := Lib.hid (rayMid_first H0.out ht)
   clear ht
   go_wp2
   go_loopw [7, 8] (fun t7 t8 wr => ∃ l t, t8 = .int .i64 t ∧ RayMid s f r l t (decide (0 ≤ t)) ∧ OwnZ wr w.heap.size t7 l ∧ Kept w wr) (fun t7 _ _ => 8 - slen t7)
   case atStart => exact ⟨[], t, rfl, HT.out, OwnZ.nil _ _, Kept.refl _⟩
   case round =>
    obtain ⟨l, t, rfl, hm, hown, hK⟩ := hrel
    obtain ⟨a, cap, rfl⟩ := hown.slice
    have HM := Lib.hid hm
    have HO := Lib.hid hown
    have HK := Lib.hid hK
    clear hm hown hK HT
    by_cases ht : 0 ≤ t
    ·rw [decide_eq_true ht] at HM
     obtain ⟨t0, t1, hlen⟩ := HM.out.far H0.out
     have HA := Lib.hid (HK.out.alloc (.cells #[.int .i64 t] 3))
     go_wp2_with (at_builtin; refine wpList_append_z rfl _ _ rfl w.heap.size wr.heap.size _ _ l [t] rfl rfl (HO.out.kept ((Kept.refl _).alloc _)) (LsZ.lit _ [t] (by simp)) ?c1 ?c2 ?_)
     case c1 => simp; omega
     case c2 => exact HA.out.size
     intro v' w1 hown' hg
     have hK1 := (HO.out.kept ((Kept.refl _).alloc (.cells #[.int .i64 t] 3))).grown HA.out (Nat.le_refl _) hg
     obtain ⟨a', cap', rfl⟩ := hown'.slice
     have HO1 := Lib.hid hown'
     have HK1 := Lib.hid hK1
     clear hown' hK1 hg
     generalize hn : (l ++ [t]).length = n at *
     have HN := Lib.hid hn
     clear hn
     go_wp2_with fail
     refine (HP.out _ _).mono ?_
     rintro e w' ⟨⟨u, rfl, hu⟩, rfl⟩
     have HU := Lib.hid (rayMid_next HM.out H0.out hu)
     clear hu
     go_wp2
     go_roundw
     case rel => exact ⟨l ++ [t], u, rfl, HU.out, HO1.out, HK1.out⟩
     case measure => have := HN.out; simp [slen] at this ⊢; omega
    ·rw [decide_eq_false ht] at HM
     have ht' : t < 0 := by omega
     go_wp2
     go_ret
     exact ⟨_, rfl, by rw [HM.out.done]; exact HO.out, HK.out⟩
theorem rknd_any (m : Int) (w : World) : Calls Tryz.prog 109 #[.int .i64 m] w fun e w' => e = .returned (.int .i64 (knd m)) ∧ w = w' := by
 by_cases h : m < -6 ∨ m = 0 ∨ 6 < m
 ·rw [knd_none h]; exact rkind_no m w h
 ·have e : knd m = if m < 0 then -m else m := by unfold knd; rw [if_neg h]
  rw [e]
  split
  ·exact rkind_yes m (-m) w (by omega) (by omega) (by omega)
  ·exact rkind_yes m m w (by omega) (by omega) (by omega)
theorem rslides_is (m : Int) (w : World) : Calls Tryz.prog 133 #[.int .i64 m] w fun e w' => e = .returned (.bool (slidesB m)) ∧ w = w' := by
 have HK := Lib.hid (rknd_any m)
 unfold slidesB
 have hq := knd_is m
 generalize knd m = q at *
 rcases hq with rfl | rfl | rfl | rfl | rfl | rfl | rfl
 all_goals
  go_enter Tryz.func133, Tryz.ntmps133
  go_wp2_with fail
  refine (HK.out _).mono ?_
  rintro e w' ⟨rfl, rfl⟩
  go_wp2
  go_ret
  exact ⟨rfl, rfl⟩
end Go.Proofs.YtfekipadkenhpaaGreatDoor
namespace Go.Proofs.YtfekipadkenhpaaGreatDoor
set_option linter.unusedVariables false
set_option linter.unusedSimpArgs false
def byN (B : List Int) (s side : Int) : List Nat := sel (fun n => (sideI (B.getD n 0) == side) && hitB B (n : Int) s) 64
theorem sort_outW (B : List Int) (s side : Int) (h0 : 0 ≤ s) (h1 : s < 64) : ((outW B s side).mergeSort fun x y => decide (x ≤ y)) = zn (byN B s side) := by
 unfold byN
 refine sort_sel _ _ (told_nodup _ B s h0 h1 _ fun c hc hp => ?_) fun x => ?_
 ·obtain ⟨hw, i, hi, h8, _⟩ := (mem_tell (side := side) h0 h1).1 (List.mem_filter.2 ⟨hc, hp⟩)
  omega
 ·rw [mem_outW B s side x h0 h1]
  constructor
  ·rintro ⟨a, b, hsd, h⟩
   obtain ⟨n, rfl⟩ := Int.eq_ofNat_of_zero_le a
   refine ⟨n, by omega, rfl, ?_⟩
   rw [Bool.and_eq_true, beq_iff_eq]
   exact ⟨hsd, (hitB_iff B _ s).2 h⟩
  ·rintro ⟨n, hn, rfl, h⟩
   rw [Bool.and_eq_true, beq_iff_eq] at h
   exact ⟨by omega, by omega, h.1, (hitB_iff B _ s).1 h.2⟩
end Go.Proofs.YtfekipadkenhpaaGreatDoor
namespace Go.Proofs.YtfekipadkenhpaaGreatDoor
open Go.RowKit
set_option linter.unusedVariables false
set_option linter.unusedSimpArgs false
theorem infoRow : (Tryz.prog.info? 44).map (fun i => (i.zero, i.size, i.bytes)) = some (some (.slice none 0 0), 1, 24) := by kernel_rfl
/-- New rays are told. -/
def NewR (e : TypeId) (w : World) (L : List (List Int)) (E : Ending) (w' : World) : Prop := ∃ v, E = .returned v ∧ RowsZ e w' w.heap.size v L ∧ Kept w w'
theorem run_head (gA off N cap m : Nat) (h : m ≤ cap) (w : World) :
  (Instr.sliceAt 44 (.slice (some ⟨gA, off, none⟩) N cap) none (some (.int .i64 (m : Int))) none).run Tryz.prog w = .ok (.slice (some ⟨gA, off, none⟩) m cap) w := by
 obtain ⟨i0, hi0, hz0, hz1, hz2⟩ := partsZ infoZ
 have ht := Tryz.underlying44
 have he : Tryz.prog.elem 44 = 3 := by kernel_rfl
 rw [run_sliceAt_slice w _ _ _ _ _ (by rw [he]; exact ht), run_slice_h w _ _ _ _ (by rw [he]; exact ht) _ _ (by omega) (by omega), he]
 simp [sizeOf, typeInfo, hi0, hz1, sliced, Addr.add]
/-- The document's steps, as numbers. -/
def stZ (m : Int) : List Int := (stepsL m).flatMap fun p => [p.1, p.2]
theorem flat_len : ∀ P : List (Int × Int), (P.flatMap fun p => [p.1, p.2]).length = 2 * P.length
 | [] => rfl
 | p :: P => by rw [List.flatMap_cons, List.length_append, flat_len P, List.length_cons]; simp; omega
theorem flat_at : ∀ (P : List (Int × Int)) (j : Nat) (p : Int × Int), P[j]? = some p → (P.flatMap fun p => [p.1, p.2])[2 * j]? = some p.1 ∧ (P.flatMap fun p => [p.1, p.2])[2 * j + 1]? = some p.2
 | [], j, p, h => by simp at h
 | q :: P, 0, p, h => by simp at h; subst h; simp
 | q :: P, j + 1, p, h => by
  rw [List.getElem?_cons_succ] at h
  have := flat_at P j p h
  rw [List.flatMap_cons]
  rw [show 2 * (j + 1) = 2 * j + 2 by omega, show 2 * j + 2 + 1 = (2 * j + 1) + 2 by omega]
  simpa using this
theorem stZ_len (m : Int) : (stZ m).length = 2 * (stepsL m).length := flat_len _
theorem stepsL_len (m : Int) : (stepsL m).length ≤ 8 := by
 unfold stepsL
 repeat' split
 all_goals simp
def straightZ : List Int := [0, 1, 1, 0, 0, -1, -1, 0]
def slantZ : List Int := [1, 1, 1, -1, -1, -1, -1, 1]
set_option maxHeartbeats 1000000 in
theorem rsteps_is (m : Int) (w : World) : Calls Tryz.prog 131 #[.int .i64 m] w (NewZ w (stZ m)) := by
 have hk := Lib.hid (rknd_any m)
 have hq := knd_is m
 have hp := @knd_pawn m
 have e : stZ m = (if knd m = 1 then [1, m, -1, m] else if knd m = 2 then [1, 2, 2, 1, 2, -1, 1, -2, -1, -2, -2, -1, -2, 1, -1, 2] else if knd m = 3 then slantZ else if knd m = 4 then straightZ else if knd m = 0 then [] else straightZ ++ slantZ) := by
  unfold stZ stepsL
  repeat' split
  all_goals first | rfl | simp_all
 generalize stZ m = Z at *
 generalize knd m = q at *
 have H1 := Lib.hid (LsZ.lit w straightZ (by decide))
 have H2 := Lib.hid (LsZ.lit (w.alloc (.cells (zl straightZ).toArray 3)) slantZ (by decide))
 obtain ⟨W, eW⟩ : ∃ W, W = (w.alloc (.cells (zl straightZ).toArray 3)).alloc (.cells (zl slantZ).toArray 3) := ⟨_, rfl⟩
 have HW : Hid (W = (w.alloc (.cells #[.int .i64 0, .int .i64 1, .int .i64 1, .int .i64 0, .int .i64 0, .int .i64 (-1), .int .i64 (-1), .int .i64 0] 3)).alloc (.cells #[.int .i64 1, .int .i64 1, .int .i64 1, .int .i64 (-1), .int .i64 (-1), .int .i64 (-1), .int .i64 (-1), .int .i64 1] 3)) := Lib.hid eW
 have HK := Lib.hid (show Kept w W by rw [eW]; exact ((Kept.refl w).alloc _).alloc _)
 have HA := Lib.hid (show LsZ W w.heap.size (.slice (some ⟨w.heap.size, 0, none⟩) 8 8) straightZ by rw [eW]; exact H1.out.kept ((Kept.refl _).alloc _))
 have HB := Lib.hid (show LsZ W (w.heap.size + 1) (.slice (some ⟨w.heap.size + 1, 0, none⟩) 8 8) slantZ by rw [eW]; have := H2.out; simpa [slantZ] using this)
 clear eW H1 H2
 rcases hq with rfl | rfl | rfl | rfl | rfl | rfl | rfl
 ·have HE := Lib.hid (show Z = [] from e)
  clear e hp
  go_enter Tryz.func131, Tryz.ntmps131
  go_wp2_with fail
  refine (hk.out _).mono ?_
  rintro e w' ⟨rfl, rfl⟩
  rw [← HW.out]
  go_wp2
  go_ret
  exact ⟨_, rfl, by rw [HE.out]; exact OwnZ.nil _ _, HK.out⟩
 ·have hk1 : (.cells #[.int .i64 1, .int .i64 m, .int .i64 (-1), .int .i64 m] 3 : Obj) = .cells (zl [1, m, -1, m]).toArray 3 := rfl
  have KK1 := (Kept.refl W).alloc (.cells (zl [1, m, -1, m]).toArray 3)
  clear hk1
  have HE := Lib.hid (show Z = [1, m, -1, m] from e)
  clear e hp
  go_enter Tryz.func131, Tryz.ntmps131
  go_wp2_with fail
  refine (hk.out _).mono ?_
  rintro e w' ⟨rfl, rfl⟩
  rw [← HW.out]
  go_wp2_with (at_builtin; refine wpList_append_z rfl _ _ rfl w.heap.size W.heap.size _ _ [] [1, m, -1, m] rfl rfl (OwnZ.nil _ _) (LsZ.lit _ [1, m, -1, m] (by simp)) ?c1 ?d1 ?_)
  case c1 => simp
  case d1 => (try simp); have := HK.out.size; omega
  intro v1 w1 hown1 hg1
  have K1 := (OwnZ.nil _ W.heap.size).grown (a := W) KK1 (Nat.le_refl _) hg1
  replace hown1 : OwnZ w1 w.heap.size v1 [1, m, -1, m] := hown1
  obtain ⟨a1, cap1, rfl⟩ := hown1.slice
  have HO1 := Lib.hid hown1
  have HK1 := Lib.hid K1
  clear hown1 hg1 K1
  go_wp2
  go_ret
  exact ⟨_, rfl, by rw [HE.out]; exact HO1.out, HK.out.trans HK1.out⟩
 ·have KK1 := (Kept.refl W).alloc (.cells (zl [1, 2, 2, 1, 2, -1, 1, -2]).toArray 3)
  have HE := Lib.hid (show Z = [1, 2, 2, 1, 2, -1, 1, -2, -1, -2, -2, -1, -2, 1, -1, 2] from e)
  clear e hp
  go_enter Tryz.func131, Tryz.ntmps131
  go_wp2_with fail
  refine (hk.out _).mono ?_
  rintro e w' ⟨rfl, rfl⟩
  rw [← HW.out]
  go_wp2_with (at_builtin; refine wpList_append_z rfl _ _ rfl w.heap.size W.heap.size _ _ [] [1, 2, 2, 1, 2, -1, 1, -2] rfl rfl (OwnZ.nil _ _) (LsZ.lit _ [1, 2, 2, 1, 2, -1, 1, -2] (by simp)) ?c1 ?d1 ?_)
  case c1 => decide
  case d1 => (try simp); have := HK.out.size; omega
  intro v1 w1 hown1 hg1
  have K1 := (OwnZ.nil _ W.heap.size).grown (a := W) KK1 (Nat.le_refl _) hg1
  replace hown1 : OwnZ w1 w.heap.size v1 [1, 2, 2, 1, 2, -1, 1, -2] := hown1
  obtain ⟨a1, cap1, rfl⟩ := hown1.slice
  have HO1 := Lib.hid hown1
  have HK1 := Lib.hid K1
  clear hown1 hg1 K1
  have HA1 := Lib.hid (HO1.out.kept ((Kept.refl _).alloc (.cells (zl [-1, -2, -2, -1, -2, 1, -1, 2]).toArray 3)))
  have KK2 := HK1.out.alloc (.cells (zl [-1, -2, -2, -1, -2, 1, -1, 2]).toArray 3)
  go_wp2_with (at_builtin; refine wpList_append_z rfl _ _ rfl w.heap.size w1.heap.size _ _ [1, 2, 2, 1, 2, -1, 1, -2] [-1, -2, -2, -1, -2, 1, -1, 2] rfl rfl HA1.out (LsZ.lit _ [-1, -2, -2, -1, -2, 1, -1, 2] (by simp)) ?c2 ?d2 ?_)
  case c2 => decide
  case d2 => (try simp); have := HK.out.size; have := HK1.out.size; omega
  intro v2 w2 hown2 hg2
  have K2 := HA1.out.grown (a := w) (HK.out.trans KK2) (Nat.le_refl _) hg2
  obtain ⟨a2, cap2, rfl⟩ := hown2.slice
  have HO2 := Lib.hid hown2
  have HK2 := Lib.hid K2
  clear hown2 hg2 K2
  go_wp2
  go_ret
  exact ⟨_, rfl, by rw [HE.out]; exact HO2.out, HK2.out⟩
 ·have KK1 := Kept.refl W
  have HE := Lib.hid (show Z = slantZ from e)
  clear e hp
  go_enter Tryz.func131, Tryz.ntmps131
  go_wp2_with fail
  refine (hk.out _).mono ?_
  rintro e w' ⟨rfl, rfl⟩
  rw [← HW.out]
  go_wp2_with (at_builtin; refine wpList_append_z rfl _ _ rfl w.heap.size (w.heap.size + 1) _ _ [] slantZ rfl rfl (OwnZ.nil _ _) HB.out ?c1 ?d1 ?_)
  case c1 => decide
  case d1 => (try simp); have := HK.out.size; omega
  intro v1 w1 hown1 hg1
  have K1 := (OwnZ.nil _ W.heap.size).grown (a := W) KK1 (Nat.le_refl _) hg1
  replace hown1 : OwnZ w1 w.heap.size v1 slantZ := hown1
  obtain ⟨a1, cap1, rfl⟩ := hown1.slice
  have HO1 := Lib.hid hown1
  have HK1 := Lib.hid K1
  clear hown1 hg1 K1
  go_wp2
  go_ret
  exact ⟨_, rfl, by rw [HE.out]; exact HO1.out, HK.out.trans HK1.out⟩
 ·have KK1 := Kept.refl W
  have HE := Lib.hid (show Z = straightZ from e)
  clear e hp
  go_enter Tryz.func131, Tryz.ntmps131
  go_wp2_with fail
  refine (hk.out _).mono ?_
  rintro e w' ⟨rfl, rfl⟩
  rw [← HW.out]
  go_wp2_with (at_builtin; refine wpList_append_z rfl _ _ rfl w.heap.size w.heap.size _ _ [] straightZ rfl rfl (OwnZ.nil _ _) HA.out ?c1 ?d1 ?_)
  case c1 => decide
  case d1 => (try simp); have := HK.out.size; omega
  intro v1 w1 hown1 hg1
  have K1 := (OwnZ.nil _ W.heap.size).grown (a := W) KK1 (Nat.le_refl _) hg1
  replace hown1 : OwnZ w1 w.heap.size v1 straightZ := hown1
  obtain ⟨a1, cap1, rfl⟩ := hown1.slice
  have HO1 := Lib.hid hown1
  have HK1 := Lib.hid K1
  clear hown1 hg1 K1
  go_wp2
  go_ret
  exact ⟨_, rfl, by rw [HE.out]; exact HO1.out, HK.out.trans HK1.out⟩
 ·have KK1 := Kept.refl W
  have HE := Lib.hid (show Z = straightZ ++ slantZ from e)
  clear e hp
  go_enter Tryz.func131, Tryz.ntmps131
  go_wp2_with fail
  refine (hk.out _).mono ?_
  rintro e w' ⟨rfl, rfl⟩
  rw [← HW.out]
  go_wp2_with (at_builtin; refine wpList_append_z rfl _ _ rfl w.heap.size w.heap.size _ _ [] straightZ rfl rfl (OwnZ.nil _ _) HA.out ?c1 ?d1 ?_)
  case c1 => decide
  case d1 => (try simp); have := HK.out.size; omega
  intro v1 w1 hown1 hg1
  have K1 := (OwnZ.nil _ W.heap.size).grown (a := W) KK1 (Nat.le_refl _) hg1
  replace hown1 : OwnZ w1 w.heap.size v1 straightZ := hown1
  obtain ⟨a1, cap1, rfl⟩ := hown1.slice
  have HO1 := Lib.hid hown1
  have HK1 := Lib.hid K1
  clear hown1 hg1 K1
  have HB1 := Lib.hid (HB.out.kept HK1.out)
  go_wp2_with (at_builtin; refine wpList_append_z rfl _ _ rfl w.heap.size (w.heap.size + 1) _ _ straightZ slantZ rfl rfl HO1.out HB1.out ?c2 ?d2 ?_)
  case c2 => decide
  case d2 => have := HK.out.size; have := HK1.out.size; omega
  intro v2 w2 hown2 hg2
  have K2 := HO1.out.grown (a := w) (HK.out.trans HK1.out) (Nat.le_refl _) hg2
  obtain ⟨a2, cap2, rfl⟩ := hown2.slice
  have HO2 := Lib.hid hown2
  have HK2 := Lib.hid K2
  clear hown2 hg2 K2
  go_wp2
  go_ret
  exact ⟨_, rfl, by rw [HE.out]; exact HO2.out, HK2.out⟩
 ·have KK1 := Kept.refl W
  have HE := Lib.hid (show Z = straightZ ++ slantZ from e)
  clear e hp
  go_enter Tryz.func131, Tryz.ntmps131
  go_wp2_with fail
  refine (hk.out _).mono ?_
  rintro e w' ⟨rfl, rfl⟩
  rw [← HW.out]
  go_wp2_with (at_builtin; refine wpList_append_z rfl _ _ rfl w.heap.size w.heap.size _ _ [] straightZ rfl rfl (OwnZ.nil _ _) HA.out ?c1 ?d1 ?_)
  case c1 => decide
  case d1 => (try simp); have := HK.out.size; omega
  intro v1 w1 hown1 hg1
  have K1 := (OwnZ.nil _ W.heap.size).grown (a := W) KK1 (Nat.le_refl _) hg1
  replace hown1 : OwnZ w1 w.heap.size v1 straightZ := hown1
  obtain ⟨a1, cap1, rfl⟩ := hown1.slice
  have HO1 := Lib.hid hown1
  have HK1 := Lib.hid K1
  clear hown1 hg1 K1
  have HB1 := Lib.hid (HB.out.kept HK1.out)
  go_wp2_with (at_builtin; refine wpList_append_z rfl _ _ rfl w.heap.size (w.heap.size + 1) _ _ straightZ slantZ rfl rfl HO1.out HB1.out ?c2 ?d2 ?_)
  case c2 => decide
  case d2 => have := HK.out.size; have := HK1.out.size; omega
  intro v2 w2 hown2 hg2
  have K2 := HO1.out.grown (a := w) (HK.out.trans HK1.out) (Nat.le_refl _) hg2
  obtain ⟨a2, cap2, rfl⟩ := hown2.slice
  have HO2 := Lib.hid hown2
  have HK2 := Lib.hid K2
  clear hown2 hg2 K2
  go_wp2
  go_ret
  exact ⟨_, rfl, by rw [HE.out]; exact HO2.out, HK2.out⟩
theorem ofR_snoc (m s : Int) (P : List (Int × Int)) (p : Int × Int) : ofR m s (P ++ [p]) = ofR m s P ++ oneL (cutL m (rayL s p.1 p.2)) := by
 unfold ofR; simp
theorem ofR_len (m s : Int) : ∀ P : List (Int × Int), (ofR m s P).length ≤ P.length
 | [] => Nat.le_refl _
 | p :: P => by
  have := ofR_len m s P
  unfold ofR at this ⊢
  rw [List.flatMap_cons, List.length_append, List.length_cons]
  have h1 : (oneL (cutL m (rayL s p.1 p.2))).length ≤ 1 := by unfold oneL; split <;> simp
  omega
theorem take_snoc_at {α : Type} (P : List α) (j : Nat) (p : α) (h : P[j]? = some p) : P.take (j + 1) = P.take j ++ [p] := by
 obtain ⟨hj, e⟩ := List.getElem?_eq_some_iff.1 h
 rw [List.take_succ_eq_append_getElem hj, e]
theorem rray_low (s f r : Int) (w W : World) (k : Kept W w) :
  Calls Tryz.prog 132 #[.int .i64 s, .int .i64 f, .int .i64 r] w fun e w' => ∃ v, e = .returned v ∧ OwnZ w' w.heap.size v (rayL s f r) ∧ Kept w w' := rray_is s f r w
theorem cut_yes {m : Int} {l : List Int} (h : slidesB m = true) : cutL m l = l := by unfold cutL; rw [h]; simp
theorem cut_no {m : Int} {l : List Int} (h : slidesB m = false) : cutL m l = l.take 1 := by unfold cutL; rw [h]; simp
theorem cut_short {m : Int} {l : List Int} (h : l.length ≤ 1) : cutL m l = l := by
 unfold cutL
 split
 ·rfl
 ·exact List.take_of_length_le h
set_option maxRecDepth 100000 in
set_option maxHeartbeats 2000000 in
theorem rof_is (m s : Int) (w : World) : Calls Tryz.prog 110 #[.int .i64 m, .int .i64 s] w (NewR 44 w (ofL m s)) := by
 obtain ⟨i0, hi0, hz0, hz1, hz2⟩ := partsZ infoRow
 have HI := Lib.hid hi0
 have HZ := Lib.hid hz0
 have HZ1 := Lib.hid hz1
 have HZ2 := Lib.hid hz2
 have HEnd := Lib.hid (ofR_is m s)
 have hlenP := stepsL_len m
 have HFL := Lib.hid (stZ_len m)
 have HAt := Lib.hid (show ∀ (j : Nat) (p : Int × Int), (stepsL m)[j]? = some p → (stZ m)[2 * j]? = some p.1 ∧ (stZ m)[2 * j + 1]? = some p.2 from flat_at (stepsL m))
 clear hi0 hz0 hz1 hz2
 go_enter Tryz.func110, Tryz.ntmps110
 go_wp2_with fail
 refine (rsteps_is m _).mono ?_
 rintro e W ⟨v6, rfl, hown6, k6⟩
 obtain ⟨a6, c6, rfl⟩ := hown6.slice
 obtain ⟨g6, hl6, _⟩ := hown6.ls
 have HL6 := Lib.hid hl6
 have HK6 := Lib.hid k6
 clear hown6 hl6 k6
 generalize hn6 : (stZ m).length = n6 at *
 have HN6 := Lib.hid hn6
 clear hn6
 go_wp2
 go_loopw [5, 7] (fun t5 t7 wr => ∃ i j : Nat, i = 2 * j ∧ j ≤ (stepsL m).length ∧ t7 = .int .i64 i ∧ RowsZ 44 wr W.heap.size t5 (ofR m s ((stepsL m).take j)) ∧ Kept W wr) (fun _ t7 _ => n6 - (intOf t7).toNat)
 case atStart => exact ⟨0, 0, rfl, by omega, rfl, RowsZ.nil _ _ _, Kept.refl _⟩
 case round =>
  obtain ⟨i, j, hij, hj, rfl, hR, hK⟩ := hrel
  obtain ⟨a5, c5, rfl⟩ := hR.slice
  have HIJ := Lib.hid hij
  have HR := Lib.hid hR
  have HK := Lib.hid hK
  have hNN : n6 = 2 * (stepsL m).length := HFL.out
  by_cases hlt : i < n6
  ·have hlt' : (i : Int) < (n6 : Int) := by omega
   have hlt1 : (i : Int) + 1 < (n6 : Int) := by omega
   have hsm : (i : Int) ≤ 100 := by omega
   obtain ⟨p, hp⟩ : ∃ p, (stepsL m)[j]? = some p := ⟨_, List.getElem?_eq_getElem (by omega)⟩
   obtain ⟨q1, q2⟩ := HAt.out j p hp
   rw [← hij] at q1 q2
   obtain ⟨off, c6', e6, hk1, hk2, hcell⟩ := HL6.out.full (by have := HN6.out; omega)
   injection e6 with e61 e62 e63
   subst e61 e63
   have d1 := kept_cell HK.out (hcell i _ q1)
   have d2 := kept_cell HK.out (hcell (i + 1) _ q2)
   have hLj := Lib.hid (ofR_len m s ((stepsL m).take j))
   have HTk := Lib.hid (show ofR m s ((stepsL m).take (j + 1)) = ofR m s ((stepsL m).take j) ++ oneL (cutL m (rayL s p.1 p.2)) by rw [take_snoc_at _ j p hp, ofR_snoc])
   have hj1 : j + 1 ≤ (stepsL m).length := by omega
   have hLj2 : (ofR m s ((stepsL m).take j)).length ≤ 1000 := by have := hLj.out; rw [List.length_take] at this; omega
   obtain ⟨pf, pr⟩ := p
   dsimp only at *
   clear hij hR hK hp q1 q2 hcell hLj hk1 hk2 e62 hNN
   generalize (stepsL m).take j = PJ at *
   generalize hRL : rayL s pf pr = RL at *
   have HRay := Lib.hid (rray_low s pf pr)
   rw [hRL] at HRay
   have hrl8 : RL.length ≤ 8 := by rw [← hRL]; exact rayL_len _ _ _
   clear hRL
   generalize hN5 : (ofR m s PJ).length = N5 at *
   have HN5 := Lib.hid hN5
   clear hN5
   have wr1 : IntKind.i64.wrap ((i : Int) + 1) = (i : Int) + 1 := IntWalk.i64_in _ (by omega)
   have tn1 : ((i : Int) + 1).toNat = i + 1 := by omega
   have ge1 : (0 : Int) ≤ (i : Int) + 1 := by omega
   go_wp2
   refine wp_region_held_drew (S := Kept _) (by kernel_rfl) (Kept.refl _).drew (fun hHeld => ?_)
   refine rT 0 17 (.int .i64 s) rfl rfl hHeld ?_
   simp only [pA, pN, sZ, sU]
   refine rT 1 18 (.slice (some ⟨g6, off, none⟩) n6 c6) rfl rfl hHeld ?_
   simp only [pA, pN, sZ, sU]
   refine rT 2 19 (.int .i64 (i : Int)) rfl rfl hHeld ?_
   simp only [pA, pN, sZ, sU]
   refine rT 3 20 (.pointer (some ⟨g6, off + i, none⟩)) rfl rfl hHeld ?_
   simp only [pA, pN, sZ, sU]
   refine rC 4 21 (.int .i64 pf) rfl rfl (fun _ h => kept_cell h (d1)) hHeld ?_
   simp only [pA, pN, sZ, sU]
   refine rT 5 22 (.slice (some ⟨g6, off, none⟩) n6 c6) rfl rfl hHeld ?_
   simp only [pA, pN, sZ, sU]
   refine rT 6 23 (.int .i64 (i : Int)) rfl rfl hHeld ?_
   simp only [pA, pN, sZ, sU]
   refine rT 7 24 (.int .i64 ((i : Int) + 1)) rfl rfl hHeld ?_
   simp only [pA, pN, sZ, sU]
   refine rT 8 25 (.pointer (some ⟨g6, off + (i + 1), none⟩)) rfl rfl hHeld ?_
   simp only [pA, pN, sZ, sU]
   refine rC 9 26 (.int .i64 pr) rfl rfl (fun _ h => kept_cell h (d2)) hHeld ?_
   simp only [pA, pN, sZ, sU]
   refine rR 10 rfl (fun K hK => ?_)
   go_simp
   have HK0 := Lib.hid hHeld
   refine (HRay.out _ _ hHeld).mono ?_
   rintro e w1 ⟨v, rfl, hown, g1⟩
   obtain ⟨a, cap, rfl⟩ := hown.slice
   refine hK.out _ _ (hHeld.trans g1) (fun _ => ?_)
   replace hHeld := hHeld.trans g1
   clear hK K
   have HO := Lib.hid hown
   have HG1 := Lib.hid g1
   clear hown g1
   refine rT 11 8 (.slice a RL.length cap) rfl rfl hHeld ?_
   simp only [pA, pN, sZ, sU]
   refine wpAnyH_done (by kernel_rfl) ?_ _
   have HRX := Lib.hid (HR.out.kept HK0.out)
   by_cases h1 : 1 < RL.length
   ·have h1' : (1 : Int) < (RL.length : Int) := by omega
    have h0' : (0 : Int) < (RL.length : Int) := by omega
    go_wp2_with fail
    refine (rslides_is m _).mono ?_
    cases hsl : slidesB m
    ·have HT1 := HTk.out
     rw [cut_no hsl, show oneL (RL.take 1) = [RL.take 1] by unfold oneL; rw [if_neg (by rw [List.length_take]; omega)]] at HT1
     replace HTk := Lib.hid HT1
     clear HT1 hsl
     rintro e w' ⟨rfl, rfl⟩
     obtain ⟨g8, cap8, cur8, e8, _, _, hnc8, hcm8, _, _⟩ := HO.out.blk (by omega)
     injection e8 with e81 e82 e83
     subst e81 e83
     have hr : ∀ w, (Instr.sliceAt 44 (.slice (some ⟨g8, 0, none⟩) RL.length cap) none (some (.int .i64 1)) none).run Tryz.prog w = .ok (.slice (some ⟨g8, 0, none⟩) 1 cap) w := run_head g8 0 RL.length cap 1 (by omega)
     have HO8 := Lib.hid (HO.out.take 1 (by omega))
     have hpos8 : 0 < (RL.take 1).length := by rw [List.length_take]; omega
     clear hnc8 hcm8
     go_wp2_with (at_builtin; refine RowsAt.append Tryz.underlying102 HI.out HZ.out HZ1.out HZ2.out rfl (by decide) rfl _ _ rfl W.heap.size _ _ (ofR m s PJ) (RL.take 1) rfl rfl HRX.out HG1.out HO8.out hpos8 ?c1 ?d1 ?_)
     case c1 => have := HK.out.size; have := HK0.out.size; omega
     case d1 => rw [HN5.out]; omega
     intro v' w4 hR4 hk4
     obtain ⟨a4, c4, rfl⟩ := hR4.slice
     have HR4 := Lib.hid hR4
     have HK4 := Lib.hid (hk4 W ((HK.out.trans HK0.out).trans HG1.out) (Nat.le_refl _))
     clear hR4 hk4
     generalize (ofR m s PJ ++ [(RL.take 1)]).length = N4 at *
     go_wp2
     go_roundw
     case rel => exact ⟨i + 2, j + 1, by have := HIJ.out; omega, hj1, by go_num, by rw [HTk.out]; exact HR4.out, HK4.out⟩
     case measure => simp [intOf]; omega
    ·have HT1 := HTk.out
     rw [cut_yes hsl, show oneL RL = [RL] by unfold oneL; rw [if_neg (by omega)]] at HT1
     replace HTk := Lib.hid HT1
     clear HT1 hsl
     rintro e w' ⟨rfl, rfl⟩
     have hpos8 : 0 < RL.length := by omega
     go_wp2_with (at_builtin; refine RowsAt.append Tryz.underlying102 HI.out HZ.out HZ1.out HZ2.out rfl (by decide) rfl _ _ rfl W.heap.size _ _ (ofR m s PJ) RL rfl rfl HRX.out HG1.out HO.out hpos8 ?c2 ?d2 ?_)
     case c2 => have := HK.out.size; have := HK0.out.size; omega
     case d2 => rw [HN5.out]; omega
     intro v' w4 hR4 hk4
     obtain ⟨a4, c4, rfl⟩ := hR4.slice
     have HR4 := Lib.hid hR4
     have HK4 := Lib.hid (hk4 W ((HK.out.trans HK0.out).trans HG1.out) (Nat.le_refl _))
     clear hR4 hk4
     generalize (ofR m s PJ ++ [RL]).length = N4 at *
     go_wp2
     go_roundw
     case rel => exact ⟨i + 2, j + 1, by have := HIJ.out; omega, hj1, by go_num, by rw [HTk.out]; exact HR4.out, HK4.out⟩
     case measure => simp [intOf]; omega
   ·have h1' : ¬ (1 : Int) < (RL.length : Int) := by omega
    by_cases h0 : 0 < RL.length
    ·have h0' : (0 : Int) < (RL.length : Int) := by omega
     have HT1 := HTk.out
     rw [cut_short (by omega), show oneL RL = [RL] by unfold oneL; rw [if_neg (by omega)]] at HT1
     replace HTk := Lib.hid HT1
     clear HT1
     go_wp2_with (at_builtin; refine RowsAt.append Tryz.underlying102 HI.out HZ.out HZ1.out HZ2.out rfl (by decide) rfl _ _ rfl W.heap.size _ _ (ofR m s PJ) RL rfl rfl HRX.out HG1.out HO.out h0 ?c3 ?d3 ?_)
     case c3 => have := HK.out.size; have := HK0.out.size; omega
     case d3 => rw [HN5.out]; omega
     intro v' w4 hR4 hk4
     obtain ⟨a4, c4, rfl⟩ := hR4.slice
     have HR4 := Lib.hid hR4
     have HK4 := Lib.hid (hk4 W ((HK.out.trans HK0.out).trans HG1.out) (Nat.le_refl _))
     clear hR4 hk4
     generalize (ofR m s PJ ++ [RL]).length = N4 at *
     go_wp2
     go_roundw
     case rel => exact ⟨i + 2, j + 1, by have := HIJ.out; omega, hj1, by go_num, by rw [HTk.out]; exact HR4.out, HK4.out⟩
     case measure => simp [intOf]; omega
    ·have h0' : ¬ (0 : Int) < (RL.length : Int) := by omega
     have HT1 := HTk.out
     rw [cut_short (by omega), show oneL RL = [] by unfold oneL; rw [if_pos (by omega)]] at HT1
     replace HTk := Lib.hid HT1
     have HR9 := Lib.hid (HRX.out.kept HG1.out)
     have HK9 := Lib.hid ((HK.out.trans HK0.out).trans HG1.out)
     clear HT1
     go_wp2
     go_roundw
     case rel => exact ⟨i + 2, j + 1, by have := HIJ.out; omega, hj1, by go_num, by rw [HTk.out]; simpa using HR9.out, HK9.out⟩
     case measure => simp [intOf]; omega
  ·have hlt' : ¬ (i : Int) < (n6 : Int) := by omega
   have HT := Lib.hid (show ofR m s ((stepsL m).take j) = ofL m s by rw [List.take_of_length_le (by omega)]; exact HEnd.out)
   clear hij hR hK hNN
   go_wp2
   go_ret
   exact ⟨_, rfl, by rw [← HT.out]; exact HR.out.low HK6.out.size, HK6.out.trans HK.out⟩
theorem tell_by (B : List Int) (s side : Int) (h0 : 0 ≤ s) (h1 : s < 64) : (tellL B s side).length = (byN B s side).length := by
 have h := congrArg List.length (sort_outW B s side h0 h1)
 rw [List.length_mergeSort] at h
 simpa [outW, zn] using h
theorem rside_any (m : Int) (w : World) : Calls Tryz.prog 74 #[.int .i64 m] w fun e w' => e = .returned (.int .i64 (sideI m)) ∧ w = w' := by
 have hk := Lib.hid (rknd_any m)
 unfold sideI
 by_cases h : manB m = true
 ·have hm := (manB_iff m).1 h
  have h0 : (knd m == 0) = false := by
   unfold knd
   rw [if_neg (by omega)]
   split <;> simp <;> omega
  rw [if_pos h]
  generalize knd m = q at *
  by_cases hp : 0 < m
  ·have hp' : ¬ m < 0 := by omega
   rw [if_pos hp]
   clear h hm
   go_enter Tryz.func74, Tryz.ntmps74
   go_wp2_with fail
   refine (hk.out _).mono ?_
   rintro e w' ⟨rfl, rfl⟩
   go_wp2
   go_ret
   exact ⟨rfl, rfl⟩
  ·have hp' : m < 0 := by omega
   rw [if_neg hp]
   clear h hm
   go_enter Tryz.func74, Tryz.ntmps74
   go_wp2_with fail
   refine (hk.out _).mono ?_
   rintro e w' ⟨rfl, rfl⟩
   go_wp2
   go_ret
   exact ⟨rfl, rfl⟩
 ·have hm := (manB_not m).1 (by simpa using h)
  rw [if_neg h]
  rw [knd_none hm] at hk
  clear h hm
  go_enter Tryz.func74, Tryz.ntmps74
  go_wp2_with fail
  refine (hk.out _).mono ?_
  rintro e w' ⟨rfl, rfl⟩
  go_wp2
  go_ret
  exact ⟨rfl, rfl⟩
theorem ofL_mem {m s : Int} {l : List Int} (h : l ∈ ofL m s) {x : Int} (hx : x ∈ l) : 0 ≤ x ∧ x < 64 := by
 unfold ofL ofN at h
 obtain ⟨way, _, hl⟩ := List.mem_flatMap.1 h
 unfold oneL at hl
 split at hl
 ·cases hl
 ·rw [List.mem_singleton] at hl
  subst hl
  unfold cutL at hx
  split at hx
  ·exact alongL_mem hx
  ·exact alongL_mem (List.mem_of_mem_take hx)
theorem hit_found {B : List Int} {s to : Int} {i k : Nat} {l : List Int} (hl : (ofL (bAt B s) s)[i]? = some l) (hk : l[k]? = some to) (hc : ∀ j, j < k → ∀ y, l[j]? = some y → bAt B y = 0) : hitB B s to = true := by
 rw [hitB_iff]
 unfold strikeL
 rw [List.mem_flatMap]
 exact ⟨l, List.mem_of_getElem? hl, (mem_upto B to l).2 ⟨k, hk, hc⟩⟩
theorem hit_none {B : List Int} {s to : Int} (h : ∀ (i : Nat) (l : List Int), (ofL (bAt B s) s)[i]? = some l → to ∉ uptoL B l) : hitB B s to = false := by
 rw [Bool.eq_false_iff]
 intro hc
 rw [hitB_iff] at hc
 unfold strikeL at hc
 obtain ⟨l, hl, hx⟩ := List.mem_flatMap.1 hc
 obtain ⟨i, hi, e⟩ := List.mem_iff_getElem.1 hl
 exact h i l (by rw [List.getElem?_eq_getElem hi, e]) hx
theorem upto_end {B : List Int} {to : Int} {l : List Int} (h : ∀ j, j < l.length → l[j]? ≠ some to) : to ∉ uptoL B l := by
 rw [mem_upto]
 rintro ⟨i, hi, _⟩
 obtain ⟨hlt, _⟩ := List.getElem?_eq_some_iff.1 hi
 exact h i hlt hi
theorem upto_stop {B : List Int} {to y : Int} {l : List Int} {k : Nat} (h : ∀ j, j < k → l[j]? ≠ some to) (hy : l[k]? = some y) (hne : y ≠ to) (hb : bAt B y ≠ 0) : to ∉ uptoL B l := by
 rw [mem_upto]
 rintro ⟨i, hi, hc⟩
 by_cases h1 : i < k
 ·exact h i h1 hi
 ·by_cases h2 : i = k
  ·subst h2; rw [hy] at hi; exact hne (Option.some.inj hi)
  ·exact hb (hc k (by omega) y hy)
set_option maxRecDepth 100000 in
set_option maxHeartbeats 2000000 in
theorem hits_is (B : List Int) (hB : Brd B) (s : Nat) (hs : s < 64) (to : Int) (w : World) :
  Calls Tryz.prog 75 #[.agg (cl B).toArray, .int .i64 (s : Int), .int .i64 to] w fun e w' => e = .returned (.bool (hitB B (s : Int) to)) ∧ Kept w w' := by
 have hbl := heap_alloc_new w (.cells (cl B).toArray 24)
 have hc0 := board_cell hB hbl s hs
 obtain ⟨hb1, hb2⟩ := hB.2 s hs
 have HB := Lib.hid hB
 have HBl := Lib.hid hbl
 have HF := Lib.hid (fun (i k : Nat) (l : List Int) => hit_found (B := B) (s := (s : Int)) (to := to) (i := i) (k := k) (l := l))
 have HN := Lib.hid (hit_none (B := B) (s := (s : Int)) (to := to))
 have HMem := Lib.hid (fun (l : List Int) (h : l ∈ ofL (bAt B (s : Int)) (s : Int)) (x : Int) (hx : x ∈ l) => ofL_mem h hx)
 have hx : bAt B (s : Int) = B.getD s 0 := rfl
 rw [hx] at HF HN HMem
 have hOf := Lib.hid (rof_is (B.getD s 0) (s : Int))
 generalize hitB B (s : Int) to = hb at *
 generalize B.getD s 0 = x at *
 clear hB hbl hx
 generalize ofL x (s : Int) = L at *
 go_enter Tryz.func75, Tryz.ntmps75
 go_wp2_with fail
 refine (hOf.out _).mono ?_
 rintro e W ⟨v, rfl, hR, hK⟩
 have HK := Lib.hid (((Kept.refl w).alloc _).trans hK)
 have HBW := Lib.hid (hK.heap HBl.out)
 clear hK
 by_cases hL : 0 < L.length
 ·obtain ⟨g7, c7, rfl, hn1, hn2, hrow⟩ := hR.read hL
  unfold maxLen at hn2
  have HRow := Lib.hid hrow
  generalize hN : L.length = N at *
  have HNN := Lib.hid hN
  clear hR hrow hN hc0
  go_wp2
  go_loop [8] (fun t8 => ∃ i : Nat, i ≤ N ∧ t8 = .int .i64 i ∧ ∀ j l, j < i → L[j]? = some l → to ∉ uptoL B l) (fun t8 => N - (intOf t8).toNat)
  case atStart => exact ⟨0, by omega, rfl, fun j l hj => by omega⟩
  case round =>
   obtain ⟨i, hi, rfl, hno⟩ := hrel
   have HNo := Lib.hid hno
   clear hno
   by_cases hlt : i < N
   ·have hlt' : (i : Int) < (N : Int) := by omega
    obtain ⟨l, hl⟩ : ∃ l, L[i]? = some l := ⟨_, List.getElem?_eq_getElem (by have := HNN.out; omega)⟩
    obtain ⟨u, g, hcu, hls, _⟩ := HRow.out i l hl
    have HMl := Lib.hid (HMem.out l (List.mem_of_getElem? hl))
    have Hl := Lib.hid hl
    clear hl
    obtain ⟨au, cu, rfl⟩ := hls.slice
    have HLs := Lib.hid hls
    clear hls
    generalize hM : l.length = M at *
    have HMM := Lib.hid hM
    clear hM
    go_wp2
    go_loop [9] (fun t9 => ∃ k : Nat, k ≤ M ∧ t9 = .int .i64 k ∧ ∀ j, j < k → l[j]? ≠ some to ∧ ∀ y, l[j]? = some y → bAt B y = 0) (fun t9 => M - (intOf t9).toNat)
    case atStart => exact ⟨0, by omega, rfl, fun j hj => by omega⟩
    case round =>
     obtain ⟨k, hk, rfl, hin⟩ := hrel
     have HIn := Lib.hid hin
     clear hin
     by_cases hkl : k < M
     ·have hkl' : (k : Int) < (M : Int) := by omega
      obtain ⟨y, hy⟩ : ∃ y, l[k]? = some y := ⟨_, List.getElem?_eq_getElem (by have := HMM.out; omega)⟩
      obtain ⟨off, cu', e6, hk1, hk2, hcell⟩ := HLs.out.full (by have := HMM.out; omega)
      injection e6 with e61 e62 e63
      have HE62 := Lib.hid e62
      subst e61 e63
      clear e62
      have d1 := hcell k _ hy
      obtain ⟨y0, y1⟩ := HMl.out y (List.mem_of_getElem? hy)
      obtain ⟨yn, rfl⟩ := Int.eq_ofNat_of_zero_le y0
      have hyn : yn < 64 := by omega
      have d2 := board_cell HB.out HBW.out yn hyn
      have HY := Lib.hid hy
      have hbm : M ≤ 9223372036854775807 := by unfold maxLen at hk2; have := HMM.out; omega
      clear hy hcell hk1 hk2
      by_cases hto : (yn : Int) = to
      ·have b0 : ((yn : Int) == to) = true := by simpa using hto
       have HE := Lib.hid (HF.out i k l Hl.out (by rw [HY.out, hto]) (fun j hj y hy => (HIn.out j hj).2 y hy))
       clear hto d2
       go_wp2
       go_ret
       exact ⟨by rw [HE.out]; rfl, HK.out⟩
      ·have b0 : ((yn : Int) == to) = false := by simpa using hto
       have HTo := Lib.hid hto
       clear hto
       obtain ⟨z, hz⟩ : ∃ z, B.getD yn 0 = z := ⟨_, rfl⟩
       rw [hz] at d2
       by_cases h0 : z = 0
       ·have b1 : (z != 0) = false := by simpa using h0
        have HZ := Lib.hid (show bAt B (yn : Int) = 0 by show B.getD yn 0 = 0; rw [hz]; exact h0)
        clear h0 hz
        go_wp2
        go_round
        case rel => exact ⟨k + 1, by omega, by go_num, fun j hj => by
         by_cases hji : j < k
         ·exact HIn.out j hji
         ·obtain rfl : j = k := by omega
          rw [HY.out]
          exact ⟨fun e => HTo.out (Option.some.inj e), fun y e => by rw [← Option.some.inj e]; exact HZ.out⟩⟩
        case measure => simp [intOf]; omega
       ·have b1 : (z != 0) = true := by simpa using h0
        have HSt := Lib.hid (upto_stop (fun j hj => (HIn.out j hj).1) HY.out HTo.out (show bAt B (yn : Int) ≠ 0 by show B.getD yn 0 ≠ 0; rw [hz]; exact h0))
        clear h0 hz
        go_wp2
        go_round
        case rel => exact ⟨i + 1, by omega, by go_num, fun j l' hj hl' => by
         by_cases hji : j < i
         ·exact HNo.out j l' hji hl'
         ·obtain rfl : j = i := by omega
          rw [Hl.out] at hl'
          rw [← Option.some.inj hl']
          exact HSt.out⟩
        case measure => simp [intOf]; omega
     ·have hkl' : ¬ (k : Int) < (M : Int) := by omega
      have HSt := Lib.hid (upto_end (B := B) (to := to) (l := l) (fun j hj => (HIn.out j (by have := HMM.out; omega)).1))
      go_wp2
      go_round
      case rel => exact ⟨i + 1, by omega, by go_num, fun j l' hj hl' => by
       by_cases hji : j < i
       ·exact HNo.out j l' hji hl'
       ·obtain rfl : j = i := by omega
        rw [Hl.out] at hl'
        rw [← Option.some.inj hl']
        exact HSt.out⟩
      case measure => simp [intOf]; omega
   ·have hlt' : ¬ (i : Int) < (N : Int) := by omega
    have HE := Lib.hid (HN.out (fun j l hl => HNo.out j l (by obtain ⟨h, _⟩ := List.getElem?_eq_some_iff.1 hl; have := HNN.out; omega) hl))
    go_wp2
    go_ret
    exact ⟨by rw [HE.out]; rfl, HK.out⟩
 ·have h0 : L = [] := List.eq_nil_of_length_eq_zero (by omega)
  subst h0
  obtain ⟨a7, c7, rfl⟩ := hR.slice
  have HE := Lib.hid (HN.out (fun j l hl => by simp at hl))
  clear hR hc0
  go_wp2
  go_loop [8] (fun t8 => t8 = .int .i64 0) (fun _ => 0)
  case atStart => exact rfl
  case round =>
   obtain rfl := hrel
   go_wp2
   go_ret
   exact ⟨by rw [HE.out]; rfl, HK.out⟩
theorem zn_yes {p : Nat → Bool} {k : Nat} (h : p k = true) : zn (sel p (k + 1)) = zn (sel p k) ++ [(k : Int)] := by unfold zn; rw [sel_yes h]; simp
theorem zn_no {p : Nat → Bool} {k : Nat} (h : p k = false) : zn (sel p (k + 1)) = zn (sel p k) := by rw [sel_no h]
theorem zn_len (p : Nat → Bool) (k : Nat) : (zn (sel p k)).length ≤ k := by unfold zn; rw [List.length_map]; exact sel_le p k
set_option maxRecDepth 100000 in
set_option maxHeartbeats 2000000 in
theorem rby_is (B : List Int) (hB : Brd B) (s side : Int) (w : World) :
  Calls Tryz.prog 36 #[.agg (cl B).toArray, .int .i64 s, .int .i64 side] w (NewZ w (if okS s && rightB B then zn (byN B s side) else [])) := by
 have hz := Lib.hid (size_cl hB.1)
 have hbl := Lib.hid (heap_alloc_new w (.cells (cl B).toArray 24))
 have HB := Lib.hid hB
 have hRt := Lib.hid (rright_is B hB)
 clear hB
 by_cases hs : s < 0 ∨ 64 ≤ s
 ·rw [okS_no hs, Bool.false_and, if_neg (by simp)]
  rcases hs with hs | hs
  ·go_enter Tryz.func36, Tryz.ntmps36
   go_wp2
   go_ret
   exact ⟨_, rfl, OwnZ.nil _ _, (Kept.refl _).alloc _⟩
  ·have hs' : ¬ s < 0 := by omega
   have hs2 : 63 < s := by omega
   go_enter Tryz.func36, Tryz.ntmps36
   go_wp2
   go_ret
   exact ⟨_, rfl, OwnZ.nil _ _, (Kept.refl _).alloc _⟩
 ·have hs' : ¬ s < 0 := by omega
  have hs2 : ¬ 63 < s := by omega
  rw [okS_yes (by omega) (by omega), Bool.true_and]
  cases hr : rightB B
  ·rw [hr] at hRt
   rw [if_neg (by simp)]
   clear hr hs
   go_enter Tryz.func36, Tryz.ntmps36
   go_wp2_with (refine wpList_load_w (by rfl) _ rfl _ rfl _ (hbl.out) hz.out ?_)
   refine (hRt.out _).mono ?_
   rintro e w1 ⟨rfl, k1⟩
   have HK := Lib.hid (((Kept.refl w).alloc _).trans k1)
   clear k1
   go_wp2
   go_ret
   exact ⟨_, rfl, OwnZ.nil _ _, HK.out⟩
  ·rw [hr] at hRt
   rw [if_pos rfl]
   have HHit := Lib.hid (fun (k : Nat) (hk : k < 64) => hits_is B HB.out k hk s)
   obtain ⟨p, hp⟩ : ∃ p : Nat → Bool, p = fun (k : Nat) => (sideI (B.getD k 0) == side) && hitB B (k : Int) s := ⟨_, rfl⟩
   have HM : Hid (zn (byN B s side) = zn (sel p 64)) := by rw [hp]; rfl
   have HP := Lib.hid (fun k => congrFun hp k)
   clear hr hs hp
   go_enter Tryz.func36, Tryz.ntmps36
   go_wp2_with (refine wpList_load_w (by rfl) _ rfl _ rfl _ (hbl.out) hz.out ?_)
   refine (hRt.out _).mono ?_
   rintro e W ⟨rfl, k1⟩
   have HBW := Lib.hid (k1.heap hbl.out)
   have HKW := Lib.hid (((Kept.refl w).alloc _).trans k1)
   clear k1
   go_wp2
   go_loopw [7, 8] (fun t7 t8 wr => ∃ k : Nat, k ≤ 64 ∧ t8 = .int .i64 k ∧ OwnZ wr W.heap.size t7 (zn (sel p k)) ∧ Kept W wr) (fun _ t8 _ => 64 - (intOf t8).toNat)
   case atStart => exact ⟨0, by omega, rfl, OwnZ.nil _ _, Kept.refl _⟩
   case round =>
    obtain ⟨k, hk, rfl, hown, hK⟩ := hrel
    obtain ⟨a, cap, rfl⟩ := hown.slice
    have hlen := zn_len p k
    have HO := Lib.hid hown
    have HK := Lib.hid hK
    clear hown hK
    by_cases hlt : k < 64
    ·have hlt' : (k : Int) < 64 := by omega
     have hc0 := board_cell HB.out (HK.out.heap HBW.out) k hlt
     obtain ⟨hb1, hb2⟩ := HB.out.2 k hlt
     have hh := HHit.out k hlt
     have hpk := HP.out k
     generalize hitB B (k : Int) s = hb at *
     generalize B.getD k 0 = x at *
     cases hsd : (sideI x == side)
     ·rw [hsd, Bool.false_and] at hpk
      have HE := Lib.hid (zn_no hpk)
      clear hh hpk
      generalize (zn (sel p k)).length = N at *
      go_wp2_with fail
      refine (rside_any x _).mono ?_
      rintro e w' ⟨rfl, rfl⟩
      go_wp2
      go_roundw
      case rel => exact ⟨k + 1, by omega, by go_num, by rw [HE.out]; exact HO.out, HK.out⟩
      case measure => simp [intOf]; omega
     ·rw [hsd, Bool.true_and] at hpk
      have Hh := Lib.hid hh
      have hsz0 := HBW.out
      clear hh
      cases hb
      ·have HE := Lib.hid (zn_no hpk)
       clear hpk
       generalize (zn (sel p k)).length = N at *
       go_wp2_with fail
       refine (rside_any x _).mono ?_
       rintro e w' ⟨rfl, rfl⟩
       go_wp2_with (refine wpList_load_w (by rfl) _ rfl _ rfl _ (HK.out.heap HBW.out) hz.out ?_)
       refine (Hh.out _).mono ?_
       rintro e w2 ⟨rfl, k2⟩
       have HO2 := Lib.hid (HO.out.kept k2)
       have HK2 := Lib.hid (HK.out.trans k2)
       clear k2 hc0
       go_wp2
       go_roundw
       case rel => exact ⟨k + 1, by omega, by go_num, by rw [HE.out]; exact HO2.out, HK2.out⟩
       case measure => simp [intOf]; omega
      ·have HE := Lib.hid (zn_yes hpk)
       clear hpk
       generalize hN : (zn (sel p k)).length = N at *
       go_wp2_with fail
       refine (rside_any x _).mono ?_
       rintro e w' ⟨rfl, rfl⟩
       go_wp2_with (refine wpList_load_w (by rfl) _ rfl _ rfl _ (HK.out.heap HBW.out) hz.out ?_)
       refine (Hh.out _).mono ?_
       rintro e w2 ⟨rfl, k2⟩
       have HK2 := Lib.hid (HK.out.trans k2)
       have HA := Lib.hid (HK2.out.alloc (.cells #[.int .i64 (k : Int)] 3))
       have HOA := Lib.hid (HO.out.kept (k2.alloc (.cells #[.int .i64 (k : Int)] 3)))
       clear k2 hc0
       go_wp2_with (at_builtin; refine wpList_append_z rfl _ _ rfl W.heap.size w2.heap.size _ _ (zn (sel p k)) [(k : Int)] rfl rfl HOA.out (LsZ.lit _ [(k : Int)] (by simp)) ?c1 ?c2 ?_)
       case c1 => simp; omega
       case c2 => exact HA.out.size
       intro v' w3 hown' hg
       have HK3 := Lib.hid (HOA.out.grown HA.out (Nat.le_refl _) hg)
       obtain ⟨a', cap', rfl⟩ := hown'.slice
       have HO3 := Lib.hid hown'
       clear hown' hg hN
       generalize (zn (sel p k) ++ [(k : Int)]).length = N2 at *
       go_wp2
       go_roundw
       case rel => exact ⟨k + 1, by omega, by go_num, by rw [HE.out]; exact HO3.out, HK3.out⟩
       case measure => simp [intOf]; omega
    ·have hlt' : ¬ (k : Int) < 64 := by omega
     have HE := Lib.hid (show zn (byN B s side) = zn (sel p k) by rw [HM.out, show 64 = k by omega])
     generalize (zn (sel p k)).length = N at *
     go_wp2
     go_ret
     exact ⟨_, rfl, by rw [HE.out]; exact HO.out.low HKW.out.size, HKW.out.trans HK.out⟩
theorem kingI_bd (B : List Int) (side : Int) : -1 ≤ kingI B side ∧ kingI B side < 64 := by
 unfold kingI
 split
 ·exact headI_bd B 6
 ·split
  ·exact headI_bd B (-6)
  ·omega
theorem headI_none {l : List Nat} (h : l.length = 0) : headI l = -1 := by rw [List.eq_nil_of_length_eq_zero h]; rfl
theorem headI_some {l : List Nat} (h : 0 < l.length) : headI l = (l.getD 0 0 : Nat) := by
 cases l with
 | nil => simp at h
 | cons a l => rfl
set_option maxRecDepth 100000 in
set_option maxHeartbeats 1000000 in
theorem rking_is (B : List Int) (hB : Brd B) (side : Int) (w : World) :
  Calls Tryz.prog 26 #[.agg (cl B).toArray, .int .i64 side] w fun e w' => e = .returned (.int .i64 (kingI B side)) ∧ Kept w w' := by
 have hz := Lib.hid (size_cl hB.1)
 have hbl := Lib.hid (heap_alloc_new w (.cells (cl B).toArray 24))
 have HW := Lib.hid (rwhere_is B hB)
 have HLen := Lib.hid (fun m => (show (whereL B m).length ≤ 64 from sel_le _ 64))
 clear hB
 have hcase : side = 1 ∨ side = 0 ∨ side < 0 ∨ 1 < side := by omega
 by_cases h1 : side = 1
 ·subst h1
  have hk : kingI B 1 = headI (whereL B (-6)) := rfl
  rw [hk]
  by_cases hl : 0 < (whereL B (-6)).length
  ·rw [headI_some hl]
   have HLn := Lib.hid (HLen.out (-6))
   have HWm := Lib.hid (HW.out (-6))
   generalize whereL B (-6) = Lw at *
   obtain ⟨y, hy⟩ : ∃ y, Lw.getD 0 0 = y := ⟨_, rfl⟩
   rw [hy]
   go_enter Tryz.func26, Tryz.ntmps26
   go_wp2_with (refine wpList_load_w (by rfl) _ rfl _ rfl _ (hbl.out) hz.out ?_)
   refine (HWm.out _).mono ?_
   rintro e w1 ⟨v, rfl, hown, k1⟩
   obtain ⟨a, cap, rfl⟩ := hown.slice
   obtain ⟨g, rfl, hc⟩ := hown.at_ 0 hl
   rw [hy] at hc
   have HK := Lib.hid (((Kept.refl w).alloc _).trans k1)
   skip
   have hl2 : ((Lw.length : Int) == 0) = false := by rw [beq_eq_false_iff_ne]; omega
   clear hown k1 hy
   generalize Lw.length = N at *
   go_wp2
   go_ret
   exact ⟨rfl, HK.out⟩
  ·rw [headI_none (by omega)]
   have hl0 : (whereL B (-6)).length = 0 := by omega
   go_enter Tryz.func26, Tryz.ntmps26
   go_wp2_with (refine wpList_load_w (by rfl) _ rfl _ rfl _ (hbl.out) hz.out ?_)
   refine (HW.out (-6) _).mono ?_
   rintro e w1 ⟨v, rfl, hown, k1⟩
   obtain ⟨a, cap, rfl⟩ := hown.slice
   have HK := Lib.hid (((Kept.refl w).alloc _).trans k1)
   clear hown k1
   rw [hl0]
   clear hl0 hl
   go_wp2
   go_ret
   exact ⟨rfl, HK.out⟩
 ·have h1' : (side == 1) = false := by simpa using h1
  by_cases h0 : side = 0
  ·subst h0
   have hk : kingI B 0 = headI (whereL B 6) := rfl
   rw [hk]
   by_cases hl : 0 < (whereL B 6).length
   ·rw [headI_some hl]
    have HLn := Lib.hid (HLen.out 6)
    have HWm := Lib.hid (HW.out 6)
    generalize whereL B 6 = Lw at *
    obtain ⟨y, hy⟩ : ∃ y, Lw.getD 0 0 = y := ⟨_, rfl⟩
    rw [hy]
    go_enter Tryz.func26, Tryz.ntmps26
    go_wp2_with (refine wpList_load_w (by rfl) _ rfl _ rfl _ (hbl.out) hz.out ?_)
    refine (HWm.out _).mono ?_
    rintro e w1 ⟨v, rfl, hown, k1⟩
    obtain ⟨a, cap, rfl⟩ := hown.slice
    obtain ⟨g, rfl, hc⟩ := hown.at_ 0 hl
    rw [hy] at hc
    have HK := Lib.hid (((Kept.refl w).alloc _).trans k1)
    have hl2 : ((Lw.length : Int) == 0) = false := by rw [beq_eq_false_iff_ne]; omega
    clear hown k1 hy
    generalize Lw.length = N at *
    go_wp2
    go_ret
    exact ⟨rfl, HK.out⟩
   ·rw [headI_none (by omega)]
    have hl0 : (whereL B 6).length = 0 := by omega
    go_enter Tryz.func26, Tryz.ntmps26
    go_wp2_with (refine wpList_load_w (by rfl) _ rfl _ rfl _ (hbl.out) hz.out ?_)
    refine (HW.out 6 _).mono ?_
    rintro e w1 ⟨v, rfl, hown, k1⟩
    obtain ⟨a, cap, rfl⟩ := hown.slice
    have HK := Lib.hid (((Kept.refl w).alloc _).trans k1)
    clear hown k1
    rw [hl0]
    clear hl0 hl
    go_wp2
    go_ret
    exact ⟨rfl, HK.out⟩
  ·have hk : kingI B side = -1 := by unfold kingI; rw [if_neg h0, if_neg h1]
   rw [hk]
   have HLn := Lib.hid (HLen.out 6)
   go_enter Tryz.func26, Tryz.ntmps26
   go_wp2_with (refine wpList_load_w (by rfl) _ rfl _ rfl _ (hbl.out) hz.out ?_)
   refine (HW.out 6 _).mono ?_
   rintro e w1 ⟨v, rfl, hown, k1⟩
   obtain ⟨a, cap, rfl⟩ := hown.slice
   have HK := Lib.hid (((Kept.refl w).alloc _).trans k1)
   clear hown k1 hk
   generalize (whereL B 6).length = N at *
   by_cases hN : N = 0
   ·subst hN
    go_wp2
    go_ret
    exact ⟨rfl, HK.out⟩
   ·have hN' : ((N : Int) == 0) = false := by simp; omega
    by_cases hs : side < 0
    ·go_wp2
     go_ret
     exact ⟨rfl, HK.out⟩
    ·have hs2 : 1 < side := by omega
     go_wp2
     go_ret
     exact ⟨rfl, HK.out⟩
theorem struck_by (B : List Int) (k side : Int) : decide (0 < (if okS k && rightB B then zn (byN B k side) else ([] : List Int)).length) = struckB B k side := by
 unfold struckB
 cases h : okS k && rightB B
 ·simp
 ·obtain ⟨h0, h1⟩ := okS_iff.1 (Bool.and_eq_true _ _ ▸ h).1
  have e := tell_by B k side h0 h1
  rw [if_pos rfl, Bool.true_and]
  unfold zn
  rw [List.length_map, ← e]
  cases tellL B k side <;> simp
set_option maxRecDepth 100000 in
set_option maxHeartbeats 1000000 in
theorem rcheck_is (B : List Int) (hB : Brd B) (side : Int) (hs : side = 0 ∨ side = 1) (w : World) :
  Calls Tryz.prog 13 #[.agg (cl B).toArray, .int .i64 side] w fun e w' => e = .returned (.bool (checkB B side)) ∧ Kept w w' := by
 have hz := Lib.hid (size_cl hB.1)
 have hbl := Lib.hid (heap_alloc_new w (.cells (cl B).toArray 24))
 have HKg := Lib.hid (rking_is B hB side)
 have ho : otherI side = 1 - side := by rcases hs with rfl | rfl <;> rfl
 have HBy := Lib.hid (rby_is B hB (kingI B side) (1 - side))
 have HE := Lib.hid (struck_by B (kingI B side) (1 - side))
 have hlen : (if okS (kingI B side) && rightB B then zn (byN B (kingI B side) (1 - side)) else ([] : List Int)).length ≤ 64 := by
  split
  ·exact zn_len _ 64
  ·simp
 unfold checkB
 rw [ho]
 have hno : kingI B side < 0 → struckB B (kingI B side) (1 - side) = false := by
  intro h
  unfold struckB
  rw [okS_no (.inl h)]
  rfl
 obtain ⟨kb1, kb2⟩ := kingI_bd B side
 generalize struckB B (kingI B side) (1 - side) = sb at *
 generalize (if okS (kingI B side) && rightB B then zn (byN B (kingI B side) (1 - side)) else ([] : List Int)) = Z at *
 generalize kingI B side = k at *
 clear hB ho
 by_cases hk : k < 0
 ·have HN := Lib.hid (hno hk)
  have hk' : ¬ 0 ≤ k := by omega
  clear hno HE HBy
  go_enter Tryz.func13, Tryz.ntmps13
  go_wp2_with (refine wpList_load_w (by rfl) _ rfl _ rfl _ (hbl.out) hz.out ?_)
  refine (HKg.out _).mono ?_
  rintro e w1 ⟨rfl, k1⟩
  have HK := Lib.hid (((Kept.refl w).alloc _).trans k1)
  clear k1
  go_wp2
  go_ret
  exact ⟨by rw [HN.out]; rfl, HK.out⟩
 ·have hk' : 0 ≤ k := by omega
  clear hno
  go_enter Tryz.func13, Tryz.ntmps13
  go_wp2_with (refine wpList_load_w (by rfl) _ rfl _ rfl _ (hbl.out) hz.out ?_)
  refine (HKg.out _).mono ?_
  rintro e w1 ⟨rfl, k1⟩
  have HK := Lib.hid (((Kept.refl w).alloc _).trans k1)
  have hb1 := Lib.hid (k1.heap hbl.out)
  clear k1
  go_wp2_with (refine wpList_load_w (by rfl) _ rfl _ rfl _ (hb1.out) hz.out ?_)
  refine (HBy.out _).mono ?_
  rintro e w2 ⟨v, rfl, hown, k2⟩
  obtain ⟨a, cap, rfl⟩ := hown.slice
  have HK2 := Lib.hid (HK.out.trans k2)
  clear hown k2
  generalize Z.length = N at *
  go_wp2
  go_ret
  exact ⟨by rw [← HE.out]; simp, HK2.out⟩
set_option maxRecDepth 100000
/-- The turned board, as far as the squares below k have been turned. -/
def tk (B : List Int) (k : Nat) : Nat → Int := fun i => if flipN i < k then negI (B.getD (flipN i) 0) else 0
theorem PAt.sq {w : World} {g : Nat} {p : Ps} (h : PAt w g p) (k : Nat) (hk : k < 64) : w.cell? ⟨g, k, none⟩ = some (.int .i8 (p.B.getD k 0)) := by
 have h1 := cl_length p.B
 have h2 := h.len
 rw [h.cellK]; unfold pl
 rw [List.getElem?_append_left (by omega), cl_get _ _ (by omega)]
theorem rfar_any (a b : Int) (w : World) : Calls Tryz.prog 42 #[.int .i64 a, .int .i64 b] w fun e w' => e = .returned (.int .i64 (farA a b)) ∧ Kept w w' := by
 unfold farA
 by_cases h : (0 ≤ a ∧ a < 64) ∧ 0 ≤ b ∧ b < 64
 ·rw [if_pos h]; exact (rfar_yes a b w h.1.1 h.1.2 h.2.1 h.2.2).mono fun _ _ ⟨x, y⟩ => ⟨x, y ▸ Kept.refl _⟩
 ·rw [if_neg h]; exact (rfar_no a b w (by omega)).mono fun _ _ ⟨x, y⟩ => ⟨x, y ▸ Kept.refl _⟩
theorem rbacked_1 (B : List Int) (hB : Brd B) (w : World) :
  Calls Tryz.prog 44 #[.agg (cl B).toArray, .int .i64 1] w fun e w' => e = .returned (.bool ((B.getD 4 0 == 6) && (B.getD 7 0 == 4))) ∧ Kept w w' := by
 have hbl := heap_alloc_new w (.cells (cl B).toArray 24)
 have ca := board_cell hB hbl 4 (by omega)
 have cb := board_cell hB hbl 7 (by omega)
 obtain ⟨ba1, ba2⟩ := hB.2 4 (by omega)
 obtain ⟨bb1, bb2⟩ := hB.2 7 (by omega)
 clear hbl hB
 generalize B.getD 4 0 = xa at *
 generalize B.getD 7 0 = xb at *
 cases h : (xa == 6)
 ·rw [Bool.false_and]
  go_enter Tryz.func44, Tryz.ntmps44
  go_wp2
  go_ret
  exact ⟨rfl, (Kept.refl _).alloc _⟩
 ·rw [Bool.true_and]
  go_enter Tryz.func44, Tryz.ntmps44
  go_wp2
  go_ret
  exact ⟨rfl, (Kept.refl _).alloc _⟩
theorem rbacked_2 (B : List Int) (hB : Brd B) (w : World) :
  Calls Tryz.prog 44 #[.agg (cl B).toArray, .int .i64 2] w fun e w' => e = .returned (.bool ((B.getD 4 0 == 6) && (B.getD 0 0 == 4))) ∧ Kept w w' := by
 have hbl := heap_alloc_new w (.cells (cl B).toArray 24)
 have ca := board_cell hB hbl 4 (by omega)
 have cb := board_cell hB hbl 0 (by omega)
 obtain ⟨ba1, ba2⟩ := hB.2 4 (by omega)
 obtain ⟨bb1, bb2⟩ := hB.2 0 (by omega)
 clear hbl hB
 generalize B.getD 4 0 = xa at *
 generalize B.getD 0 0 = xb at *
 cases h : (xa == 6)
 ·rw [Bool.false_and]
  go_enter Tryz.func44, Tryz.ntmps44
  go_wp2
  go_ret
  exact ⟨rfl, (Kept.refl _).alloc _⟩
 ·rw [Bool.true_and]
  go_enter Tryz.func44, Tryz.ntmps44
  go_wp2
  go_ret
  exact ⟨rfl, (Kept.refl _).alloc _⟩
theorem rbacked_4 (B : List Int) (hB : Brd B) (w : World) :
  Calls Tryz.prog 44 #[.agg (cl B).toArray, .int .i64 4] w fun e w' => e = .returned (.bool ((B.getD 60 0 == (-6)) && (B.getD 63 0 == (-4)))) ∧ Kept w w' := by
 have hbl := heap_alloc_new w (.cells (cl B).toArray 24)
 have ca := board_cell hB hbl 60 (by omega)
 have cb := board_cell hB hbl 63 (by omega)
 obtain ⟨ba1, ba2⟩ := hB.2 60 (by omega)
 obtain ⟨bb1, bb2⟩ := hB.2 63 (by omega)
 clear hbl hB
 generalize B.getD 60 0 = xa at *
 generalize B.getD 63 0 = xb at *
 cases h : (xa == (-6))
 ·rw [Bool.false_and]
  go_enter Tryz.func44, Tryz.ntmps44
  go_wp2
  go_ret
  exact ⟨rfl, (Kept.refl _).alloc _⟩
 ·rw [Bool.true_and]
  go_enter Tryz.func44, Tryz.ntmps44
  go_wp2
  go_ret
  exact ⟨rfl, (Kept.refl _).alloc _⟩
theorem rbacked_8 (B : List Int) (hB : Brd B) (w : World) :
  Calls Tryz.prog 44 #[.agg (cl B).toArray, .int .i64 8] w fun e w' => e = .returned (.bool ((B.getD 60 0 == (-6)) && (B.getD 56 0 == (-4)))) ∧ Kept w w' := by
 have hbl := heap_alloc_new w (.cells (cl B).toArray 24)
 have ca := board_cell hB hbl 60 (by omega)
 have cb := board_cell hB hbl 56 (by omega)
 obtain ⟨ba1, ba2⟩ := hB.2 60 (by omega)
 obtain ⟨bb1, bb2⟩ := hB.2 56 (by omega)
 clear hbl hB
 generalize B.getD 60 0 = xa at *
 generalize B.getD 56 0 = xb at *
 cases h : (xa == (-6))
 ·rw [Bool.false_and]
  go_enter Tryz.func44, Tryz.ntmps44
  go_wp2
  go_ret
  exact ⟨rfl, (Kept.refl _).alloc _⟩
 ·rw [Bool.true_and]
  go_enter Tryz.func44, Tryz.ntmps44
  go_wp2
  go_ret
  exact ⟨rfl, (Kept.refl _).alloc _⟩
theorem rbacked_is (B : List Int) (hB : Brd B) (r : Int) (w : World) :
  Calls Tryz.prog 44 #[.agg (cl B).toArray, .int .i64 r] w fun e w' => e = .returned (.bool (backB B r)) ∧ Kept w w' := by
 unfold backB
 by_cases h1 : r = 1
 ·subst h1; rw [if_pos rfl]; exact rbacked_1 B hB w
 ·rw [if_neg h1]
  by_cases h2 : r = 2
  ·subst h2; rw [if_pos rfl]; exact rbacked_2 B hB w
  ·rw [if_neg h2]
   by_cases h4 : r = 4
   ·subst h4; rw [if_pos rfl]; exact rbacked_4 B hB w
   ·rw [if_neg h4]
    by_cases h8 : r = 8
    ·subst h8; rw [if_pos rfl]; exact rbacked_8 B hB w
    ·rw [if_neg h8]
     have b1 : (r == 1) = false := beq_eq_false_iff_ne.2 h1
     have b2 : (r == 2) = false := beq_eq_false_iff_ne.2 h2
     have b4 : (r == 4) = false := beq_eq_false_iff_ne.2 h4
     have b8 : (r == 8) = false := beq_eq_false_iff_ne.2 h8
     clear h1 h2 h4 h8 hB
     go_enter Tryz.func44, Tryz.ntmps44
     go_wp2
     go_ret
     exact ⟨rfl, (Kept.refl _).alloc _⟩
theorem rhas_is (c r : Int) (w : World) (h0 : 0 ≤ c) (h1 : c ≤ 15) (r0 : 1 ≤ r) (r1 : r ≤ 8) :
  Calls Tryz.prog 43 #[.int .i64 c, .int .i64 r] w fun e w' => e = .returned (.bool (rgtB c r)) ∧ Kept w w' := by
 have hq0 : 0 ≤ c / r := Int.ediv_nonneg h0 (by omega)
 have hq1 : c / r ≤ 15 := Int.le_trans (Int.ediv_le_self r h0) h1
 have hrz : (r == 0) = false := beq_eq_false_iff_ne.2 (by omega)
 have hrz' : r ≠ 0 := by omega
 have hd : c.tdiv r = c / r := Int.tdiv_eq_ediv_of_nonneg h0
 have HV : Hid (rgtB c r = (c / r % 2 == 1)) := by rfl
 go_enter Tryz.func43, Tryz.ntmps43
 go_wp2
 go_ret
 exact ⟨by rw [HV.out]; rfl, Kept.refl _⟩
theorem rpassed_low (p : Ps) (hB : Brd p.B) (he : p.e < 0) (w : World) :
  Calls Tryz.prog 45 #[.agg (pl p).toArray] w fun e w' => e = .returned (.int .i64 (passI p)) ∧ Kept w w' := by
 have HF : Hid (passI p = -1) := by unfold passI; rw [if_neg (by omega), if_neg (by omega)]; rfl
 have HP := Lib.hid (PAt.new w hB.1)
 have ct := HP.out.turn
 have ce := HP.out.ep
 clear hB
 go_enter Tryz.func45, Tryz.ntmps45
 go_wp2
 go_ret
 exact ⟨by rw [HF.out]; rfl, (Kept.refl _).alloc _⟩
theorem rpassed_high (p : Ps) (hB : Brd p.B) (he : 63 < p.e) (w : World) :
  Calls Tryz.prog 45 #[.agg (pl p).toArray] w fun e w' => e = .returned (.int .i64 (passI p)) ∧ Kept w w' := by
 have HF : Hid (passI p = -1) := by unfold passI; rw [if_neg (by omega), if_neg (by omega)]; rfl
 have he0 : ¬ p.e < 0 := by omega
 have HP := Lib.hid (PAt.new w hB.1)
 have ct := HP.out.turn
 have ce := HP.out.ep
 clear hB
 go_enter Tryz.func45, Tryz.ntmps45
 go_wp2
 go_ret
 exact ⟨by rw [HF.out]; rfl, (Kept.refl _).alloc _⟩
theorem rpassed_side (p : Ps) (hB : Brd p.B) (h0 : 0 ≤ p.e) (h1 : p.e < 64) (t0 : p.t ≠ 0) (t1 : p.t ≠ 1) (w : World) :
  Calls Tryz.prog 45 #[.agg (pl p).toArray] w fun e w' => e = .returned (.int .i64 (passI p)) ∧ Kept w w' := by
 have HF : Hid (passI p = -1) := by unfold passI; rw [if_neg (fun h => t0 h.1), if_neg (fun h => t1 h.1)]; rfl
 have he0 : ¬ p.e < 0 := by omega
 have he1 : ¬ 63 < p.e := by omega
 have b0 : (p.t == 0) = false := beq_eq_false_iff_ne.2 t0
 have b1 : (p.t == 1) = false := beq_eq_false_iff_ne.2 t1
 have HP := Lib.hid (PAt.new w hB.1)
 have ct := HP.out.turn
 have ce := HP.out.ep
 clear hB t0 t1
 go_enter Tryz.func45, Tryz.ntmps45
 go_wp2
 go_ret
 exact ⟨by rw [HF.out]; rfl, (Kept.refl _).alloc _⟩
theorem rpassed_off_w (p : Ps) (hB : Brd p.B) (h0 : 0 ≤ p.e) (h1 : p.e < 64) (ht : p.t = 0) (hr : ¬ (40 ≤ p.e ∧ p.e < 48)) (w : World) :
  Calls Tryz.prog 45 #[.agg (pl p).toArray] w fun e w' => e = .returned (.int .i64 (passI p)) ∧ Kept w w' := by
 have HF : Hid (passI p = -1) := by unfold passI; rw [if_neg (fun h => hr ⟨h.2.1, h.2.2.1⟩), if_neg (fun h => by rw [ht] at h; exact absurd h.1 (by decide))]; rfl
 have he0 : ¬ p.e < 0 := by omega
 have he1 : ¬ 63 < p.e := by omega
 have br : (p.e / 8 == 5) = false := beq_eq_false_iff_ne.2 (by omega)
 have HP := Lib.hid (PAt.new w hB.1)
 have ct := HP.out.turn
 have ce := HP.out.ep
 rw [ht] at ct
 clear hB hr
 go_enter Tryz.func45, Tryz.ntmps45
 go_wp2_with fail
 refine (rrank_yes _ _ h0 h1).mono ?_
 rintro e w' ⟨rfl, rfl⟩
 go_wp2
 go_ret
 exact ⟨by rw [HF.out]; rfl, (Kept.refl _).alloc _⟩
set_option maxHeartbeats 1000000 in
theorem rpassed0_w (p : Ps) (hB : Brd p.B) (ht : p.t = 0) (hlo : 40 ≤ p.e) (hhi : p.e < 48) (e0 : bAt p.B p.e ≠ 0) (w : World) :
  Calls Tryz.prog 45 #[.agg (pl p).toArray] w fun e w' => e = .returned (.int .i64 (passI p)) ∧ Kept w w' := by
 have HF : Hid (passI p = -1) := by unfold passI; rw [if_neg (fun h => e0 h.2.2.2.1), if_neg (fun h => by rw [ht] at h; exact absurd h.1 (by decide))]; rfl
 have b0 : (bAt p.B p.e == 0) = false := beq_eq_false_iff_ne.2 e0
 clear e0
 have he0 : ¬ p.e < 0 := by omega
 have he1 : ¬ 63 < p.e := by omega
 have br : (p.e / 8 == 5) = true := beq_iff_eq.2 (by omega)
 have HP := Lib.hid (PAt.new w hB.1)
 have ct := HP.out.turn
 have ce := HP.out.ep
 rw [ht] at ct
 have c0 := HP.out.sq p.e.toNat (by omega)
 have c1 := HP.out.sq (p.e + 8).toNat (by omega)
 have c2 := HP.out.sq (p.e - 8).toNat (by omega)
 obtain ⟨x00, x01⟩ := hB.2 p.e.toNat (by omega)
 obtain ⟨x10, x11⟩ := hB.2 (p.e + 8).toNat (by omega)
 obtain ⟨x20, x21⟩ := hB.2 (p.e - 8).toNat (by omega)
 unfold bAt at b0
 clear hB
 generalize p.B.getD p.e.toNat 0 = x0 at *
 generalize p.B.getD (p.e + 8).toNat 0 = x1 at *
 generalize p.B.getD (p.e - 8).toNat 0 = x2 at *
 go_enter Tryz.func45, Tryz.ntmps45
 go_wp2_with fail
 refine (rrank_yes _ _ (by omega) (by omega)).mono ?_
 rintro e w' ⟨rfl, rfl⟩
 go_wp2
 go_ret
 exact ⟨by rw [HF.out]; rfl, (Kept.refl _).alloc _⟩
set_option maxHeartbeats 1000000 in
theorem rpassed1_w (p : Ps) (hB : Brd p.B) (ht : p.t = 0) (hlo : 40 ≤ p.e) (hhi : p.e < 48) (e0 : bAt p.B p.e = 0) (e1 : bAt p.B (p.e + 8) ≠ 0) (w : World) :
  Calls Tryz.prog 45 #[.agg (pl p).toArray] w fun e w' => e = .returned (.int .i64 (passI p)) ∧ Kept w w' := by
 have HF : Hid (passI p = -1) := by unfold passI; rw [if_neg (fun h => e1 h.2.2.2.2.1), if_neg (fun h => by rw [ht] at h; exact absurd h.1 (by decide))]; rfl
 have b0 : (bAt p.B p.e == 0) = true := beq_iff_eq.2 e0
 have b1 : (bAt p.B (p.e + 8) == 0) = false := beq_eq_false_iff_ne.2 e1
 clear e0 e1
 have he0 : ¬ p.e < 0 := by omega
 have he1 : ¬ 63 < p.e := by omega
 have br : (p.e / 8 == 5) = true := beq_iff_eq.2 (by omega)
 have HP := Lib.hid (PAt.new w hB.1)
 have ct := HP.out.turn
 have ce := HP.out.ep
 rw [ht] at ct
 have c0 := HP.out.sq p.e.toNat (by omega)
 have c1 := HP.out.sq (p.e + 8).toNat (by omega)
 have c2 := HP.out.sq (p.e - 8).toNat (by omega)
 obtain ⟨x00, x01⟩ := hB.2 p.e.toNat (by omega)
 obtain ⟨x10, x11⟩ := hB.2 (p.e + 8).toNat (by omega)
 obtain ⟨x20, x21⟩ := hB.2 (p.e - 8).toNat (by omega)
 unfold bAt at b0 b1
 clear hB
 generalize p.B.getD p.e.toNat 0 = x0 at *
 generalize p.B.getD (p.e + 8).toNat 0 = x1 at *
 generalize p.B.getD (p.e - 8).toNat 0 = x2 at *
 go_enter Tryz.func45, Tryz.ntmps45
 go_wp2_with fail
 refine (rrank_yes _ _ (by omega) (by omega)).mono ?_
 rintro e w' ⟨rfl, rfl⟩
 go_wp2
 go_ret
 exact ⟨by rw [HF.out]; rfl, (Kept.refl _).alloc _⟩
set_option maxHeartbeats 1000000 in
theorem rpassed2_w (p : Ps) (hB : Brd p.B) (ht : p.t = 0) (hlo : 40 ≤ p.e) (hhi : p.e < 48) (e0 : bAt p.B p.e = 0) (e1 : bAt p.B (p.e + 8) = 0) (e2 : bAt p.B (p.e - 8) ≠ (-1)) (w : World) :
  Calls Tryz.prog 45 #[.agg (pl p).toArray] w fun e w' => e = .returned (.int .i64 (passI p)) ∧ Kept w w' := by
 have HF : Hid (passI p = -1) := by unfold passI; rw [if_neg (fun h => e2 h.2.2.2.2.2), if_neg (fun h => by rw [ht] at h; exact absurd h.1 (by decide))]; rfl
 have b0 : (bAt p.B p.e == 0) = true := beq_iff_eq.2 e0
 have b1 : (bAt p.B (p.e + 8) == 0) = true := beq_iff_eq.2 e1
 have b2 : (bAt p.B (p.e - 8) == (-1)) = false := beq_eq_false_iff_ne.2 e2
 clear e0 e1 e2
 have he0 : ¬ p.e < 0 := by omega
 have he1 : ¬ 63 < p.e := by omega
 have br : (p.e / 8 == 5) = true := beq_iff_eq.2 (by omega)
 have HP := Lib.hid (PAt.new w hB.1)
 have ct := HP.out.turn
 have ce := HP.out.ep
 rw [ht] at ct
 have c0 := HP.out.sq p.e.toNat (by omega)
 have c1 := HP.out.sq (p.e + 8).toNat (by omega)
 have c2 := HP.out.sq (p.e - 8).toNat (by omega)
 obtain ⟨x00, x01⟩ := hB.2 p.e.toNat (by omega)
 obtain ⟨x10, x11⟩ := hB.2 (p.e + 8).toNat (by omega)
 obtain ⟨x20, x21⟩ := hB.2 (p.e - 8).toNat (by omega)
 unfold bAt at b0 b1 b2
 clear hB
 generalize p.B.getD p.e.toNat 0 = x0 at *
 generalize p.B.getD (p.e + 8).toNat 0 = x1 at *
 generalize p.B.getD (p.e - 8).toNat 0 = x2 at *
 go_enter Tryz.func45, Tryz.ntmps45
 go_wp2_with fail
 refine (rrank_yes _ _ (by omega) (by omega)).mono ?_
 rintro e w' ⟨rfl, rfl⟩
 go_wp2
 go_ret
 exact ⟨by rw [HF.out]; rfl, (Kept.refl _).alloc _⟩
set_option maxHeartbeats 1000000 in
theorem rpassed3_w (p : Ps) (hB : Brd p.B) (ht : p.t = 0) (hlo : 40 ≤ p.e) (hhi : p.e < 48) (e0 : bAt p.B p.e = 0) (e1 : bAt p.B (p.e + 8) = 0) (e2 : bAt p.B (p.e - 8) = (-1)) (w : World) :
  Calls Tryz.prog 45 #[.agg (pl p).toArray] w fun e w' => e = .returned (.int .i64 (passI p)) ∧ Kept w w' := by
 have HF : Hid (passI p = p.e - 8) := by unfold passI; rw [if_pos ⟨ht, by omega, by omega, e0, e1, e2⟩]; rfl
 have b0 : (bAt p.B p.e == 0) = true := beq_iff_eq.2 e0
 have b1 : (bAt p.B (p.e + 8) == 0) = true := beq_iff_eq.2 e1
 have b2 : (bAt p.B (p.e - 8) == (-1)) = true := beq_iff_eq.2 e2
 clear e0 e1 e2
 have he0 : ¬ p.e < 0 := by omega
 have he1 : ¬ 63 < p.e := by omega
 have br : (p.e / 8 == 5) = true := beq_iff_eq.2 (by omega)
 have HP := Lib.hid (PAt.new w hB.1)
 have ct := HP.out.turn
 have ce := HP.out.ep
 rw [ht] at ct
 have c0 := HP.out.sq p.e.toNat (by omega)
 have c1 := HP.out.sq (p.e + 8).toNat (by omega)
 have c2 := HP.out.sq (p.e - 8).toNat (by omega)
 obtain ⟨x00, x01⟩ := hB.2 p.e.toNat (by omega)
 obtain ⟨x10, x11⟩ := hB.2 (p.e + 8).toNat (by omega)
 obtain ⟨x20, x21⟩ := hB.2 (p.e - 8).toNat (by omega)
 unfold bAt at b0 b1 b2
 clear hB
 generalize p.B.getD p.e.toNat 0 = x0 at *
 generalize p.B.getD (p.e + 8).toNat 0 = x1 at *
 generalize p.B.getD (p.e - 8).toNat 0 = x2 at *
 go_enter Tryz.func45, Tryz.ntmps45
 go_wp2_with fail
 refine (rrank_yes _ _ (by omega) (by omega)).mono ?_
 rintro e w' ⟨rfl, rfl⟩
 go_wp2
 go_ret
 exact ⟨by rw [HF.out]; rfl, (Kept.refl _).alloc _⟩
theorem rpassed_off_b (p : Ps) (hB : Brd p.B) (h0 : 0 ≤ p.e) (h1 : p.e < 64) (ht : p.t = 1) (hr : ¬ (16 ≤ p.e ∧ p.e < 24)) (w : World) :
  Calls Tryz.prog 45 #[.agg (pl p).toArray] w fun e w' => e = .returned (.int .i64 (passI p)) ∧ Kept w w' := by
 have HF : Hid (passI p = -1) := by unfold passI; rw [if_neg (fun h => by rw [ht] at h; exact absurd h.1 (by decide)), if_neg (fun h => hr ⟨h.2.1, h.2.2.1⟩)]; rfl
 have he0 : ¬ p.e < 0 := by omega
 have he1 : ¬ 63 < p.e := by omega
 have br : (p.e / 8 == 2) = false := beq_eq_false_iff_ne.2 (by omega)
 have HP := Lib.hid (PAt.new w hB.1)
 have ct := HP.out.turn
 have ce := HP.out.ep
 rw [ht] at ct
 clear hB hr
 go_enter Tryz.func45, Tryz.ntmps45
 go_wp2_with fail
 refine (rrank_yes _ _ h0 h1).mono ?_
 rintro e w' ⟨rfl, rfl⟩
 go_wp2
 go_ret
 exact ⟨by rw [HF.out]; rfl, (Kept.refl _).alloc _⟩
set_option maxHeartbeats 1000000 in
theorem rpassed0_b (p : Ps) (hB : Brd p.B) (ht : p.t = 1) (hlo : 16 ≤ p.e) (hhi : p.e < 24) (e0 : bAt p.B p.e ≠ 0) (w : World) :
  Calls Tryz.prog 45 #[.agg (pl p).toArray] w fun e w' => e = .returned (.int .i64 (passI p)) ∧ Kept w w' := by
 have HF : Hid (passI p = -1) := by unfold passI; rw [if_neg (fun h => by rw [ht] at h; exact absurd h.1 (by decide)), if_neg (fun h => e0 h.2.2.2.1)]; rfl
 have b0 : (bAt p.B p.e == 0) = false := beq_eq_false_iff_ne.2 e0
 clear e0
 have he0 : ¬ p.e < 0 := by omega
 have he1 : ¬ 63 < p.e := by omega
 have br : (p.e / 8 == 2) = true := beq_iff_eq.2 (by omega)
 have HP := Lib.hid (PAt.new w hB.1)
 have ct := HP.out.turn
 have ce := HP.out.ep
 rw [ht] at ct
 have c0 := HP.out.sq p.e.toNat (by omega)
 have c1 := HP.out.sq (p.e - 8).toNat (by omega)
 have c2 := HP.out.sq (p.e + 8).toNat (by omega)
 obtain ⟨x00, x01⟩ := hB.2 p.e.toNat (by omega)
 obtain ⟨x10, x11⟩ := hB.2 (p.e - 8).toNat (by omega)
 obtain ⟨x20, x21⟩ := hB.2 (p.e + 8).toNat (by omega)
 unfold bAt at b0
 clear hB
 generalize p.B.getD p.e.toNat 0 = x0 at *
 generalize p.B.getD (p.e - 8).toNat 0 = x1 at *
 generalize p.B.getD (p.e + 8).toNat 0 = x2 at *
 go_enter Tryz.func45, Tryz.ntmps45
 go_wp2_with fail
 refine (rrank_yes _ _ (by omega) (by omega)).mono ?_
 rintro e w' ⟨rfl, rfl⟩
 go_wp2
 go_ret
 exact ⟨by rw [HF.out]; rfl, (Kept.refl _).alloc _⟩
set_option maxHeartbeats 1000000 in
theorem rpassed1_b (p : Ps) (hB : Brd p.B) (ht : p.t = 1) (hlo : 16 ≤ p.e) (hhi : p.e < 24) (e0 : bAt p.B p.e = 0) (e1 : bAt p.B (p.e - 8) ≠ 0) (w : World) :
  Calls Tryz.prog 45 #[.agg (pl p).toArray] w fun e w' => e = .returned (.int .i64 (passI p)) ∧ Kept w w' := by
 have HF : Hid (passI p = -1) := by unfold passI; rw [if_neg (fun h => by rw [ht] at h; exact absurd h.1 (by decide)), if_neg (fun h => e1 h.2.2.2.2.1)]; rfl
 have b0 : (bAt p.B p.e == 0) = true := beq_iff_eq.2 e0
 have b1 : (bAt p.B (p.e - 8) == 0) = false := beq_eq_false_iff_ne.2 e1
 clear e0 e1
 have he0 : ¬ p.e < 0 := by omega
 have he1 : ¬ 63 < p.e := by omega
 have br : (p.e / 8 == 2) = true := beq_iff_eq.2 (by omega)
 have HP := Lib.hid (PAt.new w hB.1)
 have ct := HP.out.turn
 have ce := HP.out.ep
 rw [ht] at ct
 have c0 := HP.out.sq p.e.toNat (by omega)
 have c1 := HP.out.sq (p.e - 8).toNat (by omega)
 have c2 := HP.out.sq (p.e + 8).toNat (by omega)
 obtain ⟨x00, x01⟩ := hB.2 p.e.toNat (by omega)
 obtain ⟨x10, x11⟩ := hB.2 (p.e - 8).toNat (by omega)
 obtain ⟨x20, x21⟩ := hB.2 (p.e + 8).toNat (by omega)
 unfold bAt at b0 b1
 clear hB
 generalize p.B.getD p.e.toNat 0 = x0 at *
 generalize p.B.getD (p.e - 8).toNat 0 = x1 at *
 generalize p.B.getD (p.e + 8).toNat 0 = x2 at *
 go_enter Tryz.func45, Tryz.ntmps45
 go_wp2_with fail
 refine (rrank_yes _ _ (by omega) (by omega)).mono ?_
 rintro e w' ⟨rfl, rfl⟩
 go_wp2
 go_ret
 exact ⟨by rw [HF.out]; rfl, (Kept.refl _).alloc _⟩
set_option maxHeartbeats 1000000 in
theorem rpassed2_b (p : Ps) (hB : Brd p.B) (ht : p.t = 1) (hlo : 16 ≤ p.e) (hhi : p.e < 24) (e0 : bAt p.B p.e = 0) (e1 : bAt p.B (p.e - 8) = 0) (e2 : bAt p.B (p.e + 8) ≠ 1) (w : World) :
  Calls Tryz.prog 45 #[.agg (pl p).toArray] w fun e w' => e = .returned (.int .i64 (passI p)) ∧ Kept w w' := by
 have HF : Hid (passI p = -1) := by unfold passI; rw [if_neg (fun h => by rw [ht] at h; exact absurd h.1 (by decide)), if_neg (fun h => e2 h.2.2.2.2.2)]; rfl
 have b0 : (bAt p.B p.e == 0) = true := beq_iff_eq.2 e0
 have b1 : (bAt p.B (p.e - 8) == 0) = true := beq_iff_eq.2 e1
 have b2 : (bAt p.B (p.e + 8) == 1) = false := beq_eq_false_iff_ne.2 e2
 clear e0 e1 e2
 have he0 : ¬ p.e < 0 := by omega
 have he1 : ¬ 63 < p.e := by omega
 have br : (p.e / 8 == 2) = true := beq_iff_eq.2 (by omega)
 have HP := Lib.hid (PAt.new w hB.1)
 have ct := HP.out.turn
 have ce := HP.out.ep
 rw [ht] at ct
 have c0 := HP.out.sq p.e.toNat (by omega)
 have c1 := HP.out.sq (p.e - 8).toNat (by omega)
 have c2 := HP.out.sq (p.e + 8).toNat (by omega)
 obtain ⟨x00, x01⟩ := hB.2 p.e.toNat (by omega)
 obtain ⟨x10, x11⟩ := hB.2 (p.e - 8).toNat (by omega)
 obtain ⟨x20, x21⟩ := hB.2 (p.e + 8).toNat (by omega)
 unfold bAt at b0 b1 b2
 clear hB
 generalize p.B.getD p.e.toNat 0 = x0 at *
 generalize p.B.getD (p.e - 8).toNat 0 = x1 at *
 generalize p.B.getD (p.e + 8).toNat 0 = x2 at *
 go_enter Tryz.func45, Tryz.ntmps45
 go_wp2_with fail
 refine (rrank_yes _ _ (by omega) (by omega)).mono ?_
 rintro e w' ⟨rfl, rfl⟩
 go_wp2
 go_ret
 exact ⟨by rw [HF.out]; rfl, (Kept.refl _).alloc _⟩
set_option maxHeartbeats 1000000 in
theorem rpassed3_b (p : Ps) (hB : Brd p.B) (ht : p.t = 1) (hlo : 16 ≤ p.e) (hhi : p.e < 24) (e0 : bAt p.B p.e = 0) (e1 : bAt p.B (p.e - 8) = 0) (e2 : bAt p.B (p.e + 8) = 1) (w : World) :
  Calls Tryz.prog 45 #[.agg (pl p).toArray] w fun e w' => e = .returned (.int .i64 (passI p)) ∧ Kept w w' := by
 have HF : Hid (passI p = p.e + 8) := by unfold passI; rw [if_neg (fun h => by rw [ht] at h; exact absurd h.1 (by decide)), if_pos ⟨ht, by omega, by omega, e0, e1, e2⟩]; rfl
 have b0 : (bAt p.B p.e == 0) = true := beq_iff_eq.2 e0
 have b1 : (bAt p.B (p.e - 8) == 0) = true := beq_iff_eq.2 e1
 have b2 : (bAt p.B (p.e + 8) == 1) = true := beq_iff_eq.2 e2
 clear e0 e1 e2
 have he0 : ¬ p.e < 0 := by omega
 have he1 : ¬ 63 < p.e := by omega
 have br : (p.e / 8 == 2) = true := beq_iff_eq.2 (by omega)
 have HP := Lib.hid (PAt.new w hB.1)
 have ct := HP.out.turn
 have ce := HP.out.ep
 rw [ht] at ct
 have c0 := HP.out.sq p.e.toNat (by omega)
 have c1 := HP.out.sq (p.e - 8).toNat (by omega)
 have c2 := HP.out.sq (p.e + 8).toNat (by omega)
 obtain ⟨x00, x01⟩ := hB.2 p.e.toNat (by omega)
 obtain ⟨x10, x11⟩ := hB.2 (p.e - 8).toNat (by omega)
 obtain ⟨x20, x21⟩ := hB.2 (p.e + 8).toNat (by omega)
 unfold bAt at b0 b1 b2
 clear hB
 generalize p.B.getD p.e.toNat 0 = x0 at *
 generalize p.B.getD (p.e - 8).toNat 0 = x1 at *
 generalize p.B.getD (p.e + 8).toNat 0 = x2 at *
 go_enter Tryz.func45, Tryz.ntmps45
 go_wp2_with fail
 refine (rrank_yes _ _ (by omega) (by omega)).mono ?_
 rintro e w' ⟨rfl, rfl⟩
 go_wp2
 go_ret
 exact ⟨by rw [HF.out]; rfl, (Kept.refl _).alloc _⟩
theorem rpassed_is (p : Ps) (hB : Brd p.B) (w : World) :
  Calls Tryz.prog 45 #[.agg (pl p).toArray] w fun e w' => e = .returned (.int .i64 (passI p)) ∧ Kept w w' := by
 by_cases a0 : p.e < 0
 ·exact rpassed_low p hB a0 w
 ·by_cases a1 : 63 < p.e
  ·exact rpassed_high p hB a1 w
  ·by_cases h0 : p.t = 0
   ·by_cases hr : 40 ≤ p.e ∧ p.e < 48
    ·by_cases e0 : bAt p.B p.e = 0
     ·by_cases e1 : bAt p.B (p.e + 8) = 0
      ·by_cases e2 : bAt p.B (p.e - 8) = (-1)
       ·exact rpassed3_w p hB h0 hr.1 hr.2 e0 e1 e2 w
       ·exact rpassed2_w p hB h0 hr.1 hr.2 e0 e1 e2 w
      ·exact rpassed1_w p hB h0 hr.1 hr.2 e0 e1 w
     ·exact rpassed0_w p hB h0 hr.1 hr.2 e0 w
    ·exact rpassed_off_w p hB (by omega) (by omega) h0 hr w
   ·by_cases h1 : p.t = 1
    ·by_cases hr : 16 ≤ p.e ∧ p.e < 24
     ·by_cases e0 : bAt p.B p.e = 0
      ·by_cases e1 : bAt p.B (p.e - 8) = 0
       ·by_cases e2 : bAt p.B (p.e + 8) = 1
        ·exact rpassed3_b p hB h1 hr.1 hr.2 e0 e1 e2 w
        ·exact rpassed2_b p hB h1 hr.1 hr.2 e0 e1 e2 w
       ·exact rpassed1_b p hB h1 hr.1 hr.2 e0 e1 w
      ·exact rpassed0_b p hB h1 hr.1 hr.2 e0 w
     ·exact rpassed_off_b p hB (by omega) (by omega) h1 hr w
    ·exact rpassed_side p hB (by omega) (by omega) h0 h1 w
theorem rpw_board (p : Ps) (hB : Brd p.B) (a0 : wrongI p.B ≠ 0) (w : World) :
  Calls Tryz.prog 20 #[.agg (pl p).toArray] w fun e w' => e = .returned (.int .i64 (pwI p)) ∧ Kept w w' := by
 have HP := Lib.hid (PAt.new w hB.1)
 have HK0 := Lib.hid ((Kept.refl w).alloc (.cells (pl p).toArray 26))
 have HB := Lib.hid hB
 have HC0 := Lib.hid (rwrong_is p.B hB)
 have HF : Hid (pwI p = wrongI p.B) := by unfold pwI; rw [if_pos a0]; rfl
 have b0 : (wrongI p.B != 0) = true := bne_iff_ne.2 a0
 clear hB a0
 go_enter Tryz.func20, Tryz.ntmps20
 go_wp2_with (first | (refine wpList_load_ps (by rfl) _ rfl _ rfl _ (HP.out) ?_) | (refine wpList_load_pb (by rfl) _ rfl _ rfl _ (HP.out) ?_))
 refine (HC0.out _).mono ?_
 rintro e w1 ⟨rfl, k1⟩
 have HK1 := Lib.hid (HK0.out.trans k1)
 have HP1 := Lib.hid (HP.out.kept k1)
 have ct := HP1.out.turn
 have cc := HP1.out.cas
 have ce := HP1.out.ep
 clear k1
 go_wp2
 go_ret
 exact ⟨by rw [HF.out]; rfl, HK1.out⟩
theorem rpw_t0 (p : Ps) (hB : Brd p.B) (a0 : wrongI p.B = 0) (h : p.t < 0) (w : World) :
  Calls Tryz.prog 20 #[.agg (pl p).toArray] w fun e w' => e = .returned (.int .i64 (pwI p)) ∧ Kept w w' := by
 have HP := Lib.hid (PAt.new w hB.1)
 have HK0 := Lib.hid ((Kept.refl w).alloc (.cells (pl p).toArray 26))
 have HB := Lib.hid hB
 have HC0 := Lib.hid (rwrong_is p.B hB)
 have HF : Hid (pwI p = 5) := by
  have : withinB p = false := by rw [← Bool.not_eq_true, within_iff]; omega
  unfold pwI; rw [if_neg (by omega), if_pos this]; rfl
 rw [a0] at HC0
 clear hB a0
 go_enter Tryz.func20, Tryz.ntmps20
 go_wp2_with (first | (refine wpList_load_ps (by rfl) _ rfl _ rfl _ (HP.out) ?_) | (refine wpList_load_pb (by rfl) _ rfl _ rfl _ (HP.out) ?_))
 refine (HC0.out _).mono ?_
 rintro e w1 ⟨rfl, k1⟩
 have HK1 := Lib.hid (HK0.out.trans k1)
 have HP1 := Lib.hid (HP.out.kept k1)
 have ct := HP1.out.turn
 have cc := HP1.out.cas
 have ce := HP1.out.ep
 clear k1
 go_wp2
 go_ret
 exact ⟨by rw [HF.out]; rfl, HK1.out⟩
theorem rpw_t1 (p : Ps) (hB : Brd p.B) (a0 : wrongI p.B = 0) (h : 1 < p.t) (w : World) :
  Calls Tryz.prog 20 #[.agg (pl p).toArray] w fun e w' => e = .returned (.int .i64 (pwI p)) ∧ Kept w w' := by
 have HP := Lib.hid (PAt.new w hB.1)
 have HK0 := Lib.hid ((Kept.refl w).alloc (.cells (pl p).toArray 26))
 have HB := Lib.hid hB
 have HC0 := Lib.hid (rwrong_is p.B hB)
 have HF : Hid (pwI p = 5) := by
  have : withinB p = false := by rw [← Bool.not_eq_true, within_iff]; omega
  unfold pwI; rw [if_neg (by omega), if_pos this]; rfl
 have n0 : ¬ p.t < 0 := by omega
 rw [a0] at HC0
 clear hB a0
 go_enter Tryz.func20, Tryz.ntmps20
 go_wp2_with (first | (refine wpList_load_ps (by rfl) _ rfl _ rfl _ (HP.out) ?_) | (refine wpList_load_pb (by rfl) _ rfl _ rfl _ (HP.out) ?_))
 refine (HC0.out _).mono ?_
 rintro e w1 ⟨rfl, k1⟩
 have HK1 := Lib.hid (HK0.out.trans k1)
 have HP1 := Lib.hid (HP.out.kept k1)
 have ct := HP1.out.turn
 have cc := HP1.out.cas
 have ce := HP1.out.ep
 clear k1
 go_wp2
 go_ret
 exact ⟨by rw [HF.out]; rfl, HK1.out⟩
theorem rpw_c0 (p : Ps) (hB : Brd p.B) (a0 : wrongI p.B = 0) (n0 : ¬ p.t < 0) (n1 : ¬ 1 < p.t) (h : p.c < 0) (w : World) :
  Calls Tryz.prog 20 #[.agg (pl p).toArray] w fun e w' => e = .returned (.int .i64 (pwI p)) ∧ Kept w w' := by
 have HP := Lib.hid (PAt.new w hB.1)
 have HK0 := Lib.hid ((Kept.refl w).alloc (.cells (pl p).toArray 26))
 have HB := Lib.hid hB
 have HC0 := Lib.hid (rwrong_is p.B hB)
 have HF : Hid (pwI p = 5) := by
  have : withinB p = false := by rw [← Bool.not_eq_true, within_iff]; omega
  unfold pwI; rw [if_neg (by omega), if_pos this]; rfl
 rw [a0] at HC0
 clear hB a0
 go_enter Tryz.func20, Tryz.ntmps20
 go_wp2_with (first | (refine wpList_load_ps (by rfl) _ rfl _ rfl _ (HP.out) ?_) | (refine wpList_load_pb (by rfl) _ rfl _ rfl _ (HP.out) ?_))
 refine (HC0.out _).mono ?_
 rintro e w1 ⟨rfl, k1⟩
 have HK1 := Lib.hid (HK0.out.trans k1)
 have HP1 := Lib.hid (HP.out.kept k1)
 have ct := HP1.out.turn
 have cc := HP1.out.cas
 have ce := HP1.out.ep
 clear k1
 go_wp2
 go_ret
 exact ⟨by rw [HF.out]; rfl, HK1.out⟩
theorem rpw_c1 (p : Ps) (hB : Brd p.B) (a0 : wrongI p.B = 0) (n0 : ¬ p.t < 0) (n1 : ¬ 1 < p.t) (h : 15 < p.c) (w : World) :
  Calls Tryz.prog 20 #[.agg (pl p).toArray] w fun e w' => e = .returned (.int .i64 (pwI p)) ∧ Kept w w' := by
 have HP := Lib.hid (PAt.new w hB.1)
 have HK0 := Lib.hid ((Kept.refl w).alloc (.cells (pl p).toArray 26))
 have HB := Lib.hid hB
 have HC0 := Lib.hid (rwrong_is p.B hB)
 have HF : Hid (pwI p = 5) := by
  have : withinB p = false := by rw [← Bool.not_eq_true, within_iff]; omega
  unfold pwI; rw [if_neg (by omega), if_pos this]; rfl
 have n2 : ¬ p.c < 0 := by omega
 rw [a0] at HC0
 clear hB a0
 go_enter Tryz.func20, Tryz.ntmps20
 go_wp2_with (first | (refine wpList_load_ps (by rfl) _ rfl _ rfl _ (HP.out) ?_) | (refine wpList_load_pb (by rfl) _ rfl _ rfl _ (HP.out) ?_))
 refine (HC0.out _).mono ?_
 rintro e w1 ⟨rfl, k1⟩
 have HK1 := Lib.hid (HK0.out.trans k1)
 have HP1 := Lib.hid (HP.out.kept k1)
 have ct := HP1.out.turn
 have cc := HP1.out.cas
 have ce := HP1.out.ep
 clear k1
 go_wp2
 go_ret
 exact ⟨by rw [HF.out]; rfl, HK1.out⟩
theorem rpw_e0 (p : Ps) (hB : Brd p.B) (a0 : wrongI p.B = 0) (n0 : ¬ p.t < 0) (n1 : ¬ 1 < p.t) (n2 : ¬ p.c < 0) (n3 : ¬ 15 < p.c) (h : p.e < -1) (w : World) :
  Calls Tryz.prog 20 #[.agg (pl p).toArray] w fun e w' => e = .returned (.int .i64 (pwI p)) ∧ Kept w w' := by
 have HP := Lib.hid (PAt.new w hB.1)
 have HK0 := Lib.hid ((Kept.refl w).alloc (.cells (pl p).toArray 26))
 have HB := Lib.hid hB
 have HC0 := Lib.hid (rwrong_is p.B hB)
 have HF : Hid (pwI p = 5) := by
  have : withinB p = false := by rw [← Bool.not_eq_true, within_iff]; omega
  unfold pwI; rw [if_neg (by omega), if_pos this]; rfl
 rw [a0] at HC0
 clear hB a0
 go_enter Tryz.func20, Tryz.ntmps20
 go_wp2_with (first | (refine wpList_load_ps (by rfl) _ rfl _ rfl _ (HP.out) ?_) | (refine wpList_load_pb (by rfl) _ rfl _ rfl _ (HP.out) ?_))
 refine (HC0.out _).mono ?_
 rintro e w1 ⟨rfl, k1⟩
 have HK1 := Lib.hid (HK0.out.trans k1)
 have HP1 := Lib.hid (HP.out.kept k1)
 have ct := HP1.out.turn
 have cc := HP1.out.cas
 have ce := HP1.out.ep
 clear k1
 go_wp2
 go_ret
 exact ⟨by rw [HF.out]; rfl, HK1.out⟩
theorem rpw_e1 (p : Ps) (hB : Brd p.B) (a0 : wrongI p.B = 0) (n0 : ¬ p.t < 0) (n1 : ¬ 1 < p.t) (n2 : ¬ p.c < 0) (n3 : ¬ 15 < p.c) (h : 63 < p.e) (w : World) :
  Calls Tryz.prog 20 #[.agg (pl p).toArray] w fun e w' => e = .returned (.int .i64 (pwI p)) ∧ Kept w w' := by
 have HP := Lib.hid (PAt.new w hB.1)
 have HK0 := Lib.hid ((Kept.refl w).alloc (.cells (pl p).toArray 26))
 have HB := Lib.hid hB
 have HC0 := Lib.hid (rwrong_is p.B hB)
 have HF : Hid (pwI p = 5) := by
  have : withinB p = false := by rw [← Bool.not_eq_true, within_iff]; omega
  unfold pwI; rw [if_neg (by omega), if_pos this]; rfl
 have n4 : ¬ p.e < -1 := by omega
 rw [a0] at HC0
 clear hB a0
 go_enter Tryz.func20, Tryz.ntmps20
 go_wp2_with (first | (refine wpList_load_ps (by rfl) _ rfl _ rfl _ (HP.out) ?_) | (refine wpList_load_pb (by rfl) _ rfl _ rfl _ (HP.out) ?_))
 refine (HC0.out _).mono ?_
 rintro e w1 ⟨rfl, k1⟩
 have HK1 := Lib.hid (HK0.out.trans k1)
 have HP1 := Lib.hid (HP.out.kept k1)
 have ct := HP1.out.turn
 have cc := HP1.out.cas
 have ce := HP1.out.ep
 clear k1
 go_wp2
 go_ret
 exact ⟨by rw [HF.out]; rfl, HK1.out⟩
set_option maxRecDepth 100000 in
set_option maxHeartbeats 2000000 in
theorem rpw_far (p : Ps) (hB : Brd p.B) (a0 : wrongI p.B = 0) (a1 : withinB p = true) (ha : (farA (kingI p.B 0) (kingI p.B 1) == 1) = true) (w : World) :
  Calls Tryz.prog 20 #[.agg (pl p).toArray] w fun e w' => e = .returned (.int .i64 (pwI p)) ∧ Kept w w' := by
 have HP := Lib.hid (PAt.new w hB.1)
 have HK0 := Lib.hid ((Kept.refl w).alloc (.cells (pl p).toArray 26))
 have HB := Lib.hid hB
 have HC0 := Lib.hid (rwrong_is p.B hB)
 obtain ⟨t01, ⟨c0, c1⟩, e0, e1⟩ := (within_iff p).1 a1
 have hwr : IntKind.i64.wrap (1 - p.t) = 1 - p.t := by rcases t01 with h | h <;> rw [h] <;> decide
 have n0 : ¬ p.t < 0 := by omega
 have n1 : ¬ 1 < p.t := by omega
 have n2 : ¬ p.c < 0 := by omega
 have n3 : ¬ 15 < p.c := by omega
 have n4 : ¬ p.e < -1 := by omega
 have n5 : ¬ 63 < p.e := by omega
 have HKa := Lib.hid (rking_is p.B hB 0)
 have HKb := Lib.hid (rking_is p.B hB 1)
 have HFa := Lib.hid (rfar_any (kingI p.B 0) (kingI p.B 1))
 have HCk := Lib.hid (rcheck_is p.B hB (1 - p.t) (by omega))
 have HTo : Hid (touchB p = ((farA (kingI p.B 0) (kingI p.B 1) == 1) || checkB p.B (1 - p.t))) := by
  have : otherI p.t = 1 - p.t := by unfold otherI; split <;> first | omega | (split <;> omega)
  unfold touchB; rw [this]; rfl
 rw [ha] at HTo
 have HF : Hid (pwI p = 9) := by
  unfold pwI; rw [if_neg (by omega), if_neg (by rw [a1]; decide), if_pos (by rw [HTo.out]; rfl)]; rfl
 rw [a0] at HC0
 clear hB a0 a1 HTo 
 generalize farA (kingI p.B 0) (kingI p.B 1) = F at *
 generalize checkB p.B (1 - p.t) = cb at *
 generalize kingI p.B 0 = K0 at *
 generalize kingI p.B 1 = K1 at *
 go_enter Tryz.func20, Tryz.ntmps20
 go_wp2_with (first | (refine wpList_load_ps (by rfl) _ rfl _ rfl _ (HP.out) ?_) | (refine wpList_load_pb (by rfl) _ rfl _ rfl _ (HP.out) ?_))
 refine (HC0.out _).mono ?_
 rintro e w1 ⟨rfl, k1⟩
 have HK1 := Lib.hid (HK0.out.trans k1)
 have HP1 := Lib.hid (HP.out.kept k1)
 have ct := HP1.out.turn
 have cc := HP1.out.cas
 have ce := HP1.out.ep
 clear k1
 go_wp2
 refine wp_region_held_drew (S := Kept _) (by kernel_rfl) (Kept.refl _).drew (fun hHeld => ?_)
 refine rT 0 39 (.pointer (some ⟨w.heap.size, 0, none⟩)) rfl rfl hHeld ?_
 simp only [pA, pN, sZ, sU]
 refine rY 1 40 rfl rfl (take_load_pb (by rfl) _ rfl _ rfl p HB.out.1 (fun _ h => (HP1.out).kept h)) hHeld ?_
 simp only [pA, pN, sZ, sU]
 refine rT 3 42 (.pointer (some ⟨w.heap.size, 0, none⟩)) rfl rfl hHeld ?_
 simp only [pA, pN, sZ, sU]
 refine rY 4 43 rfl rfl (take_load_pb (by rfl) _ rfl _ rfl p HB.out.1 (fun _ h => (HP1.out).kept h)) hHeld ?_
 simp only [pA, pN, sZ, sU]
 refine rR 2 rfl (fun K hK => ?_)
 go_simp
 refine (HKa.out _).mono ?_
 rintro e x1 ⟨rfl, gx1⟩
 refine hK.out _ _ (hHeld.trans gx1) (fun _ => ?_)
 replace hHeld := hHeld.trans gx1
 clear hK K
 refine rR 5 rfl (fun K hK => ?_)
 go_simp
 refine (HKb.out _).mono ?_
 rintro e x2 ⟨rfl, gx2⟩
 refine hK.out _ _ (hHeld.trans gx2) (fun _ => ?_)
 replace hHeld := hHeld.trans gx2
 clear hK K
 refine rR 6 rfl (fun K hK => ?_)
 go_simp
 refine (HFa.out _).mono ?_
 rintro e x3 ⟨rfl, gx3⟩
 refine hK.out _ _ (hHeld.trans gx3) (fun _ => ?_)
 replace hHeld := hHeld.trans gx3
 clear hK K
 refine rT 7 46 (.bool true) rfl rfl hHeld ?_
 simp only [pA, pN, sZ, sU]
 refine rT 8 47 (.bool true) rfl rfl hHeld ?_
 simp only [pA, pN, sZ, sU]
 refine rN 9 48 rfl rfl hHeld ?_
 simp only [pA, pN, sZ, sU]
 refine rN 10 49 rfl rfl hHeld ?_
 simp only [pA, pN, sZ, sU]
 refine rN 11 50 rfl rfl hHeld ?_
 simp only [pA, pN, sZ, sU]
 refine rN 12 51 rfl rfl hHeld ?_
 simp only [pA, pN, sZ, sU]
 refine rN 13 52 rfl rfl hHeld ?_
 simp only [pA, pN, sZ, sU]
 refine rN 14 53 rfl rfl hHeld ?_
 simp only [pA, pN, sZ, sU]
 refine rT 15 54 (.bool true) rfl rfl hHeld ?_
 simp only [pA, pN, sZ, sU]
 refine wpAnyH_done (by kernel_rfl) ?_ _
 have HA := Lib.hid hHeld
 clear hHeld ct cc ce
 go_wp2
 go_ret
 exact ⟨by rw [HF.out]; rfl, HK1.out.trans HA.out⟩
set_option maxRecDepth 100000 in
set_option maxHeartbeats 2000000 in
theorem rpw_chk (p : Ps) (hB : Brd p.B) (a0 : wrongI p.B = 0) (a1 : withinB p = true) (ha : (farA (kingI p.B 0) (kingI p.B 1) == 1) = false) (hb : checkB p.B (1 - p.t) = true) (w : World) :
  Calls Tryz.prog 20 #[.agg (pl p).toArray] w fun e w' => e = .returned (.int .i64 (pwI p)) ∧ Kept w w' := by
 have HP := Lib.hid (PAt.new w hB.1)
 have HK0 := Lib.hid ((Kept.refl w).alloc (.cells (pl p).toArray 26))
 have HB := Lib.hid hB
 have HC0 := Lib.hid (rwrong_is p.B hB)
 obtain ⟨t01, ⟨c0, c1⟩, e0, e1⟩ := (within_iff p).1 a1
 have hwr : IntKind.i64.wrap (1 - p.t) = 1 - p.t := by rcases t01 with h | h <;> rw [h] <;> decide
 have n0 : ¬ p.t < 0 := by omega
 have n1 : ¬ 1 < p.t := by omega
 have n2 : ¬ p.c < 0 := by omega
 have n3 : ¬ 15 < p.c := by omega
 have n4 : ¬ p.e < -1 := by omega
 have n5 : ¬ 63 < p.e := by omega
 have HKa := Lib.hid (rking_is p.B hB 0)
 have HKb := Lib.hid (rking_is p.B hB 1)
 have HFa := Lib.hid (rfar_any (kingI p.B 0) (kingI p.B 1))
 have HCk := Lib.hid (rcheck_is p.B hB (1 - p.t) (by omega))
 have HTo : Hid (touchB p = ((farA (kingI p.B 0) (kingI p.B 1) == 1) || checkB p.B (1 - p.t))) := by
  have : otherI p.t = 1 - p.t := by unfold otherI; split <;> first | omega | (split <;> omega)
  unfold touchB; rw [this]; rfl
 rw [ha, hb] at HTo
 have HF : Hid (pwI p = 9) := by
  unfold pwI; rw [if_neg (by omega), if_neg (by rw [a1]; decide), if_pos (by rw [HTo.out]; rfl)]; rfl
 rw [a0] at HC0
 rw [hb] at HCk
 clear hB a0 a1 HTo hb 
 generalize farA (kingI p.B 0) (kingI p.B 1) = F at *
 generalize kingI p.B 0 = K0 at *
 generalize kingI p.B 1 = K1 at *
 go_enter Tryz.func20, Tryz.ntmps20
 go_wp2_with (first | (refine wpList_load_ps (by rfl) _ rfl _ rfl _ (HP.out) ?_) | (refine wpList_load_pb (by rfl) _ rfl _ rfl _ (HP.out) ?_))
 refine (HC0.out _).mono ?_
 rintro e w1 ⟨rfl, k1⟩
 have HK1 := Lib.hid (HK0.out.trans k1)
 have HP1 := Lib.hid (HP.out.kept k1)
 have ct := HP1.out.turn
 have cc := HP1.out.cas
 have ce := HP1.out.ep
 clear k1
 go_wp2
 refine wp_region_held_drew (S := Kept _) (by kernel_rfl) (Kept.refl _).drew (fun hHeld => ?_)
 refine rT 0 39 (.pointer (some ⟨w.heap.size, 0, none⟩)) rfl rfl hHeld ?_
 simp only [pA, pN, sZ, sU]
 refine rY 1 40 rfl rfl (take_load_pb (by rfl) _ rfl _ rfl p HB.out.1 (fun _ h => (HP1.out).kept h)) hHeld ?_
 simp only [pA, pN, sZ, sU]
 refine rT 3 42 (.pointer (some ⟨w.heap.size, 0, none⟩)) rfl rfl hHeld ?_
 simp only [pA, pN, sZ, sU]
 refine rY 4 43 rfl rfl (take_load_pb (by rfl) _ rfl _ rfl p HB.out.1 (fun _ h => (HP1.out).kept h)) hHeld ?_
 simp only [pA, pN, sZ, sU]
 refine rR 2 rfl (fun K hK => ?_)
 go_simp
 refine (HKa.out _).mono ?_
 rintro e x1 ⟨rfl, gx1⟩
 refine hK.out _ _ (hHeld.trans gx1) (fun _ => ?_)
 replace hHeld := hHeld.trans gx1
 clear hK K
 refine rR 5 rfl (fun K hK => ?_)
 go_simp
 refine (HKb.out _).mono ?_
 rintro e x2 ⟨rfl, gx2⟩
 refine hK.out _ _ (hHeld.trans gx2) (fun _ => ?_)
 replace hHeld := hHeld.trans gx2
 clear hK K
 refine rR 6 rfl (fun K hK => ?_)
 go_simp
 refine (HFa.out _).mono ?_
 rintro e x3 ⟨rfl, gx3⟩
 refine hK.out _ _ (hHeld.trans gx3) (fun _ => ?_)
 replace hHeld := hHeld.trans gx3
 clear hK K
 refine rT 7 46 (.bool false) rfl rfl hHeld ?_
 simp only [pA, pN, sZ, sU]
 refine rT 8 47 (.bool false) rfl rfl hHeld ?_
 simp only [pA, pN, sZ, sU]
 refine rT 9 48 (.pointer (some ⟨w.heap.size, 0, none⟩)) rfl rfl hHeld ?_
 simp only [pA, pN, sZ, sU]
 refine rY 10 49 rfl rfl (take_load_pb (by rfl) _ rfl _ rfl p HB.out.1 (fun _ h => (HP1.out).kept h)) hHeld ?_
 simp only [pA, pN, sZ, sU]
 refine rT 11 50 (.pointer (some ⟨w.heap.size, 64, none⟩)) rfl rfl hHeld ?_
 simp only [pA, pN, sZ, sU]
 refine rC 12 51 (.int .i64 p.t) rfl rfl (fun _ h => kept_cell h (HP1.out.turn)) hHeld ?_
 simp only [pA, pN, sZ, sU]
 refine rT 13 52 (.int .i64 (1 - p.t)) rfl rfl hHeld ?_
 simp only [pA, pN, sZ, sU]
 refine rR 14 rfl (fun K hK => ?_)
 go_simp
 refine (HCk.out _).mono ?_
 rintro e x4 ⟨rfl, gx4⟩
 refine hK.out _ _ (hHeld.trans gx4) (fun _ => ?_)
 replace hHeld := hHeld.trans gx4
 clear hK K
 refine rT 15 54 (.bool true) rfl rfl hHeld ?_
 simp only [pA, pN, sZ, sU]
 refine wpAnyH_done (by kernel_rfl) ?_ _
 have HA := Lib.hid hHeld
 clear hHeld ct cc ce
 go_wp2
 go_ret
 exact ⟨by rw [HF.out]; rfl, HK1.out.trans HA.out⟩
/-- The rights, one behind the other. -/
def rg (k : Nat) : Int := [1, 2, 4, 8, 16].getD k 0
theorem rg_at {k : Nat} (hk : k < 4) : rg k = hR k ∧ 1 ≤ rg k ∧ rg k ≤ 8 ∧ 2 * rg k = rg (k + 1) := by
 have : k = 0 ∨ k = 1 ∨ k = 2 ∨ k = 3 := by omega
 rcases this with rfl | rfl | rfl | rfl <;> decide
theorem rg_end {k : Nat} (hk : k ≤ 4) (h : ¬ k < 4) : ¬ rg k ≤ 8 := by
 obtain rfl : k = 4 := by omega
 decide
set_option maxRecDepth 100000 in
set_option maxHeartbeats 4000000 in
theorem rpw_rest (p : Ps) (hB : Brd p.B) (a0 : wrongI p.B = 0) (a1 : withinB p = true) (a2 : touchB p = false) (w : World) :
  Calls Tryz.prog 20 #[.agg (pl p).toArray] w fun e w' => e = .returned (.int .i64 (pwI p)) ∧ Kept w w' := by
 have HP := Lib.hid (PAt.new w hB.1)
 have HK0 := Lib.hid ((Kept.refl w).alloc (.cells (pl p).toArray 26))
 have HB := Lib.hid hB
 have HC0 := Lib.hid (rwrong_is p.B hB)
 obtain ⟨t01, ⟨c0, c1⟩, e0, e1⟩ := (within_iff p).1 a1
 have hwr : IntKind.i64.wrap (1 - p.t) = 1 - p.t := by rcases t01 with h | h <;> rw [h] <;> decide
 have n0 : ¬ p.t < 0 := by omega
 have n1 : ¬ 1 < p.t := by omega
 have n2 : ¬ p.c < 0 := by omega
 have n3 : ¬ 15 < p.c := by omega
 have n4 : ¬ p.e < -1 := by omega
 have n5 : ¬ 63 < p.e := by omega
 have HKa := Lib.hid (rking_is p.B hB 0)
 have HKb := Lib.hid (rking_is p.B hB 1)
 have HFa := Lib.hid (rfar_any (kingI p.B 0) (kingI p.B 1))
 have HCk := Lib.hid (rcheck_is p.B hB (1 - p.t) (by omega))
 have HTo : Hid (touchB p = ((farA (kingI p.B 0) (kingI p.B 1) == 1) || checkB p.B (1 - p.t))) := by
  have : otherI p.t = 1 - p.t := by unfold otherI; split <;> first | omega | (split <;> omega)
  unfold touchB; rw [this]; rfl
 rw [a2] at HTo
 obtain ⟨ha, hb⟩ := Bool.or_eq_false_iff.1 HTo.out.symm
 have HF10 : Hid (casB p = false → pwI p = 10) := by
  show _ → _
  intro h; unfold pwI; rw [if_neg (by omega), if_neg (by rw [a1]; decide), if_neg (by rw [a2]; decide), if_pos h]
 have HF11 : Hid (casB p = true → 0 ≤ p.e → passI p < 0 → pwI p = 11) := by
  show _ → _
  intro h h1 h2
  have : epB p = false := by
   unfold epB passB
   rw [show decide (0 ≤ passI p) = false by rw [decide_eq_false_iff_not]; omega, show (p.e == -1) = false by rw [beq_eq_false_iff_ne]; omega]
   rfl
  unfold pwI; rw [if_neg (by omega), if_neg (by rw [a1]; decide), if_neg (by rw [a2]; decide), if_neg (by rw [h]; decide), if_pos this]
 have HF0 : Hid (casB p = true → (p.e < 0 ∨ 0 ≤ passI p) → pwI p = 0) := by
  show _ → _
  intro h h1
  have : epB p = true := by
   unfold epB passB
   rw [Bool.or_eq_true, decide_eq_true_iff, beq_iff_eq]
   omega
  unfold pwI; rw [if_neg (by omega), if_neg (by rw [a1]; decide), if_neg (by rw [a2]; decide), if_neg (by rw [h]; decide), if_neg (by rw [this]; decide)]
 have HPs := Lib.hid (rpassed_is p hB)
 have HBk := Lib.hid (rbacked_is p.B hB)
 have HHas := Lib.hid (fun r w h1 h2 => rhas_is p.c r w c0 c1 h1 h2)
 rw [a0] at HC0
 rw [hb] at HCk
 clear hB a0 a1 a2 HTo hb
 generalize farA (kingI p.B 0) (kingI p.B 1) = F at *
 generalize kingI p.B 0 = K0 at *
 generalize kingI p.B 1 = K1 at *
 go_enter Tryz.func20, Tryz.ntmps20
 go_wp2_with (first | (refine wpList_load_ps (by rfl) _ rfl _ rfl _ (HP.out) ?_) | (refine wpList_load_pb (by rfl) _ rfl _ rfl _ (HP.out) ?_))
 refine (HC0.out _).mono ?_
 rintro e w1 ⟨rfl, k1⟩
 have HK1 := Lib.hid (HK0.out.trans k1)
 have HP1 := Lib.hid (HP.out.kept k1)
 have ct := HP1.out.turn
 have cc := HP1.out.cas
 have ce := HP1.out.ep
 clear k1
 go_wp2
 refine wp_region_held_drew (S := Kept _) (by kernel_rfl) (Kept.refl _).drew (fun hHeld => ?_)
 refine rT 0 39 (.pointer (some ⟨w.heap.size, 0, none⟩)) rfl rfl hHeld ?_
 simp only [pA, pN, sZ, sU]
 refine rY 1 40 rfl rfl (take_load_pb (by rfl) _ rfl _ rfl p HB.out.1 (fun _ h => (HP1.out).kept h)) hHeld ?_
 simp only [pA, pN, sZ, sU]
 refine rT 3 42 (.pointer (some ⟨w.heap.size, 0, none⟩)) rfl rfl hHeld ?_
 simp only [pA, pN, sZ, sU]
 refine rY 4 43 rfl rfl (take_load_pb (by rfl) _ rfl _ rfl p HB.out.1 (fun _ h => (HP1.out).kept h)) hHeld ?_
 simp only [pA, pN, sZ, sU]
 refine rR 2 rfl (fun K hK => ?_)
 go_simp
 refine (HKa.out _).mono ?_
 rintro e x1 ⟨rfl, gx1⟩
 refine hK.out _ _ (hHeld.trans gx1) (fun _ => ?_)
 replace hHeld := hHeld.trans gx1
 clear hK K
 refine rR 5 rfl (fun K hK => ?_)
 go_simp
 refine (HKb.out _).mono ?_
 rintro e x2 ⟨rfl, gx2⟩
 refine hK.out _ _ (hHeld.trans gx2) (fun _ => ?_)
 replace hHeld := hHeld.trans gx2
 clear hK K
 refine rR 6 rfl (fun K hK => ?_)
 go_simp
 refine (HFa.out _).mono ?_
 rintro e x3 ⟨rfl, gx3⟩
 refine hK.out _ _ (hHeld.trans gx3) (fun _ => ?_)
 replace hHeld := hHeld.trans gx3
 clear hK K
 refine rT 7 46 (.bool false) rfl rfl hHeld ?_
 simp only [pA, pN, sZ, sU]
 refine rT 8 47 (.bool false) rfl rfl hHeld ?_
 simp only [pA, pN, sZ, sU]
 refine rT 9 48 (.pointer (some ⟨w.heap.size, 0, none⟩)) rfl rfl hHeld ?_
 simp only [pA, pN, sZ, sU]
 refine rY 10 49 rfl rfl (take_load_pb (by rfl) _ rfl _ rfl p HB.out.1 (fun _ h => (HP1.out).kept h)) hHeld ?_
 simp only [pA, pN, sZ, sU]
 refine rT 11 50 (.pointer (some ⟨w.heap.size, 64, none⟩)) rfl rfl hHeld ?_
 simp only [pA, pN, sZ, sU]
 refine rC 12 51 (.int .i64 p.t) rfl rfl (fun _ h => kept_cell h (HP1.out.turn)) hHeld ?_
 simp only [pA, pN, sZ, sU]
 refine rT 13 52 (.int .i64 (1 - p.t)) rfl rfl hHeld ?_
 simp only [pA, pN, sZ, sU]
 refine rR 14 rfl (fun K hK => ?_)
 go_simp
 refine (HCk.out _).mono ?_
 rintro e x4 ⟨rfl, gx4⟩
 refine hK.out _ _ (hHeld.trans gx4) (fun _ => ?_)
 replace hHeld := hHeld.trans gx4
 clear hK K
 refine rT 15 54 (.bool false) rfl rfl hHeld ?_
 simp only [pA, pN, sZ, sU]
 refine wpAnyH_done (by kernel_rfl) ?_ _
 have HK2 := Lib.hid (HK1.out.trans hHeld)
 have HP2 := Lib.hid (HP1.out.kept hHeld)
 clear hHeld ct cc ce gx1 gx2 gx3 gx4
 go_wp2
 go_loopw [4] (fun t4 wr => ∃ k : Nat, k ≤ 4 ∧ t4 = .int .i64 (rg k) ∧ (∀ j, j < k → okC p j = true) ∧ Kept x4 wr) (fun t4 _ => (16 - intOf t4).toNat)
 case atStart => exact ⟨0, by omega, rfl, fun j hj => by omega, Kept.refl _⟩
 case round =>
  obtain ⟨k, hk, rfl, hno, hK⟩ := hrel
  have HNo := Lib.hid hno
  have HK := Lib.hid (HK2.out.trans hK)
  have HKr := Lib.hid hK
  have HPr := Lib.hid (HP2.out.kept hK)
  clear hno hK
  by_cases hlt : k < 4
  ·obtain ⟨r1, r2, r3, r4⟩ := rg_at hlt
   have HN := Lib.hid r4
   have HOk : Hid (okC p k = (!rgtB p.c (rg k) || backB p.B (rg k))) := by rw [r1]; rfl
   have HH := Lib.hid (fun w => HHas.out (rg k) w r2 r3)
   have HBr := Lib.hid (HBk.out (rg k))
   have cc := HPr.out.cas
   clear r1 r4
   generalize backB p.B (rg k) = bb at *
   generalize hrr : rg k = r at *
   have HRR := Lib.hid hrr
   clear hrr
   cases hh : rgtB p.c r
   ·rw [hh] at HOk HH
    clear hh
    go_wp2_with fail
    refine (HH.out _).mono ?_
    rintro e w3 ⟨rfl, k3⟩
    have HK3 := Lib.hid (HKr.out.trans k3)
    clear k3 cc
    go_wp2
    go_roundw
    case rel => exact ⟨k + 1, by omega, by rw [← HN.out], fun j hj => by rcases Nat.lt_succ_iff_lt_or_eq.1 hj with h | h; exact HNo.out j h; rw [h, HOk.out]; rfl, HK3.out⟩
    case measure => simp [intOf]; omega
   ·rw [hh] at HOk HH
    clear hh
    cases bb
    ·have HF := Lib.hid (HF10.out (cas_no hlt HOk.out))
     go_wp2_with fail
     refine (HH.out _).mono ?_
     rintro e w3 ⟨rfl, k3⟩
     have HK3 := Lib.hid (HK.out.trans k3)
     have HP3 := Lib.hid (HPr.out.kept k3)
     clear k3 cc
     go_wp2_with (first | (refine wpList_load_ps (by rfl) _ rfl _ rfl _ (HP3.out) ?_) | (refine wpList_load_pb (by rfl) _ rfl _ rfl _ (HP3.out) ?_))
     refine (HBr.out _).mono ?_
     rintro e w4 ⟨rfl, k4⟩
     have HK4 := Lib.hid (HK3.out.trans k4)
     clear k4
     go_wp2
     go_ret
     exact ⟨by rw [HF.out]; rfl, HK4.out⟩
    ·skip
     go_wp2_with fail
     refine (HH.out _).mono ?_
     rintro e w3 ⟨rfl, k3⟩
     have HK3 := Lib.hid (HKr.out.trans k3)
     have HP3 := Lib.hid (HPr.out.kept k3)
     clear k3 cc
     go_wp2_with (first | (refine wpList_load_ps (by rfl) _ rfl _ rfl _ (HP3.out) ?_) | (refine wpList_load_pb (by rfl) _ rfl _ rfl _ (HP3.out) ?_))
     refine (HBr.out _).mono ?_
     rintro e w4 ⟨rfl, k4⟩
     have HK4 := Lib.hid (HK3.out.trans k4)
     clear k4
     go_wp2
     go_roundw
     case rel => exact ⟨k + 1, by omega, by rw [← HN.out], fun j hj => by rcases Nat.lt_succ_iff_lt_or_eq.1 hj with h | h; exact HNo.out j h; rw [h, HOk.out]; rfl, HK4.out⟩
     case measure => simp [intOf]; omega
  ·have HCas := Lib.hid (cas_yes (p := p) (fun j hj => HNo.out j (by omega)))
   have hend := rg_end hk hlt
   have ce := HPr.out.ep
   generalize rg k = r at *
   by_cases he : 0 ≤ p.e
   ·by_cases hp : passI p < 0
    ·have HF := Lib.hid (HF11.out HCas.out he hp)
     generalize passI p = ps at *
     go_wp2_with (first | (refine wpList_load_ps (by rfl) _ rfl _ rfl _ (HPr.out) ?_) | (refine wpList_load_pb (by rfl) _ rfl _ rfl _ (HPr.out) ?_))
     refine (HPs.out _).mono ?_
     rintro e w3 ⟨rfl, k3⟩
     have HK3 := Lib.hid (HK.out.trans k3)
     clear k3 ce
     go_wp2
     go_ret
     exact ⟨by rw [HF.out]; rfl, HK3.out⟩
    ·have HF := Lib.hid (HF0.out HCas.out (by omega))
     have hp' : ¬ passI p < 0 := hp
     generalize passI p = ps at *
     go_wp2_with (first | (refine wpList_load_ps (by rfl) _ rfl _ rfl _ (HPr.out) ?_) | (refine wpList_load_pb (by rfl) _ rfl _ rfl _ (HPr.out) ?_))
     refine (HPs.out _).mono ?_
     rintro e w3 ⟨rfl, k3⟩
     have HK3 := Lib.hid (HK.out.trans k3)
     clear k3 ce
     go_wp2
     go_ret
     exact ⟨by rw [HF.out]; rfl, HK3.out⟩
   ·have HF := Lib.hid (HF0.out HCas.out (by omega))
    go_wp2
    go_ret
    exact ⟨by rw [HF.out]; rfl, HK.out⟩
theorem rpwrong_is (p : Ps) (hB : Brd p.B) (w : World) :
  Calls Tryz.prog 20 #[.agg (pl p).toArray] w fun e w' => e = .returned (.int .i64 (pwI p)) ∧ Kept w w' := by
 by_cases a0 : wrongI p.B = 0
 ·cases a1 : withinB p
  ·have := mt (within_iff p).2 (by rw [a1]; decide)
   by_cases n0 : p.t < 0
   ·exact rpw_t0 p hB a0 n0 w
   ·by_cases n1 : 1 < p.t
    ·exact rpw_t1 p hB a0 n1 w
    ·by_cases n2 : p.c < 0
     ·exact rpw_c0 p hB a0 n0 n1 n2 w
     ·by_cases n3 : 15 < p.c
      ·exact rpw_c1 p hB a0 n0 n1 n3 w
      ·by_cases n4 : p.e < -1
       ·exact rpw_e0 p hB a0 n0 n1 n2 n3 n4 w
       ·exact rpw_e1 p hB a0 n0 n1 n2 n3 (by omega) w
  ·cases a2 : touchB p
   ·exact rpw_rest p hB a0 a1 a2 w
   ·obtain ⟨t01, _⟩ := (within_iff p).1 a1
    have ho : otherI p.t = 1 - p.t := by unfold otherI; split <;> first | omega | (split <;> omega)
    unfold touchB at a2
    rw [ho] at a2
    cases ha : (farA (kingI p.B 0) (kingI p.B 1) == 1)
    ·rw [ha, Bool.false_or] at a2
     exact rpw_chk p hB a0 a1 ha a2 w
    ·exact rpw_far p hB a0 a1 ha w
 ·exact rpw_board p hB a0 w
theorem PAt.setSq {w : World} {g : Nat} {p : Ps} (h : PAt w g p) (k : Nat) (hk : k < 64) (x : Int) : PAt (w.setCell ⟨g, k, none⟩ (.int .i8 x)) g ⟨p.B.set k x, p.t, p.c, p.e⟩ := by
 refine ⟨by simpa using h.len, ?_⟩
 have hl : (cl p.B).length = 64 := by rw [cl_length, h.len]
 rw [heap_setCell_same w g k _ _ _ h.at_]
 congr 2
 unfold pl
 rw [List.setIfInBounds_toArray, List.set_append_left _ _ (by omega), cl_set]
 rfl
theorem Qb.sq {w0 W : World} {p : Ps} {m : Mv} {f t : Nat} {B : List Int} {a c e : Int} (h : Qb w0 p m f t W ⟨B, a, c, e⟩) (k : Nat) (hk : k < 64) (x : Int) : Qb w0 p m f t (W.setCell ⟨w0.heap.size + 3, k, none⟩ (.int .i8 x)) ⟨B.set k x, a, c, e⟩ := h.upd k _ (h.hq.setSq k hk x)
theorem Fm.pf {p : Ps} {m : Mv} {f t : Nat} (h : Fm p m f t) (hk : kindI (p.B.getD f 0) = 1) : Pf p m f t := ⟨h.hf, h.ht, ⟨h.brd, h.right, h.f1, h.own, hk⟩, h.t1⟩
end Go.Proofs.YtfekipadkenhpaaGreatDoor
