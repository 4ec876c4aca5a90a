/- within, touches, castleBacked, epBacked, Wrong · castling, taken, rightsBehind, epBehind. (Written by wip/mkmvc.py.) · taken, rightsBehind, epBehind. (Written by wip/mkmvd.py.) · formed, Formed, Takes, Castles. (Written by wip/mkmve.py.). -/
import Derived.Test.YtkebpchhpidogaaGreatDoorPkA13
namespace Go.Proofs.YtkebpchhpidogaaGreatDoor
open Go.RowKit
set_option linter.unusedVariables false
set_option linter.unusedSimpArgs false

def withinB (p : Ps) : Bool := decide (p.t = 0 ∨ p.t = 1) && decide (0 ≤ p.c ∧ p.c ≤ 15) && decide (-1 ≤ p.e ∧ p.e ≤ 63)
theorem within_iff (p : Ps) : withinB p = true ↔ (p.t = 0 ∨ p.t = 1) ∧ (0 ≤ p.c ∧ p.c ≤ 15) ∧ (-1 ≤ p.e ∧ p.e ≤ 63) := by simp [withinB, and_assoc]
theorem within_t (p : Ps) (hB : Brd p.B) (h0 : p.t ≠ 0) (h1 : p.t ≠ 1) (w : World) :
    Calls Tryz.prog 36 #[.agg (pl p).toArray] w fun e w' => e = .returned (.bool false) ∧ Kept w w' := by
  have HP := Lib.hid (PAt.new w hB.1)
  have HO := Lib.hid (other_any p.t)
  have ct := HP.out.turn
  have ho : ¬ 0 ≤ otherI p.t := by unfold otherI; rw [if_neg h0, if_neg h1]; decide
  generalize otherI p.t = o at *
  clear hB
  go_enter Tryz.func36, Tryz.ntmps36
  go_wp2_with fail
  refine (HO.out _).mono ?_
  rintro e w1 ⟨rfl, k1⟩
  have HK1 := Lib.hid (((Kept.refl w).alloc _).trans k1)
  have HP1 := Lib.hid (HP.out.kept k1)
  have cc := HP1.out.cas
  have ce := HP1.out.ep
  clear k1 ct
  go_wp2
  go_ret
  exact ⟨rfl, HK1.out⟩
theorem within_c0 (p : Ps) (hB : Brd p.B) (ht : p.t = 0 ∨ p.t = 1) (hc : p.c < 0) (w : World) :
    Calls Tryz.prog 36 #[.agg (pl p).toArray] w fun e w' => e = .returned (.bool false) ∧ Kept w w' := by
  have HP := Lib.hid (PAt.new w hB.1)
  have HO := Lib.hid (other_any p.t)
  have ct := HP.out.turn
  have ho : ¬ otherI p.t < 0 := by unfold otherI; rcases ht with h | h <;> rw [h] <;> decide
  have ho' : 0 ≤ otherI p.t := by omega
  clear ho ht
  generalize otherI p.t = o at *
  have hc1 : ¬ 0 ≤ p.c := by omega
  clear hB
  go_enter Tryz.func36, Tryz.ntmps36
  go_wp2_with fail
  refine (HO.out _).mono ?_
  rintro e w1 ⟨rfl, k1⟩
  have HK1 := Lib.hid (((Kept.refl w).alloc _).trans k1)
  have HP1 := Lib.hid (HP.out.kept k1)
  have cc := HP1.out.cas
  have ce := HP1.out.ep
  clear k1 ct
  go_wp2
  go_ret
  exact ⟨rfl, HK1.out⟩
theorem within_c1 (p : Ps) (hB : Brd p.B) (ht : p.t = 0 ∨ p.t = 1) (hc : 15 < p.c) (w : World) :
    Calls Tryz.prog 36 #[.agg (pl p).toArray] w fun e w' => e = .returned (.bool false) ∧ Kept w w' := by
  have HP := Lib.hid (PAt.new w hB.1)
  have HO := Lib.hid (other_any p.t)
  have ct := HP.out.turn
  have ho : ¬ otherI p.t < 0 := by unfold otherI; rcases ht with h | h <;> rw [h] <;> decide
  have ho' : 0 ≤ otherI p.t := by omega
  clear ho ht
  generalize otherI p.t = o at *
  have hc1 : 0 ≤ p.c := by omega
  have hc2 : ¬ p.c ≤ 15 := by omega
  clear hB
  go_enter Tryz.func36, Tryz.ntmps36
  go_wp2_with fail
  refine (HO.out _).mono ?_
  rintro e w1 ⟨rfl, k1⟩
  have HK1 := Lib.hid (((Kept.refl w).alloc _).trans k1)
  have HP1 := Lib.hid (HP.out.kept k1)
  have cc := HP1.out.cas
  have ce := HP1.out.ep
  clear k1 ct
  go_wp2
  go_ret
  exact ⟨rfl, HK1.out⟩
theorem within_e (p : Ps) (hB : Brd p.B) (ht : p.t = 0 ∨ p.t = 1) (hc0 : 0 ≤ p.c) (hc1 : p.c ≤ 15) (he : p.e = -1) (w : World) :
    Calls Tryz.prog 36 #[.agg (pl p).toArray] w fun e w' => e = .returned (.bool true) ∧ Kept w w' := by
  have HP := Lib.hid (PAt.new w hB.1)
  have HO := Lib.hid (other_any p.t)
  have ct := HP.out.turn
  have ho : ¬ otherI p.t < 0 := by unfold otherI; rcases ht with h | h <;> rw [h] <;> decide
  have ho' : 0 ≤ otherI p.t := by omega
  clear ho ht
  generalize otherI p.t = o at *
  have he1 : (p.e == -1) = true := beq_iff_eq.2 he
  clear he
  clear hB
  go_enter Tryz.func36, Tryz.ntmps36
  go_wp2_with fail
  refine (HO.out _).mono ?_
  rintro e w1 ⟨rfl, k1⟩
  have HK1 := Lib.hid (((Kept.refl w).alloc _).trans k1)
  have HP1 := Lib.hid (HP.out.kept k1)
  have cc := HP1.out.cas
  have ce := HP1.out.ep
  clear k1 ct
  go_wp2
  go_ret
  exact ⟨rfl, HK1.out⟩
theorem within_yes (p : Ps) (hB : Brd p.B) (ht : p.t = 0 ∨ p.t = 1) (hc0 : 0 ≤ p.c) (hc1 : p.c ≤ 15) (he0 : 0 ≤ p.e) (he2 : p.e < 64) (w : World) :
    Calls Tryz.prog 36 #[.agg (pl p).toArray] w fun e w' => e = .returned (.bool true) ∧ Kept w w' := by
  have HP := Lib.hid (PAt.new w hB.1)
  have HO := Lib.hid (other_any p.t)
  have ct := HP.out.turn
  have ho : ¬ otherI p.t < 0 := by unfold otherI; rcases ht with h | h <;> rw [h] <;> decide
  have ho' : 0 ≤ otherI p.t := by omega
  clear ho ht
  generalize otherI p.t = o at *
  have he1 : (p.e == -1) = false := beq_eq_false_iff_ne.2 (by omega)
  clear hB
  go_enter Tryz.func36, Tryz.ntmps36
  go_wp2_with fail
  refine (HO.out _).mono ?_
  rintro e w1 ⟨rfl, k1⟩
  have HK1 := Lib.hid (((Kept.refl w).alloc _).trans k1)
  have HP1 := Lib.hid (HP.out.kept k1)
  have cc := HP1.out.cas
  have ce := HP1.out.ep
  clear k1 ct
  go_wp2_with fail
  refine (right_yes _ _ he0 he2).mono ?_
  rintro e w' ⟨rfl, rfl⟩
  go_wp2
  go_ret
  exact ⟨rfl, HK1.out⟩
theorem within_no (p : Ps) (hB : Brd p.B) (ht : p.t = 0 ∨ p.t = 1) (hc0 : 0 ≤ p.c) (hc1 : p.c ≤ 15) (he : p.e < -1 ∨ 64 ≤ p.e) (w : World) :
    Calls Tryz.prog 36 #[.agg (pl p).toArray] w fun e w' => e = .returned (.bool false) ∧ Kept w w' := by
  have HP := Lib.hid (PAt.new w hB.1)
  have HO := Lib.hid (other_any p.t)
  have ct := HP.out.turn
  have ho : ¬ otherI p.t < 0 := by unfold otherI; rcases ht with h | h <;> rw [h] <;> decide
  have ho' : 0 ≤ otherI p.t := by omega
  clear ho ht
  generalize otherI p.t = o at *
  have he1 : (p.e == -1) = false := beq_eq_false_iff_ne.2 (by omega)
  have HE : Hid (p.e < 0 ∨ 64 ≤ p.e) := by show _ ∨ _; omega
  clear he
  clear hB
  go_enter Tryz.func36, Tryz.ntmps36
  go_wp2_with fail
  refine (HO.out _).mono ?_
  rintro e w1 ⟨rfl, k1⟩
  have HK1 := Lib.hid (((Kept.refl w).alloc _).trans k1)
  have HP1 := Lib.hid (HP.out.kept k1)
  have cc := HP1.out.cas
  have ce := HP1.out.ep
  clear k1 ct
  go_wp2_with fail
  refine (right_no _ _ HE.out).mono ?_
  rintro e w' ⟨rfl, rfl⟩
  go_wp2
  go_ret
  exact ⟨rfl, HK1.out⟩
theorem within_is (p : Ps) (hB : Brd p.B) (w : World) :
    Calls Tryz.prog 36 #[.agg (pl p).toArray] w fun e w' => e = .returned (.bool (withinB p)) ∧ Kept w w' := by
  have no : (¬ ((p.t = 0 ∨ p.t = 1) ∧ (0 ≤ p.c ∧ p.c ≤ 15) ∧ (-1 ≤ p.e ∧ p.e ≤ 63))) → withinB p = false := fun h => by
    rw [← Bool.not_eq_true, within_iff]; exact h
  by_cases ht : p.t = 0 ∨ p.t = 1
  · by_cases h0 : p.c < 0
    · rw [no (by omega)]; exact within_c0 p hB ht h0 w
    · by_cases h1 : 15 < p.c
      · rw [no (by omega)]; exact within_c1 p hB ht h1 w
      · by_cases he : p.e = -1
        · rw [(within_iff p).2 (by omega)]; exact within_e p hB ht (by omega) (by omega) he w
        · by_cases h2 : 0 ≤ p.e ∧ p.e < 64
          · rw [(within_iff p).2 (by omega)]; exact within_yes p hB ht (by omega) (by omega) h2.1 h2.2 w
          · rw [no (by omega)]; exact within_no p hB ht (by omega) (by omega) (by omega) w
  · rw [no (fun h => ht h.1)]; exact within_t p hB (fun h => ht (.inl h)) (fun h => ht (.inr h)) w
/-- The distance of any two numbers. -/
def farA (a b : Int) : Int := if (0 ≤ a ∧ a < 64) ∧ 0 ≤ b ∧ b < 64 then farI a b else -1
theorem far_any (a b : Int) (w : World) : Calls Tryz.prog 50 #[.int .i64 a, .int .i64 b] w fun e w' => e = .returned (.int .i64 (farA a b)) ∧ Kept w w' := by
  unfold farA
  by_cases h : (0 ≤ a ∧ a < 64) ∧ 0 ≤ b ∧ b < 64
  · rw [if_pos h]; exact (far_yes a b w h.1.1 h.1.2 h.2.1 h.2.2).mono fun _ _ ⟨x, y⟩ => ⟨x, y ▸ Kept.refl _⟩
  · rw [if_neg h]; exact (far_no a b w (by omega)).mono fun _ _ ⟨x, y⟩ => ⟨x, y ▸ Kept.refl _⟩
def touchB (p : Ps) : Bool := (farA (kingI p.B 0) (kingI p.B 1) == 1) || checkB p.B (otherI p.t)
set_option maxRecDepth 100000 in
set_option maxHeartbeats 2000000 in
theorem touches_is (p : Ps) (hB : Brd p.B) (w : World) (hT : Tabs w) :
    Calls Tryz.prog 37 #[.agg (pl p).toArray] w fun e w' => e = .returned (.bool (touchB p)) ∧ Kept w w' := by
  have HP := Lib.hid (PAt.new w hB.1)
  have HB := Lib.hid hB
  have HT := Lib.hid (hT.kept ((Kept.refl w).alloc (.cells (pl p).toArray 26)))
  have HK0 := Lib.hid (king_any p.B hB 0)
  have HK1 := Lib.hid (king_any p.B hB 1)
  have HF := Lib.hid (far_any (kingI p.B 0) (kingI p.B 1))
  have HV : Hid (touchB p = ((farA (kingI p.B 0) (kingI p.B 1) == 1) || checkB p.B (otherI p.t))) := by rfl
  have HC := Lib.hid (fun a w hS => check_is a p.B hB (otherI p.t) w hS)
  have HO := Lib.hid (other_any p.t)
  clear hB hT
  generalize farA (kingI p.B 0) (kingI p.B 1) = F at *
  generalize checkB p.B (otherI p.t) = cb at *
  generalize kingI p.B 0 = K0 at *
  generalize kingI p.B 1 = K1 at *
  generalize otherI p.t = o at *
  go_enter Tryz.func37, Tryz.ntmps37
  go_wp2
  refine wp_region_held_drew (S := Kept _) (by kernel_rfl) (Kept.refl _).drew (fun hHeld => ?_)
  refine rT 0 4 (.pointer (some ⟨w.heap.size, 0, none⟩)) rfl rfl hHeld ?_
  simp only [pA, pN, sZ, sU]
  refine rY 1 5 rfl rfl (take_load_pb (by rfl) _ rfl _ rfl p HB.out.1 (fun _ h => (HP.out).kept h)) hHeld ?_
  simp only [pA, pN, sZ, sU]
  refine rT 3 7 (.pointer (some ⟨w.heap.size, 0, none⟩)) rfl rfl hHeld ?_
  simp only [pA, pN, sZ, sU]
  refine rY 4 8 rfl rfl (take_load_pb (by rfl) _ rfl _ rfl p HB.out.1 (fun _ h => (HP.out).kept h)) hHeld ?_
  simp only [pA, pN, sZ, sU]
  refine rR 2 rfl (fun K hK => ?_)
  go_simp
  refine (HK0.out _).mono ?_
  rintro e w1 ⟨rfl, gw1⟩
  refine hK.out _ _ (hHeld.trans gw1) (fun _ => ?_)
  replace hHeld := hHeld.trans gw1
  clear hK K
  refine rR 5 rfl (fun K hK => ?_)
  go_simp
  refine (HK1.out _).mono ?_
  rintro e w2 ⟨rfl, gw2⟩
  refine hK.out _ _ (hHeld.trans gw2) (fun _ => ?_)
  replace hHeld := hHeld.trans gw2
  clear hK K
  refine rR 6 rfl (fun K hK => ?_)
  go_simp
  refine (HF.out _).mono ?_
  rintro e w3 ⟨rfl, gw3⟩
  refine hK.out _ _ (hHeld.trans gw3) (fun _ => ?_)
  replace hHeld := hHeld.trans gw3
  clear hK K
  refine rT 7 3 (.int .i64 F) rfl rfl hHeld ?_
  simp only [pA, pN, sZ, sU]
  refine wpAnyH_done (by kernel_rfl) ?_ _
  have HA := Lib.hid hHeld
  have HP3 := Lib.hid (HP.out.kept hHeld)
  have HT3 := Lib.hid (HT.out.kept hHeld)
  clear hHeld gw1 gw2 gw3
  cases hf : (F == 1)
  · rw [hf, Bool.false_or] at HV
    go_wp2
    refine wp_region_held_drew (S := Kept _) (by kernel_rfl) (Kept.refl _).drew (fun hHeld => ?_)
    refine rT 0 11 (.int .i64 F) rfl rfl hHeld ?_
    simp only [pA, pN, sZ, sU]
    refine rT 1 12 (.bool false) rfl rfl hHeld ?_
    simp only [pA, pN, sZ, sU]
    refine rT 2 13 (.bool false) rfl rfl hHeld ?_
    simp only [pA, pN, sZ, sU]
    refine rT 4 15 (.pointer (some ⟨w.heap.size, 0, none⟩)) rfl rfl hHeld ?_
    simp only [pA, pN, sZ, sU]
    refine rY 5 16 rfl rfl (take_load_pb (by rfl) _ rfl _ rfl p HB.out.1 (fun _ h => (HP3.out).kept h)) hHeld ?_
    simp only [pA, pN, sZ, sU]
    refine rT 6 17 (.pointer (some ⟨w.heap.size, 64, none⟩)) rfl rfl hHeld ?_
    simp only [pA, pN, sZ, sU]
    refine rC 7 18 (.int .i64 p.t) rfl rfl (fun _ h => kept_cell h (HP3.out.turn)) hHeld ?_
    simp only [pA, pN, sZ, sU]
    refine rR 3 rfl (fun K hK => ?_)
    go_simp
    refine (new_is _).mono ?_
    rintro e w4 ⟨⟨ea, rfl⟩, gw4⟩
    refine hK.out _ _ (hHeld.trans gw4) (fun _ => ?_)
    replace hHeld := hHeld.trans gw4
    clear hK K
    refine rR 8 rfl (fun K hK => ?_)
    go_simp
    refine (HO.out _).mono ?_
    rintro e w5 ⟨rfl, gw5⟩
    refine hK.out _ _ (hHeld.trans gw5) (fun _ => ?_)
    replace hHeld := hHeld.trans gw5
    clear hK K
    refine rR 9 rfl (fun K hK => ?_)
    go_simp
    refine (HC.out ea _ (HT3.out.steps.kept hHeld)).mono ?_
    rintro e w6 ⟨rfl, gw6⟩
    refine hK.out _ _ (hHeld.trans gw6) (fun _ => ?_)
    replace hHeld := hHeld.trans gw6
    clear hK K
    refine rT 10 21 (.bool cb) rfl rfl hHeld ?_
    simp only [pA, pN, sZ, sU]
    refine rT 11 2 (.bool cb) rfl rfl hHeld ?_
    simp only [pA, pN, sZ, sU]
    refine wpAnyH_done (by kernel_rfl) ?_ _
    go_wp2
    go_ret
    exact ⟨by rw [HV.out]; rfl, (((Kept.refl _).alloc _).trans HA.out).trans hHeld⟩
  · rw [hf, Bool.true_or] at HV
    go_wp2
    refine wp_region_held_drew (S := Kept _) (by kernel_rfl) (Kept.refl _).drew (fun hHeld => ?_)
    refine rT 0 11 (.int .i64 F) rfl rfl hHeld ?_
    simp only [pA, pN, sZ, sU]
    refine rT 1 12 (.bool true) rfl rfl hHeld ?_
    simp only [pA, pN, sZ, sU]
    refine rT 2 13 (.bool true) rfl rfl hHeld ?_
    simp only [pA, pN, sZ, sU]
    refine rN 3 14 rfl rfl hHeld ?_
    simp only [pA, pN, sZ, sU]
    refine rN 4 15 rfl rfl hHeld ?_
    simp only [pA, pN, sZ, sU]
    refine rN 5 16 rfl rfl hHeld ?_
    simp only [pA, pN, sZ, sU]
    refine rN 6 17 rfl rfl hHeld ?_
    simp only [pA, pN, sZ, sU]
    refine rN 7 18 rfl rfl hHeld ?_
    simp only [pA, pN, sZ, sU]
    refine rN 8 19 rfl rfl hHeld ?_
    simp only [pA, pN, sZ, sU]
    refine rN 9 20 rfl rfl hHeld ?_
    simp only [pA, pN, sZ, sU]
    refine rT 10 21 (.bool true) rfl rfl hHeld ?_
    simp only [pA, pN, sZ, sU]
    refine rT 11 2 (.bool true) rfl rfl hHeld ?_
    simp only [pA, pN, sZ, sU]
    refine wpAnyH_done (by kernel_rfl) ?_ _
    go_wp2
    go_ret
    exact ⟨by rw [HV.out]; rfl, (((Kept.refl _).alloc _).trans HA.out).trans hHeld⟩
/-- Has a sum of rights one of them? Is that backed? -/
def rgtB (c r : Int) : Bool := c / r % 2 == 1
def okC (p : Ps) (k : Nat) : Bool := !rgtB p.c (hR k) || backB p.B (hR k)
def casB (p : Ps) : Bool := okC p 0 && okC p 1 && okC p 2 && okC p 3
theorem cas_yes {p : Ps} (h : ∀ j, j < 4 → okC p j = true) : casB p = true := by
  unfold casB; rw [h 0 (by omega), h 1 (by omega), h 2 (by omega), h 3 (by omega)]; rfl
theorem cas_no {p : Ps} {k : Nat} (hk : k < 4) (h : okC p k = false) : casB p = false := by
  have : k = 0 ∨ k = 1 ∨ k = 2 ∨ k = 3 := by omega
  unfold casB
  rcases this with rfl | rfl | rfl | rfl <;> rw [h] <;> simp
theorem bit_all : ∀ c : Fin 16, ∀ k : Fin 4, (bits .and .i64 ((c : Nat) : Int) (hR k) != 0) = rgtB ((c : Nat) : Int) (hR k) := by decide +kernel
theorem bit_at {c : Int} (h0 : 0 ≤ c) (h1 : c ≤ 15) {k : Nat} (hk : k < 4) : (bits .and .i64 c (hR k) != 0) = rgtB c (hR k) := by
  have := bit_all ⟨c.toNat, by omega⟩ ⟨k, hk⟩
  simp only [show ((c.toNat : Nat) : Int) = c by omega] at this
  exact this
set_option maxRecDepth 100000 in
set_option maxHeartbeats 2000000 in
theorem castle_is (p : Ps) (hB : Brd p.B) (h0 : 0 ≤ p.c) (h1 : p.c ≤ 15) (w : World) (hT : Tabs w) :
    Calls Tryz.prog 38 #[.agg (pl p).toArray] w fun e w' => e = .returned (.bool (casB p)) ∧ Kept w w' := by
  have HP := Lib.hid (PAt.new w hB.1)
  have HK0 := Lib.hid ((Kept.refl w).alloc (.cells (pl p).toArray 26))
  have HT := Lib.hid (hT.kept HK0.out)
  have HB := Lib.hid hB
  have HBit := Lib.hid (fun k hk => bit_at h0 h1 (k := k) hk)
  clear hB hT h0 h1
  go_enter Tryz.func38, Tryz.ntmps38
  go_wp2_with (refine wpList_load_mid rfl 88 _ rfl 2 0 rfl hmV _ HT.out.homes.range Tryz.underlying88 rfl size_homes ?_)
  go_loopw [6] (fun t6 wr => ∃ k : Nat, k ≤ 4 ∧ t6 = .int .i64 k ∧ (∀ j, j < k → okC p j = true) ∧ Kept (w.alloc (.cells (pl p).toArray 26)) wr) (fun t6 _ => 4 - (intOf t6).toNat)
  case atStart => exact ⟨0, by omega, rfl, fun j hj => by omega, Kept.refl _⟩
  case round =>
    obtain ⟨k, hk, rfl, hno, hK⟩ := hrel
    have HNo := Lib.hid hno
    have HK := Lib.hid hK
    clear hno hK
    by_cases hlt : k < 4
    · have hx := run_index_hm k hlt
      have HPk := Lib.hid (HP.out.kept HK.out)
      have HKA := Lib.hid ((Kept.refl wr).alloc (.cells (hAt k) 87))
      have HPA := Lib.hid (HPk.out.kept HKA.out)
      have hcc := HPA.out.cas
      have hbit := HBit.out k hlt
      have HBk := Lib.hid (fun w hT => backed_is p HB.out (hR k) w hT)
      have HTA := Lib.hid ((HT.out.kept HK.out).kept HKA.out)
      have HR := Lib.hid (hR_bd k)
      have HOk : Hid (okC p k = (!rgtB p.c (hR k) || backB p.B (hR k))) := by rfl
      unfold hAt at hx hcc
      generalize backB p.B (hR k) = bb at *
      cases hh : rgtB p.c (hR k)
      · rw [hh] at HOk hbit
        clear hh
        go_wp2
        go_roundw
        case rel => exact ⟨k + 1, by omega, by go_num, fun j hj => by rcases Nat.lt_succ_iff_lt_or_eq.1 hj with h | h; exact HNo.out j h; rw [h, HOk.out]; rfl, HK.out.alloc _⟩
        case measure => simp [intOf]; omega
      · rw [hh] at HOk hbit
        clear hh
        cases bb
        · skip
          go_wp2_with (first | (refine wpList_load_ps (by rfl) _ rfl _ rfl _ (HPA.out) ?_) | (refine wpList_load_pb (by rfl) _ rfl _ rfl _ (HPA.out) ?_))
          refine (HBk.out _ HTA.out).mono ?_
          rintro e w2 ⟨rfl, k2⟩
          have HF := Lib.hid (cas_no hlt HOk.out)
          have HK2 := Lib.hid ((HK.out.trans HKA.out).trans k2)
          clear k2 hcc
          go_wp2
          go_ret
          exact ⟨by rw [HF.out]; rfl, HK0.out.trans HK2.out⟩
        · skip
          go_wp2_with (first | (refine wpList_load_ps (by rfl) _ rfl _ rfl _ (HPA.out) ?_) | (refine wpList_load_pb (by rfl) _ rfl _ rfl _ (HPA.out) ?_))
          refine (HBk.out _ HTA.out).mono ?_
          rintro e w2 ⟨rfl, k2⟩
          have HK2 := Lib.hid ((HK.out.trans HKA.out).trans k2)
          clear k2 hcc
          go_wp2
          go_roundw
          case rel => exact ⟨k + 1, by omega, by go_num, fun j hj => by rcases Nat.lt_succ_iff_lt_or_eq.1 hj with h | h; exact HNo.out j h; rw [h, HOk.out]; rfl, HK2.out⟩
          case measure => simp [intOf]; omega
    · have HF := Lib.hid (cas_yes (p := p) (fun j hj => HNo.out j (by omega)))
      go_wp2
      go_ret
      exact ⟨by rw [HF.out]; rfl, HK0.out.trans HK.out⟩
def epB (p : Ps) : Bool := passB p || (p.e == -1)
theorem ep_is (p : Ps) (hB : Brd p.B) (w : World) (hT : Tabs w) :
    Calls Tryz.prog 39 #[.agg (pl p).toArray] w fun e w' => e = .returned (.bool (epB p)) ∧ Kept w w' := by
  have HP := Lib.hid (PAt.new w hB.1)
  have HPs := Lib.hid (passed_is p hB _ (hT.kept ((Kept.refl w).alloc (.cells (pl p).toArray 26))))
  have HV : Hid (epB p = (passB p || (p.e == -1))) := by rfl
  clear hB hT
  generalize passS p = ps at *
  cases hb : passB p
  · rw [hb] at HPs HV
    rw [Bool.false_or] at HV
    clear hb
    go_enter Tryz.func39, Tryz.ntmps39
    go_wp2_with (first | (refine wpList_load_ps (by rfl) _ rfl _ rfl _ (HP.out) ?_) | (refine wpList_load_pb (by rfl) _ rfl _ rfl _ (HP.out) ?_))
    refine HPs.out.mono ?_
    rintro e w1 ⟨rfl, k1⟩
    have HK1 := Lib.hid (((Kept.refl w).alloc _).trans k1)
    have ce := (HP.out.kept k1).ep
    clear k1
    go_wp2
    go_ret
    exact ⟨by rw [HV.out]; rfl, HK1.out⟩
  · rw [hb] at HPs HV
    rw [Bool.true_or] at HV
    clear hb
    go_enter Tryz.func39, Tryz.ntmps39
    go_wp2_with (first | (refine wpList_load_ps (by rfl) _ rfl _ rfl _ (HP.out) ?_) | (refine wpList_load_pb (by rfl) _ rfl _ rfl _ (HP.out) ?_))
    refine HPs.out.mono ?_
    rintro e w1 ⟨rfl, k1⟩
    have HK1 := Lib.hid (((Kept.refl w).alloc _).trans k1)
    clear k1
    go_wp2
    go_ret
    exact ⟨by rw [HV.out]; rfl, HK1.out⟩
/-- What a position lacks. -/
def pwI (p : Ps) : Int := if wrongI p.B ≠ 0 then wrongI p.B else if withinB p = false then 5 else if touchB p = true then 9 else if casB p = false then 10 else if epB p = false then 11 else 0
set_option maxHeartbeats 1000000 in
theorem pwrong_board (p : Ps) (hB : Brd p.B) (a0 : wrongI p.B ≠ 0) (w : World) (hT : Tabs w) :
    Calls Tryz.prog 20 #[.agg (pl p).toArray] w fun e w' => e = .returned (.int .i64 (wrongI p.B)) ∧ Kept w w' := by
  have HP := Lib.hid (PAt.new w hB.1)
  have HK0 := Lib.hid ((Kept.refl w).alloc (.cells (pl p).toArray 26))
  have HT := Lib.hid (hT.kept HK0.out)
  have HC0 := Lib.hid (wrong_is p.B hB)
  have HC1 := Lib.hid (within_is p hB)
  have HC2 := Lib.hid (fun w hT => touches_is p hB w hT)
  have HC4 := Lib.hid (fun w hT => ep_is p hB w hT)
  have b0 : (wrongI p.B != 0) = true := bne_iff_ne.2 a0
  clear a0
  clear hB hT
  go_enter Tryz.func20, Tryz.ntmps20
  go_wp2_with (first | (refine wpList_load_ps (by rfl) _ rfl _ rfl _ (HP.out) ?_) | (refine wpList_load_pb (by rfl) _ rfl _ rfl _ (HP.out) ?_))
  refine (HC0.out _).mono ?_
  rintro e w1 ⟨rfl, k1⟩
  have HK1 := Lib.hid (HK0.out.trans k1)
  have HP1 := Lib.hid (HP.out.kept k1)
  have HT1 := Lib.hid (HT.out.kept k1)
  clear k1
  go_wp2
  go_ret
  exact ⟨rfl, HK1.out⟩
set_option maxHeartbeats 1000000 in
theorem pwrong_arg (p : Ps) (hB : Brd p.B) (a0 : wrongI p.B = 0) (a1 : withinB p = false) (w : World) (hT : Tabs w) :
    Calls Tryz.prog 20 #[.agg (pl p).toArray] w fun e w' => e = .returned (.int .i64 5) ∧ Kept w w' := by
  have HP := Lib.hid (PAt.new w hB.1)
  have HK0 := Lib.hid ((Kept.refl w).alloc (.cells (pl p).toArray 26))
  have HT := Lib.hid (hT.kept HK0.out)
  have HC0 := Lib.hid (wrong_is p.B hB)
  have HC1 := Lib.hid (within_is p hB)
  have HC2 := Lib.hid (fun w hT => touches_is p hB w hT)
  have HC4 := Lib.hid (fun w hT => ep_is p hB w hT)
  rw [a0] at HC0
  rw [a1] at HC1
  clear hB hT
  go_enter Tryz.func20, Tryz.ntmps20
  go_wp2_with (first | (refine wpList_load_ps (by rfl) _ rfl _ rfl _ (HP.out) ?_) | (refine wpList_load_pb (by rfl) _ rfl _ rfl _ (HP.out) ?_))
  refine (HC0.out _).mono ?_
  rintro e w1 ⟨rfl, k1⟩
  have HK1 := Lib.hid (HK0.out.trans k1)
  have HP1 := Lib.hid (HP.out.kept k1)
  have HT1 := Lib.hid (HT.out.kept k1)
  clear k1
  go_wp2_with (first | (refine wpList_load_ps (by rfl) _ rfl _ rfl _ (HP1.out) ?_) | (refine wpList_load_pb (by rfl) _ rfl _ rfl _ (HP1.out) ?_))
  refine (HC1.out _).mono ?_
  rintro e w2 ⟨rfl, k2⟩
  have HK2 := Lib.hid (HK1.out.trans k2)
  have HP2 := Lib.hid (HP1.out.kept k2)
  have HT2 := Lib.hid (HT1.out.kept k2)
  clear k2
  go_wp2
  go_ret
  exact ⟨rfl, HK2.out⟩
set_option maxHeartbeats 1000000 in
theorem pwrong_touch (p : Ps) (hB : Brd p.B) (a0 : wrongI p.B = 0) (a1 : withinB p = true) (a2 : touchB p = true) (w : World) (hT : Tabs w) :
    Calls Tryz.prog 20 #[.agg (pl p).toArray] w fun e w' => e = .returned (.int .i64 9) ∧ Kept w w' := by
  have HP := Lib.hid (PAt.new w hB.1)
  have HK0 := Lib.hid ((Kept.refl w).alloc (.cells (pl p).toArray 26))
  have HT := Lib.hid (hT.kept HK0.out)
  have HC0 := Lib.hid (wrong_is p.B hB)
  have HC1 := Lib.hid (within_is p hB)
  have HC2 := Lib.hid (fun w hT => touches_is p hB w hT)
  have HC4 := Lib.hid (fun w hT => ep_is p hB w hT)
  rw [a0] at HC0
  rw [a1] at HC1
  rw [a2] at HC2
  clear hB hT
  go_enter Tryz.func20, Tryz.ntmps20
  go_wp2_with (first | (refine wpList_load_ps (by rfl) _ rfl _ rfl _ (HP.out) ?_) | (refine wpList_load_pb (by rfl) _ rfl _ rfl _ (HP.out) ?_))
  refine (HC0.out _).mono ?_
  rintro e w1 ⟨rfl, k1⟩
  have HK1 := Lib.hid (HK0.out.trans k1)
  have HP1 := Lib.hid (HP.out.kept k1)
  have HT1 := Lib.hid (HT.out.kept k1)
  clear k1
  go_wp2_with (first | (refine wpList_load_ps (by rfl) _ rfl _ rfl _ (HP1.out) ?_) | (refine wpList_load_pb (by rfl) _ rfl _ rfl _ (HP1.out) ?_))
  refine (HC1.out _).mono ?_
  rintro e w2 ⟨rfl, k2⟩
  have HK2 := Lib.hid (HK1.out.trans k2)
  have HP2 := Lib.hid (HP1.out.kept k2)
  have HT2 := Lib.hid (HT1.out.kept k2)
  clear k2
  go_wp2_with (first | (refine wpList_load_ps (by rfl) _ rfl _ rfl _ (HP2.out) ?_) | (refine wpList_load_pb (by rfl) _ rfl _ rfl _ (HP2.out) ?_))
  refine (HC2.out _ HT2.out).mono ?_
  rintro e w3 ⟨rfl, k3⟩
  have HK3 := Lib.hid (HK2.out.trans k3)
  have HP3 := Lib.hid (HP2.out.kept k3)
  have HT3 := Lib.hid (HT2.out.kept k3)
  clear k3
  go_wp2
  go_ret
  exact ⟨rfl, HK3.out⟩
set_option maxHeartbeats 1000000 in
theorem pwrong_castle (p : Ps) (hB : Brd p.B) (a0 : wrongI p.B = 0) (a1 : withinB p = true) (a2 : touchB p = false) (a3 : casB p = false) (w : World) (hT : Tabs w) :
    Calls Tryz.prog 20 #[.agg (pl p).toArray] w fun e w' => e = .returned (.int .i64 10) ∧ Kept w w' := by
  have HP := Lib.hid (PAt.new w hB.1)
  have HK0 := Lib.hid ((Kept.refl w).alloc (.cells (pl p).toArray 26))
  have HT := Lib.hid (hT.kept HK0.out)
  have HC0 := Lib.hid (wrong_is p.B hB)
  have HC1 := Lib.hid (within_is p hB)
  have HC2 := Lib.hid (fun w hT => touches_is p hB w hT)
  have HC4 := Lib.hid (fun w hT => ep_is p hB w hT)
  rw [a0] at HC0
  rw [a1] at HC1
  rw [a2] at HC2
  obtain ⟨_, ⟨h0, h1⟩, _⟩ := (within_iff p).1 a1
  have HC3 := Lib.hid (fun w hT => castle_is p hB h0 h1 w hT)
  clear h0 h1
  rw [a3] at HC3
  clear hB hT
  go_enter Tryz.func20, Tryz.ntmps20
  go_wp2_with (first | (refine wpList_load_ps (by rfl) _ rfl _ rfl _ (HP.out) ?_) | (refine wpList_load_pb (by rfl) _ rfl _ rfl _ (HP.out) ?_))
  refine (HC0.out _).mono ?_
  rintro e w1 ⟨rfl, k1⟩
  have HK1 := Lib.hid (HK0.out.trans k1)
  have HP1 := Lib.hid (HP.out.kept k1)
  have HT1 := Lib.hid (HT.out.kept k1)
  clear k1
  go_wp2_with (first | (refine wpList_load_ps (by rfl) _ rfl _ rfl _ (HP1.out) ?_) | (refine wpList_load_pb (by rfl) _ rfl _ rfl _ (HP1.out) ?_))
  refine (HC1.out _).mono ?_
  rintro e w2 ⟨rfl, k2⟩
  have HK2 := Lib.hid (HK1.out.trans k2)
  have HP2 := Lib.hid (HP1.out.kept k2)
  have HT2 := Lib.hid (HT1.out.kept k2)
  clear k2
  go_wp2_with (first | (refine wpList_load_ps (by rfl) _ rfl _ rfl _ (HP2.out) ?_) | (refine wpList_load_pb (by rfl) _ rfl _ rfl _ (HP2.out) ?_))
  refine (HC2.out _ HT2.out).mono ?_
  rintro e w3 ⟨rfl, k3⟩
  have HK3 := Lib.hid (HK2.out.trans k3)
  have HP3 := Lib.hid (HP2.out.kept k3)
  have HT3 := Lib.hid (HT2.out.kept k3)
  clear k3
  go_wp2_with (first | (refine wpList_load_ps (by rfl) _ rfl _ rfl _ (HP3.out) ?_) | (refine wpList_load_pb (by rfl) _ rfl _ rfl _ (HP3.out) ?_))
  refine (HC3.out _ HT3.out).mono ?_
  rintro e w4 ⟨rfl, k4⟩
  have HK4 := Lib.hid (HK3.out.trans k4)
  have HP4 := Lib.hid (HP3.out.kept k4)
  have HT4 := Lib.hid (HT3.out.kept k4)
  clear k4
  go_wp2
  go_ret
  exact ⟨rfl, HK4.out⟩
set_option maxHeartbeats 1000000 in
theorem pwrong_ep (p : Ps) (hB : Brd p.B) (a0 : wrongI p.B = 0) (a1 : withinB p = true) (a2 : touchB p = false) (a3 : casB p = true) (a4 : epB p = false) (w : World) (hT : Tabs w) :
    Calls Tryz.prog 20 #[.agg (pl p).toArray] w fun e w' => e = .returned (.int .i64 11) ∧ Kept w w' := by
  have HP := Lib.hid (PAt.new w hB.1)
  have HK0 := Lib.hid ((Kept.refl w).alloc (.cells (pl p).toArray 26))
  have HT := Lib.hid (hT.kept HK0.out)
  have HC0 := Lib.hid (wrong_is p.B hB)
  have HC1 := Lib.hid (within_is p hB)
  have HC2 := Lib.hid (fun w hT => touches_is p hB w hT)
  have HC4 := Lib.hid (fun w hT => ep_is p hB w hT)
  rw [a0] at HC0
  rw [a1] at HC1
  rw [a2] at HC2
  obtain ⟨_, ⟨h0, h1⟩, _⟩ := (within_iff p).1 a1
  have HC3 := Lib.hid (fun w hT => castle_is p hB h0 h1 w hT)
  clear h0 h1
  rw [a3] at HC3
  rw [a4] at HC4
  clear hB hT
  go_enter Tryz.func20, Tryz.ntmps20
  go_wp2_with (first | (refine wpList_load_ps (by rfl) _ rfl _ rfl _ (HP.out) ?_) | (refine wpList_load_pb (by rfl) _ rfl _ rfl _ (HP.out) ?_))
  refine (HC0.out _).mono ?_
  rintro e w1 ⟨rfl, k1⟩
  have HK1 := Lib.hid (HK0.out.trans k1)
  have HP1 := Lib.hid (HP.out.kept k1)
  have HT1 := Lib.hid (HT.out.kept k1)
  clear k1
  go_wp2_with (first | (refine wpList_load_ps (by rfl) _ rfl _ rfl _ (HP1.out) ?_) | (refine wpList_load_pb (by rfl) _ rfl _ rfl _ (HP1.out) ?_))
  refine (HC1.out _).mono ?_
  rintro e w2 ⟨rfl, k2⟩
  have HK2 := Lib.hid (HK1.out.trans k2)
  have HP2 := Lib.hid (HP1.out.kept k2)
  have HT2 := Lib.hid (HT1.out.kept k2)
  clear k2
  go_wp2_with (first | (refine wpList_load_ps (by rfl) _ rfl _ rfl _ (HP2.out) ?_) | (refine wpList_load_pb (by rfl) _ rfl _ rfl _ (HP2.out) ?_))
  refine (HC2.out _ HT2.out).mono ?_
  rintro e w3 ⟨rfl, k3⟩
  have HK3 := Lib.hid (HK2.out.trans k3)
  have HP3 := Lib.hid (HP2.out.kept k3)
  have HT3 := Lib.hid (HT2.out.kept k3)
  clear k3
  go_wp2_with (first | (refine wpList_load_ps (by rfl) _ rfl _ rfl _ (HP3.out) ?_) | (refine wpList_load_pb (by rfl) _ rfl _ rfl _ (HP3.out) ?_))
  refine (HC3.out _ HT3.out).mono ?_
  rintro e w4 ⟨rfl, k4⟩
  have HK4 := Lib.hid (HK3.out.trans k4)
  have HP4 := Lib.hid (HP3.out.kept k4)
  have HT4 := Lib.hid (HT3.out.kept k4)
  clear k4
  go_wp2_with (first | (refine wpList_load_ps (by rfl) _ rfl _ rfl _ (HP4.out) ?_) | (refine wpList_load_pb (by rfl) _ rfl _ rfl _ (HP4.out) ?_))
  refine (HC4.out _ HT4.out).mono ?_
  rintro e w5 ⟨rfl, k5⟩
  have HK5 := Lib.hid (HK4.out.trans k5)
  have HP5 := Lib.hid (HP4.out.kept k5)
  have HT5 := Lib.hid (HT4.out.kept k5)
  clear k5
  go_wp2
  go_ret
  exact ⟨rfl, HK5.out⟩
set_option maxHeartbeats 1000000 in
theorem pwrong_ok (p : Ps) (hB : Brd p.B) (a0 : wrongI p.B = 0) (a1 : withinB p = true) (a2 : touchB p = false) (a3 : casB p = true) (a4 : epB p = true) (w : World) (hT : Tabs w) :
    Calls Tryz.prog 20 #[.agg (pl p).toArray] w fun e w' => e = .returned (.int .i64 0) ∧ Kept w w' := by
  have HP := Lib.hid (PAt.new w hB.1)
  have HK0 := Lib.hid ((Kept.refl w).alloc (.cells (pl p).toArray 26))
  have HT := Lib.hid (hT.kept HK0.out)
  have HC0 := Lib.hid (wrong_is p.B hB)
  have HC1 := Lib.hid (within_is p hB)
  have HC2 := Lib.hid (fun w hT => touches_is p hB w hT)
  have HC4 := Lib.hid (fun w hT => ep_is p hB w hT)
  rw [a0] at HC0
  rw [a1] at HC1
  rw [a2] at HC2
  obtain ⟨_, ⟨h0, h1⟩, _⟩ := (within_iff p).1 a1
  have HC3 := Lib.hid (fun w hT => castle_is p hB h0 h1 w hT)
  clear h0 h1
  rw [a3] at HC3
  rw [a4] at HC4
  clear hB hT
  go_enter Tryz.func20, Tryz.ntmps20
  go_wp2_with (first | (refine wpList_load_ps (by rfl) _ rfl _ rfl _ (HP.out) ?_) | (refine wpList_load_pb (by rfl) _ rfl _ rfl _ (HP.out) ?_))
  refine (HC0.out _).mono ?_
  rintro e w1 ⟨rfl, k1⟩
  have HK1 := Lib.hid (HK0.out.trans k1)
  have HP1 := Lib.hid (HP.out.kept k1)
  have HT1 := Lib.hid (HT.out.kept k1)
  clear k1
  go_wp2_with (first | (refine wpList_load_ps (by rfl) _ rfl _ rfl _ (HP1.out) ?_) | (refine wpList_load_pb (by rfl) _ rfl _ rfl _ (HP1.out) ?_))
  refine (HC1.out _).mono ?_
  rintro e w2 ⟨rfl, k2⟩
  have HK2 := Lib.hid (HK1.out.trans k2)
  have HP2 := Lib.hid (HP1.out.kept k2)
  have HT2 := Lib.hid (HT1.out.kept k2)
  clear k2
  go_wp2_with (first | (refine wpList_load_ps (by rfl) _ rfl _ rfl _ (HP2.out) ?_) | (refine wpList_load_pb (by rfl) _ rfl _ rfl _ (HP2.out) ?_))
  refine (HC2.out _ HT2.out).mono ?_
  rintro e w3 ⟨rfl, k3⟩
  have HK3 := Lib.hid (HK2.out.trans k3)
  have HP3 := Lib.hid (HP2.out.kept k3)
  have HT3 := Lib.hid (HT2.out.kept k3)
  clear k3
  go_wp2_with (first | (refine wpList_load_ps (by rfl) _ rfl _ rfl _ (HP3.out) ?_) | (refine wpList_load_pb (by rfl) _ rfl _ rfl _ (HP3.out) ?_))
  refine (HC3.out _ HT3.out).mono ?_
  rintro e w4 ⟨rfl, k4⟩
  have HK4 := Lib.hid (HK3.out.trans k4)
  have HP4 := Lib.hid (HP3.out.kept k4)
  have HT4 := Lib.hid (HT3.out.kept k4)
  clear k4
  go_wp2_with (first | (refine wpList_load_ps (by rfl) _ rfl _ rfl _ (HP4.out) ?_) | (refine wpList_load_pb (by rfl) _ rfl _ rfl _ (HP4.out) ?_))
  refine (HC4.out _ HT4.out).mono ?_
  rintro e w5 ⟨rfl, k5⟩
  have HK5 := Lib.hid (HK4.out.trans k5)
  have HP5 := Lib.hid (HP4.out.kept k5)
  have HT5 := Lib.hid (HT4.out.kept k5)
  clear k5
  go_wp2
  go_ret
  exact ⟨rfl, HK5.out⟩
theorem pwrong_is (p : Ps) (hB : Brd p.B) (w : World) (hT : Tabs w) :
    Calls Tryz.prog 20 #[.agg (pl p).toArray] w fun e w' => e = .returned (.int .i64 (pwI p)) ∧ Kept w w' := by
  unfold pwI
  by_cases a0 : wrongI p.B = 0
  · rw [if_neg (by omega)]
    cases a1 : withinB p
    · rw [if_pos rfl]; exact pwrong_arg p hB a0 a1 w hT
    · rw [if_neg (by decide)]
      cases a2 : touchB p
      · rw [if_neg (by decide)]
        cases a3 : casB p
        · rw [if_pos rfl]; exact pwrong_castle p hB a0 a1 a2 a3 w hT
        · rw [if_neg (by decide)]
          cases a4 : epB p
          · rw [if_pos rfl]; exact pwrong_ep p hB a0 a1 a2 a3 a4 w hT
          · rw [if_neg (by decide)]; exact pwrong_ok p hB a0 a1 a2 a3 a4 w hT
      · rw [if_pos rfl]; exact pwrong_touch p hB a0 a1 a2 w hT
  · rw [if_pos a0]; exact pwrong_board p hB a0 w hT
end Go.Proofs.YtkebpchhpidogaaGreatDoor
namespace Go.Proofs.YtkebpchhpidogaaGreatDoor
open Go.RowKit
set_option linter.unusedVariables false
set_option linter.unusedSimpArgs false
set_option maxRecDepth 100000

theorem zeroW : (Tryz.prog.info? 73).map (fun i => (i.zero, i.size)) = some (some (.agg (wl 4).toArray), 4) := by kernel_rfl
theorem run_zero_w (w : World) : (zeroValue 73).run Tryz.prog w = .ok (.agg (wl 4).toArray) w := (zero_of_info zeroW).1 w
theorem wl_size (k : Nat) : (Tryz.prog.info? 73).map (·.size) = some (wl k).toArray.size := by rw [sizeWing]; rfl
theorem wpList_new_wi {ops : Array Oper} {rest : List Oper} {o : Oper} {a : Act} {w : World} {Q : Exit → Act → World → Prop} (hgd : o.guard = none) (ho : o.op = .alloc 73)
    (h : wpList Tryz.prog ops Q rest (a.put o.dst (.pointer (some ⟨w.heap.size, 0, none⟩))) (w.alloc (.cells (wl 4).toArray 73))) : wpList Tryz.prog ops Q (o :: rest) a w := by
  refine wpList_plain hgd fun _ hK => ?_
  unfold Oper.wp execOp
  simp only [ho, Instr.alloc, Sem.run_bind, run_zero_w, Result.andThen_ok, newVar, newRow, Value.cells]
  exact hK _ _ h
theorem wpList_store_newwi {ops : Array Oper} {rest : List Oper} {o : Oper} {a : Act} {w : World} {Q : Exit → Act → World → Prop} (hgd : o.guard = none) (x y : Operand) (ho : o.op = .store 73 x y)
    (j k : Nat) (hx : a.eval x = .pointer (some ⟨w.heap.size, 0, none⟩)) (hy : a.eval y = .agg (wl k).toArray)
    (h : wpList Tryz.prog ops Q rest (a.put o.dst undef) (w.alloc (.cells (wl k).toArray 73))) : wpList Tryz.prog ops Q (o :: rest) a (w.alloc (.cells (wl j).toArray 73)) := by
  refine wpList_store_row hgd 73 x y ho w.heap.size (wl k).toArray hx hy 73 _ (heap_alloc_new w _) (wl_size k) rfl (wl_one _) ?_
  rw [World.setRow_alloc_new]
  exact h
theorem wpList_load_wi {ops : Array Oper} {rest : List Oper} {op : Oper} {a : Act} {w : World} {Q : Exit → Act → World → Prop} (hw : Region.wanted op (yielded ops a.tmps) = true) (x : Operand) (ho : op.op = .load 73 x)
    (g : Nat) (hx : a.eval x = .pointer (some ⟨g, 0, none⟩)) (k : Nat) (hg : RAt w g (wl k) 73)
    (h : wpList Tryz.prog ops Q rest (a.put op.dst (.agg (wl k).toArray)) w) : wpList Tryz.prog ops Q (op :: rest) a w :=
  wpList_step fun _ hK => by
    rw [if_pos hw]
    exact wp_load_mid 73 x ho g 0 hx (wl k) _ (RAt.range hg) Tryz.underlying73 rfl sizeWing (hK _ _ h)
theorem wpList_store_wi {ops : Array Oper} {rest : List Oper} {o : Oper} {a : Act} {w : World} {Q : Exit → Act → World → Prop} (hgd : o.guard = none) (x y : Operand) (ho : o.op = .store 73 x y)
    (g j k : Nat) (hg : RAt w g (wl j) 73) (hx : a.eval x = .pointer (some ⟨g, 0, none⟩)) (hy : a.eval y = .agg (wl k).toArray)
    (h : wpList Tryz.prog ops Q rest (a.put o.dst undef) (w.setRow g (wl k).toArray)) : wpList Tryz.prog ops Q (o :: rest) a w :=
  wpList_store_row hgd 73 x y ho g (wl k).toArray hx hy 73 _ hg.at_ (wl_size k) rfl (wl_one _) h
theorem built_wi0 : Tryz.prog.built 73 [] = some (wl 4).toArray := by kernel_rfl
theorem wpList_built_wi0 {ops : Array Oper} {rest : List Oper} {o : Oper} {a : Act} {w : World} {Q : Exit → Act → World → Prop} (hw : Region.wanted o (yielded ops a.tmps) = true) (ho : o.op = .build 73 #[])
    (h : wpList Tryz.prog ops Q rest (a.put o.dst (.agg (wl 4).toArray)) w) : wpList Tryz.prog ops Q (o :: rest) a w :=
  wpList_step fun _ hK => by
    rw [if_pos hw]
    have hf : Tryz.prog.built 73 ((#[] : Array (Nat × Operand)).map fun (i, x) => (i, a.eval x)).toList = some (wl 4).toArray := by
      have : ((#[] : Array (Nat × Operand)).map fun (i, x) => (i, a.eval x)).toList = [] := by simp
      rw [this]; exact built_wi0
    exact wp_build _ _ ho (by rw [hf]; rfl) (by rw [hf]; exact hK _ _ h)
theorem results_wing_tmp {fn : Func} {s t : Tmp} (h : fn.results = #[.cell s 73, .tmp t]) (tmps : Array Value) {w : World} {g k : Nat}
    (hp : tmps.getD s undef = .pointer (some ⟨g, 0, none⟩)) (hg : RAt w g (wl k) 73) : (results fn tmps).run Tryz.prog w = .ok (.tuple #[.agg (wl k).toArray, tmps.getD t undef]) w := by
  have hp' : tmps[s]?.getD undef = .pointer (some ⟨g, 0, none⟩) := by simpa using hp
  have hl : (loadVar 73 ⟨g, 0, none⟩).run Tryz.prog w = .ok (.agg (wl k).toArray) w := run_loadVar_row w g _ _ (wl k).toArray (0, 0) _ hg.at_ Tryz.underlying73 rfl (wl_size k)
  simp [results, h, hp', asAddr, hl]
/-- Does the move castle by the kth right? -/
def castB (p : Ps) (m : Mv) (k : Nat) : Bool := rgtB p.c (hR k) && (m.f == hKg k) && (m.t == wTo k) && freeB p.B k
def castN (p : Ps) (m : Mv) : Nat := if castB p m 0 then 0 else if castB p m 1 then 1 else if castB p m 2 then 2 else if castB p m 3 then 3 else 4
theorem cast_at {p : Ps} {m : Mv} {k : Nat} (hk : k < 4) (h : castB p m k = true) (hn : ∀ j, j < k → castB p m j = false) : castN p m = k := by
  unfold castN
  have : k = 0 ∨ k = 1 ∨ k = 2 ∨ k = 3 := by omega
  rcases this with rfl | rfl | rfl | rfl
  · rw [if_pos h]
  · rw [if_neg (by rw [hn 0 (by omega)]; decide), if_pos h]
  · rw [if_neg (by rw [hn 0 (by omega)]; decide), if_neg (by rw [hn 1 (by omega)]; decide), if_pos h]
  · rw [if_neg (by rw [hn 0 (by omega)]; decide), if_neg (by rw [hn 1 (by omega)]; decide), if_neg (by rw [hn 2 (by omega)]; decide), if_pos h]
theorem cast_none {p : Ps} {m : Mv} (hn : ∀ j, j < 4 → castB p m j = false) : castN p m = 4 := by
  unfold castN
  rw [if_neg (by rw [hn 0 (by omega)]; decide), if_neg (by rw [hn 1 (by omega)]; decide), if_neg (by rw [hn 2 (by omega)]; decide), if_neg (by rw [hn 3 (by omega)]; decide)]
theorem cast_is {p : Ps} {m : Mv} {k : Nat} (hk : k < 4) (h : castN p m = k) : castB p m k = true := by
  unfold castN at h
  split at h
  · next h0 => rw [← h]; exact h0
  · split at h
    · next h0 => rw [← h]; exact h0
    · split at h
      · next h0 => rw [← h]; exact h0
      · split at h
        · next h0 => rw [← h]; exact h0
        · omega
theorem castN_le (p : Ps) (m : Mv) : castN p m ≤ 4 := by
  unfold castN
  split
  · omega
  · split
    · omega
    · split
      · omega
      · split <;> omega
set_option maxHeartbeats 2000000 in
theorem castling_is (p : Ps) (hB : Brd p.B) (c0 : 0 ≤ p.c) (c1 : p.c ≤ 15) (m : Mv) (w : World) (hT : TabM w) :
    Calls Tryz.prog 44 #[.agg (pl p).toArray, .agg (ml m).toArray] w fun e w' => e = .returned (.tuple #[.agg (wl (castN p m)).toArray, .bool (decide (castN p m < 4))]) ∧ Kept w w' := by
  have HP : Hid (PAt _ _ p) := ⟨hB.1, heap_alloc2_old w (.cells (pl p).toArray 26) (.cells (ml m).toArray 35)⟩
  have HM : Hid (MAt _ _ m) := ⟨heap_alloc2_new w (.cells (pl p).toArray 26) (.cells (ml m).toArray 35)⟩
  have HK0 := Lib.hid (((Kept.refl w).alloc (.cells (pl p).toArray 26)).alloc (.cells (ml m).toArray 35))
  have HK1 := Lib.hid (HK0.out.alloc (.cells (wl 4).toArray 73))
  have HP1 := Lib.hid (HP.out.kept ((Kept.refl _).alloc (.cells (wl 4).toArray 73)))
  have HM1 := Lib.hid (MAt.kept HM.out ((Kept.refl _).alloc (.cells (wl 4).toArray 73)))
  have HR1 : Hid (RAt _ _ (wl 4) 73) := ⟨heap_alloc_new ((w.alloc (.cells (pl p).toArray 26)).alloc (.cells (ml m).toArray 35)) (.cells (wl 4).toArray 73)⟩
  have hsz : ((w.alloc (.cells (pl p).toArray 26)).alloc (.cells (ml m).toArray 35)).heap.size = w.heap.size + 2 := by simp
  rw [hsz] at HR1
  have HT := Lib.hid (hT.kept HK1.out)
  have HB := Lib.hid hB
  have HBit := Lib.hid (fun k hk => bit_at c0 c1 (k := k) hk)
  clear hB hT c0 c1 HP HM HK0
  go_enter Tryz.func44, Tryz.ntmps44
  go_wp2_with (first | (with_reducible refine wpList_new_wi rfl rfl ?_) | (refine wpList_load_mid rfl 78 _ rfl 1 0 rfl wiV _ HT.out.wings.range Tryz.underlying78 rfl size_wings ?_))
  generalize ((w.alloc (.cells (pl p).toArray 26)).alloc (.cells (ml m).toArray 35)).alloc (.cells (wl 4).toArray 73) = W at *
  clear hsz
  go_loopw [9] (fun t9 wr => ∃ k : Nat, k ≤ 4 ∧ t9 = .int .i64 k ∧ (∀ j, j < k → castB p m j = false) ∧ Kept W wr) (fun t9 _ => 4 - (intOf t9).toNat)
  case atStart => exact ⟨0, by omega, rfl, fun j hj => by omega, Kept.refl _⟩
  case round =>
    obtain ⟨k, hk, rfl, hno, hK⟩ := hrel
    have HNo := Lib.hid hno
    have HK := Lib.hid hK
    clear hno hK
    by_cases hlt : k < 4
    · have hx := run_index_wi k hlt
      have HA := Lib.hid (HK.out.alloc (.cells (wl k).toArray 73))
      have HPA := Lib.hid (HP1.out.kept HA.out)
      have HMA := Lib.hid (MAt.kept HM1.out HA.out)
      have HRA := Lib.hid (HR1.out.kept HA.out)
      have HWA : Hid (RAt _ _ (wl k) 73) := ⟨heap_alloc_new wr (.cells (wl k).toArray 73)⟩
      have hbit := HBit.out k hlt
      have HV : Hid (castB p m k = (rgtB p.c (hR k) && (m.f == hKg k) && (m.t == wTo k) && freeB p.B k)) := by rfl
      have HF := Lib.hid (free_is p.B HB.out k hlt)
      have x0 := HPA.out.cas
      have x1 := HMA.out.f
      have x2 := HMA.out.t
      have y0 : _ = some (Value.int .i64 (hR k)) := HWA.out.cellK 0
      have y1 : _ = some (Value.int .i64 (hKg k)) := HWA.out.cellK 1
      have y3 : _ = some (Value.int .i64 (wTo k)) := HWA.out.cellK 3
      generalize hfr : freeB p.B k = fr at *
      clear hfr
      cases h1 : rgtB p.c (hR k)
      · rw [h1] at HV hbit
        clear h1
        go_wp2_with (first | (with_reducible refine wpList_new_wi rfl rfl ?_) | ((with_reducible refine wpList_store_newwi rfl _ _ rfl 4 k ?_ ?_ ?_); exact rfl; exact rfl) | (refine wpList_load_pb (by rfl) _ rfl _ rfl _ HPA.out ?_) | (refine wpList_load_wi (by rfl) _ rfl _ rfl k HWA.out ?_))
        go_roundw
        case rel => exact ⟨k + 1, by omega, by go_num, fun j hj => by rcases Nat.lt_succ_iff_lt_or_eq.1 hj with h | h; exact HNo.out j h; rw [h, HV.out]; simp only [Bool.and_false, Bool.false_and, Bool.and_true, Bool.true_and], HA.out⟩
        case measure => simp [intOf]; omega
      · rw [h1] at HV hbit
        clear h1
        cases h2 : (m.f == hKg k)
        · rw [h2] at HV
          go_wp2_with (first | (with_reducible refine wpList_new_wi rfl rfl ?_) | ((with_reducible refine wpList_store_newwi rfl _ _ rfl 4 k ?_ ?_ ?_); exact rfl; exact rfl) | (refine wpList_load_pb (by rfl) _ rfl _ rfl _ HPA.out ?_) | (refine wpList_load_wi (by rfl) _ rfl _ rfl k HWA.out ?_))
          go_roundw
          case rel => exact ⟨k + 1, by omega, by go_num, fun j hj => by rcases Nat.lt_succ_iff_lt_or_eq.1 hj with h | h; exact HNo.out j h; rw [h, HV.out]; simp only [Bool.and_false, Bool.false_and, Bool.and_true, Bool.true_and], HA.out⟩
          case measure => simp [intOf]; omega
        · rw [h2] at HV
          cases h3 : (m.t == wTo k)
          · rw [h3] at HV
            go_wp2_with (first | (with_reducible refine wpList_new_wi rfl rfl ?_) | ((with_reducible refine wpList_store_newwi rfl _ _ rfl 4 k ?_ ?_ ?_); exact rfl; exact rfl) | (refine wpList_load_pb (by rfl) _ rfl _ rfl _ HPA.out ?_) | (refine wpList_load_wi (by rfl) _ rfl _ rfl k HWA.out ?_))
            go_roundw
            case rel => exact ⟨k + 1, by omega, by go_num, fun j hj => by rcases Nat.lt_succ_iff_lt_or_eq.1 hj with h | h; exact HNo.out j h; rw [h, HV.out]; simp only [Bool.and_false, Bool.false_and, Bool.and_true, Bool.true_and], HA.out⟩
            case measure => simp [intOf]; omega
          · rw [h3] at HV
            cases fr
            · go_wp2_with (first | (with_reducible refine wpList_new_wi rfl rfl ?_) | ((with_reducible refine wpList_store_newwi rfl _ _ rfl 4 k ?_ ?_ ?_); exact rfl; exact rfl) | (refine wpList_load_pb (by rfl) _ rfl _ rfl _ HPA.out ?_) | (refine wpList_load_wi (by rfl) _ rfl _ rfl k HWA.out ?_))
              refine (HF.out _).mono ?_
              rintro e w2 ⟨rfl, k2⟩
              have HK2 := Lib.hid (HA.out.trans k2)
              clear k2 x0 x1 x2 y0 y1 y3
              go_wp2
              go_roundw
              case rel => exact ⟨k + 1, by omega, by go_num, fun j hj => by rcases Nat.lt_succ_iff_lt_or_eq.1 hj with h | h; exact HNo.out j h; rw [h, HV.out]; simp only [Bool.and_false, Bool.false_and, Bool.and_true, Bool.true_and], HK2.out⟩
              case measure => simp [intOf]; omega
            · go_wp2_with (first | (with_reducible refine wpList_new_wi rfl rfl ?_) | ((with_reducible refine wpList_store_newwi rfl _ _ rfl 4 k ?_ ?_ ?_); exact rfl; exact rfl) | (refine wpList_load_pb (by rfl) _ rfl _ rfl _ HPA.out ?_) | (refine wpList_load_wi (by rfl) _ rfl _ rfl k HWA.out ?_))
              refine (HF.out _).mono ?_
              rintro e w2 ⟨rfl, k2⟩
              have HK2 := Lib.hid (HA.out.trans k2)
              have HW2 := Lib.hid (HWA.out.kept k2)
              have HR2 := Lib.hid (HRA.out.kept k2)
              have HE := Lib.hid (cast_at hlt HV.out HNo.out)
              clear k2 x0 x1 x2 y0 y1 y3
              go_wp2_with (first | (refine wpList_load_wi (by rfl) _ rfl _ rfl k HW2.out ?_) | (refine wpList_store_wi rfl _ _ rfl (w.heap.size + 2) 4 k HR2.out rfl rfl ?_))
              refine bodyPost_ret (v := .tuple #[.agg (wl k).toArray, .bool true]) ?_ rfl ⟨by rw [HE.out]; simp [hlt], (HK1.out.trans HK2.out).setRow (by omega) _⟩
              exact (results_wing_tmp (s := 4) (t := 5) rfl _ rfl (HR2.out.row _)).trans rfl
    · have HE := Lib.hid (cast_none (p := p) (m := m) (fun j hj => HNo.out j (by omega)))
      have HR2 := Lib.hid (HR1.out.kept HK.out)
      go_wp2_with (first | (refine wpList_built_wi0 (by rfl) rfl ?_) | (refine wpList_store_wi rfl _ _ rfl (w.heap.size + 2) 4 4 HR2.out rfl rfl ?_))
      refine bodyPost_ret (v := .tuple #[.agg (wl 4).toArray, .bool false]) ?_ rfl ⟨by rw [HE.out]; rfl, (HK1.out.trans HK.out).setRow (by omega) _⟩
      exact (results_wing_tmp (s := 4) (t := 5) rfl _ rfl (HR2.out.row _)).trans rfl
end Go.Proofs.YtkebpchhpidogaaGreatDoor
namespace Go.Proofs.YtkebpchhpidogaaGreatDoor
open Go.RowKit
set_option linter.unusedVariables false
set_option linter.unusedSimpArgs false
set_option maxRecDepth 100000

theorem file_k (s : Int) (w : World) (h0 : 0 ≤ s) (h1 : s < 64) : Calls Tryz.prog 48 #[.int .i64 s] w fun e w' => e = .returned (.int .i64 (s % 8)) ∧ Kept w w' :=
  (file_yes s w h0 h1).mono fun _ _ ⟨a, b⟩ => ⟨a, b ▸ Kept.refl _⟩
theorem far_k (a b : Int) (w : World) (a0 : 0 ≤ a) (a1 : a < 64) (b0 : 0 ≤ b) (b1 : b < 64) : Calls Tryz.prog 50 #[.int .i64 a, .int .i64 b] w fun e w' => e = .returned (.int .i64 (farI a b)) ∧ Kept w w' :=
  (far_yes a b w a0 a1 b0 b1).mono fun _ _ ⟨x, y⟩ => ⟨x, y ▸ Kept.refl _⟩
/-- Does the move take in passing? -/
def epTake (p : Ps) (m : Mv) : Bool := pawnB p m && (m.t == p.e) && (m.f % 8 != m.t % 8)
/-- The square of what a move takes; -1: nothing. -/
def takeI (p : Ps) (m : Mv) : Int := if bAt p.B m.t ≠ 0 then m.t else if epTake p m then passI p else -1
def takeS (p : Ps) (m : Mv) : Int := if 0 ≤ takeI p m then takeI p m else 0
def takeB (p : Ps) (m : Mv) : Bool := decide (0 ≤ takeI p m)
theorem take_off {p : Ps} {m : Mv} (h : takeI p m = -1) : takeS p m = 0 ∧ takeB p m = false := by unfold takeS takeB; rw [h]; decide
theorem take_on {p : Ps} {m : Mv} {s : Int} (h : takeI p m = s) (h0 : 0 ≤ s) : takeS p m = s ∧ takeB p m = true := by unfold takeS takeB; rw [h, if_pos h0]; simpa using h0
theorem take_pass {p : Ps} {m : Mv} (h : takeI p m = passI p) : takeS p m = passS p ∧ takeB p m = passB p := by unfold takeS takeB passS passB; rw [h]; exact ⟨rfl, rfl⟩
set_option maxHeartbeats 2000000 in
theorem taken0 (p : Ps) (hB : Brd p.B) (m : Mv) (ho : On m) (h0 : bAt p.B m.t ≠ 0) (w : World) (hT : TabM w) :
    Calls Tryz.prog 43 #[.agg (pl p).toArray, .agg (ml m).toArray] w fun e w' => e = .returned (.tuple #[.int .i64 (takeS p m), .bool (takeB p m)]) ∧ Kept w w' := by
  obtain ⟨f0, f1, t0, t1⟩ := ho
  have HP : Hid (PAt _ _ p) := ⟨hB.1, heap_alloc2_old w (.cells (pl p).toArray 26) (.cells (ml m).toArray 35)⟩
  have HM : Hid (MAt _ _ m) := ⟨heap_alloc2_new w (.cells (pl p).toArray 26) (.cells (ml m).toArray 35)⟩
  have HK0 := Lib.hid (((Kept.refl w).alloc (.cells (pl p).toArray 26)).alloc (.cells (ml m).toArray 35))
  have HT := Lib.hid (hT.kept HK0.out)
  have hpl : Hid (p.B.length = 64) := hB.1
  have HB := Lib.hid hB
  have ct := HM.out.t
  have HC := Lib.hid (man_at p.B hB m.t t0 t1)
  have HPw := Lib.hid (fun w => pawn_is p hB m f0 f1 w)
  have HF1 := Lib.hid (fun w => file_k m.f w f0 f1)
  have HF2 := Lib.hid (fun w => file_k m.t w t0 t1)
  have HPs := Lib.hid (fun w h => passed_is p hB w h)
  have HV := Lib.hid (take_on (p := p) (m := m) (s := m.t) (by unfold takeI; rw [if_pos h0]) t0)
  have hb : (bAt p.B m.t != 0) = true := bne_iff_ne.2 h0
  generalize bAt p.B m.t = x at *
  clear hB hT f0 f1 t0 t1
  go_enter Tryz.func43, Tryz.ntmps43
  go_wp2_with (first | (refine wpList_load_ps (by rfl) _ rfl _ rfl _ (HP.out) ?_) | (refine wpList_load_pb (by rfl) _ rfl _ rfl _ (HP.out) ?_) | (refine wpList_load_mv (by rfl) _ rfl _ rfl _ (HM.out) ?_))
  refine (HC.out _).mono ?_
  rintro e w1 ⟨rfl, k1⟩
  have HK1 := Lib.hid (HK0.out.trans k1)
  have HP1 := Lib.hid (HP.out.kept k1)
  have HM1 := Lib.hid (MAt.kept HM.out k1)
  have HT1 := Lib.hid (HT.out.kept k1)
  clear k1 ct
  have ct := HM1.out.t
  go_wp2
  go_ret2
  exact ⟨by rw [HV.out.1, HV.out.2]; rfl, HK1.out⟩
set_option maxHeartbeats 2000000 in
theorem taken1 (p : Ps) (hB : Brd p.B) (m : Mv) (ho : On m) (h0 : bAt p.B m.t = 0) (h1 : pawnB p m = false) (w : World) (hT : TabM w) :
    Calls Tryz.prog 43 #[.agg (pl p).toArray, .agg (ml m).toArray] w fun e w' => e = .returned (.tuple #[.int .i64 (takeS p m), .bool (takeB p m)]) ∧ Kept w w' := by
  obtain ⟨f0, f1, t0, t1⟩ := ho
  have HP : Hid (PAt _ _ p) := ⟨hB.1, heap_alloc2_old w (.cells (pl p).toArray 26) (.cells (ml m).toArray 35)⟩
  have HM : Hid (MAt _ _ m) := ⟨heap_alloc2_new w (.cells (pl p).toArray 26) (.cells (ml m).toArray 35)⟩
  have HK0 := Lib.hid (((Kept.refl w).alloc (.cells (pl p).toArray 26)).alloc (.cells (ml m).toArray 35))
  have HT := Lib.hid (hT.kept HK0.out)
  have hpl : Hid (p.B.length = 64) := hB.1
  have HB := Lib.hid hB
  have ct := HM.out.t
  have HC := Lib.hid (man_at p.B hB m.t t0 t1)
  have HPw := Lib.hid (fun w => pawn_is p hB m f0 f1 w)
  have HF1 := Lib.hid (fun w => file_k m.f w f0 f1)
  have HF2 := Lib.hid (fun w => file_k m.t w t0 t1)
  have HPs := Lib.hid (fun w h => passed_is p hB w h)
  rw [h0] at HC
  rw [h1] at HPw
  have HV := Lib.hid (take_off (p := p) (m := m) (by unfold takeI epTake; rw [if_neg (by simpa using h0), if_neg (by simp [h1])]))
  clear hB hT f0 f1 t0 t1
  go_enter Tryz.func43, Tryz.ntmps43
  go_wp2_with (first | (refine wpList_load_ps (by rfl) _ rfl _ rfl _ (HP.out) ?_) | (refine wpList_load_pb (by rfl) _ rfl _ rfl _ (HP.out) ?_) | (refine wpList_load_mv (by rfl) _ rfl _ rfl _ (HM.out) ?_))
  refine (HC.out _).mono ?_
  rintro e w1 ⟨rfl, k1⟩
  have HK1 := Lib.hid (HK0.out.trans k1)
  have HP1 := Lib.hid (HP.out.kept k1)
  have HM1 := Lib.hid (MAt.kept HM.out k1)
  have HT1 := Lib.hid (HT.out.kept k1)
  clear k1 ct
  go_wp2
  refine wp_region_held_drew (S := Kept _) (by kernel_rfl) (Kept.refl _).drew (fun hHeld => ?_)
  refine rY 0 16 rfl rfl (take_load_ps (by rfl) _ rfl _ rfl p hpl.out (fun _ h => (HP1.out).kept h)) hHeld ?_
  simp only [pA, pN, sZ, sU]
  refine rY 1 17 rfl rfl (take_load_mv (by rfl) _ rfl _ rfl m (fun _ h => MAt.kept (HM1.out) h)) hHeld ?_
  simp only [pA, pN, sZ, sU]
  refine rR 2 rfl (fun K hK => ?_)
  go_simp
  refine (HPw.out _).mono ?_
  rintro e w2 ⟨rfl, gw2⟩
  refine hK.out _ _ (hHeld.trans gw2) (fun _ => ?_)
  replace hHeld := hHeld.trans gw2
  clear hK K
  refine rT 3 19 (.bool false) rfl rfl hHeld ?_
  simp only [pA, pN, sZ, sU]
  refine rN 4 20 rfl rfl hHeld ?_
  simp only [pA, pN, sZ, sU]
  refine rN 5 21 rfl rfl hHeld ?_
  simp only [pA, pN, sZ, sU]
  refine rN 6 22 rfl rfl hHeld ?_
  simp only [pA, pN, sZ, sU]
  refine rN 7 23 rfl rfl hHeld ?_
  simp only [pA, pN, sZ, sU]
  refine rN 8 24 rfl rfl hHeld ?_
  simp only [pA, pN, sZ, sU]
  refine rT 9 25 (.bool false) rfl rfl hHeld ?_
  simp only [pA, pN, sZ, sU]
  refine rT 10 26 (.bool false) rfl rfl hHeld ?_
  simp only [pA, pN, sZ, sU]
  refine rN 11 27 rfl rfl hHeld ?_
  simp only [pA, pN, sZ, sU]
  refine rN 12 28 rfl rfl hHeld ?_
  simp only [pA, pN, sZ, sU]
  refine rN 13 29 rfl rfl hHeld ?_
  simp only [pA, pN, sZ, sU]
  refine rN 14 30 rfl rfl hHeld ?_
  simp only [pA, pN, sZ, sU]
  refine rN 15 31 rfl rfl hHeld ?_
  simp only [pA, pN, sZ, sU]
  refine rN 16 32 rfl rfl hHeld ?_
  simp only [pA, pN, sZ, sU]
  refine rN 17 33 rfl rfl hHeld ?_
  simp only [pA, pN, sZ, sU]
  refine rT 18 34 (.bool false) rfl rfl hHeld ?_
  simp only [pA, pN, sZ, sU]
  refine rT 19 15 (.bool false) rfl rfl hHeld ?_
  simp only [pA, pN, sZ, sU]
  refine wpAnyH_done (by kernel_rfl) ?_ _
  go_wp2
  go_ret2
  exact ⟨by rw [HV.out.1, HV.out.2]; rfl, HK1.out.trans hHeld⟩
set_option maxHeartbeats 2000000 in
theorem taken2 (p : Ps) (hB : Brd p.B) (m : Mv) (ho : On m) (h0 : bAt p.B m.t = 0) (h1 : pawnB p m = true) (h2 : (m.t == p.e) = false) (w : World) (hT : TabM w) :
    Calls Tryz.prog 43 #[.agg (pl p).toArray, .agg (ml m).toArray] w fun e w' => e = .returned (.tuple #[.int .i64 (takeS p m), .bool (takeB p m)]) ∧ Kept w w' := by
  obtain ⟨f0, f1, t0, t1⟩ := ho
  have HP : Hid (PAt _ _ p) := ⟨hB.1, heap_alloc2_old w (.cells (pl p).toArray 26) (.cells (ml m).toArray 35)⟩
  have HM : Hid (MAt _ _ m) := ⟨heap_alloc2_new w (.cells (pl p).toArray 26) (.cells (ml m).toArray 35)⟩
  have HK0 := Lib.hid (((Kept.refl w).alloc (.cells (pl p).toArray 26)).alloc (.cells (ml m).toArray 35))
  have HT := Lib.hid (hT.kept HK0.out)
  have hpl : Hid (p.B.length = 64) := hB.1
  have HB := Lib.hid hB
  have ct := HM.out.t
  have HC := Lib.hid (man_at p.B hB m.t t0 t1)
  have HPw := Lib.hid (fun w => pawn_is p hB m f0 f1 w)
  have HF1 := Lib.hid (fun w => file_k m.f w f0 f1)
  have HF2 := Lib.hid (fun w => file_k m.t w t0 t1)
  have HPs := Lib.hid (fun w h => passed_is p hB w h)
  rw [h0] at HC
  rw [h1] at HPw
  have HV := Lib.hid (take_off (p := p) (m := m) (by unfold takeI epTake; rw [if_neg (by simpa using h0), if_neg (by simp [h1, h2])]))
  clear hB hT f0 f1 t0 t1
  go_enter Tryz.func43, Tryz.ntmps43
  go_wp2_with (first | (refine wpList_load_ps (by rfl) _ rfl _ rfl _ (HP.out) ?_) | (refine wpList_load_pb (by rfl) _ rfl _ rfl _ (HP.out) ?_) | (refine wpList_load_mv (by rfl) _ rfl _ rfl _ (HM.out) ?_))
  refine (HC.out _).mono ?_
  rintro e w1 ⟨rfl, k1⟩
  have HK1 := Lib.hid (HK0.out.trans k1)
  have HP1 := Lib.hid (HP.out.kept k1)
  have HM1 := Lib.hid (MAt.kept HM.out k1)
  have HT1 := Lib.hid (HT.out.kept k1)
  clear k1 ct
  go_wp2
  refine wp_region_held_drew (S := Kept _) (by kernel_rfl) (Kept.refl _).drew (fun hHeld => ?_)
  refine rY 0 16 rfl rfl (take_load_ps (by rfl) _ rfl _ rfl p hpl.out (fun _ h => (HP1.out).kept h)) hHeld ?_
  simp only [pA, pN, sZ, sU]
  refine rY 1 17 rfl rfl (take_load_mv (by rfl) _ rfl _ rfl m (fun _ h => MAt.kept (HM1.out) h)) hHeld ?_
  simp only [pA, pN, sZ, sU]
  refine rR 2 rfl (fun K hK => ?_)
  go_simp
  refine (HPw.out _).mono ?_
  rintro e w2 ⟨rfl, gw2⟩
  refine hK.out _ _ (hHeld.trans gw2) (fun _ => ?_)
  replace hHeld := hHeld.trans gw2
  clear hK K
  refine rT 3 19 (.bool true) rfl rfl hHeld ?_
  simp only [pA, pN, sZ, sU]
  refine rT 4 20 (.pointer (some ⟨w.heap.size + 1, 1, none⟩)) rfl rfl hHeld ?_
  simp only [pA, pN, sZ, sU]
  refine rC 5 21 (.int .i64 m.t) rfl rfl (fun _ h => kept_cell h (HM1.out.t)) hHeld ?_
  simp only [pA, pN, sZ, sU]
  refine rT 6 22 (.pointer (some ⟨w.heap.size, 66, none⟩)) rfl rfl hHeld ?_
  simp only [pA, pN, sZ, sU]
  refine rC 7 23 (.int .i64 p.e) rfl rfl (fun _ h => kept_cell h (HP1.out.ep)) hHeld ?_
  simp only [pA, pN, sZ, sU]
  refine rT 8 24 (.bool false) rfl rfl hHeld ?_
  simp only [pA, pN, sZ, sU]
  refine rT 9 25 (.bool false) rfl rfl hHeld ?_
  simp only [pA, pN, sZ, sU]
  refine rT 10 26 (.bool false) rfl rfl hHeld ?_
  simp only [pA, pN, sZ, sU]
  refine rN 11 27 rfl rfl hHeld ?_
  simp only [pA, pN, sZ, sU]
  refine rN 12 28 rfl rfl hHeld ?_
  simp only [pA, pN, sZ, sU]
  refine rN 13 29 rfl rfl hHeld ?_
  simp only [pA, pN, sZ, sU]
  refine rN 14 30 rfl rfl hHeld ?_
  simp only [pA, pN, sZ, sU]
  refine rN 15 31 rfl rfl hHeld ?_
  simp only [pA, pN, sZ, sU]
  refine rN 16 32 rfl rfl hHeld ?_
  simp only [pA, pN, sZ, sU]
  refine rN 17 33 rfl rfl hHeld ?_
  simp only [pA, pN, sZ, sU]
  refine rT 18 34 (.bool false) rfl rfl hHeld ?_
  simp only [pA, pN, sZ, sU]
  refine rT 19 15 (.bool false) rfl rfl hHeld ?_
  simp only [pA, pN, sZ, sU]
  refine wpAnyH_done (by kernel_rfl) ?_ _
  go_wp2
  go_ret2
  exact ⟨by rw [HV.out.1, HV.out.2]; rfl, HK1.out.trans hHeld⟩
set_option maxHeartbeats 2000000 in
theorem taken3 (p : Ps) (hB : Brd p.B) (m : Mv) (ho : On m) (h0 : bAt p.B m.t = 0) (h1 : pawnB p m = true) (h2 : (m.t == p.e) = true) (h3 : (m.f % 8 != m.t % 8) = false) (w : World) (hT : TabM w) :
    Calls Tryz.prog 43 #[.agg (pl p).toArray, .agg (ml m).toArray] w fun e w' => e = .returned (.tuple #[.int .i64 (takeS p m), .bool (takeB p m)]) ∧ Kept w w' := by
  obtain ⟨f0, f1, t0, t1⟩ := ho
  have HP : Hid (PAt _ _ p) := ⟨hB.1, heap_alloc2_old w (.cells (pl p).toArray 26) (.cells (ml m).toArray 35)⟩
  have HM : Hid (MAt _ _ m) := ⟨heap_alloc2_new w (.cells (pl p).toArray 26) (.cells (ml m).toArray 35)⟩
  have HK0 := Lib.hid (((Kept.refl w).alloc (.cells (pl p).toArray 26)).alloc (.cells (ml m).toArray 35))
  have HT := Lib.hid (hT.kept HK0.out)
  have hpl : Hid (p.B.length = 64) := hB.1
  have HB := Lib.hid hB
  have ct := HM.out.t
  have HC := Lib.hid (man_at p.B hB m.t t0 t1)
  have HPw := Lib.hid (fun w => pawn_is p hB m f0 f1 w)
  have HF1 := Lib.hid (fun w => file_k m.f w f0 f1)
  have HF2 := Lib.hid (fun w => file_k m.t w t0 t1)
  have HPs := Lib.hid (fun w h => passed_is p hB w h)
  rw [h0] at HC
  rw [h1] at HPw
  have HV := Lib.hid (take_off (p := p) (m := m) (by unfold takeI epTake; rw [if_neg (by simpa using h0), if_neg (by simp [h1, h2, h3])]))
  clear hB hT f0 f1 t0 t1
  go_enter Tryz.func43, Tryz.ntmps43
  go_wp2_with (first | (refine wpList_load_ps (by rfl) _ rfl _ rfl _ (HP.out) ?_) | (refine wpList_load_pb (by rfl) _ rfl _ rfl _ (HP.out) ?_) | (refine wpList_load_mv (by rfl) _ rfl _ rfl _ (HM.out) ?_))
  refine (HC.out _).mono ?_
  rintro e w1 ⟨rfl, k1⟩
  have HK1 := Lib.hid (HK0.out.trans k1)
  have HP1 := Lib.hid (HP.out.kept k1)
  have HM1 := Lib.hid (MAt.kept HM.out k1)
  have HT1 := Lib.hid (HT.out.kept k1)
  clear k1 ct
  go_wp2
  refine wp_region_held_drew (S := Kept _) (by kernel_rfl) (Kept.refl _).drew (fun hHeld => ?_)
  refine rY 0 16 rfl rfl (take_load_ps (by rfl) _ rfl _ rfl p hpl.out (fun _ h => (HP1.out).kept h)) hHeld ?_
  simp only [pA, pN, sZ, sU]
  refine rY 1 17 rfl rfl (take_load_mv (by rfl) _ rfl _ rfl m (fun _ h => MAt.kept (HM1.out) h)) hHeld ?_
  simp only [pA, pN, sZ, sU]
  refine rR 2 rfl (fun K hK => ?_)
  go_simp
  refine (HPw.out _).mono ?_
  rintro e w2 ⟨rfl, gw2⟩
  refine hK.out _ _ (hHeld.trans gw2) (fun _ => ?_)
  replace hHeld := hHeld.trans gw2
  clear hK K
  refine rT 3 19 (.bool true) rfl rfl hHeld ?_
  simp only [pA, pN, sZ, sU]
  refine rT 4 20 (.pointer (some ⟨w.heap.size + 1, 1, none⟩)) rfl rfl hHeld ?_
  simp only [pA, pN, sZ, sU]
  refine rC 5 21 (.int .i64 m.t) rfl rfl (fun _ h => kept_cell h (HM1.out.t)) hHeld ?_
  simp only [pA, pN, sZ, sU]
  refine rT 6 22 (.pointer (some ⟨w.heap.size, 66, none⟩)) rfl rfl hHeld ?_
  simp only [pA, pN, sZ, sU]
  refine rC 7 23 (.int .i64 p.e) rfl rfl (fun _ h => kept_cell h (HP1.out.ep)) hHeld ?_
  simp only [pA, pN, sZ, sU]
  refine rT 8 24 (.bool true) rfl rfl hHeld ?_
  simp only [pA, pN, sZ, sU]
  refine rT 9 25 (.bool true) rfl rfl hHeld ?_
  simp only [pA, pN, sZ, sU]
  refine rT 10 26 (.bool true) rfl rfl hHeld ?_
  simp only [pA, pN, sZ, sU]
  refine rT 11 27 (.pointer (some ⟨w.heap.size + 1, 0, none⟩)) rfl rfl hHeld ?_
  simp only [pA, pN, sZ, sU]
  refine rC 12 28 (.int .i64 m.f) rfl rfl (fun _ h => kept_cell h (HM1.out.f)) hHeld ?_
  simp only [pA, pN, sZ, sU]
  refine rT 14 30 (.pointer (some ⟨w.heap.size + 1, 1, none⟩)) rfl rfl hHeld ?_
  simp only [pA, pN, sZ, sU]
  refine rC 15 31 (.int .i64 m.t) rfl rfl (fun _ h => kept_cell h (HM1.out.t)) hHeld ?_
  simp only [pA, pN, sZ, sU]
  refine rR 13 rfl (fun K hK => ?_)
  go_simp
  refine (HF1.out _).mono ?_
  rintro e w3 ⟨rfl, gw3⟩
  refine hK.out _ _ (hHeld.trans gw3) (fun _ => ?_)
  replace hHeld := hHeld.trans gw3
  clear hK K
  refine rR 16 rfl (fun K hK => ?_)
  go_simp
  refine (HF2.out _).mono ?_
  rintro e w4 ⟨rfl, gw4⟩
  refine hK.out _ _ (hHeld.trans gw4) (fun _ => ?_)
  replace hHeld := hHeld.trans gw4
  clear hK K
  refine rT 17 33 (.bool false) rfl rfl hHeld ?_
  simp only [pA, pN, sZ, sU]
  refine rT 18 34 (.bool false) rfl rfl hHeld ?_
  simp only [pA, pN, sZ, sU]
  refine rT 19 15 (.bool false) rfl rfl hHeld ?_
  simp only [pA, pN, sZ, sU]
  refine wpAnyH_done (by kernel_rfl) ?_ _
  go_wp2
  go_ret2
  exact ⟨by rw [HV.out.1, HV.out.2]; rfl, HK1.out.trans hHeld⟩
set_option maxHeartbeats 2000000 in
theorem taken4 (p : Ps) (hB : Brd p.B) (m : Mv) (ho : On m) (h0 : bAt p.B m.t = 0) (h1 : pawnB p m = true) (h2 : (m.t == p.e) = true) (h3 : (m.f % 8 != m.t % 8) = true) (w : World) (hT : TabM w) :
    Calls Tryz.prog 43 #[.agg (pl p).toArray, .agg (ml m).toArray] w fun e w' => e = .returned (.tuple #[.int .i64 (takeS p m), .bool (takeB p m)]) ∧ Kept w w' := by
  obtain ⟨f0, f1, t0, t1⟩ := ho
  have HP : Hid (PAt _ _ p) := ⟨hB.1, heap_alloc2_old w (.cells (pl p).toArray 26) (.cells (ml m).toArray 35)⟩
  have HM : Hid (MAt _ _ m) := ⟨heap_alloc2_new w (.cells (pl p).toArray 26) (.cells (ml m).toArray 35)⟩
  have HK0 := Lib.hid (((Kept.refl w).alloc (.cells (pl p).toArray 26)).alloc (.cells (ml m).toArray 35))
  have HT := Lib.hid (hT.kept HK0.out)
  have hpl : Hid (p.B.length = 64) := hB.1
  have HB := Lib.hid hB
  have ct := HM.out.t
  have HC := Lib.hid (man_at p.B hB m.t t0 t1)
  have HPw := Lib.hid (fun w => pawn_is p hB m f0 f1 w)
  have HF1 := Lib.hid (fun w => file_k m.f w f0 f1)
  have HF2 := Lib.hid (fun w => file_k m.t w t0 t1)
  have HPs := Lib.hid (fun w h => passed_is p hB w h)
  rw [h0] at HC
  rw [h1] at HPw
  have HV := Lib.hid (take_pass (p := p) (m := m) (by unfold takeI epTake; rw [if_neg (by simpa using h0), if_pos (by rw [h1, h2, h3]; rfl)]))
  clear hB hT f0 f1 t0 t1
  go_enter Tryz.func43, Tryz.ntmps43
  go_wp2_with (first | (refine wpList_load_ps (by rfl) _ rfl _ rfl _ (HP.out) ?_) | (refine wpList_load_pb (by rfl) _ rfl _ rfl _ (HP.out) ?_) | (refine wpList_load_mv (by rfl) _ rfl _ rfl _ (HM.out) ?_))
  refine (HC.out _).mono ?_
  rintro e w1 ⟨rfl, k1⟩
  have HK1 := Lib.hid (HK0.out.trans k1)
  have HP1 := Lib.hid (HP.out.kept k1)
  have HM1 := Lib.hid (MAt.kept HM.out k1)
  have HT1 := Lib.hid (HT.out.kept k1)
  clear k1 ct
  go_wp2
  refine wp_region_held_drew (S := Kept _) (by kernel_rfl) (Kept.refl _).drew (fun hHeld => ?_)
  refine rY 0 16 rfl rfl (take_load_ps (by rfl) _ rfl _ rfl p hpl.out (fun _ h => (HP1.out).kept h)) hHeld ?_
  simp only [pA, pN, sZ, sU]
  refine rY 1 17 rfl rfl (take_load_mv (by rfl) _ rfl _ rfl m (fun _ h => MAt.kept (HM1.out) h)) hHeld ?_
  simp only [pA, pN, sZ, sU]
  refine rR 2 rfl (fun K hK => ?_)
  go_simp
  refine (HPw.out _).mono ?_
  rintro e w2 ⟨rfl, gw2⟩
  refine hK.out _ _ (hHeld.trans gw2) (fun _ => ?_)
  replace hHeld := hHeld.trans gw2
  clear hK K
  refine rT 3 19 (.bool true) rfl rfl hHeld ?_
  simp only [pA, pN, sZ, sU]
  refine rT 4 20 (.pointer (some ⟨w.heap.size + 1, 1, none⟩)) rfl rfl hHeld ?_
  simp only [pA, pN, sZ, sU]
  refine rC 5 21 (.int .i64 m.t) rfl rfl (fun _ h => kept_cell h (HM1.out.t)) hHeld ?_
  simp only [pA, pN, sZ, sU]
  refine rT 6 22 (.pointer (some ⟨w.heap.size, 66, none⟩)) rfl rfl hHeld ?_
  simp only [pA, pN, sZ, sU]
  refine rC 7 23 (.int .i64 p.e) rfl rfl (fun _ h => kept_cell h (HP1.out.ep)) hHeld ?_
  simp only [pA, pN, sZ, sU]
  refine rT 8 24 (.bool true) rfl rfl hHeld ?_
  simp only [pA, pN, sZ, sU]
  refine rT 9 25 (.bool true) rfl rfl hHeld ?_
  simp only [pA, pN, sZ, sU]
  refine rT 10 26 (.bool true) rfl rfl hHeld ?_
  simp only [pA, pN, sZ, sU]
  refine rT 11 27 (.pointer (some ⟨w.heap.size + 1, 0, none⟩)) rfl rfl hHeld ?_
  simp only [pA, pN, sZ, sU]
  refine rC 12 28 (.int .i64 m.f) rfl rfl (fun _ h => kept_cell h (HM1.out.f)) hHeld ?_
  simp only [pA, pN, sZ, sU]
  refine rT 14 30 (.pointer (some ⟨w.heap.size + 1, 1, none⟩)) rfl rfl hHeld ?_
  simp only [pA, pN, sZ, sU]
  refine rC 15 31 (.int .i64 m.t) rfl rfl (fun _ h => kept_cell h (HM1.out.t)) hHeld ?_
  simp only [pA, pN, sZ, sU]
  refine rR 13 rfl (fun K hK => ?_)
  go_simp
  refine (HF1.out _).mono ?_
  rintro e w3 ⟨rfl, gw3⟩
  refine hK.out _ _ (hHeld.trans gw3) (fun _ => ?_)
  replace hHeld := hHeld.trans gw3
  clear hK K
  refine rR 16 rfl (fun K hK => ?_)
  go_simp
  refine (HF2.out _).mono ?_
  rintro e w4 ⟨rfl, gw4⟩
  refine hK.out _ _ (hHeld.trans gw4) (fun _ => ?_)
  replace hHeld := hHeld.trans gw4
  clear hK K
  refine rT 17 33 (.bool true) rfl rfl hHeld ?_
  simp only [pA, pN, sZ, sU]
  refine rT 18 34 (.bool true) rfl rfl hHeld ?_
  simp only [pA, pN, sZ, sU]
  refine rT 19 15 (.bool true) rfl rfl hHeld ?_
  simp only [pA, pN, sZ, sU]
  refine wpAnyH_done (by kernel_rfl) ?_ _
  have HP4 := Lib.hid (HP1.out.kept hHeld)
  have HT4 := Lib.hid (HT1.out.kept hHeld)
  have HK4 := Lib.hid (HK1.out.trans hHeld)
  clear hHeld
  go_wp2_with (first | (refine wpList_load_ps (by rfl) _ rfl _ rfl _ (HP4.out) ?_) | (refine wpList_load_pb (by rfl) _ rfl _ rfl _ (HP4.out) ?_))
  refine (HPs.out _ HT4.out.tabs).mono ?_
  rintro e w5 ⟨rfl, k5⟩
  have HK5 := Lib.hid (HK4.out.trans k5)
  clear k5
  go_wp2
  go_ret2
  exact ⟨by rw [HV.out.1, HV.out.2]; rfl, HK5.out⟩
theorem taken_is (p : Ps) (hB : Brd p.B) (m : Mv) (ho : On m) (w : World) (hT : TabM w) :
    Calls Tryz.prog 43 #[.agg (pl p).toArray, .agg (ml m).toArray] w fun e w' => e = .returned (.tuple #[.int .i64 (takeS p m), .bool (takeB p m)]) ∧ Kept w w' := by
  by_cases h0 : bAt p.B m.t = 0
  · cases h1 : pawnB p m
    · exact taken1 p hB m ho h0 h1 w hT
    · cases h2 : (m.t == p.e)
      · exact taken2 p hB m ho h0 h1 h2 w hT
      · cases h3 : (m.f % 8 != m.t % 8)
        · exact taken3 p hB m ho h0 h1 h2 h3 w hT
        · exact taken4 p hB m ho h0 h1 h2 h3 w hT
  · exact taken0 p hB m ho h0 w hT
/-- Is a right's home touched? -/
def tcB (m : Mv) (k : Nat) : Bool := ((m.f == hKg k) || (m.t == hKg k)) || ((m.f == hRk k) || (m.t == hRk k))
def rtN (c : Int) (m : Mv) : Nat → Int
  | 0 => c
  | k + 1 => if tcB m k then bits .andNot .i64 (rtN c m k) (hR k) else rtN c m k
theorem rtN_yes {c : Int} {m : Mv} {k : Nat} (h : tcB m k = true) : rtN c m (k + 1) = bits .andNot .i64 (rtN c m k) (hR k) := by rw [rtN, if_pos h]
theorem rtN_no {c : Int} {m : Mv} {k : Nat} (h : tcB m k = false) : rtN c m (k + 1) = rtN c m k := by rw [rtN, if_neg (by rw [h]; decide)]
set_option maxHeartbeats 2000000 in
theorem rights_is (p : Ps) (hB : Brd p.B) (m : Mv) (w : World) (hT : TabM w) :
    Calls Tryz.prog 24 #[.agg (pl p).toArray, .agg (ml m).toArray] w fun e w' => e = .returned (.int .i64 (rtN p.c m 4)) ∧ Kept w w' := by
  have HP : Hid (PAt _ _ p) := ⟨hB.1, heap_alloc2_old w (.cells (pl p).toArray 26) (.cells (ml m).toArray 35)⟩
  have HM : Hid (MAt _ _ m) := ⟨heap_alloc2_new w (.cells (pl p).toArray 26) (.cells (ml m).toArray 35)⟩
  have HK0 := Lib.hid (((Kept.refl w).alloc (.cells (pl p).toArray 26)).alloc (.cells (ml m).toArray 35))
  have HT := Lib.hid (hT.kept HK0.out)
  have cc := HP.out.cas
  clear hB hT
  go_enter Tryz.func24, Tryz.ntmps24
  go_wp2_with (refine wpList_load_mid rfl 78 _ rfl 1 0 rfl wiV _ HT.out.wings.range Tryz.underlying78 rfl size_wings ?_)
  clear cc
  generalize (w.alloc (.cells (pl p).toArray 26)).alloc (.cells (ml m).toArray 35) = W at *
  go_loopw [5, 11] (fun t5 t11 wr => ∃ k : Nat, k ≤ 4 ∧ t11 = .int .i64 k ∧ t5 = .int .i64 (rtN p.c m k) ∧ Kept W wr) (fun _ t11 _ => 4 - (intOf t11).toNat)
  case atStart => exact ⟨0, by omega, rfl, rfl, Kept.refl _⟩
  case round =>
    obtain ⟨k, hk, rfl, rfl, hK⟩ := hrel
    have HK := Lib.hid hK
    clear hK
    by_cases hlt : k < 4
    · have hx := run_index_wi k hlt
      have HA := Lib.hid (HK.out.alloc (.cells (wl k).toArray 73))
      have HMA := Lib.hid (MAt.kept HM.out HA.out)
      have HWA : Hid (RAt _ _ (wl k) 73) := ⟨heap_alloc_new wr (.cells (wl k).toArray 73)⟩
      have HV : Hid (tcB m k = (((m.f == hKg k) || (m.t == hKg k)) || ((m.f == hRk k) || (m.t == hRk k)))) := by rfl
      have HY := Lib.hid (@rtN_yes p.c m k)
      have HN := Lib.hid (@rtN_no p.c m k)
      have HC1 := Lib.hid (mtouches_is m (hKg k))
      have HC2 := Lib.hid (mtouches_is m (hRk k))
      have y1 : _ = some (Value.int .i64 (hKg k)) := HWA.out.cellK 1
      generalize ((m.f == hKg k) || (m.t == hKg k)) = b1 at *
      generalize ((m.f == hRk k) || (m.t == hRk k)) = b2 at *
      cases b1
      · go_wp2_with (first | (with_reducible refine wpList_new_wi rfl rfl ?_) | ((with_reducible refine wpList_store_newwi rfl _ _ rfl 4 k ?_ ?_ ?_); exact rfl; exact rfl) | (refine wpList_load_mv (by rfl) _ rfl _ rfl _ HMA.out ?_))
        refine (HC1.out _).mono ?_
        rintro e w2 ⟨rfl, k2⟩
        have HK2 := Lib.hid (HA.out.trans k2)
        have HW2 := Lib.hid (HWA.out.kept k2)
        have HM2 := Lib.hid (MAt.kept HMA.out k2)
        have y2 : _ = some (Value.int .i64 (hRk k)) := HW2.out.cellK 2
        clear k2 y1
        go_wp2_with (refine wpList_load_mv (by rfl) _ rfl _ rfl _ HM2.out ?_)
        refine (HC2.out _).mono ?_
        rintro e w3 ⟨rfl, k3⟩
        have HK3 := Lib.hid (HK2.out.trans k3)
        have HW3 := Lib.hid (HW2.out.kept k3)
        clear k3 y2
        cases b2
        · have HE := Lib.hid (HN.out HV.out)
          go_wp2
          go_roundw
          case rel => exact ⟨k + 1, by omega, by go_num, by rw [HE.out], HK3.out⟩
          case measure => simp [intOf]; omega
        · have HE := Lib.hid (HY.out HV.out)
          have y0 : _ = some (Value.int .i64 (hR k)) := HW3.out.cellK 0
          go_wp2
          go_roundw
          case rel => exact ⟨k + 1, by omega, by go_num, by rw [HE.out], HK3.out⟩
          case measure => simp [intOf]; omega
      · go_wp2_with (first | (with_reducible refine wpList_new_wi rfl rfl ?_) | ((with_reducible refine wpList_store_newwi rfl _ _ rfl 4 k ?_ ?_ ?_); exact rfl; exact rfl) | (refine wpList_load_mv (by rfl) _ rfl _ rfl _ HMA.out ?_))
        refine (HC1.out _).mono ?_
        rintro e w2 ⟨rfl, k2⟩
        have HK2 := Lib.hid (HA.out.trans k2)
        have HW2 := Lib.hid (HWA.out.kept k2)
        have HE := Lib.hid (HY.out (by rw [HV.out]; rfl))
        have y0 : _ = some (Value.int .i64 (hR k)) := HW2.out.cellK 0
        clear k2 y1
        go_wp2
        go_roundw
        case rel => exact ⟨k + 1, by omega, by go_num, by rw [HE.out], HK2.out⟩
        case measure => simp [intOf]; omega
    · obtain rfl : k = 4 := by omega
      go_wp2
      go_ret
      exact ⟨rfl, HK0.out.trans HK.out⟩
/-- Ep behind a move. -/
def epI (p : Ps) (m : Mv) : Int := if pawnB p m && (m.f % 8 == m.t % 8) && (farI m.f m.t == 2) then (m.f + m.t) / 2 else -1
set_option maxHeartbeats 2000000 in
theorem ep1 (p : Ps) (hB : Brd p.B) (m : Mv) (ho : On m) (h1 : pawnB p m = false) (w : World) :
    Calls Tryz.prog 25 #[.agg (pl p).toArray, .agg (ml m).toArray] w fun e w' => e = .returned (.int .i64 (epI p m)) ∧ Kept w w' := by
  have HP : Hid (PAt _ _ p) := ⟨hB.1, heap_alloc2_old w (.cells (pl p).toArray 26) (.cells (ml m).toArray 35)⟩
  have HM : Hid (MAt _ _ m) := ⟨heap_alloc2_new w (.cells (pl p).toArray 26) (.cells (ml m).toArray 35)⟩
  have HK0 := Lib.hid (((Kept.refl w).alloc (.cells (pl p).toArray 26)).alloc (.cells (ml m).toArray 35))
  have hpl : Hid (p.B.length = 64) := hB.1
  have HPw := Lib.hid (fun w => pawn_is p hB m ho.f0 ho.f1 w)
  rw [h1] at HPw
  have HF1 := Lib.hid (fun w => file_k m.f w ho.f0 ho.f1)
  have HF2 := Lib.hid (fun w => file_k m.t w ho.t0 ho.t1)
  have HFr := Lib.hid (fun w => far_k m.f m.t w ho.f0 ho.f1 ho.t0 ho.t1)
  have HMd := Lib.hid (fun w => mid_is m ho w)
  have HV : Hid (epI p m = -1) := by unfold epI; rw [h1]; rfl
  clear hB ho
  go_enter Tryz.func25, Tryz.ntmps25
  go_wp2
  generalize (w.alloc (.cells (pl p).toArray 26)).alloc (.cells (ml m).toArray 35) = W at *
  refine wp_region_held_drew (S := Kept _) (by kernel_rfl) (Kept.refl _).drew (fun hHeld => ?_)
  refine rT 0 6 (.pointer (some ⟨w.heap.size + 1, 0, none⟩)) rfl rfl hHeld ?_
  simp only [pA, pN, sZ, sU]
  refine rC 1 7 (.int .i64 m.f) rfl rfl (fun _ h => kept_cell h (HM.out.f)) hHeld ?_
  simp only [pA, pN, sZ, sU]
  refine rT 3 9 (.pointer (some ⟨w.heap.size + 1, 1, none⟩)) rfl rfl hHeld ?_
  simp only [pA, pN, sZ, sU]
  refine rC 4 10 (.int .i64 m.t) rfl rfl (fun _ h => kept_cell h (HM.out.t)) hHeld ?_
  simp only [pA, pN, sZ, sU]
  refine rR 2 rfl (fun K hK => ?_)
  go_simp
  refine (HF1.out _).mono ?_
  rintro e w1 ⟨rfl, gw1⟩
  refine hK.out _ _ (hHeld.trans gw1) (fun _ => ?_)
  replace hHeld := hHeld.trans gw1
  clear hK K
  refine rR 5 rfl (fun K hK => ?_)
  go_simp
  refine (HF2.out _).mono ?_
  rintro e w2 ⟨rfl, gw2⟩
  refine hK.out _ _ (hHeld.trans gw2) (fun _ => ?_)
  replace hHeld := hHeld.trans gw2
  clear hK K
  refine rT 6 12 (.bool (m.f % 8 == m.t % 8)) rfl rfl hHeld ?_
  simp only [pA, pN, sZ, sU]
  refine rT 7 5 (.bool (m.f % 8 == m.t % 8)) rfl rfl hHeld ?_
  simp only [pA, pN, sZ, sU]
  refine wpAnyH_done (by kernel_rfl) ?_ _
  have HP2 := Lib.hid (HP.out.kept hHeld)
  have HM2 := Lib.hid (MAt.kept HM.out hHeld)
  have HK2 := Lib.hid (HK0.out.trans hHeld)
  clear hHeld
  go_wp2_with (first | (refine wpList_load_ps (by rfl) _ rfl _ rfl _ (HP2.out) ?_) | (refine wpList_load_pb (by rfl) _ rfl _ rfl _ (HP2.out) ?_) | (refine wpList_load_mv (by rfl) _ rfl _ rfl _ (HM2.out) ?_))
  refine (HPw.out _).mono ?_
  rintro e w3 ⟨rfl, k3⟩
  have HM3 := Lib.hid (MAt.kept HM2.out k3)
  have HK3 := Lib.hid (HK2.out.trans k3)
  clear k3
  go_wp2
  go_ret
  exact ⟨by rw [HV.out]; rfl, HK3.out⟩
set_option maxHeartbeats 2000000 in
theorem ep2 (p : Ps) (hB : Brd p.B) (m : Mv) (ho : On m) (h1 : pawnB p m = true) (h2 : (m.f % 8 == m.t % 8) = false) (w : World) :
    Calls Tryz.prog 25 #[.agg (pl p).toArray, .agg (ml m).toArray] w fun e w' => e = .returned (.int .i64 (epI p m)) ∧ Kept w w' := by
  have HP : Hid (PAt _ _ p) := ⟨hB.1, heap_alloc2_old w (.cells (pl p).toArray 26) (.cells (ml m).toArray 35)⟩
  have HM : Hid (MAt _ _ m) := ⟨heap_alloc2_new w (.cells (pl p).toArray 26) (.cells (ml m).toArray 35)⟩
  have HK0 := Lib.hid (((Kept.refl w).alloc (.cells (pl p).toArray 26)).alloc (.cells (ml m).toArray 35))
  have hpl : Hid (p.B.length = 64) := hB.1
  have HPw := Lib.hid (fun w => pawn_is p hB m ho.f0 ho.f1 w)
  rw [h1] at HPw
  have HF1 := Lib.hid (fun w => file_k m.f w ho.f0 ho.f1)
  have HF2 := Lib.hid (fun w => file_k m.t w ho.t0 ho.t1)
  have HFr := Lib.hid (fun w => far_k m.f m.t w ho.f0 ho.f1 ho.t0 ho.t1)
  have HMd := Lib.hid (fun w => mid_is m ho w)
  have HV : Hid (epI p m = -1) := by unfold epI; rw [h1, h2]; rfl
  clear hB ho
  go_enter Tryz.func25, Tryz.ntmps25
  go_wp2
  generalize (w.alloc (.cells (pl p).toArray 26)).alloc (.cells (ml m).toArray 35) = W at *
  refine wp_region_held_drew (S := Kept _) (by kernel_rfl) (Kept.refl _).drew (fun hHeld => ?_)
  refine rT 0 6 (.pointer (some ⟨w.heap.size + 1, 0, none⟩)) rfl rfl hHeld ?_
  simp only [pA, pN, sZ, sU]
  refine rC 1 7 (.int .i64 m.f) rfl rfl (fun _ h => kept_cell h (HM.out.f)) hHeld ?_
  simp only [pA, pN, sZ, sU]
  refine rT 3 9 (.pointer (some ⟨w.heap.size + 1, 1, none⟩)) rfl rfl hHeld ?_
  simp only [pA, pN, sZ, sU]
  refine rC 4 10 (.int .i64 m.t) rfl rfl (fun _ h => kept_cell h (HM.out.t)) hHeld ?_
  simp only [pA, pN, sZ, sU]
  refine rR 2 rfl (fun K hK => ?_)
  go_simp
  refine (HF1.out _).mono ?_
  rintro e w1 ⟨rfl, gw1⟩
  refine hK.out _ _ (hHeld.trans gw1) (fun _ => ?_)
  replace hHeld := hHeld.trans gw1
  clear hK K
  refine rR 5 rfl (fun K hK => ?_)
  go_simp
  refine (HF2.out _).mono ?_
  rintro e w2 ⟨rfl, gw2⟩
  refine hK.out _ _ (hHeld.trans gw2) (fun _ => ?_)
  replace hHeld := hHeld.trans gw2
  clear hK K
  refine rT 6 12 (.bool (m.f % 8 == m.t % 8)) rfl rfl hHeld ?_
  simp only [pA, pN, sZ, sU]
  refine rT 7 5 (.bool (m.f % 8 == m.t % 8)) rfl rfl hHeld ?_
  simp only [pA, pN, sZ, sU]
  refine wpAnyH_done (by kernel_rfl) ?_ _
  have HP2 := Lib.hid (HP.out.kept hHeld)
  have HM2 := Lib.hid (MAt.kept HM.out hHeld)
  have HK2 := Lib.hid (HK0.out.trans hHeld)
  clear hHeld
  go_wp2_with (first | (refine wpList_load_ps (by rfl) _ rfl _ rfl _ (HP2.out) ?_) | (refine wpList_load_pb (by rfl) _ rfl _ rfl _ (HP2.out) ?_) | (refine wpList_load_mv (by rfl) _ rfl _ rfl _ (HM2.out) ?_))
  refine (HPw.out _).mono ?_
  rintro e w3 ⟨rfl, k3⟩
  have HM3 := Lib.hid (MAt.kept HM2.out k3)
  have HK3 := Lib.hid (HK2.out.trans k3)
  clear k3
  go_wp2
  go_ret
  exact ⟨by rw [HV.out]; rfl, HK3.out⟩
set_option maxHeartbeats 2000000 in
theorem ep3 (p : Ps) (hB : Brd p.B) (m : Mv) (ho : On m) (h1 : pawnB p m = true) (h2 : (m.f % 8 == m.t % 8) = true) (h3 : (farI m.f m.t == 2) = false) (w : World) :
    Calls Tryz.prog 25 #[.agg (pl p).toArray, .agg (ml m).toArray] w fun e w' => e = .returned (.int .i64 (epI p m)) ∧ Kept w w' := by
  have HP : Hid (PAt _ _ p) := ⟨hB.1, heap_alloc2_old w (.cells (pl p).toArray 26) (.cells (ml m).toArray 35)⟩
  have HM : Hid (MAt _ _ m) := ⟨heap_alloc2_new w (.cells (pl p).toArray 26) (.cells (ml m).toArray 35)⟩
  have HK0 := Lib.hid (((Kept.refl w).alloc (.cells (pl p).toArray 26)).alloc (.cells (ml m).toArray 35))
  have hpl : Hid (p.B.length = 64) := hB.1
  have HPw := Lib.hid (fun w => pawn_is p hB m ho.f0 ho.f1 w)
  rw [h1] at HPw
  have HF1 := Lib.hid (fun w => file_k m.f w ho.f0 ho.f1)
  have HF2 := Lib.hid (fun w => file_k m.t w ho.t0 ho.t1)
  have HFr := Lib.hid (fun w => far_k m.f m.t w ho.f0 ho.f1 ho.t0 ho.t1)
  have HMd := Lib.hid (fun w => mid_is m ho w)
  have HV : Hid (epI p m = -1) := by unfold epI; rw [h1, h2, h3]; rfl
  generalize farI m.f m.t = fr at *
  clear hB ho
  go_enter Tryz.func25, Tryz.ntmps25
  go_wp2
  generalize (w.alloc (.cells (pl p).toArray 26)).alloc (.cells (ml m).toArray 35) = W at *
  refine wp_region_held_drew (S := Kept _) (by kernel_rfl) (Kept.refl _).drew (fun hHeld => ?_)
  refine rT 0 6 (.pointer (some ⟨w.heap.size + 1, 0, none⟩)) rfl rfl hHeld ?_
  simp only [pA, pN, sZ, sU]
  refine rC 1 7 (.int .i64 m.f) rfl rfl (fun _ h => kept_cell h (HM.out.f)) hHeld ?_
  simp only [pA, pN, sZ, sU]
  refine rT 3 9 (.pointer (some ⟨w.heap.size + 1, 1, none⟩)) rfl rfl hHeld ?_
  simp only [pA, pN, sZ, sU]
  refine rC 4 10 (.int .i64 m.t) rfl rfl (fun _ h => kept_cell h (HM.out.t)) hHeld ?_
  simp only [pA, pN, sZ, sU]
  refine rR 2 rfl (fun K hK => ?_)
  go_simp
  refine (HF1.out _).mono ?_
  rintro e w1 ⟨rfl, gw1⟩
  refine hK.out _ _ (hHeld.trans gw1) (fun _ => ?_)
  replace hHeld := hHeld.trans gw1
  clear hK K
  refine rR 5 rfl (fun K hK => ?_)
  go_simp
  refine (HF2.out _).mono ?_
  rintro e w2 ⟨rfl, gw2⟩
  refine hK.out _ _ (hHeld.trans gw2) (fun _ => ?_)
  replace hHeld := hHeld.trans gw2
  clear hK K
  refine rT 6 12 (.bool (m.f % 8 == m.t % 8)) rfl rfl hHeld ?_
  simp only [pA, pN, sZ, sU]
  refine rT 7 5 (.bool (m.f % 8 == m.t % 8)) rfl rfl hHeld ?_
  simp only [pA, pN, sZ, sU]
  refine wpAnyH_done (by kernel_rfl) ?_ _
  have HP2 := Lib.hid (HP.out.kept hHeld)
  have HM2 := Lib.hid (MAt.kept HM.out hHeld)
  have HK2 := Lib.hid (HK0.out.trans hHeld)
  clear hHeld
  go_wp2_with (first | (refine wpList_load_ps (by rfl) _ rfl _ rfl _ (HP2.out) ?_) | (refine wpList_load_pb (by rfl) _ rfl _ rfl _ (HP2.out) ?_) | (refine wpList_load_mv (by rfl) _ rfl _ rfl _ (HM2.out) ?_))
  refine (HPw.out _).mono ?_
  rintro e w3 ⟨rfl, k3⟩
  have HM3 := Lib.hid (MAt.kept HM2.out k3)
  have HK3 := Lib.hid (HK2.out.trans k3)
  clear k3
  have cf := HM3.out.f
  have ct := HM3.out.t
  go_wp2_with fail
  refine (HFr.out _).mono ?_
  rintro e w4 ⟨rfl, k4⟩
  have HM4 := Lib.hid (MAt.kept HM3.out k4)
  have HK4 := Lib.hid (HK3.out.trans k4)
  clear k4 cf ct
  go_wp2
  go_ret
  exact ⟨by rw [HV.out]; rfl, HK4.out⟩
set_option maxHeartbeats 2000000 in
theorem ep4 (p : Ps) (hB : Brd p.B) (m : Mv) (ho : On m) (h1 : pawnB p m = true) (h2 : (m.f % 8 == m.t % 8) = true) (h3 : (farI m.f m.t == 2) = true) (w : World) :
    Calls Tryz.prog 25 #[.agg (pl p).toArray, .agg (ml m).toArray] w fun e w' => e = .returned (.int .i64 (epI p m)) ∧ Kept w w' := by
  have HP : Hid (PAt _ _ p) := ⟨hB.1, heap_alloc2_old w (.cells (pl p).toArray 26) (.cells (ml m).toArray 35)⟩
  have HM : Hid (MAt _ _ m) := ⟨heap_alloc2_new w (.cells (pl p).toArray 26) (.cells (ml m).toArray 35)⟩
  have HK0 := Lib.hid (((Kept.refl w).alloc (.cells (pl p).toArray 26)).alloc (.cells (ml m).toArray 35))
  have hpl : Hid (p.B.length = 64) := hB.1
  have HPw := Lib.hid (fun w => pawn_is p hB m ho.f0 ho.f1 w)
  rw [h1] at HPw
  have HF1 := Lib.hid (fun w => file_k m.f w ho.f0 ho.f1)
  have HF2 := Lib.hid (fun w => file_k m.t w ho.t0 ho.t1)
  have HFr := Lib.hid (fun w => far_k m.f m.t w ho.f0 ho.f1 ho.t0 ho.t1)
  have HMd := Lib.hid (fun w => mid_is m ho w)
  have HV : Hid (epI p m = (m.f + m.t) / 2) := by unfold epI; rw [h1, h2, h3]; rfl
  generalize farI m.f m.t = fr at *
  clear hB ho
  go_enter Tryz.func25, Tryz.ntmps25
  go_wp2
  generalize (w.alloc (.cells (pl p).toArray 26)).alloc (.cells (ml m).toArray 35) = W at *
  refine wp_region_held_drew (S := Kept _) (by kernel_rfl) (Kept.refl _).drew (fun hHeld => ?_)
  refine rT 0 6 (.pointer (some ⟨w.heap.size + 1, 0, none⟩)) rfl rfl hHeld ?_
  simp only [pA, pN, sZ, sU]
  refine rC 1 7 (.int .i64 m.f) rfl rfl (fun _ h => kept_cell h (HM.out.f)) hHeld ?_
  simp only [pA, pN, sZ, sU]
  refine rT 3 9 (.pointer (some ⟨w.heap.size + 1, 1, none⟩)) rfl rfl hHeld ?_
  simp only [pA, pN, sZ, sU]
  refine rC 4 10 (.int .i64 m.t) rfl rfl (fun _ h => kept_cell h (HM.out.t)) hHeld ?_
  simp only [pA, pN, sZ, sU]
  refine rR 2 rfl (fun K hK => ?_)
  go_simp
  refine (HF1.out _).mono ?_
  rintro e w1 ⟨rfl, gw1⟩
  refine hK.out _ _ (hHeld.trans gw1) (fun _ => ?_)
  replace hHeld := hHeld.trans gw1
  clear hK K
  refine rR 5 rfl (fun K hK => ?_)
  go_simp
  refine (HF2.out _).mono ?_
  rintro e w2 ⟨rfl, gw2⟩
  refine hK.out _ _ (hHeld.trans gw2) (fun _ => ?_)
  replace hHeld := hHeld.trans gw2
  clear hK K
  refine rT 6 12 (.bool (m.f % 8 == m.t % 8)) rfl rfl hHeld ?_
  simp only [pA, pN, sZ, sU]
  refine rT 7 5 (.bool (m.f % 8 == m.t % 8)) rfl rfl hHeld ?_
  simp only [pA, pN, sZ, sU]
  refine wpAnyH_done (by kernel_rfl) ?_ _
  have HP2 := Lib.hid (HP.out.kept hHeld)
  have HM2 := Lib.hid (MAt.kept HM.out hHeld)
  have HK2 := Lib.hid (HK0.out.trans hHeld)
  clear hHeld
  go_wp2_with (first | (refine wpList_load_ps (by rfl) _ rfl _ rfl _ (HP2.out) ?_) | (refine wpList_load_pb (by rfl) _ rfl _ rfl _ (HP2.out) ?_) | (refine wpList_load_mv (by rfl) _ rfl _ rfl _ (HM2.out) ?_))
  refine (HPw.out _).mono ?_
  rintro e w3 ⟨rfl, k3⟩
  have HM3 := Lib.hid (MAt.kept HM2.out k3)
  have HK3 := Lib.hid (HK2.out.trans k3)
  clear k3
  have cf := HM3.out.f
  have ct := HM3.out.t
  go_wp2_with fail
  refine (HFr.out _).mono ?_
  rintro e w4 ⟨rfl, k4⟩
  have HM4 := Lib.hid (MAt.kept HM3.out k4)
  have HK4 := Lib.hid (HK3.out.trans k4)
  clear k4 cf ct
  go_wp2_with (refine wpList_load_mv (by rfl) _ rfl _ rfl _ HM4.out ?_)
  refine (HMd.out _).mono ?_
  rintro e w5 ⟨rfl, k5⟩
  have HK5 := Lib.hid (HK4.out.trans k5)
  clear k5
  go_wp2
  go_ret
  exact ⟨by rw [HV.out]; rfl, HK5.out⟩
theorem epb_is (p : Ps) (hB : Brd p.B) (m : Mv) (ho : On m) (w : World) :
    Calls Tryz.prog 25 #[.agg (pl p).toArray, .agg (ml m).toArray] w fun e w' => e = .returned (.int .i64 (epI p m)) ∧ Kept w w' := by
  cases h1 : pawnB p m
  · exact ep1 p hB m ho h1 w
  · cases h2 : (m.f % 8 == m.t % 8)
    · exact ep2 p hB m ho h1 h2 w
    · cases h3 : (farI m.f m.t == 2)
      · exact ep3 p hB m ho h1 h2 h3 w
      · exact ep4 p hB m ho h1 h2 h3 w
end Go.Proofs.YtkebpchhpidogaaGreatDoor
namespace Go.Proofs.YtkebpchhpidogaaGreatDoor
open Go.RowKit
set_option linter.unusedVariables false
set_option linter.unusedSimpArgs false
set_option maxRecDepth 100000

/-- Who stands on a square; nobody on what is none. -/
def manA (B : List Int) (s : Int) : Int := if 0 ≤ s ∧ s < 64 then bAt B s else 0
theorem man_a (B : List Int) (hB : Brd B) (s : Int) (w : World) : Calls Tryz.prog 29 #[.agg (cl B).toArray, .int .i64 s] w fun e w' => e = .returned (.int .i64 (manA B s)) ∧ Kept w w' := by
  unfold manA
  by_cases h : 0 ≤ s ∧ s < 64
  · rw [if_pos h]; exact man_at B hB s h.1 h.2 w
  · rw [if_neg h]; exact man_no B s (by omega) w
def onB (s : Int) : Bool := decide (0 ≤ s ∧ s < 64)
theorem right_k (s : Int) (w : World) : Calls Tryz.prog 40 #[.int .i64 s] w fun e w' => e = .returned (.bool (onB s)) ∧ Kept w w' := by
  unfold onB
  by_cases h : 0 ≤ s ∧ s < 64
  · rw [decide_eq_true h]; exact (right_yes s w h.1 h.2).mono fun _ _ ⟨a, b⟩ => ⟨a, b ▸ Kept.refl _⟩
  · rw [decide_eq_false h]; exact (right_no s w (by omega)).mono fun _ _ ⟨a, b⟩ => ⟨a, b ▸ Kept.refl _⟩
def lastI (t : Int) : Int := if t = 0 then 7 else 0
/-- Does a pawn go to its last rank? -/
def turnsB (p : Ps) (m : Mv) : Bool := (kindI (manA p.B m.f) == 1) && (m.t / 8 == lastI p.t)
/-- Is the move formed, in a right position? -/
def formB (p : Ps) (m : Mv) : Bool := (sideI (manA p.B m.f) == p.t) && onB m.t && !(sideI (manA p.B m.t) == p.t) && (turnsB p m == (m.p != 0)) && promoB m.p
theorem side_zero : sideI 0 = -1 := by decide
theorem form_on {p : Ps} {m : Mv} (t01 : p.t = 0 ∨ p.t = 1) (h : formB p m = true) : On m := by
  unfold formB at h
  simp only [Bool.and_eq_true, beq_iff_eq, onB, decide_eq_true_eq] at h
  obtain ⟨⟨⟨⟨h1, h2⟩, h3⟩, h4⟩, h5⟩ := h
  have : 0 ≤ m.f ∧ m.f < 64 := by
    by_cases hf : 0 ≤ m.f ∧ m.f < 64
    · exact hf
    · unfold manA at h1; rw [if_neg hf, side_zero] at h1; omega
  exact ⟨this.1, this.2, h2.1, h2.2⟩
set_option maxHeartbeats 2000000 in
theorem formed1 (p : Ps) (hB : Brd p.B) (m : Mv) (h1 : (sideI (manA p.B m.f) == p.t) = false) (w : World) (hT : TabM w) :
    Calls Tryz.prog 21 #[.agg (pl p).toArray, .agg (ml m).toArray] w fun e w' => e = .returned (.bool (formB p m)) ∧ Kept w w' := by
  have HP : Hid (PAt _ _ p) := ⟨hB.1, heap_alloc2_old w (.cells (pl p).toArray 26) (.cells (ml m).toArray 35)⟩
  have HM : Hid (MAt _ _ m) := ⟨heap_alloc2_new w (.cells (pl p).toArray 26) (.cells (ml m).toArray 35)⟩
  have HK0 := Lib.hid (((Kept.refl w).alloc (.cells (pl p).toArray 26)).alloc (.cells (ml m).toArray 35))
  have HT := Lib.hid (hT.kept HK0.out)
  have hpl : Hid (p.B.length = 64) := hB.1
  have HB := Lib.hid hB
  have cf := HM.out.f
  have HC := Lib.hid (man_a p.B hB m.f)
  have HC2 := Lib.hid (man_a p.B hB m.t)
  have HRt := Lib.hid (right_k m.t)
  have HV : Hid (formB p m = false) := by unfold formB; rw [h1]; rfl
  have h1' : (sideI (manA p.B m.f) != p.t) = true := by rw [bne, h1]; rfl
  generalize manA p.B m.f = x at *
  generalize manA p.B m.t = y at *
  clear hB hT
  go_enter Tryz.func21, Tryz.ntmps21
  go_wp2_with (first | (refine wpList_load_ps (by rfl) _ rfl _ rfl _ (HP.out) ?_) | (refine wpList_load_pb (by rfl) _ rfl _ rfl _ (HP.out) ?_) | (refine wpList_load_mv (by rfl) _ rfl _ rfl _ (HM.out) ?_))
  refine (HC.out _).mono ?_
  rintro e w1 ⟨rfl, k1⟩
  have HK1 := Lib.hid (HK0.out.trans k1)
  have HP1 := Lib.hid (HP.out.kept k1)
  have HM1 := Lib.hid (MAt.kept HM.out k1)
  have HT1 := Lib.hid (HT.out.kept k1)
  clear k1 cf
  go_wp2
  refine wp_region_held_drew (S := Kept _) (by kernel_rfl) (Kept.refl _).drew (fun hHeld => ?_)
  refine rT 0 12 (.int .i64 x) rfl rfl hHeld ?_
  simp only [pA, pN, sZ, sU]
  refine rT 2 14 (.pointer (some ⟨w.heap.size, 64, none⟩)) rfl rfl hHeld ?_
  simp only [pA, pN, sZ, sU]
  refine rC 3 15 (.int .i64 p.t) rfl rfl (fun _ h => kept_cell h (HP1.out.turn)) hHeld ?_
  simp only [pA, pN, sZ, sU]
  refine rR 1 rfl (fun K hK => ?_)
  go_simp
  refine (mside_k x _).mono ?_
  rintro e w2 ⟨rfl, gw2⟩
  refine hK.out _ _ (hHeld.trans gw2) (fun _ => ?_)
  replace hHeld := hHeld.trans gw2
  clear hK K
  refine rT 4 16 (.bool true) rfl rfl hHeld ?_
  simp only [pA, pN, sZ, sU]
  refine rT 5 17 (.bool true) rfl rfl hHeld ?_
  simp only [pA, pN, sZ, sU]
  refine rN 6 18 rfl rfl hHeld ?_
  simp only [pA, pN, sZ, sU]
  refine rN 7 19 rfl rfl hHeld ?_
  simp only [pA, pN, sZ, sU]
  refine rN 8 20 rfl rfl hHeld ?_
  simp only [pA, pN, sZ, sU]
  refine rN 9 21 rfl rfl hHeld ?_
  simp only [pA, pN, sZ, sU]
  refine rT 10 22 (.bool true) rfl rfl hHeld ?_
  simp only [pA, pN, sZ, sU]
  refine rT 11 23 (.bool true) rfl rfl hHeld ?_
  simp only [pA, pN, sZ, sU]
  refine rN 12 24 rfl rfl hHeld ?_
  simp only [pA, pN, sZ, sU]
  refine rN 13 25 rfl rfl hHeld ?_
  simp only [pA, pN, sZ, sU]
  refine rN 14 26 rfl rfl hHeld ?_
  simp only [pA, pN, sZ, sU]
  refine rN 15 27 rfl rfl hHeld ?_
  simp only [pA, pN, sZ, sU]
  refine rN 16 28 rfl rfl hHeld ?_
  simp only [pA, pN, sZ, sU]
  refine rN 17 29 rfl rfl hHeld ?_
  simp only [pA, pN, sZ, sU]
  refine rN 18 30 rfl rfl hHeld ?_
  simp only [pA, pN, sZ, sU]
  refine rN 19 31 rfl rfl hHeld ?_
  simp only [pA, pN, sZ, sU]
  refine rN 20 32 rfl rfl hHeld ?_
  simp only [pA, pN, sZ, sU]
  refine rT 21 33 (.bool true) rfl rfl hHeld ?_
  simp only [pA, pN, sZ, sU]
  refine wpAnyH_done (by kernel_rfl) ?_ _
  go_wp2
  go_ret
  exact ⟨by rw [HV.out]; rfl, HK1.out.trans hHeld⟩
set_option maxHeartbeats 2000000 in
theorem formed2 (p : Ps) (hB : Brd p.B) (m : Mv) (h1 : (sideI (manA p.B m.f) == p.t) = true) (h2 : onB m.t = false) (w : World) (hT : TabM w) :
    Calls Tryz.prog 21 #[.agg (pl p).toArray, .agg (ml m).toArray] w fun e w' => e = .returned (.bool (formB p m)) ∧ Kept w w' := by
  have HP : Hid (PAt _ _ p) := ⟨hB.1, heap_alloc2_old w (.cells (pl p).toArray 26) (.cells (ml m).toArray 35)⟩
  have HM : Hid (MAt _ _ m) := ⟨heap_alloc2_new w (.cells (pl p).toArray 26) (.cells (ml m).toArray 35)⟩
  have HK0 := Lib.hid (((Kept.refl w).alloc (.cells (pl p).toArray 26)).alloc (.cells (ml m).toArray 35))
  have HT := Lib.hid (hT.kept HK0.out)
  have hpl : Hid (p.B.length = 64) := hB.1
  have HB := Lib.hid hB
  have cf := HM.out.f
  have HC := Lib.hid (man_a p.B hB m.f)
  have HC2 := Lib.hid (man_a p.B hB m.t)
  have HRt := Lib.hid (right_k m.t)
  have HV : Hid (formB p m = false) := by unfold formB; rw [h1, h2]; rfl
  rw [h2] at HRt
  have h1' : (sideI (manA p.B m.f) != p.t) = false := by rw [bne, h1]; rfl
  generalize manA p.B m.f = x at *
  generalize manA p.B m.t = y at *
  clear hB hT
  go_enter Tryz.func21, Tryz.ntmps21
  go_wp2_with (first | (refine wpList_load_ps (by rfl) _ rfl _ rfl _ (HP.out) ?_) | (refine wpList_load_pb (by rfl) _ rfl _ rfl _ (HP.out) ?_) | (refine wpList_load_mv (by rfl) _ rfl _ rfl _ (HM.out) ?_))
  refine (HC.out _).mono ?_
  rintro e w1 ⟨rfl, k1⟩
  have HK1 := Lib.hid (HK0.out.trans k1)
  have HP1 := Lib.hid (HP.out.kept k1)
  have HM1 := Lib.hid (MAt.kept HM.out k1)
  have HT1 := Lib.hid (HT.out.kept k1)
  clear k1 cf
  go_wp2
  refine wp_region_held_drew (S := Kept _) (by kernel_rfl) (Kept.refl _).drew (fun hHeld => ?_)
  refine rT 0 12 (.int .i64 x) rfl rfl hHeld ?_
  simp only [pA, pN, sZ, sU]
  refine rT 2 14 (.pointer (some ⟨w.heap.size, 64, none⟩)) rfl rfl hHeld ?_
  simp only [pA, pN, sZ, sU]
  refine rC 3 15 (.int .i64 p.t) rfl rfl (fun _ h => kept_cell h (HP1.out.turn)) hHeld ?_
  simp only [pA, pN, sZ, sU]
  refine rR 1 rfl (fun K hK => ?_)
  go_simp
  refine (mside_k x _).mono ?_
  rintro e w2 ⟨rfl, gw2⟩
  refine hK.out _ _ (hHeld.trans gw2) (fun _ => ?_)
  replace hHeld := hHeld.trans gw2
  clear hK K
  refine rT 4 16 (.bool false) rfl rfl hHeld ?_
  simp only [pA, pN, sZ, sU]
  refine rT 5 17 (.bool false) rfl rfl hHeld ?_
  simp only [pA, pN, sZ, sU]
  refine rT 6 18 (.pointer (some ⟨w.heap.size + 1, 1, none⟩)) rfl rfl hHeld ?_
  simp only [pA, pN, sZ, sU]
  refine rC 7 19 (.int .i64 m.t) rfl rfl (fun _ h => kept_cell h (HM1.out.t)) hHeld ?_
  simp only [pA, pN, sZ, sU]
  refine rR 8 rfl (fun K hK => ?_)
  go_simp
  refine (HRt.out _).mono ?_
  rintro e w3 ⟨rfl, gw3⟩
  refine hK.out _ _ (hHeld.trans gw3) (fun _ => ?_)
  replace hHeld := hHeld.trans gw3
  clear hK K
  refine rT 9 21 (.bool true) rfl rfl hHeld ?_
  simp only [pA, pN, sZ, sU]
  refine rT 10 22 (.bool true) rfl rfl hHeld ?_
  simp only [pA, pN, sZ, sU]
  refine rT 11 23 (.bool true) rfl rfl hHeld ?_
  simp only [pA, pN, sZ, sU]
  refine rN 12 24 rfl rfl hHeld ?_
  simp only [pA, pN, sZ, sU]
  refine rN 13 25 rfl rfl hHeld ?_
  simp only [pA, pN, sZ, sU]
  refine rN 14 26 rfl rfl hHeld ?_
  simp only [pA, pN, sZ, sU]
  refine rN 15 27 rfl rfl hHeld ?_
  simp only [pA, pN, sZ, sU]
  refine rN 16 28 rfl rfl hHeld ?_
  simp only [pA, pN, sZ, sU]
  refine rN 17 29 rfl rfl hHeld ?_
  simp only [pA, pN, sZ, sU]
  refine rN 18 30 rfl rfl hHeld ?_
  simp only [pA, pN, sZ, sU]
  refine rN 19 31 rfl rfl hHeld ?_
  simp only [pA, pN, sZ, sU]
  refine rN 20 32 rfl rfl hHeld ?_
  simp only [pA, pN, sZ, sU]
  refine rT 21 33 (.bool true) rfl rfl hHeld ?_
  simp only [pA, pN, sZ, sU]
  refine wpAnyH_done (by kernel_rfl) ?_ _
  go_wp2
  go_ret
  exact ⟨by rw [HV.out]; rfl, HK1.out.trans hHeld⟩
set_option maxHeartbeats 2000000 in
theorem formed3 (p : Ps) (hB : Brd p.B) (m : Mv) (h1 : (sideI (manA p.B m.f) == p.t) = true) (h2 : onB m.t = true) (h3 : (sideI (manA p.B m.t) == p.t) = true) (w : World) (hT : TabM w) :
    Calls Tryz.prog 21 #[.agg (pl p).toArray, .agg (ml m).toArray] w fun e w' => e = .returned (.bool (formB p m)) ∧ Kept w w' := by
  have HP : Hid (PAt _ _ p) := ⟨hB.1, heap_alloc2_old w (.cells (pl p).toArray 26) (.cells (ml m).toArray 35)⟩
  have HM : Hid (MAt _ _ m) := ⟨heap_alloc2_new w (.cells (pl p).toArray 26) (.cells (ml m).toArray 35)⟩
  have HK0 := Lib.hid (((Kept.refl w).alloc (.cells (pl p).toArray 26)).alloc (.cells (ml m).toArray 35))
  have HT := Lib.hid (hT.kept HK0.out)
  have hpl : Hid (p.B.length = 64) := hB.1
  have HB := Lib.hid hB
  have cf := HM.out.f
  have HC := Lib.hid (man_a p.B hB m.f)
  have HC2 := Lib.hid (man_a p.B hB m.t)
  have HRt := Lib.hid (right_k m.t)
  have HV : Hid (formB p m = false) := by unfold formB; rw [h1, h2, h3]; rfl
  rw [h2] at HRt
  have h1' : (sideI (manA p.B m.f) != p.t) = false := by rw [bne, h1]; rfl
  generalize manA p.B m.f = x at *
  generalize manA p.B m.t = y at *
  clear hB hT
  go_enter Tryz.func21, Tryz.ntmps21
  go_wp2_with (first | (refine wpList_load_ps (by rfl) _ rfl _ rfl _ (HP.out) ?_) | (refine wpList_load_pb (by rfl) _ rfl _ rfl _ (HP.out) ?_) | (refine wpList_load_mv (by rfl) _ rfl _ rfl _ (HM.out) ?_))
  refine (HC.out _).mono ?_
  rintro e w1 ⟨rfl, k1⟩
  have HK1 := Lib.hid (HK0.out.trans k1)
  have HP1 := Lib.hid (HP.out.kept k1)
  have HM1 := Lib.hid (MAt.kept HM.out k1)
  have HT1 := Lib.hid (HT.out.kept k1)
  clear k1 cf
  go_wp2
  refine wp_region_held_drew (S := Kept _) (by kernel_rfl) (Kept.refl _).drew (fun hHeld => ?_)
  refine rT 0 12 (.int .i64 x) rfl rfl hHeld ?_
  simp only [pA, pN, sZ, sU]
  refine rT 2 14 (.pointer (some ⟨w.heap.size, 64, none⟩)) rfl rfl hHeld ?_
  simp only [pA, pN, sZ, sU]
  refine rC 3 15 (.int .i64 p.t) rfl rfl (fun _ h => kept_cell h (HP1.out.turn)) hHeld ?_
  simp only [pA, pN, sZ, sU]
  refine rR 1 rfl (fun K hK => ?_)
  go_simp
  refine (mside_k x _).mono ?_
  rintro e w2 ⟨rfl, gw2⟩
  refine hK.out _ _ (hHeld.trans gw2) (fun _ => ?_)
  replace hHeld := hHeld.trans gw2
  clear hK K
  refine rT 4 16 (.bool false) rfl rfl hHeld ?_
  simp only [pA, pN, sZ, sU]
  refine rT 5 17 (.bool false) rfl rfl hHeld ?_
  simp only [pA, pN, sZ, sU]
  refine rT 6 18 (.pointer (some ⟨w.heap.size + 1, 1, none⟩)) rfl rfl hHeld ?_
  simp only [pA, pN, sZ, sU]
  refine rC 7 19 (.int .i64 m.t) rfl rfl (fun _ h => kept_cell h (HM1.out.t)) hHeld ?_
  simp only [pA, pN, sZ, sU]
  refine rR 8 rfl (fun K hK => ?_)
  go_simp
  refine (HRt.out _).mono ?_
  rintro e w3 ⟨rfl, gw3⟩
  refine hK.out _ _ (hHeld.trans gw3) (fun _ => ?_)
  replace hHeld := hHeld.trans gw3
  clear hK K
  refine rT 9 21 (.bool false) rfl rfl hHeld ?_
  simp only [pA, pN, sZ, sU]
  refine rT 10 22 (.bool false) rfl rfl hHeld ?_
  simp only [pA, pN, sZ, sU]
  refine rT 11 23 (.bool false) rfl rfl hHeld ?_
  simp only [pA, pN, sZ, sU]
  refine rT 12 24 (.pointer (some ⟨w.heap.size, 0, none⟩)) rfl rfl hHeld ?_
  simp only [pA, pN, sZ, sU]
  refine rY 13 25 rfl rfl (take_load_pb (by rfl) _ rfl _ rfl p hpl.out (fun _ h => (HP1.out).kept h)) hHeld ?_
  simp only [pA, pN, sZ, sU]
  refine rT 14 26 (.pointer (some ⟨w.heap.size + 1, 1, none⟩)) rfl rfl hHeld ?_
  simp only [pA, pN, sZ, sU]
  refine rC 15 27 (.int .i64 m.t) rfl rfl (fun _ h => kept_cell h (HM1.out.t)) hHeld ?_
  simp only [pA, pN, sZ, sU]
  refine rT 18 30 (.pointer (some ⟨w.heap.size, 64, none⟩)) rfl rfl hHeld ?_
  simp only [pA, pN, sZ, sU]
  refine rC 19 31 (.int .i64 p.t) rfl rfl (fun _ h => kept_cell h (HP1.out.turn)) hHeld ?_
  simp only [pA, pN, sZ, sU]
  refine rR 16 rfl (fun K hK => ?_)
  go_simp
  refine (HC2.out _).mono ?_
  rintro e w4 ⟨rfl, gw4⟩
  refine hK.out _ _ (hHeld.trans gw4) (fun _ => ?_)
  replace hHeld := hHeld.trans gw4
  clear hK K
  refine rR 17 rfl (fun K hK => ?_)
  go_simp
  refine (mside_k y _).mono ?_
  rintro e w5 ⟨rfl, gw5⟩
  refine hK.out _ _ (hHeld.trans gw5) (fun _ => ?_)
  replace hHeld := hHeld.trans gw5
  clear hK K
  refine rT 20 32 (.bool true) rfl rfl hHeld ?_
  simp only [pA, pN, sZ, sU]
  refine rT 21 33 (.bool true) rfl rfl hHeld ?_
  simp only [pA, pN, sZ, sU]
  refine wpAnyH_done (by kernel_rfl) ?_ _
  go_wp2
  go_ret
  exact ⟨by rw [HV.out]; rfl, HK1.out.trans hHeld⟩
set_option maxHeartbeats 2000000 in
theorem formed4 (p : Ps) (hB : Brd p.B) (m : Mv) (h1 : (sideI (manA p.B m.f) == p.t) = true) (h2 : onB m.t = true) (h3 : (sideI (manA p.B m.t) == p.t) = false) (h4 : (kindI (manA p.B m.f) == 1) = false) (w : World) (hT : TabM w) :
    Calls Tryz.prog 21 #[.agg (pl p).toArray, .agg (ml m).toArray] w fun e w' => e = .returned (.bool (formB p m)) ∧ Kept w w' := by
  have HP : Hid (PAt _ _ p) := ⟨hB.1, heap_alloc2_old w (.cells (pl p).toArray 26) (.cells (ml m).toArray 35)⟩
  have HM : Hid (MAt _ _ m) := ⟨heap_alloc2_new w (.cells (pl p).toArray 26) (.cells (ml m).toArray 35)⟩
  have HK0 := Lib.hid (((Kept.refl w).alloc (.cells (pl p).toArray 26)).alloc (.cells (ml m).toArray 35))
  have HT := Lib.hid (hT.kept HK0.out)
  have hpl : Hid (p.B.length = 64) := hB.1
  have HB := Lib.hid hB
  have cf := HM.out.f
  have HC := Lib.hid (man_a p.B hB m.f)
  have HC2 := Lib.hid (man_a p.B hB m.t)
  have HRt := Lib.hid (right_k m.t)
  have HV : Hid (formB p m = ((false == (m.p != 0)) && promoB m.p)) := by unfold formB turnsB; rw [h1, h2, h3, h4]; rfl
  rw [h2] at HRt
  have h1' : (sideI (manA p.B m.f) != p.t) = false := by rw [bne, h1]; rfl
  generalize manA p.B m.f = x at *
  generalize manA p.B m.t = y at *
  clear hB hT
  go_enter Tryz.func21, Tryz.ntmps21
  go_wp2_with (first | (refine wpList_load_ps (by rfl) _ rfl _ rfl _ (HP.out) ?_) | (refine wpList_load_pb (by rfl) _ rfl _ rfl _ (HP.out) ?_) | (refine wpList_load_mv (by rfl) _ rfl _ rfl _ (HM.out) ?_))
  refine (HC.out _).mono ?_
  rintro e w1 ⟨rfl, k1⟩
  have HK1 := Lib.hid (HK0.out.trans k1)
  have HP1 := Lib.hid (HP.out.kept k1)
  have HM1 := Lib.hid (MAt.kept HM.out k1)
  have HT1 := Lib.hid (HT.out.kept k1)
  clear k1 cf
  go_wp2
  refine wp_region_held_drew (S := Kept _) (by kernel_rfl) (Kept.refl _).drew (fun hHeld => ?_)
  refine rT 0 12 (.int .i64 x) rfl rfl hHeld ?_
  simp only [pA, pN, sZ, sU]
  refine rT 2 14 (.pointer (some ⟨w.heap.size, 64, none⟩)) rfl rfl hHeld ?_
  simp only [pA, pN, sZ, sU]
  refine rC 3 15 (.int .i64 p.t) rfl rfl (fun _ h => kept_cell h (HP1.out.turn)) hHeld ?_
  simp only [pA, pN, sZ, sU]
  refine rR 1 rfl (fun K hK => ?_)
  go_simp
  refine (mside_k x _).mono ?_
  rintro e w2 ⟨rfl, gw2⟩
  refine hK.out _ _ (hHeld.trans gw2) (fun _ => ?_)
  replace hHeld := hHeld.trans gw2
  clear hK K
  refine rT 4 16 (.bool false) rfl rfl hHeld ?_
  simp only [pA, pN, sZ, sU]
  refine rT 5 17 (.bool false) rfl rfl hHeld ?_
  simp only [pA, pN, sZ, sU]
  refine rT 6 18 (.pointer (some ⟨w.heap.size + 1, 1, none⟩)) rfl rfl hHeld ?_
  simp only [pA, pN, sZ, sU]
  refine rC 7 19 (.int .i64 m.t) rfl rfl (fun _ h => kept_cell h (HM1.out.t)) hHeld ?_
  simp only [pA, pN, sZ, sU]
  refine rR 8 rfl (fun K hK => ?_)
  go_simp
  refine (HRt.out _).mono ?_
  rintro e w3 ⟨rfl, gw3⟩
  refine hK.out _ _ (hHeld.trans gw3) (fun _ => ?_)
  replace hHeld := hHeld.trans gw3
  clear hK K
  refine rT 9 21 (.bool false) rfl rfl hHeld ?_
  simp only [pA, pN, sZ, sU]
  refine rT 10 22 (.bool false) rfl rfl hHeld ?_
  simp only [pA, pN, sZ, sU]
  refine rT 11 23 (.bool false) rfl rfl hHeld ?_
  simp only [pA, pN, sZ, sU]
  refine rT 12 24 (.pointer (some ⟨w.heap.size, 0, none⟩)) rfl rfl hHeld ?_
  simp only [pA, pN, sZ, sU]
  refine rY 13 25 rfl rfl (take_load_pb (by rfl) _ rfl _ rfl p hpl.out (fun _ h => (HP1.out).kept h)) hHeld ?_
  simp only [pA, pN, sZ, sU]
  refine rT 14 26 (.pointer (some ⟨w.heap.size + 1, 1, none⟩)) rfl rfl hHeld ?_
  simp only [pA, pN, sZ, sU]
  refine rC 15 27 (.int .i64 m.t) rfl rfl (fun _ h => kept_cell h (HM1.out.t)) hHeld ?_
  simp only [pA, pN, sZ, sU]
  refine rT 18 30 (.pointer (some ⟨w.heap.size, 64, none⟩)) rfl rfl hHeld ?_
  simp only [pA, pN, sZ, sU]
  refine rC 19 31 (.int .i64 p.t) rfl rfl (fun _ h => kept_cell h (HP1.out.turn)) hHeld ?_
  simp only [pA, pN, sZ, sU]
  refine rR 16 rfl (fun K hK => ?_)
  go_simp
  refine (HC2.out _).mono ?_
  rintro e w4 ⟨rfl, gw4⟩
  refine hK.out _ _ (hHeld.trans gw4) (fun _ => ?_)
  replace hHeld := hHeld.trans gw4
  clear hK K
  refine rR 17 rfl (fun K hK => ?_)
  go_simp
  refine (mside_k y _).mono ?_
  rintro e w5 ⟨rfl, gw5⟩
  refine hK.out _ _ (hHeld.trans gw5) (fun _ => ?_)
  replace hHeld := hHeld.trans gw5
  clear hK K
  refine rT 20 32 (.bool false) rfl rfl hHeld ?_
  simp only [pA, pN, sZ, sU]
  refine rT 21 33 (.bool false) rfl rfl hHeld ?_
  simp only [pA, pN, sZ, sU]
  refine wpAnyH_done (by kernel_rfl) ?_ _
  have HP5 := Lib.hid (HP1.out.kept hHeld)
  have HM5 := Lib.hid (MAt.kept HM1.out hHeld)
  have HT5 := Lib.hid (HT1.out.kept hHeld)
  have HK5 := Lib.hid (HK1.out.trans hHeld)
  clear hHeld
  go_wp2
  refine wp_region_held_drew (S := Kept _) (by kernel_rfl) (Kept.refl _).drew (fun hHeld => ?_)
  refine rT 0 34 (.int .i64 x) rfl rfl hHeld ?_
  simp only [pA, pN, sZ, sU]
  refine rR 1 rfl (fun K hK => ?_)
  go_simp
  refine (mkind_k x _).mono ?_
  rintro e w6 ⟨rfl, gw6⟩
  refine hK.out _ _ (hHeld.trans gw6) (fun _ => ?_)
  replace hHeld := hHeld.trans gw6
  clear hK K
  refine rT 2 36 (.bool false) rfl rfl hHeld ?_
  simp only [pA, pN, sZ, sU]
  refine rT 3 37 (.bool false) rfl rfl hHeld ?_
  simp only [pA, pN, sZ, sU]
  refine rN 4 38 rfl rfl hHeld ?_
  simp only [pA, pN, sZ, sU]
  refine rN 5 39 rfl rfl hHeld ?_
  simp only [pA, pN, sZ, sU]
  refine rN 6 40 rfl rfl hHeld ?_
  simp only [pA, pN, sZ, sU]
  refine rN 7 41 rfl rfl hHeld ?_
  simp only [pA, pN, sZ, sU]
  refine rN 8 42 rfl rfl hHeld ?_
  simp only [pA, pN, sZ, sU]
  refine rN 9 43 rfl rfl hHeld ?_
  simp only [pA, pN, sZ, sU]
  refine rN 10 44 rfl rfl hHeld ?_
  simp only [pA, pN, sZ, sU]
  refine rN 11 45 rfl rfl hHeld ?_
  simp only [pA, pN, sZ, sU]
  refine rT 12 46 (.bool false) rfl rfl hHeld ?_
  simp only [pA, pN, sZ, sU]
  refine rT 13 6 (.bool false) rfl rfl hHeld ?_
  simp only [pA, pN, sZ, sU]
  refine wpAnyH_done (by kernel_rfl) ?_ _
  have HP6 := Lib.hid (HP5.out.kept hHeld)
  have HM6 := Lib.hid (MAt.kept HM5.out hHeld)
  have HT6 := Lib.hid (HT5.out.kept hHeld)
  have HK6 := Lib.hid (HK5.out.trans hHeld)
  clear hHeld
  have cp := HM6.out.p
  cases hp : (false == (m.p != 0))
  · rw [hp] at HV
    go_wp2
    go_ret
    exact ⟨by rw [HV.out]; rfl, HK6.out⟩
  · rw [hp] at HV
    go_wp2_with (first | (refine wpList_load_ps (by rfl) _ rfl _ rfl _ (HP6.out) ?_) | (refine wpList_load_pb (by rfl) _ rfl _ rfl _ (HP6.out) ?_) | (refine wpList_load_mv (by rfl) _ rfl _ rfl _ (HM6.out) ?_))
    refine (isPromo_is _ _ HT6.out).mono ?_
    rintro e w7 ⟨rfl, k7⟩
    have HK7 := Lib.hid (HK6.out.trans k7)
    clear k7 cp
    go_wp2
    go_ret
    exact ⟨by rw [HV.out]; rfl, HK7.out⟩
set_option maxHeartbeats 2000000 in
theorem formed5w (p : Ps) (hB : Brd p.B) (m : Mv) (h1 : (sideI (manA p.B m.f) == p.t) = true) (h2 : onB m.t = true) (h3 : (sideI (manA p.B m.t) == p.t) = false) (h4 : (kindI (manA p.B m.f) == 1) = true) (ht : p.t = 0) (w : World) (hT : TabM w) :
    Calls Tryz.prog 21 #[.agg (pl p).toArray, .agg (ml m).toArray] w fun e w' => e = .returned (.bool (formB p m)) ∧ Kept w w' := by
  have HP : Hid (PAt _ _ p) := ⟨hB.1, heap_alloc2_old w (.cells (pl p).toArray 26) (.cells (ml m).toArray 35)⟩
  have HM : Hid (MAt _ _ m) := ⟨heap_alloc2_new w (.cells (pl p).toArray 26) (.cells (ml m).toArray 35)⟩
  have HK0 := Lib.hid (((Kept.refl w).alloc (.cells (pl p).toArray 26)).alloc (.cells (ml m).toArray 35))
  have HT := Lib.hid (hT.kept HK0.out)
  have hpl : Hid (p.B.length = 64) := hB.1
  have HB := Lib.hid hB
  have cf := HM.out.f
  have HC := Lib.hid (man_a p.B hB m.f)
  have HC2 := Lib.hid (man_a p.B hB m.t)
  have HRt := Lib.hid (right_k m.t)
  have HV : Hid (formB p m = (((m.t / 8 == 7) == (m.p != 0)) && promoB m.p)) := by unfold formB turnsB lastI; rw [h1, h2, h3, h4, ht]; rfl
  have hon : 0 ≤ m.t ∧ m.t < 64 := by simpa [onB] using h2
  have HRk := Lib.hid (fun w => rank_any m.t w)
  have hrk : rkI m.t = m.t / 8 := by unfold rkI; rw [if_pos hon]
  rw [hrk] at HRk
  have Ht := Lib.hid ht
  clear hrk hon ht
  rw [h2] at HRt
  have h1' : (sideI (manA p.B m.f) != p.t) = false := by rw [bne, h1]; rfl
  generalize manA p.B m.f = x at *
  generalize manA p.B m.t = y at *
  clear hB hT
  go_enter Tryz.func21, Tryz.ntmps21
  go_wp2_with (first | (refine wpList_load_ps (by rfl) _ rfl _ rfl _ (HP.out) ?_) | (refine wpList_load_pb (by rfl) _ rfl _ rfl _ (HP.out) ?_) | (refine wpList_load_mv (by rfl) _ rfl _ rfl _ (HM.out) ?_))
  refine (HC.out _).mono ?_
  rintro e w1 ⟨rfl, k1⟩
  have HK1 := Lib.hid (HK0.out.trans k1)
  have HP1 := Lib.hid (HP.out.kept k1)
  have HM1 := Lib.hid (MAt.kept HM.out k1)
  have HT1 := Lib.hid (HT.out.kept k1)
  clear k1 cf
  go_wp2
  refine wp_region_held_drew (S := Kept _) (by kernel_rfl) (Kept.refl _).drew (fun hHeld => ?_)
  refine rT 0 12 (.int .i64 x) rfl rfl hHeld ?_
  simp only [pA, pN, sZ, sU]
  refine rT 2 14 (.pointer (some ⟨w.heap.size, 64, none⟩)) rfl rfl hHeld ?_
  simp only [pA, pN, sZ, sU]
  refine rC 3 15 (.int .i64 p.t) rfl rfl (fun _ h => kept_cell h (HP1.out.turn)) hHeld ?_
  simp only [pA, pN, sZ, sU]
  refine rR 1 rfl (fun K hK => ?_)
  go_simp
  refine (mside_k x _).mono ?_
  rintro e w2 ⟨rfl, gw2⟩
  refine hK.out _ _ (hHeld.trans gw2) (fun _ => ?_)
  replace hHeld := hHeld.trans gw2
  clear hK K
  refine rT 4 16 (.bool false) rfl rfl hHeld ?_
  simp only [pA, pN, sZ, sU]
  refine rT 5 17 (.bool false) rfl rfl hHeld ?_
  simp only [pA, pN, sZ, sU]
  refine rT 6 18 (.pointer (some ⟨w.heap.size + 1, 1, none⟩)) rfl rfl hHeld ?_
  simp only [pA, pN, sZ, sU]
  refine rC 7 19 (.int .i64 m.t) rfl rfl (fun _ h => kept_cell h (HM1.out.t)) hHeld ?_
  simp only [pA, pN, sZ, sU]
  refine rR 8 rfl (fun K hK => ?_)
  go_simp
  refine (HRt.out _).mono ?_
  rintro e w3 ⟨rfl, gw3⟩
  refine hK.out _ _ (hHeld.trans gw3) (fun _ => ?_)
  replace hHeld := hHeld.trans gw3
  clear hK K
  refine rT 9 21 (.bool false) rfl rfl hHeld ?_
  simp only [pA, pN, sZ, sU]
  refine rT 10 22 (.bool false) rfl rfl hHeld ?_
  simp only [pA, pN, sZ, sU]
  refine rT 11 23 (.bool false) rfl rfl hHeld ?_
  simp only [pA, pN, sZ, sU]
  refine rT 12 24 (.pointer (some ⟨w.heap.size, 0, none⟩)) rfl rfl hHeld ?_
  simp only [pA, pN, sZ, sU]
  refine rY 13 25 rfl rfl (take_load_pb (by rfl) _ rfl _ rfl p hpl.out (fun _ h => (HP1.out).kept h)) hHeld ?_
  simp only [pA, pN, sZ, sU]
  refine rT 14 26 (.pointer (some ⟨w.heap.size + 1, 1, none⟩)) rfl rfl hHeld ?_
  simp only [pA, pN, sZ, sU]
  refine rC 15 27 (.int .i64 m.t) rfl rfl (fun _ h => kept_cell h (HM1.out.t)) hHeld ?_
  simp only [pA, pN, sZ, sU]
  refine rT 18 30 (.pointer (some ⟨w.heap.size, 64, none⟩)) rfl rfl hHeld ?_
  simp only [pA, pN, sZ, sU]
  refine rC 19 31 (.int .i64 p.t) rfl rfl (fun _ h => kept_cell h (HP1.out.turn)) hHeld ?_
  simp only [pA, pN, sZ, sU]
  refine rR 16 rfl (fun K hK => ?_)
  go_simp
  refine (HC2.out _).mono ?_
  rintro e w4 ⟨rfl, gw4⟩
  refine hK.out _ _ (hHeld.trans gw4) (fun _ => ?_)
  replace hHeld := hHeld.trans gw4
  clear hK K
  refine rR 17 rfl (fun K hK => ?_)
  go_simp
  refine (mside_k y _).mono ?_
  rintro e w5 ⟨rfl, gw5⟩
  refine hK.out _ _ (hHeld.trans gw5) (fun _ => ?_)
  replace hHeld := hHeld.trans gw5
  clear hK K
  refine rT 20 32 (.bool false) rfl rfl hHeld ?_
  simp only [pA, pN, sZ, sU]
  refine rT 21 33 (.bool false) rfl rfl hHeld ?_
  simp only [pA, pN, sZ, sU]
  refine wpAnyH_done (by kernel_rfl) ?_ _
  have HP5 := Lib.hid (HP1.out.kept hHeld)
  have HM5 := Lib.hid (MAt.kept HM1.out hHeld)
  have HT5 := Lib.hid (HT1.out.kept hHeld)
  have HK5 := Lib.hid (HK1.out.trans hHeld)
  clear hHeld
  go_wp2
  have hct : Hid (w5.cell? ⟨w.heap.size, 64, none⟩ = some (.int .i64 0)) := by have := HP5.out.turn; rw [Ht.out] at this; exact this
  have hla : Hid (w5.cell? ⟨0, 0, none⟩ = some (.int .i64 7)) := HT5.out.lasts 0 (by omega)
  generalize m.t / 8 = rk at *
  refine wp_region_held_drew (S := Kept _) (by kernel_rfl) (Kept.refl _).drew (fun hHeld => ?_)
  refine rT 0 34 (.int .i64 x) rfl rfl hHeld ?_
  simp only [pA, pN, sZ, sU]
  refine rR 1 rfl (fun K hK => ?_)
  go_simp
  refine (mkind_k x _).mono ?_
  rintro e w6 ⟨rfl, gw6⟩
  refine hK.out _ _ (hHeld.trans gw6) (fun _ => ?_)
  replace hHeld := hHeld.trans gw6
  clear hK K
  refine rT 2 36 (.bool true) rfl rfl hHeld ?_
  simp only [pA, pN, sZ, sU]
  refine rT 3 37 (.bool true) rfl rfl hHeld ?_
  simp only [pA, pN, sZ, sU]
  refine rT 4 38 (.pointer (some ⟨w.heap.size + 1, 1, none⟩)) rfl rfl hHeld ?_
  simp only [pA, pN, sZ, sU]
  refine rC 5 39 (.int .i64 m.t) rfl rfl (fun _ h => kept_cell h (HM5.out.t)) hHeld ?_
  simp only [pA, pN, sZ, sU]
  refine rT 7 41 (.pointer (some ⟨w.heap.size, 64, none⟩)) rfl rfl hHeld ?_
  simp only [pA, pN, sZ, sU]
  refine rC 8 42 (.int .i64 0) rfl rfl (fun _ h => kept_cell h (hct.out)) hHeld ?_
  simp only [pA, pN, sZ, sU]
  refine rT 9 43 (.pointer (some ⟨0, 0, none⟩)) rfl rfl hHeld ?_
  simp only [pA, pN, sZ, sU]
  refine rC 10 44 (.int .i64 7) rfl rfl (fun _ h => kept_cell h (hla.out)) hHeld ?_
  simp only [pA, pN, sZ, sU]
  refine rR 6 rfl (fun K hK => ?_)
  go_simp
  refine (HRk.out _).mono ?_
  rintro e w8 ⟨rfl, gw8⟩
  refine hK.out _ _ (hHeld.trans gw8) (fun _ => ?_)
  replace hHeld := hHeld.trans gw8
  clear hK K
  refine rT 11 45 (.bool (rk == 7)) rfl rfl hHeld ?_
  simp only [pA, pN, sZ, sU]
  refine rT 12 46 (.bool (rk == 7)) rfl rfl hHeld ?_
  simp only [pA, pN, sZ, sU]
  refine rT 13 6 (.bool (rk == 7)) rfl rfl hHeld ?_
  simp only [pA, pN, sZ, sU]
  refine wpAnyH_done (by kernel_rfl) ?_ _
  have HP6 := Lib.hid (HP5.out.kept hHeld)
  have HM6 := Lib.hid (MAt.kept HM5.out hHeld)
  have HT6 := Lib.hid (HT5.out.kept hHeld)
  have HK6 := Lib.hid (HK5.out.trans hHeld)
  clear hHeld
  generalize (rk == 7) = tn at *
  have cp := HM6.out.p
  cases hp : (tn == (m.p != 0))
  · rw [hp] at HV
    go_wp2
    go_ret
    exact ⟨by rw [HV.out]; rfl, HK6.out⟩
  · rw [hp] at HV
    go_wp2_with (first | (refine wpList_load_ps (by rfl) _ rfl _ rfl _ (HP6.out) ?_) | (refine wpList_load_pb (by rfl) _ rfl _ rfl _ (HP6.out) ?_) | (refine wpList_load_mv (by rfl) _ rfl _ rfl _ (HM6.out) ?_))
    refine (isPromo_is _ _ HT6.out).mono ?_
    rintro e w7 ⟨rfl, k7⟩
    have HK7 := Lib.hid (HK6.out.trans k7)
    clear k7 cp
    go_wp2
    go_ret
    exact ⟨by rw [HV.out]; rfl, HK7.out⟩
set_option maxHeartbeats 2000000 in
theorem formed5b (p : Ps) (hB : Brd p.B) (m : Mv) (h1 : (sideI (manA p.B m.f) == p.t) = true) (h2 : onB m.t = true) (h3 : (sideI (manA p.B m.t) == p.t) = false) (h4 : (kindI (manA p.B m.f) == 1) = true) (ht : p.t = 1) (w : World) (hT : TabM w) :
    Calls Tryz.prog 21 #[.agg (pl p).toArray, .agg (ml m).toArray] w fun e w' => e = .returned (.bool (formB p m)) ∧ Kept w w' := by
  have HP : Hid (PAt _ _ p) := ⟨hB.1, heap_alloc2_old w (.cells (pl p).toArray 26) (.cells (ml m).toArray 35)⟩
  have HM : Hid (MAt _ _ m) := ⟨heap_alloc2_new w (.cells (pl p).toArray 26) (.cells (ml m).toArray 35)⟩
  have HK0 := Lib.hid (((Kept.refl w).alloc (.cells (pl p).toArray 26)).alloc (.cells (ml m).toArray 35))
  have HT := Lib.hid (hT.kept HK0.out)
  have hpl : Hid (p.B.length = 64) := hB.1
  have HB := Lib.hid hB
  have cf := HM.out.f
  have HC := Lib.hid (man_a p.B hB m.f)
  have HC2 := Lib.hid (man_a p.B hB m.t)
  have HRt := Lib.hid (right_k m.t)
  have HV : Hid (formB p m = (((m.t / 8 == 0) == (m.p != 0)) && promoB m.p)) := by unfold formB turnsB lastI; rw [h1, h2, h3, h4, ht]; rfl
  have hon : 0 ≤ m.t ∧ m.t < 64 := by simpa [onB] using h2
  have HRk := Lib.hid (fun w => rank_any m.t w)
  have hrk : rkI m.t = m.t / 8 := by unfold rkI; rw [if_pos hon]
  rw [hrk] at HRk
  have Ht := Lib.hid ht
  clear hrk hon ht
  rw [h2] at HRt
  have h1' : (sideI (manA p.B m.f) != p.t) = false := by rw [bne, h1]; rfl
  generalize manA p.B m.f = x at *
  generalize manA p.B m.t = y at *
  clear hB hT
  go_enter Tryz.func21, Tryz.ntmps21
  go_wp2_with (first | (refine wpList_load_ps (by rfl) _ rfl _ rfl _ (HP.out) ?_) | (refine wpList_load_pb (by rfl) _ rfl _ rfl _ (HP.out) ?_) | (refine wpList_load_mv (by rfl) _ rfl _ rfl _ (HM.out) ?_))
  refine (HC.out _).mono ?_
  rintro e w1 ⟨rfl, k1⟩
  have HK1 := Lib.hid (HK0.out.trans k1)
  have HP1 := Lib.hid (HP.out.kept k1)
  have HM1 := Lib.hid (MAt.kept HM.out k1)
  have HT1 := Lib.hid (HT.out.kept k1)
  clear k1 cf
  go_wp2
  refine wp_region_held_drew (S := Kept _) (by kernel_rfl) (Kept.refl _).drew (fun hHeld => ?_)
  refine rT 0 12 (.int .i64 x) rfl rfl hHeld ?_
  simp only [pA, pN, sZ, sU]
  refine rT 2 14 (.pointer (some ⟨w.heap.size, 64, none⟩)) rfl rfl hHeld ?_
  simp only [pA, pN, sZ, sU]
  refine rC 3 15 (.int .i64 p.t) rfl rfl (fun _ h => kept_cell h (HP1.out.turn)) hHeld ?_
  simp only [pA, pN, sZ, sU]
  refine rR 1 rfl (fun K hK => ?_)
  go_simp
  refine (mside_k x _).mono ?_
  rintro e w2 ⟨rfl, gw2⟩
  refine hK.out _ _ (hHeld.trans gw2) (fun _ => ?_)
  replace hHeld := hHeld.trans gw2
  clear hK K
  refine rT 4 16 (.bool false) rfl rfl hHeld ?_
  simp only [pA, pN, sZ, sU]
  refine rT 5 17 (.bool false) rfl rfl hHeld ?_
  simp only [pA, pN, sZ, sU]
  refine rT 6 18 (.pointer (some ⟨w.heap.size + 1, 1, none⟩)) rfl rfl hHeld ?_
  simp only [pA, pN, sZ, sU]
  refine rC 7 19 (.int .i64 m.t) rfl rfl (fun _ h => kept_cell h (HM1.out.t)) hHeld ?_
  simp only [pA, pN, sZ, sU]
  refine rR 8 rfl (fun K hK => ?_)
  go_simp
  refine (HRt.out _).mono ?_
  rintro e w3 ⟨rfl, gw3⟩
  refine hK.out _ _ (hHeld.trans gw3) (fun _ => ?_)
  replace hHeld := hHeld.trans gw3
  clear hK K
  refine rT 9 21 (.bool false) rfl rfl hHeld ?_
  simp only [pA, pN, sZ, sU]
  refine rT 10 22 (.bool false) rfl rfl hHeld ?_
  simp only [pA, pN, sZ, sU]
  refine rT 11 23 (.bool false) rfl rfl hHeld ?_
  simp only [pA, pN, sZ, sU]
  refine rT 12 24 (.pointer (some ⟨w.heap.size, 0, none⟩)) rfl rfl hHeld ?_
  simp only [pA, pN, sZ, sU]
  refine rY 13 25 rfl rfl (take_load_pb (by rfl) _ rfl _ rfl p hpl.out (fun _ h => (HP1.out).kept h)) hHeld ?_
  simp only [pA, pN, sZ, sU]
  refine rT 14 26 (.pointer (some ⟨w.heap.size + 1, 1, none⟩)) rfl rfl hHeld ?_
  simp only [pA, pN, sZ, sU]
  refine rC 15 27 (.int .i64 m.t) rfl rfl (fun _ h => kept_cell h (HM1.out.t)) hHeld ?_
  simp only [pA, pN, sZ, sU]
  refine rT 18 30 (.pointer (some ⟨w.heap.size, 64, none⟩)) rfl rfl hHeld ?_
  simp only [pA, pN, sZ, sU]
  refine rC 19 31 (.int .i64 p.t) rfl rfl (fun _ h => kept_cell h (HP1.out.turn)) hHeld ?_
  simp only [pA, pN, sZ, sU]
  refine rR 16 rfl (fun K hK => ?_)
  go_simp
  refine (HC2.out _).mono ?_
  rintro e w4 ⟨rfl, gw4⟩
  refine hK.out _ _ (hHeld.trans gw4) (fun _ => ?_)
  replace hHeld := hHeld.trans gw4
  clear hK K
  refine rR 17 rfl (fun K hK => ?_)
  go_simp
  refine (mside_k y _).mono ?_
  rintro e w5 ⟨rfl, gw5⟩
  refine hK.out _ _ (hHeld.trans gw5) (fun _ => ?_)
  replace hHeld := hHeld.trans gw5
  clear hK K
  refine rT 20 32 (.bool false) rfl rfl hHeld ?_
  simp only [pA, pN, sZ, sU]
  refine rT 21 33 (.bool false) rfl rfl hHeld ?_
  simp only [pA, pN, sZ, sU]
  refine wpAnyH_done (by kernel_rfl) ?_ _
  have HP5 := Lib.hid (HP1.out.kept hHeld)
  have HM5 := Lib.hid (MAt.kept HM1.out hHeld)
  have HT5 := Lib.hid (HT1.out.kept hHeld)
  have HK5 := Lib.hid (HK1.out.trans hHeld)
  clear hHeld
  go_wp2
  have hct : Hid (w5.cell? ⟨w.heap.size, 64, none⟩ = some (.int .i64 1)) := by have := HP5.out.turn; rw [Ht.out] at this; exact this
  have hla : Hid (w5.cell? ⟨0, 1, none⟩ = some (.int .i64 0)) := HT5.out.lasts 1 (by omega)
  generalize m.t / 8 = rk at *
  refine wp_region_held_drew (S := Kept _) (by kernel_rfl) (Kept.refl _).drew (fun hHeld => ?_)
  refine rT 0 34 (.int .i64 x) rfl rfl hHeld ?_
  simp only [pA, pN, sZ, sU]
  refine rR 1 rfl (fun K hK => ?_)
  go_simp
  refine (mkind_k x _).mono ?_
  rintro e w6 ⟨rfl, gw6⟩
  refine hK.out _ _ (hHeld.trans gw6) (fun _ => ?_)
  replace hHeld := hHeld.trans gw6
  clear hK K
  refine rT 2 36 (.bool true) rfl rfl hHeld ?_
  simp only [pA, pN, sZ, sU]
  refine rT 3 37 (.bool true) rfl rfl hHeld ?_
  simp only [pA, pN, sZ, sU]
  refine rT 4 38 (.pointer (some ⟨w.heap.size + 1, 1, none⟩)) rfl rfl hHeld ?_
  simp only [pA, pN, sZ, sU]
  refine rC 5 39 (.int .i64 m.t) rfl rfl (fun _ h => kept_cell h (HM5.out.t)) hHeld ?_
  simp only [pA, pN, sZ, sU]
  refine rT 7 41 (.pointer (some ⟨w.heap.size, 64, none⟩)) rfl rfl hHeld ?_
  simp only [pA, pN, sZ, sU]
  refine rC 8 42 (.int .i64 1) rfl rfl (fun _ h => kept_cell h (hct.out)) hHeld ?_
  simp only [pA, pN, sZ, sU]
  refine rT 9 43 (.pointer (some ⟨0, 1, none⟩)) rfl rfl hHeld ?_
  simp only [pA, pN, sZ, sU]
  refine rC 10 44 (.int .i64 0) rfl rfl (fun _ h => kept_cell h (hla.out)) hHeld ?_
  simp only [pA, pN, sZ, sU]
  refine rR 6 rfl (fun K hK => ?_)
  go_simp
  refine (HRk.out _).mono ?_
  rintro e w8 ⟨rfl, gw8⟩
  refine hK.out _ _ (hHeld.trans gw8) (fun _ => ?_)
  replace hHeld := hHeld.trans gw8
  clear hK K
  refine rT 11 45 (.bool (rk == 0)) rfl rfl hHeld ?_
  simp only [pA, pN, sZ, sU]
  refine rT 12 46 (.bool (rk == 0)) rfl rfl hHeld ?_
  simp only [pA, pN, sZ, sU]
  refine rT 13 6 (.bool (rk == 0)) rfl rfl hHeld ?_
  simp only [pA, pN, sZ, sU]
  refine wpAnyH_done (by kernel_rfl) ?_ _
  have HP6 := Lib.hid (HP5.out.kept hHeld)
  have HM6 := Lib.hid (MAt.kept HM5.out hHeld)
  have HT6 := Lib.hid (HT5.out.kept hHeld)
  have HK6 := Lib.hid (HK5.out.trans hHeld)
  clear hHeld
  generalize (rk == 0) = tn at *
  have cp := HM6.out.p
  cases hp : (tn == (m.p != 0))
  · rw [hp] at HV
    go_wp2
    go_ret
    exact ⟨by rw [HV.out]; rfl, HK6.out⟩
  · rw [hp] at HV
    go_wp2_with (first | (refine wpList_load_ps (by rfl) _ rfl _ rfl _ (HP6.out) ?_) | (refine wpList_load_pb (by rfl) _ rfl _ rfl _ (HP6.out) ?_) | (refine wpList_load_mv (by rfl) _ rfl _ rfl _ (HM6.out) ?_))
    refine (isPromo_is _ _ HT6.out).mono ?_
    rintro e w7 ⟨rfl, k7⟩
    have HK7 := Lib.hid (HK6.out.trans k7)
    clear k7 cp
    go_wp2
    go_ret
    exact ⟨by rw [HV.out]; rfl, HK7.out⟩
theorem formed_is (p : Ps) (hB : Brd p.B) (t01 : p.t = 0 ∨ p.t = 1) (m : Mv) (w : World) (hT : TabM w) :
    Calls Tryz.prog 21 #[.agg (pl p).toArray, .agg (ml m).toArray] w fun e w' => e = .returned (.bool (formB p m)) ∧ Kept w w' := by
  cases h1 : (sideI (manA p.B m.f) == p.t)
  · exact formed1 p hB m h1 w hT
  · cases h2 : onB m.t
    · exact formed2 p hB m h1 h2 w hT
    · cases h3 : (sideI (manA p.B m.t) == p.t)
      · cases h4 : (kindI (manA p.B m.f) == 1)
        · exact formed4 p hB m h1 h2 h3 h4 w hT
        · rcases t01 with ht | ht
          · exact formed5w p hB m h1 h2 h3 h4 ht w hT
          · exact formed5b p hB m h1 h2 h3 h4 ht w hT
      · exact formed3 p hB m h1 h2 h3 w hT
/-- Is the position right, and the move formed in it? -/
def okM (p : Ps) (m : Mv) : Bool := (pwI p == 0) && formB p m
theorem right_t {p : Ps} (h : pwI p = 0) : (p.t = 0 ∨ p.t = 1) ∧ (0 ≤ p.c ∧ p.c ≤ 15) ∧ (-1 ≤ p.e ∧ p.e ≤ 63) := (within_iff p).1 (by
  unfold pwI at h
  by_cases a0 : wrongI p.B = 0
  · rw [if_neg (by omega)] at h
    cases a1 : withinB p
    · rw [a1, if_pos rfl] at h; omega
    · rfl
  · rw [if_pos a0] at h; exact absurd h a0)
set_option maxHeartbeats 2000000 in
theorem mformed_is (p : Ps) (hB : Brd p.B) (m : Mv) (w : World) (hT : TabM w) :
    Calls Tryz.prog 94 #[.agg (pl p).toArray, .agg (ml m).toArray] w fun e w' => e = .returned (.bool (okM p m)) ∧ Kept w w' := by
  have HP : Hid (PAt _ _ p) := ⟨hB.1, heap_alloc2_old w (.cells (pl p).toArray 26) (.cells (ml m).toArray 35)⟩
  have HM : Hid (MAt _ _ m) := ⟨heap_alloc2_new w (.cells (pl p).toArray 26) (.cells (ml m).toArray 35)⟩
  have HK0 := Lib.hid (((Kept.refl w).alloc (.cells (pl p).toArray 26)).alloc (.cells (ml m).toArray 35))
  have HT := Lib.hid (hT.kept HK0.out)
  have HC := Lib.hid (fun w h => pwrong_is p hB w h)
  by_cases hv : pwI p = 0
  · have HF := Lib.hid (fun w h => formed_is p hB (right_t hv).1 m w h)
    have HV : Hid (okM p m = formB p m) := by unfold okM; rw [hv]; rfl
    rw [hv] at HC
    clear hB hT hv
    go_enter Tryz.func94, Tryz.ntmps94
    go_wp2_with (first | (refine wpList_load_ps (by rfl) _ rfl _ rfl _ (HP.out) ?_) | (refine wpList_load_pb (by rfl) _ rfl _ rfl _ (HP.out) ?_) | (refine wpList_load_mv (by rfl) _ rfl _ rfl _ (HM.out) ?_))
    refine (HC.out _ HT.out.tabs).mono ?_
    rintro e w1 ⟨rfl, k1⟩
    have HK1 := Lib.hid (HK0.out.trans k1)
    have HP1 := Lib.hid (HP.out.kept k1)
    have HM1 := Lib.hid (MAt.kept HM.out k1)
    have HT1 := Lib.hid (HT.out.kept k1)
    clear k1
    go_wp2_with (first | (refine wpList_load_ps (by rfl) _ rfl _ rfl _ (HP1.out) ?_) | (refine wpList_load_pb (by rfl) _ rfl _ rfl _ (HP1.out) ?_) | (refine wpList_load_mv (by rfl) _ rfl _ rfl _ (HM1.out) ?_))
    refine (HF.out _ HT1.out).mono ?_
    rintro e w2 ⟨rfl, k2⟩
    have HK2 := Lib.hid (HK1.out.trans k2)
    clear k2
    go_wp2
    go_ret
    exact ⟨by rw [HV.out]; rfl, HK2.out⟩
  · have hv' : (pwI p == 0) = false := beq_eq_false_iff_ne.2 hv
    have HV : Hid (okM p m = false) := by unfold okM; rw [hv']; rfl
    generalize pwI p = v at *
    clear hB hT hv
    go_enter Tryz.func94, Tryz.ntmps94
    go_wp2_with (first | (refine wpList_load_ps (by rfl) _ rfl _ rfl _ (HP.out) ?_) | (refine wpList_load_pb (by rfl) _ rfl _ rfl _ (HP.out) ?_) | (refine wpList_load_mv (by rfl) _ rfl _ rfl _ (HM.out) ?_))
    refine (HC.out _ HT.out.tabs).mono ?_
    rintro e w1 ⟨rfl, k1⟩
    have HK1 := Lib.hid (HK0.out.trans k1)
    clear k1
    go_wp2
    go_ret
    exact ⟨by rw [HV.out]; rfl, HK1.out⟩
theorem okM_right {p : Ps} {m : Mv} (h : okM p m = true) : pwI p = 0 ∧ formB p m = true := by
  unfold okM at h
  rw [Bool.and_eq_true, beq_iff_eq] at h
  exact h
theorem okM_on {p : Ps} {m : Mv} (h : okM p m = true) : On m := form_on (right_t (okM_right h).1).1 (okM_right h).2
set_option maxHeartbeats 2000000 in
theorem castles_yes (p : Ps) (hB : Brd p.B) (m : Mv) (h : okM p m = true) (w : World) (hT : TabM w) :
    Calls Tryz.prog 72 #[.agg (pl p).toArray, .agg (ml m).toArray] w fun e w' => e = .returned (.bool (decide (castN p m < 4))) ∧ Kept w w' := by
  have HP : Hid (PAt _ _ p) := ⟨hB.1, heap_alloc2_old w (.cells (pl p).toArray 26) (.cells (ml m).toArray 35)⟩
  have HM : Hid (MAt _ _ m) := ⟨heap_alloc2_new w (.cells (pl p).toArray 26) (.cells (ml m).toArray 35)⟩
  have HK0 := Lib.hid (((Kept.refl w).alloc (.cells (pl p).toArray 26)).alloc (.cells (ml m).toArray 35))
  have HT := Lib.hid (hT.kept HK0.out)
  have HC := Lib.hid (fun w h => mformed_is p hB m w h)
  have HF := Lib.hid (fun w hw => castling_is p hB (right_t (okM_right h).1).2.1.1 (right_t (okM_right h).1).2.1.2 m w hw)
  rw [h] at HC
  generalize castN p m = cn at *
  clear hB hT h
  go_enter Tryz.func72, Tryz.ntmps72
  go_wp2_with (first | (refine wpList_load_ps (by rfl) _ rfl _ rfl _ (HP.out) ?_) | (refine wpList_load_pb (by rfl) _ rfl _ rfl _ (HP.out) ?_) | (refine wpList_load_mv (by rfl) _ rfl _ rfl _ (HM.out) ?_))
  refine (HC.out _ HT.out).mono ?_
  rintro e w1 ⟨rfl, k1⟩
  have HK1 := Lib.hid (HK0.out.trans k1)
  have HP1 := Lib.hid (HP.out.kept k1)
  have HM1 := Lib.hid (MAt.kept HM.out k1)
  have HT1 := Lib.hid (HT.out.kept k1)
  clear k1
  go_wp2_with (first | (refine wpList_load_ps (by rfl) _ rfl _ rfl _ (HP1.out) ?_) | (refine wpList_load_pb (by rfl) _ rfl _ rfl _ (HP1.out) ?_) | (refine wpList_load_mv (by rfl) _ rfl _ rfl _ (HM1.out) ?_))
  refine (HF.out _ HT1.out).mono ?_
  rintro e w2 ⟨rfl, k2⟩
  have HK2 := Lib.hid (HK1.out.trans k2)
  clear k2
  go_wp2_with (first | (with_reducible refine wpList_new_wi rfl rfl ?_) | ((with_reducible refine wpList_store_newwi rfl _ _ rfl 4 cn ?_ ?_ ?_); exact rfl; exact rfl))
  go_ret
  exact ⟨rfl, HK2.out.alloc _⟩
set_option maxHeartbeats 2000000 in
theorem castles_no (p : Ps) (hB : Brd p.B) (m : Mv) (h : okM p m = false) (w : World) (hT : TabM w) :
    Calls Tryz.prog 72 #[.agg (pl p).toArray, .agg (ml m).toArray] w fun e w' => e = .returned (.bool false) ∧ Kept w w' := by
  have HP : Hid (PAt _ _ p) := ⟨hB.1, heap_alloc2_old w (.cells (pl p).toArray 26) (.cells (ml m).toArray 35)⟩
  have HM : Hid (MAt _ _ m) := ⟨heap_alloc2_new w (.cells (pl p).toArray 26) (.cells (ml m).toArray 35)⟩
  have HK0 := Lib.hid (((Kept.refl w).alloc (.cells (pl p).toArray 26)).alloc (.cells (ml m).toArray 35))
  have HT := Lib.hid (hT.kept HK0.out)
  have HC := Lib.hid (fun w h => mformed_is p hB m w h)
  rw [h] at HC
  clear hB hT h
  go_enter Tryz.func72, Tryz.ntmps72
  go_wp2_with (first | (refine wpList_load_ps (by rfl) _ rfl _ rfl _ (HP.out) ?_) | (refine wpList_load_pb (by rfl) _ rfl _ rfl _ (HP.out) ?_) | (refine wpList_load_mv (by rfl) _ rfl _ rfl _ (HM.out) ?_))
  refine (HC.out _ HT.out).mono ?_
  rintro e w1 ⟨rfl, k1⟩
  have HK1 := Lib.hid (HK0.out.trans k1)
  clear k1
  go_wp2
  go_ret
  exact ⟨rfl, HK1.out⟩
end Go.Proofs.YtkebpchhpidogaaGreatDoor
