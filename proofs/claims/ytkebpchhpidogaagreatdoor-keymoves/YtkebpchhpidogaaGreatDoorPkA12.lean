/- Contracts of men.Other · The document's Strikes, By, King and Check; the program's Check · King and Check, the program's and the document's · The example; walks of AttackStrikes and AttackCheck. -/
import Derived.Test.YtkebpchhpidogaaGreatDoorPkA00
import Derived.Test.YtkebpchhpidogaaGreatDoorPkA11
namespace Go.Proofs.YtkebpchhpidogaaGreatDoor
open Go.RowKit
set_option linter.unusedVariables false

theorem other_w (w : World) : Calls Tryz.prog 23 #[.int .i64 0] w fun e w' => e = .returned (.int .i64 1) ∧ w = w' := by
  go_enter Tryz.func23, Tryz.ntmps23
  go_wp2
  go_ret
  exact ⟨rfl, rfl⟩
theorem other_b (w : World) : Calls Tryz.prog 23 #[.int .i64 1] w fun e w' => e = .returned (.int .i64 0) ∧ w = w' := by
  go_enter Tryz.func23, Tryz.ntmps23
  go_wp2
  go_ret
  exact ⟨rfl, rfl⟩
theorem other_no (s : Int) (w : World) (h0 : s ≠ 0) (h1 : s ≠ 1) : Calls Tryz.prog 23 #[.int .i64 s] w fun e w' => e = .returned (.int .i64 (-1)) ∧ w = w' := by
  have b0 : (s == 0) = false := beq_eq_false_iff_ne.2 h0
  have b1 : (s == 1) = false := beq_eq_false_iff_ne.2 h1
  clear h0 h1
  go_enter Tryz.func23, Tryz.ntmps23
  go_wp2
  go_ret
  exact ⟨rfl, rfl⟩
end Go.Proofs.YtkebpchhpidogaaGreatDoor
namespace Go.Proofs.YtkebpchhpidogaaGreatDoor
open Go.RowKit
set_option linter.unusedVariables false
set_option linter.unusedSimpArgs false

theorem zn_yes {p : Nat → Bool} {k : Nat} (h : p k = true) : zn (sel p (k + 1)) = zn (sel p k) ++ [(k : Int)] := by unfold zn; rw [sel_yes h]; simp
theorem zn_no {p : Nat → Bool} {k : Nat} (h : p k = false) : zn (sel p (k + 1)) = zn (sel p k) := by rw [sel_no h]
theorem zn_len (p : Nat → Bool) (k : Nat) : (zn (sel p k)).length ≤ k := by unfold zn; rw [List.length_map]; exact sel_le p k
end Go.Proofs.YtkebpchhpidogaaGreatDoor
namespace Go.Proofs.YtkebpchhpidogaaGreatDoor
open Go.RowKit
set_option linter.unusedVariables false
set_option linter.unusedSimpArgs false

/-- Where a side's king stands; -1: nowhere. -/
def kingI (B : List Int) (side : Int) : Int := if side = 0 then headI (whereL B 6) else if side = 1 then headI (whereL B (-6)) else -1
theorem kingI_bd (B : List Int) (side : Int) : -1 ≤ kingI B side ∧ kingI B side < 64 := by
  unfold kingI
  split
  · exact headI_bd B 6
  · split
    · exact headI_bd B (-6)
    · omega
theorem king_any (B : List Int) (hB : Brd B) (side : Int) (w : World) :
    Calls Tryz.prog 61 #[.agg (cl B).toArray, .int .i64 side] w fun e w' => e = .returned (.int .i64 (kingI B side)) ∧ Kept w w' := by
  unfold kingI
  by_cases h0 : side = 0
  · subst h0; rw [if_pos rfl]; exact king_w B hB w
  · rw [if_neg h0]
    by_cases h1 : side = 1
    · subst h1; rw [if_pos rfl]; exact king_b B hB w
    · rw [if_neg h1]; exact king_no B side h0 h1 w
def otherI (side : Int) : Int := if side = 0 then 1 else if side = 1 then 0 else -1
theorem other_any (side : Int) (w : World) : Calls Tryz.prog 23 #[.int .i64 side] w fun e w' => e = .returned (.int .i64 (otherI side)) ∧ Kept w w' := by
  unfold otherI
  by_cases h0 : side = 0
  · subst h0; rw [if_pos rfl]; exact (other_w w).mono fun _ _ ⟨a, b⟩ => ⟨a, b ▸ Kept.refl _⟩
  · rw [if_neg h0]
    by_cases h1 : side = 1
    · subst h1; rw [if_pos rfl]; exact (other_b w).mono fun _ _ ⟨a, b⟩ => ⟨a, b ▸ Kept.refl _⟩
    · rw [if_neg h1]; exact (other_no side w h0 h1).mono fun _ _ ⟨a, b⟩ => ⟨a, b ▸ Kept.refl _⟩
def checkB (B : List Int) (side : Int) : Bool := struckB B (kingI B side) (otherI side)
set_option maxHeartbeats 1000000 in
theorem check_is (a : Addr) (B : List Int) (hB : Brd B) (side : Int) (w : World) (hS : Steps w) :
    Calls Tryz.prog 62 #[.pointer (some a), .agg (cl B).toArray, .int .i64 side] w fun e w' => e = .returned (.bool (checkB B side)) ∧ Kept w w' := by
  have hbl := Lib.hid (heap_alloc_new w (.cells (cl B).toArray 24))
  have HB := Lib.hid hB
  have HSt := Lib.hid (hS.kept ((Kept.refl w).alloc (.cells (cl B).toArray 24)))
  clear hB hS
  unfold checkB
  go_enter Tryz.func62, Tryz.ntmps62
  go_wp2
  refine wp_region_held_drew (S := Kept _) (by kernel_rfl) (Kept.refl _).drew (fun hHeld => ?_)
  refine rT 0 7 (.pointer (some a)) rfl rfl hHeld ?_
  simp only [pA, pN, sZ, sU]
  refine rY 1 8 rfl rfl (take_load (by rfl) _ rfl _ rfl B HB.out.1 (fun _ h => h.heap (hbl.out))) hHeld ?_
  simp only [pA, pN, sZ, sU]
  refine rY 2 9 rfl rfl (take_load (by rfl) _ rfl _ rfl B HB.out.1 (fun _ h => h.heap (hbl.out))) hHeld ?_
  simp only [pA, pN, sZ, sU]
  refine rT 3 10 (.int .i64 side) rfl rfl hHeld ?_
  simp only [pA, pN, sZ, sU]
  refine rT 5 12 (.int .i64 side) rfl rfl hHeld ?_
  simp only [pA, pN, sZ, sU]
  refine rR 4 rfl (fun K hK => ?_)
  go_simp
  refine (king_any B HB.out side _).mono ?_
  rintro e w1 ⟨rfl, gw1⟩
  refine hK.out _ _ (hHeld.trans gw1) (fun _ => ?_)
  replace hHeld := hHeld.trans gw1
  clear hK K
  refine rR 6 rfl (fun K hK => ?_)
  go_simp
  refine (other_any side _).mono ?_
  rintro e w2 ⟨rfl, gw2⟩
  refine hK.out _ _ (hHeld.trans gw2) (fun _ => ?_)
  replace hHeld := hHeld.trans gw2
  clear hK K
  refine rR 7 rfl (fun K hK => ?_)
  go_simp
  refine (struck_is a B HB.out (kingI B side) (otherI side) _ (HSt.out.kept hHeld)).mono ?_
  rintro e w3 ⟨rfl, gw3⟩
  refine hK.out _ _ (hHeld.trans gw3) (fun _ => ?_)
  replace hHeld := hHeld.trans gw3
  clear hK K
  refine rT 8 6 (.bool (struckB B (kingI B side) (otherI side))) rfl rfl hHeld ?_
  simp only [pA, pN, sZ, sU]
  refine wpAnyH_done (by kernel_rfl) ?_ _
  go_wp2
  go_ret
  exact ⟨rfl, ((Kept.refl _).alloc _).trans hHeld⟩
theorem check_nil (B : List Int) (hB : Brd B) (side : Int) (w : World) :
    Calls Tryz.prog 62 #[.pointer none, .agg (cl B).toArray, .int .i64 side] w fun e w' => e = .returned (.bool false) ∧ Kept w w' := by
  have hbl := Lib.hid (heap_alloc_new w (.cells (cl B).toArray 24))
  have HB := Lib.hid hB
  clear hB
  go_enter Tryz.func62, Tryz.ntmps62
  go_wp2
  refine wp_region_held_drew (S := Kept _) (by kernel_rfl) (Kept.refl _).drew (fun hHeld => ?_)
  refine rT 0 7 (.pointer none) rfl rfl hHeld ?_
  simp only [pA, pN, sZ, sU]
  refine rY 1 8 rfl rfl (take_load (by rfl) _ rfl _ rfl B HB.out.1 (fun _ h => h.heap (hbl.out))) hHeld ?_
  simp only [pA, pN, sZ, sU]
  refine rY 2 9 rfl rfl (take_load (by rfl) _ rfl _ rfl B HB.out.1 (fun _ h => h.heap (hbl.out))) hHeld ?_
  simp only [pA, pN, sZ, sU]
  refine rT 3 10 (.int .i64 side) rfl rfl hHeld ?_
  simp only [pA, pN, sZ, sU]
  refine rT 5 12 (.int .i64 side) rfl rfl hHeld ?_
  simp only [pA, pN, sZ, sU]
  refine rR 4 rfl (fun K hK => ?_)
  go_simp
  refine (king_any B HB.out side _).mono ?_
  rintro e w1 ⟨rfl, gw1⟩
  refine hK.out _ _ (hHeld.trans gw1) (fun _ => ?_)
  replace hHeld := hHeld.trans gw1
  clear hK K
  refine rR 6 rfl (fun K hK => ?_)
  go_simp
  refine (other_any side _).mono ?_
  rintro e w2 ⟨rfl, gw2⟩
  refine hK.out _ _ (hHeld.trans gw2) (fun _ => ?_)
  replace hHeld := hHeld.trans gw2
  clear hK K
  refine rR 7 rfl (fun K hK => ?_)
  go_simp
  refine (struck_nil B HB.out (kingI B side) (otherI side) _).mono ?_
  rintro e w3 ⟨rfl, gw3⟩
  refine hK.out _ _ (hHeld.trans gw3) (fun _ => ?_)
  replace hHeld := hHeld.trans gw3
  clear hK K
  refine rT 8 6 (.bool false) rfl rfl hHeld ?_
  simp only [pA, pN, sZ, sU]
  refine wpAnyH_done (by kernel_rfl) ?_ _
  go_wp2
  go_ret
  exact ⟨rfl, ((Kept.refl _).alloc _).trans hHeld⟩
theorem headI_none {l : List Nat} (h : l.length = 0) : headI l = -1 := by rw [List.eq_nil_of_length_eq_zero h]; rfl
theorem headI_some {l : List Nat} (h : 0 < l.length) : headI l = (l.getD 0 0 : Nat) := by
  cases l with
  | nil => simp at h
  | cons a l => rfl
theorem struck_by (B : List Int) (k side : Int) : decide (0 < (if okS k && rightB B then zn (byN B k side) else ([] : List Int)).length) = struckB B k side := by
  unfold struckB
  cases h : okS k && rightB B
  · simp
  · obtain ⟨h0, h1⟩ := okS_iff.1 (Bool.and_eq_true _ _ ▸ h).1
    have e := tell_by B k side h0 h1
    rw [if_pos rfl, Bool.true_and]
    unfold zn
    rw [List.length_map, ← e]
    cases tellL B k side <;> simp
end Go.Proofs.YtkebpchhpidogaaGreatDoor
namespace Go.Proofs.YtkebpchhpidogaaGreatDoor
open Go.RowKit
set_option linter.unusedVariables false
set_option linter.unusedSimpArgs false

theorem new_is (w : World) : Calls Tryz.prog 17 #[] w fun e w' => (∃ a, e = .returned (.pointer (some a))) ∧ Kept w w' := by
  go_enter Tryz.func17, Tryz.ntmps17
  go_wp2
  go_ret
  exact ⟨⟨_, rfl⟩, (Kept.refl _).alloc _⟩
/-- A rook on a1 alone. -/
def Rb : List Int := 4 :: List.replicate 63 0
theorem Rb_brd : Brd Rb := by
  refine ⟨rfl, ?_⟩
  have : ∀ i : Fin 64, -128 ≤ Rb.getD i.val 0 ∧ Rb.getD i.val 0 ≤ 127 := by decide +kernel
  exact fun i hi => this ⟨i, hi⟩
theorem Rb_len : (if okS 0 && rightB Rb then zn (strikesN Rb 0) else ([] : List Int)).length = 14 := by decide +kernel
end Go.Proofs.YtkebpchhpidogaaGreatDoor
