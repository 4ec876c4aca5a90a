/- The tables of positions; Backed · Passed: the program's · Moves: how they lie in memory; the tables of layer 9; the small functions · passed, touches, goesByPawn, free. -/
import Derived.Test.YtkebpchhpidogaaGreatDoorPkA05
import Derived.Test.YtkebpchhpidogaaGreatDoorPkA12
namespace Go.Proofs.YtkebpchhpidogaaGreatDoor
open Go.RowKit
set_option linter.unusedVariables false
set_option linter.unusedSimpArgs false

def hmL : List Int := [1, 0, 4, 7, 2, 0, 4, 0, 4, 1, 60, 63, 8, 1, 60, 56]
def hmV : List Value := hmL.map (Value.int .i64)
def vwL : List Int := [5, 1, 2, -1]
def Homes (w : World) : Prop := ∀ i, i < 16 → w.cell? ⟨2, i, none⟩ = some (.int .i64 (hmL.getD i 0))
def Views (w : World) : Prop := ∀ i, i < 4 → w.cell? ⟨5, i, none⟩ = some (.int .i64 (vwL.getD i 0))
/-- The tables hold what the text lays. -/
structure Tabs (w : World) : Prop where
  steps : Steps w
  homes : Homes w
  views : Views w
theorem Tabs.kept {w w' : World} (h : Tabs w) (k : Kept w w') : Tabs w' :=
  ⟨h.steps.kept k, fun i hi => kept_cell k (h.homes i hi), fun i hi => kept_cell k (h.views i hi)⟩
theorem Homes.range {w : World} (h : Homes w) : w.rangeAt 2 0 hmV := by
  intro j v hv
  have hj : j < hmV.length := (List.getElem?_eq_some_iff.1 hv).1
  have hj' : j < 16 := by simpa [hmV, hmL] using hj
  rw [Nat.zero_add, h j hj']
  unfold hmV at hv
  rw [List.getElem?_map] at hv
  have h2 : j < hmL.length := by simpa [hmL] using hj'
  rw [List.getElem?_eq_getElem h2] at hv
  simp only [Option.map_some, Option.some.injEq] at hv
  rw [← hv, getD_at _ _ h2]
theorem size_homes : (Tryz.prog.info? 88).map (·.size) = some hmV.length := by kernel_rfl
/-- A right, its side, its king's and its rook's square. -/
def hR (k : Nat) : Int := [1, 2, 4, 8].getD k 0
def hS (k : Nat) : Int := [0, 0, 1, 1].getD k 0
def hKg (k : Nat) : Nat := [4, 4, 60, 60].getD k 0
def hRk (k : Nat) : Nat := [7, 0, 63, 56].getD k 0
def hAt (k : Nat) : Array Value := #[.int .i64 (hR k), .int .i64 (hS k), .int .i64 (hKg k), .int .i64 (hRk k)]
theorem sizeHome : (Tryz.prog.info? 87).map (·.size) = some 4 := by kernel_rfl
theorem run_index_hm (k : Nat) (hk : k < 4) (w : World) : (Instr.index 88 (.agg hmV.toArray) (.int .i64 k)).run Tryz.prog w = .ok (.agg (hAt k)) w := by
  have h1 : (0 : Int) ≤ (k : Int) ∧ (k : Int) < ((4 : Nat) : Int) := by omega
  have hs : (sizeOf 87).run Tryz.prog w = .ok 4 w := by
    cases hq : Tryz.prog.info? 87 with
    | none => have := sizeHome; simp [hq] at this
    | some i => have := sizeHome; simp [hq] at this; simp [sizeOf, typeInfo, hq, this]
  simp only [Instr.index, asIntOf, Sem.run_bind, Sem.run_pure, Result.andThen_ok, run_underlying Tryz.underlying88, if_pos h1, hs]
  simp only [part, isAgg, Sem.run_bind, Sem.run_pure, Result.andThen_ok, run_underlying Tryz.underlying87, if_true, hs, Int.toNat_natCast]
  have : k = 0 ∨ k = 1 ∨ k = 2 ∨ k = 3 := by omega
  rcases this with rfl | rfl | rfl | rfl <;> rfl
/-- Is a right backed? -/
def backB (B : List Int) (r : Int) : Bool :=
  if r = 1 then (B.getD 4 0 == 6) && (B.getD 7 0 == 4) else if r = 2 then (B.getD 4 0 == 6) && (B.getD 0 0 == 4)
  else if r = 4 then (B.getD 60 0 == -6) && (B.getD 63 0 == -4) else if r = 8 then (B.getD 60 0 == -6) && (B.getD 56 0 == -4) else false
/-- The man of a kind and side. -/
def mkI (k s : Int) : Int := if s = 0 then k else -k
theorem back_at (B : List Int) (k : Nat) (hk : k < 4) : backB B (hR k) = ((B.getD (hKg k) 0 == mkI 6 (hS k)) && (B.getD (hRk k) 0 == mkI 4 (hS k))) := by
  have : k = 0 ∨ k = 1 ∨ k = 2 ∨ k = 3 := by omega
  rcases this with rfl | rfl | rfl | rfl <;> rfl
theorem back_no (B : List Int) (r : Int) (h : ∀ j, j < 4 → hR j ≠ r) : backB B r = false := by
  have h0 := h 0 (by omega)
  have h1 := h 1 (by omega)
  have h2 := h 2 (by omega)
  have h3 := h 3 (by omega)
  simp only [hR, List.getD_cons_zero, List.getD_cons_succ] at h0 h1 h2 h3
  unfold backB
  rw [if_neg (by omega), if_neg (by omega), if_neg (by omega), if_neg (by omega)]
theorem hS_01 (k : Nat) (hk : k < 4) : hS k = 0 ∨ hS k = 1 := by
  have : k = 0 ∨ k = 1 ∨ k = 2 ∨ k = 3 := by omega
  rcases this with rfl | rfl | rfl | rfl <;> simp [hS]
theorem hKg_lt (k : Nat) : hKg k < 64 := by
  unfold hKg; rcases k with _ | _ | _ | _ | k <;> simp
theorem hRk_lt (k : Nat) : hRk k < 64 := by
  unfold hRk; rcases k with _ | _ | _ | _ | k <;> simp
theorem hR_bd (k : Nat) : 0 ≤ hR k ∧ hR k ≤ 8 := by
  unfold hR; rcases k with _ | _ | _ | _ | k <;> simp
theorem mmake_is (k s : Int) (w : World) (h1 : 1 ≤ k) (h6 : k ≤ 6) (hs : s = 0 ∨ s = 1) : Calls Tryz.prog 46 #[.int .i64 k, .int .i64 s] w fun e w' => e = .returned (.int .i64 (mkI k s)) ∧ Kept w w' := by
  rcases hs with rfl | rfl
  · exact (make_w k w h1 h6).mono fun _ _ ⟨a, b⟩ => ⟨a, b ▸ Kept.refl _⟩
  · exact (make_b k w h1 h6).mono fun _ _ ⟨a, b⟩ => ⟨a, b ▸ Kept.refl _⟩
set_option maxRecDepth 100000 in
set_option maxHeartbeats 2000000 in
theorem backed_is (p : Ps) (hB : Brd p.B) (r : Int) (w : World) (hT : Tabs w) :
    Calls Tryz.prog 63 #[.agg (pl p).toArray, .int .i64 r] w fun e w' => e = .returned (.bool (backB p.B r)) ∧ Kept w w' := by
  have HP := Lib.hid (PAt.new w hB.1)
  have HK0 := Lib.hid ((Kept.refl w).alloc (.cells (pl p).toArray 26))
  have HT := Lib.hid (hT.kept HK0.out)
  have HB := Lib.hid hB
  clear hB hT
  go_enter Tryz.func63, Tryz.ntmps63
  go_wp2_with (refine wpList_load_mid rfl 88 _ rfl 2 0 rfl hmV _ HT.out.homes.range Tryz.underlying88 rfl size_homes ?_)
  go_loopw [8] (fun t8 wr => ∃ k : Nat, k ≤ 4 ∧ t8 = .int .i64 k ∧ (∀ j, j < k → hR j ≠ r) ∧ Kept (w.alloc (.cells (pl p).toArray 26)) wr) (fun t8 _ => 4 - (intOf t8).toNat)
  case atStart => exact ⟨0, by omega, rfl, fun j hj => by omega, Kept.refl _⟩
  case round =>
    obtain ⟨k, hk, rfl, hno, hK⟩ := hrel
    have HNo := Lib.hid hno
    have HK := Lib.hid hK
    clear hno hK
    by_cases hlt : k < 4
    · have hx := run_index_hm k hlt
      have HPk := Lib.hid (HP.out.kept HK.out)
      have HKg := Lib.hid (hKg_lt k)
      have HRk := Lib.hid (hRk_lt k)
      have HS := Lib.hid (hS_01 k hlt)
      have HBk := Lib.hid (back_at p.B k hlt)
      have HR := Lib.hid (hR_bd k)
      unfold hAt at hx
      by_cases he : hR k = r
      · have he' : (hR k == r) = true := beq_iff_eq.2 he
        rw [he] at HBk
        have HM1 := Lib.hid (man_yes p.B HB.out (hKg k) HKg.out)
        have HM2 := Lib.hid (man_yes p.B HB.out (hRk k) HRk.out)
        have HMk1 := Lib.hid (fun w => mmake_is 6 (hS k) w (by omega) (by omega) HS.out)
        have HMk2 := Lib.hid (fun w => mmake_is 4 (hS k) w (by omega) (by omega) HS.out)
        generalize p.B.getD (hKg k) 0 = x1 at *
        generalize p.B.getD (hRk k) 0 = x2 at *
        generalize mkI 6 (hS k) = m1 at *
        generalize mkI 4 (hS k) = m2 at *
        clear he
        go_wp2
        have hnew := heap_alloc_new wr (.cells (hAt k) 87)
        have c1 := Lib.hid (show (wr.alloc (.cells (hAt k) 87)).cell? ⟨wr.heap.size, 1, none⟩ = some (.int .i64 (hS k)) by rw [cell_of_row _ _ 1 _ _ (0, 0) hnew]; rfl)
        have c2 := Lib.hid (show (wr.alloc (.cells (hAt k) 87)).cell? ⟨wr.heap.size, 2, none⟩ = some (.int .i64 (hKg k)) by rw [cell_of_row _ _ 2 _ _ (0, 0) hnew]; rfl)
        have c3 := Lib.hid (show (wr.alloc (.cells (hAt k) 87)).cell? ⟨wr.heap.size, 3, none⟩ = some (.int .i64 (hRk k)) by rw [cell_of_row _ _ 3 _ _ (0, 0) hnew]; rfl)
        have HPA := Lib.hid (HPk.out.kept ((Kept.refl wr).alloc (.cells (hAt k) 87)))
        clear hnew
        cases hb1 : (x1 == m1)
        · skip
          refine wp_region_held_drew (S := Kept _) (by kernel_rfl) (Kept.refl _).drew (fun hHeld => ?_)
          refine rT 0 15 (.pointer (some ⟨w.heap.size, 0, none⟩)) rfl rfl hHeld ?_
          simp only [pA, pN, sZ, sU]
          refine rY 1 16 rfl rfl (take_load_pb (by rfl) _ rfl _ rfl p HB.out.1 (fun _ h => (HPA.out).kept h)) hHeld ?_
          simp only [pA, pN, sZ, sU]
          refine rT 2 17 (.pointer (some ⟨wr.heap.size, 2, none⟩)) rfl rfl hHeld ?_
          simp only [pA, pN, sZ, sU]
          refine rC 3 18 (.int .i64 ↑(hKg k)) rfl rfl (fun _ h => kept_cell h (c2.out)) hHeld ?_
          simp only [pA, pN, sZ, sU]
          refine rT 5 20 (.pointer (some ⟨wr.heap.size, 1, none⟩)) rfl rfl hHeld ?_
          simp only [pA, pN, sZ, sU]
          refine rC 6 21 (.int .i64 (hS k)) rfl rfl (fun _ h => kept_cell h (c1.out)) hHeld ?_
          simp only [pA, pN, sZ, sU]
          refine rR 4 rfl (fun K hK => ?_)
          go_simp
          refine (HM1.out _).mono ?_
          rintro e w1 ⟨rfl, gw1⟩
          refine hK.out _ _ (hHeld.trans gw1) (fun _ => ?_)
          replace hHeld := hHeld.trans gw1
          clear hK K
          refine rR 7 rfl (fun K hK => ?_)
          go_simp
          refine (HMk1.out _).mono ?_
          rintro e w2 ⟨rfl, gw2⟩
          refine hK.out _ _ (hHeld.trans gw2) (fun _ => ?_)
          replace hHeld := hHeld.trans gw2
          clear hK K
          refine rT 8 23 (.bool false) rfl rfl hHeld ?_
          simp only [pA, pN, sZ, sU]
          refine rT 9 24 (.bool false) rfl rfl hHeld ?_
          simp only [pA, pN, sZ, sU]
          refine rN 10 25 rfl rfl hHeld ?_
          simp only [pA, pN, sZ, sU]
          refine rN 11 26 rfl rfl hHeld ?_
          simp only [pA, pN, sZ, sU]
          refine rN 12 27 rfl rfl hHeld ?_
          simp only [pA, pN, sZ, sU]
          refine rN 13 28 rfl rfl hHeld ?_
          simp only [pA, pN, sZ, sU]
          refine rN 14 29 rfl rfl hHeld ?_
          simp only [pA, pN, sZ, sU]
          refine rN 15 30 rfl rfl hHeld ?_
          simp only [pA, pN, sZ, sU]
          refine rN 16 31 rfl rfl hHeld ?_
          simp only [pA, pN, sZ, sU]
          refine rN 17 32 rfl rfl hHeld ?_
          simp only [pA, pN, sZ, sU]
          refine rN 18 33 rfl rfl hHeld ?_
          simp only [pA, pN, sZ, sU]
          refine rT 19 34 (.bool false) rfl rfl hHeld ?_
          simp only [pA, pN, sZ, sU]
          refine rT 20 4 (.bool false) rfl rfl hHeld ?_
          simp only [pA, pN, sZ, sU]
          refine wpAnyH_done (by kernel_rfl) ?_ _
          go_wp2
          go_ret
          exact ⟨by rw [HBk.out, hb1]; rfl, HK0.out.trans ((HK.out.alloc _).trans hHeld)⟩
        · skip
          refine wp_region_held_drew (S := Kept _) (by kernel_rfl) (Kept.refl _).drew (fun hHeld => ?_)
          refine rT 0 15 (.pointer (some ⟨w.heap.size, 0, none⟩)) rfl rfl hHeld ?_
          simp only [pA, pN, sZ, sU]
          refine rY 1 16 rfl rfl (take_load_pb (by rfl) _ rfl _ rfl p HB.out.1 (fun _ h => (HPA.out).kept h)) hHeld ?_
          simp only [pA, pN, sZ, sU]
          refine rT 2 17 (.pointer (some ⟨wr.heap.size, 2, none⟩)) rfl rfl hHeld ?_
          simp only [pA, pN, sZ, sU]
          refine rC 3 18 (.int .i64 ↑(hKg k)) rfl rfl (fun _ h => kept_cell h (c2.out)) hHeld ?_
          simp only [pA, pN, sZ, sU]
          refine rT 5 20 (.pointer (some ⟨wr.heap.size, 1, none⟩)) rfl rfl hHeld ?_
          simp only [pA, pN, sZ, sU]
          refine rC 6 21 (.int .i64 (hS k)) rfl rfl (fun _ h => kept_cell h (c1.out)) hHeld ?_
          simp only [pA, pN, sZ, sU]
          refine rR 4 rfl (fun K hK => ?_)
          go_simp
          refine (HM1.out _).mono ?_
          rintro e w1 ⟨rfl, gw1⟩
          refine hK.out _ _ (hHeld.trans gw1) (fun _ => ?_)
          replace hHeld := hHeld.trans gw1
          clear hK K
          refine rR 7 rfl (fun K hK => ?_)
          go_simp
          refine (HMk1.out _).mono ?_
          rintro e w2 ⟨rfl, gw2⟩
          refine hK.out _ _ (hHeld.trans gw2) (fun _ => ?_)
          replace hHeld := hHeld.trans gw2
          clear hK K
          refine rT 8 23 (.bool true) rfl rfl hHeld ?_
          simp only [pA, pN, sZ, sU]
          refine rT 9 24 (.bool true) rfl rfl hHeld ?_
          simp only [pA, pN, sZ, sU]
          refine rT 10 25 (.pointer (some ⟨w.heap.size, 0, none⟩)) rfl rfl hHeld ?_
          simp only [pA, pN, sZ, sU]
          refine rY 11 26 rfl rfl (take_load_pb (by rfl) _ rfl _ rfl p HB.out.1 (fun _ h => (HPA.out).kept h)) hHeld ?_
          simp only [pA, pN, sZ, sU]
          refine rT 12 27 (.pointer (some ⟨wr.heap.size, 3, none⟩)) rfl rfl hHeld ?_
          simp only [pA, pN, sZ, sU]
          refine rC 13 28 (.int .i64 ↑(hRk k)) rfl rfl (fun _ h => kept_cell h (c3.out)) hHeld ?_
          simp only [pA, pN, sZ, sU]
          refine rT 15 30 (.pointer (some ⟨wr.heap.size, 1, none⟩)) rfl rfl hHeld ?_
          simp only [pA, pN, sZ, sU]
          refine rC 16 31 (.int .i64 (hS k)) rfl rfl (fun _ h => kept_cell h (c1.out)) hHeld ?_
          simp only [pA, pN, sZ, sU]
          refine rR 14 rfl (fun K hK => ?_)
          go_simp
          refine (HM2.out _).mono ?_
          rintro e w3 ⟨rfl, gw3⟩
          refine hK.out _ _ (hHeld.trans gw3) (fun _ => ?_)
          replace hHeld := hHeld.trans gw3
          clear hK K
          refine rR 17 rfl (fun K hK => ?_)
          go_simp
          refine (HMk2.out _).mono ?_
          rintro e w4 ⟨rfl, gw4⟩
          refine hK.out _ _ (hHeld.trans gw4) (fun _ => ?_)
          replace hHeld := hHeld.trans gw4
          clear hK K
          refine rT 18 33 (.bool (x2 == m2)) rfl rfl hHeld ?_
          simp only [pA, pN, sZ, sU]
          refine rT 19 34 (.bool (x2 == m2)) rfl rfl hHeld ?_
          simp only [pA, pN, sZ, sU]
          refine rT 20 4 (.bool (x2 == m2)) rfl rfl hHeld ?_
          simp only [pA, pN, sZ, sU]
          refine wpAnyH_done (by kernel_rfl) ?_ _
          go_wp2
          go_ret
          exact ⟨by rw [HBk.out, hb1]; rfl, HK0.out.trans ((HK.out.alloc _).trans hHeld)⟩
      · have he' : (hR k == r) = false := beq_eq_false_iff_ne.2 he
        have HE := Lib.hid he
        clear he
        go_wp2
        go_roundw
        case rel => exact ⟨k + 1, by omega, by go_num, fun j hj => by rcases Nat.lt_succ_iff_lt_or_eq.1 hj with h | h; exact HNo.out j h; rw [h]; exact HE.out, HK.out.alloc _⟩
        case measure => simp [intOf]; omega
    · have HF := Lib.hid (back_no p.B r (fun j hj => HNo.out j (by omega)))
      go_wp2
      go_ret
      exact ⟨by rw [HF.out]; rfl, HK0.out.trans HK.out⟩
end Go.Proofs.YtkebpchhpidogaaGreatDoor
namespace Go.Proofs.YtkebpchhpidogaaGreatDoor
open Go.RowKit
set_option linter.unusedVariables false
set_option linter.unusedSimpArgs false

/-- The square of the pawn that went two squares; -1: none did. -/
def passI (p : Ps) : Int :=
  if p.t = 0 ∧ 40 ≤ p.e ∧ p.e < 48 ∧ bAt p.B p.e = 0 ∧ bAt p.B (p.e + 8) = 0 ∧ bAt p.B (p.e - 8) = -1 then p.e - 8
  else if p.t = 1 ∧ 16 ≤ p.e ∧ p.e < 24 ∧ bAt p.B p.e = 0 ∧ bAt p.B (p.e - 8) = 0 ∧ bAt p.B (p.e + 8) = 1 then p.e + 8 else -1
def passB (p : Ps) : Bool := decide (0 ≤ passI p)
def passS (p : Ps) : Int := if 0 ≤ passI p then passI p else 0
theorem pass_off {p : Ps} (h : passI p = -1) : passS p = 0 ∧ passB p = false := by unfold passS passB; rw [h]; decide
theorem pass_on {p : Ps} {s : Int} (h : passI p = s) (h0 : 0 ≤ s) : passS p = s ∧ passB p = true := by unfold passS passB; rw [h, if_pos h0]; simpa using h0
def rkI (e : Int) : Int := if 0 ≤ e ∧ e < 64 then e / 8 else -1
theorem rank_any (e : Int) (w : World) : Calls Tryz.prog 41 #[.int .i64 e] w fun x w' => x = .returned (.int .i64 (rkI e)) ∧ Kept w w' := by
  unfold rkI
  by_cases h : 0 ≤ e ∧ e < 64
  · rw [if_pos h]; exact (rank_yes e w h.1 h.2).mono fun _ _ ⟨a, b⟩ => ⟨a, b ▸ Kept.refl _⟩
  · rw [if_neg h]; exact (rank_no e w (by omega)).mono fun _ _ ⟨a, b⟩ => ⟨a, b ▸ Kept.refl _⟩
theorem man_at (B : List Int) (hB : Brd B) (s : Int) (h0 : 0 ≤ s) (h1 : s < 64) (w : World) :
    Calls Tryz.prog 29 #[.agg (cl B).toArray, .int .i64 s] w fun e w' => e = .returned (.int .i64 (bAt B s)) ∧ Kept w w' := by
  have := man_yes B hB s.toNat (by omega) w
  rwa [show ((s.toNat : Nat) : Int) = s by omega] at this
theorem up_is (s : Int) (w : World) (h0 : 0 ≤ s) (h1 : s < 56) : Calls Tryz.prog 71 #[.int .i64 s, .int .i64 0, .int .i64 1] w fun e w' => e = .returned (.tuple #[.int .i64 (s + 8), .bool true]) ∧ w = w' := by
  have := step_yes s 0 1 w h0 (by omega) (by omega) (by omega) (by omega) (by omega)
  rwa [show (s / 8 + 1) * 8 + (s % 8 + 0) = s + 8 by omega] at this
theorem down_is (s : Int) (w : World) (h0 : 8 ≤ s) (h1 : s < 64) : Calls Tryz.prog 71 #[.int .i64 s, .int .i64 0, .int .i64 (-1)] w fun e w' => e = .returned (.tuple #[.int .i64 (s - 8), .bool true]) ∧ w = w' := by
  have := step_yes s 0 (-1) w (by omega) h1 (by omega) (by omega) (by omega) (by omega)
  rwa [show (s / 8 + -1) * 8 + (s % 8 + 0) = s - 8 by omega] at this
theorem passed_none (p : Ps) (hB : Brd p.B) (h0 : p.t ≠ 0) (h1 : p.t ≠ 1) (w : World) :
    Calls Tryz.prog 64 #[.agg (pl p).toArray] w fun e w' => e = .returned (.tuple #[.int .i64 (passS p), .bool (passB p)]) ∧ Kept w w' := by
  have HP := Lib.hid (PAt.new w hB.1)
  have HF := Lib.hid (pass_off (p := p) (by unfold passI; rw [if_neg (fun h => h0 h.1), if_neg (fun h => h1 h.1)]))
  have ct := HP.out.turn
  have ho : otherI p.t = -1 := by unfold otherI; rw [if_neg h0, if_neg h1]
  have HO := Lib.hid (other_any p.t)
  rw [ho] at HO
  clear hB ho h0 h1
  go_enter Tryz.func64, Tryz.ntmps64
  go_wp2_with fail
  refine (HO.out _).mono ?_
  rintro e w1 ⟨rfl, k1⟩
  have HK1 := Lib.hid (((Kept.refl w).alloc _).trans k1)
  clear k1 ct
  go_wp2
  refine wp_region_held_drew (S := Kept _) (by kernel_rfl) (Kept.refl _).drew (fun hHeld => ?_)
  refine rT 0 14 (.int .i64 (-1)) rfl rfl hHeld ?_
  simp only [pA, pN, sZ, sU]
  refine rT 1 15 (.bool true) rfl rfl hHeld ?_
  simp only [pA, pN, sZ, sU]
  refine rT 2 16 (.bool true) rfl rfl hHeld ?_
  simp only [pA, pN, sZ, sU]
  refine rN 3 17 rfl rfl hHeld ?_
  simp only [pA, pN, sZ, sU]
  refine rN 4 18 rfl rfl hHeld ?_
  simp only [pA, pN, sZ, sU]
  refine rN 5 19 rfl rfl hHeld ?_
  simp only [pA, pN, sZ, sU]
  refine rN 6 20 rfl rfl hHeld ?_
  simp only [pA, pN, sZ, sU]
  refine rN 7 21 rfl rfl hHeld ?_
  simp only [pA, pN, sZ, sU]
  refine rN 8 22 rfl rfl hHeld ?_
  simp only [pA, pN, sZ, sU]
  refine rN 9 23 rfl rfl hHeld ?_
  simp only [pA, pN, sZ, sU]
  refine rN 10 24 rfl rfl hHeld ?_
  simp only [pA, pN, sZ, sU]
  refine rN 11 25 rfl rfl hHeld ?_
  simp only [pA, pN, sZ, sU]
  refine rT 12 26 (.bool true) rfl rfl hHeld ?_
  simp only [pA, pN, sZ, sU]
  refine wpAnyH_done (by kernel_rfl) ?_ _
  go_wp2
  go_ret2
  exact ⟨by rw [HF.out.1, HF.out.2]; rfl, HK1.out.trans hHeld⟩
set_option maxRecDepth 100000 in
set_option maxHeartbeats 2000000 in
theorem passed_off_w (p : Ps) (hB : Brd p.B) (ht : p.t = 0) (hr : ¬ (40 ≤ p.e ∧ p.e < 48)) (w : World) (hT : Tabs w) :
    Calls Tryz.prog 64 #[.agg (pl p).toArray] w fun e w' => e = .returned (.tuple #[.int .i64 (passS p), .bool (passB p)]) ∧ Kept w w' := by
  have HF := Lib.hid (pass_off (p := p) (by unfold passI; rw [if_neg (fun h => hr ⟨h.2.1, h.2.2.1⟩), if_neg (fun h => by rw [ht] at h; exact absurd h.1 (by decide))]))
  have hn : (rkI p.e != 5) = true := by rw [bne_iff_ne]; unfold rkI; split <;> omega
  have HP := Lib.hid (PAt.new w hB.1)
  have HB := Lib.hid hB
  have HT := Lib.hid (hT.kept ((Kept.refl w).alloc (.cells (pl p).toArray 26)))
  have ct := HP.out.turn
  rw [ht] at ct
  have HO := Lib.hid (other_any 0)
  have ho : otherI 0 = 1 := rfl
  rw [ho] at HO
  have HRk := Lib.hid (rank_any p.e)
  clear hB hT hr ho
  generalize rkI p.e = re at *
  go_enter Tryz.func64, Tryz.ntmps64
  go_wp2_with fail
  refine (HO.out _).mono ?_
  rintro e w1 ⟨rfl, k1⟩
  have HK1 := Lib.hid (((Kept.refl w).alloc _).trans k1)
  have HPe := Lib.hid (HP.out.kept k1)
  have hct := Lib.hid (kept_cell k1 ct)
  have HT1 := Lib.hid (HT.out.kept k1)
  have hv0 : Hid (w1.cell? ⟨5, 0, none⟩ = some (.int .i64 5)) := HT1.out.views 0 (by omega)
  clear k1 ct
  go_wp2
  refine wp_region_held_drew (S := Kept _) (by kernel_rfl) (Kept.refl _).drew (fun hHeld => ?_)
  refine rT 0 14 (.int .i64 1) rfl rfl hHeld ?_
  simp only [pA, pN, sZ, sU]
  refine rT 1 15 (.bool false) rfl rfl hHeld ?_
  simp only [pA, pN, sZ, sU]
  refine rT 2 16 (.bool false) rfl rfl hHeld ?_
  simp only [pA, pN, sZ, sU]
  refine rT 3 17 (.pointer (some ⟨w.heap.size, 66, none⟩)) rfl rfl hHeld ?_
  simp only [pA, pN, sZ, sU]
  refine rC 4 18 (.int .i64 p.e) rfl rfl (fun _ h => kept_cell h (HPe.out.ep)) hHeld ?_
  simp only [pA, pN, sZ, sU]
  refine rT 6 20 (.pointer (some ⟨w.heap.size, 64, none⟩)) rfl rfl hHeld ?_
  simp only [pA, pN, sZ, sU]
  refine rC 7 21 (.int .i64 0) rfl rfl (fun _ h => kept_cell h (hct.out)) hHeld ?_
  simp only [pA, pN, sZ, sU]
  refine rT 8 22 (.pointer (some ⟨5, 0, none⟩)) rfl rfl hHeld ?_
  simp only [pA, pN, sZ, sU]
  refine rT 9 23 (.pointer (some ⟨5, 0, none⟩)) rfl rfl hHeld ?_
  simp only [pA, pN, sZ, sU]
  refine rC 10 24 (.int .i64 5) rfl rfl (fun _ h => kept_cell h (hv0.out)) hHeld ?_
  simp only [pA, pN, sZ, sU]
  refine rR 5 rfl (fun K hK => ?_)
  go_simp
  refine (HRk.out _).mono ?_
  rintro e w2 ⟨rfl, gw2⟩
  refine hK.out _ _ (hHeld.trans gw2) (fun _ => ?_)
  replace hHeld := hHeld.trans gw2
  clear hK K
  refine rT 11 25 (.bool true) rfl rfl hHeld ?_
  simp only [pA, pN, sZ, sU]
  refine rT 12 26 (.bool true) rfl rfl hHeld ?_
  simp only [pA, pN, sZ, sU]
  refine wpAnyH_done (by kernel_rfl) ?_ _
  go_wp2
  go_ret2
  exact ⟨by rw [HF.out.1, HF.out.2]; rfl, HK1.out.trans hHeld⟩
set_option maxRecDepth 100000 in
set_option maxHeartbeats 2000000 in
theorem passed0_w (p : Ps) (hB : Brd p.B) (ht : p.t = 0) (hlo : 40 ≤ p.e) (hhi : p.e < 48) (e0 : bAt p.B p.e ≠ 0) (w : World) (hT : Tabs w) :
    Calls Tryz.prog 64 #[.agg (pl p).toArray] w fun e w' => e = .returned (.tuple #[.int .i64 (passS p), .bool (passB p)]) ∧ Kept w w' := by
  have HF := Lib.hid (pass_off (p := p) (by unfold passI; rw [if_neg (fun h => e0 h.2.2.2.1), if_neg (fun h => by rw [ht] at h; exact absurd h.1 (by decide))]))
  have b0 : (bAt p.B p.e == 0) = false := beq_eq_false_iff_ne.2 e0
  clear e0
  have hlo' := hlo
  have hn : (rkI p.e != 5) = false := by
    have : rkI p.e = 5 := by unfold rkI; rw [if_pos (by omega)]; omega
    rw [this]; rfl
  have HP := Lib.hid (PAt.new w hB.1)
  have HB := Lib.hid hB
  have HT := Lib.hid (hT.kept ((Kept.refl w).alloc (.cells (pl p).toArray 26)))
  have ct := HP.out.turn
  rw [ht] at ct
  have HO := Lib.hid (other_any 0)
  have ho : otherI 0 = 1 := rfl
  rw [ho] at HO
  have HRk := Lib.hid (rank_any p.e)
  have HM0 := Lib.hid (man_at p.B hB p.e (by omega) (by omega))
  have HM1 := Lib.hid (man_at p.B hB (p.e + 8) (by omega) (by omega))
  have HM2 := Lib.hid (man_at p.B hB (p.e - 8) (by omega) (by omega))
  clear hB hT ho hlo'
  generalize rkI p.e = re at *
  generalize bAt p.B p.e = x0 at *
  generalize bAt p.B (p.e + 8) = x1 at *
  generalize bAt p.B (p.e - 8) = x2 at *
  go_enter Tryz.func64, Tryz.ntmps64
  go_wp2_with fail
  refine (HO.out _).mono ?_
  rintro e w1 ⟨rfl, k1⟩
  have HK1 := Lib.hid (((Kept.refl w).alloc _).trans k1)
  have HPe := Lib.hid (HP.out.kept k1)
  have hct := Lib.hid (kept_cell k1 ct)
  have HT1 := Lib.hid (HT.out.kept k1)
  have hv0 : Hid (w1.cell? ⟨5, 0, none⟩ = some (.int .i64 5)) := HT1.out.views 0 (by omega)
  clear k1 ct
  go_wp2
  refine wp_region_held_drew (S := Kept _) (by kernel_rfl) (Kept.refl _).drew (fun hHeld => ?_)
  refine rT 0 14 (.int .i64 1) rfl rfl hHeld ?_
  simp only [pA, pN, sZ, sU]
  refine rT 1 15 (.bool false) rfl rfl hHeld ?_
  simp only [pA, pN, sZ, sU]
  refine rT 2 16 (.bool false) rfl rfl hHeld ?_
  simp only [pA, pN, sZ, sU]
  refine rT 3 17 (.pointer (some ⟨w.heap.size, 66, none⟩)) rfl rfl hHeld ?_
  simp only [pA, pN, sZ, sU]
  refine rC 4 18 (.int .i64 p.e) rfl rfl (fun _ h => kept_cell h (HPe.out.ep)) hHeld ?_
  simp only [pA, pN, sZ, sU]
  refine rT 6 20 (.pointer (some ⟨w.heap.size, 64, none⟩)) rfl rfl hHeld ?_
  simp only [pA, pN, sZ, sU]
  refine rC 7 21 (.int .i64 0) rfl rfl (fun _ h => kept_cell h (hct.out)) hHeld ?_
  simp only [pA, pN, sZ, sU]
  refine rT 8 22 (.pointer (some ⟨5, 0, none⟩)) rfl rfl hHeld ?_
  simp only [pA, pN, sZ, sU]
  refine rT 9 23 (.pointer (some ⟨5, 0, none⟩)) rfl rfl hHeld ?_
  simp only [pA, pN, sZ, sU]
  refine rC 10 24 (.int .i64 5) rfl rfl (fun _ h => kept_cell h (hv0.out)) hHeld ?_
  simp only [pA, pN, sZ, sU]
  refine rR 5 rfl (fun K hK => ?_)
  go_simp
  refine (HRk.out _).mono ?_
  rintro e w2 ⟨rfl, gw2⟩
  refine hK.out _ _ (hHeld.trans gw2) (fun _ => ?_)
  replace hHeld := hHeld.trans gw2
  clear hK K
  refine rT 11 25 (.bool false) rfl rfl hHeld ?_
  simp only [pA, pN, sZ, sU]
  refine rT 12 26 (.bool false) rfl rfl hHeld ?_
  simp only [pA, pN, sZ, sU]
  refine wpAnyH_done (by kernel_rfl) ?_ _
  have HK2 := Lib.hid (HK1.out.trans hHeld)
  have HP2 := Lib.hid (HPe.out.kept hHeld)
  have hct2 := kept_cell hHeld hct.out
  have hv1 : w2.cell? ⟨5, 1, none⟩ = some (.int .i64 1) := (HT1.out.kept hHeld).views 1 (by omega)
  have ce := HP2.out.ep
  clear hHeld gw2
  go_wp2_with fail
  refine (up_is p.e _ (by omega) (by omega)).mono ?_
  rintro e w' ⟨rfl, rfl⟩
  go_wp2_with fail
  refine (down_is p.e _ (by omega) (by omega)).mono ?_
  rintro e w' ⟨rfl, rfl⟩
  go_wp2_with (first | (refine wpList_load_ps (by rfl) _ rfl _ rfl _ (HP2.out) ?_) | (refine wpList_load_pb (by rfl) _ rfl _ rfl _ (HP2.out) ?_))
  refine (HM0.out _).mono ?_
  rintro e w3 ⟨rfl, k3⟩
  have HK3 := Lib.hid (HK2.out.trans k3)
  have HP3 := Lib.hid (HP2.out.kept k3)
  clear k3 ce hct2 hv1
  go_wp2
  go_ret2
  exact ⟨by rw [HF.out.1, HF.out.2]; rfl, HK3.out⟩
set_option maxRecDepth 100000 in
set_option maxHeartbeats 2000000 in
theorem passed1_w (p : Ps) (hB : Brd p.B) (ht : p.t = 0) (hlo : 40 ≤ p.e) (hhi : p.e < 48) (e0 : bAt p.B p.e = 0) (e1 : bAt p.B (p.e + 8) ≠ 0) (w : World) (hT : Tabs w) :
    Calls Tryz.prog 64 #[.agg (pl p).toArray] w fun e w' => e = .returned (.tuple #[.int .i64 (passS p), .bool (passB p)]) ∧ Kept w w' := by
  have HF := Lib.hid (pass_off (p := p) (by unfold passI; rw [if_neg (fun h => e1 h.2.2.2.2.1), if_neg (fun h => by rw [ht] at h; exact absurd h.1 (by decide))]))
  have b0 : (bAt p.B p.e == 0) = true := beq_iff_eq.2 e0
  have b1 : (bAt p.B (p.e + 8) == 0) = false := beq_eq_false_iff_ne.2 e1
  clear e0 e1
  have hlo' := hlo
  have hn : (rkI p.e != 5) = false := by
    have : rkI p.e = 5 := by unfold rkI; rw [if_pos (by omega)]; omega
    rw [this]; rfl
  have HP := Lib.hid (PAt.new w hB.1)
  have HB := Lib.hid hB
  have HT := Lib.hid (hT.kept ((Kept.refl w).alloc (.cells (pl p).toArray 26)))
  have ct := HP.out.turn
  rw [ht] at ct
  have HO := Lib.hid (other_any 0)
  have ho : otherI 0 = 1 := rfl
  rw [ho] at HO
  have HRk := Lib.hid (rank_any p.e)
  have HM0 := Lib.hid (man_at p.B hB p.e (by omega) (by omega))
  have HM1 := Lib.hid (man_at p.B hB (p.e + 8) (by omega) (by omega))
  have HM2 := Lib.hid (man_at p.B hB (p.e - 8) (by omega) (by omega))
  clear hB hT ho hlo'
  generalize rkI p.e = re at *
  generalize bAt p.B p.e = x0 at *
  generalize bAt p.B (p.e + 8) = x1 at *
  generalize bAt p.B (p.e - 8) = x2 at *
  go_enter Tryz.func64, Tryz.ntmps64
  go_wp2_with fail
  refine (HO.out _).mono ?_
  rintro e w1 ⟨rfl, k1⟩
  have HK1 := Lib.hid (((Kept.refl w).alloc _).trans k1)
  have HPe := Lib.hid (HP.out.kept k1)
  have hct := Lib.hid (kept_cell k1 ct)
  have HT1 := Lib.hid (HT.out.kept k1)
  have hv0 : Hid (w1.cell? ⟨5, 0, none⟩ = some (.int .i64 5)) := HT1.out.views 0 (by omega)
  clear k1 ct
  go_wp2
  refine wp_region_held_drew (S := Kept _) (by kernel_rfl) (Kept.refl _).drew (fun hHeld => ?_)
  refine rT 0 14 (.int .i64 1) rfl rfl hHeld ?_
  simp only [pA, pN, sZ, sU]
  refine rT 1 15 (.bool false) rfl rfl hHeld ?_
  simp only [pA, pN, sZ, sU]
  refine rT 2 16 (.bool false) rfl rfl hHeld ?_
  simp only [pA, pN, sZ, sU]
  refine rT 3 17 (.pointer (some ⟨w.heap.size, 66, none⟩)) rfl rfl hHeld ?_
  simp only [pA, pN, sZ, sU]
  refine rC 4 18 (.int .i64 p.e) rfl rfl (fun _ h => kept_cell h (HPe.out.ep)) hHeld ?_
  simp only [pA, pN, sZ, sU]
  refine rT 6 20 (.pointer (some ⟨w.heap.size, 64, none⟩)) rfl rfl hHeld ?_
  simp only [pA, pN, sZ, sU]
  refine rC 7 21 (.int .i64 0) rfl rfl (fun _ h => kept_cell h (hct.out)) hHeld ?_
  simp only [pA, pN, sZ, sU]
  refine rT 8 22 (.pointer (some ⟨5, 0, none⟩)) rfl rfl hHeld ?_
  simp only [pA, pN, sZ, sU]
  refine rT 9 23 (.pointer (some ⟨5, 0, none⟩)) rfl rfl hHeld ?_
  simp only [pA, pN, sZ, sU]
  refine rC 10 24 (.int .i64 5) rfl rfl (fun _ h => kept_cell h (hv0.out)) hHeld ?_
  simp only [pA, pN, sZ, sU]
  refine rR 5 rfl (fun K hK => ?_)
  go_simp
  refine (HRk.out _).mono ?_
  rintro e w2 ⟨rfl, gw2⟩
  refine hK.out _ _ (hHeld.trans gw2) (fun _ => ?_)
  replace hHeld := hHeld.trans gw2
  clear hK K
  refine rT 11 25 (.bool false) rfl rfl hHeld ?_
  simp only [pA, pN, sZ, sU]
  refine rT 12 26 (.bool false) rfl rfl hHeld ?_
  simp only [pA, pN, sZ, sU]
  refine wpAnyH_done (by kernel_rfl) ?_ _
  have HK2 := Lib.hid (HK1.out.trans hHeld)
  have HP2 := Lib.hid (HPe.out.kept hHeld)
  have hct2 := kept_cell hHeld hct.out
  have hv1 : w2.cell? ⟨5, 1, none⟩ = some (.int .i64 1) := (HT1.out.kept hHeld).views 1 (by omega)
  have ce := HP2.out.ep
  clear hHeld gw2
  go_wp2_with fail
  refine (up_is p.e _ (by omega) (by omega)).mono ?_
  rintro e w' ⟨rfl, rfl⟩
  go_wp2_with fail
  refine (down_is p.e _ (by omega) (by omega)).mono ?_
  rintro e w' ⟨rfl, rfl⟩
  go_wp2_with (first | (refine wpList_load_ps (by rfl) _ rfl _ rfl _ (HP2.out) ?_) | (refine wpList_load_pb (by rfl) _ rfl _ rfl _ (HP2.out) ?_))
  refine (HM0.out _).mono ?_
  rintro e w3 ⟨rfl, k3⟩
  have HK3 := Lib.hid (HK2.out.trans k3)
  have HP3 := Lib.hid (HP2.out.kept k3)
  clear k3 ce hct2 hv1
  go_wp2_with (first | (refine wpList_load_ps (by rfl) _ rfl _ rfl _ (HP3.out) ?_) | (refine wpList_load_pb (by rfl) _ rfl _ rfl _ (HP3.out) ?_))
  refine (HM1.out _).mono ?_
  rintro e w4 ⟨rfl, k4⟩
  have HK4 := Lib.hid (HK3.out.trans k4)
  have HP4 := Lib.hid (HP3.out.kept k4)
  clear k4
  go_wp2
  go_ret2
  exact ⟨by rw [HF.out.1, HF.out.2]; rfl, HK4.out⟩
set_option maxRecDepth 100000 in
set_option maxHeartbeats 2000000 in
theorem passed2_w (p : Ps) (hB : Brd p.B) (ht : p.t = 0) (hlo : 40 ≤ p.e) (hhi : p.e < 48) (e0 : bAt p.B p.e = 0) (e1 : bAt p.B (p.e + 8) = 0) (e2 : bAt p.B (p.e - 8) ≠ (-1)) (w : World) (hT : Tabs w) :
    Calls Tryz.prog 64 #[.agg (pl p).toArray] w fun e w' => e = .returned (.tuple #[.int .i64 (passS p), .bool (passB p)]) ∧ Kept w w' := by
  have HF := Lib.hid (pass_off (p := p) (by unfold passI; rw [if_neg (fun h => e2 h.2.2.2.2.2), if_neg (fun h => by rw [ht] at h; exact absurd h.1 (by decide))]))
  have b0 : (bAt p.B p.e == 0) = true := beq_iff_eq.2 e0
  have b1 : (bAt p.B (p.e + 8) == 0) = true := beq_iff_eq.2 e1
  have b2 : (bAt p.B (p.e - 8) != (-1)) = true := bne_iff_ne.2 e2
  clear e0 e1 e2
  have hlo' := hlo
  have hn : (rkI p.e != 5) = false := by
    have : rkI p.e = 5 := by unfold rkI; rw [if_pos (by omega)]; omega
    rw [this]; rfl
  have HP := Lib.hid (PAt.new w hB.1)
  have HB := Lib.hid hB
  have HT := Lib.hid (hT.kept ((Kept.refl w).alloc (.cells (pl p).toArray 26)))
  have ct := HP.out.turn
  rw [ht] at ct
  have HO := Lib.hid (other_any 0)
  have ho : otherI 0 = 1 := rfl
  rw [ho] at HO
  have HRk := Lib.hid (rank_any p.e)
  have HM0 := Lib.hid (man_at p.B hB p.e (by omega) (by omega))
  have HM1 := Lib.hid (man_at p.B hB (p.e + 8) (by omega) (by omega))
  have HM2 := Lib.hid (man_at p.B hB (p.e - 8) (by omega) (by omega))
  clear hB hT ho hlo'
  generalize rkI p.e = re at *
  generalize bAt p.B p.e = x0 at *
  generalize bAt p.B (p.e + 8) = x1 at *
  generalize bAt p.B (p.e - 8) = x2 at *
  go_enter Tryz.func64, Tryz.ntmps64
  go_wp2_with fail
  refine (HO.out _).mono ?_
  rintro e w1 ⟨rfl, k1⟩
  have HK1 := Lib.hid (((Kept.refl w).alloc _).trans k1)
  have HPe := Lib.hid (HP.out.kept k1)
  have hct := Lib.hid (kept_cell k1 ct)
  have HT1 := Lib.hid (HT.out.kept k1)
  have hv0 : Hid (w1.cell? ⟨5, 0, none⟩ = some (.int .i64 5)) := HT1.out.views 0 (by omega)
  clear k1 ct
  go_wp2
  refine wp_region_held_drew (S := Kept _) (by kernel_rfl) (Kept.refl _).drew (fun hHeld => ?_)
  refine rT 0 14 (.int .i64 1) rfl rfl hHeld ?_
  simp only [pA, pN, sZ, sU]
  refine rT 1 15 (.bool false) rfl rfl hHeld ?_
  simp only [pA, pN, sZ, sU]
  refine rT 2 16 (.bool false) rfl rfl hHeld ?_
  simp only [pA, pN, sZ, sU]
  refine rT 3 17 (.pointer (some ⟨w.heap.size, 66, none⟩)) rfl rfl hHeld ?_
  simp only [pA, pN, sZ, sU]
  refine rC 4 18 (.int .i64 p.e) rfl rfl (fun _ h => kept_cell h (HPe.out.ep)) hHeld ?_
  simp only [pA, pN, sZ, sU]
  refine rT 6 20 (.pointer (some ⟨w.heap.size, 64, none⟩)) rfl rfl hHeld ?_
  simp only [pA, pN, sZ, sU]
  refine rC 7 21 (.int .i64 0) rfl rfl (fun _ h => kept_cell h (hct.out)) hHeld ?_
  simp only [pA, pN, sZ, sU]
  refine rT 8 22 (.pointer (some ⟨5, 0, none⟩)) rfl rfl hHeld ?_
  simp only [pA, pN, sZ, sU]
  refine rT 9 23 (.pointer (some ⟨5, 0, none⟩)) rfl rfl hHeld ?_
  simp only [pA, pN, sZ, sU]
  refine rC 10 24 (.int .i64 5) rfl rfl (fun _ h => kept_cell h (hv0.out)) hHeld ?_
  simp only [pA, pN, sZ, sU]
  refine rR 5 rfl (fun K hK => ?_)
  go_simp
  refine (HRk.out _).mono ?_
  rintro e w2 ⟨rfl, gw2⟩
  refine hK.out _ _ (hHeld.trans gw2) (fun _ => ?_)
  replace hHeld := hHeld.trans gw2
  clear hK K
  refine rT 11 25 (.bool false) rfl rfl hHeld ?_
  simp only [pA, pN, sZ, sU]
  refine rT 12 26 (.bool false) rfl rfl hHeld ?_
  simp only [pA, pN, sZ, sU]
  refine wpAnyH_done (by kernel_rfl) ?_ _
  have HK2 := Lib.hid (HK1.out.trans hHeld)
  have HP2 := Lib.hid (HPe.out.kept hHeld)
  have hct2 := kept_cell hHeld hct.out
  have hv1 : w2.cell? ⟨5, 1, none⟩ = some (.int .i64 1) := (HT1.out.kept hHeld).views 1 (by omega)
  have ce := HP2.out.ep
  clear hHeld gw2
  go_wp2_with fail
  refine (up_is p.e _ (by omega) (by omega)).mono ?_
  rintro e w' ⟨rfl, rfl⟩
  go_wp2_with fail
  refine (down_is p.e _ (by omega) (by omega)).mono ?_
  rintro e w' ⟨rfl, rfl⟩
  go_wp2_with (first | (refine wpList_load_ps (by rfl) _ rfl _ rfl _ (HP2.out) ?_) | (refine wpList_load_pb (by rfl) _ rfl _ rfl _ (HP2.out) ?_))
  refine (HM0.out _).mono ?_
  rintro e w3 ⟨rfl, k3⟩
  have HK3 := Lib.hid (HK2.out.trans k3)
  have HP3 := Lib.hid (HP2.out.kept k3)
  clear k3 ce hct2 hv1
  go_wp2_with (first | (refine wpList_load_ps (by rfl) _ rfl _ rfl _ (HP3.out) ?_) | (refine wpList_load_pb (by rfl) _ rfl _ rfl _ (HP3.out) ?_))
  refine (HM1.out _).mono ?_
  rintro e w4 ⟨rfl, k4⟩
  have HK4 := Lib.hid (HK3.out.trans k4)
  have HP4 := Lib.hid (HP3.out.kept k4)
  clear k4
  go_wp2_with (first | (refine wpList_load_ps (by rfl) _ rfl _ rfl _ (HP4.out) ?_) | (refine wpList_load_pb (by rfl) _ rfl _ rfl _ (HP4.out) ?_))
  refine (HM2.out _).mono ?_
  rintro e w5 ⟨rfl, k5⟩
  have HK5 := Lib.hid (HK4.out.trans k5)
  clear k5
  go_wp2_with fail
  refine (mmake_is 1 1 _ (by omega) (by omega) (by omega)).mono ?_
  rintro e w6 ⟨rfl, k6⟩
  rw [show mkI 1 1 = (-1) from rfl]
  have HK6 := Lib.hid (HK5.out.trans k6)
  clear k6
  go_wp2
  go_ret2
  exact ⟨by rw [HF.out.1, HF.out.2]; rfl, HK6.out⟩
set_option maxRecDepth 100000 in
set_option maxHeartbeats 2000000 in
theorem passed3_w (p : Ps) (hB : Brd p.B) (ht : p.t = 0) (hlo : 40 ≤ p.e) (hhi : p.e < 48) (e0 : bAt p.B p.e = 0) (e1 : bAt p.B (p.e + 8) = 0) (e2 : bAt p.B (p.e - 8) = (-1)) (w : World) (hT : Tabs w) :
    Calls Tryz.prog 64 #[.agg (pl p).toArray] w fun e w' => e = .returned (.tuple #[.int .i64 (passS p), .bool (passB p)]) ∧ Kept w w' := by
  have HF := Lib.hid (pass_on (p := p) (by unfold passI; rw [if_pos ⟨ht, hlo, hhi, e0, e1, e2⟩]) (by omega))
  have b0 : (bAt p.B p.e == 0) = true := beq_iff_eq.2 e0
  have b1 : (bAt p.B (p.e + 8) == 0) = true := beq_iff_eq.2 e1
  have b2 : (bAt p.B (p.e - 8) != (-1)) = false := by rw [e2]; rfl
  clear e0 e1 e2
  have hlo' := hlo
  have hn : (rkI p.e != 5) = false := by
    have : rkI p.e = 5 := by unfold rkI; rw [if_pos (by omega)]; omega
    rw [this]; rfl
  have HP := Lib.hid (PAt.new w hB.1)
  have HB := Lib.hid hB
  have HT := Lib.hid (hT.kept ((Kept.refl w).alloc (.cells (pl p).toArray 26)))
  have ct := HP.out.turn
  rw [ht] at ct
  have HO := Lib.hid (other_any 0)
  have ho : otherI 0 = 1 := rfl
  rw [ho] at HO
  have HRk := Lib.hid (rank_any p.e)
  have HM0 := Lib.hid (man_at p.B hB p.e (by omega) (by omega))
  have HM1 := Lib.hid (man_at p.B hB (p.e + 8) (by omega) (by omega))
  have HM2 := Lib.hid (man_at p.B hB (p.e - 8) (by omega) (by omega))
  clear hB hT ho hlo'
  generalize rkI p.e = re at *
  generalize bAt p.B p.e = x0 at *
  generalize bAt p.B (p.e + 8) = x1 at *
  generalize bAt p.B (p.e - 8) = x2 at *
  go_enter Tryz.func64, Tryz.ntmps64
  go_wp2_with fail
  refine (HO.out _).mono ?_
  rintro e w1 ⟨rfl, k1⟩
  have HK1 := Lib.hid (((Kept.refl w).alloc _).trans k1)
  have HPe := Lib.hid (HP.out.kept k1)
  have hct := Lib.hid (kept_cell k1 ct)
  have HT1 := Lib.hid (HT.out.kept k1)
  have hv0 : Hid (w1.cell? ⟨5, 0, none⟩ = some (.int .i64 5)) := HT1.out.views 0 (by omega)
  clear k1 ct
  go_wp2
  refine wp_region_held_drew (S := Kept _) (by kernel_rfl) (Kept.refl _).drew (fun hHeld => ?_)
  refine rT 0 14 (.int .i64 1) rfl rfl hHeld ?_
  simp only [pA, pN, sZ, sU]
  refine rT 1 15 (.bool false) rfl rfl hHeld ?_
  simp only [pA, pN, sZ, sU]
  refine rT 2 16 (.bool false) rfl rfl hHeld ?_
  simp only [pA, pN, sZ, sU]
  refine rT 3 17 (.pointer (some ⟨w.heap.size, 66, none⟩)) rfl rfl hHeld ?_
  simp only [pA, pN, sZ, sU]
  refine rC 4 18 (.int .i64 p.e) rfl rfl (fun _ h => kept_cell h (HPe.out.ep)) hHeld ?_
  simp only [pA, pN, sZ, sU]
  refine rT 6 20 (.pointer (some ⟨w.heap.size, 64, none⟩)) rfl rfl hHeld ?_
  simp only [pA, pN, sZ, sU]
  refine rC 7 21 (.int .i64 0) rfl rfl (fun _ h => kept_cell h (hct.out)) hHeld ?_
  simp only [pA, pN, sZ, sU]
  refine rT 8 22 (.pointer (some ⟨5, 0, none⟩)) rfl rfl hHeld ?_
  simp only [pA, pN, sZ, sU]
  refine rT 9 23 (.pointer (some ⟨5, 0, none⟩)) rfl rfl hHeld ?_
  simp only [pA, pN, sZ, sU]
  refine rC 10 24 (.int .i64 5) rfl rfl (fun _ h => kept_cell h (hv0.out)) hHeld ?_
  simp only [pA, pN, sZ, sU]
  refine rR 5 rfl (fun K hK => ?_)
  go_simp
  refine (HRk.out _).mono ?_
  rintro e w2 ⟨rfl, gw2⟩
  refine hK.out _ _ (hHeld.trans gw2) (fun _ => ?_)
  replace hHeld := hHeld.trans gw2
  clear hK K
  refine rT 11 25 (.bool false) rfl rfl hHeld ?_
  simp only [pA, pN, sZ, sU]
  refine rT 12 26 (.bool false) rfl rfl hHeld ?_
  simp only [pA, pN, sZ, sU]
  refine wpAnyH_done (by kernel_rfl) ?_ _
  have HK2 := Lib.hid (HK1.out.trans hHeld)
  have HP2 := Lib.hid (HPe.out.kept hHeld)
  have hct2 := kept_cell hHeld hct.out
  have hv1 : w2.cell? ⟨5, 1, none⟩ = some (.int .i64 1) := (HT1.out.kept hHeld).views 1 (by omega)
  have ce := HP2.out.ep
  clear hHeld gw2
  go_wp2_with fail
  refine (up_is p.e _ (by omega) (by omega)).mono ?_
  rintro e w' ⟨rfl, rfl⟩
  go_wp2_with fail
  refine (down_is p.e _ (by omega) (by omega)).mono ?_
  rintro e w' ⟨rfl, rfl⟩
  go_wp2_with (first | (refine wpList_load_ps (by rfl) _ rfl _ rfl _ (HP2.out) ?_) | (refine wpList_load_pb (by rfl) _ rfl _ rfl _ (HP2.out) ?_))
  refine (HM0.out _).mono ?_
  rintro e w3 ⟨rfl, k3⟩
  have HK3 := Lib.hid (HK2.out.trans k3)
  have HP3 := Lib.hid (HP2.out.kept k3)
  clear k3 ce hct2 hv1
  go_wp2_with (first | (refine wpList_load_ps (by rfl) _ rfl _ rfl _ (HP3.out) ?_) | (refine wpList_load_pb (by rfl) _ rfl _ rfl _ (HP3.out) ?_))
  refine (HM1.out _).mono ?_
  rintro e w4 ⟨rfl, k4⟩
  have HK4 := Lib.hid (HK3.out.trans k4)
  have HP4 := Lib.hid (HP3.out.kept k4)
  clear k4
  go_wp2_with (first | (refine wpList_load_ps (by rfl) _ rfl _ rfl _ (HP4.out) ?_) | (refine wpList_load_pb (by rfl) _ rfl _ rfl _ (HP4.out) ?_))
  refine (HM2.out _).mono ?_
  rintro e w5 ⟨rfl, k5⟩
  have HK5 := Lib.hid (HK4.out.trans k5)
  clear k5
  go_wp2_with fail
  refine (mmake_is 1 1 _ (by omega) (by omega) (by omega)).mono ?_
  rintro e w6 ⟨rfl, k6⟩
  rw [show mkI 1 1 = (-1) from rfl]
  have HK6 := Lib.hid (HK5.out.trans k6)
  clear k6
  go_wp2
  go_ret2
  exact ⟨by rw [HF.out.1, HF.out.2]; rfl, HK6.out⟩
set_option maxRecDepth 100000 in
set_option maxHeartbeats 2000000 in
theorem passed_off_b (p : Ps) (hB : Brd p.B) (ht : p.t = 1) (hr : ¬ (16 ≤ p.e ∧ p.e < 24)) (w : World) (hT : Tabs w) :
    Calls Tryz.prog 64 #[.agg (pl p).toArray] w fun e w' => e = .returned (.tuple #[.int .i64 (passS p), .bool (passB p)]) ∧ Kept w w' := by
  have HF := Lib.hid (pass_off (p := p) (by unfold passI; rw [if_neg (fun h => by rw [ht] at h; exact absurd h.1 (by decide)), if_neg (fun h => hr ⟨h.2.1, h.2.2.1⟩)]))
  have hn : (rkI p.e != 2) = true := by rw [bne_iff_ne]; unfold rkI; split <;> omega
  have HP := Lib.hid (PAt.new w hB.1)
  have HB := Lib.hid hB
  have HT := Lib.hid (hT.kept ((Kept.refl w).alloc (.cells (pl p).toArray 26)))
  have ct := HP.out.turn
  rw [ht] at ct
  have HO := Lib.hid (other_any 1)
  have ho : otherI 1 = 0 := rfl
  rw [ho] at HO
  have HRk := Lib.hid (rank_any p.e)
  clear hB hT hr ho
  generalize rkI p.e = re at *
  go_enter Tryz.func64, Tryz.ntmps64
  go_wp2_with fail
  refine (HO.out _).mono ?_
  rintro e w1 ⟨rfl, k1⟩
  have HK1 := Lib.hid (((Kept.refl w).alloc _).trans k1)
  have HPe := Lib.hid (HP.out.kept k1)
  have hct := Lib.hid (kept_cell k1 ct)
  have HT1 := Lib.hid (HT.out.kept k1)
  have hv0 : Hid (w1.cell? ⟨5, 2, none⟩ = some (.int .i64 2)) := HT1.out.views 2 (by omega)
  clear k1 ct
  go_wp2
  refine wp_region_held_drew (S := Kept _) (by kernel_rfl) (Kept.refl _).drew (fun hHeld => ?_)
  refine rT 0 14 (.int .i64 0) rfl rfl hHeld ?_
  simp only [pA, pN, sZ, sU]
  refine rT 1 15 (.bool false) rfl rfl hHeld ?_
  simp only [pA, pN, sZ, sU]
  refine rT 2 16 (.bool false) rfl rfl hHeld ?_
  simp only [pA, pN, sZ, sU]
  refine rT 3 17 (.pointer (some ⟨w.heap.size, 66, none⟩)) rfl rfl hHeld ?_
  simp only [pA, pN, sZ, sU]
  refine rC 4 18 (.int .i64 p.e) rfl rfl (fun _ h => kept_cell h (HPe.out.ep)) hHeld ?_
  simp only [pA, pN, sZ, sU]
  refine rT 6 20 (.pointer (some ⟨w.heap.size, 64, none⟩)) rfl rfl hHeld ?_
  simp only [pA, pN, sZ, sU]
  refine rC 7 21 (.int .i64 1) rfl rfl (fun _ h => kept_cell h (hct.out)) hHeld ?_
  simp only [pA, pN, sZ, sU]
  refine rT 8 22 (.pointer (some ⟨5, 2, none⟩)) rfl rfl hHeld ?_
  simp only [pA, pN, sZ, sU]
  refine rT 9 23 (.pointer (some ⟨5, 2, none⟩)) rfl rfl hHeld ?_
  simp only [pA, pN, sZ, sU]
  refine rC 10 24 (.int .i64 2) rfl rfl (fun _ h => kept_cell h (hv0.out)) hHeld ?_
  simp only [pA, pN, sZ, sU]
  refine rR 5 rfl (fun K hK => ?_)
  go_simp
  refine (HRk.out _).mono ?_
  rintro e w2 ⟨rfl, gw2⟩
  refine hK.out _ _ (hHeld.trans gw2) (fun _ => ?_)
  replace hHeld := hHeld.trans gw2
  clear hK K
  refine rT 11 25 (.bool true) rfl rfl hHeld ?_
  simp only [pA, pN, sZ, sU]
  refine rT 12 26 (.bool true) rfl rfl hHeld ?_
  simp only [pA, pN, sZ, sU]
  refine wpAnyH_done (by kernel_rfl) ?_ _
  go_wp2
  go_ret2
  exact ⟨by rw [HF.out.1, HF.out.2]; rfl, HK1.out.trans hHeld⟩
set_option maxRecDepth 100000 in
set_option maxHeartbeats 2000000 in
theorem passed0_b (p : Ps) (hB : Brd p.B) (ht : p.t = 1) (hlo : 16 ≤ p.e) (hhi : p.e < 24) (e0 : bAt p.B p.e ≠ 0) (w : World) (hT : Tabs w) :
    Calls Tryz.prog 64 #[.agg (pl p).toArray] w fun e w' => e = .returned (.tuple #[.int .i64 (passS p), .bool (passB p)]) ∧ Kept w w' := by
  have HF := Lib.hid (pass_off (p := p) (by unfold passI; rw [if_neg (fun h => by rw [ht] at h; exact absurd h.1 (by decide)), if_neg (fun h => e0 h.2.2.2.1)]))
  have b0 : (bAt p.B p.e == 0) = false := beq_eq_false_iff_ne.2 e0
  clear e0
  have hlo' := hlo
  have hn : (rkI p.e != 2) = false := by
    have : rkI p.e = 2 := by unfold rkI; rw [if_pos (by omega)]; omega
    rw [this]; rfl
  have HP := Lib.hid (PAt.new w hB.1)
  have HB := Lib.hid hB
  have HT := Lib.hid (hT.kept ((Kept.refl w).alloc (.cells (pl p).toArray 26)))
  have ct := HP.out.turn
  rw [ht] at ct
  have HO := Lib.hid (other_any 1)
  have ho : otherI 1 = 0 := rfl
  rw [ho] at HO
  have HRk := Lib.hid (rank_any p.e)
  have HM0 := Lib.hid (man_at p.B hB p.e (by omega) (by omega))
  have HM1 := Lib.hid (man_at p.B hB (p.e - 8) (by omega) (by omega))
  have HM2 := Lib.hid (man_at p.B hB (p.e + 8) (by omega) (by omega))
  clear hB hT ho hlo'
  generalize rkI p.e = re at *
  generalize bAt p.B p.e = x0 at *
  generalize bAt p.B (p.e - 8) = x1 at *
  generalize bAt p.B (p.e + 8) = x2 at *
  go_enter Tryz.func64, Tryz.ntmps64
  go_wp2_with fail
  refine (HO.out _).mono ?_
  rintro e w1 ⟨rfl, k1⟩
  have HK1 := Lib.hid (((Kept.refl w).alloc _).trans k1)
  have HPe := Lib.hid (HP.out.kept k1)
  have hct := Lib.hid (kept_cell k1 ct)
  have HT1 := Lib.hid (HT.out.kept k1)
  have hv0 : Hid (w1.cell? ⟨5, 2, none⟩ = some (.int .i64 2)) := HT1.out.views 2 (by omega)
  clear k1 ct
  go_wp2
  refine wp_region_held_drew (S := Kept _) (by kernel_rfl) (Kept.refl _).drew (fun hHeld => ?_)
  refine rT 0 14 (.int .i64 0) rfl rfl hHeld ?_
  simp only [pA, pN, sZ, sU]
  refine rT 1 15 (.bool false) rfl rfl hHeld ?_
  simp only [pA, pN, sZ, sU]
  refine rT 2 16 (.bool false) rfl rfl hHeld ?_
  simp only [pA, pN, sZ, sU]
  refine rT 3 17 (.pointer (some ⟨w.heap.size, 66, none⟩)) rfl rfl hHeld ?_
  simp only [pA, pN, sZ, sU]
  refine rC 4 18 (.int .i64 p.e) rfl rfl (fun _ h => kept_cell h (HPe.out.ep)) hHeld ?_
  simp only [pA, pN, sZ, sU]
  refine rT 6 20 (.pointer (some ⟨w.heap.size, 64, none⟩)) rfl rfl hHeld ?_
  simp only [pA, pN, sZ, sU]
  refine rC 7 21 (.int .i64 1) rfl rfl (fun _ h => kept_cell h (hct.out)) hHeld ?_
  simp only [pA, pN, sZ, sU]
  refine rT 8 22 (.pointer (some ⟨5, 2, none⟩)) rfl rfl hHeld ?_
  simp only [pA, pN, sZ, sU]
  refine rT 9 23 (.pointer (some ⟨5, 2, none⟩)) rfl rfl hHeld ?_
  simp only [pA, pN, sZ, sU]
  refine rC 10 24 (.int .i64 2) rfl rfl (fun _ h => kept_cell h (hv0.out)) hHeld ?_
  simp only [pA, pN, sZ, sU]
  refine rR 5 rfl (fun K hK => ?_)
  go_simp
  refine (HRk.out _).mono ?_
  rintro e w2 ⟨rfl, gw2⟩
  refine hK.out _ _ (hHeld.trans gw2) (fun _ => ?_)
  replace hHeld := hHeld.trans gw2
  clear hK K
  refine rT 11 25 (.bool false) rfl rfl hHeld ?_
  simp only [pA, pN, sZ, sU]
  refine rT 12 26 (.bool false) rfl rfl hHeld ?_
  simp only [pA, pN, sZ, sU]
  refine wpAnyH_done (by kernel_rfl) ?_ _
  have HK2 := Lib.hid (HK1.out.trans hHeld)
  have HP2 := Lib.hid (HPe.out.kept hHeld)
  have hct2 := kept_cell hHeld hct.out
  have hv1 : w2.cell? ⟨5, 3, none⟩ = some (.int .i64 (-1)) := (HT1.out.kept hHeld).views 3 (by omega)
  have ce := HP2.out.ep
  clear hHeld gw2
  go_wp2_with fail
  refine (down_is p.e _ (by omega) (by omega)).mono ?_
  rintro e w' ⟨rfl, rfl⟩
  go_wp2_with fail
  refine (up_is p.e _ (by omega) (by omega)).mono ?_
  rintro e w' ⟨rfl, rfl⟩
  go_wp2_with (first | (refine wpList_load_ps (by rfl) _ rfl _ rfl _ (HP2.out) ?_) | (refine wpList_load_pb (by rfl) _ rfl _ rfl _ (HP2.out) ?_))
  refine (HM0.out _).mono ?_
  rintro e w3 ⟨rfl, k3⟩
  have HK3 := Lib.hid (HK2.out.trans k3)
  have HP3 := Lib.hid (HP2.out.kept k3)
  clear k3 ce hct2 hv1
  go_wp2
  go_ret2
  exact ⟨by rw [HF.out.1, HF.out.2]; rfl, HK3.out⟩
set_option maxRecDepth 100000 in
set_option maxHeartbeats 2000000 in
theorem passed1_b (p : Ps) (hB : Brd p.B) (ht : p.t = 1) (hlo : 16 ≤ p.e) (hhi : p.e < 24) (e0 : bAt p.B p.e = 0) (e1 : bAt p.B (p.e - 8) ≠ 0) (w : World) (hT : Tabs w) :
    Calls Tryz.prog 64 #[.agg (pl p).toArray] w fun e w' => e = .returned (.tuple #[.int .i64 (passS p), .bool (passB p)]) ∧ Kept w w' := by
  have HF := Lib.hid (pass_off (p := p) (by unfold passI; rw [if_neg (fun h => by rw [ht] at h; exact absurd h.1 (by decide)), if_neg (fun h => e1 h.2.2.2.2.1)]))
  have b0 : (bAt p.B p.e == 0) = true := beq_iff_eq.2 e0
  have b1 : (bAt p.B (p.e - 8) == 0) = false := beq_eq_false_iff_ne.2 e1
  clear e0 e1
  have hlo' := hlo
  have hn : (rkI p.e != 2) = false := by
    have : rkI p.e = 2 := by unfold rkI; rw [if_pos (by omega)]; omega
    rw [this]; rfl
  have HP := Lib.hid (PAt.new w hB.1)
  have HB := Lib.hid hB
  have HT := Lib.hid (hT.kept ((Kept.refl w).alloc (.cells (pl p).toArray 26)))
  have ct := HP.out.turn
  rw [ht] at ct
  have HO := Lib.hid (other_any 1)
  have ho : otherI 1 = 0 := rfl
  rw [ho] at HO
  have HRk := Lib.hid (rank_any p.e)
  have HM0 := Lib.hid (man_at p.B hB p.e (by omega) (by omega))
  have HM1 := Lib.hid (man_at p.B hB (p.e - 8) (by omega) (by omega))
  have HM2 := Lib.hid (man_at p.B hB (p.e + 8) (by omega) (by omega))
  clear hB hT ho hlo'
  generalize rkI p.e = re at *
  generalize bAt p.B p.e = x0 at *
  generalize bAt p.B (p.e - 8) = x1 at *
  generalize bAt p.B (p.e + 8) = x2 at *
  go_enter Tryz.func64, Tryz.ntmps64
  go_wp2_with fail
  refine (HO.out _).mono ?_
  rintro e w1 ⟨rfl, k1⟩
  have HK1 := Lib.hid (((Kept.refl w).alloc _).trans k1)
  have HPe := Lib.hid (HP.out.kept k1)
  have hct := Lib.hid (kept_cell k1 ct)
  have HT1 := Lib.hid (HT.out.kept k1)
  have hv0 : Hid (w1.cell? ⟨5, 2, none⟩ = some (.int .i64 2)) := HT1.out.views 2 (by omega)
  clear k1 ct
  go_wp2
  refine wp_region_held_drew (S := Kept _) (by kernel_rfl) (Kept.refl _).drew (fun hHeld => ?_)
  refine rT 0 14 (.int .i64 0) rfl rfl hHeld ?_
  simp only [pA, pN, sZ, sU]
  refine rT 1 15 (.bool false) rfl rfl hHeld ?_
  simp only [pA, pN, sZ, sU]
  refine rT 2 16 (.bool false) rfl rfl hHeld ?_
  simp only [pA, pN, sZ, sU]
  refine rT 3 17 (.pointer (some ⟨w.heap.size, 66, none⟩)) rfl rfl hHeld ?_
  simp only [pA, pN, sZ, sU]
  refine rC 4 18 (.int .i64 p.e) rfl rfl (fun _ h => kept_cell h (HPe.out.ep)) hHeld ?_
  simp only [pA, pN, sZ, sU]
  refine rT 6 20 (.pointer (some ⟨w.heap.size, 64, none⟩)) rfl rfl hHeld ?_
  simp only [pA, pN, sZ, sU]
  refine rC 7 21 (.int .i64 1) rfl rfl (fun _ h => kept_cell h (hct.out)) hHeld ?_
  simp only [pA, pN, sZ, sU]
  refine rT 8 22 (.pointer (some ⟨5, 2, none⟩)) rfl rfl hHeld ?_
  simp only [pA, pN, sZ, sU]
  refine rT 9 23 (.pointer (some ⟨5, 2, none⟩)) rfl rfl hHeld ?_
  simp only [pA, pN, sZ, sU]
  refine rC 10 24 (.int .i64 2) rfl rfl (fun _ h => kept_cell h (hv0.out)) hHeld ?_
  simp only [pA, pN, sZ, sU]
  refine rR 5 rfl (fun K hK => ?_)
  go_simp
  refine (HRk.out _).mono ?_
  rintro e w2 ⟨rfl, gw2⟩
  refine hK.out _ _ (hHeld.trans gw2) (fun _ => ?_)
  replace hHeld := hHeld.trans gw2
  clear hK K
  refine rT 11 25 (.bool false) rfl rfl hHeld ?_
  simp only [pA, pN, sZ, sU]
  refine rT 12 26 (.bool false) rfl rfl hHeld ?_
  simp only [pA, pN, sZ, sU]
  refine wpAnyH_done (by kernel_rfl) ?_ _
  have HK2 := Lib.hid (HK1.out.trans hHeld)
  have HP2 := Lib.hid (HPe.out.kept hHeld)
  have hct2 := kept_cell hHeld hct.out
  have hv1 : w2.cell? ⟨5, 3, none⟩ = some (.int .i64 (-1)) := (HT1.out.kept hHeld).views 3 (by omega)
  have ce := HP2.out.ep
  clear hHeld gw2
  go_wp2_with fail
  refine (down_is p.e _ (by omega) (by omega)).mono ?_
  rintro e w' ⟨rfl, rfl⟩
  go_wp2_with fail
  refine (up_is p.e _ (by omega) (by omega)).mono ?_
  rintro e w' ⟨rfl, rfl⟩
  go_wp2_with (first | (refine wpList_load_ps (by rfl) _ rfl _ rfl _ (HP2.out) ?_) | (refine wpList_load_pb (by rfl) _ rfl _ rfl _ (HP2.out) ?_))
  refine (HM0.out _).mono ?_
  rintro e w3 ⟨rfl, k3⟩
  have HK3 := Lib.hid (HK2.out.trans k3)
  have HP3 := Lib.hid (HP2.out.kept k3)
  clear k3 ce hct2 hv1
  go_wp2_with (first | (refine wpList_load_ps (by rfl) _ rfl _ rfl _ (HP3.out) ?_) | (refine wpList_load_pb (by rfl) _ rfl _ rfl _ (HP3.out) ?_))
  refine (HM1.out _).mono ?_
  rintro e w4 ⟨rfl, k4⟩
  have HK4 := Lib.hid (HK3.out.trans k4)
  have HP4 := Lib.hid (HP3.out.kept k4)
  clear k4
  go_wp2
  go_ret2
  exact ⟨by rw [HF.out.1, HF.out.2]; rfl, HK4.out⟩
set_option maxRecDepth 100000 in
set_option maxHeartbeats 2000000 in
theorem passed2_b (p : Ps) (hB : Brd p.B) (ht : p.t = 1) (hlo : 16 ≤ p.e) (hhi : p.e < 24) (e0 : bAt p.B p.e = 0) (e1 : bAt p.B (p.e - 8) = 0) (e2 : bAt p.B (p.e + 8) ≠ 1) (w : World) (hT : Tabs w) :
    Calls Tryz.prog 64 #[.agg (pl p).toArray] w fun e w' => e = .returned (.tuple #[.int .i64 (passS p), .bool (passB p)]) ∧ Kept w w' := by
  have HF := Lib.hid (pass_off (p := p) (by unfold passI; rw [if_neg (fun h => by rw [ht] at h; exact absurd h.1 (by decide)), if_neg (fun h => e2 h.2.2.2.2.2)]))
  have b0 : (bAt p.B p.e == 0) = true := beq_iff_eq.2 e0
  have b1 : (bAt p.B (p.e - 8) == 0) = true := beq_iff_eq.2 e1
  have b2 : (bAt p.B (p.e + 8) != 1) = true := bne_iff_ne.2 e2
  clear e0 e1 e2
  have hlo' := hlo
  have hn : (rkI p.e != 2) = false := by
    have : rkI p.e = 2 := by unfold rkI; rw [if_pos (by omega)]; omega
    rw [this]; rfl
  have HP := Lib.hid (PAt.new w hB.1)
  have HB := Lib.hid hB
  have HT := Lib.hid (hT.kept ((Kept.refl w).alloc (.cells (pl p).toArray 26)))
  have ct := HP.out.turn
  rw [ht] at ct
  have HO := Lib.hid (other_any 1)
  have ho : otherI 1 = 0 := rfl
  rw [ho] at HO
  have HRk := Lib.hid (rank_any p.e)
  have HM0 := Lib.hid (man_at p.B hB p.e (by omega) (by omega))
  have HM1 := Lib.hid (man_at p.B hB (p.e - 8) (by omega) (by omega))
  have HM2 := Lib.hid (man_at p.B hB (p.e + 8) (by omega) (by omega))
  clear hB hT ho hlo'
  generalize rkI p.e = re at *
  generalize bAt p.B p.e = x0 at *
  generalize bAt p.B (p.e - 8) = x1 at *
  generalize bAt p.B (p.e + 8) = x2 at *
  go_enter Tryz.func64, Tryz.ntmps64
  go_wp2_with fail
  refine (HO.out _).mono ?_
  rintro e w1 ⟨rfl, k1⟩
  have HK1 := Lib.hid (((Kept.refl w).alloc _).trans k1)
  have HPe := Lib.hid (HP.out.kept k1)
  have hct := Lib.hid (kept_cell k1 ct)
  have HT1 := Lib.hid (HT.out.kept k1)
  have hv0 : Hid (w1.cell? ⟨5, 2, none⟩ = some (.int .i64 2)) := HT1.out.views 2 (by omega)
  clear k1 ct
  go_wp2
  refine wp_region_held_drew (S := Kept _) (by kernel_rfl) (Kept.refl _).drew (fun hHeld => ?_)
  refine rT 0 14 (.int .i64 0) rfl rfl hHeld ?_
  simp only [pA, pN, sZ, sU]
  refine rT 1 15 (.bool false) rfl rfl hHeld ?_
  simp only [pA, pN, sZ, sU]
  refine rT 2 16 (.bool false) rfl rfl hHeld ?_
  simp only [pA, pN, sZ, sU]
  refine rT 3 17 (.pointer (some ⟨w.heap.size, 66, none⟩)) rfl rfl hHeld ?_
  simp only [pA, pN, sZ, sU]
  refine rC 4 18 (.int .i64 p.e) rfl rfl (fun _ h => kept_cell h (HPe.out.ep)) hHeld ?_
  simp only [pA, pN, sZ, sU]
  refine rT 6 20 (.pointer (some ⟨w.heap.size, 64, none⟩)) rfl rfl hHeld ?_
  simp only [pA, pN, sZ, sU]
  refine rC 7 21 (.int .i64 1) rfl rfl (fun _ h => kept_cell h (hct.out)) hHeld ?_
  simp only [pA, pN, sZ, sU]
  refine rT 8 22 (.pointer (some ⟨5, 2, none⟩)) rfl rfl hHeld ?_
  simp only [pA, pN, sZ, sU]
  refine rT 9 23 (.pointer (some ⟨5, 2, none⟩)) rfl rfl hHeld ?_
  simp only [pA, pN, sZ, sU]
  refine rC 10 24 (.int .i64 2) rfl rfl (fun _ h => kept_cell h (hv0.out)) hHeld ?_
  simp only [pA, pN, sZ, sU]
  refine rR 5 rfl (fun K hK => ?_)
  go_simp
  refine (HRk.out _).mono ?_
  rintro e w2 ⟨rfl, gw2⟩
  refine hK.out _ _ (hHeld.trans gw2) (fun _ => ?_)
  replace hHeld := hHeld.trans gw2
  clear hK K
  refine rT 11 25 (.bool false) rfl rfl hHeld ?_
  simp only [pA, pN, sZ, sU]
  refine rT 12 26 (.bool false) rfl rfl hHeld ?_
  simp only [pA, pN, sZ, sU]
  refine wpAnyH_done (by kernel_rfl) ?_ _
  have HK2 := Lib.hid (HK1.out.trans hHeld)
  have HP2 := Lib.hid (HPe.out.kept hHeld)
  have hct2 := kept_cell hHeld hct.out
  have hv1 : w2.cell? ⟨5, 3, none⟩ = some (.int .i64 (-1)) := (HT1.out.kept hHeld).views 3 (by omega)
  have ce := HP2.out.ep
  clear hHeld gw2
  go_wp2_with fail
  refine (down_is p.e _ (by omega) (by omega)).mono ?_
  rintro e w' ⟨rfl, rfl⟩
  go_wp2_with fail
  refine (up_is p.e _ (by omega) (by omega)).mono ?_
  rintro e w' ⟨rfl, rfl⟩
  go_wp2_with (first | (refine wpList_load_ps (by rfl) _ rfl _ rfl _ (HP2.out) ?_) | (refine wpList_load_pb (by rfl) _ rfl _ rfl _ (HP2.out) ?_))
  refine (HM0.out _).mono ?_
  rintro e w3 ⟨rfl, k3⟩
  have HK3 := Lib.hid (HK2.out.trans k3)
  have HP3 := Lib.hid (HP2.out.kept k3)
  clear k3 ce hct2 hv1
  go_wp2_with (first | (refine wpList_load_ps (by rfl) _ rfl _ rfl _ (HP3.out) ?_) | (refine wpList_load_pb (by rfl) _ rfl _ rfl _ (HP3.out) ?_))
  refine (HM1.out _).mono ?_
  rintro e w4 ⟨rfl, k4⟩
  have HK4 := Lib.hid (HK3.out.trans k4)
  have HP4 := Lib.hid (HP3.out.kept k4)
  clear k4
  go_wp2_with (first | (refine wpList_load_ps (by rfl) _ rfl _ rfl _ (HP4.out) ?_) | (refine wpList_load_pb (by rfl) _ rfl _ rfl _ (HP4.out) ?_))
  refine (HM2.out _).mono ?_
  rintro e w5 ⟨rfl, k5⟩
  have HK5 := Lib.hid (HK4.out.trans k5)
  clear k5
  go_wp2_with fail
  refine (mmake_is 1 0 _ (by omega) (by omega) (by omega)).mono ?_
  rintro e w6 ⟨rfl, k6⟩
  rw [show mkI 1 0 = 1 from rfl]
  have HK6 := Lib.hid (HK5.out.trans k6)
  clear k6
  go_wp2
  go_ret2
  exact ⟨by rw [HF.out.1, HF.out.2]; rfl, HK6.out⟩
set_option maxRecDepth 100000 in
set_option maxHeartbeats 2000000 in
theorem passed3_b (p : Ps) (hB : Brd p.B) (ht : p.t = 1) (hlo : 16 ≤ p.e) (hhi : p.e < 24) (e0 : bAt p.B p.e = 0) (e1 : bAt p.B (p.e - 8) = 0) (e2 : bAt p.B (p.e + 8) = 1) (w : World) (hT : Tabs w) :
    Calls Tryz.prog 64 #[.agg (pl p).toArray] w fun e w' => e = .returned (.tuple #[.int .i64 (passS p), .bool (passB p)]) ∧ Kept w w' := by
  have HF := Lib.hid (pass_on (p := p) (by unfold passI; rw [if_neg (fun h => by rw [ht] at h; exact absurd h.1 (by decide)), if_pos ⟨ht, hlo, hhi, e0, e1, e2⟩]) (by omega))
  have b0 : (bAt p.B p.e == 0) = true := beq_iff_eq.2 e0
  have b1 : (bAt p.B (p.e - 8) == 0) = true := beq_iff_eq.2 e1
  have b2 : (bAt p.B (p.e + 8) != 1) = false := by rw [e2]; rfl
  clear e0 e1 e2
  have hlo' := hlo
  have hn : (rkI p.e != 2) = false := by
    have : rkI p.e = 2 := by unfold rkI; rw [if_pos (by omega)]; omega
    rw [this]; rfl
  have HP := Lib.hid (PAt.new w hB.1)
  have HB := Lib.hid hB
  have HT := Lib.hid (hT.kept ((Kept.refl w).alloc (.cells (pl p).toArray 26)))
  have ct := HP.out.turn
  rw [ht] at ct
  have HO := Lib.hid (other_any 1)
  have ho : otherI 1 = 0 := rfl
  rw [ho] at HO
  have HRk := Lib.hid (rank_any p.e)
  have HM0 := Lib.hid (man_at p.B hB p.e (by omega) (by omega))
  have HM1 := Lib.hid (man_at p.B hB (p.e - 8) (by omega) (by omega))
  have HM2 := Lib.hid (man_at p.B hB (p.e + 8) (by omega) (by omega))
  clear hB hT ho hlo'
  generalize rkI p.e = re at *
  generalize bAt p.B p.e = x0 at *
  generalize bAt p.B (p.e - 8) = x1 at *
  generalize bAt p.B (p.e + 8) = x2 at *
  go_enter Tryz.func64, Tryz.ntmps64
  go_wp2_with fail
  refine (HO.out _).mono ?_
  rintro e w1 ⟨rfl, k1⟩
  have HK1 := Lib.hid (((Kept.refl w).alloc _).trans k1)
  have HPe := Lib.hid (HP.out.kept k1)
  have hct := Lib.hid (kept_cell k1 ct)
  have HT1 := Lib.hid (HT.out.kept k1)
  have hv0 : Hid (w1.cell? ⟨5, 2, none⟩ = some (.int .i64 2)) := HT1.out.views 2 (by omega)
  clear k1 ct
  go_wp2
  refine wp_region_held_drew (S := Kept _) (by kernel_rfl) (Kept.refl _).drew (fun hHeld => ?_)
  refine rT 0 14 (.int .i64 0) rfl rfl hHeld ?_
  simp only [pA, pN, sZ, sU]
  refine rT 1 15 (.bool false) rfl rfl hHeld ?_
  simp only [pA, pN, sZ, sU]
  refine rT 2 16 (.bool false) rfl rfl hHeld ?_
  simp only [pA, pN, sZ, sU]
  refine rT 3 17 (.pointer (some ⟨w.heap.size, 66, none⟩)) rfl rfl hHeld ?_
  simp only [pA, pN, sZ, sU]
  refine rC 4 18 (.int .i64 p.e) rfl rfl (fun _ h => kept_cell h (HPe.out.ep)) hHeld ?_
  simp only [pA, pN, sZ, sU]
  refine rT 6 20 (.pointer (some ⟨w.heap.size, 64, none⟩)) rfl rfl hHeld ?_
  simp only [pA, pN, sZ, sU]
  refine rC 7 21 (.int .i64 1) rfl rfl (fun _ h => kept_cell h (hct.out)) hHeld ?_
  simp only [pA, pN, sZ, sU]
  refine rT 8 22 (.pointer (some ⟨5, 2, none⟩)) rfl rfl hHeld ?_
  simp only [pA, pN, sZ, sU]
  refine rT 9 23 (.pointer (some ⟨5, 2, none⟩)) rfl rfl hHeld ?_
  simp only [pA, pN, sZ, sU]
  refine rC 10 24 (.int .i64 2) rfl rfl (fun _ h => kept_cell h (hv0.out)) hHeld ?_
  simp only [pA, pN, sZ, sU]
  refine rR 5 rfl (fun K hK => ?_)
  go_simp
  refine (HRk.out _).mono ?_
  rintro e w2 ⟨rfl, gw2⟩
  refine hK.out _ _ (hHeld.trans gw2) (fun _ => ?_)
  replace hHeld := hHeld.trans gw2
  clear hK K
  refine rT 11 25 (.bool false) rfl rfl hHeld ?_
  simp only [pA, pN, sZ, sU]
  refine rT 12 26 (.bool false) rfl rfl hHeld ?_
  simp only [pA, pN, sZ, sU]
  refine wpAnyH_done (by kernel_rfl) ?_ _
  have HK2 := Lib.hid (HK1.out.trans hHeld)
  have HP2 := Lib.hid (HPe.out.kept hHeld)
  have hct2 := kept_cell hHeld hct.out
  have hv1 : w2.cell? ⟨5, 3, none⟩ = some (.int .i64 (-1)) := (HT1.out.kept hHeld).views 3 (by omega)
  have ce := HP2.out.ep
  clear hHeld gw2
  go_wp2_with fail
  refine (down_is p.e _ (by omega) (by omega)).mono ?_
  rintro e w' ⟨rfl, rfl⟩
  go_wp2_with fail
  refine (up_is p.e _ (by omega) (by omega)).mono ?_
  rintro e w' ⟨rfl, rfl⟩
  go_wp2_with (first | (refine wpList_load_ps (by rfl) _ rfl _ rfl _ (HP2.out) ?_) | (refine wpList_load_pb (by rfl) _ rfl _ rfl _ (HP2.out) ?_))
  refine (HM0.out _).mono ?_
  rintro e w3 ⟨rfl, k3⟩
  have HK3 := Lib.hid (HK2.out.trans k3)
  have HP3 := Lib.hid (HP2.out.kept k3)
  clear k3 ce hct2 hv1
  go_wp2_with (first | (refine wpList_load_ps (by rfl) _ rfl _ rfl _ (HP3.out) ?_) | (refine wpList_load_pb (by rfl) _ rfl _ rfl _ (HP3.out) ?_))
  refine (HM1.out _).mono ?_
  rintro e w4 ⟨rfl, k4⟩
  have HK4 := Lib.hid (HK3.out.trans k4)
  have HP4 := Lib.hid (HP3.out.kept k4)
  clear k4
  go_wp2_with (first | (refine wpList_load_ps (by rfl) _ rfl _ rfl _ (HP4.out) ?_) | (refine wpList_load_pb (by rfl) _ rfl _ rfl _ (HP4.out) ?_))
  refine (HM2.out _).mono ?_
  rintro e w5 ⟨rfl, k5⟩
  have HK5 := Lib.hid (HK4.out.trans k5)
  clear k5
  go_wp2_with fail
  refine (mmake_is 1 0 _ (by omega) (by omega) (by omega)).mono ?_
  rintro e w6 ⟨rfl, k6⟩
  rw [show mkI 1 0 = 1 from rfl]
  have HK6 := Lib.hid (HK5.out.trans k6)
  clear k6
  go_wp2
  go_ret2
  exact ⟨by rw [HF.out.1, HF.out.2]; rfl, HK6.out⟩
theorem passed_is (p : Ps) (hB : Brd p.B) (w : World) (hT : Tabs w) :
    Calls Tryz.prog 64 #[.agg (pl p).toArray] w fun e w' => e = .returned (.tuple #[.int .i64 (passS p), .bool (passB p)]) ∧ Kept w w' := by
  by_cases h0 : p.t = 0
  · by_cases hr : 40 ≤ p.e ∧ p.e < 48
    · by_cases e0 : bAt p.B p.e = 0
      · by_cases e1 : bAt p.B (p.e + 8) = 0
        · by_cases e2 : bAt p.B (p.e - 8) = (-1)
          · exact passed3_w p hB h0 hr.1 hr.2 e0 e1 e2 w hT
          · exact passed2_w p hB h0 hr.1 hr.2 e0 e1 e2 w hT
        · exact passed1_w p hB h0 hr.1 hr.2 e0 e1 w hT
      · exact passed0_w p hB h0 hr.1 hr.2 e0 w hT
    · exact passed_off_w p hB h0 hr w hT
  · by_cases h1 : p.t = 1
    · by_cases hr : 16 ≤ p.e ∧ p.e < 24
      · by_cases e0 : bAt p.B p.e = 0
        · by_cases e1 : bAt p.B (p.e - 8) = 0
          · by_cases e2 : bAt p.B (p.e + 8) = 1
            · exact passed3_b p hB h1 hr.1 hr.2 e0 e1 e2 w hT
            · exact passed2_b p hB h1 hr.1 hr.2 e0 e1 e2 w hT
          · exact passed1_b p hB h1 hr.1 hr.2 e0 e1 w hT
        · exact passed0_b p hB h1 hr.1 hr.2 e0 w hT
      · exact passed_off_b p hB h1 hr w hT
    · exact passed_none p hB h0 h1 w
end Go.Proofs.YtkebpchhpidogaaGreatDoor
namespace Go.Proofs.YtkebpchhpidogaaGreatDoor
open Go.RowKit
set_option linter.unusedVariables false
set_option linter.unusedSimpArgs false
set_option maxRecDepth 100000

/-- A block of cells. -/
structure RAt (w : World) (g : Nat) (l : List Value) (T : TypeId) : Prop where
  at_ : w.heap[g]? = some (.cells l.toArray T (0, 0))
theorem RAt.kept {w w' : World} {g : Nat} {l : List Value} {T : TypeId} (h : RAt w g l T) (k : Kept w w') : RAt w' g l T := ⟨k.heap h.at_⟩
theorem RAt.kb {W w : World} {g k : Nat} {l : List Value} {T : TypeId} (h : RAt W k l T) (hk : KB W g w) (hne : k ≠ g) : RAt w k l T := ⟨hk.heap hne h.at_⟩
theorem RAt.cellK {w : World} {g : Nat} {l : List Value} {T : TypeId} (h : RAt w g l T) (k : Nat) : w.cell? ⟨g, k, none⟩ = l[k]? := by
  rw [cell_of_row _ _ k _ _ (0, 0) h.at_]; simp
theorem RAt.frozen {w : World} {g : Nat} {l : List Value} {T : TypeId} (h : RAt w g l T) (k : Nat) : w.frozen? ⟨g, k, none⟩ = false := frozen_of_row w g k _ _ h.at_
theorem RAt.range {w : World} {g : Nat} {l : List Value} {T : TypeId} (h : RAt w g l T) : w.rangeAt g 0 l := by
  intro j v hv
  rw [Nat.zero_add, h.cellK, hv]
theorem RAt.row {w : World} {g : Nat} {l : List Value} {T : TypeId} (h : RAt w g l T) (c : List Value) : RAt (w.setRow g c.toArray) g c T := ⟨setRow_heap _ _ _ _ _ _ h.at_⟩
theorem RAt.rowOther {w : World} {g k : Nat} {l : List Value} {T : TypeId} (h : RAt w g l T) (hk : g ≠ k) (c : Array Value) : RAt (w.setRow k c) g l T := ⟨(setRow_other w k g c hk).trans h.at_⟩
theorem RAt.setOther {w : World} {g k i : Nat} {l : List Value} {T : TypeId} (h : RAt w g l T) (hk : g ≠ k) (u : Value) : RAt (w.setCell ⟨k, i, none⟩ u) g l T := ⟨(heap_setCell_other w _ g u (fun e => hk e)).trans h.at_⟩
/-- A move's numbers. -/
structure Mv where
  f : Int
  t : Int
  p : Int
def ml (m : Mv) : List Value := [.int .i64 m.f, .int .i64 m.t, .int .i64 m.p]
def MAt (w : World) (g : Nat) (m : Mv) : Prop := RAt w g (ml m) 35
theorem MAt.kept {w w' : World} {g : Nat} {m : Mv} (h : MAt w g m) (k : Kept w w') : MAt w' g m := RAt.kept h k
theorem MAt.kb {W w : World} {g k : Nat} {m : Mv} (h : MAt W k m) (hk : KB W g w) (hne : k ≠ g) : MAt w k m := RAt.kb h hk hne
theorem MAt.f {w : World} {g : Nat} {m : Mv} (h : MAt w g m) : w.cell? ⟨g, 0, none⟩ = some (.int .i64 m.f) := RAt.cellK h 0
theorem MAt.t {w : World} {g : Nat} {m : Mv} (h : MAt w g m) : w.cell? ⟨g, 1, none⟩ = some (.int .i64 m.t) := RAt.cellK h 1
theorem MAt.p {w : World} {g : Nat} {m : Mv} (h : MAt w g m) : w.cell? ⟨g, 2, none⟩ = some (.int .i64 m.p) := RAt.cellK h 2
theorem MAt.new (w : World) (m : Mv) : MAt (w.alloc (.cells (ml m).toArray 35)) w.heap.size m := ⟨heap_alloc_new w _⟩
theorem sizeM : (Tryz.prog.info? 35).map (·.size) = some 3 := by kernel_rfl
theorem wpList_load_mv {ops : Array Oper} {rest : List Oper} {op : Oper} {a : Act} {w : World} {Q : Exit → Act → World → Prop} (hw : Region.wanted op (yielded ops a.tmps) = true) (x : Operand) (ho : op.op = .load 35 x)
    (g : Nat) (hx : a.eval x = .pointer (some ⟨g, 0, none⟩)) (m : Mv) (hg : MAt w g m)
    (h : wpList Tryz.prog ops Q rest (a.put op.dst (.agg (ml m).toArray)) w) : wpList Tryz.prog ops Q (op :: rest) a w :=
  wpList_step fun _ hK => by
    rw [if_pos hw]
    exact wp_load_mid 35 x ho g 0 hx (ml m) _ (RAt.range hg) Tryz.underlying35 rfl sizeM (hK _ _ h)
theorem take_load_mv {ops : Array Oper} {S : World → Prop} {op : Oper} {a : Act} (hw : Region.wanted op (yielded ops a.tmps) = true) (x : Operand) (ho : op.op = .load 35 x)
    (g : Nat) (hx : a.eval x = .pointer (some ⟨g, 0, none⟩)) (m : Mv) (hS : ∀ w, S w → MAt w g m) : YieldsIf Tryz.prog ops S op (.agg (ml m).toArray) a :=
  yieldsIf_load_mid hw 35 x ho g 0 hx (ml m) _ (fun w h => RAt.range (hS w h)) Tryz.underlying35 rfl sizeM
theorem ml_one (m : Mv) : (ml m).toArray.all (·.oneCell') = true := by
  rw [Array.all_eq_true_iff_forall_mem]
  intro v hv
  simp only [List.mem_toArray, ml, List.mem_cons, List.not_mem_nil, or_false] at hv
  rcases hv with rfl | rfl | rfl <;> rfl
/-- A move of squares. -/
structure On (m : Mv) : Prop where
  f0 : 0 ≤ m.f
  f1 : m.f < 64
  t0 : 0 ≤ m.t
  t1 : m.t < 64
/-- The tables of layer 9. -/
def prL : List Int := [0, 2, 3, 4, 5]
def prV : List Value := prL.map (Value.int .i64)
def laL : List Int := [7, 0]
def wiL : List Int := [1, 4, 7, 6, 2, 4, 0, 2, 4, 60, 63, 62, 8, 60, 56, 58]
def wiV : List Value := wiL.map (Value.int .i64)
def Proms (w : World) : Prop := ∀ i, i < 5 → w.cell? ⟨3, i, none⟩ = some (.int .i64 (prL.getD i 0))
def Lasts (w : World) : Prop := ∀ i, i < 2 → w.cell? ⟨0, i, none⟩ = some (.int .i64 (laL.getD i 0))
def Wings (w : World) : Prop := ∀ i, i < 16 → w.cell? ⟨1, i, none⟩ = some (.int .i64 (wiL.getD i 0))
structure TabM (w : World) : Prop where
  tabs : Tabs w
  proms : Proms w
  lasts : Lasts w
  wings : Wings w
theorem TabM.kept {w w' : World} (h : TabM w) (k : Kept w w') : TabM w' :=
  ⟨h.tabs.kept k, fun i hi => kept_cell k (h.proms i hi), fun i hi => kept_cell k (h.lasts i hi), fun i hi => kept_cell k (h.wings i hi)⟩
theorem range_of {w : World} {g n : Nat} {l : List Int} (hl : l.length = n) (h : ∀ i, i < n → w.cell? ⟨g, i, none⟩ = some (.int .i64 (l.getD i 0))) : w.rangeAt g 0 (l.map (Value.int .i64)) := by
  intro j v hv
  have hj : j < l.length := by have := (List.getElem?_eq_some_iff.1 hv).1; simpa using this
  rw [Nat.zero_add, h j (by omega)]
  rw [List.getElem?_map, List.getElem?_eq_getElem hj] at hv
  simp only [Option.map_some, Option.some.injEq] at hv
  rw [← hv, getD_at _ _ hj]
theorem Proms.range {w : World} (h : Proms w) : w.rangeAt 3 0 prV := range_of rfl h
theorem Wings.range {w : World} (h : Wings w) : w.rangeAt 1 0 wiV := range_of rfl h
theorem size_proms : (Tryz.prog.info? 91).map (·.size) = some prV.length := by kernel_rfl
theorem size_wings : (Tryz.prog.info? 78).map (·.size) = some wiV.length := by kernel_rfl
theorem run_index_pr (k : Nat) (hk : k < 5) (w : World) : (Instr.index 91 (.agg prV.toArray) (.int .i64 k)).run Tryz.prog w = .ok (.int .i64 (prL.getD k 0)) w := by
  have h1 : (0 : Int) ≤ (k : Int) ∧ (k : Int) < ((5 : Nat) : Int) := by omega
  have hs : (sizeOf 3).run Tryz.prog w = .ok 1 w := by
    have h0 : (Tryz.prog.info? 3).map (·.size) = some 1 := by kernel_rfl
    cases hq : Tryz.prog.info? 3 with
    | none => simp [hq] at h0
    | some i => simp [hq] at h0; simp [sizeOf, typeInfo, hq, h0]
  simp only [Instr.index, asIntOf, Sem.run_bind, Sem.run_pure, Result.andThen_ok, run_underlying Tryz.underlying91, if_pos h1, hs]
  simp only [part, isAgg, Sem.run_bind, Sem.run_pure, Result.andThen_ok, run_underlying Tryz.underlying3, if_true, hs, Int.toNat_natCast]
  have : k = 0 ∨ k = 1 ∨ k = 2 ∨ k = 3 ∨ k = 4 := by omega
  rcases this with rfl | rfl | rfl | rfl | rfl <;> rfl
/-- A wing: its right, its king's and its rook's home, where the king goes. -/
def wTo (k : Nat) : Nat := [6, 2, 62, 58].getD k 0
def wl (k : Nat) : List Value := [.int .i64 (hR k), .int .i64 (hKg k), .int .i64 (hRk k), .int .i64 (wTo k)]
theorem wl_one (k : Nat) : (wl k).toArray.all (·.oneCell') = true := by
  rw [Array.all_eq_true_iff_forall_mem]
  intro v hv
  simp only [List.mem_toArray, wl, List.mem_cons, List.not_mem_nil, or_false] at hv
  rcases hv with rfl | rfl | rfl | rfl <;> rfl
theorem wTo_lt (k : Nat) : wTo k < 64 := by
  unfold wTo; rcases k with _ | _ | _ | _ | k <;> simp
theorem sizeWing : (Tryz.prog.info? 73).map (·.size) = some 4 := by kernel_rfl
theorem run_index_wi (k : Nat) (hk : k < 4) (w : World) : (Instr.index 78 (.agg wiV.toArray) (.int .i64 k)).run Tryz.prog w = .ok (.agg (wl k).toArray) w := by
  have h1 : (0 : Int) ≤ (k : Int) ∧ (k : Int) < ((4 : Nat) : Int) := by omega
  have hs : (sizeOf 73).run Tryz.prog w = .ok 4 w := by
    cases hq : Tryz.prog.info? 73 with
    | none => have := sizeWing; simp [hq] at this
    | some i => have := sizeWing; simp [hq] at this; simp [sizeOf, typeInfo, hq, this]
  simp only [Instr.index, asIntOf, Sem.run_bind, Sem.run_pure, Result.andThen_ok, run_underlying Tryz.underlying78, if_pos h1, hs]
  simp only [part, isAgg, Sem.run_bind, Sem.run_pure, Result.andThen_ok, run_underlying Tryz.underlying73, if_true, hs, Int.toNat_natCast]
  have : k = 0 ∨ k = 1 ∨ k = 2 ∨ k = 3 := by omega
  rcases this with rfl | rfl | rfl | rfl <;> rfl
/-- May Promo be that? -/
def promoB (n : Int) : Bool := n == 0 || (decide (2 ≤ n) && decide (n ≤ 5))
theorem promo_at (k : Nat) (hk : k < 5) : promoB (prL.getD k 0) = true := by
  have : k = 0 ∨ k = 1 ∨ k = 2 ∨ k = 3 ∨ k = 4 := by omega
  rcases this with rfl | rfl | rfl | rfl | rfl <;> rfl
theorem promo_no {n : Int} (h : ∀ j, j < 5 → prL.getD j 0 ≠ n) : promoB n = false := by
  have h0 := h 0 (by omega)
  have h1 := h 1 (by omega)
  have h2 := h 2 (by omega)
  have h3 := h 3 (by omega)
  have h4 := h 4 (by omega)
  simp only [prL, List.getD_cons_zero, List.getD_cons_succ] at h0 h1 h2 h3 h4
  unfold promoB
  rw [Bool.eq_false_iff]
  intro hb
  simp only [Bool.or_eq_true, Bool.and_eq_true, beq_iff_eq, decide_eq_true_eq] at hb
  omega
theorem isPromo_is (n : Int) (w : World) (hT : TabM w) : Calls Tryz.prog 42 #[.int .i64 n] w fun e w' => e = .returned (.bool (promoB n)) ∧ Kept w w' := by
  have HT := Lib.hid hT
  clear hT
  go_enter Tryz.func42, Tryz.ntmps42
  go_wp2_with (refine wpList_load_mid rfl 91 _ rfl 3 0 rfl prV _ HT.out.proms.range Tryz.underlying91 rfl size_proms ?_)
  go_loopw [6] (fun t6 wr => ∃ k : Nat, k ≤ 5 ∧ t6 = .int .i64 k ∧ (∀ j, j < k → prL.getD j 0 ≠ n) ∧ Kept w wr) (fun t6 _ => 5 - (intOf t6).toNat)
  case atStart => exact ⟨0, by omega, rfl, fun j hj => by omega, Kept.refl _⟩
  case round =>
    obtain ⟨k, hk, rfl, hno, hK⟩ := hrel
    have HNo := Lib.hid hno
    have HK := Lib.hid hK
    clear hno hK
    by_cases hlt : k < 5
    · have hx := run_index_pr k hlt
      have HPr := Lib.hid (promo_at k hlt)
      obtain ⟨x, hxe⟩ : ∃ x, prL.getD k 0 = x := ⟨_, rfl⟩
      rw [hxe] at HPr
      simp only [hxe] at hx
      have HX := Lib.hid hxe
      clear hxe
      by_cases he : x = n
      · have he' : (x == n) = true := beq_iff_eq.2 he
        have HE := Lib.hid he
        clear he
        go_wp2
        go_ret
        exact ⟨by rw [← HE.out, HPr.out]; rfl, HK.out⟩
      · have he' : (x == n) = false := beq_eq_false_iff_ne.2 he
        have HE := Lib.hid he
        clear he
        go_wp2
        go_roundw
        case rel => exact ⟨k + 1, by omega, by go_num, fun j hj => by rcases Nat.lt_succ_iff_lt_or_eq.1 hj with h | h; exact HNo.out j h; rw [h, HX.out]; exact HE.out, HK.out⟩
        case measure => simp [intOf]; omega
    · have HF := Lib.hid (promo_no (n := n) (fun j hj => HNo.out j (by omega)))
      go_wp2
      go_ret
      exact ⟨by rw [HF.out]; rfl, HK.out⟩
end Go.Proofs.YtkebpchhpidogaaGreatDoor
namespace Go.Proofs.YtkebpchhpidogaaGreatDoor
open Go.RowKit
set_option linter.unusedVariables false
set_option linter.unusedSimpArgs false
set_option maxRecDepth 100000

theorem mid_is (m : Mv) (ho : On m) (w : World) : Calls Tryz.prog 45 #[.agg (ml m).toArray] w fun e w' => e = .returned (.int .i64 ((m.f + m.t) / 2)) ∧ Kept w w' := by
  obtain ⟨f0, f1, t0, t1⟩ := ho
  have HM := Lib.hid (MAt.new w m)
  have cf := HM.out.f
  have ct := HM.out.t
  have e1 : IntKind.i64.wrap (m.f + m.t) = m.f + m.t := IntWalk.i64_in _ (by omega)
  have e2 : IntKind.i64.wrap ((m.f + m.t).tdiv 2) = (m.f + m.t) / 2 := by
    rw [Int.tdiv_eq_ediv_of_nonneg (by omega)]; exact IntWalk.i64_in _ (by omega)
  go_enter Tryz.func45, Tryz.ntmps45
  go_wp2
  go_ret
  exact ⟨rfl, (Kept.refl _).alloc _⟩
theorem mtouches_is (m : Mv) (s : Int) (w : World) : Calls Tryz.prog 47 #[.agg (ml m).toArray, .int .i64 s] w fun e w' => e = .returned (.bool ((m.f == s) || (m.t == s))) ∧ Kept w w' := by
  have HM := Lib.hid (MAt.new w m)
  have cf := HM.out.f
  have ct := HM.out.t
  cases h1 : (m.f == s)
  · go_enter Tryz.func47, Tryz.ntmps47
    go_wp2
    go_ret
    exact ⟨rfl, (Kept.refl _).alloc _⟩
  · go_enter Tryz.func47, Tryz.ntmps47
    go_wp2
    go_ret
    exact ⟨rfl, (Kept.refl _).alloc _⟩
/-- Does the move go with a pawn? -/
def pawnB (p : Ps) (m : Mv) : Bool := kindI (bAt p.B m.f) == 1
theorem mkind_k (x : Int) (w : World) : Calls Tryz.prog 32 #[.int .i64 x] w fun e w' => e = .returned (.int .i64 (kindI x)) ∧ Kept w w' :=
  (mkind_any x w).mono fun _ _ ⟨a, b⟩ => ⟨a, b ▸ Kept.refl _⟩
theorem mside_k (x : Int) (w : World) : Calls Tryz.prog 30 #[.int .i64 x] w fun e w' => e = .returned (.int .i64 (sideI x)) ∧ Kept w w' :=
  (mside_any x w).mono fun _ _ ⟨a, b⟩ => ⟨a, b ▸ Kept.refl _⟩
theorem pawn_is (p : Ps) (hB : Brd p.B) (m : Mv) (f0 : 0 ≤ m.f) (f1 : m.f < 64) (w : World) : Calls Tryz.prog 49 #[.agg (pl p).toArray, .agg (ml m).toArray] w fun e w' => e = .returned (.bool (pawnB p m)) ∧ Kept w w' := by
  have HP : Hid (PAt _ _ p) := ⟨hB.1, heap_alloc2_old w (.cells (pl p).toArray 26) (.cells (ml m).toArray 35)⟩
  have HM : Hid (MAt _ _ m) := ⟨heap_alloc2_new w (.cells (pl p).toArray 26) (.cells (ml m).toArray 35)⟩
  have HK0 := Lib.hid (((Kept.refl w).alloc (.cells (pl p).toArray 26)).alloc (.cells (ml m).toArray 35))
  have cf := HM.out.f
  have HC := Lib.hid (man_at p.B hB m.f f0 f1)
  have HV : Hid (pawnB p m = (kindI (bAt p.B m.f) == 1)) := by rfl
  generalize bAt p.B m.f = x at *
  clear hB f0 f1
  go_enter Tryz.func49, Tryz.ntmps49
  go_wp2_with (first | (refine wpList_load_ps (by rfl) _ rfl _ rfl _ (HP.out) ?_) | (refine wpList_load_pb (by rfl) _ rfl _ rfl _ (HP.out) ?_) | (refine wpList_load_mv (by rfl) _ rfl _ rfl _ (HM.out) ?_))
  refine (HC.out _).mono ?_
  rintro e w1 ⟨rfl, k1⟩
  have HK1 := Lib.hid (HK0.out.trans k1)
  clear k1 cf
  go_wp2_with fail
  refine (mkind_k _ _).mono ?_
  rintro e w2 ⟨rfl, k2⟩
  have HK2 := Lib.hid (HK1.out.trans k2)
  clear k2
  go_wp2
  go_ret
  exact ⟨by rw [HV.out]; rfl, HK2.out⟩
/-- Between a wing's king and rook. -/
def wLo (k : Nat) : Nat := [5, 1, 61, 57].getD k 0
def wHi (k : Nat) : Nat := [7, 4, 63, 60].getD k 0
def freeB (B : List Int) (k : Nat) : Bool := (List.range 64).all fun s => !(decide (wLo k ≤ s) && decide (s < wHi k)) || (B.getD s 0 == 0)
theorem free_yes {B : List Int} {k : Nat} (h : ∀ s, wLo k ≤ s → s < wHi k → B.getD s 0 = 0) : freeB B k = true := by
  unfold freeB
  rw [List.all_eq_true]
  intro s _
  by_cases h1 : wLo k ≤ s
  · by_cases h2 : s < wHi k
    · have := h s h1 h2
      simp [h1, h2]
      simpa using this
    · simp [h2]
  · simp [h1]
theorem free_no {B : List Int} {k s : Nat} (hs : s < 64) (h1 : wLo k ≤ s) (h2 : s < wHi k) (h : B.getD s 0 ≠ 0) : freeB B k = false := by
  unfold freeB
  rw [List.all_eq_false]
  refine ⟨s, by simpa using hs, ?_⟩
  simp [h1, h2]
  simpa using h
theorem w_ends (k : Nat) (hk : k < 4) : (hKg k < hRk k ∧ wLo k = hKg k + 1 ∧ wHi k = hRk k) ∨ (hRk k < hKg k ∧ wLo k = hRk k + 1 ∧ wHi k = hKg k) := by
  have : k = 0 ∨ k = 1 ∨ k = 2 ∨ k = 3 := by omega
  rcases this with rfl | rfl | rfl | rfl <;> decide
theorem min_first {kg rk : Nat} {A B : Prop} (a : A) (b : B) (e : IntKind.i64.wrap ((kg : Int) + 1) = (((kg + 1 : Nat)) : Int)) (h : kg ≤ rk) : Value.int .i64 (RowKit.wrap64 (min (kg : Int) (rk : Int) + 1)) = .int .i64 (((kg + 1 : Nat)) : Int) := by
  rw [show min (kg : Int) (rk : Int) = kg by omega, ← IntWalk.i64_left, e]
theorem min_second {kg rk : Nat} {A B : Prop} (a : A) (b : B) (e : IntKind.i64.wrap ((rk : Int) + 1) = (((rk + 1 : Nat)) : Int)) (h : rk ≤ kg) : Value.int .i64 (RowKit.wrap64 (min (kg : Int) (rk : Int) + 1)) = .int .i64 (((rk + 1 : Nat)) : Int) := by
  rw [show min (kg : Int) (rk : Int) = rk by omega, ← IntWalk.i64_left, e]
theorem free_up (B : List Int) (hB : Brd B) (k : Nat) (hlt : hKg k < hRk k) (hlo : wLo k = hKg k + 1) (hhi : wHi k = hRk k) (w : World) : Calls Tryz.prog 65 #[.agg (cl B).toArray, .agg (wl k).toArray] w fun e w' => e = .returned (.bool (freeB B k)) ∧ Kept w w' := by
  have HBd : Hid (_ = _) := heap_alloc2_old w (.cells (cl B).toArray 24) (.cells (wl k).toArray 73)
  have HW : Hid (RAt _ _ (wl k) 73) := ⟨heap_alloc2_new w (.cells (cl B).toArray 24) (.cells (wl k).toArray 73)⟩
  have HK0 := Lib.hid (((Kept.refl w).alloc (.cells (cl B).toArray 24)).alloc (.cells (wl k).toArray 73))
  have HB := Lib.hid hB
  have hz := Lib.hid (size_cl hB.1)
  have HKg := Lib.hid (hKg_lt k)
  have HRk := Lib.hid (hRk_lt k)
  have HY := Lib.hid (@free_yes B k)
  have HN := Lib.hid (fun s => @free_no B k s)
  rw [hlo, hhi] at HY HN
  have d1 : _ = some (Value.int .i64 (hKg k)) := HW.out.cellK 1
  have d2 : _ = some (Value.int .i64 (hRk k)) := HW.out.cellK 2
  have D1 := Lib.hid d1
  have D2 := Lib.hid d2
  clear hlo hhi
  generalize hKg k = kg at *
  generalize hRk k = rk at *
  have hn1 : ¬ rk < kg := by omega
  have e1 : IntKind.i64.wrap (kg + 1) = (((kg + 1 : Nat)) : Int) := by have := HKg.out; have := HRk.out; rw [IntWalk.i64_in _ (by omega)]; rfl
  clear hB
  go_enter Tryz.func65, Tryz.ntmps65
  go_wp2
  go_loopw [5] (fun t5 wr => ∃ s : Nat, kg + 1 ≤ s ∧ s ≤ rk ∧ t5 = .int .i64 s ∧ (∀ j, kg + 1 ≤ j → j < s → B.getD j 0 = 0) ∧ Kept ((w.alloc (.cells (cl B).toArray 24)).alloc (.cells (wl k).toArray 73)) wr) (fun t5 _ => 64 - (intOf t5).toNat)
  case atStart => exact ⟨kg + 1, by omega, by omega, (by first | rfl | exact min_first (kg := kg) (rk := rk) HKg.out HRk.out e1 (by omega)), fun j h1 h2 => by omega, Kept.refl _⟩
  case round =>
    obtain ⟨s, hs1, hs2, rfl, hno, hK⟩ := hrel
    have HNo := Lib.hid hno
    have HK := Lib.hid hK
    have g1 := kept_cell hK D1.out
    have g2 := kept_cell hK D2.out
    have HBk : Hid (_ = _) := hK.heap HBd.out
    clear hno hK d1 d2
    by_cases hc : s < rk
    · have hs64 : Hid (s < 64) := by have := HKg.out; have := HRk.out; exact (by omega : s < 64)
      have HM := Lib.hid (man_yes B HB.out s hs64.out)
      by_cases hb : B.getD s 0 = 0
      · rw [hb] at HM
        go_wp2_with (refine wpList_load_w (by rfl) _ rfl _ rfl _ HBk.out hz.out ?_)
        refine (HM.out _).mono ?_
        rintro e w2 ⟨rfl, k2⟩
        have HK2 := Lib.hid (HK.out.trans k2)
        have HZ := Lib.hid hb
        clear k2 hb g1 g2
        have e2 : IntKind.i64.wrap ((s : Int) + 1) = ((s + 1 : Nat) : Int) := by have := hs64.out; rw [IntWalk.i64_in _ (by omega)]; rfl
        go_wp2
        go_roundw
        case rel => exact ⟨s + 1, by omega, by omega, rfl, fun j h1 h2 => by rcases Nat.lt_succ_iff_lt_or_eq.1 h2 with h | h; exact HNo.out j h1 h; rw [h]; exact HZ.out, HK2.out⟩
        case measure => have := hs64.out; simp [intOf]; omega
      · have HF := Lib.hid (HN.out s hs64.out hs1 hc hb)
        have hb' : (B.getD s 0 != 0) = true := bne_iff_ne.2 hb
        generalize B.getD s 0 = x at *
        go_wp2_with (refine wpList_load_w (by rfl) _ rfl _ rfl _ HBk.out hz.out ?_)
        refine (HM.out _).mono ?_
        rintro e w2 ⟨rfl, k2⟩
        have HK2 := Lib.hid (HK.out.trans k2)
        clear k2 g1 g2
        go_wp2
        go_ret
        exact ⟨by rw [HF.out]; rfl, HK0.out.trans HK2.out⟩
    · have HF := Lib.hid (HY.out (fun j h1 h2 => HNo.out j h1 (by omega)))
      go_wp2
      go_ret
      exact ⟨by rw [HF.out]; rfl, HK0.out.trans HK.out⟩
theorem free_dn (B : List Int) (hB : Brd B) (k : Nat) (hlt : hRk k < hKg k) (hlo : wLo k = hRk k + 1) (hhi : wHi k = hKg k) (w : World) : Calls Tryz.prog 65 #[.agg (cl B).toArray, .agg (wl k).toArray] w fun e w' => e = .returned (.bool (freeB B k)) ∧ Kept w w' := by
  have HBd : Hid (_ = _) := heap_alloc2_old w (.cells (cl B).toArray 24) (.cells (wl k).toArray 73)
  have HW : Hid (RAt _ _ (wl k) 73) := ⟨heap_alloc2_new w (.cells (cl B).toArray 24) (.cells (wl k).toArray 73)⟩
  have HK0 := Lib.hid (((Kept.refl w).alloc (.cells (cl B).toArray 24)).alloc (.cells (wl k).toArray 73))
  have HB := Lib.hid hB
  have hz := Lib.hid (size_cl hB.1)
  have HKg := Lib.hid (hKg_lt k)
  have HRk := Lib.hid (hRk_lt k)
  have HY := Lib.hid (@free_yes B k)
  have HN := Lib.hid (fun s => @free_no B k s)
  rw [hlo, hhi] at HY HN
  have d1 : _ = some (Value.int .i64 (hKg k)) := HW.out.cellK 1
  have d2 : _ = some (Value.int .i64 (hRk k)) := HW.out.cellK 2
  have D1 := Lib.hid d1
  have D2 := Lib.hid d2
  clear hlo hhi
  generalize hKg k = kg at *
  generalize hRk k = rk at *
  have hn1 : ¬ kg < rk := by omega
  have e1 : IntKind.i64.wrap (rk + 1) = (((rk + 1 : Nat)) : Int) := by have := HKg.out; have := HRk.out; rw [IntWalk.i64_in _ (by omega)]; rfl
  clear hB
  go_enter Tryz.func65, Tryz.ntmps65
  go_wp2
  go_loopw [5] (fun t5 wr => ∃ s : Nat, rk + 1 ≤ s ∧ s ≤ kg ∧ t5 = .int .i64 s ∧ (∀ j, rk + 1 ≤ j → j < s → B.getD j 0 = 0) ∧ Kept ((w.alloc (.cells (cl B).toArray 24)).alloc (.cells (wl k).toArray 73)) wr) (fun t5 _ => 64 - (intOf t5).toNat)
  case atStart => exact ⟨rk + 1, by omega, by omega, (by first | rfl | exact min_second (kg := kg) (rk := rk) HKg.out HRk.out e1 (by omega)), fun j h1 h2 => by omega, Kept.refl _⟩
  case round =>
    obtain ⟨s, hs1, hs2, rfl, hno, hK⟩ := hrel
    have HNo := Lib.hid hno
    have HK := Lib.hid hK
    have g1 := kept_cell hK D1.out
    have g2 := kept_cell hK D2.out
    have HBk : Hid (_ = _) := hK.heap HBd.out
    clear hno hK d1 d2
    by_cases hc : s < kg
    · have hs64 : Hid (s < 64) := by have := HKg.out; have := HRk.out; exact (by omega : s < 64)
      have HM := Lib.hid (man_yes B HB.out s hs64.out)
      by_cases hb : B.getD s 0 = 0
      · rw [hb] at HM
        go_wp2_with (refine wpList_load_w (by rfl) _ rfl _ rfl _ HBk.out hz.out ?_)
        refine (HM.out _).mono ?_
        rintro e w2 ⟨rfl, k2⟩
        have HK2 := Lib.hid (HK.out.trans k2)
        have HZ := Lib.hid hb
        clear k2 hb g1 g2
        have e2 : IntKind.i64.wrap ((s : Int) + 1) = ((s + 1 : Nat) : Int) := by have := hs64.out; rw [IntWalk.i64_in _ (by omega)]; rfl
        go_wp2
        go_roundw
        case rel => exact ⟨s + 1, by omega, by omega, rfl, fun j h1 h2 => by rcases Nat.lt_succ_iff_lt_or_eq.1 h2 with h | h; exact HNo.out j h1 h; rw [h]; exact HZ.out, HK2.out⟩
        case measure => have := hs64.out; simp [intOf]; omega
      · have HF := Lib.hid (HN.out s hs64.out hs1 hc hb)
        have hb' : (B.getD s 0 != 0) = true := bne_iff_ne.2 hb
        generalize B.getD s 0 = x at *
        go_wp2_with (refine wpList_load_w (by rfl) _ rfl _ rfl _ HBk.out hz.out ?_)
        refine (HM.out _).mono ?_
        rintro e w2 ⟨rfl, k2⟩
        have HK2 := Lib.hid (HK.out.trans k2)
        clear k2 g1 g2
        go_wp2
        go_ret
        exact ⟨by rw [HF.out]; rfl, HK0.out.trans HK2.out⟩
    · have HF := Lib.hid (HY.out (fun j h1 h2 => HNo.out j h1 (by omega)))
      go_wp2
      go_ret
      exact ⟨by rw [HF.out]; rfl, HK0.out.trans HK.out⟩
theorem free_is (B : List Int) (hB : Brd B) (k : Nat) (hk : k < 4) (w : World) : Calls Tryz.prog 65 #[.agg (cl B).toArray, .agg (wl k).toArray] w fun e w' => e = .returned (.bool (freeB B k)) ∧ Kept w w' := by
  rcases w_ends k hk with ⟨a, b, c⟩ | ⟨a, b, c⟩
  · exact free_up B hB k a b c w
  · exact free_dn B hB k a b c w
end Go.Proofs.YtkebpchhpidogaaGreatDoor
