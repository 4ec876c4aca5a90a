/- The document's Backed, Has and Passed · The document's Wrong · Positions turned: the numbers · The examples; walks of PosWrong and PosBacked. -/
import Derived.Test.YtkebpchhpidogaaGreatDoorPkA05
import Derived.Test.YtkebpchhpidogaaGreatDoorPkA07
import Derived.Test.YtkebpchhpidogaaGreatDoorPkA14
namespace Go.Proofs.YtkebpchhpidogaaGreatDoor
open Go.RowKit
set_option linter.unusedVariables false
set_option linter.unusedSimpArgs false

end Go.Proofs.YtkebpchhpidogaaGreatDoor
namespace Go.Proofs.YtkebpchhpidogaaGreatDoor
open Go.RowKit
set_option linter.unusedVariables false
set_option linter.unusedSimpArgs false

/-- The rights, one behind the other. -/
def rg (k : Nat) : Int := [1, 2, 4, 8, 16].getD k 0
theorem rg_at {k : Nat} (hk : k < 4) : rg k = hR k ∧ 1 ≤ rg k ∧ rg k ≤ 8 ∧ 2 * rg k = rg (k + 1) := by
  have : k = 0 ∨ k = 1 ∨ k = 2 ∨ k = 3 := by omega
  rcases this with rfl | rfl | rfl | rfl <;> decide
theorem rg_end {k : Nat} (hk : k ≤ 4) (h : ¬ k < 4) : ¬ rg k ≤ 8 := by
  obtain rfl : k = 4 := by omega
  decide
end Go.Proofs.YtkebpchhpidogaaGreatDoor
namespace Go.Proofs.YtkebpchhpidogaaGreatDoor
open Go.RowKit
set_option linter.unusedVariables false
set_option maxRecDepth 100000
set_option linter.unusedSimpArgs false

/-- The flipped square; -1 for none. -/
def flI (s : Int) : Int := if 0 ≤ s ∧ s < 64 then (7 - s / 8) * 8 + s % 8 else -1
theorem flI_on {s : Int} (h0 : 0 ≤ s) (h1 : s < 64) : 0 ≤ flI s ∧ flI s < 64 ∧ flI s % 8 = s % 8 ∧ flI s / 8 = 7 - s / 8 ∧ flI (flI s) = s ∧ flI s = (7 - s / 8) * 8 + s % 8 := by
  have e : flI s = (7 - s / 8) * 8 + s % 8 := by unfold flI; rw [if_pos ⟨h0, h1⟩]
  have h2 : 0 ≤ flI s ∧ flI s < 64 := by rw [e]; omega
  have e2 : flI (flI s) = (7 - flI s / 8) * 8 + flI s % 8 := by
    show (if 0 ≤ flI s ∧ flI s < 64 then (7 - flI s / 8) * 8 + flI s % 8 else -1) = _
    rw [if_pos h2]
  rw [e2, e]
  omega
theorem flI_nat {s : Int} (h0 : 0 ≤ s) (h1 : s < 64) : flipN (flI s).toNat = s.toNat ∧ (flI s).toNat = flipN s.toNat := by
  have := (flI_on h0 h1).2.2.2.2.2
  unfold flipN
  omega
theorem okB_bd {x : Int} (h : okB x = true) : -6 ≤ x ∧ x ≤ 6 := by
  unfold okB at h
  rw [Bool.or_eq_true, beq_iff_eq] at h
  rcases h with h | h
  · omega
  · exact ((manB_iff x).1 h).2
theorem bAt_ok {B : List Int} (hB : Brd B) (hr : rightB B = true) {x : Int} (h0 : 0 ≤ x) (h1 : x < 64) : -6 ≤ bAt B x ∧ bAt B x ≤ 6 :=
  okB_bd ((rightB_iff B hB.1).1 hr x.toNat (by omega))
theorem bAt_turn {B : List Int} (hB : Brd B) (hr : rightB B = true) {x : Int} (h0 : 0 ≤ x) (h1 : x < 64) : bAt (turnL B) (flI x) = - bAt B x := by
  have h := flI_on h0 h1
  have hb := bAt_ok hB hr h0 h1
  unfold bAt at hb ⊢
  rw [turn_get B _ (by omega), (flI_nat h0 h1).1]
  exact negI_is _ (by omega) (by omega)
/-- The way as the other side sees it. -/
def fwW (way : Nat) : Nat := [2, 1, 0, 3, 5, 4, 7, 6, 11, 10, 9, 8, 15, 14, 13, 12].getD way 0
theorem fw_way {way : Nat} (h : way < 16) : fwW way < 16 ∧ wayF (fwW way) = wayF way ∧ wayR (fwW way) = - wayR way := by
  have : ∀ i : Fin 16, fwW i < 16 ∧ wayF (fwW i) = wayF i ∧ wayR (fwW i) = - wayR i := by decide +kernel
  exact this ⟨way, h⟩
theorem goes_turn_all : ∀ m : Fin 13, ∀ w : Fin 16, goesB (-(((m : Nat) : Int) - 6)) (fwW w) = goesB (((m : Nat) : Int) - 6) w ∧ slidesB (-(((m : Nat) : Int) - 6)) = slidesB (((m : Nat) : Int) - 6) := by decide +kernel
theorem reach_turn {m : Int} (h0 : -6 ≤ m) (h1 : m ≤ 6) {way : Nat} (hw : way < 16) (far : Nat) : reachB (-m) (fwW way) far = reachB m way far := by
  have := goes_turn_all ⟨(m + 6).toNat, by omega⟩ ⟨way, hw⟩
  simp only [show (((m + 6).toNat : Nat) : Int) - 6 = m by omega] at this
  unfold reachB
  rw [this.1, this.2]
theorem ray_turn {x s : Int} (h0 : 0 ≤ x) (h1 : x < 64) {way : Nat} (hw : way < 16) {i : Nat} (h : (rayW x way)[i]? = some s) : (rayW (flI x) (fwW way))[i]? = some (flI s) := by
  obtain ⟨s0, s1, e1, e2⟩ := (rayW_at h0 h1 hw i s).1 h
  obtain ⟨a0, a1, a2, a3, _, _⟩ := flI_on h0 h1
  obtain ⟨b0, b1, b2, b3, _, _⟩ := flI_on s0 s1
  obtain ⟨f0, f1, f2⟩ := fw_way hw
  refine (rayW_at a0 a1 f0 i (flI s)).2 ⟨b0, b1, ?_, ?_⟩
  · rw [b2, a2, f1]; exact e1
  · rw [b3, a3, f2, Int.mul_neg]; omega
theorem fw_back {way : Nat} (h : way < 16) : fwW (fwW way) = way := by
  have : ∀ i : Fin 16, fwW (fwW i) = i := by decide +kernel
  exact this ⟨way, h⟩
theorem sight_turn {B : List Int} (hB : Brd B) (hr : rightB B = true) {x s : Int} (h0 : 0 ≤ x) (h1 : x < 64) {way : Nat} (hw : way < 16) {i : Nat} (h : Sight B x way i s) : Sight (turnL B) (flI x) (fwW way) i (flI s) := by
  refine ⟨ray_turn h0 h1 hw h.1, fun k hk y hy => ?_⟩
  obtain ⟨a0, a1, _, _, a4, _⟩ := flI_on h0 h1
  have f0 := (fw_way hw).1
  obtain ⟨y0, y1, _⟩ := (rayW_at a0 a1 f0 k y).1 hy
  have hy' := ray_turn a0 a1 f0 hy
  rw [a4, fw_back hw] at hy'
  have hz := h.2 k hk _ hy'
  obtain ⟨c0, c1, _, _, c4, _⟩ := flI_on y0 y1
  have := bAt_turn hB hr c0 c1
  rw [c4, hz] at this
  simpa using this
theorem strike_turn {B : List Int} (hB : Brd B) (hr : rightB B = true) {x s : Int} (h0 : 0 ≤ x) (h1 : x < 64) (h : s ∈ strikeL B x) : flI s ∈ strikeL (turnL B) (flI x) := by
  obtain ⟨way, i, hw, hre, hs⟩ := (mem_strike B x s).1 h
  obtain ⟨m0, m1⟩ := bAt_ok hB hr h0 h1
  refine (mem_strike _ _ _).2 ⟨fwW way, i, (fw_way hw).1, ?_, sight_turn hB hr h0 h1 hw hs⟩
  rw [bAt_turn hB hr h0 h1, reach_turn m0 m1 hw]
  exact hre
theorem struck_iff {B : List Int} {s side : Int} (h0 : 0 ≤ s) (h1 : s < 64) (hr : rightB B = true) : struckB B s side = true ↔ ∃ x, 0 ≤ x ∧ x < 64 ∧ sideI (bAt B x) = side ∧ s ∈ strikeL B x := by
  have hne : (tellL B s side).isEmpty = false ↔ ∃ x, x ∈ outW B s side := by
    unfold outW
    cases tellL B s side with
    | nil => simp
    | cons a l => simp
  unfold struckB
  rw [okS_yes h0 h1, hr, Bool.true_and, Bool.true_and, Bool.not_eq_true', hne]
  constructor
  · rintro ⟨x, hx⟩; exact ⟨x, (mem_outW B s side x h0 h1).1 hx⟩
  · rintro ⟨x, hx⟩; exact ⟨x, (mem_outW B s side x h0 h1).2 hx⟩
theorem side_turn {m : Int} (h0 : -6 ≤ m) (h1 : m ≤ 6) {side : Int} (hs : side = 0 ∨ side = 1) (h : sideI m = side) : sideI (-m) = 1 - side := by
  have hm : manB m = true := by
    cases hb : manB m
    · unfold sideI at h; rw [if_neg (by rw [hb]; decide)] at h; omega
    · rfl
  have := side_neg m (by omega) (by omega) hm
  rw [negI_is m (by omega) (by omega), h] at this
  exact this
theorem struck_to {B : List Int} (hB : Brd B) (hr : rightB B = true) {s side : Int} (h0 : 0 ≤ s) (h1 : s < 64) (hs : side = 0 ∨ side = 1) (h : struckB B s side = true) : struckB (turnL B) (flI s) (1 - side) = true := by
  obtain ⟨a0, a1, _⟩ := flI_on h0 h1
  obtain ⟨x, x0, x1, hx, hst⟩ := (struck_iff h0 h1 hr).1 h
  obtain ⟨b0, b1, _⟩ := flI_on x0 x1
  obtain ⟨m0, m1⟩ := bAt_ok hB hr x0 x1
  refine (struck_iff a0 a1 (by rw [right_turn hB]; exact hr)).2 ⟨flI x, b0, b1, ?_, strike_turn hB hr x0 x1 hst⟩
  rw [bAt_turn hB hr x0 x1]
  exact side_turn m0 m1 hs hx
theorem struck_turn {B : List Int} (hB : Brd B) (hr : rightB B = true) {s side : Int} (h0 : 0 ≤ s) (h1 : s < 64) (hs : side = 0 ∨ side = 1) : struckB (turnL B) (flI s) (1 - side) = struckB B s side := by
  rw [Bool.eq_iff_iff]
  constructor
  · intro h
    obtain ⟨a0, a1, _, _, a4, _⟩ := flI_on h0 h1
    have := struck_to (turn_brd hB) (by rw [right_turn hB]; exact hr) a0 a1 (side := 1 - side) (by omega) h
    rwa [turn_turn hB, a4, show 1 - (1 - side) = side by omega] at this
  · exact struck_to hB hr h0 h1 hs
/-- A board that lacks nothing has one king a side. -/
theorem king_one {B : List Int} (hw : wrongI B = 0) : rightB B = true ∧ manyI B 6 0 = 1 ∧ manyI B 6 1 = 1 := by
  unfold wrongI at hw
  split at hw
  · omega
  · next h1 =>
    split at hw
    · omega
    · next h2 => exact ⟨by simpa using h1, by omega, by omega⟩
theorem mem_where (B : List Int) (m : Int) (k : Nat) : k ∈ whereL B m ↔ k < 64 ∧ B.getD k 0 = m := by
  unfold whereL sel
  rw [List.mem_filter, List.mem_range, beq_iff_eq]
theorem one_where {B : List Int} {m : Int} (h : (whereL B m).length = 1) {k : Nat} (hk : k < 64) (e : B.getD k 0 = m) : headI (whereL B m) = (k : Int) := by
  have hm := (mem_where B m k).2 ⟨hk, e⟩
  match hL : whereL B m, h with
  | [j], _ =>
    rw [hL] at hm
    obtain rfl := List.mem_singleton.1 hm
    rfl
theorem king_at {B : List Int} (hw : wrongI B = 0) {side : Int} (hs : side = 0 ∨ side = 1) : ∃ k : Nat, k < 64 ∧ kingI B side = (k : Int) ∧ B.getD k 0 = mkI 6 side := by
  obtain ⟨_, h0, h1⟩ := king_one hw
  rcases hs with rfl | rfl
  · have hl : (whereL B 6).length = 1 := by have := kings_w B; omega
    match hL : whereL B 6, hl with
    | [j], _ =>
      have := (mem_where B 6 j).1 (by rw [hL]; simp)
      exact ⟨j, this.1, by show headI (whereL B 6) = _; rw [hL]; rfl, this.2⟩
  · have hl : (whereL B (-6)).length = 1 := by have := kings_b B; omega
    match hL : whereL B (-6), hl with
    | [j], _ =>
      have := (mem_where B (-6) j).1 (by rw [hL]; simp)
      exact ⟨j, this.1, by show headI (whereL B (-6)) = _; rw [hL]; rfl, this.2⟩
theorem king_turn {B : List Int} (hB : Brd B) (hw : wrongI B = 0) {side : Int} (hs : side = 0 ∨ side = 1) : kingI (turnL B) (1 - side) = flI (kingI B side) := by
  obtain ⟨k, hk, e1, e2⟩ := king_at hw hs
  obtain ⟨k', hk', e3, e4⟩ := king_at (B := turnL B) (by rw [wrong_turn hB]; exact hw) (side := 1 - side) (by omega)
  obtain ⟨hr, _⟩ := king_one hw
  have hb := bAt_turn hB hr (x := (k : Int)) (by omega) (by omega)
  obtain ⟨a0, a1, _⟩ := flI_on (s := (k : Int)) (by omega) (by omega)
  have hm : bAt B (k : Int) = mkI 6 side := by unfold bAt; rw [Int.toNat_natCast]; exact e2
  rw [e1]
  obtain ⟨_, h0, h1⟩ := king_one (B := turnL B) (by rw [wrong_turn hB]; exact hw)
  have hz : ((flI (k : Int)).toNat : Int) = flI (k : Int) := by omega
  rcases hs with rfl | rfl
  · have hl : (whereL (turnL B) (-6)).length = 1 := by have := kings_b (turnL B); omega
    have := one_where hl (k := (flI (k : Int)).toNat) (by omega) (by unfold bAt at hb; rw [hb]; unfold bAt at hm; rw [hm]; rfl)
    rw [hz] at this
    exact this
  · have hl : (whereL (turnL B) 6).length = 1 := by have := kings_w (turnL B); omega
    have := one_where hl (k := (flI (k : Int)).toNat) (by omega) (by unfold bAt at hb; rw [hb]; unfold bAt at hm; rw [hm]; rfl)
    rw [hz] at this
    exact this
theorem check_turn {B : List Int} (hB : Brd B) (hw : wrongI B = 0) {side : Int} (hs : side = 0 ∨ side = 1) : checkB (turnL B) (1 - side) = checkB B side := by
  obtain ⟨k, hk, e1, e2⟩ := king_at hw hs
  obtain ⟨hr, _⟩ := king_one hw
  have o1 : otherI side = 1 - side := by unfold otherI; split <;> first | omega | (split <;> omega)
  have o2 : otherI (1 - side) = side := by unfold otherI; split <;> first | omega | (split <;> omega)
  unfold checkB
  rw [king_turn hB hw hs, o1, o2]
  have := struck_turn hB hr (s := kingI B side) (side := 1 - side) (by omega) (by omega) (by omega)
  rw [show 1 - (1 - side) = side by omega] at this
  exact this
theorem far_turn {a b : Int} (a0 : 0 ≤ a) (a1 : a < 64) (b0 : 0 ≤ b) (b1 : b < 64) : farA (flI a) (flI b) = farA b a := by
  obtain ⟨c0, c1, c2, c3, _⟩ := flI_on a0 a1
  obtain ⟨d0, d1, d2, d3, _⟩ := flI_on b0 b1
  unfold farA
  rw [if_pos ⟨⟨c0, c1⟩, d0, d1⟩, if_pos ⟨⟨b0, b1⟩, a0, a1⟩]
  unfold farI
  rw [c2, c3, d2, d3]
  generalize a % 8 = x at *
  generalize b % 8 = y at *
  generalize a / 8 = u at *
  generalize b / 8 = v at *
  omega
/-- The rights exchanged. -/
def exI (c : Int) : Int := c / 4 + c % 4 * 4
def turnP (p : Ps) : Ps := ⟨turnL p.B, otherI p.t, exI p.c, flI p.e⟩
theorem touch_turn {p : Ps} (hB : Brd p.B) (hw : wrongI p.B = 0) (ht : p.t = 0 ∨ p.t = 1) : touchB (turnP p) = touchB p := by
  obtain ⟨k0, hk0, e0, _⟩ := king_at hw (side := 0) (.inl rfl)
  obtain ⟨k1, hk1, e1, _⟩ := king_at hw (side := 1) (.inr rfl)
  have q0 := king_turn hB hw (side := 1) (.inr rfl)
  have q1 := king_turn hB hw (side := 0) (.inl rfl)
  have o1 : otherI p.t = 1 - p.t := by unfold otherI; split <;> first | omega | (split <;> omega)
  have o2 : otherI (1 - p.t) = p.t := by unfold otherI; split <;> first | omega | (split <;> omega)
  unfold touchB turnP
  dsimp only
  rw [o1, o2]
  rw [show (1 : Int) - 1 = 0 from rfl] at q0
  rw [show (1 : Int) - 0 = 1 from rfl] at q1
  rw [q0, q1, far_turn (by omega) (by omega) (by omega) (by omega)]
  have := check_turn hB hw (side := 1 - p.t) (by omega)
  rw [show 1 - (1 - p.t) = p.t by omega] at this
  rw [this]
theorem turn_sq {B : List Int} (hB : Brd B) (hr : rightB B = true) (k : Nat) (hk : k < 64) : (turnL B).getD k 0 = - B.getD (flipN k) 0 := by
  rw [turn_get B k hk]
  have := okB_bd ((rightB_iff B hB.1).1 hr _ (flipN_lt hk))
  exact negI_is _ (by omega) (by omega)
theorem back_turn {B : List Int} (hB : Brd B) (hr : rightB B = true) : backB (turnL B) 1 = backB B 4 ∧ backB (turnL B) 2 = backB B 8 ∧ backB (turnL B) 4 = backB B 1 ∧ backB (turnL B) 8 = backB B 2 := by
  have h0 := turn_sq hB hr 0 (by omega)
  have h4 := turn_sq hB hr 4 (by omega)
  have h7 := turn_sq hB hr 7 (by omega)
  have h56 := turn_sq hB hr 56 (by omega)
  have h60 := turn_sq hB hr 60 (by omega)
  have h63 := turn_sq hB hr 63 (by omega)
  rw [show flipN 0 = 56 from rfl] at h0
  rw [show flipN 4 = 60 from rfl] at h4
  rw [show flipN 7 = 63 from rfl] at h7
  rw [show flipN 56 = 0 from rfl] at h56
  rw [show flipN 60 = 4 from rfl] at h60
  rw [show flipN 63 = 7 from rfl] at h63
  have n : ∀ a b : Int, (-a == b) = (a == -b) := fun a b => by rw [Bool.eq_iff_iff, beq_iff_eq, beq_iff_eq]; omega
  simp only [backB, show ((2 : Int) = 1) = False by simp, show ((4 : Int) = 1) = False by simp, show ((4 : Int) = 2) = False by simp, show ((8 : Int) = 1) = False by simp, show ((8 : Int) = 2) = False by simp, show ((8 : Int) = 4) = False by simp, if_true, if_false]
  rw [h0, h4, h7, h56, h60, h63]
  simp only [n]
  refine ⟨?_, ?_, ?_, ?_⟩ <;> first | trivial | rfl
theorem ex_all : ∀ c : Fin 16, 0 ≤ exI ((c : Nat) : Int) ∧ exI ((c : Nat) : Int) ≤ 15 ∧ exI (exI ((c : Nat) : Int)) = ((c : Nat) : Int) ∧ rgtB (exI ((c : Nat) : Int)) 1 = rgtB ((c : Nat) : Int) 4 ∧ rgtB (exI ((c : Nat) : Int)) 2 = rgtB ((c : Nat) : Int) 8 ∧
    rgtB (exI ((c : Nat) : Int)) 4 = rgtB ((c : Nat) : Int) 1 ∧ rgtB (exI ((c : Nat) : Int)) 8 = rgtB ((c : Nat) : Int) 2 := by decide +kernel
theorem ex_at {c : Int} (h0 : 0 ≤ c) (h1 : c ≤ 15) : 0 ≤ exI c ∧ exI c ≤ 15 ∧ exI (exI c) = c ∧ rgtB (exI c) 1 = rgtB c 4 ∧ rgtB (exI c) 2 = rgtB c 8 ∧ rgtB (exI c) 4 = rgtB c 1 ∧ rgtB (exI c) 8 = rgtB c 2 := by
  have := ex_all ⟨c.toNat, by omega⟩
  simp only [show ((c.toNat : Nat) : Int) = c by omega] at this
  exact this
theorem cas_turn {p : Ps} (hB : Brd p.B) (hr : rightB p.B = true) (h0 : 0 ≤ p.c) (h1 : p.c ≤ 15) : casB (turnP p) = casB p := by
  obtain ⟨_, _, _, r1, r2, r4, r8⟩ := ex_at h0 h1
  obtain ⟨b1, b2, b4, b8⟩ := back_turn hB hr
  unfold casB okC turnP
  dsimp only
  rw [show hR 0 = 1 from rfl, show hR 1 = 2 from rfl, show hR 2 = 4 from rfl, show hR 3 = 8 from rfl, r1, r2, r4, r8, b1, b2, b4, b8]
  generalize (!rgtB p.c 4 || backB p.B 4) = x4
  generalize (!rgtB p.c 8 || backB p.B 8) = x8
  generalize (!rgtB p.c 1 || backB p.B 1) = x1
  generalize (!rgtB p.c 2 || backB p.B 2) = x2
  cases x1 <;> cases x2 <;> cases x4 <;> cases x8 <;> rfl
theorem pass_turn {p : Ps} (hB : Brd p.B) (hr : rightB p.B = true) (ht : p.t = 0 ∨ p.t = 1) (h : 0 ≤ passI p) : 0 ≤ passI (turnP p) := by
  unfold passI at h
  rcases ht with ht | ht
  · have ho : otherI p.t = 1 := by rw [ht]; rfl
    split at h
    · next hc =>
      obtain ⟨_, e0, e1, x0, x1, x2⟩ := hc
      obtain ⟨f0, f1, _, f3, _, f5⟩ := flI_on (s := p.e) (by omega) (by omega)
      obtain ⟨_, _, _, _, _, g5⟩ := flI_on (s := p.e + 8) (by omega) (by omega)
      obtain ⟨_, _, _, _, _, k5⟩ := flI_on (s := p.e - 8) (by omega) (by omega)
      have a0 := bAt_turn hB hr (x := p.e) (by omega) (by omega)
      have a1 := bAt_turn hB hr (x := p.e + 8) (by omega) (by omega)
      have a2 := bAt_turn hB hr (x := p.e - 8) (by omega) (by omega)
      rw [show flI (p.e + 8) = flI p.e - 8 by omega, x1] at a1
      rw [show flI (p.e - 8) = flI p.e + 8 by omega, x2] at a2
      rw [x0] at a0
      unfold passI turnP
      dsimp only
      rw [ho, if_neg (fun h => absurd h.1 (by decide)), if_pos ⟨rfl, by omega, by omega, by simpa using a0, by simpa using a1, by simpa using a2⟩]
      omega
    · split at h
      · next hc => omega
      · omega
  · have ho : otherI p.t = 0 := by rw [ht]; rfl
    split at h
    · next hc => omega
    · split at h
      · next hc =>
        obtain ⟨_, e0, e1, x0, x1, x2⟩ := hc
        obtain ⟨f0, f1, _, f3, _, f5⟩ := flI_on (s := p.e) (by omega) (by omega)
        obtain ⟨_, _, _, _, _, g5⟩ := flI_on (s := p.e + 8) (by omega) (by omega)
        obtain ⟨_, _, _, _, _, k5⟩ := flI_on (s := p.e - 8) (by omega) (by omega)
        have a0 := bAt_turn hB hr (x := p.e) (by omega) (by omega)
        have a1 := bAt_turn hB hr (x := p.e - 8) (by omega) (by omega)
        have a2 := bAt_turn hB hr (x := p.e + 8) (by omega) (by omega)
        rw [show flI (p.e - 8) = flI p.e + 8 by omega, x1] at a1
        rw [show flI (p.e + 8) = flI p.e - 8 by omega, x2] at a2
        rw [x0] at a0
        unfold passI turnP
        dsimp only
        rw [ho, if_pos ⟨rfl, by omega, by omega, by simpa using a0, by simpa using a1, by simpa using a2⟩]
        omega
      · omega
/-- What a right position has. -/
theorem right_pos {p : Ps} (h : pwI p = 0) : wrongI p.B = 0 ∧ withinB p = true ∧ touchB p = false ∧ casB p = true ∧ epB p = true := by
  unfold pwI at h
  by_cases a0 : wrongI p.B = 0
  · rw [if_neg (by omega)] at h
    cases a1 : withinB p
    · rw [a1, if_pos rfl] at h; omega
    · rw [a1, if_neg (by decide)] at h
      cases a2 : touchB p
      · rw [a2, if_neg (by decide)] at h
        cases a3 : casB p
        · rw [a3, if_pos rfl] at h; omega
        · rw [a3, if_neg (by decide)] at h
          cases a4 : epB p
          · rw [a4, if_pos rfl] at h; omega
          · exact ⟨a0, rfl, rfl, rfl, rfl⟩
      · rw [a2, if_pos rfl] at h; omega
  · rw [if_pos a0] at h; exact absurd h a0
theorem pos_right {p : Ps} (a0 : wrongI p.B = 0) (a1 : withinB p = true) (a2 : touchB p = false) (a3 : casB p = true) (a4 : epB p = true) : pwI p = 0 := by
  unfold pwI; rw [if_neg (by omega), if_neg (by rw [a1]; decide), if_neg (by rw [a2]; decide), if_neg (by rw [a3]; decide), if_neg (by rw [a4]; decide)]
theorem turnP_right {p : Ps} (hB : Brd p.B) (h : pwI p = 0) : pwI (turnP p) = 0 := by
  obtain ⟨a0, a1, a2, a3, a4⟩ := right_pos h
  obtain ⟨ht, ⟨c0, c1⟩, e0, e1⟩ := (within_iff p).1 a1
  obtain ⟨hr, _⟩ := king_one a0
  have o1 : otherI p.t = 1 - p.t := by unfold otherI; split <;> first | omega | (split <;> omega)
  refine pos_right (by show wrongI (turnL p.B) = 0; rw [wrong_turn hB]; exact a0) ((within_iff _).2 ⟨by show otherI p.t = 0 ∨ otherI p.t = 1; omega, ?_, ?_⟩) (by rw [touch_turn hB a0 ht]; exact a2) (by rw [cas_turn hB hr c0 c1]; exact a3) ?_
  · have := ex_at c0 c1
    exact ⟨this.1, this.2.1⟩
  · show -1 ≤ flI p.e ∧ flI p.e ≤ 63
    unfold flI; split <;> omega
  · unfold epB at a4 ⊢
    rw [Bool.or_eq_true] at a4 ⊢
    rcases a4 with a4 | a4
    · left
      unfold passB at a4 ⊢
      rw [decide_eq_true_iff] at a4 ⊢
      exact pass_turn hB hr ht a4
    · right
      rw [beq_iff_eq] at a4 ⊢
      show flI p.e = -1
      unfold flI; rw [if_neg (by omega)]
theorem turnP_turn {p : Ps} (hB : Brd p.B) (h : pwI p = 0) : turnP (turnP p) = p := by
  obtain ⟨a0, a1, a2, a3, a4⟩ := right_pos h
  obtain ⟨ht, ⟨c0, c1⟩, e0, e1⟩ := (within_iff p).1 a1
  have o1 : otherI p.t = 1 - p.t := by unfold otherI; split <;> first | omega | (split <;> omega)
  have o2 : otherI (1 - p.t) = p.t := by unfold otherI; split <;> first | omega | (split <;> omega)
  obtain ⟨B, t, c, e⟩ := p
  unfold turnP
  dsimp only at *
  rw [turn_turn hB, o1, o2, (ex_at c0 c1).2.2.1]
  congr 1
  by_cases he : 0 ≤ e
  · exact (flI_on he (by omega)).2.2.2.2.1
  · have : e = -1 := by omega
    subst this; rfl
end Go.Proofs.YtkebpchhpidogaaGreatDoor
namespace Go.Proofs.YtkebpchhpidogaaGreatDoor
open Go.RowKit
set_option linter.unusedVariables false
set_option linter.unusedSimpArgs false

def Fp20 : Ps := ⟨Fb, 0, 15, 20⟩
theorem Fp_ok : pwI Fp = 0 := by decide +kernel
theorem Fp20_no : pwI Fp20 = 11 := by decide +kernel
theorem pwrong_first (w : World) (hT : Tabs w) : Calls Tryz.prog 20 #[.agg (pl Fp).toArray] w fun e w' => e = .returned (.int .i64 0) ∧ Kept w w' := by
  have := pwrong_is Fp Fp_brd w hT
  rwa [Fp_ok] at this
theorem pwrong_20 (w : World) (hT : Tabs w) : Calls Tryz.prog 20 #[.agg (pl Fp20).toArray] w fun e w' => e = .returned (.int .i64 11) ∧ Kept w w' := by
  have := pwrong_is Fp20 Fb_brd w hT
  rwa [Fp20_no] at this
end Go.Proofs.YtkebpchhpidogaaGreatDoor
