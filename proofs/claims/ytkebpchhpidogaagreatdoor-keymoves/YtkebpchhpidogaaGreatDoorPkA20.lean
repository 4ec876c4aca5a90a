/- The document's Formed. (Written by wip/mkmvj.py.) · The document's Right. (Written by wip/mkmvk.py.) · What the document makes: the numbers. (Written by wip/mkmvl.py.) · What the document makes is what the program makes: the numbers. -/
import Derived.Test.YtkebpchhpidogaaGreatDoorPkA16
import Derived.Test.YtkebpchhpidogaaGreatDoorPkA19
namespace Go.Proofs.YtkebpchhpidogaaGreatDoor
open Go.RowKit
set_option linter.unusedVariables false
set_option linter.unusedSimpArgs false
set_option maxRecDepth 100000

theorem i8_i64 {B : List Int} (hB : Brd B) {k : Nat} (hk : k < 64) : IntKind.i64.wrap (B.getD k 0) = B.getD k 0 := by
  have := hB.2 k hk
  exact IntWalk.i64_in _ (by omega)
end Go.Proofs.YtkebpchhpidogaaGreatDoor
namespace Go.Proofs.YtkebpchhpidogaaGreatDoor
open Go.RowKit
set_option linter.unusedVariables false
set_option linter.unusedSimpArgs false
set_option maxRecDepth 100000

def rlL : List Int := [1, 4, 6, 2, 4, 2, 4, 60, 62, 8, 60, 58]
def rlV : List Value := rlL.map (Value.int .i64)
theorem rl_at (k : Nat) (hk : k < 4) : rlL.getD (3 * k) 0 = hR k ∧ rlL.getD (3 * k + 1) 0 = hKg k ∧ rlL.getD (3 * k + 2) 0 = wTo k := by
  have : k = 0 ∨ k = 1 ∨ k = 2 ∨ k = 3 := by omega
  rcases this with rfl | rfl | rfl | rfl <;> exact ⟨rfl, rfl, rfl⟩
theorem rl_cell {w : World} {g : Nat} (h : w.heap[g]? = some (.cells rlV.toArray 3 (0, 0))) (j : Nat) (hj : j < 12) : w.cell? ⟨g, j, none⟩ = some (.int .i64 (rlL.getD j 0)) := by
  rw [cell_of_row _ _ j _ _ (0, 0) h]
  have : j < rlL.length := hj
  simp [rlV, List.getD, List.getElem?_eq_getElem this]
theorem hR_18 (k : Nat) (hk : k < 4) : 1 ≤ hR k ∧ hR k ≤ 8 := by
  have : k = 0 ∨ k = 1 ∨ k = 2 ∨ k = 3 := by omega
  rcases this with rfl | rfl | rfl | rfl <;> decide
end Go.Proofs.YtkebpchhpidogaaGreatDoor
namespace Go.Proofs.YtkebpchhpidogaaGreatDoor
open Go.RowKit
set_option linter.unusedVariables false
set_option linter.unusedSimpArgs false
set_option maxRecDepth 100000

/-- The board that the document makes, step by step. -/
def rs2 (p : Ps) (f t : Nat) (B : List Int) : List Int := B.set t (p.B.getD f 0)
def rs3 (p : Ps) (m : Mv) (t : Nat) (B : List Int) : List Int := if 0 < m.p then B.set t (mkI m.p p.t) else B
def rs5 (p : Ps) (m : Mv) (f : Nat) (B : List Int) : List Int := if castN p m = 0 ∨ castN p m = 2 then (B.set (f + 1) (mkI 4 p.t)).set (f + 3) 0 else B
def rs6 (p : Ps) (m : Mv) (f : Nat) (B : List Int) : List Int := if castN p m = 1 ∨ castN p m = 3 then (B.set (f - 1) (mkI 4 p.t)).set (f - 4) 0 else B
def rbehB (p : Ps) (m : Mv) (f t : Nat) : List Int := rs6 p m f (rs5 p m f ((rs3 p m t (rs2 p f t (st1 p m))).set f 0))
/-- The rights that stay. -/
def keepB (c : Int) (f t : Nat) (k : Nat) : Bool := rgtB c (hR k) && (lostI f / hR k % 2 == 0) && (lostI t / hR k % 2 == 0)
def qN (c : Int) (f t : Nat) : Nat → Int
  | 0 => 0
  | k + 1 => if keepB c f t k then qN c f t k + hR k else qN c f t k
theorem qN_bd (c : Int) (f t : Nat) : ∀ k, k ≤ 4 → 0 ≤ qN c f t k ∧ qN c f t k ≤ 8 * k
  | 0, _ => by simp [qN]
  | k + 1, h => by
    have := qN_bd c f t k (by omega)
    have := hR_bd k
    rw [qN]
    split <;> omega
def repI (p : Ps) (m : Mv) (f t : Nat) : Int := if pawnB p m && (((t : Int) - f == 16) || ((f : Int) - t == 16)) then ((f : Int) + t) / 2 else -1
def rbehP (p : Ps) (m : Mv) (f t : Nat) : Ps := ⟨rbehB p m f t, 1 - p.t, qN p.c f t 4, repI p m f t⟩
theorem mk_all : ∀ n : Fin 4, ∀ s : Fin 2, IntKind.i64.wrap (2 * ((s : Nat) : Int)) = 2 * ((s : Nat) : Int) ∧ IntKind.i64.wrap (2 * ((s : Nat) : Int) * ((((n : Nat)) : Int) + 2)) = 2 * ((s : Nat) : Int) * ((((n : Nat)) : Int) + 2) ∧
    IntKind.i64.wrap (((((n : Nat)) : Int) + 2) - 2 * ((s : Nat) : Int) * ((((n : Nat)) : Int) + 2)) = mkI ((((n : Nat)) : Int) + 2) ((s : Nat) : Int) ∧ IntKind.i8.wrap (mkI ((((n : Nat)) : Int) + 2) ((s : Nat) : Int)) = mkI ((((n : Nat)) : Int) + 2) ((s : Nat) : Int) := by decide +kernel
theorem mk_at {n s : Int} (h2 : 2 ≤ n) (h5 : n ≤ 5) (hs : s = 0 ∨ s = 1) : IntKind.i64.wrap (2 * s) = 2 * s ∧ IntKind.i64.wrap (2 * s * n) = 2 * s * n ∧ IntKind.i64.wrap (n - 2 * s * n) = mkI n s ∧ IntKind.i8.wrap (mkI n s) = mkI n s := by
  have := mk_all ⟨(n - 2).toNat, by omega⟩ ⟨s.toNat, by omega⟩
  simp only [show (((n - 2).toNat : Nat) : Int) + 2 = n by omega, show ((s.toNat : Nat) : Int) = s by omega] at this
  exact this
theorem rook_at {s : Int} (hs : s = 0 ∨ s = 1) : IntKind.i64.wrap (8 * s) = 8 * s ∧ IntKind.i64.wrap (4 - 8 * s) = 4 - 8 * s ∧ IntKind.i8.wrap (4 - 8 * s) = mkI 4 s := by
  rcases hs with rfl | rfl <;> decide
theorem lost_all : ∀ s : Fin 64, 0 ≤ lostI ((s : Nat) : Int) ∧ lostI ((s : Nat) : Int) ≤ 12 := by decide +kernel
theorem lost_bd {s : Nat} (h : s < 64) : 0 ≤ lostI (s : Int) ∧ lostI (s : Int) ≤ 12 := lost_all ⟨s, h⟩
theorem quo_hr {x : Int} (h0 : 0 ≤ x) (h1 : x ≤ 15) (k : Nat) (hk : k < 4) : IntKind.i64.wrap (x.tdiv (hR k)) = x / hR k ∧ (x / hR k).tmod 2 = x / hR k % 2 := by
  have h := hR_18 k hk
  have hq0 : 0 ≤ x / hR k := Int.ediv_nonneg h0 (by omega)
  have hq1 : x / hR k ≤ 15 := Int.le_trans (Int.ediv_le_self _ h0) h1
  rw [Int.tdiv_eq_ediv_of_nonneg h0, Int.tmod_eq_emod_of_nonneg hq0]
  exact ⟨IntWalk.i64_in _ (by omega), rfl⟩
/-- What castling tells of where the king stands. -/
theorem cast_f {p : Ps} {m : Mv} {f : Nat} (hf : m.f = f) {k : Nat} (hk : k < 4) (h : castN p m = k) : f = hKg k := by
  have := cast_is hk h
  unfold castB at this
  simp only [Bool.and_eq_true, beq_iff_eq] at this
  have := this.1.1.2
  omega
end Go.Proofs.YtkebpchhpidogaaGreatDoor
namespace Go.Proofs.YtkebpchhpidogaaGreatDoor
open Go.RowKit
set_option linter.unusedVariables false
set_option linter.unusedSimpArgs false
set_option maxRecDepth 100000

/-- The rights. -/
theorem lostB_all : ∀ s : Fin 64, ∀ k : Fin 4, (lostI ((s : Nat) : Int) / hR k % 2 == 0) = !((((s : Nat) : Int) == hKg k) || (((s : Nat) : Int) == hRk k)) := by decide +kernel
theorem lostB {s : Nat} (hs : s < 64) {k : Nat} (hk : k < 4) : (lostI (s : Int) / hR k % 2 == 0) = !(((s : Int) == hKg k) || ((s : Int) == hRk k)) := lostB_all ⟨s, hs⟩ ⟨k, hk⟩
theorem tc_keep {c : Int} {m : Mv} {f t : Nat} (hf : m.f = f) (ht : m.t = t) (f1 : f < 64) (t1 : t < 64) {k : Nat} (hk : k < 4) : keepB c f t k = (rgtB c (hR k) && !tcB m k) := by
  unfold keepB tcB
  rw [lostB f1 hk, lostB t1 hk, hf, ht]
  generalize ((f : Int) == hKg k) = a
  generalize ((f : Int) == hRk k) = b
  generalize ((t : Int) == hKg k) = c'
  generalize ((t : Int) == hRk k) = d
  cases rgtB c (hR k) <;> cases a <;> cases b <;> cases c' <;> cases d <;> rfl
def rtB (c : Int) (b0 b1 b2 b3 : Bool) : Int :=
  let x0 := if b0 then bits .andNot .i64 c 1 else c
  let x1 := if b1 then bits .andNot .i64 x0 2 else x0
  let x2 := if b2 then bits .andNot .i64 x1 4 else x1
  if b3 then bits .andNot .i64 x2 8 else x2
def qB (c : Int) (b0 b1 b2 b3 : Bool) : Int :=
  let x0 := if rgtB c 1 && !b0 then (0 : Int) + 1 else 0
  let x1 := if rgtB c 2 && !b1 then x0 + 2 else x0
  let x2 := if rgtB c 4 && !b2 then x1 + 4 else x1
  if rgtB c 8 && !b3 then x2 + 8 else x2
theorem rq_all : ∀ c : Fin 16, ∀ b0 b1 b2 b3 : Bool, rtB ((c : Nat) : Int) b0 b1 b2 b3 = qB ((c : Nat) : Int) b0 b1 b2 b3 ∧ 0 ≤ qB ((c : Nat) : Int) b0 b1 b2 b3 ∧ qB ((c : Nat) : Int) b0 b1 b2 b3 ≤ 15 ∧ bits .andNot .i64 (qB ((c : Nat) : Int) b0 b1 b2 b3) ((c : Nat) : Int) = 0 := by decide +kernel
theorem rtN_is (c : Int) (m : Mv) : rtN c m 4 = rtB c (tcB m 0) (tcB m 1) (tcB m 2) (tcB m 3) := rfl
theorem qN_is {c : Int} {m : Mv} {f t : Nat} (hf : m.f = f) (ht : m.t = t) (f1 : f < 64) (t1 : t < 64) : qN c f t 4 = qB c (tcB m 0) (tcB m 1) (tcB m 2) (tcB m 3) := by
  have k0 := tc_keep (c := c) hf ht f1 t1 (k := 0) (by omega)
  have k1 := tc_keep (c := c) hf ht f1 t1 (k := 1) (by omega)
  have k2 := tc_keep (c := c) hf ht f1 t1 (k := 2) (by omega)
  have k3 := tc_keep (c := c) hf ht f1 t1 (k := 3) (by omega)
  unfold qN qN qN qN qN qB
  rw [k0, k1, k2, k3]
  rfl
theorem rt_q {c : Int} (c0 : 0 ≤ c) (c1 : c ≤ 15) (b0 b1 b2 b3 : Bool) : rtB c b0 b1 b2 b3 = qB c b0 b1 b2 b3 ∧ 0 ≤ qB c b0 b1 b2 b3 ∧ qB c b0 b1 b2 b3 ≤ 15 ∧ bits .andNot .i64 (qB c b0 b1 b2 b3) c = 0 := by
  have := rq_all ⟨c.toNat, by omega⟩ b0 b1 b2 b3
  simp only [show ((c.toNat : Nat) : Int) = c by omega] at this
  exact this
theorem rt_bd {c : Int} (c0 : 0 ≤ c) (c1 : c ≤ 15) (m : Mv) : 0 ≤ rtN c m 4 ∧ rtN c m 4 ≤ 15 ∧ bits .andNot .i64 (rtN c m 4) c = 0 := by
  have := rt_q c0 c1 (tcB m 0) (tcB m 1) (tcB m 2) (tcB m 3)
  rw [rtN_is, this.1]
  exact this.2
/-- Ep. -/
theorem ep_eq {p : Ps} {m : Mv} {f t : Nat} (hf : m.f = f) (ht : m.t = t) : repI p m f t = epI p m := by
  unfold repI epI
  rw [hf, ht]
  have e : (((t : Int) - f == 16) || ((f : Int) - t == 16)) = (((f : Int) % 8 == (t : Int) % 8) && (farI (f : Int) (t : Int) == 2)) := by
    rw [Bool.eq_iff_iff]
    simp only [Bool.or_eq_true, Bool.and_eq_true, beq_iff_eq, farI]
    generalize hx : (f : Int) % 8 = x
    generalize hy : (t : Int) % 8 = y
    generalize hu : (f : Int) / 8 = u
    generalize hv : (t : Int) / 8 = v
    constructor
    · intro h; omega
    · intro h; omega
  rw [e, Bool.and_assoc]
/-- The boards: no castling. -/
theorem beh_plain {p : Ps} {m : Mv} {f t : Nat} (h : Fm p m f t) (hc : castN p m = 4) : rbehB p m f t = behB p m := by
  have hl1 : (st1 p m).length = 64 := st1_len h.brd.1
  have s2 : st2 p m (st1 p m) = st1 p m := by unfold st2; rw [hc, if_neg (by omega)]
  have r5 : ∀ B, rs5 p m f B = B := fun B => by unfold rs5; rw [hc, if_neg (by omega)]
  have r6 : ∀ B, rs6 p m f B = B := fun B => by unfold rs6; rw [hc, if_neg (by omega)]
  unfold rbehB behB
  rw [s2, r5, r6]
  have e0 : (st1 p m).getD f 0 = p.B.getD f 0 := by
    unfold st1
    split
    · next ht =>
      rw [getD_set _ _ _ _ (by have := take_lt (p := p) (m := m) ⟨by have := h.hf; omega, by have := h.hf; have := h.f1; omega, by have := h.ht; omega, by have := h.ht; have := h.t1; omega⟩; rw [h.brd.1]; omega), if_neg]
      intro e
      -- what is taken isn't the man's own square
      unfold takeB at ht
      have ht' : 0 ≤ takeI p m := by simpa using ht
      have hs : takeS p m = takeI p m := by unfold takeS; rw [if_pos ht']
      have hi : takeI p m = (f : Int) := by have : (takeS p m).toNat = f := e; omega
      unfold takeI at hi
      split at hi
      · exact h.ne (by have := h.ht; omega)
      · split at hi
        · -- in passing: a pawn of the other side stands there
          next he =>
          have ho := h.own
          unfold passI at hi
          split at hi
          · next hp =>
            obtain ⟨q0, q1, q2, q3, q4, q5⟩ := hp
            have : bAt p.B (p.e - 8) = p.B.getD f 0 := by unfold bAt; rw [hi, Int.toNat_natCast]
            rw [← this, q5, q0] at ho
            exact absurd ho (by decide)
          · split at hi
            · next hp =>
              obtain ⟨q0, q1, q2, q3, q4, q5⟩ := hp
              have : bAt p.B (p.e + 8) = p.B.getD f 0 := by unfold bAt; rw [hi, Int.toNat_natCast]
              rw [← this, q5, q0] at ho
              exact absurd ho (by decide)
            · omega
        · omega
    · rfl
  have hft := h.ne
  have ff : m.f.toNat = f := by rw [h.hf, Int.toNat_natCast]
  have tt : m.t.toNat = t := by rw [h.ht, Int.toNat_natCast]
  generalize hS1 : st1 p m = B1 at *
  have hf1 := h.f1
  have ht1 := h.t1
  have hp0 : (0 < m.p) ↔ (m.p != 0) = true := by
    have := promo_five' h.prm
    rw [bne_iff_ne]; omega
  refine ext_getD ?_ ?_ ?_
  · unfold rs3 rs2; split <;> simp [hl1]
  · exact st4_len (st3_len hl1)
  · intro j hj
    unfold rs3 rs2 st4 st3
    rw [ff, tt, e0]
    by_cases hm : 0 < m.p
    · rw [if_pos hm, if_pos (hp0.1 hm)]
      rw [getD_set _ _ _ _ (by simp [hl1]; omega), getD_set _ _ _ _ (by simp [hl1]; omega), getD_set _ _ _ _ (by omega), getD_set _ _ _ _ (by simp [hl1]; omega), getD_set _ _ _ _ (by simp [hl1]; omega), getD_set _ _ _ _ (by omega)]
      by_cases a : f = j
      · subst a; simp [hft.symm]
      · by_cases b : t = j
        · subst b; simp [hft]
        · simp [a, b]
    · rw [if_neg hm, if_neg (fun e => hm (hp0.2 e))]
      rw [getD_set _ _ _ _ (by simp [hl1]; omega), getD_set _ _ _ _ (by omega), getD_set _ _ _ _ (by simp [hl1]; omega), getD_set _ _ _ _ (by omega)]
      by_cases a : f = j
      · subst a; simp [hft.symm]
      · by_cases b : t = j
        · subst b; simp [hft]
        · simp [a, b]
/-- The boards: castling. -/
theorem beh_cast {p : Ps} {m : Mv} {f t : Nat} (h : Fm p m f t) {k : Nat} (hk : k < 4) (hc : castN p m = k) : rbehB p m f t = behB p m := by
  have c := cast_of h hk hc
  have s1 : st1 p m = p.B := by unfold st1 takeB; rw [c.no_take h]; rfl
  have hl := h.brd.1
  have hp := c.no_promo h
  have ff : m.f.toNat = f := by rw [h.hf, Int.toNat_natCast]
  have tt : m.t.toNat = t := by rw [h.ht, Int.toNat_natCast]
  have md : ((m.f + m.t) / 2).toNat = (f + t) / 2 := by rw [h.hf, h.ht]; omega
  have s4 : ∀ B, st4 p m B = B := fun B => by unfold st4; rw [hp]; rfl
  have r3 : ∀ B, rs3 p m t B = B := fun B => by unfold rs3; rw [hp]; rfl
  have e1 := c.ef
  have e2 := c.et
  have er := c.rook
  unfold rbehB behB st3 st2 rs2 rs5 rs6
  rw [s4, r3, s1, hc, if_pos hk, ff, tt, md, er]
  generalize mkI 4 p.t = r at *
  clear s4 r3 s1 hp ff tt md er c
  have : k = 0 ∨ k = 1 ∨ k = 2 ∨ k = 3 := by omega
  rcases this with rfl | rfl | rfl | rfl
  · have e1' : f = 4 := e1
    have e2' : t = 6 := e2
    subst e1' e2'
    rw [if_neg (by omega), if_pos (by omega)]
    refine ext_getD (by simp [hl]) (by simp [hl]) fun j hj => ?_
    rw [show hRk 0 = 7 from rfl, show (4 + 6) / 2 = 5 from rfl]
    rw [getD_set _ _ _ _ (by simp [hl]), getD_set _ _ _ _ (by simp [hl]), getD_set _ _ _ _ (by simp [hl]), getD_set _ _ _ _ (by simp [hl]), getD_set _ _ _ _ (by simp [hl]), getD_set _ _ _ _ (by simp [hl]), getD_set _ _ _ _ (by simp [hl]), getD_set _ _ _ _ (by simp [hl]), getD_set _ _ _ _ (by simp [hl]), getD_set _ _ _ _ (by simp [hl])]
    by_cases a0 : 4 = j
    · subst a0; rfl
    · by_cases a1 : 6 = j
      · subst a1; rfl
      · by_cases a2 : 5 = j
        · subst a2; rfl
        · by_cases a3 : 7 = j
          · subst a3; rfl
          · simp only [a0, a1, a2, a3, if_false]
  · have e1' : f = 4 := e1
    have e2' : t = 2 := e2
    subst e1' e2'
    rw [if_pos (by omega), if_neg (by omega)]
    refine ext_getD (by simp [hl]) (by simp [hl]) fun j hj => ?_
    rw [show hRk 1 = 0 from rfl, show (4 + 2) / 2 = 3 from rfl]
    rw [getD_set _ _ _ _ (by simp [hl]), getD_set _ _ _ _ (by simp [hl]), getD_set _ _ _ _ (by simp [hl]), getD_set _ _ _ _ (by simp [hl]), getD_set _ _ _ _ (by simp [hl]), getD_set _ _ _ _ (by simp [hl]), getD_set _ _ _ _ (by simp [hl]), getD_set _ _ _ _ (by simp [hl]), getD_set _ _ _ _ (by simp [hl]), getD_set _ _ _ _ (by simp [hl])]
    by_cases a0 : 4 = j
    · subst a0; rfl
    · by_cases a1 : 2 = j
      · subst a1; rfl
      · by_cases a2 : 3 = j
        · subst a2; rfl
        · by_cases a3 : 0 = j
          · subst a3; rfl
          · simp only [a0, a1, a2, a3, if_false]
  · have e1' : f = 60 := e1
    have e2' : t = 62 := e2
    subst e1' e2'
    rw [if_neg (by omega), if_pos (by omega)]
    refine ext_getD (by simp [hl]) (by simp [hl]) fun j hj => ?_
    rw [show hRk 2 = 63 from rfl, show (60 + 62) / 2 = 61 from rfl]
    rw [getD_set _ _ _ _ (by simp [hl]), getD_set _ _ _ _ (by simp [hl]), getD_set _ _ _ _ (by simp [hl]), getD_set _ _ _ _ (by simp [hl]), getD_set _ _ _ _ (by simp [hl]), getD_set _ _ _ _ (by simp [hl]), getD_set _ _ _ _ (by simp [hl]), getD_set _ _ _ _ (by simp [hl]), getD_set _ _ _ _ (by simp [hl]), getD_set _ _ _ _ (by simp [hl])]
    by_cases a0 : 60 = j
    · subst a0; rfl
    · by_cases a1 : 62 = j
      · subst a1; rfl
      · by_cases a2 : 61 = j
        · subst a2; rfl
        · by_cases a3 : 63 = j
          · subst a3; rfl
          · simp only [a0, a1, a2, a3, if_false]
  · have e1' : f = 60 := e1
    have e2' : t = 58 := e2
    subst e1' e2'
    rw [if_pos (by omega), if_neg (by omega)]
    refine ext_getD (by simp [hl]) (by simp [hl]) fun j hj => ?_
    rw [show hRk 3 = 56 from rfl, show (60 + 58) / 2 = 59 from rfl]
    rw [getD_set _ _ _ _ (by simp [hl]), getD_set _ _ _ _ (by simp [hl]), getD_set _ _ _ _ (by simp [hl]), getD_set _ _ _ _ (by simp [hl]), getD_set _ _ _ _ (by simp [hl]), getD_set _ _ _ _ (by simp [hl]), getD_set _ _ _ _ (by simp [hl]), getD_set _ _ _ _ (by simp [hl]), getD_set _ _ _ _ (by simp [hl]), getD_set _ _ _ _ (by simp [hl])]
    by_cases a0 : 60 = j
    · subst a0; rfl
    · by_cases a1 : 58 = j
      · subst a1; rfl
      · by_cases a2 : 59 = j
        · subst a2; rfl
        · by_cases a3 : 56 = j
          · subst a3; rfl
          · simp only [a0, a1, a2, a3, if_false]
theorem behB_eq {p : Ps} {m : Mv} {f t : Nat} (h : Fm p m f t) : rbehB p m f t = behB p m := by
  by_cases hc : castN p m < 4
  · exact beh_cast h hc rfl
  · exact beh_plain h (by have := castN_le p m; omega)
theorem behP_eq {p : Ps} {m : Mv} {f t : Nat} (h : Fm p m f t) : rbehP p m f t = behP p m := by
  obtain ⟨t01, ⟨c0, c1⟩, _⟩ := right_t h.right
  unfold rbehP behP
  rw [behB_eq h, other_at t01, ep_eq h.hf h.ht, rtN_is, qN_is h.hf h.ht h.f1 h.t1, (rt_q c0 c1 _ _ _ _).1]
end Go.Proofs.YtkebpchhpidogaaGreatDoor
