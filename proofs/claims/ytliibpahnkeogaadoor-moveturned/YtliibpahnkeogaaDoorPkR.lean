/- What the document makes is what the program makes: the numbers · Behind a move: how many men; the numbers of MoveMen · A move turned: the numbers · A move turned makes the turned position. -/
import Derived.Test.YtliibpahnkeogaaDoorPkL
import Derived.Test.YtliibpahnkeogaaDoorPkP
namespace Go.Proofs.YtliibpahnkeogaaDoor
open Go.RowKit
set_option linter.unusedVariables false
set_option linter.unusedSimpArgs false
set_option maxRecDepth 100000

theorem promo_five' {n : Int} (h : promoB n = true) : n = 0 ∨ n = 2 ∨ n = 3 ∨ n = 4 ∨ n = 5 := by
  unfold promoB at h
  simp only [Bool.or_eq_true, Bool.and_eq_true, beq_iff_eq, decide_eq_true_eq] at h
  omega
theorem other_at {t : Int} (h : t = 0 ∨ t = 1) : otherI t = 1 - t := by unfold otherI; split <;> first | omega | (split <;> omega)
/-- The rights. -/
theorem lostB_all : ∀ s : Fin 64, ∀ k : Fin 4, (lostI ((s : Nat) : Int) / hR k % 2 == 0) = !((((s : Nat) : Int) == hKg k) || (((s : Nat) : Int) == hRk k)) := by decide +kernel
theorem lostB {s : Nat} (hs : s < 64) {k : Nat} (hk : k < 4) : (lostI (s : Int) / hR k % 2 == 0) = !(((s : Int) == hKg k) || ((s : Int) == hRk k)) := lostB_all ⟨s, hs⟩ ⟨k, hk⟩
theorem tc_keep {c : Int} {m : Mv} {f t : Nat} (hf : m.f = f) (ht : m.t = t) (f1 : f < 64) (t1 : t < 64) {k : Nat} (hk : k < 4) : keepB c f t k = (rgtB c (hR k) && !tcB m k) := by
  unfold keepB tcB
  rw [lostB f1 hk, lostB t1 hk, hf, ht]
  generalize ((f : Int) == hKg k) = a
  generalize ((f : Int) == hRk k) = b
  generalize ((t : Int) == hKg k) = c'
  generalize ((t : Int) == hRk k) = d
  cases rgtB c (hR k) <;> cases a <;> cases b <;> cases c' <;> cases d <;> rfl
def rtB (c : Int) (b0 b1 b2 b3 : Bool) : Int :=
  let x0 := if b0 then bits .andNot .i64 c 1 else c
  let x1 := if b1 then bits .andNot .i64 x0 2 else x0
  let x2 := if b2 then bits .andNot .i64 x1 4 else x1
  if b3 then bits .andNot .i64 x2 8 else x2
def qB (c : Int) (b0 b1 b2 b3 : Bool) : Int :=
  let x0 := if rgtB c 1 && !b0 then (0 : Int) + 1 else 0
  let x1 := if rgtB c 2 && !b1 then x0 + 2 else x0
  let x2 := if rgtB c 4 && !b2 then x1 + 4 else x1
  if rgtB c 8 && !b3 then x2 + 8 else x2
theorem rq_all : ∀ c : Fin 16, ∀ b0 b1 b2 b3 : Bool, rtB ((c : Nat) : Int) b0 b1 b2 b3 = qB ((c : Nat) : Int) b0 b1 b2 b3 ∧ 0 ≤ qB ((c : Nat) : Int) b0 b1 b2 b3 ∧ qB ((c : Nat) : Int) b0 b1 b2 b3 ≤ 15 ∧ bits .andNot .i64 (qB ((c : Nat) : Int) b0 b1 b2 b3) ((c : Nat) : Int) = 0 := by decide +kernel
theorem rtN_is (c : Int) (m : Mv) : rtN c m 4 = rtB c (tcB m 0) (tcB m 1) (tcB m 2) (tcB m 3) := rfl
theorem qN_is {c : Int} {m : Mv} {f t : Nat} (hf : m.f = f) (ht : m.t = t) (f1 : f < 64) (t1 : t < 64) : qN c f t 4 = qB c (tcB m 0) (tcB m 1) (tcB m 2) (tcB m 3) := by
  have k0 := tc_keep (c := c) hf ht f1 t1 (k := 0) (by omega)
  have k1 := tc_keep (c := c) hf ht f1 t1 (k := 1) (by omega)
  have k2 := tc_keep (c := c) hf ht f1 t1 (k := 2) (by omega)
  have k3 := tc_keep (c := c) hf ht f1 t1 (k := 3) (by omega)
  unfold qN qN qN qN qN qB
  rw [k0, k1, k2, k3]
  rfl
theorem rt_q {c : Int} (c0 : 0 ≤ c) (c1 : c ≤ 15) (b0 b1 b2 b3 : Bool) : rtB c b0 b1 b2 b3 = qB c b0 b1 b2 b3 ∧ 0 ≤ qB c b0 b1 b2 b3 ∧ qB c b0 b1 b2 b3 ≤ 15 ∧ bits .andNot .i64 (qB c b0 b1 b2 b3) c = 0 := by
  have := rq_all ⟨c.toNat, by omega⟩ b0 b1 b2 b3
  simp only [show ((c.toNat : Nat) : Int) = c by omega] at this
  exact this
theorem rt_bd {c : Int} (c0 : 0 ≤ c) (c1 : c ≤ 15) (m : Mv) : 0 ≤ rtN c m 4 ∧ rtN c m 4 ≤ 15 ∧ bits .andNot .i64 (rtN c m 4) c = 0 := by
  have := rt_q c0 c1 (tcB m 0) (tcB m 1) (tcB m 2) (tcB m 3)
  rw [rtN_is, this.1]
  exact this.2
/-- Ep. -/
theorem ep_eq {p : Ps} {m : Mv} {f t : Nat} (hf : m.f = f) (ht : m.t = t) : repI p m f t = epI p m := by
  unfold repI epI
  rw [hf, ht]
  have e : (((t : Int) - f == 16) || ((f : Int) - t == 16)) = (((f : Int) % 8 == (t : Int) % 8) && (farI (f : Int) (t : Int) == 2)) := by
    rw [Bool.eq_iff_iff]
    simp only [Bool.or_eq_true, Bool.and_eq_true, beq_iff_eq, farI]
    generalize hx : (f : Int) % 8 = x
    generalize hy : (t : Int) % 8 = y
    generalize hu : (f : Int) / 8 = u
    generalize hv : (t : Int) / 8 = v
    constructor
    · intro h; omega
    · intro h; omega
  rw [e, Bool.and_assoc]
/-- What a formed move says. -/
structure Fm (p : Ps) (m : Mv) (f t : Nat) : Prop where
  hf : m.f = f
  ht : m.t = t
  f1 : f < 64
  t1 : t < 64
  brd : Brd p.B
  right : pwI p = 0
  t01 : p.t = 0 ∨ p.t = 1
  own : sideI (p.B.getD f 0) = p.t
  oth : sideI (p.B.getD t 0) ≠ p.t
  pro : ((kindI (p.B.getD f 0) == 1) && ((t : Int) / 8 == lastI p.t)) = (m.p != 0)
  prm : promoB m.p = true
theorem form_of {p : Ps} {m : Mv} (hB : Brd p.B) (h : okM p m = true) : ∃ f t : Nat, Fm p m f t := by
  obtain ⟨hw, hf⟩ := okM_right h
  have ho := okM_on h
  obtain ⟨f, ef⟩ := Int.eq_ofNat_of_zero_le ho.f0
  obtain ⟨t, et⟩ := Int.eq_ofNat_of_zero_le ho.t0
  have f1 : f < 64 := by have := ho.f1; omega
  have t1 : t < 64 := by have := ho.t1; omega
  have em : manA p.B m.f = p.B.getD f 0 := by unfold manA bAt; rw [if_pos ⟨ho.f0, ho.f1⟩, ef, Int.toNat_natCast]
  have en : manA p.B m.t = p.B.getD t 0 := by unfold manA bAt; rw [if_pos ⟨ho.t0, ho.t1⟩, et, Int.toNat_natCast]
  unfold formB turnsB at hf
  rw [em, en, et] at hf
  simp only [Bool.and_eq_true, beq_iff_eq, Bool.not_eq_true'] at hf
  obtain ⟨⟨⟨⟨h1, h2⟩, h3⟩, h4⟩, h5⟩ := hf
  exact ⟨f, t, ef, et, f1, t1, hB, hw, (right_t hw).1, h1, by simpa using h3, h4, h5⟩
theorem Fm.ne {p : Ps} {m : Mv} {f t : Nat} (h : Fm p m f t) : f ≠ t := by
  intro e
  have := h.own
  rw [e] at this
  exact h.oth this
theorem side_man {x t : Int} (ht : t = 0 ∨ t = 1) (h : sideI x = t) : manB x = true ∧ (t = 0 ↔ 0 < x) := by
  unfold sideI at h
  cases hb : manB x
  · rw [hb] at h; simp at h; omega
  · rw [hb, if_pos rfl] at h
    refine ⟨rfl, ?_⟩
    split at h <;> omega
/-- Castling: who castles is the king, at home; the rook stands at home; between them nobody. -/
structure Cs (p : Ps) (m : Mv) (f t k : Nat) : Prop where
  k4 : k < 4
  ef : f = hKg k
  et : t = wTo k
  king : p.B.getD f 0 = kgm k
  rook : p.B.getD (hRk k) 0 = mkI 4 p.t
  free : freeB p.B k = true
  side : p.t = hS k
theorem cast_of {p : Ps} {m : Mv} {f t : Nat} (h : Fm p m f t) {k : Nat} (hk : k < 4) (hc : castN p m = k) : Cs p m f t k := by
  have hb := cast_is hk hc
  unfold castB at hb
  simp only [Bool.and_eq_true, beq_iff_eq] at hb
  obtain ⟨⟨⟨h1, h2⟩, h3⟩, h4⟩ := hb
  have ef : f = hKg k := by have := h.hf; omega
  have et : t = wTo k := by have := h.ht; omega
  obtain ⟨q1, q2⟩ := cas_king (right_pos h.right).2.2.2.1 hk h1
  have hs : p.t = hS k := by
    have ho := h.own
    rw [ef, q1] at ho
    have : k = 0 ∨ k = 1 ∨ k = 2 ∨ k = 3 := by omega
    rcases this with rfl | rfl | rfl | rfl <;> exact ho.symm
  exact ⟨hk, ef, et, by rw [ef]; exact q1, by rw [hs]; exact q2, h4, hs⟩
theorem king_kind (k : Nat) (hk : k < 4) : (kindI (kgm k) == 1) = false ∧ kgm k ≠ 0 := by
  have : k = 0 ∨ k = 1 ∨ k = 2 ∨ k = 3 := by omega
  rcases this with rfl | rfl | rfl | rfl <;> exact ⟨rfl, by decide⟩
theorem Cs.no_promo {p : Ps} {m : Mv} {f t k : Nat} (c : Cs p m f t k) (h : Fm p m f t) : m.p = 0 := by
  have := h.pro
  rw [c.king, (king_kind k c.k4).1] at this
  have h2 := this.symm
  simpa using h2
theorem wTo_between (k : Nat) (hk : k < 4) : wLo k ≤ wTo k ∧ wTo k < wHi k := by
  have : k = 0 ∨ k = 1 ∨ k = 2 ∨ k = 3 := by omega
  rcases this with rfl | rfl | rfl | rfl <;> decide
theorem Cs.no_take {p : Ps} {m : Mv} {f t k : Nat} (c : Cs p m f t k) (h : Fm p m f t) : takeI p m = -1 := by
  have h0 : p.B.getD t 0 = 0 := by
    rw [c.et]
    exact (free_iff p.B k).1 c.free _ (wTo_lt k) (wTo_between k c.k4).1 (wTo_between k c.k4).2
  have e1 : bAt p.B m.t = 0 := by unfold bAt; rw [h.ht, Int.toNat_natCast]; exact h0
  have e2 : pawnB p m = false := by
    unfold pawnB bAt; rw [h.hf, Int.toNat_natCast, c.king]; exact (king_kind k c.k4).1
  unfold takeI epTake
  rw [if_neg (by simpa using e1), e2, Bool.false_and, Bool.false_and, if_neg (by decide)]
theorem getD_set (B : List Int) (i j : Nat) (x : Int) (h : i < B.length) : (B.set i x).getD j 0 = if i = j then x else B.getD j 0 := by
  rw [List.getD_eq_getElem?_getD, List.getElem?_set, List.getD_eq_getElem?_getD]
  split
  · rfl
  · rfl
theorem ext_getD {A B : List Int} (ha : A.length = 64) (hb : B.length = 64) (h : ∀ j, j < 64 → A.getD j 0 = B.getD j 0) : A = B := by
  refine List.ext_getElem (by omega) fun i h1 h2 => ?_
  have := h i (by omega)
  rwa [List.getD_eq_getElem?_getD, List.getD_eq_getElem?_getD, List.getElem?_eq_getElem h1, List.getElem?_eq_getElem h2] at this
/-- The boards: no castling. -/
theorem beh_plain {p : Ps} {m : Mv} {f t : Nat} (h : Fm p m f t) (hc : castN p m = 4) : rbehB p m f t = behB p m := by
  have hl1 : (st1 p m).length = 64 := st1_len h.brd.1
  have s2 : st2 p m (st1 p m) = st1 p m := by unfold st2; rw [hc, if_neg (by omega)]
  have r5 : ∀ B, rs5 p m f B = B := fun B => by unfold rs5; rw [hc, if_neg (by omega)]
  have r6 : ∀ B, rs6 p m f B = B := fun B => by unfold rs6; rw [hc, if_neg (by omega)]
  unfold rbehB behB
  rw [s2, r5, r6]
  have e0 : (st1 p m).getD f 0 = p.B.getD f 0 := by
    unfold st1
    split
    · next ht =>
      rw [getD_set _ _ _ _ (by have := take_lt (p := p) (m := m) ⟨by have := h.hf; omega, by have := h.hf; have := h.f1; omega, by have := h.ht; omega, by have := h.ht; have := h.t1; omega⟩; rw [h.brd.1]; omega), if_neg]
      intro e
      -- what is taken isn't the man's own square
      unfold takeB at ht
      have ht' : 0 ≤ takeI p m := by simpa using ht
      have hs : takeS p m = takeI p m := by unfold takeS; rw [if_pos ht']
      have hi : takeI p m = (f : Int) := by have : (takeS p m).toNat = f := e; omega
      unfold takeI at hi
      split at hi
      · exact h.ne (by have := h.ht; omega)
      · split at hi
        · -- in passing: a pawn of the other side stands there
          next he =>
          have ho := h.own
          unfold passI at hi
          split at hi
          · next hp =>
            obtain ⟨q0, q1, q2, q3, q4, q5⟩ := hp
            have : bAt p.B (p.e - 8) = p.B.getD f 0 := by unfold bAt; rw [hi, Int.toNat_natCast]
            rw [← this, q5, q0] at ho
            exact absurd ho (by decide)
          · split at hi
            · next hp =>
              obtain ⟨q0, q1, q2, q3, q4, q5⟩ := hp
              have : bAt p.B (p.e + 8) = p.B.getD f 0 := by unfold bAt; rw [hi, Int.toNat_natCast]
              rw [← this, q5, q0] at ho
              exact absurd ho (by decide)
            · omega
        · omega
    · rfl
  have hft := h.ne
  have ff : m.f.toNat = f := by rw [h.hf, Int.toNat_natCast]
  have tt : m.t.toNat = t := by rw [h.ht, Int.toNat_natCast]
  generalize hS1 : st1 p m = B1 at *
  have hf1 := h.f1
  have ht1 := h.t1
  have hp0 : (0 < m.p) ↔ (m.p != 0) = true := by
    have := promo_five' h.prm
    rw [bne_iff_ne]; omega
  refine ext_getD ?_ ?_ ?_
  · unfold rs3 rs2; split <;> simp [hl1]
  · exact st4_len (st3_len hl1)
  · intro j hj
    unfold rs3 rs2 st4 st3
    rw [ff, tt, e0]
    by_cases hm : 0 < m.p
    · rw [if_pos hm, if_pos (hp0.1 hm)]
      rw [getD_set _ _ _ _ (by simp [hl1]; omega), getD_set _ _ _ _ (by simp [hl1]; omega), getD_set _ _ _ _ (by omega), getD_set _ _ _ _ (by simp [hl1]; omega), getD_set _ _ _ _ (by simp [hl1]; omega), getD_set _ _ _ _ (by omega)]
      by_cases a : f = j
      · subst a; simp [hft.symm]
      · by_cases b : t = j
        · subst b; simp [hft]
        · simp [a, b]
    · rw [if_neg hm, if_neg (fun e => hm (hp0.2 e))]
      rw [getD_set _ _ _ _ (by simp [hl1]; omega), getD_set _ _ _ _ (by omega), getD_set _ _ _ _ (by simp [hl1]; omega), getD_set _ _ _ _ (by omega)]
      by_cases a : f = j
      · subst a; simp [hft.symm]
      · by_cases b : t = j
        · subst b; simp [hft]
        · simp [a, b]
/-- The boards: castling. -/
theorem beh_cast {p : Ps} {m : Mv} {f t : Nat} (h : Fm p m f t) {k : Nat} (hk : k < 4) (hc : castN p m = k) : rbehB p m f t = behB p m := by
  have c := cast_of h hk hc
  have s1 : st1 p m = p.B := by unfold st1 takeB; rw [c.no_take h]; rfl
  have hl := h.brd.1
  have hp := c.no_promo h
  have ff : m.f.toNat = f := by rw [h.hf, Int.toNat_natCast]
  have tt : m.t.toNat = t := by rw [h.ht, Int.toNat_natCast]
  have md : ((m.f + m.t) / 2).toNat = (f + t) / 2 := by rw [h.hf, h.ht]; omega
  have s4 : ∀ B, st4 p m B = B := fun B => by unfold st4; rw [hp]; rfl
  have r3 : ∀ B, rs3 p m t B = B := fun B => by unfold rs3; rw [hp]; rfl
  have e1 := c.ef
  have e2 := c.et
  have er := c.rook
  unfold rbehB behB st3 st2 rs2 rs5 rs6
  rw [s4, r3, s1, hc, if_pos hk, ff, tt, md, er]
  generalize mkI 4 p.t = r at *
  clear s4 r3 s1 hp ff tt md er c
  have : k = 0 ∨ k = 1 ∨ k = 2 ∨ k = 3 := by omega
  rcases this with rfl | rfl | rfl | rfl
  · have e1' : f = 4 := e1
    have e2' : t = 6 := e2
    subst e1' e2'
    rw [if_neg (by omega), if_pos (by omega)]
    refine ext_getD (by simp [hl]) (by simp [hl]) fun j hj => ?_
    rw [show hRk 0 = 7 from rfl, show (4 + 6) / 2 = 5 from rfl]
    rw [getD_set _ _ _ _ (by simp [hl]), getD_set _ _ _ _ (by simp [hl]), getD_set _ _ _ _ (by simp [hl]), getD_set _ _ _ _ (by simp [hl]), getD_set _ _ _ _ (by simp [hl]), getD_set _ _ _ _ (by simp [hl]), getD_set _ _ _ _ (by simp [hl]), getD_set _ _ _ _ (by simp [hl]), getD_set _ _ _ _ (by simp [hl]), getD_set _ _ _ _ (by simp [hl])]
    by_cases a0 : 4 = j
    · subst a0; rfl
    · by_cases a1 : 6 = j
      · subst a1; rfl
      · by_cases a2 : 5 = j
        · subst a2; rfl
        · by_cases a3 : 7 = j
          · subst a3; rfl
          · simp only [a0, a1, a2, a3, if_false]
  · have e1' : f = 4 := e1
    have e2' : t = 2 := e2
    subst e1' e2'
    rw [if_pos (by omega), if_neg (by omega)]
    refine ext_getD (by simp [hl]) (by simp [hl]) fun j hj => ?_
    rw [show hRk 1 = 0 from rfl, show (4 + 2) / 2 = 3 from rfl]
    rw [getD_set _ _ _ _ (by simp [hl]), getD_set _ _ _ _ (by simp [hl]), getD_set _ _ _ _ (by simp [hl]), getD_set _ _ _ _ (by simp [hl]), getD_set _ _ _ _ (by simp [hl]), getD_set _ _ _ _ (by simp [hl]), getD_set _ _ _ _ (by simp [hl]), getD_set _ _ _ _ (by simp [hl]), getD_set _ _ _ _ (by simp [hl]), getD_set _ _ _ _ (by simp [hl])]
    by_cases a0 : 4 = j
    · subst a0; rfl
    · by_cases a1 : 2 = j
      · subst a1; rfl
      · by_cases a2 : 3 = j
        · subst a2; rfl
        · by_cases a3 : 0 = j
          · subst a3; rfl
          · simp only [a0, a1, a2, a3, if_false]
  · have e1' : f = 60 := e1
    have e2' : t = 62 := e2
    subst e1' e2'
    rw [if_neg (by omega), if_pos (by omega)]
    refine ext_getD (by simp [hl]) (by simp [hl]) fun j hj => ?_
    rw [show hRk 2 = 63 from rfl, show (60 + 62) / 2 = 61 from rfl]
    rw [getD_set _ _ _ _ (by simp [hl]), getD_set _ _ _ _ (by simp [hl]), getD_set _ _ _ _ (by simp [hl]), getD_set _ _ _ _ (by simp [hl]), getD_set _ _ _ _ (by simp [hl]), getD_set _ _ _ _ (by simp [hl]), getD_set _ _ _ _ (by simp [hl]), getD_set _ _ _ _ (by simp [hl]), getD_set _ _ _ _ (by simp [hl]), getD_set _ _ _ _ (by simp [hl])]
    by_cases a0 : 60 = j
    · subst a0; rfl
    · by_cases a1 : 62 = j
      · subst a1; rfl
      · by_cases a2 : 61 = j
        · subst a2; rfl
        · by_cases a3 : 63 = j
          · subst a3; rfl
          · simp only [a0, a1, a2, a3, if_false]
  · have e1' : f = 60 := e1
    have e2' : t = 58 := e2
    subst e1' e2'
    rw [if_pos (by omega), if_neg (by omega)]
    refine ext_getD (by simp [hl]) (by simp [hl]) fun j hj => ?_
    rw [show hRk 3 = 56 from rfl, show (60 + 58) / 2 = 59 from rfl]
    rw [getD_set _ _ _ _ (by simp [hl]), getD_set _ _ _ _ (by simp [hl]), getD_set _ _ _ _ (by simp [hl]), getD_set _ _ _ _ (by simp [hl]), getD_set _ _ _ _ (by simp [hl]), getD_set _ _ _ _ (by simp [hl]), getD_set _ _ _ _ (by simp [hl]), getD_set _ _ _ _ (by simp [hl]), getD_set _ _ _ _ (by simp [hl]), getD_set _ _ _ _ (by simp [hl])]
    by_cases a0 : 60 = j
    · subst a0; rfl
    · by_cases a1 : 58 = j
      · subst a1; rfl
      · by_cases a2 : 59 = j
        · subst a2; rfl
        · by_cases a3 : 56 = j
          · subst a3; rfl
          · simp only [a0, a1, a2, a3, if_false]
theorem behB_eq {p : Ps} {m : Mv} {f t : Nat} (h : Fm p m f t) : rbehB p m f t = behB p m := by
  by_cases hc : castN p m < 4
  · exact beh_cast h hc rfl
  · exact beh_plain h (by have := castN_le p m; omega)
theorem behP_eq {p : Ps} {m : Mv} {f t : Nat} (h : Fm p m f t) : rbehP p m f t = behP p m := by
  obtain ⟨t01, ⟨c0, c1⟩, _⟩ := right_t h.right
  unfold rbehP behP
  rw [behB_eq h, other_at t01, ep_eq h.hf h.ht, rtN_is, qN_is h.hf h.ht h.f1 h.t1, (rt_q c0 c1 _ _ _ _).1]
end Go.Proofs.YtliibpahnkeogaaDoor
namespace Go.Proofs.YtliibpahnkeogaaDoor
open Go.RowKit
set_option linter.unusedVariables false
set_option linter.unusedSimpArgs false
set_option maxRecDepth 100000

/-- How many men stand on the first k squares. -/
def nz (x : Int) : Nat := if x = 0 then 0 else 1
def cN (B : List Int) : Nat → Nat
  | 0 => 0
  | k + 1 => cN B k + nz (B.getD k 0)
theorem cN_le (B : List Int) : ∀ k, cN B k ≤ k
  | 0 => Nat.le_refl _
  | k + 1 => by
    have := cN_le B k
    have : nz (B.getD k 0) ≤ 1 := by unfold nz; split <;> omega
    rw [cN]; omega
theorem cN_set (B : List Int) (i : Nat) (x : Int) (h : i < B.length) : ∀ k, cN (B.set i x) k + (if i < k then nz (B.getD i 0) else 0) = cN B k + (if i < k then nz x else 0)
  | 0 => by simp [cN]
  | k + 1 => by
    have := cN_set B i x h k
    rw [cN, cN, getD_set _ _ _ _ h]
    by_cases e : i = k
    · subst e
      rw [if_neg (by omega), if_neg (by omega)] at this
      rw [if_pos rfl, if_pos (by omega), if_pos (by omega)]
      omega
    · rw [if_neg e]
      by_cases l : i < k
      · rw [if_pos l, if_pos l] at this
        rw [if_pos (by omega), if_pos (by omega)]
        omega
      · rw [if_neg l, if_neg l] at this
        rw [if_neg (by omega), if_neg (by omega)]
        omega
theorem cN_64 {B : List Int} (hl : B.length = 64) {i : Nat} (hi : i < 64) (x : Int) : cN (B.set i x) 64 + nz (B.getD i 0) = cN B 64 + nz x := by
  have := cN_set B i x (by omega) 64
  rwa [if_pos hi, if_pos hi] at this
theorem nz_0 : nz 0 = 0 := rfl
theorem nz_1 {x : Int} (h : x ≠ 0) : nz x = 1 := by unfold nz; rw [if_neg h]
theorem own_ne {p : Ps} {m : Mv} {f t : Nat} (h : Fm p m f t) : p.B.getD f 0 ≠ 0 := by
  intro e
  have := h.own
  rw [e] at this
  have := h.t01
  rw [side_zero] at *
  omega
theorem Fm.on {p : Ps} {m : Mv} {f t : Nat} (h : Fm p m f t) : On m :=
  ⟨by have := h.hf; omega, by have := h.hf; have := h.f1; omega, by have := h.ht; omega, by have := h.ht; have := h.t1; omega⟩
/-- Where something is taken, a man of the other side stands. -/
theorem take_sq {p : Ps} {m : Mv} {f t : Nat} (h : Fm p m f t) (ht : 0 ≤ takeI p m) : (takeI p m).toNat < 64 ∧ p.B.getD (takeI p m).toNat 0 ≠ 0 ∧ (takeI p m).toNat ≠ f ∧ ((takeI p m).toNat = t ∨ p.B.getD t 0 = 0) := by
  have hlt : takeI p m < 64 := by
    have := take_lt (p := p) h.on
    unfold takeS at this
    rw [if_pos ht] at this
    exact this.2
  have hbt : bAt p.B m.t = p.B.getD t 0 := by unfold bAt; rw [h.ht, Int.toNat_natCast]
  by_cases h0 : bAt p.B m.t = 0
  · have hi : takeI p m = (if epTake p m then passI p else -1) := by unfold takeI; rw [if_neg (by simpa using h0)]
    split at hi
    · next he =>
      have hz : p.B.getD t 0 = 0 := by rw [← hbt]; exact h0
      have ho := h.own
      refine ⟨by omega, ?_⟩
      unfold passI at hi
      split at hi
      · next hp =>
        obtain ⟨q0, q1, q2, q3, q4, q5⟩ := hp
        have e5 : p.B.getD (takeI p m).toNat 0 = -1 := by rw [hi]; exact q5
        refine ⟨by rw [e5]; decide, ?_, .inr hz⟩
        intro e
        rw [e] at e5
        rw [e5, q0] at ho
        exact absurd ho (by decide)
      · split at hi
        · next hp =>
          obtain ⟨q0, q1, q2, q3, q4, q5⟩ := hp
          have e5 : p.B.getD (takeI p m).toNat 0 = 1 := by rw [hi]; exact q5
          refine ⟨by rw [e5]; decide, ?_, .inr hz⟩
          intro e
          rw [e] at e5
          rw [e5, q0] at ho
          exact absurd ho (by decide)
        · omega
    · omega
  · have hi : takeI p m = t := by unfold takeI; rw [if_pos h0]; exact h.ht
    rw [hi, Int.toNat_natCast]
    exact ⟨h.t1, by rw [← hbt]; exact h0, fun e => h.ne e.symm, .inl rfl⟩
theorem take_none {p : Ps} {m : Mv} {f t : Nat} (h : Fm p m f t) (ht : ¬ 0 ≤ takeI p m) : p.B.getD t 0 = 0 := by
  have hbt : bAt p.B m.t = p.B.getD t 0 := by unfold bAt; rw [h.ht, Int.toNat_natCast]
  by_cases h0 : bAt p.B m.t = 0
  · rw [← hbt]; exact h0
  · exfalso
    unfold takeI at ht
    rw [if_pos h0] at ht
    exact ht (by have := h.ht; omega)
theorem st1_cnt {p : Ps} {m : Mv} {f t : Nat} (h : Fm p m f t) : cN (st1 p m) 64 + (if takeB p m then 1 else 0) = cN p.B 64 ∧ (st1 p m).getD f 0 = p.B.getD f 0 ∧ (st1 p m).getD t 0 = 0 := by
  have hl := h.brd.1
  by_cases ht : 0 ≤ takeI p m
  · obtain ⟨a1, a2, a3, a4⟩ := take_sq h ht
    have hs : takeS p m = takeI p m := by unfold takeS; rw [if_pos ht]
    have hb : takeB p m = true := by unfold takeB; exact decide_eq_true ht
    have e : st1 p m = p.B.set (takeI p m).toNat 0 := by unfold st1; rw [hb, hs]; rfl
    rw [e, hb]
    have := cN_64 hl a1 0
    rw [nz_1 a2, nz_0] at this
    refine ⟨by simpa using this, ?_, ?_⟩
    · rw [getD_set _ _ _ _ (by omega), if_neg a3]
    · rw [getD_set _ _ _ _ (by omega)]
      rcases a4 with a4 | a4
      · rw [if_pos a4]
      · split
        · rfl
        · exact a4
  · have hb : takeB p m = false := by unfold takeB; exact decide_eq_false ht
    have e : st1 p m = p.B := by unfold st1; rw [hb]; rfl
    rw [e, hb]
    exact ⟨rfl, rfl, take_none h ht⟩
theorem cast_sq (k : Nat) (hk : k < 4) : (hKg k + wTo k) / 2 < 64 ∧ wLo k ≤ (hKg k + wTo k) / 2 ∧ (hKg k + wTo k) / 2 < wHi k ∧ (hKg k + wTo k) / 2 ≠ hRk k ∧ (hKg k + wTo k) / 2 ≠ hKg k ∧ (hKg k + wTo k) / 2 ≠ wTo k ∧ hRk k ≠ hKg k ∧ hRk k ≠ wTo k := by
  have : k = 0 ∨ k = 1 ∨ k = 2 ∨ k = 3 := by omega
  rcases this with rfl | rfl | rfl | rfl <;> decide
theorem st2_cnt {p : Ps} {m : Mv} {f t : Nat} (h : Fm p m f t) : cN (st2 p m (st1 p m)) 64 = cN (st1 p m) 64 ∧ (st2 p m (st1 p m)).getD f 0 = p.B.getD f 0 ∧ (st2 p m (st1 p m)).getD t 0 = 0 := by
  obtain ⟨h1, h2, h3⟩ := st1_cnt h
  by_cases hc : castN p m < 4
  · have c := cast_of h hc rfl
    have s1 : st1 p m = p.B := by unfold st1 takeB; rw [c.no_take h]; rfl
    have hl := h.brd.1
    have e : st2 p m (st1 p m) = (p.B.set (hRk (castN p m)) 0).set ((f + t) / 2) (p.B.getD (hRk (castN p m)) 0) := by
      unfold st2
      rw [if_pos hc, s1, show ((m.f + m.t) / 2).toNat = (f + t) / 2 by rw [h.hf, h.ht]; omega]
    have hr : p.B.getD (hRk (castN p m)) 0 ≠ 0 := by
      rw [c.rook]
      rcases h.t01 with q | q <;> rw [q] <;> decide
    obtain ⟨d1, d2, d3, d4, d5, d6, d7, d8⟩ := cast_sq (castN p m) hc
    have hrl := hRk_lt (castN p m)
    have hmd := (free_iff p.B _).1 c.free _ d1 d2 d3
    rw [← c.ef, ← c.et] at d1 hmd d4 d5 d6
    rw [← c.ef] at d7
    rw [← c.et] at d8
    rw [e, s1]
    rw [s1] at h3
    have l1 : (p.B.set (hRk (castN p m)) 0).length = 64 := by simpa using hl
    have c1 := cN_64 hl hrl 0
    have c2 := cN_64 l1 d1 (p.B.getD (hRk (castN p m)) 0)
    rw [getD_set _ _ _ _ (by omega), if_neg (fun x => d4 x.symm), hmd, nz_0] at c2
    rw [nz_0] at c1
    refine ⟨by omega, ?_, ?_⟩
    · rw [getD_set _ _ _ _ (by omega), if_neg d5, getD_set _ _ _ _ (by omega), if_neg d7]
    · rw [getD_set _ _ _ _ (by omega), if_neg d6, getD_set _ _ _ _ (by omega), if_neg d8]; exact h3
  · have e : st2 p m (st1 p m) = st1 p m := by unfold st2; rw [if_neg hc]
    rw [e]
    exact ⟨rfl, h2, h3⟩
theorem mk_ne {n t : Int} (h : n ≠ 0) : mkI n t ≠ 0 := by unfold mkI; split <;> omega
theorem beh_cnt {p : Ps} {m : Mv} {f t : Nat} (h : Fm p m f t) : cN (behB p m) 64 + (if takeB p m then 1 else 0) = cN p.B 64 ∧ (behB p m).getD f 0 = 0 ∧ (behB p m).getD t 0 ≠ 0 := by
  obtain ⟨a1, _, _⟩ := st1_cnt h
  obtain ⟨b1, b2, b3⟩ := st2_cnt h
  have hl2 : (st2 p m (st1 p m)).length = 64 := st2_len (st1_len h.brd.1)
  have ff : m.f.toNat = f := by rw [h.hf, Int.toNat_natCast]
  have tt : m.t.toNat = t := by rw [h.ht, Int.toNat_natCast]
  have hne := h.ne
  have hf1 := h.f1
  have ht1 := h.t1
  have ho := own_ne h
  have e3 : st3 m (st2 p m (st1 p m)) = ((st2 p m (st1 p m)).set f 0).set t (p.B.getD f 0) := by unfold st3; rw [ff, tt, b2]
  generalize hB2 : st2 p m (st1 p m) = B2 at *
  have l1 : (B2.set f 0).length = 64 := by simpa using hl2
  have c1 := cN_64 hl2 hf1 0
  have c2 := cN_64 l1 ht1 (p.B.getD f 0)
  rw [getD_set _ _ _ _ (by omega), if_neg hne, b3, nz_0] at c2
  rw [b2, nz_1 ho, nz_0] at c1
  rw [nz_1 ho] at c2
  have l3 : (st3 m B2).length = 64 := st3_len hl2
  have g1 : (st3 m B2).getD f 0 = 0 := by rw [e3, getD_set _ _ _ _ (by omega), if_neg hne.symm, getD_set _ _ _ _ (by omega), if_pos rfl]
  have g2 : (st3 m B2).getD t 0 ≠ 0 := by rw [e3, getD_set _ _ _ _ (by omega), if_pos rfl]; exact ho
  have eb : behB p m = st4 p m (st3 m B2) := by unfold behB; rw [hB2]
  rw [eb]
  unfold st4
  split
  · next hp =>
    have hm := mk_ne (t := p.t) (bne_iff_ne.1 hp)
    rw [tt]
    have c3 := cN_64 l3 ht1 (mkI m.p p.t)
    rw [nz_1 g2, nz_1 hm] at c3
    refine ⟨?_, ?_, ?_⟩
    · rw [e3] at c3 ⊢; omega
    · rw [getD_set _ _ _ _ (by omega), if_neg hne.symm]; exact g1
    · rw [getD_set _ _ _ _ (by omega), if_pos rfl]; exact hm
  · refine ⟨?_, g1, g2⟩
    rw [e3]; omega
end Go.Proofs.YtliibpahnkeogaaDoor
namespace Go.Proofs.YtliibpahnkeogaaDoor
open Go.RowKit
set_option linter.unusedVariables false
set_option linter.unusedSimpArgs false
set_option maxRecDepth 100000

/-- The move as the other side sees it. -/
def turnM (m : Mv) : Mv := ⟨flI m.f, flI m.t, m.p⟩
def swK (k : Nat) : Nat := [2, 3, 0, 1].getD k 4
theorem flN_lt {k : Nat} (h : k < 64) : flipN k < 64 := flipN_lt h
theorem flI_cast {k : Nat} (h : k < 64) : flI (k : Int) = (flipN k : Nat) := by
  have a := flI_on (s := (k : Int)) (by omega) (by omega)
  have b := (flI_nat (s := (k : Int)) (by omega) (by omega)).2
  rw [Int.toNat_natCast] at b
  omega
theorem flipN_div {k : Nat} (h : k < 64) : flipN k / 8 = 7 - k / 8 ∧ flipN k % 8 = k % 8 := by unfold flipN; omega
/-- Boards whose men are men. -/
def OkL (B : List Int) : Prop := B.length = 64 ∧ ∀ j, j < 64 → -6 ≤ B.getD j 0 ∧ B.getD j 0 ≤ 6
theorem OkL.brd {B : List Int} (h : OkL B) : Brd B := ⟨h.1, fun i hi => by have := h.2 i hi; omega⟩
theorem okL_of {p : Ps} (hB : Brd p.B) (h : pwI p = 0) : OkL p.B := by
  obtain ⟨a0, _⟩ := right_pos h
  obtain ⟨hr, _⟩ := king_one a0
  exact ⟨hB.1, fun j hj => okB_bd ((rightB_iff p.B hB.1).1 hr j hj)⟩
theorem OkL.turn {B : List Int} (h : OkL B) {j : Nat} (hj : j < 64) : (turnL B).getD j 0 = - B.getD (flipN j) 0 := by
  rw [turn_get B j hj]
  have := h.2 _ (flipN_lt hj)
  exact negI_is _ (by omega) (by omega)
theorem OkL.set {B : List Int} (h : OkL B) {i : Nat} (hi : i < 64) {x : Int} (h0 : -6 ≤ x) (h1 : x ≤ 6) : OkL (B.set i x) := by
  refine ⟨by simpa using h.1, fun j hj => ?_⟩
  rw [getD_set _ _ _ _ (by rw [h.1]; omega)]
  split
  · exact ⟨h0, h1⟩
  · exact h.2 j hj
theorem turn_len64 (B : List Int) : (turnL B).length = 64 := tab_length _
theorem turn_set {B : List Int} (h : OkL B) {i : Nat} (hi : i < 64) {x : Int} (h0 : -6 ≤ x) (h1 : x ≤ 6) : turnL (B.set i x) = (turnL B).set (flipN i) (-x) := by
  have hl := turn_len64 B
  refine ext_getD (turn_len64 _) (by simpa using hl) fun j hj => ?_
  rw [(h.set hi h0 h1).turn hj, getD_set _ _ _ _ (by rw [h.1]; omega), getD_set _ _ _ _ (by rw [hl]; exact flipN_lt hi), h.turn hj]
  by_cases e : i = flipN j
  · rw [if_pos e, if_pos (by rw [e]; exact flipN_flip hj)]
  · rw [if_neg e, if_neg (fun x => e (by rw [← x]; exact (flipN_flip hi).symm))]
theorem Fm.okL {p : Ps} {m : Mv} {f t : Nat} (h : Fm p m f t) : OkL p.B := okL_of h.brd h.right
theorem kind_mi {x : Int} : kindI (-x) = kindI x := by
  have hm : manB (-x) = manB x := by
    rw [Bool.eq_iff_iff, manB_iff, manB_iff]; omega
  unfold kindI
  rw [hm]
  split
  · next hb =>
    have := (manB_iff x).1 hb
    split <;> split <;> omega
  · rfl
theorem side_negT {x t : Int} (ht : t = 0 ∨ t = 1) : (sideI (-x) = 1 - t) ↔ sideI x = t := by
  have hm : manB (-x) = manB x := by
    rw [Bool.eq_iff_iff, manB_iff, manB_iff]; omega
  unfold sideI
  rw [hm]
  split
  · next hb =>
    have := (manB_iff x).1 hb
    split <;> split <;> omega
  · omega
theorem turnP_t {p : Ps} (h : p.t = 0 ∨ p.t = 1) : (turnP p).t = 1 - p.t := other_at h
theorem last_turn {t : Nat} (ht : t < 64) {s : Int} (hs : s = 0 ∨ s = 1) : (((flipN t : Nat) : Int) / 8 == lastI (1 - s)) = ((t : Int) / 8 == lastI s) := by
  have := flipN_div ht
  rw [Bool.eq_iff_iff, beq_iff_eq, beq_iff_eq]
  unfold lastI
  rcases hs with rfl | rfl
  · simp; omega
  · simp; omega
/-- The turned move is formed in the turned position. -/
theorem Fm.turn {p : Ps} {m : Mv} {f t : Nat} (h : Fm p m f t) : Fm (turnP p) (turnM m) (flipN f) (flipN t) := by
  have ok := h.okL
  have tf : (turnP p).B.getD (flipN f) 0 = - p.B.getD f 0 := by
    show (turnL p.B).getD (flipN f) 0 = _
    rw [ok.turn (flipN_lt h.f1), flipN_flip h.f1]
  have tt : (turnP p).B.getD (flipN t) 0 = - p.B.getD t 0 := by
    show (turnL p.B).getD (flipN t) 0 = _
    rw [ok.turn (flipN_lt h.t1), flipN_flip h.t1]
  have et := turnP_t h.t01
  refine ⟨?_, ?_, flipN_lt h.f1, flipN_lt h.t1, turn_brd h.brd, turnP_right h.brd h.right, by rw [et]; have := h.t01; omega, ?_, ?_, ?_, h.prm⟩
  · show flI m.f = _; rw [h.hf]; exact flI_cast h.f1
  · show flI m.t = _; rw [h.ht]; exact flI_cast h.t1
  · rw [tf, et]; exact (side_negT h.t01).2 h.own
  · rw [tt, et]; exact fun e => h.oth ((side_negT h.t01).1 e)
  · rw [tf, et, kind_mi, last_turn h.t1 h.t01]; exact h.pro
theorem Fm.ok {p : Ps} {m : Mv} {f t : Nat} (h : Fm p m f t) : okM p m = true := by
  have ho := h.on
  have em : manA p.B m.f = p.B.getD f 0 := by unfold manA bAt; rw [if_pos ⟨ho.f0, ho.f1⟩, h.hf, Int.toNat_natCast]
  have en : manA p.B m.t = p.B.getD t 0 := by unfold manA bAt; rw [if_pos ⟨ho.t0, ho.t1⟩, h.ht, Int.toNat_natCast]
  unfold okM formB turnsB
  rw [h.right, em, en, h.ht, h.own, h.pro, h.prm]
  have o1 : onB ((t : Nat) : Int) = true := by unfold onB; have := h.t1; simp; omega
  have o2 : (sideI (p.B.getD t 0) == p.t) = false := beq_eq_false_iff_ne.2 h.oth
  rw [o1, o2]
  simp
/-- What is taken. -/
theorem pass_val {q : Ps} (h : 0 ≤ passI q) : (q.t = 0 ∧ 40 ≤ q.e ∧ q.e < 48 ∧ passI q = q.e - 8) ∨ (q.t = 1 ∧ 16 ≤ q.e ∧ q.e < 24 ∧ passI q = q.e + 8) := by
  unfold passI at h ⊢
  split at h
  · next hc => left; rw [if_pos hc]; exact ⟨hc.1, hc.2.1, hc.2.2.1, rfl⟩
  · next hn =>
    split at h
    · next hc => right; rw [if_neg hn, if_pos hc]; exact ⟨hc.1, hc.2.1, hc.2.2.1, rfl⟩
    · omega
theorem pass_turnI {p : Ps} (hB : Brd p.B) (hr : pwI p = 0) (h : 0 ≤ passI p) : passI (turnP p) = flI (passI p) := by
  obtain ⟨a0, a1, _⟩ := right_pos hr
  obtain ⟨ht, _, _⟩ := (within_iff p).1 a1
  obtain ⟨hrb, _⟩ := king_one a0
  have h2 := pass_turn hB hrb ht h
  have et := turnP_t ht
  have ee : (turnP p).e = flI p.e := rfl
  rcases pass_val h with ⟨b1, b2, b3, b4⟩ | ⟨b1, b2, b3, b4⟩
  · rcases pass_val h2 with ⟨d1, d2, d3, d4⟩ | ⟨d1, d2, d3, d4⟩
    · omega
    · rw [d4, ee, b4]
      obtain ⟨_, _, _, _, _, g5⟩ := flI_on (s := p.e) (by omega) (by omega)
      obtain ⟨_, _, _, _, _, k5⟩ := flI_on (s := p.e - 8) (by omega) (by omega)
      omega
  · rcases pass_val h2 with ⟨d1, d2, d3, d4⟩ | ⟨d1, d2, d3, d4⟩
    · rw [d4, ee, b4]
      obtain ⟨_, _, _, _, _, g5⟩ := flI_on (s := p.e) (by omega) (by omega)
      obtain ⟨_, _, _, _, _, k5⟩ := flI_on (s := p.e + 8) (by omega) (by omega)
      omega
    · omega
theorem Fm.right_e {p : Ps} {m : Mv} {f t : Nat} (h : Fm p m f t) : -1 ≤ p.e ∧ p.e ≤ 63 := (right_t h.right).2.2
theorem bAt_f {p : Ps} {m : Mv} {f t : Nat} (h : Fm p m f t) : bAt p.B m.f = p.B.getD f 0 := by unfold bAt; rw [h.hf, Int.toNat_natCast]
theorem bAt_t {p : Ps} {m : Mv} {f t : Nat} (h : Fm p m f t) : bAt p.B m.t = p.B.getD t 0 := by unfold bAt; rw [h.ht, Int.toNat_natCast]
theorem sq_turn {p : Ps} (ok : OkL p.B) {k : Nat} (hk : k < 64) : (turnP p).B.getD (flipN k) 0 = - p.B.getD k 0 := by
  show (turnL p.B).getD (flipN k) 0 = _
  rw [ok.turn (flipN_lt hk), flipN_flip hk]
theorem pawn_turn {p : Ps} {m : Mv} {f t : Nat} (h : Fm p m f t) : pawnB (turnP p) (turnM m) = pawnB p m := by
  unfold pawnB
  rw [bAt_f h.turn, bAt_f h, sq_turn h.okL h.f1, kind_mi]
theorem file_turn {p : Ps} {m : Mv} {f t : Nat} (h : Fm p m f t) : (turnM m).f % 8 = m.f % 8 ∧ (turnM m).t % 8 = m.t % 8 := by
  have h1 := h.turn.hf
  have h2 := h.turn.ht
  have := flipN_div h.f1
  have := flipN_div h.t1
  have := h.hf
  have := h.ht
  omega
theorem ep_turn {p : Ps} {m : Mv} {f t : Nat} (h : Fm p m f t) : epTake (turnP p) (turnM m) = epTake p m := by
  unfold epTake
  have he : ((turnM m).t == (turnP p).e) = (m.t == p.e) := by
    rw [Bool.eq_iff_iff, beq_iff_eq, beq_iff_eq]
    show flI m.t = flI p.e ↔ _
    have hb := h.right_e
    have h2 := h.ht
    have h3 := h.t1
    obtain ⟨_, _, _, _, g4, _⟩ := flI_on (s := m.t) (by omega) (by omega)
    constructor
    · intro e
      by_cases hn : 0 ≤ p.e
      · obtain ⟨_, _, _, _, k4, _⟩ := flI_on (s := p.e) hn (by omega)
        rw [← g4, e, k4]
      · have : flI p.e = -1 := by unfold flI; rw [if_neg (by omega)]
        obtain ⟨g0, _⟩ := flI_on (s := m.t) (by omega) (by omega)
        omega
    · intro e; rw [e]
  rw [pawn_turn h, he, (file_turn h).1, (file_turn h).2]
theorem take_turn {p : Ps} {m : Mv} {f t : Nat} (h : Fm p m f t) : takeI (turnP p) (turnM m) = (if 0 ≤ takeI p m then flI (takeI p m) else -1) := by
  have e1 : bAt (turnP p).B (turnM m).t = - bAt p.B m.t := by rw [bAt_t h.turn, bAt_t h, sq_turn h.okL h.t1]
  by_cases h0 : bAt p.B m.t = 0
  · have a : takeI p m = (if epTake p m then passI p else -1) := by unfold takeI; rw [if_neg (by simpa using h0)]
    have b : takeI (turnP p) (turnM m) = (if epTake p m then passI (turnP p) else -1) := by unfold takeI; rw [if_neg (by rw [e1, h0]; decide), ep_turn h]
    rw [a, b]
    cases he : epTake p m
    · rfl
    · simp only [if_true]
      have hee : m.t = p.e := by unfold epTake at he; simp only [Bool.and_eq_true, beq_iff_eq] at he; exact he.1.2
      have hp : 0 ≤ passI p := by
        have := (right_pos h.right).2.2.2.2
        unfold epB passB at this
        rw [Bool.or_eq_true, decide_eq_true_eq, beq_iff_eq] at this
        rcases this with x | x
        · exact x
        · have := h.ht; omega
      rw [if_pos hp]
      exact pass_turnI h.brd h.right hp
  · have a : takeI p m = m.t := by unfold takeI; rw [if_pos h0]
    have b : takeI (turnP p) (turnM m) = (turnM m).t := by unfold takeI; rw [if_pos (by rw [e1]; omega)]
    rw [a, b, if_pos (by have := h.ht; omega)]
    rfl
/-- Castling. -/
theorem free_turn_all : ∀ k : Fin 4, swK k < 4 ∧ hKg (swK k) = flipN (hKg k) ∧ hRk (swK k) = flipN (hRk k) ∧ wTo (swK k) = flipN (wTo k) ∧ swK (swK k) = k := by decide +kernel
theorem sw_at {k : Nat} (hk : k < 4) : swK k < 4 ∧ hKg (swK k) = flipN (hKg k) ∧ hRk (swK k) = flipN (hRk k) ∧ wTo (swK k) = flipN (wTo k) ∧ swK (swK k) = k := free_turn_all ⟨k, hk⟩
theorem btw_turn_all : ∀ k : Fin 4, ∀ s : Fin 64, (wLo (swK k) ≤ flipN s ∧ flipN s < wHi (swK k)) ↔ (wLo k ≤ s ∧ (s : Nat) < wHi k) := by decide +kernel
theorem free_turn {p : Ps} (ok : OkL p.B) {k : Nat} (hk : k < 4) : freeB (turnP p).B (swK k) = freeB p.B k := by
  rw [Bool.eq_iff_iff, free_iff, free_iff]
  constructor
  · intro h s hs h1 h2
    have hb := (btw_turn_all ⟨k, hk⟩ ⟨s, hs⟩).2 ⟨h1, h2⟩
    have := h (flipN s) (flipN_lt hs) hb.1 hb.2
    rw [sq_turn ok hs] at this
    omega
  · intro h s hs h1 h2
    have hb := (btw_turn_all ⟨k, hk⟩ ⟨flipN s, flipN_lt hs⟩).1 ⟨by simp only [flipN_flip hs]; exact h1, by simp only [flipN_flip hs]; exact h2⟩
    have := h (flipN s) (flipN_lt hs) hb.1 hb.2
    have q := sq_turn ok (flipN_lt hs)
    rw [flipN_flip hs, this] at q
    simpa using q
theorem castB_turn {p : Ps} {m : Mv} {f t : Nat} (h : Fm p m f t) {k : Nat} (hk : k < 4) : castB (turnP p) (turnM m) (swK k) = castB p m k := by
  obtain ⟨s1, s2, s3, s4, s5⟩ := sw_at hk
  obtain ⟨_, ⟨c0, c1⟩, _⟩ := right_t h.right
  obtain ⟨_, _, _, r1, r2, r4, r8⟩ := ex_at c0 c1
  unfold castB
  have hr : rgtB (turnP p).c (hR (swK k)) = rgtB p.c (hR k) := by
    show rgtB (exI p.c) _ = _
    have : k = 0 ∨ k = 1 ∨ k = 2 ∨ k = 3 := by omega
    rcases this with rfl | rfl | rfl | rfl
    · exact r4
    · exact r8
    · exact r1
    · exact r2
  have hf : ((turnM m).f == ((hKg (swK k) : Nat) : Int)) = (m.f == ((hKg k : Nat) : Int)) := by
    rw [Bool.eq_iff_iff, beq_iff_eq, beq_iff_eq, h.turn.hf, h.hf, s2]
    have a := flipN_flip h.f1
    have b := flipN_flip (hKg_lt k)
    constructor
    · intro e
      have e' : flipN f = flipN (hKg k) := by omega
      rw [e'] at a
      omega
    · intro e
      have e' : f = hKg k := by omega
      rw [e']
  have ht : ((turnM m).t == ((wTo (swK k) : Nat) : Int)) = (m.t == ((wTo k : Nat) : Int)) := by
    rw [Bool.eq_iff_iff, beq_iff_eq, beq_iff_eq, h.turn.ht, h.ht, s4]
    have a := flipN_flip h.t1
    have b := flipN_flip (wTo_lt k)
    constructor
    · intro e
      have e' : flipN t = flipN (wTo k) := by omega
      rw [e'] at a
      omega
    · intro e
      have e' : t = wTo k := by omega
      rw [e']
  rw [hr, hf, ht, free_turn h.okL hk]
theorem cast_uniq {p : Ps} {m : Mv} {j k : Nat} (hj : j < 4) (hk : k < 4) (h1 : castB p m j = true) (h2 : castB p m k = true) : j = k := by
  unfold castB at h1 h2
  simp only [Bool.and_eq_true, beq_iff_eq] at h1 h2
  have e1 : wTo j = wTo k := by have := h1.1.2; have := h2.1.2; omega
  have : ∀ a b : Fin 4, wTo a = wTo b → a = b := by decide +kernel
  exact congrArg Fin.val (this ⟨j, hj⟩ ⟨k, hk⟩ e1)
theorem cast_some {p : Ps} {m : Mv} {k : Nat} (h : castB p m k = true) (hk : k < 4) : castN p m < 4 := by
  by_cases hc : castN p m < 4
  · exact hc
  · exfalso
    have hn : castN p m = 4 := by have := castN_le p m; omega
    unfold castN at hn
    have : k = 0 ∨ k = 1 ∨ k = 2 ∨ k = 3 := by omega
    rcases this with rfl | rfl | rfl | rfl
    · rw [if_pos h] at hn; omega
    · split at hn
      · omega
      · omega
    · split at hn
      · omega
      · split at hn
        · omega
        · omega
    · split at hn
      · omega
      · split at hn
        · omega
        · split at hn
          · omega
          · omega
theorem castN_turn {p : Ps} {m : Mv} {f t : Nat} (h : Fm p m f t) : castN (turnP p) (turnM m) = (if castN p m < 4 then swK (castN p m) else 4) := by
  by_cases hc : castN p m < 4
  · rw [if_pos hc]
    have hb := cast_is hc rfl
    rw [← castB_turn h hc] at hb
    have hs := (sw_at hc).1
    refine cast_at hs hb fun j hj => ?_
    rw [Bool.eq_false_iff]
    intro hx
    have := cast_uniq (by omega) hs hx hb
    omega
  · rw [if_neg hc]
    refine cast_none fun j hj => ?_
    obtain ⟨s1, _, _, _, s5⟩ := sw_at hj
    rw [← s5, castB_turn h s1, Bool.eq_false_iff]
    intro hx
    have := cast_some hx s1
    omega
end Go.Proofs.YtliibpahnkeogaaDoor
namespace Go.Proofs.YtliibpahnkeogaaDoor
open Go.RowKit
set_option linter.unusedVariables false
set_option linter.unusedSimpArgs false
set_option maxRecDepth 100000

theorem st1_ok {p : Ps} {m : Mv} {f t : Nat} (h : Fm p m f t) : OkL (st1 p m) := by
  unfold st1
  split
  · exact h.okL.set (by have := take_lt (p := p) h.on; omega) (by omega) (by omega)
  · exact h.okL
theorem st1_turn {p : Ps} {m : Mv} {f t : Nat} (h : Fm p m f t) : st1 (turnP p) (turnM m) = turnL (st1 p m) := by
  have e := take_turn h
  by_cases ht : 0 ≤ takeI p m
  · rw [if_pos ht] at e
    have a := take_on (p := p) (m := m) rfl ht
    have hl : takeI p m < 64 := by have := (take_lt (p := p) h.on).2; rw [a.1] at this; exact this
    obtain ⟨k, hk⟩ := Int.eq_ofNat_of_zero_le ht
    have hk64 : k < 64 := by omega
    have ef : flI (takeI p m) = (flipN k : Nat) := by rw [hk]; exact flI_cast hk64
    have b := take_on (p := turnP p) (m := turnM m) (e.trans ef) (by omega)
    have l : st1 p m = p.B.set k 0 := by unfold st1; rw [a.1, a.2, hk, Int.toNat_natCast]; rfl
    have r : st1 (turnP p) (turnM m) = (turnP p).B.set (flipN k) 0 := by unfold st1; rw [b.1, b.2, Int.toNat_natCast]; rfl
    rw [l, r, turn_set h.okL hk64 (by omega) (by omega)]
    rfl
  · rw [if_neg ht] at e
    have b := take_off e
    have l : st1 p m = p.B := by unfold st1 takeB; rw [decide_eq_false ht]; rfl
    have r : st1 (turnP p) (turnM m) = (turnP p).B := by unfold st1; rw [b.2]; rfl
    rw [l, r]
    rfl
theorem md_all : ∀ k : Fin 4, (flipN (hKg k) + flipN (wTo k)) / 2 = flipN ((hKg k + wTo k) / 2) := by decide +kernel
theorem mk4_bd (t : Int) : -6 ≤ mkI 4 t ∧ mkI 4 t ≤ 6 := by unfold mkI; split <;> omega
theorem st2_ok {p : Ps} {m : Mv} {f t : Nat} (h : Fm p m f t) {B : List Int} (ok : OkL B) : OkL (st2 p m B) := by
  unfold st2
  split
  · next hc =>
    have hr := hRk_lt (castN p m)
    have hb := ok.2 _ hr
    refine (ok.set hr (by omega) (by omega)).set ?_ hb.1 hb.2
    have := h.hf
    have := h.ht
    have := h.f1
    have := h.t1
    omega
  · exact ok
theorem st2_turn {p : Ps} {m : Mv} {f t : Nat} (h : Fm p m f t) {B : List Int} (ok : OkL B) : st2 (turnP p) (turnM m) (turnL B) = turnL (st2 p m B) := by
  have e := castN_turn h
  by_cases hc : castN p m < 4
  · rw [if_pos hc] at e
    obtain ⟨s1, s2, s3, s4, s5⟩ := sw_at hc
    have c := cast_of h hc rfl
    have hr := hRk_lt (castN p m)
    have hb := ok.2 _ hr
    have hmd : ((m.f + m.t) / 2).toNat = (f + t) / 2 := by rw [h.hf, h.ht]; omega
    have hmd' : (((turnM m).f + (turnM m).t) / 2).toNat = flipN ((f + t) / 2) := by
      rw [h.turn.hf, h.turn.ht]
      have := md_all ⟨castN p m, hc⟩
      simp only at this
      rw [← c.ef, ← c.et] at this
      omega
    have hm64 : (f + t) / 2 < 64 := by have := h.f1; have := h.t1; omega
    unfold st2
    rw [e, if_pos s1, if_pos hc, hmd, hmd', s3]
    rw [turn_set (ok.set hr (by omega) (by omega)) hm64 hb.1 hb.2, turn_set ok hr (by omega) (by omega), ok.turn (flipN_lt hr), flipN_flip hr]
    rfl
  · rw [if_neg hc] at e
    unfold st2
    rw [e, if_neg hc, if_neg (by omega)]
theorem st3_ok {p : Ps} {m : Mv} {f t : Nat} (h : Fm p m f t) {B : List Int} (ok : OkL B) : OkL (st3 m B) := by
  unfold st3
  have ff : m.f.toNat = f := by rw [h.hf, Int.toNat_natCast]
  have tt : m.t.toNat = t := by rw [h.ht, Int.toNat_natCast]
  rw [ff, tt]
  have hb := ok.2 f h.f1
  exact (ok.set h.f1 (by omega) (by omega)).set h.t1 hb.1 hb.2
theorem st3_turn {p : Ps} {m : Mv} {f t : Nat} (h : Fm p m f t) {B : List Int} (ok : OkL B) : st3 (turnM m) (turnL B) = turnL (st3 m B) := by
  unfold st3
  have ff : m.f.toNat = f := by rw [h.hf, Int.toNat_natCast]
  have tt : m.t.toNat = t := by rw [h.ht, Int.toNat_natCast]
  have ff' : (turnM m).f.toNat = flipN f := by rw [h.turn.hf, Int.toNat_natCast]
  have tt' : (turnM m).t.toNat = flipN t := by rw [h.turn.ht, Int.toNat_natCast]
  have hb := ok.2 f h.f1
  rw [ff, tt, ff', tt', turn_set (ok.set h.f1 (by omega) (by omega)) h.t1 hb.1 hb.2, turn_set ok h.f1 (by omega) (by omega), ok.turn (flipN_lt h.f1), flipN_flip h.f1]
  rfl
theorem mk_bd {p : Ps} {m : Mv} {f t : Nat} (h : Fm p m f t) : -6 ≤ mkI m.p p.t ∧ mkI m.p p.t ≤ 6 := by
  have := promo_five' h.prm
  unfold mkI
  split <;> omega
theorem mk_turn {n t : Int} (ht : t = 0 ∨ t = 1) : mkI n (1 - t) = - mkI n t := by
  unfold mkI
  rcases ht with rfl | rfl
  · simp
  · simp
theorem st4_ok {p : Ps} {m : Mv} {f t : Nat} (h : Fm p m f t) {B : List Int} (ok : OkL B) : OkL (st4 p m B) := by
  unfold st4
  have tt : m.t.toNat = t := by rw [h.ht, Int.toNat_natCast]
  split
  · rw [tt]; exact ok.set h.t1 (mk_bd h).1 (mk_bd h).2
  · exact ok
theorem st4_turn {p : Ps} {m : Mv} {f t : Nat} (h : Fm p m f t) {B : List Int} (ok : OkL B) : st4 (turnP p) (turnM m) (turnL B) = turnL (st4 p m B) := by
  have tt : m.t.toNat = t := by rw [h.ht, Int.toNat_natCast]
  have tt' : (turnM m).t.toNat = flipN t := by rw [h.turn.ht, Int.toNat_natCast]
  have ep : (turnM m).p = m.p := rfl
  unfold st4
  rw [ep]
  split
  · rw [tt, tt', turn_set ok h.t1 (mk_bd h).1 (mk_bd h).2, turnP_t h.t01, mk_turn h.t01]
  · rfl
theorem behB_ok {p : Ps} {m : Mv} {f t : Nat} (h : Fm p m f t) : OkL (behB p m) := st4_ok h (st3_ok h (st2_ok h (st1_ok h)))
theorem behB_turn {p : Ps} {m : Mv} {f t : Nat} (h : Fm p m f t) : behB (turnP p) (turnM m) = turnL (behB p m) := by
  have o1 := st1_ok h
  have o2 := st2_ok h o1
  have o3 := st3_ok h o2
  unfold behB
  rw [st1_turn h, st2_turn h o1, st3_turn h o2, st4_turn h o3]
theorem tc_turn {p : Ps} {m : Mv} {f t : Nat} (h : Fm p m f t) {k : Nat} (hk : k < 4) : tcB (turnM m) (swK k) = tcB m k := by
  obtain ⟨s1, s2, s3, s4, s5⟩ := sw_at hk
  have key : ∀ a b : Nat, a < 64 → b < 64 → (((flipN a : Nat) : Int) == ((flipN b : Nat) : Int)) = ((a : Int) == (b : Int)) := by
    intro a b ha hb
    rw [Bool.eq_iff_iff, beq_iff_eq, beq_iff_eq]
    have x := flipN_flip ha
    have y := flipN_flip hb
    constructor
    · intro e
      have e' : flipN a = flipN b := by omega
      rw [e'] at x
      omega
    · intro e
      have e' : a = b := by omega
      rw [e']
  unfold tcB
  rw [h.turn.hf, h.turn.ht, h.hf, h.ht, s2, s3, key _ _ h.f1 (hKg_lt k), key _ _ h.t1 (hKg_lt k), key _ _ h.f1 (hRk_lt k), key _ _ h.t1 (hRk_lt k)]
theorem rt_ex_all : ∀ c : Fin 16, ∀ b0 b1 b2 b3 : Bool, rtB (exI ((c : Nat) : Int)) b2 b3 b0 b1 = exI (rtB ((c : Nat) : Int) b0 b1 b2 b3) := by decide +kernel
theorem rt_turn {p : Ps} {m : Mv} {f t : Nat} (h : Fm p m f t) : rtN (turnP p).c (turnM m) 4 = exI (rtN p.c m 4) := by
  obtain ⟨_, ⟨c0, c1⟩, _⟩ := right_t h.right
  rw [rtN_is, rtN_is]
  have t0 := tc_turn h (k := 0) (by omega)
  have t1 := tc_turn h (k := 1) (by omega)
  have t2 := tc_turn h (k := 2) (by omega)
  have t3 := tc_turn h (k := 3) (by omega)
  rw [show swK 0 = 2 from rfl] at t0
  rw [show swK 1 = 3 from rfl] at t1
  rw [show swK 2 = 0 from rfl] at t2
  rw [show swK 3 = 1 from rfl] at t3
  rw [t0, t1, t2, t3]
  have := rt_ex_all ⟨p.c.toNat, by omega⟩ (tcB m 0) (tcB m 1) (tcB m 2) (tcB m 3)
  simp only [show ((p.c.toNat : Nat) : Int) = p.c by omega] at this
  exact this
theorem epI_turn {p : Ps} {m : Mv} {f t : Nat} (h : Fm p m f t) : epI (turnP p) (turnM m) = flI (epI p m) := by
  have d1 := flipN_div h.f1
  have d2 := flipN_div h.t1
  have hf := h.hf
  have ht := h.ht
  have hf' := h.turn.hf
  have ht' := h.turn.ht
  have f1 := h.f1
  have t1 := h.t1
  have hfar : farI (turnM m).f (turnM m).t = farI m.f m.t := by
    have a1 : (turnM m).f % 8 = m.f % 8 := by omega
    have a2 : (turnM m).t % 8 = m.t % 8 := by omega
    have a3 : (turnM m).f / 8 = 7 - m.f / 8 := by omega
    have a4 : (turnM m).t / 8 = 7 - m.t / 8 := by omega
    unfold farI
    rw [a1, a2, a3, a4]
    generalize m.f % 8 = x
    generalize m.t % 8 = y
    generalize m.f / 8 = u
    generalize m.t / 8 = v
    omega
  unfold epI
  rw [pawn_turn h, (file_turn h).1, (file_turn h).2, hfar]
  split
  · next hc =>
    simp only [Bool.and_eq_true, beq_iff_eq, farI] at hc
    obtain ⟨⟨_, e1⟩, e2⟩ := hc
    obtain ⟨_, _, _, _, _, g5⟩ := flI_on (s := (m.f + m.t) / 2) (by omega) (by omega)
    have r : m.t - m.f = 16 ∨ m.f - m.t = 16 := by
      generalize hx : m.f % 8 = x at *
      generalize hy : m.t % 8 = y at *
      generalize hu : m.f / 8 = u at *
      generalize hv : m.t / 8 = v at *
      omega
    omega
  · rfl
theorem behP_turn {p : Ps} {m : Mv} {f t : Nat} (h : Fm p m f t) : behP (turnP p) (turnM m) = turnP (behP p m) := by
  unfold behP
  rw [behB_turn h, rt_turn h, epI_turn h]
  rfl
theorem epI_bd {p : Ps} {m : Mv} {f t : Nat} (h : Fm p m f t) : -1 ≤ epI p m ∧ epI p m ≤ 63 := by
  have := h.hf
  have := h.ht
  have := h.f1
  have := h.t1
  unfold epI
  split <;> omega
theorem xor_all : ∀ k : Fin 64, bits .xor .i64 ((k : Nat) : Int) 56 = flI ((k : Nat) : Int) := by decide +kernel
theorem xor_at {x : Int} (h0 : 0 ≤ x) (h1 : x < 64) : bits .xor .i64 x 56 = flI x := by
  have := xor_all ⟨x.toNat, by omega⟩
  simp only [show ((x.toNat : Nat) : Int) = x by omega] at this
  exact this
end Go.Proofs.YtliibpahnkeogaaDoor
