/- Behind a move: how many men; the numbers of MoveMen · What stands behind a move by which a man goes: numbers alone · The walk of KeyMoves · A board that comes in: opened to its numbers, and read again as it was. -/
import Derived.Test.YtkebpchhpidogaaGreatDoorPkA01
import Derived.Test.YtkebpchhpidogaaGreatDoorPkA07
import Derived.Test.YtkebpchhpidogaaGreatDoorPkA17
import Derived.Test.YtkebpchhpidogaaGreatDoorPkA19
import Derived.Test.YtkebpchhpidogaaGreatDoorPkA20
import Derived.ProofKit
import Derived.OpenShut
import Derived.DataBytes
namespace Go.Proofs.YtkebpchhpidogaaGreatDoor
open Go.RowKit
set_option linter.unusedVariables false
set_option linter.unusedSimpArgs false
set_option maxRecDepth 100000

/-- How many men stand on the first k squares. -/
def nz (x : Int) : Nat := if x = 0 then 0 else 1
def cN (B : List Int) : Nat → Nat
  | 0 => 0
  | k + 1 => cN B k + nz (B.getD k 0)
theorem cN_le (B : List Int) : ∀ k, cN B k ≤ k
  | 0 => Nat.le_refl _
  | k + 1 => by
    have := cN_le B k
    have : nz (B.getD k 0) ≤ 1 := by unfold nz; split <;> omega
    rw [cN]; omega
theorem cN_set (B : List Int) (i : Nat) (x : Int) (h : i < B.length) : ∀ k, cN (B.set i x) k + (if i < k then nz (B.getD i 0) else 0) = cN B k + (if i < k then nz x else 0)
  | 0 => by simp [cN]
  | k + 1 => by
    have := cN_set B i x h k
    rw [cN, cN, getD_set _ _ _ _ h]
    by_cases e : i = k
    · subst e
      rw [if_neg (by omega), if_neg (by omega)] at this
      rw [if_pos rfl, if_pos (by omega), if_pos (by omega)]
      omega
    · rw [if_neg e]
      by_cases l : i < k
      · rw [if_pos l, if_pos l] at this
        rw [if_pos (by omega), if_pos (by omega)]
        omega
      · rw [if_neg l, if_neg l] at this
        rw [if_neg (by omega), if_neg (by omega)]
        omega
theorem cN_64 {B : List Int} (hl : B.length = 64) {i : Nat} (hi : i < 64) (x : Int) : cN (B.set i x) 64 + nz (B.getD i 0) = cN B 64 + nz x := by
  have := cN_set B i x (by omega) 64
  rwa [if_pos hi, if_pos hi] at this
theorem nz_0 : nz 0 = 0 := rfl
theorem nz_1 {x : Int} (h : x ≠ 0) : nz x = 1 := by unfold nz; rw [if_neg h]
theorem own_ne {p : Ps} {m : Mv} {f t : Nat} (h : Fm p m f t) : p.B.getD f 0 ≠ 0 := by
  intro e
  have := h.own
  rw [e] at this
  have := h.t01
  rw [side_zero] at *
  omega
theorem Fm.on {p : Ps} {m : Mv} {f t : Nat} (h : Fm p m f t) : On m :=
  ⟨by have := h.hf; omega, by have := h.hf; have := h.f1; omega, by have := h.ht; omega, by have := h.ht; have := h.t1; omega⟩
/-- Where something is taken, a man of the other side stands. -/
theorem take_sq {p : Ps} {m : Mv} {f t : Nat} (h : Fm p m f t) (ht : 0 ≤ takeI p m) : (takeI p m).toNat < 64 ∧ p.B.getD (takeI p m).toNat 0 ≠ 0 ∧ (takeI p m).toNat ≠ f ∧ ((takeI p m).toNat = t ∨ p.B.getD t 0 = 0) := by
  have hlt : takeI p m < 64 := by
    have := take_lt (p := p) h.on
    unfold takeS at this
    rw [if_pos ht] at this
    exact this.2
  have hbt : bAt p.B m.t = p.B.getD t 0 := by unfold bAt; rw [h.ht, Int.toNat_natCast]
  by_cases h0 : bAt p.B m.t = 0
  · have hi : takeI p m = (if epTake p m then passI p else -1) := by unfold takeI; rw [if_neg (by simpa using h0)]
    split at hi
    · next he =>
      have hz : p.B.getD t 0 = 0 := by rw [← hbt]; exact h0
      have ho := h.own
      refine ⟨by omega, ?_⟩
      unfold passI at hi
      split at hi
      · next hp =>
        obtain ⟨q0, q1, q2, q3, q4, q5⟩ := hp
        have e5 : p.B.getD (takeI p m).toNat 0 = -1 := by rw [hi]; exact q5
        refine ⟨by rw [e5]; decide, ?_, .inr hz⟩
        intro e
        rw [e] at e5
        rw [e5, q0] at ho
        exact absurd ho (by decide)
      · split at hi
        · next hp =>
          obtain ⟨q0, q1, q2, q3, q4, q5⟩ := hp
          have e5 : p.B.getD (takeI p m).toNat 0 = 1 := by rw [hi]; exact q5
          refine ⟨by rw [e5]; decide, ?_, .inr hz⟩
          intro e
          rw [e] at e5
          rw [e5, q0] at ho
          exact absurd ho (by decide)
        · omega
    · omega
  · have hi : takeI p m = t := by unfold takeI; rw [if_pos h0]; exact h.ht
    rw [hi, Int.toNat_natCast]
    exact ⟨h.t1, by rw [← hbt]; exact h0, fun e => h.ne e.symm, .inl rfl⟩
theorem take_none {p : Ps} {m : Mv} {f t : Nat} (h : Fm p m f t) (ht : ¬ 0 ≤ takeI p m) : p.B.getD t 0 = 0 := by
  have hbt : bAt p.B m.t = p.B.getD t 0 := by unfold bAt; rw [h.ht, Int.toNat_natCast]
  by_cases h0 : bAt p.B m.t = 0
  · rw [← hbt]; exact h0
  · exfalso
    unfold takeI at ht
    rw [if_pos h0] at ht
    exact ht (by have := h.ht; omega)
theorem st1_cnt {p : Ps} {m : Mv} {f t : Nat} (h : Fm p m f t) : cN (st1 p m) 64 + (if takeB p m then 1 else 0) = cN p.B 64 ∧ (st1 p m).getD f 0 = p.B.getD f 0 ∧ (st1 p m).getD t 0 = 0 := by
  have hl := h.brd.1
  by_cases ht : 0 ≤ takeI p m
  · obtain ⟨a1, a2, a3, a4⟩ := take_sq h ht
    have hs : takeS p m = takeI p m := by unfold takeS; rw [if_pos ht]
    have hb : takeB p m = true := by unfold takeB; exact decide_eq_true ht
    have e : st1 p m = p.B.set (takeI p m).toNat 0 := by unfold st1; rw [hb, hs]; rfl
    rw [e, hb]
    have := cN_64 hl a1 0
    rw [nz_1 a2, nz_0] at this
    refine ⟨by simpa using this, ?_, ?_⟩
    · rw [getD_set _ _ _ _ (by omega), if_neg a3]
    · rw [getD_set _ _ _ _ (by omega)]
      rcases a4 with a4 | a4
      · rw [if_pos a4]
      · split
        · rfl
        · exact a4
  · have hb : takeB p m = false := by unfold takeB; exact decide_eq_false ht
    have e : st1 p m = p.B := by unfold st1; rw [hb]; rfl
    rw [e, hb]
    exact ⟨rfl, rfl, take_none h ht⟩
theorem cast_sq (k : Nat) (hk : k < 4) : (hKg k + wTo k) / 2 < 64 ∧ wLo k ≤ (hKg k + wTo k) / 2 ∧ (hKg k + wTo k) / 2 < wHi k ∧ (hKg k + wTo k) / 2 ≠ hRk k ∧ (hKg k + wTo k) / 2 ≠ hKg k ∧ (hKg k + wTo k) / 2 ≠ wTo k ∧ hRk k ≠ hKg k ∧ hRk k ≠ wTo k := by
  have : k = 0 ∨ k = 1 ∨ k = 2 ∨ k = 3 := by omega
  rcases this with rfl | rfl | rfl | rfl <;> decide
theorem st2_cnt {p : Ps} {m : Mv} {f t : Nat} (h : Fm p m f t) : cN (st2 p m (st1 p m)) 64 = cN (st1 p m) 64 ∧ (st2 p m (st1 p m)).getD f 0 = p.B.getD f 0 ∧ (st2 p m (st1 p m)).getD t 0 = 0 := by
  obtain ⟨h1, h2, h3⟩ := st1_cnt h
  by_cases hc : castN p m < 4
  · have c := cast_of h hc rfl
    have s1 : st1 p m = p.B := by unfold st1 takeB; rw [c.no_take h]; rfl
    have hl := h.brd.1
    have e : st2 p m (st1 p m) = (p.B.set (hRk (castN p m)) 0).set ((f + t) / 2) (p.B.getD (hRk (castN p m)) 0) := by
      unfold st2
      rw [if_pos hc, s1, show ((m.f + m.t) / 2).toNat = (f + t) / 2 by rw [h.hf, h.ht]; omega]
    have hr : p.B.getD (hRk (castN p m)) 0 ≠ 0 := by
      rw [c.rook]
      rcases h.t01 with q | q <;> rw [q] <;> decide
    obtain ⟨d1, d2, d3, d4, d5, d6, d7, d8⟩ := cast_sq (castN p m) hc
    have hrl := hRk_lt (castN p m)
    have hmd := (free_iff p.B _).1 c.free _ d1 d2 d3
    rw [← c.ef, ← c.et] at d1 hmd d4 d5 d6
    rw [← c.ef] at d7
    rw [← c.et] at d8
    rw [e, s1]
    rw [s1] at h3
    have l1 : (p.B.set (hRk (castN p m)) 0).length = 64 := by simpa using hl
    have c1 := cN_64 hl hrl 0
    have c2 := cN_64 l1 d1 (p.B.getD (hRk (castN p m)) 0)
    rw [getD_set _ _ _ _ (by omega), if_neg (fun x => d4 x.symm), hmd, nz_0] at c2
    rw [nz_0] at c1
    refine ⟨by omega, ?_, ?_⟩
    · rw [getD_set _ _ _ _ (by omega), if_neg d5, getD_set _ _ _ _ (by omega), if_neg d7]
    · rw [getD_set _ _ _ _ (by omega), if_neg d6, getD_set _ _ _ _ (by omega), if_neg d8]; exact h3
  · have e : st2 p m (st1 p m) = st1 p m := by unfold st2; rw [if_neg hc]
    rw [e]
    exact ⟨rfl, h2, h3⟩
theorem mk_ne {n t : Int} (h : n ≠ 0) : mkI n t ≠ 0 := by unfold mkI; split <;> omega
theorem beh_cnt {p : Ps} {m : Mv} {f t : Nat} (h : Fm p m f t) : cN (behB p m) 64 + (if takeB p m then 1 else 0) = cN p.B 64 ∧ (behB p m).getD f 0 = 0 ∧ (behB p m).getD t 0 ≠ 0 := by
  obtain ⟨a1, _, _⟩ := st1_cnt h
  obtain ⟨b1, b2, b3⟩ := st2_cnt h
  have hl2 : (st2 p m (st1 p m)).length = 64 := st2_len (st1_len h.brd.1)
  have ff : m.f.toNat = f := by rw [h.hf, Int.toNat_natCast]
  have tt : m.t.toNat = t := by rw [h.ht, Int.toNat_natCast]
  have hne := h.ne
  have hf1 := h.f1
  have ht1 := h.t1
  have ho := own_ne h
  have e3 : st3 m (st2 p m (st1 p m)) = ((st2 p m (st1 p m)).set f 0).set t (p.B.getD f 0) := by unfold st3; rw [ff, tt, b2]
  generalize hB2 : st2 p m (st1 p m) = B2 at *
  have l1 : (B2.set f 0).length = 64 := by simpa using hl2
  have c1 := cN_64 hl2 hf1 0
  have c2 := cN_64 l1 ht1 (p.B.getD f 0)
  rw [getD_set _ _ _ _ (by omega), if_neg hne, b3, nz_0] at c2
  rw [b2, nz_1 ho, nz_0] at c1
  rw [nz_1 ho] at c2
  have l3 : (st3 m B2).length = 64 := st3_len hl2
  have g1 : (st3 m B2).getD f 0 = 0 := by rw [e3, getD_set _ _ _ _ (by omega), if_neg hne.symm, getD_set _ _ _ _ (by omega), if_pos rfl]
  have g2 : (st3 m B2).getD t 0 ≠ 0 := by rw [e3, getD_set _ _ _ _ (by omega), if_pos rfl]; exact ho
  have eb : behB p m = st4 p m (st3 m B2) := by unfold behB; rw [hB2]
  rw [eb]
  unfold st4
  split
  · next hp =>
    have hm := mk_ne (t := p.t) (bne_iff_ne.1 hp)
    rw [tt]
    have c3 := cN_64 l3 ht1 (mkI m.p p.t)
    rw [nz_1 g2, nz_1 hm] at c3
    refine ⟨?_, ?_, ?_⟩
    · rw [e3] at c3 ⊢; omega
    · rw [getD_set _ _ _ _ (by omega), if_neg hne.symm]; exact g1
    · rw [getD_set _ _ _ _ (by omega), if_pos rfl]; exact hm
  · refine ⟨?_, g1, g2⟩
    rw [e3]; omega
end Go.Proofs.YtkebpchhpidogaaGreatDoor
namespace Go.Proofs.YtkebpchhpidogaaGreatDoor
open Go.RowKit
set_option linter.unusedVariables false
set_option linter.unusedSimpArgs false
set_option maxRecDepth 100000

/-- Who stands where behind a formed move. -/
theorem beh_at {p : Ps} {m : Mv} {f t : Nat} (h : Fm p m f t) {j : Nat} (hj : j < 64) :
    (j = t ∧ (behB p m).getD j 0 = if m.p != 0 then mkI m.p p.t else p.B.getD f 0) ∨ (j ≠ t ∧ ((behB p m).getD j 0 = 0 ∨ (castN p m < 4 ∧ (behB p m).getD j 0 = mkI 4 p.t ∧ p.B.getD j 0 = 0) ∨ (j ≠ f ∧ (behB p m).getD j 0 = p.B.getD j 0))) := by
  have hl := h.brd.1
  have l1 : (st1 p m).length = 64 := st1_len hl
  have l2 : (st2 p m (st1 p m)).length = 64 := st2_len l1
  have l3 : (st3 m (st2 p m (st1 p m))).length = 64 := st3_len l2
  obtain ⟨_, s2f, _⟩ := st2_cnt h
  have ef : m.f.toNat = f := by rw [h.hf, Int.toNat_natCast]
  have et : m.t.toNat = t := by rw [h.ht, Int.toNat_natCast]
  have h3 : ∀ i, (st3 m (st2 p m (st1 p m))).getD i 0 = if t = i then p.B.getD f 0 else if f = i then 0 else (st2 p m (st1 p m)).getD i 0 := by
    intro i
    unfold st3
    rw [ef, et, getD_set _ _ _ _ (by rw [List.length_set, l2]; exact h.t1), getD_set _ _ _ _ (by rw [l2]; exact h.f1), s2f]
  have h4 : (behB p m).getD j 0 = if t = j then (if m.p != 0 then mkI m.p p.t else p.B.getD f 0) else if f = j then 0 else (st2 p m (st1 p m)).getD j 0 := by
    unfold behB st4
    by_cases hp : (m.p != 0) = true
    · rw [if_pos hp, if_pos hp, et, getD_set _ _ _ _ (by rw [l3]; exact h.t1), h3]
      split <;> rfl
    · rw [if_neg hp, if_neg hp, h3]
  have h1 : (st1 p m).getD j 0 = 0 ∨ (st1 p m).getD j 0 = p.B.getD j 0 := by
    unfold st1
    split
    · have := take_lt (p := p) (okM_on (show okM p m = true from by
        have hf : formB p m = true := by
          unfold formB turnsB onB
          have em : manA p.B m.f = p.B.getD f 0 := by unfold manA bAt; rw [h.hf, Int.toNat_natCast, if_pos ⟨by omega, by have := h.f1; omega⟩]
          have en : manA p.B m.t = p.B.getD t 0 := by unfold manA bAt; rw [h.ht, Int.toNat_natCast, if_pos ⟨by omega, by have := h.t1; omega⟩]
          rw [em, en, h.ht, h.pro, h.prm, h.own]
          have h6 : (sideI (p.B.getD t 0) == p.t) = false := beq_eq_false_iff_ne.2 h.oth
          have := h.t1
          rw [h6]
          simp
          omega
        unfold okM; rw [h.right, hf]; rfl))
      rw [getD_set _ _ _ _ (by rw [hl]; omega)]
      split
      · exact .inl rfl
      · exact .inr rfl
    · exact .inr rfl
  rw [h4]
  by_cases hjt : t = j
  · left; exact ⟨hjt.symm, by rw [if_pos hjt]⟩
  · right
    refine ⟨fun e => hjt e.symm, ?_⟩
    rw [if_neg hjt]
    by_cases hjf : f = j
    · left; rw [if_pos hjf]
    · rw [if_neg hjf]
      unfold st2
      split
      · next hc =>
        have c := cast_of h hc rfl
        obtain ⟨q1, q2, q3, q4, q5, q6, q7, q8⟩ := cast_sq _ c.k4
        have em : ((m.f + m.t) / 2).toNat = (hKg (castN p m) + wTo (castN p m)) / 2 := by
          rw [h.hf, h.ht, c.ef, c.et]; omega
        rw [em, getD_set _ _ _ _ (by rw [List.length_set, l1]; exact q1)]
        by_cases hm : (hKg (castN p m) + wTo (castN p m)) / 2 = j
        · rw [if_pos hm]
          have hnt := c.no_take h
          have e1 : st1 p m = p.B := by unfold st1 takeB; rw [hnt]; rfl
          rw [e1, c.rook]
          right; left
          exact ⟨hc, rfl, by rw [← hm]; exact (free_iff p.B _).1 c.free _ q1 q2 q3⟩
        · rw [if_neg hm, getD_set _ _ _ _ (by rw [l1]; have := c.k4; have : hRk (castN p m) < 64 := (by unfold hRk; rcases (castN p m) with _ | _ | _ | _ | k <;> simp); exact this)]
          split
          · exact .inl rfl
          · rcases h1 with e | e
            · exact .inl e
            · exact .inr (.inr ⟨fun e => hjf e.symm, e⟩)
      · rcases h1 with e | e
        · exact .inl e
        · exact .inr (.inr ⟨fun e => hjf e.symm, e⟩)
theorem goes_ok {p : Ps} {m : Mv} (hr : pwI p = 0) (h : goesM p m = true) : okM p m = true := by unfold okM; rw [hr, goes_form h]; rfl
theorem mk_kind {n t : Int} (h0 : 2 ≤ n) (h1 : n ≤ 6) : mkI n t ≠ 1 ∧ mkI n t ≠ -1 := by unfold mkI; split <;> omega
/-- No pawn stands on the first or last rank. -/
theorem beh_edge {p : Ps} {m : Mv} (hB : Brd p.B) (hr : pwI p = 0) (hg : goesM p m = true) {j : Nat} (hj : j < 64) (hx : (behB p m).getD j 0 = 1 ∨ (behB p m).getD j 0 = -1) : 8 ≤ j ∧ j ≤ 55 := by
  obtain ⟨f, t, F⟩ := form_of hB (goes_ok hr hg)
  have hw := (right_pos hr).1
  rcases beh_at F hj with ⟨rfl, e⟩ | ⟨hne, e | ⟨_, e, _⟩ | ⟨_, e⟩⟩
  · rw [e] at hx
    by_cases hp : (m.p != 0) = true
    · rw [if_pos hp] at hx
      have h5 := promo_five' F.prm
      have hp' : m.p ≠ 0 := by simpa using hp
      have := mk_kind (n := m.p) (t := p.t) (by omega) (by omega)
      omega
    · rw [if_neg hp] at hx
      have hk : kindI (p.B.getD f 0) = 1 := by rcases hx with h | h <;> rw [h] <;> decide
      have P : Pw p f := ⟨hB, hr, F.f1, F.own, hk⟩
      have hpro := F.pro
      rw [hk] at hpro
      have hp0 : (m.p != 0) = false := by simpa using hp
      rw [hp0] at hpro
      have hlast : ¬ (j : Int) / 8 = lastI p.t := by simpa using hpro
      have hpw : pawnB p m = true := by unfold pawnB bAt; rw [F.hf, Int.toNat_natCast, hk]; rfl
      unfold goesM at hg
      rw [goes_form (by unfold goesM; exact hg), hpw, Bool.true_and, if_pos rfl] at hg
      unfold pgoB at hg
      rw [F.hf, F.ht] at hg
      simp only [Bool.or_eq_true, Bool.and_eq_true, beq_iff_eq] at hg
      have hrk := P.rank
      rcases P.turn with ⟨_, _, u, v, l⟩ | ⟨_, _, u, v, l⟩
      · rw [u, v] at hg
        rw [l] at hlast
        rcases hg with ⟨_, g⟩ | ⟨⟨⟨_, g⟩, g2⟩, _⟩ | ⟨g, _⟩
        · omega
        · omega
        · have := (P.hits g).2.2; rw [u] at this; omega
      · rw [u, v] at hg
        rw [l] at hlast
        rcases hg with ⟨_, g⟩ | ⟨⟨⟨_, g⟩, g2⟩, _⟩ | ⟨g, _⟩
        · omega
        · omega
        · have := (P.hits g).2.2; rw [u] at this; omega
  · rw [e] at hx; omega
  · rw [e] at hx
    have := mk_kind (n := 4) (t := p.t) (by omega) (by omega)
    omega
  · rw [e] at hx
    have hk : kindI (p.B.getD j 0) = 1 := by rcases hx with h | h <;> rw [h] <;> decide
    have := no_edge hw hj hk
    omega
/-- The king of who moves. -/
def kvI (t : Int) : Int := mkI 6 t
theorem one_king {B : List Int} (hw : wrongI B = 0) {s : Int} (hs : s = 0 ∨ s = 1) : ∃ k : Nat, k < 64 ∧ B.getD k 0 = kvI s ∧ ∀ j, j < 64 → B.getD j 0 = kvI s → j = k := by
  obtain ⟨k, hk, _, e⟩ := king_at hw hs
  refine ⟨k, hk, e, fun j hj ej => ?_⟩
  have hone : many B 6 s = 1 := by
    obtain ⟨_, a, b⟩ := king_one hw
    unfold manyI at a b
    rcases hs with rfl | rfl <;> omega
  have hh : ∀ i : Nat, B.getD i 0 = kvI s → hit 6 s (B.getD i 0) = true := by
    intro i ei
    rw [ei]
    rcases hs with rfl | rfl <;> decide
  unfold many cnt at hone
  obtain ⟨a, ha⟩ := List.length_eq_one_iff.1 hone
  have mj : j ∈ sel (fun i => hit 6 s (B.getD i 0)) 64 := by unfold sel; rw [List.mem_filter, List.mem_range]; exact ⟨hj, hh j ej⟩
  have mk : k ∈ sel (fun i => hit 6 s (B.getD i 0)) 64 := by unfold sel; rw [List.mem_filter, List.mem_range]; exact ⟨hk, hh k e⟩
  rw [ha, List.mem_singleton] at mj mk
  omega
theorem side_kv {t : Int} (ht : t = 0 ∨ t = 1) : sideI (kvI t) = t := by rcases ht with rfl | rfl <;> decide
theorem beh_king {p : Ps} {m : Mv} (hB : Brd p.B) (hr : pwI p = 0) (h : okM p m = true) : ∃ k : Nat, k < 64 ∧ ∀ j, j < 64 → ((behB p m).getD j 0 = kvI p.t ↔ j = k) := by
  obtain ⟨f, t, F⟩ := form_of hB h
  obtain ⟨k0, hk0, e0, u0⟩ := one_king (right_pos hr).1 F.t01
  have hkv : kvI p.t ≠ 0 ∧ kvI p.t ≠ mkI 4 p.t := by rcases F.t01 with e | e <;> rw [e] <;> decide
  have hpr : m.p ≠ 0 → mkI m.p p.t ≠ kvI p.t := by
    intro h0
    have := promo_five' F.prm
    unfold kvI mkI
    split <;> omega
  have hkt : k0 ≠ t := fun e => F.oth (by rw [← e, e0, side_kv F.t01])
  by_cases hf : p.B.getD f 0 = kvI p.t
  · have hfk := u0 f F.f1 hf
    refine ⟨t, F.t1, fun j hj => ⟨fun e => ?_, fun e => ?_⟩⟩
    · rcases beh_at F hj with ⟨q, _⟩ | ⟨_, q | ⟨_, q, _⟩ | ⟨q1, q⟩⟩
      · exact q
      · rw [q] at e; exact absurd e.symm hkv.1
      · rw [q] at e; exact absurd e.symm hkv.2
      · rw [q] at e; exact absurd (u0 j hj e) (by omega)
    · subst e
      rcases beh_at F hj with ⟨_, q⟩ | ⟨q, _⟩
      · rw [q]
        have hk : (kindI (p.B.getD f 0) == 1) = false := by rw [hf]; rcases F.t01 with e | e <;> rw [e] <;> decide
        have hp := F.pro
        rw [hk, Bool.false_and] at hp
        rw [← hp, if_neg (by decide)]
        exact hf
      · exact absurd rfl q
  · have hc : ¬ castN p m < 4 := fun hc => by
      have c := cast_of F hc rfl
      apply hf
      rw [c.king, c.side]
      have := c.k4
      generalize castN p m = k at this ⊢
      have : k = 0 ∨ k = 1 ∨ k = 2 ∨ k = 3 := by omega
      rcases this with rfl | rfl | rfl | rfl <;> decide
    refine ⟨k0, hk0, fun j hj => ⟨fun e => ?_, fun e => ?_⟩⟩
    · rcases beh_at F hj with ⟨_, q⟩ | ⟨_, q | ⟨q, _⟩ | ⟨_, q⟩⟩
      · rw [q] at e
        by_cases hp : (m.p != 0) = true
        · rw [if_pos hp] at e; exact absurd e (hpr (by simpa using hp))
        · rw [if_neg hp] at e; exact absurd e hf
      · rw [q] at e; exact absurd e.symm hkv.1
      · exact absurd q hc
      · rw [q] at e; exact u0 j hj e
    · subst e
      have l1 : (st1 p m).length = 64 := st1_len hB.1
      have e4 : castN p m = 4 := by have := castN_le p m; omega
      have kf : f ≠ j := fun e => hf (by rw [e]; exact e0)
      have kt : t ≠ j := fun e => hkt e.symm
      have ef : m.f.toNat = f := by rw [F.hf, Int.toNat_natCast]
      have et : m.t.toNat = t := by rw [F.ht, Int.toNat_natCast]
      have h1 : (st1 p m).getD j 0 = p.B.getD j 0 := by
        unfold st1
        split
        · next hb =>
          have ht : 0 ≤ takeI p m := by simpa [takeB] using hb
          obtain ⟨a1, a2, a3, a4⟩ := take_sq F ht
          have hs : takeS p m = takeI p m := by unfold takeS; rw [if_pos ht]
          rw [hs, getD_set _ _ _ _ (by rw [hB.1]; exact a1), if_neg]
          intro ej
          have hbt : bAt p.B m.t = p.B.getD t 0 := by unfold bAt; rw [F.ht, Int.toNat_natCast]
          by_cases h0 : bAt p.B m.t = 0
          · have hi : takeI p m = (if epTake p m then passI p else -1) := by unfold takeI; rw [if_neg (by simpa using h0)]
            split at hi
            · unfold passI at hi
              split at hi
              · next hp =>
                have e5 : p.B.getD (takeI p m).toNat 0 = -1 := by rw [hi]; exact hp.2.2.2.2.2
                rw [ej, e0] at e5
                rcases F.t01 with e | e <;> rw [e] at e5 <;> exact absurd e5 (by decide)
              · split at hi
                · next hp =>
                  have e5 : p.B.getD (takeI p m).toNat 0 = 1 := by rw [hi]; exact hp.2.2.2.2.2
                  rw [ej, e0] at e5
                  rcases F.t01 with e | e <;> rw [e] at e5 <;> exact absurd e5 (by decide)
                · omega
            · omega
          · have hi : takeI p m = t := by unfold takeI; rw [if_pos h0]; exact F.ht
            rw [hi, Int.toNat_natCast] at ej
            exact kt ej
        · rfl
      have e2 : st2 p m (st1 p m) = st1 p m := by unfold st2; rw [if_neg (by omega)]
      have h3 : (st3 m (st2 p m (st1 p m))).getD j 0 = p.B.getD j 0 := by
        rw [e2]
        unfold st3
        rw [ef, et, getD_set _ _ _ _ (by rw [List.length_set, l1]; exact F.t1), if_neg kt, getD_set _ _ _ _ (by rw [l1]; exact F.f1), if_neg kf, h1]
      unfold behB st4
      split
      · rw [et, getD_set _ _ _ _ (by rw [st3_len (st2_len l1)]; exact F.t1), if_neg kt, h3]; exact e0
      · rw [h3]; exact e0
theorem cnt_one_all : ∀ a : Fin 64, cnt (fun j => j == a.val) 64 = 1 := by decide +kernel
theorem beh_kings {p : Ps} {m : Mv} (hB : Brd p.B) (hr : pwI p = 0) (h : okM p m = true) : cnt (fun j => (behB p m).getD j 0 == kvI p.t) 64 = 1 := by
  obtain ⟨k, hk, hu⟩ := beh_king hB hr h
  rw [← cnt_one_all ⟨k, hk⟩]
  unfold cnt sel
  congr 1
  apply List.filter_congr
  intro j hj
  have := hu j (List.mem_range.1 hj)
  rw [Bool.eq_iff_iff, beq_iff_eq, beq_iff_eq]
  exact this
end Go.Proofs.YtkebpchhpidogaaGreatDoor
namespace Go.Proofs.YtkebpchhpidogaaGreatDoor
open Go.RowKit
set_option linter.unusedVariables false
set_option linter.unusedSimpArgs false
set_option maxRecDepth 100000

theorem mem_allR {p : Ps} {m : Mv} (h : m ∈ allR p) : pwI p = 0 ∧ goesM p m = true := by
  unfold allR at h
  split at h
  · next hr => exact ⟨hr, (mem_allN (right_t hr).1).1 h⟩
  · cases h
/-- Behind a move by which a man goes the board's numbers have eight bits. -/
theorem goes_brd {p : Ps} {m : Mv} (hB : Brd p.B) (hr : pwI p = 0) (hg : goesM p m = true) : Brd (behB p m) := by
  obtain ⟨f, t, F⟩ := form_of hB (goes_ok hr hg)
  refine ⟨behB_len hB.1, fun j hj => ?_⟩
  have bj := hB.2 j hj
  have bf := hB.2 f F.f1
  rcases beh_at F hj with ⟨rfl, e⟩ | ⟨_, e | ⟨_, e, _⟩ | ⟨_, e⟩⟩
  · rw [e]
    split
    · next hp =>
      have h5 := promo_five' F.prm
      have hp' : m.p ≠ 0 := by simpa using hp
      unfold mkI
      split <;> omega
    · exact bf
  · rw [e]; decide
  · rw [e]; unfold mkI; split <;> omega
  · rw [e]; exact bj
set_option maxHeartbeats 8000000 in
theorem walkKeyMoves (p : Ps) (hB : Brd p.B) (w : World) (hT : TabG w) :
    Calls Tryz.prog 3 #[.agg (pl p).toArray] w fun e w' => e = .returned (.bool true) ∧ Kept w w' := by
  have HP := Lib.hid (PAt.new w hB.1)
  have HK0 := Lib.hid ((Kept.refl w).alloc (.cells (pl p).toArray 26))
  have HT := Lib.hid (hT.kept HK0.out)
  have hpl : Hid (p.B.length = 64) := hB.1
  have HAl := Lib.hid (fun g a w hT hE => all_is g a p hB w hT hE)
  have HMk := Lib.hid (fun m (h : m ∈ allR p) => make_yes p hB m (goes_ok (mem_allR h).1 (mem_allR h).2))
  have HO := Lib.hid (kof_is p hB)
  have HBh : Hid (∀ m, m ∈ allR p → ∀ w, Calls Tryz.prog 9 #[.int .u64 (keyP p), .agg (pl p).toArray, .agg (pl (behP p m)).toArray] w fun e w' => e = .returned (.int .u64 (keyP (behP p m))) ∧ Kept w w') := fun m h w => by
    have := kbehind_is (keyP p) (key_u p) p (behP p m) hB (goes_brd hB (mem_allR h).1 (mem_allR h).2) w
    rwa [beh_key] at this
  have HRf : Hid (∀ m, m ∈ allR p → ∀ w, Calls Tryz.prog 10 #[.agg (pl (behP p m)).toArray] w fun e w' => e = .returned (.int .u64 (keyP (behP p m))) ∧ Kept w w') := fun m h w =>
    krof_is (behP p m) (goes_brd hB (mem_allR h).1 (mem_allR h).2) w
  have HLen : Hid (∀ m, (behP p m).B.length = 64) := fun m => behB_len hB.1
  generalize keyP p = kk at *
  generalize hL : allR p = L at *
  clear hB hT hL
  go_enter Tryz.func3, Tryz.ntmps3
  go_wp2_with fail
  refine (key_wakes _).mono ?_
  rintro e w1 ⟨rfl, k1⟩
  have HK1 := Lib.hid k1
  have HP1 := Lib.hid (HP.out.kept k1)
  clear k1
  go_wp2_with (first | (refine wpList_load_ps (by rfl) _ rfl _ rfl _ (HP1.out) ?_) | (refine wpList_load_pb (by rfl) _ rfl _ rfl _ (HP1.out) ?_))
  refine (HO.out _).mono ?_
  rintro e w2 ⟨rfl, k2⟩
  have HK2 := Lib.hid (HK1.out.trans k2)
  have HP2 := Lib.hid (HP1.out.kept k2)
  have HT2 := Lib.hid (HT.out.kept HK2.out)
  clear k2 HK1 HP1
  go_wp2
  refine wp_region_held_drew (S := Kept _) (by kernel_rfl) (Kept.refl _).drew (fun hHeld => ?_)
  refine rY 1 13 rfl rfl (take_load_ps (by rfl) _ rfl _ rfl p hpl.out (fun _ h => (HP2.out).kept h)) hHeld ?_
  simp only [Act.put, sA, sZ, sU]
  refine rT 4 16 (.int .i64 0) rfl rfl hHeld ?_
  simp only [pA, pN, sZ, sU]
  refine rR 0 rfl (fun K hK => ?_)
  go_simp
  refine (gnew_is _).mono ?_
  rintro e w3 ⟨g, a, rfl, hE, k3⟩
  refine hK.out _ _ (hHeld.trans k3) (fun _ => ?_)
  replace hHeld := hHeld.trans k3
  have HE := Lib.hid hE
  clear hK K hE k3
  refine rR 2 rfl (fun K hK => ?_)
  go_simp
  refine (HAl.out g a _ (HT2.out.kept hHeld) HE.out).mono ?_
  rintro e X ⟨vX, rfl, hoX, gX⟩
  obtain ⟨aX, cX, rfl⟩ := hoX.slice
  have HOX := Lib.hid hoX
  clear hoX
  refine hK.out _ _ (hHeld.trans gX) (fun _ => ?_)
  replace hHeld := hHeld.trans gX
  clear hK K
  refine rT 3 15 (.int .i64 (L.length : Int)) rfl rfl hHeld ?_
  simp only [pA, pN, sZ, sU]
  refine wpAnyH_done (by kernel_rfl) ?_ _
  have HKX := Lib.hid (HK2.out.trans hHeld)
  obtain ⟨gl, hls, _⟩ := HOX.out.ls
  have HLs := Lib.hid hls
  generalize hn : L.length = n at *
  have HN := Lib.hid hn
  clear hHeld gX hls hn
  go_wp2
  go_loopw [16] (fun t16 wr => ∃ k : Nat, k ≤ n ∧ t16 = .int .i64 k ∧ Kept X wr) (fun t16 _ => n - (intOf t16).toNat)
  case atStart => exact ⟨0, Nat.zero_le _, rfl, Kept.refl _⟩
  case round =>
    obtain ⟨k, hk, rfl, hK⟩ := hrel
    have HK := Lib.hid hK
    by_cases hlt : k < n
    · have hlt' : (k : Int) < (n : Int) := by omega
      obtain ⟨x, hx⟩ : ∃ x, L[k]? = some x := ⟨_, List.getElem?_eq_getElem (by have := HN.out; omega)⟩
      have hmx := List.mem_of_getElem? hx
      obtain ⟨off, cap, he, hc1, hc2, h3⟩ := HLs.out.full (by have := HN.out; omega)
      rw [HN.out] at he
      injection he with he1 he2 he3
      subst he1 he3
      rw [HN.out] at hc1
      unfold maxLen at hc2
      have HRx := Lib.hid (range_mv (range_kept h3 hK) hx)
      rw [Nat.mul_comm] at HRx
      have KB0 := Lib.hid ((Kept.refl wr).alloc (.cells (ml x).toArray 35))
      have HXb := Lib.hid (MAt.new wr x)
      have HPb := Lib.hid (HP.out.kept (HKX.out.trans (hK.trans KB0.out)))
      have HTb := Lib.hid (HT.out.kept (HKX.out.trans (hK.trans KB0.out)))
      have HKb := Lib.hid (hK.trans KB0.out)
      have HMx := Lib.hid (HMk.out x hmx)
      have HBx := Lib.hid (HBh.out x hmx)
      have HRf' := Lib.hid (HRf.out x hmx)
      have hql := Lib.hid (HLen.out x)
      generalize behP p x = q at *
      generalize keyP q = kq at *
      clear h3 hx hK hmx
      go_wp2_with (first | (refine wpList_load_mvi (by rfl) _ rfl gl (off + k * 3) rfl x HRx.out ?_) | (with_reducible refine wpList_new_mv rfl rfl ?_) | ((with_reducible refine wpList_store_newmv rfl _ _ rfl Zm x ?_ ?_ ?_); exact rfl; exact rfl) | (refine wpList_load_ps (by rfl) _ rfl _ rfl _ HPb.out ?_) | (refine wpList_load_mv (by rfl) _ rfl _ rfl _ HXb.out ?_))
      refine (HMx.out _ HTb.out.tabm).mono ?_
      rintro e w4 ⟨rfl, k4⟩
      have KA := Lib.hid (k4.alloc (.cells (pl q).toArray 26))
      have HK3 := Lib.hid (HKb.out.trans KA.out)
      have HQ3 := Lib.hid (PAt.new w4 hql.out)
      have HP3 := Lib.hid (HPb.out.kept KA.out)
      clear k4
      go_wp2_with (first | (with_reducible refine wpList_new_p rfl rfl ?_) | ((with_reducible refine wpList_store_newp rfl _ _ rfl Zp q Zp_len hql.out ?_ ?_ ?_); exact rfl; exact rfl))
      generalize w4.alloc (.cells (pl q).toArray 26) = W3 at *
      generalize w4.heap.size = gq at *
      refine wp_region_held_drew (S := Kept _) (by kernel_rfl) (Kept.refl _).drew (fun hHeld => ?_)
      refine rT 0 26 (.int .i64 0) rfl rfl hHeld ?_
      simp only [Act.put, sA, sZ, sU]
      refine rT 1 27 (.bool false) rfl rfl hHeld ?_
      simp only [pA, pN, sZ, sU]
      refine rT 2 28 (.bool false) rfl rfl hHeld ?_
      simp only [pA, pN, sZ, sU]
      refine rT 3 29 (.int .u64 kk) rfl rfl hHeld ?_
      simp only [pA, pN, sZ, sU]
      refine rY 4 30 rfl rfl (take_load_ps (by rfl) _ rfl _ rfl p hpl.out (fun _ h => (HP3.out).kept h)) hHeld ?_
      simp only [pA, pN, sZ, sU]
      refine rY 5 31 rfl rfl (take_load_ps (by rfl) _ rfl _ rfl q hql.out (fun _ h => (HQ3.out).kept h)) hHeld ?_
      simp only [pA, pN, sZ, sU]
      refine rY 7 33 rfl rfl (take_load_ps (by rfl) _ rfl _ rfl q hql.out (fun _ h => (HQ3.out).kept h)) hHeld ?_
      simp only [pA, pN, sZ, sU]
      refine rR 6 rfl (fun K hK => ?_)
      go_simp
      refine (HBx.out _).mono ?_
      rintro e x1 ⟨rfl, gx1⟩
      refine hK.out _ _ (hHeld.trans gx1) (fun _ => ?_)
      replace hHeld := hHeld.trans gx1
      clear hK K
      refine rR 8 rfl (fun K hK => ?_)
      go_simp
      refine (HRf'.out _).mono ?_
      rintro e x2 ⟨rfl, gx2⟩
      refine hK.out _ _ (hHeld.trans gx2) (fun _ => ?_)
      replace hHeld := hHeld.trans gx2
      clear hK K
      refine rT 9 35 (.bool false) rfl rfl hHeld ?_
      simp only [pA, pN, sZ, sU]
      refine rT 10 36 (.bool false) rfl rfl hHeld ?_
      simp only [pA, pN, sZ, sU]
      refine wpAnyH_done (by kernel_rfl) ?_ _
      have HKe := Lib.hid (HK3.out.trans hHeld)
      clear hHeld gx1 gx2
      go_wp2
      go_roundw
      case rel => exact ⟨k + 1, by omega, by go_num, HKe.out⟩
      case measure => simp [intOf]; omega
    · obtain rfl : k = n := by omega
      clear hK
      go_wp2
      go_ret
      exact ⟨rfl, HK0.out.trans (HKX.out.trans HK.out)⟩
end Go.Proofs.YtkebpchhpidogaaGreatDoor
namespace Go.Proofs.YtkebpchhpidogaaGreatDoor
set_option maxRecDepth 100000
open Go.ChangeShapes Go.WideShapes Go.ChangeAt Go.RowKit
set_option linter.unusedVariables false

section
variable {H : Type} {enc : TypeId × Value → H}
/-- The board's numbers as data. -/
def dB (H : Type) (B : List Int) : DataW H := .agg (B.map fun x => .lit (.int .i8 x))
theorem wf_i8 (x : Int) : (Lit.int .i8 x).wf = true ↔ -128 ≤ x ∧ x ≤ 127 := by
  have e1 : IntKind.i8.min = -128 := by decide
  have e2 : IntKind.i8.max = 127 := by decide
  simp [Lit.wf, e1, e2]
theorem chunk {cs : List Value} {i : Nat} (h : i < cs.length) : (cs.drop (i * 1)).take 1 = [cs[i]] := by
  rw [Nat.mul_one, List.drop_eq_getElem_cons h]; rfl
theorem open_board {W : World} {base : Nat} {r : Reach} {b0 : Nat} {sp : Nat → Bool} {hd : Bool} {v : Value} {d : DataW H} {p : List MemPlace}
    (hv : Value.okWide Tryz.prog W r b0 24 v) (h : DataW.Trod enc Tryz.prog W base sp hd 24 v d p) :
    ∃ B, Brd B ∧ v = .agg (cl B).toArray ∧ d = dB H B ∧ p = [] := by
  obtain ⟨cs, rfl, hsz, _⟩ : ∃ cs, v = .agg cs ∧ cs.size = Tryz.prog.cellsOf 24 ∧ Row.okWide Tryz.prog W r b0 24 cs := by
    simpa [Value.okWide, Tryz.underlying24] using hv
  obtain ⟨fuel, hf⟩ := h
  obtain ⟨xs, m, rfl, hx, hl, hn, hi⟩ := DataW.trod_array Tryz.underlying24 hf
  obtain ⟨l⟩ := cs
  have hl64 : l.length = 64 := by simpa [Value.cells, cells24] using hl
  have hall : ∀ i (hi64 : i < 64), ∃ n, l[i]'(by omega) = .int .i8 n ∧ xs[i]? = some (.lit (.int .i8 n), []) ∧ (Lit.int .i8 n).wf = true := by
    intro i hi64
    have h1 := hi i hi64
    have hlt : i < xs.length := by omega
    rw [cells22, List.getElem?_eq_getElem hlt] at h1
    have h2 : ((Value.agg ⟨l⟩).cells.toList.drop (i * 1)).take 1 = [l[i]'(by omega)] := chunk (cs := l) (by omega)
    rw [h2] at h1
    obtain ⟨n, e1, e2, e3⟩ := DataW.trod_int Tryz.underlying22 h1
    exact ⟨n, by simpa using e1, by rw [List.getElem?_eq_getElem hlt, e2], e3⟩
  have hlen : (l.map intOf).length = 64 := by simp [hl64]
  have hget : ∀ i (hi64 : i < 64), (Lit.int .i8 ((l.map intOf).getD i 0)).wf = true ∧ l[i]'(by omega) = .int .i8 ((l.map intOf).getD i 0) ∧ xs[i]? = some (.lit (.int .i8 ((l.map intOf).getD i 0)), []) := by
    intro i hi64
    obtain ⟨n, e1, e2, e3⟩ := hall i hi64
    have : (l.map intOf).getD i 0 = n := by
      have : i < l.length := by omega
      simp [List.getD, List.getElem?_eq_getElem this, e1, intOf]
    rw [this]
    exact ⟨e3, e1, e2⟩
  refine ⟨l.map intOf, ⟨hlen, fun i hi64 => (wf_i8 _).1 (hget i hi64).1⟩, ?_, ?_, ?_⟩
  · congr 1
    have : l = cl (l.map intOf) := by
      refine List.ext_getElem (by rw [cl_length, hlen, hl64]) fun i h1 h2 => ?_
      have h3 := cl_get (l.map intOf) i (by omega)
      rw [List.getElem?_eq_getElem h2] at h3
      rw [(hget i (by omega)).2.1]
      exact (Option.some.inj h3).symm
    exact congrArg List.toArray this
  · have e : xs.map (·.1) = (l.map intOf).map fun x => DataW.lit (.int .i8 x) := by
      refine List.ext_getElem (by simp [hn, hl64]) fun i h1 h2 => ?_
      have h3 := (hget i (by simpa [hn] using h1)).2.2
      have hlt : i < xs.length := by simpa using h1
      rw [List.getElem?_eq_getElem hlt] at h3
      have h4 := Option.some.inj h3
      have h5 : i < (l.map intOf).length := by omega
      simp only [List.getElem_map, h4]
      simp [List.getD, List.getElem?_eq_getElem (show i < l.length by omega)]
    simp only [Prod.mk.injEq] at hx
    rw [hx.1, e]; rfl
  · simp only [Prod.mk.injEq] at hx
    rw [hx.2, List.flatMap_eq_nil_iff]
    intro x hxs
    obtain ⟨i, hlt, rfl⟩ := List.getElem_of_mem hxs
    have h3 := (hget i (by omega)).2.2
    rw [List.getElem?_eq_getElem hlt] at h3
    rw [Option.some.inj h3]
set_option maxRecDepth 100000 in
theorem shut_board {W : World} {base : Nat} {sp : Nat → Bool} {hd : Bool} (B : List Int) (hB : Brd B) : DataW.Trod enc Tryz.prog W base sp hd 24 (.agg (cl B).toArray) (dB H B) [] := by
  refine ⟨2, ?_⟩
  have hc : (Value.agg (cl B).toArray).cells.toList = cl B := rfl
  rw [hc]
  have step : ∀ i ∈ List.range 64, DataW.trod enc Tryz.prog W base sp hd 1 22 (((cl B).drop (i * Tryz.prog.cellsOf 22)).take (Tryz.prog.cellsOf 22)) = some ((DataW.lit (.int .i8 (B.getD i 0)), []) : DataW H × List MemPlace) := by
    intro i hi
    have hi64 : i < 64 := by simpa using hi
    have hlt : i < (cl B).length := by rw [cl_length, hB.1]; exact hi64
    rw [cells22, chunk hlt]
    have h3 := cl_get B i (by rw [hB.1]; exact hi64)
    rw [List.getElem?_eq_getElem hlt] at h3
    rw [Option.some.inj h3]
    have hw := (wf_i8 _).2 (hB.2 i hi64)
    unfold DataW.trod
    rw [Tryz.underlying22]
    simp only [hw, and_self, if_true]
  have hm := mapM_some_of_forall (f := fun i => DataW.trod enc Tryz.prog W base sp hd 1 22 (((cl B).drop (i * Tryz.prog.cellsOf 22)).take (Tryz.prog.cellsOf 22))) (List.range 64) step
  unfold DataW.trod
  rw [Tryz.underlying24]
  simp only [cl_length, hB.1, cells24, if_true, hm, Option.map_some, Option.some.injEq, Prod.mk.injEq]
  refine ⟨?_, ?_⟩
  · unfold dB
    congr 1
    refine List.ext_getElem (by simp [hB.1]) fun i h1 h2 => ?_
    have h3 : i < B.length := by simpa using h2
    simp [List.getD, List.getElem?_eq_getElem h3]
  · rw [List.flatMap_eq_nil_iff]
    intro x hx
    simp only [List.mem_map] at hx
    obtain ⟨i, _, rfl⟩ := hx
    rfl
end
end Go.Proofs.YtkebpchhpidogaaGreatDoor
