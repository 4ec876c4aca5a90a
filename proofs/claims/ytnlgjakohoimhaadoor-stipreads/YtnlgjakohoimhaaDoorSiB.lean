/- Stipulations' texts: openings, all texts. -/
import Derived.Test.YtnlgjakohoimhaaDoorSiA
import Derived.Test.YtnlgjakohoimhaaDoorLxK
namespace Go.Proofs.YtnlgjakohoimhaaDoor
open Go.RowKit
set_option linter.unusedVariables false
set_option linter.unusedSimpArgs false
set_option maxRecDepth 100000

/-! ### what stands behind an opening -/
def hdD (m : List UInt8) : Bool := match m with
  | [] => false
  | d :: _ => isD d
/-- What the document says of the number's text at i, m the bytes from there on. -/
def refN (z : Nat) (i : Int) (hB : Bool) (m : List UInt8) : Option (Nat × Bool) × Sp :=
  if (nmP hB m).2.1 = (nmP hB m).1 ∧ ((nmP hB m).2.2.2 = true ∨ hdD (m.drop (nmP hB m).1) = false) then (some ((nmP hB m).2.2.1, (nmP hB m).2.2.2), ⟨i + (nmP hB m).1, 0, 0⟩)
  else (none, stk z (i + (nmP hB m).1))
/-- What the program does behind a number. -/
def prE (z : Nat) (i : Int) (hB : Bool) (n : Int) (m : List UInt8) : Option (Nat × Bool) × Sp :=
  if hB = true ∧ (n = 0 ∨ cmn m [46] = 1) then (if cmn m [46, 53] = 2 then (some (n.toNat, true), ⟨i + 2, 0, 0⟩) else (none, stk z (i + cmn m [46, 53])))
  else (some (n.toNat, false), ⟨i, 0, 0⟩)
def lstI (hB : Bool) : Int := if hB = true then 0 else 1
def prN (z : Nat) (i : Int) (hB : Bool) (m : List UInt8) : Option (Nat × Bool) × Sp :=
  if (numGo z i (lstI hB) 64 m 0 0).e ≠ 0 then (none, numGo z i (lstI hB) 64 m 0 0)
  else prE z (numGo z i (lstI hB) 64 m 0 0).a hB (numGo z i (lstI hB) 64 m 0 0).n (m.drop ((numGo z i (lstI hB) 64 m 0 0).a - i).toNat)
theorem prN_bad {z : Nat} {i : Int} {hB : Bool} {m : List UInt8} {x : Sp} (h : numGo z i (lstI hB) 64 m 0 0 = x) (he : x.e ≠ 0) : prN z i hB m = (none, x) := by
  unfold prN; rw [h, if_pos he]
theorem prN_ok {z : Nat} {i : Int} {hB : Bool} {m : List UInt8} {p : Nat} {n : Int} (h : numGo z i (lstI hB) 64 m 0 0 = ⟨i + p, n, 0⟩) : prN z i hB m = prE z (i + p) hB n (m.drop p) := by
  unfold prN; rw [h, if_neg (by simp)]
  show prE z (i + p) hB n (m.drop (i + p - i).toNat) = _
  rw [show (i + (p : Int) - i).toNat = p by omega]
theorem c53 (m : List UInt8) : cmn m [46, 53] = cmnU m [46, 53] := cmnU_is m [46, 53] (by intro y hy; simp at hy; omega)
theorem c46 (m : List UInt8) : cmn m [46] = cmnU m [46] := cmnU_is m [46] (by intro y hy; simp at hy; omega)
theorem c46_53 (m : List UInt8) : (cmnU m [46] = 1 ↔ 1 ≤ cmnU m [46, 53]) ∧ (cmnU m [46] = 0 ∨ cmnU m [46] = 1) := by
  rcases m with _ | ⟨a, r⟩
  · simp [cmnU]
  · rw [cmnU_cc, cmnU_cc, cmnU_nil2]
    split
    · exact ⟨⟨fun _ => by omega, fun _ => by omega⟩, .inr rfl⟩
    · exact ⟨⟨fun h => by omega, fun h => by omega⟩, .inl rfl⟩
theorem refN_fin {z : Nat} {i : Int} {hB : Bool} {M : List UInt8} {x : Nat × Int × Nat × Bool} (h : nmP hB M = x) :
    refN z i hB M = if x.2.1 = x.1 ∧ (x.2.2.2 = true ∨ hdD (M.drop x.1) = false) then (some (x.2.2.1, x.2.2.2), ⟨i + x.1, 0, 0⟩) else (none, stk z (i + x.1)) := by
  unfold refN; rw [h]
/-- A number that is whole: what stands behind it goes on with no digit. -/
theorem fin_eq (z : Nat) (i : Int) (hB : Bool) (p n : Nat) (pre m : List UInt8) (hp : pre.length = p) (hn : n = 0 → hB = true) (hd : hdD m = false)
    (hx : nmP hB (pre ++ m) = fin hB p n m) : prE z (i + p) hB n m = refN z i hB (pre ++ m) := by
  rw [refN_fin hx]
  unfold fin
  dsimp only
  have hle := tl5_le hB m
  have h6 := c46_53 m
  have hdrop : (pre ++ m).drop p = m := by rw [← hp, List.drop_left]
  unfold prE
  rw [c53, c46, show ((n : Int)).toNat = n from rfl]
  cases hB
  · have e0 : tl5 false m = 0 := rfl
    have hn0 : n ≠ 0 := fun e => absurd (hn e) (by simp)
    rw [if_neg (by simp), e0]
    simp only [Nat.add_zero, show ¬ (0 = 2) by omega, if_false, hn0, hdrop, hd]
    rw [if_pos ⟨trivial, .inr trivial⟩]
    rfl
  · have e0 : tl5 true m = cmnU m [46, 53] := rfl
    rw [e0] at hle ⊢
    by_cases h2 : cmnU m [46, 53] = 2
    · rw [if_pos ⟨rfl, .inr (h6.1.2 (by omega))⟩, if_pos h2, h2, if_pos rfl, if_pos ⟨rfl, .inl rfl⟩]
      rw [show i + (p : Int) + 2 = i + ((p + 2 : Nat) : Int) by omega]
      rfl
    · rw [if_neg h2, if_neg h2]
      by_cases h1 : cmnU m [46, 53] = 1
      · rw [if_pos ⟨rfl, .inr (h6.1.2 (by omega))⟩, h1, if_neg (by intro ⟨e, _⟩; split at e <;> omega)]
        rw [show i + (p : Int) + ((1 : Nat) : Int) = i + ((p + 1 : Nat) : Int) by omega]
      · have h0 : cmnU m [46, 53] = 0 := by omega
        rw [h0]
        by_cases hn0 : n = 0
        · rw [if_pos ⟨rfl, .inl (by omega)⟩, if_pos hn0, if_neg (by intro ⟨e, _⟩; omega)]
          rw [show i + (p : Int) + ((0 : Nat) : Int) = i + ((p + 0 : Nat) : Int) by omega]
        · have : ¬ cmnU m [46] = 1 := fun e => by have := h6.1.1 e; omega
          have h7 : ¬ (true = true ∧ ((n : Int) = 0 ∨ cmnU m [46] = 1)) := by
            rintro ⟨_, e | e⟩
            · omega
            · exact this e
          rw [if_neg h7, if_neg hn0]
          simp only [Nat.add_zero, hdrop, hd]
          rw [if_pos ⟨trivial, .inr trivial⟩]
          rfl

theorem hdD_tl5 {hB : Bool} {m : List UInt8} (h : hdD m = true) : tl5 hB m = 0 := by
  rcases m with _ | ⟨d, r⟩
  · simp [hdD] at h
  · cases hB
    · rfl
    · show cmnU (d :: r) [46, 53] = 0
      rw [cmnU_cc, if_neg]
      intro e
      have h' : isD d = true := h
      unfold isD at h'
      rw [e] at h'
      simp at h'
/-- A digit behind it, that does not go on. -/
theorem fin_bad (z : Nat) (i : Int) (hB : Bool) (p n : Nat) (pre m : List UInt8) (hp : pre.length = p) (hz : z = i + p + m.length) (hd : hdD m = true)
    (hx : nmP hB (pre ++ m) = fin hB p n m) : refN z i hB (pre ++ m) = (none, ⟨i + p, 0, 2⟩) := by
  rw [refN_fin hx]
  unfold fin
  dsimp only
  have hdrop : (pre ++ m).drop p = m := by rw [← hp, List.drop_left]
  have hl : 0 < m.length := by
    rcases m with _ | ⟨d, r⟩
    · simp [hdD] at hd
    · simp
  rw [hdD_tl5 hd]
  simp only [Nat.add_zero, hdrop, hd]
  rw [if_neg (by rintro ⟨_, e | e⟩ <;> simp at e)]
  unfold stk
  rw [if_neg (by omega)]
theorem isD_iff (b : UInt8) : isD b = true ↔ 48 ≤ b.toNat ∧ b.toNat ≤ 57 := by unfold isD; simp
theorem prN_is (z : Nat) (i : Int) (hB : Bool) (m : List UInt8) (hz : (z : Int) = i + m.length) : prN z i hB m = refN z i hB m := by
  rcases m with _ | ⟨b, r⟩
  · rw [prN_bad (nG_end_no (by omega)) (by simp), refN_fin (nmP_nil hB), if_neg (by rintro ⟨e, _⟩; simp at e)]
    unfold stk
    rw [if_pos (by simp at hz ⊢; omega)]
  · by_cases h : b.toNat < 48 ∨ 57 < b.toNat ∨ (b.toNat = 48 ∧ hB = false)
    · have hg : numGo z i (lstI hB) 64 (b :: r) 0 0 = ⟨i + (0 : Nat), 0, 2⟩ := by
        by_cases hb : isD b = true
        · refine nG_over hb (by omega) (.inr ⟨rfl, ?_, ?_⟩)
          · rw [isD_iff] at hb; omega
          · rw [isD_iff] at hb
            have : hB = false := by
              rcases h with h | h | h
              · omega
              · omega
              · exact h.2
            rw [this]; decide
        · exact nG_far_no hb (by omega)
      rw [prN_bad hg (by simp), refN_fin (nmP_no h), if_neg (by rintro ⟨e, _⟩; simp at e)]
      unfold stk
      rw [if_neg (by simp at hz ⊢; omega)]
    · have hz0 : b.toNat = 48 → hB = true := by
        intro e
        cases hB
        · exact absurd (.inr (.inr ⟨e, rfl⟩)) h
        · rfl
      have hb : isD b = true := by rw [isD_iff]; omega
      obtain ⟨N, hN⟩ : ∃ N, b.toNat - 48 = N := ⟨_, rfl⟩
      have hll : lstI hB ≤ N := by
        cases hB
        · show (1 : Int) ≤ N
          have : b.toNat ≠ 48 := fun e => absurd (hz0 e) (by simp)
          omega
        · show (0 : Int) ≤ N
          omega
      have hg : numGo z i (lstI hB) 64 (b :: r) 0 0 = numGo z i (lstI hB) 64 r 1 N := by
        rw [nG_next hb (by omega), show (10 * (0 : Int) + ((b.toNat : Int) - 48)) = N by omega]
        rintro (e | ⟨_, e, e2⟩)
        · omega
        · have : N = 0 := by omega
          have : lstI hB = 0 := by rw [hz0 (by omega)]; rfl
          omega
      rcases r with _ | ⟨c, r⟩
      · have hx := nmP_end h
        rw [hN] at hx
        rw [prN_ok (p := 1) (hg.trans (nG_end_yes ⟨by omega, hll⟩))]
        exact fin_eq z i hB 1 N [b] [] rfl (fun e => hz0 (by omega)) rfl hx
      · by_cases h2 : 48 < b.toNat ∧ 48 ≤ c.toNat ∧ c.toNat ≤ 57 ∧ 10 * (b.toNat - 48) + (c.toNat - 48) ≤ 64
        · have hx := nmP_two (r := r) h h2
          obtain ⟨N2, hN2⟩ : ∃ N2, 10 * (b.toNat - 48) + (c.toNat - 48) = N2 := ⟨_, rfl⟩
          rw [hN2] at hx
          have hg2 : numGo z i (lstI hB) 64 (b :: c :: r) 0 0 = numGo z i (lstI hB) 64 r 2 N2 := by
            rw [hg, nG_next (by rw [isD_iff]; omega) (by omega) (by rintro (e | ⟨e, _⟩) <;> omega), show (10 * (N : Int) + ((c.toNat : Int) - 48)) = N2 by omega]
          have hl1 : lstI hB ≤ 1 := by cases hB <;> decide
          have hl2 : lstI hB ≤ N2 := by omega
          rcases r with _ | ⟨d, r⟩
          · rw [prN_ok (p := 2) (hg2.trans (nG_end_yes ⟨by omega, hl2⟩))]
            exact fin_eq z i hB 2 N2 [b, c] [] rfl (fun e => by omega) rfl hx
          · by_cases hd : isD d = true
            · rw [prN_bad (hg2.trans (nG_over hd (by omega) (.inl (by rw [isD_iff] at hd; omega)))) (by simp)]
              exact (fin_bad z i hB 2 N2 [b, c] (d :: r) rfl (by simp at hz ⊢; omega) hd hx).symm
            · rw [prN_ok (p := 2) (hg2.trans (nG_far_yes hd ⟨by omega, hl2⟩))]
              exact fin_eq z i hB 2 N2 [b, c] (d :: r) rfl (fun e => by omega) (by simpa [hdD] using hd) hx
        · have hx := nmP_one (r := r) h h2
          rw [hN] at hx
          by_cases hc : isD c = true
          · have hg2 : numGo z i (lstI hB) 64 (b :: c :: r) 0 0 = ⟨i + (1 : Nat), 0, 2⟩ := by
              rw [hg]
              by_cases h0 : N = 0
              · exact nG_lead hc ⟨by omega, by omega⟩
              · exact nG_over hc (by omega) (.inl (by rw [isD_iff] at hc; omega))
            rw [prN_bad hg2 (by simp)]
            exact (fin_bad z i hB 1 N [b] (c :: r) rfl (by simp at hz ⊢; omega) hc hx).symm
          · rw [prN_ok (p := 1) (hg.trans (nG_far_yes hc ⟨by omega, hll⟩))]
            exact fin_eq z i hB 1 N [b] (c :: r) rfl (fun e => hz0 (by omega)) (by simpa [hdD] using hc) hx
/-! ### openings -/
def hdL : List (Int × Int) := [(1, 1), (1, 2), (2, 1), (2, 2), (3, 1), (3, 2), (4, 1), (4, 2), (5, 1), (5, 2), (6, 1), (6, 2), (7, 1), (7, 2), (8, 0)]
def opL (p : Int × Int) : List UInt8 := bs (kT p.1) ++ bs (gT p.2)
def txL (s : Stp) : List UInt8 := opL (s.k, s.g) ++ nmL s.n s.h
theorem bs_opT (k g : Int) : bs (opT k g) = opL (k, g) := bs_append _ _
theorem bs_txT (s : Stp) : bs (txT s) = txL s := by
  unfold txT txL nmL
  cases h : s.h
  · rw [if_neg (by simp), bs_append, bs_opT, if_neg (by simp), List.append_nil]
  · rw [if_pos rfl, bs_append, bs_append, bs_opT, if_pos rfl, List.append_assoc]
theorem okG_iff (k g : Int) : okG k g = true ↔ (k, g) ∈ hdL := by
  have e : okG k g = true ↔ (k = 8 ∧ g = 0) ∨ ((1 ≤ k ∧ k ≤ 7) ∧ (1 ≤ g ∧ g ≤ 2)) := by unfold okG; simp only [Bool.or_eq_true, Bool.and_eq_true, decide_eq_true_eq]
  rw [e]
  constructor
  · rintro (⟨rfl, rfl⟩ | ⟨⟨h1, h2⟩, h3, h4⟩)
    · decide
    · have a : k = 1 ∨ k = 2 ∨ k = 3 ∨ k = 4 ∨ k = 5 ∨ k = 6 ∨ k = 7 := by omega
      have b : g = 1 ∨ g = 2 := by omega
      rcases a with rfl | rfl | rfl | rfl | rfl | rfl | rfl <;> rcases b with rfl | rfl <;> decide
  · intro h
    unfold hdL at h
    simp only [List.mem_cons, Prod.mk.injEq, List.not_mem_nil, or_false] at h
    rcases h with ⟨rfl, rfl⟩ | ⟨rfl, rfl⟩ | ⟨rfl, rfl⟩ | ⟨rfl, rfl⟩ | ⟨rfl, rfl⟩ | ⟨rfl, rfl⟩ | ⟨rfl, rfl⟩ | ⟨rfl, rfl⟩ | ⟨rfl, rfl⟩ | ⟨rfl, rfl⟩ | ⟨rfl, rfl⟩ | ⟨rfl, rfl⟩ | ⟨rfl, rfl⟩ | ⟨rfl, rfl⟩ | ⟨rfl, rfl⟩ <;> decide
theorem hdL_chk : (hdL.all fun p => hdL.all fun q => p == q || !(opL p).isPrefixOf (opL q)) = true := by decide +kernel
theorem hdL_chk2 : (hdL.all fun p => decide ((opL p).getLast? ≠ some 46) && decide (0 < (opL p).length) && decide ((opL p).length < 10)) = true := by decide +kernel
theorem hdL_apart {p q : Int × Int} (hp : p ∈ hdL) (hq : q ∈ hdL) (h : p ≠ q) : ¬ opL p <+: opL q := by
  have h1 := List.all_eq_true.1 (List.all_eq_true.1 hdL_chk p hp) q hq
  rw [Bool.or_eq_true] at h1
  rcases h1 with h1 | h1
  · exact absurd (by simpa using h1) h
  · intro h2
    rw [Bool.not_eq_true', ← Bool.not_eq_true] at h1
    exact h1 (List.isPrefixOf_iff_prefix.2 h2)
theorem hdL_last {p : Int × Int} (hp : p ∈ hdL) : (opL p).getLast? ≠ some 46 ∧ 0 < (opL p).length ∧ (opL p).length < 10 := by
  have := List.all_eq_true.1 hdL_chk2 p hp
  simp only [Bool.and_eq_true, decide_eq_true_eq] at this
  exact ⟨this.1.1, this.1.2, this.2⟩
theorem cmn_short : ∀ (a b c : List UInt8), cmn a b < b.length → cmn a (b ++ c) = cmn a b
  | [], b, c, h => by rw [cmn_nil, cmn_nil]
  | x :: a, [], c, h => by simp at h
  | x :: a, y :: b, c, h => by
    rw [List.cons_append, cmn_cc, cmn_cc]
    rw [cmn_cc] at h
    split
    · next e =>
      rw [if_pos e] at h
      rw [cmn_short a b c (by simpa using h)]
    · rfl
theorem cmn_pre : ∀ (o m c : List UInt8), cmn (o ++ m) (o ++ c) = o.length + cmn m c
  | [], m, c => by simp
  | x :: o, m, c => by rw [List.cons_append, List.cons_append, cmn_cc, if_pos rfl, cmn_pre o m c, List.length_cons]; omega
theorem cmn_take : ∀ (a b : List UInt8) (k : Nat), k ≤ cmn a b → a.take k = b.take k
  | [], b, k, h => by
    rw [cmn_nil] at h
    rw [show k = 0 by omega]; rfl
  | x :: a, [], k, h => by
    rw [cmn_nil2] at h
    rw [show k = 0 by omega]; rfl
  | x :: a, y :: b, 0, h => by simp
  | x :: a, y :: b, k + 1, h => by
    rw [cmn_cc] at h
    split at h
    · next e => rw [List.take_succ_cons, List.take_succ_cons, e, cmn_take a b k (by omega)]
    · omega
/-- Where an opening stands, no other one comes as far. -/
theorem cmn_other {p q : Int × Int} (hp : p ∈ hdL) (hq : q ∈ hdL) (h : q ≠ p) (m c : List UInt8) : cmn (opL p ++ m) (opL q ++ c) < (opL p).length := by
  have a1 := hdL_apart hp hq (Ne.symm h)
  have a2 := hdL_apart hq hp h
  have n1 : ¬ opL q <+: opL p ++ m := by
    intro x
    rcases List.prefix_or_prefix_of_prefix x (List.prefix_append (opL p) m) with y | y
    · exact a2 y
    · exact a1 y
  have l1 := cmn_r (opL p ++ m) (opL q)
  have n2 : cmn (opL p ++ m) (opL q) < (opL q).length := by
    rcases Nat.lt_or_ge (cmn (opL p ++ m) (opL q)) (opL q).length with x | x
    · exact x
    · exact absurd ((cmn_full _ _).1 (by omega)) n1
  rw [cmn_short _ _ _ n2]
  rcases Nat.lt_or_ge (cmn (opL p ++ m) (opL q)) (opL p).length with x | x
  · exact x
  · exfalso
    have := cmn_take _ _ _ x
    rw [List.take_left] at this
    exact a1 (by rw [this]; exact List.take_prefix _ _)

/-! ### all texts -/
structure Top (M : List UInt8) (P : Stp → Prop) (x : Stp × Int × Nat) : Prop where
  up : ∀ s, P s → cmn M (txL s) ≤ x.2.2
  at_ : x.2.2 = 0 ∨ ∃ s, P s ∧ cmn M (txL s) = x.2.2
  no : x.2.1 = -1 → x.1 = Zt ∧ ∀ s, P s → cmn M (txL s) ≠ (txL s).length
  yes : x.2.1 ≠ -1 → P x.1 ∧ x.2.1 = ((txL x.1).length : Nat) ∧ cmn M (txL x.1) = (txL x.1).length ∧ ∀ s, P s → cmn M (txL s) = (txL s).length → (txL s).length ≤ (txL x.1).length
def stpGo (M : List UInt8) (s : Stp) (x : Stp × Int × Nat) : Stp × Int × Nat :=
  (if cmn M (txL s) = (txL s).length ∧ x.2.1 < cmn M (txL s) then s else x.1, if cmn M (txL s) = (txL s).length ∧ x.2.1 < cmn M (txL s) then (cmn M (txL s) : Int) else x.2.1,
    if x.2.2 < cmn M (txL s) then cmn M (txL s) else x.2.2)
def rfGo (M : List UInt8) : List Stp → Stp × Int × Nat → Stp × Int × Nat
  | [], x => x
  | s :: L, x => rfGo M L (stpGo M s x)
theorem Top.step {M : List UInt8} {P : Stp → Prop} {x : Stp × Int × Nat} (h : Top M P x) (a : Stp) : Top M (fun s => P s ∨ s = a) (stpGo M a x) := by
  obtain ⟨b, m, f⟩ := x
  obtain ⟨h1, h2, h3, h4⟩ := h
  dsimp only at h1 h2 h3 h4
  have hf : (stpGo M a (b, m, f)).2.2 = if f < cmn M (txL a) then cmn M (txL a) else f := rfl
  have hm : (stpGo M a (b, m, f)).2.1 = if cmn M (txL a) = (txL a).length ∧ m < cmn M (txL a) then (cmn M (txL a) : Int) else m := rfl
  have hb : (stpGo M a (b, m, f)).1 = if cmn M (txL a) = (txL a).length ∧ m < cmn M (txL a) then a else b := rfl
  constructor
  · rw [hf]
    rintro s (hs | rfl)
    · have := h1 s hs; split <;> omega
    · split <;> omega
  · rw [hf]
    split
    · exact .inr ⟨a, .inr rfl, rfl⟩
    · rcases h2 with h2 | ⟨s, hs, e⟩
      · exact .inl h2
      · exact .inr ⟨s, .inl hs, e⟩
  · rw [hm, hb]
    by_cases c : cmn M (txL a) = (txL a).length ∧ m < cmn M (txL a)
    · rw [if_pos c]; intro e; omega
    · rw [if_neg c, if_neg c]
      intro e
      obtain ⟨e1, e2⟩ := h3 e
      refine ⟨e1, ?_⟩
      rintro s (hs | rfl)
      · exact e2 s hs
      · intro e3; exact c ⟨e3, by omega⟩
  · rw [hm, hb]
    by_cases c : cmn M (txL a) = (txL a).length ∧ m < cmn M (txL a)
    · rw [if_pos c, if_pos c]
      intro _
      refine ⟨.inr rfl, by rw [c.1], c.1, ?_⟩
      rintro s (hs | rfl) e
      · by_cases e1 : m = -1
        · exact absurd e ((h3 e1).2 s hs)
        · obtain ⟨_, e2, _, e3⟩ := h4 e1
          have := e3 s hs e
          omega
      · exact Nat.le_refl _
    · rw [if_neg c, if_neg c]
      intro e1
      obtain ⟨e2, e3, e4, e5⟩ := h4 e1
      refine ⟨.inl e2, e3, e4, ?_⟩
      rintro s (hs | rfl) e
      · exact e5 s hs e
      · have : ¬ m < cmn M (txL s) := fun x => c ⟨e, x⟩
        omega
theorem Top.congr {M : List UInt8} {P Q : Stp → Prop} {x : Stp × Int × Nat} (h : Top M P x) (e : ∀ s, P s ↔ Q s) : Top M Q x := by
  have : P = Q := funext fun s => propext (e s)
  rw [← this]; exact h
theorem rf_top (M : List UInt8) : ∀ (L : List Stp) (P : Stp → Prop) (x : Stp × Int × Nat), Top M P x → Top M (fun s => P s ∨ s ∈ L) (rfGo M L x)
  | [], P, x, h => h.congr fun s => by simp
  | a :: L, P, x, h => (rf_top M L _ _ (h.step a)).congr fun s => by simp [or_assoc]
def optS (s : Stp) : List Stp := if okS s = true then [s] else []
def allN (k g : Int) : Nat → List Stp
  | 0 => []
  | n + 1 => allN k g n ++ optS ⟨k, g, n, false⟩ ++ optS ⟨k, g, n, true⟩
def allG (k : Int) : Nat → List Stp
  | 0 => []
  | g + 1 => allG k g ++ allN k g 65
def allK : Nat → List Stp
  | 0 => []
  | k + 1 => allK k ++ allG ((k : Int) + 1) 3
def allS : List Stp := allK 8
theorem mem_optS (s a : Stp) : s ∈ optS a ↔ okS a = true ∧ s = a := by
  unfold optS
  by_cases h : okS a = true
  · rw [if_pos h]; simp [h]
  · rw [if_neg h]; simp [h]
theorem mem_allN (k g : Int) (s : Stp) : ∀ n : Nat, s ∈ allN k g n ↔ okS s = true ∧ s.k = k ∧ s.g = g ∧ 0 ≤ s.n ∧ s.n < n
  | 0 => by
    unfold allN
    refine ⟨fun h => by simp at h, fun ⟨_, _, _, h1, h2⟩ => by omega⟩
  | n + 1 => by
    unfold allN
    rw [List.mem_append, List.mem_append, mem_allN k g s n, mem_optS, mem_optS]
    obtain ⟨sk, sg, sn, sh⟩ := s
    dsimp only
    constructor
    · rintro ((⟨h1, h2, h3, h4, h5⟩ | ⟨h1, h2⟩) | ⟨h1, h2⟩)
      · exact ⟨h1, h2, h3, h4, by omega⟩
      · have h3 := h2
        simp only [Stp.mk.injEq] at h3
        obtain ⟨rfl, rfl, rfl, rfl⟩ := h3
        exact ⟨h1, rfl, rfl, by omega, by omega⟩
      · have h3 := h2
        simp only [Stp.mk.injEq] at h3
        obtain ⟨rfl, rfl, rfl, rfl⟩ := h3
        exact ⟨h1, rfl, rfl, by omega, by omega⟩
    · rintro ⟨h1, rfl, rfl, h4, h5⟩
      by_cases e : sn = n
      · subst e
        cases sh
        · exact .inl (.inr ⟨h1, rfl⟩)
        · exact .inr ⟨h1, rfl⟩
      · exact .inl (.inl ⟨h1, rfl, rfl, h4, by omega⟩)
theorem okS_bounds {s : Stp} (h : okS s = true) : 1 ≤ s.k ∧ s.k ≤ 8 ∧ 0 ≤ s.g ∧ s.g ≤ 2 ∧ 0 ≤ s.n ∧ s.n ≤ 64 := by
  unfold okS okG okN at h
  simp only [Bool.and_eq_true, Bool.or_eq_true, decide_eq_true_eq] at h
  obtain ⟨h1, h2⟩ := h
  split at h2
  · simp only [Bool.and_eq_true, decide_eq_true_eq] at h2; omega
  · simp only [Bool.and_eq_true, decide_eq_true_eq] at h2; omega
theorem mem_allG (k : Int) (s : Stp) : ∀ g : Nat, s ∈ allG k g ↔ okS s = true ∧ s.k = k ∧ 0 ≤ s.g ∧ s.g < g
  | 0 => by
    unfold allG
    refine ⟨fun h => by simp at h, fun ⟨_, _, h1, h2⟩ => by omega⟩
  | g + 1 => by
    unfold allG
    rw [List.mem_append, mem_allG k s g, mem_allN]
    constructor
    · rintro (⟨h1, h2, h3, h4⟩ | ⟨h1, h2, h3, h4, h5⟩)
      · exact ⟨h1, h2, h3, by omega⟩
      · exact ⟨h1, h2, by omega, by omega⟩
    · rintro ⟨h1, h2, h3, h4⟩
      have := okS_bounds h1
      by_cases e : s.g = g
      · exact .inr ⟨h1, h2, e, by omega, by omega⟩
      · exact .inl ⟨h1, h2, h3, by omega⟩
theorem mem_allK (s : Stp) : ∀ k : Nat, s ∈ allK k ↔ okS s = true ∧ s.k ≤ k
  | 0 => by
    unfold allK
    refine ⟨fun h => by simp at h, fun ⟨h1, h2⟩ => by have := okS_bounds h1; omega⟩
  | k + 1 => by
    unfold allK
    rw [List.mem_append, mem_allK s k, mem_allG]
    constructor
    · rintro (⟨h1, h2⟩ | ⟨h1, h2, h3, h4⟩)
      · exact ⟨h1, by omega⟩
      · exact ⟨h1, by omega⟩
    · rintro ⟨h1, h2⟩
      have := okS_bounds h1
      by_cases e : s.k = (k : Int) + 1
      · exact .inr ⟨h1, e, by omega, by omega⟩
      · exact .inl ⟨h1, by omega⟩
theorem mem_allS (s : Stp) : s ∈ allS ↔ okS s = true := by
  unfold allS
  rw [mem_allK]
  refine ⟨fun h => h.1, fun h => ⟨h, ?_⟩⟩
  have := okS_bounds h
  omega
theorem all_top (M : List UInt8) : Top M (fun s => okS s = true) (rfGo M allS (Zt, -1, 0)) :=
  (rf_top M allS (fun _ => False) (Zt, -1, 0) ⟨fun _ h => h.elim, .inl rfl, fun _ => ⟨rfl, fun _ h => h.elim⟩, fun h => absurd rfl h⟩).congr fun s => by rw [mem_allS]; simp
end Go.Proofs.YtnlgjakohoimhaaDoor
