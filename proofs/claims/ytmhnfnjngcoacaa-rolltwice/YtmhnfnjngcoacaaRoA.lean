/- What a roll's reader holds, sign by sign: by bytes alone. -/
import Derived.Test.YtmhnfnjngcoacaaFoE
import Derived.Test.YtmhnfnjngcoacaaSqC
namespace Go.Proofs.Ytmhnfnjngcoacaa
open Go.RowKit
set_option linter.unusedVariables false
set_option linter.unusedSimpArgs false

/-- What a roll's reader holds; 'next' is who reads the next sign: 0 a word, 1 the blank, 2 an item, 3 a file, 4 a rank. -/
structure RS where
  B : List Int
  side : Int
  left : List UInt8
  man : Int
  file : Nat
  next : Nat
  ends : Bool
def RS.full (r : RS) : RS := { r with next := 1, ends := r.side == 1 }
/-- The kind of a capital letter; 0: it is none. -/
def capK (c : UInt8) : Nat := if c.toNat = 80 then 1 else if c.toNat = 78 then 2 else if c.toNat = 66 then 3 else if c.toNat = 82 then 4 else if c.toNat = 81 then 5 else if c.toNat = 75 then 6 else 0
def sideM (s : Int) (k : Nat) : Int := if s = 0 then (k : Int) else -(k : Int)
def rsq (file : Nat) (c : UInt8) : Nat := (c.toNat - 49) * 8 + (file - 97)
/-- A sign is read. -/
def rst (c : UInt8) (r : RS) : Option RS :=
  match r.next with
  | 0 => match r.left with
    | [] => none
    | d :: rest => if c = d then (if rest = [] then some ({ r with left := [] } : RS).full else some { r with left := rest }) else none
  | 1 => if c = 32 then some { r with next := 2, ends := false } else none
  | 2 => if r.side = 0 ∧ c = 98 then some { r with side := 1, left := [108, 97, 99, 107], next := 0 }
    else if capK c = 0 then none else some { r with man := sideM r.side (capK c), next := 3 }
  | 3 => if 97 ≤ c.toNat ∧ c.toNat ≤ 104 then some { r with file := c.toNat, next := 4 } else none
  | 4 => if 49 ≤ c.toNat ∧ c.toNat ≤ 56 ∧ r.B.getD (rsq r.file c) 0 = 0 then some ({ r with B := r.B.set (rsq r.file c) r.man } : RS).full else none
  | _ => none
/-- A sign that names a square a second time. -/
def rtwice (c : UInt8) (r : RS) : Prop := r.next = 4 ∧ 49 ≤ c.toNat ∧ c.toNat ≤ 56 ∧ r.B.getD (rsq r.file c) 0 ≠ 0
def r0 : RS := { B := Zb, side := 0, left := [119, 104, 105, 116, 101], man := 0, file := 0, next := 0, ends := false }
def rfeed (r : RS) (l : List UInt8) : Option RS := l.foldl (fun o c => o.bind (rst c)) (some r)
theorem rfeed_nil (r : RS) : rfeed r [] = some r := rfl
theorem rfeed_none (l : List UInt8) : l.foldl (fun o c => o.bind (rst c)) (none : Option RS) = none := by
  induction l with
  | nil => rfl
  | cons c l ih => simpa using ih
theorem rfeed_app (r : RS) (a b : List UInt8) : rfeed r (a ++ b) = (rfeed r a).bind fun r' => rfeed r' b := by
  unfold rfeed
  rw [List.foldl_append]
  cases h : a.foldl (fun o c => o.bind (rst c)) (some r) with
  | none => exact rfeed_none b
  | some r' => rfl
theorem rfeed_cons (r : RS) (c : UInt8) (l : List UInt8) : rfeed r (c :: l) = (rst c r).bind fun r' => rfeed r' l := by
  rw [show c :: l = [c] ++ l from rfl, rfeed_app]; rfl
theorem rfeed_take (r : RS) (l : List UInt8) (n : Nat) (h : n < l.length) : rfeed r (l.take (n + 1)) = (rfeed r (l.take n)).bind (rst l[n]) := by
  rw [List.take_succ_eq_append_getElem h, rfeed_app]
  rfl
theorem rfeed_some {r : RS} {l : List UInt8} {n m : Nat} {x : RS} (h : rfeed r (l.take m) = some x) (hn : n ≤ m) : ∃ y, rfeed r (l.take n) = some y := by
  cases hq : rfeed r (l.take n) with
  | some y => exact ⟨y, rfl⟩
  | none =>
    exfalso
    have : l.take m = l.take n ++ (l.take m).drop n := by
      conv => lhs; rw [← List.take_append_drop n (l.take m)]
      rw [List.take_take, Nat.min_eq_left hn]
    rw [this, rfeed_app, hq] at h
    cases h
/-- What holds all the while. -/
structure RInv (r : RS) : Prop where
  brd : Brd r.B
  side : r.side = 0 ∨ r.side = 1
  left : ∀ x ∈ r.left, x.toNat < 128
  len : r.left.length ≤ 5
  man : okB r.man = true
  file : r.next = 4 → 97 ≤ r.file ∧ r.file ≤ 104
theorem sideM_ok (s : Int) (k : Nat) (h : k ≤ 6) : okB (sideM s k) = true ∧ -6 ≤ sideM s k ∧ sideM s k ≤ 6 := by
  have : k = 0 ∨ k = 1 ∨ k = 2 ∨ k = 3 ∨ k = 4 ∨ k = 5 ∨ k = 6 := by omega
  unfold sideM
  split <;> rcases this with rfl | rfl | rfl | rfl | rfl | rfl | rfl <;> decide
theorem capK_le (c : UInt8) : capK c ≤ 6 := by
  unfold capK
  repeat' split
  all_goals omega
theorem okB_bd {m : Int} (h : okB m = true) : -6 ≤ m ∧ m ≤ 6 := by
  unfold okB at h
  rw [Bool.or_eq_true, manB_iff] at h
  rcases h with h | h
  · have : m = 0 := by simpa using h
    omega
  · exact h.2
theorem set_brd {B : List Int} (h : Brd B) (k : Nat) (m : Int) (hm : -128 ≤ m ∧ m ≤ 127) : Brd (B.set k m) := by
  refine ⟨by simpa using h.1, fun i hi => ?_⟩
  have hl := h.1
  rw [getD_at _ _ (by simp; omega), List.getElem_set]
  split
  · exact hm
  · rw [← getD_at _ _ (by omega)]; exact h.2 i hi
theorem r0_inv : RInv r0 := ⟨Zb_brd, .inl rfl, by decide, by decide, by decide, by decide⟩
theorem rst_inv {c : UInt8} {r r' : RS} (h : rst c r = some r') (i : RInv r) : RInv r' := by
  unfold rst at h
  split at h
  · split at h
    · cases h
    · rename_i d rest hl
      have il := i.left
      have il2 := i.len
      rw [hl] at il il2
      split at h
      · split at h <;> cases h
        · exact ⟨i.brd, i.side, by simp [RS.full], by simp [RS.full], i.man, by simp [RS.full]⟩
        · exact ⟨i.brd, i.side, fun x hx => il x (by simp [hx]), by simp at il2 ⊢; omega, i.man, by simp [*]⟩
      · cases h
  · split at h <;> cases h
    exact ⟨i.brd, i.side, i.left, i.len, i.man, by simp⟩
  · split at h
    · cases h
      exact ⟨i.brd, .inr rfl, show ∀ x ∈ ([108, 97, 99, 107] : List UInt8), x.toNat < 128 by decide, show ([108, 97, 99, 107] : List UInt8).length ≤ 5 by decide, i.man, by simp⟩
    · split at h <;> cases h
      exact ⟨i.brd, i.side, i.left, i.len, (sideM_ok _ _ (capK_le c)).1, by simp⟩
  · split at h
    · cases h
      exact ⟨i.brd, i.side, i.left, i.len, i.man, fun _ => by assumption⟩
    · cases h
  · split at h
    · cases h
      exact ⟨set_brd i.brd _ _ (by have := okB_bd i.man; omega), i.side, i.left, i.len, i.man, by simp [RS.full]⟩
    · cases h
  · cases h
theorem rst_low {c : UInt8} {r r' : RS} (h : rst c r = some r') (i : RInv r) : c.toNat < 128 := by
  unfold rst at h
  split at h
  · split at h
    · cases h
    · rename_i d rest hl
      split at h
      · rename_i hc; rw [hc]; exact i.left d (by rw [hl]; simp)
      · cases h
  · split at h
    · rename_i hc; rw [hc]; decide
    · cases h
  · split at h
    · rename_i hc; rw [hc.2]; decide
    · split at h
      · cases h
      · rename_i _ hk
        by_cases hc : c.toNat < 128
        · exact hc
        · exfalso; apply hk; unfold capK; repeat' split
          all_goals omega
  · split at h
    · omega
    · cases h
  · split at h
    · omega
    · cases h
  · cases h
theorem rfeed_inv {r : RS} (i : RInv r) : ∀ {l : List UInt8} {x : RS}, rfeed r l = some x → RInv x := by
  intro l
  induction l generalizing r with
  | nil => intro x h; cases h; exact i
  | cons c l ih =>
    intro x h
    rw [rfeed_cons] at h
    cases hc : rst c r with
    | none => rw [hc] at h; cases h
    | some r' => rw [hc] at h; exact ih (rst_inv hc i) h
/-- What reading a text answers. -/
def RReads (t : List UInt8) (B : List Int) (n : Nat) (e : Int) : Prop :=
  (∃ h : n < t.length, ∃ r, rfeed r0 (t.take n) = some r ∧ rtwice t[n] r ∧ B = Zb ∧ e = 2)
  ∨ (∃ r, rfeed r0 t = some r ∧ n = t.length ∧ ((r.ends = false ∧ B = Zb ∧ e = 1) ∨ (r.ends = true ∧ B = r.B ∧ e = 0)))
end Go.Proofs.Ytmhnfnjngcoacaa
