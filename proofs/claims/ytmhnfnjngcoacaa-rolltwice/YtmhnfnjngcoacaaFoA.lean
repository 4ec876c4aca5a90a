/- Forsyth texts, by bytes alone: what a beginning says, and the board of it. -/
import Derived.Test.YtmhnfnjngcoacaaMeC
import Derived.Test.YtmhnfnjngcoacaaBoM
namespace Go.Proofs.Ytmhnfnjngcoacaa
open Go.RowKit
set_option linter.unusedVariables false

/-- What a beginning says: squares, whole rows, squares of the row that goes on. -/
abbrev St := List Int × Nat × Nat
def manOf (c : UInt8) : Int := ofT ⟨#[c]⟩
def stp (c : UInt8) (s : St) : Option St :=
  if c.toNat = 47 then (if s.2.2 = 8 ∧ s.2.1 ≠ 7 then some (s.1, s.2.1 + 1, 0) else none)
  else if 49 ≤ c.toNat ∧ c.toNat ≤ 56 then (if s.2.2 + (c.toNat - 48) ≤ 8 then some (s.1 ++ List.replicate (c.toNat - 48) 0, s.2.1, s.2.2 + (c.toNat - 48)) else none)
  else if manOf c = 0 then none
  else if s.2.2 < 8 then some (s.1 ++ [manOf c], s.2.1, s.2.2 + 1) else none
def says (l : List UInt8) : Option St := l.foldl (fun o c => o.bind (stp c)) (some ([], 0, 0))
theorem says_nil : says [] = some ([], 0, 0) := rfl
theorem says_snoc (l : List UInt8) (c : UInt8) : says (l ++ [c]) = (says l).bind (stp c) := by simp [says]
theorem says_take (l : List UInt8) (n : Nat) (h : n < l.length) : says (l.take (n + 1)) = (says (l.take n)).bind (stp l[n]) := by
  rw [List.take_add_one, List.getElem?_eq_getElem h]
  exact says_snoc _ _
theorem says_none {a : List UInt8} (b : List UInt8) (h : says a = none) : says (a ++ b) = none := by
  unfold says at h ⊢
  rw [List.foldl_append, h]
  induction b with
  | nil => rfl
  | cons x b ih => exact ih
theorem says_some {a b : List UInt8} {s : St} (h : says (a ++ b) = some s) : ∃ s', says a = some s' := by
  cases e : says a with
  | none => rw [says_none b e] at h; cases h
  | some s' => exact ⟨s', rfl⟩
theorem manOf_man (c : UInt8) (h : manOf c ≠ 0) : ∃ n, n < 12 ∧ (⟨#[c]⟩ : ByteArray) = lettN n ∧ manOf c = inOrd n := by
  obtain ⟨n, hn, hx⟩ := ofT_inv _ h
  rcases hx with hx | hx
  · exact ⟨n, hn, hx, by unfold manOf; rw [hx, ofT_letter n hn]⟩
  · have := congrArg ByteArray.size hx
    simp [signN, ByteArray.size] at this
theorem manOf_bd (c : UInt8) : -6 ≤ manOf c ∧ manOf c ≤ 6 := by
  by_cases h : manOf c = 0
  · omega
  · obtain ⟨n, hn, _, e⟩ := manOf_man c h
    rw [e]; exact (inOrd_man n hn).2
structure Inv (s : St) : Prop where
  len : s.1.length = 8 * s.2.1 + s.2.2
  row : s.2.2 ≤ 8
  rows : s.2.1 ≤ 7
  men : ∀ x ∈ s.1, -6 ≤ x ∧ x ≤ 6
theorem stp_inv {c : UInt8} {s s' : St} (h : stp c s = some s') (hi : Inv s) : Inv s' := by
  unfold stp at h
  obtain ⟨h1, h2, h3, h4⟩ := hi
  repeat' split at h
  all_goals simp only [reduceCtorEq, Option.some.injEq] at h
  all_goals subst h
  · exact ⟨by simp; omega, by simp, by simp; omega, h4⟩
  · refine ⟨by simp; omega, by simp; omega, h3, fun x hx => ?_⟩
    rcases List.mem_append.1 hx with hx | hx
    · exact h4 x hx
    · rw [(List.mem_replicate.1 hx).2]; omega
  · refine ⟨by simp; omega, by simp; omega, h3, fun x hx => ?_⟩
    rcases List.mem_append.1 hx with hx | hx
    · exact h4 x hx
    · rw [List.mem_singleton.1 hx]; exact manOf_bd c
theorem says_inv_aux (l : List UInt8) : ∀ (o : Option St), (∀ s, o = some s → Inv s) → ∀ s, l.foldl (fun o c => o.bind (stp c)) o = some s → Inv s := by
  induction l with
  | nil => intro o h s e; exact h s e
  | cons c l ih =>
    intro o h s e
    refine ih (o.bind (stp c)) (fun s' e' => ?_) s e
    cases o with
    | none => simp at e'
    | some s0 => exact stp_inv e' (h s0 rfl)
theorem says_inv {l : List UInt8} {s : St} (h : says l = some s) : Inv s :=
  says_inv_aux l _ (fun s e => by cases e; exact ⟨rfl, by simp, by simp, by simp⟩) s h
/-- The board of squares that were said, from the last rank on. -/
def sw (k : Nat) : Nat := 8 * (7 - k / 8) + k % 8
def bd (S : List Int) : List Int := tab fun k => S.getD (sw k) 0
theorem bd_length (S : List Int) : (bd S).length = 64 := tab_length _
theorem bd_brd (S : List Int) (h : ∀ x ∈ S, -6 ≤ x ∧ x ≤ 6) : Brd (bd S) := by
  refine tab_brd fun i _ => ?_
  rw [List.getD]
  cases e : S[sw i]? with
  | none => simp
  | some x => have := h x (List.mem_of_getElem? e); simp; omega
theorem bd_nil : bd [] = Zb := by decide +kernel
theorem bd_zeros (S : List Int) (d : Nat) : bd (S ++ List.replicate d 0) = bd S := by
  refine tab_ext fun i _ => ?_
  by_cases h : sw i < S.length
  · rw [List.getD, List.getD, List.getElem?_append_left h]
  · rw [List.getD, List.getD, List.getElem?_append_right (by omega), List.getElem?_eq_none (show S.length ≤ sw i by omega), List.getElem?_replicate]
    split <;> rfl
theorem bd_man (S : List Int) (rows row : Nat) (m : Int) (h : S.length = 8 * rows + row) (h1 : row < 8) (h2 : rows ≤ 7) : bd (S ++ [m]) = (bd S).set (8 * (7 - rows) + row) m := by
  unfold bd
  rw [tab_set]
  refine tab_ext fun i hi => ?_
  by_cases e : i = 8 * (7 - rows) + row
  · rw [if_pos e]
    have : sw i = S.length := by unfold sw; omega
    rw [this]
    simp [List.getD]
  · rw [if_neg e]
    have : sw i ≠ S.length := by unfold sw; omega
    by_cases h' : sw i < S.length
    · rw [List.getD, List.getD, List.getElem?_append_left h']
    · rw [List.getD, List.getD, List.getElem?_append_right (by omega), List.getElem?_eq_none (show S.length ≤ sw i by omega), List.getElem?_eq_none (by simp; omega)]
/-- What reading a text gives: the board, a place, an error's number. -/
def Reads (t : List UInt8) (B : List Int) (n : Nat) (e : Int) : Prop :=
  (n < t.length ∧ (∃ s, says (t.take n) = some s) ∧ says (t.take (n + 1)) = none ∧ B = Zb ∧ e = 2) ∨
  ∃ s, says t = some s ∧ n = t.length ∧ ((s.1.length < 64 ∧ B = Zb ∧ e = 1) ∨ (64 ≤ s.1.length ∧ B = bd s.1 ∧ e = 0))
theorem says_le {t : List UInt8} {a b : Nat} (h : a ≤ b) (hn : says (t.take a) = none) : says (t.take b) = none := by
  have e : t.take b = t.take a ++ (t.take b).drop a := by
    have := List.take_append_drop a (t.take b)
    rw [List.take_take, Nat.min_eq_left h] at this
    exact this.symm
  rw [e]; exact says_none _ hn
theorem Reads.uniq {t : List UInt8} {B B' : List Int} {n n' : Nat} {e e' : Int} (h : Reads t B n e) (h' : Reads t B' n' e') : B = B' ∧ n = n' ∧ e = e' := by
  rcases h with ⟨h1, ⟨s, h2⟩, h3, rfl, rfl⟩ | ⟨s, h1, rfl, h2⟩ <;> rcases h' with ⟨k1, ⟨s', k2⟩, k3, rfl, rfl⟩ | ⟨s', k1, rfl, k2⟩
  · refine ⟨rfl, ?_, rfl⟩
    rcases Nat.lt_trichotomy n n' with hl | hl | hl
    · rw [says_le hl h3] at k2; cases k2
    · exact hl
    · rw [says_le hl k3] at h2; cases h2
  · have := says_le (b := t.length) h1 h3
    rw [List.take_length, k1] at this; cases this
  · have := says_le (b := t.length) k1 k3
    rw [List.take_length, h1] at this; cases this
  · rw [h1] at k1; cases k1
    rcases h2 with ⟨a, rfl, rfl⟩ | ⟨a, rfl, rfl⟩ <;> rcases k2 with ⟨b, rfl, rfl⟩ | ⟨b, rfl, rfl⟩ <;> first | exact ⟨rfl, rfl, rfl⟩ | omega
theorem Reads.brd {t : List UInt8} {B : List Int} {n : Nat} {e : Int} (h : Reads t B n e) : Brd B := by
  rcases h with ⟨_, _, _, rfl, _⟩ | ⟨s, h1, _, ⟨_, rfl, _⟩ | ⟨_, rfl, _⟩⟩
  · exact Zb_brd
  · exact Zb_brd
  · exact bd_brd _ (says_inv h1).men
theorem Reads.le {t : List UInt8} {B : List Int} {n : Nat} {e : Int} (h : Reads t B n e) : n ≤ t.length := by
  rcases h with ⟨h, _⟩ | ⟨_, _, h, _⟩ <;> omega
/-- Bytes and runes. -/
theorem enc_low (c : UInt8) (h : c.toNat < 128) : Utf8.encode (c.toNat : Nat) = ⟨#[c]⟩ := by
  have : ∀ k : Fin 128, Utf8.encode ((k.val : Nat) : Int) = ⟨#[UInt8.ofNat k.val]⟩ := by decide +kernel
  have := this ⟨c.toNat, h⟩
  simp only [UInt8.ofNat_toNat] at this
  exact this
theorem enc_high (q : Nat) (h : 128 ≤ q) : 2 ≤ (Utf8.encode (q : Int)).size := by
  unfold Utf8.encode
  have : ¬ (if Utf8.valid (q : Int) then (q : Int).toNat else Utf8.runeError) < 128 := by
    split
    · simp; omega
    · simp [Utf8.runeError]
  simp only [this, if_false]
  repeat' split
  all_goals simp [ByteArray.size]
theorem manOf_high (c : UInt8) (h : 128 ≤ c.toNat) : manOf c = 0 := by
  refine Classical.byContradiction fun h0 => ?_
  obtain ⟨n, hn, e, _⟩ := manOf_man c h0
  have := runeL_lt n hn
  unfold lettN at e
  have e' := congrArg (fun b : ByteArray => b.data.toList) e
  simp at e'
  rw [e'] at h
  simp at h
  omega
theorem stp_high (c : UInt8) (s : St) (h : 128 ≤ c.toNat) : stp c s = none := by
  unfold stp
  rw [if_neg (by omega), if_neg (by omega), if_pos (manOf_high c h)]
end Go.Proofs.Ytmhnfnjngcoacaa
