/- Pieces of a text: numbers alone, by bytes. -/
import Derived.Test.YtnlgjakohoimhaaDoorSqD
import Derived.Lib.DecodeN
namespace Go.Proofs.YtnlgjakohoimhaaDoor
open Go.RowKit
set_option linter.unusedVariables false
set_option linter.unusedSimpArgs false
set_option maxRecDepth 100000

/-- What was read: where it ends or is wrong, a number, what is wrong. -/
structure Sp where
  a : Int
  n : Int
  e : Int
def sl (x : Sp) : List Value := [.int .i64 x.a, .int .i64 x.n, .int .i64 x.e]
def sv (x : Sp) : Value := .agg #[.int .i64 x.a, .int .i64 x.n, .int .i64 x.e]
/-- The bytes of a text. -/
def bs (t : ByteArray) : List UInt8 := t.data.toList
theorem bs_len (t : ByteArray) : (bs t).length = t.size := rfl
theorem bs_inj {a b : ByteArray} (h : bs a = bs b) : a = b := WideShapes.bytes_inj h
theorem bs_getq (t : ByteArray) (j : Nat) (h : j < t.size) : (bs t)[j]? = some (t[j]'h) := by
  rw [List.getElem?_eq_getElem (by rw [bs_len]; exact h)]
  simp [bs, ByteArray.getElem_eq_getElem_data]
theorem bs_extract (t : ByteArray) (i j : Nat) : bs (t.extract i j) = ((bs t).take j).drop i := by
  unfold bs
  rw [ByteArray.data_extract, Array.toList_extract, List.extract_eq_take_drop, List.drop_take]
theorem bs_rest (t : ByteArray) (i : Nat) : bs (t.extract i t.size) = (bs t).drop i := by
  rw [bs_extract, List.take_of_length_le (by rw [bs_len]; exact Nat.le_refl _)]
theorem bs_append (a b : ByteArray) : bs (a ++ b) = bs a ++ bs b := by simp [bs]
/-- Is there a place in, or behind, a text? -/
def inB (t : ByteArray) (i : Int) : Bool := decide (0 ≤ i) && decide (i ≤ t.size)
def argS : Sp := ⟨0, 0, 5⟩
/-- A piece that doesn't go on. -/
def stk (z : Nat) (i : Int) : Sp := if i = z then ⟨i, 0, 1⟩ else ⟨i, 0, 2⟩

/-! ### words -/
/-- With how many bytes both begin. -/
def cmn : List UInt8 → List UInt8 → Nat
  | x :: u, y :: v => if x = y then cmn u v + 1 else 0
  | _, _ => 0
theorem cmn_l : ∀ (a b : List UInt8), cmn a b ≤ a.length
  | [], _ => by simp [cmn]
  | _ :: _, [] => by simp [cmn]
  | x :: a, y :: b => by
    unfold cmn
    split
    · have := cmn_l a b; simp; omega
    · simp
theorem cmn_r : ∀ (a b : List UInt8), cmn a b ≤ b.length
  | [], _ => by simp [cmn]
  | _ :: _, [] => by simp [cmn]
  | x :: a, y :: b => by
    unfold cmn
    split
    · have := cmn_r a b; simp; omega
    · simp
theorem cmn_end (a b : List UInt8) (n : Nat) (h : ¬ (n < a.length ∧ n < b.length)) : cmn (a.drop n) (b.drop n) = 0 := by
  by_cases h1 : n < a.length
  · rw [show b.drop n = [] from List.drop_eq_nil_of_le (by omega)]
    cases a.drop n <;> rfl
  · rw [show a.drop n = [] from List.drop_eq_nil_of_le (by omega)]
    rfl
theorem cmn_same (a b : List UInt8) (n : Nat) (x : UInt8) (h1 : a[n]? = some x) (h2 : b[n]? = some x) : cmn (a.drop n) (b.drop n) = cmn (a.drop (n + 1)) (b.drop (n + 1)) + 1 := by
  obtain ⟨l1, e1⟩ := List.getElem?_eq_some_iff.1 h1
  obtain ⟨l2, e2⟩ := List.getElem?_eq_some_iff.1 h2
  rw [List.drop_eq_getElem_cons l1, List.drop_eq_getElem_cons l2, e1, e2]
  simp [cmn]
theorem cmn_diff (a b : List UInt8) (n : Nat) (x y : UInt8) (h1 : a[n]? = some x) (h2 : b[n]? = some y) (hn : x ≠ y) : cmn (a.drop n) (b.drop n) = 0 := by
  obtain ⟨l1, e1⟩ := List.getElem?_eq_some_iff.1 h1
  obtain ⟨l2, e2⟩ := List.getElem?_eq_some_iff.1 h2
  rw [List.drop_eq_getElem_cons l1, List.drop_eq_getElem_cons l2, e1, e2]
  simp [cmn, hn]
/-- All of the word: its beginning is there. -/
theorem cmn_full : ∀ (a b : List UInt8), cmn a b = b.length ↔ b <+: a
  | [], [] => by simp [cmn]
  | x :: a, [] => by simp [cmn]
  | [], y :: b => by simp [cmn]
  | x :: a, y :: b => by
    unfold cmn
    rw [List.cons_prefix_cons]
    split
    · next h => rw [← cmn_full a b]; simp [h]
    · next h =>
      simp
      intro h2; exact absurd h2.symm h
theorem cmn_whole : ∀ (a b : List UInt8), cmn a b = a.length ↔ a <+: b
  | [], b => by simp [cmn]
  | x :: a, [] => by simp [cmn]
  | x :: a, y :: b => by
    unfold cmn
    rw [List.cons_prefix_cons]
    split
    · next h => rw [← cmn_whole a b]; simp [h]
    · next h => simp [h]
/-- Where it stops within both, what comes behind changes nothing. -/
theorem cmn_more : ∀ (a b c : List UInt8), cmn a b < a.length → cmn (a ++ c) b = cmn a b
  | [], b, c, h => by simp at h
  | x :: a, [], c, _ => by simp [cmn]
  | x :: a, y :: b, c, h => by
    simp only [List.cons_append]
    unfold cmn at h ⊢
    split
    · next e =>
      rw [if_pos e] at h
      simp at h
      rw [cmn_more a b c h]
    · rfl
theorem cmn_le_more : ∀ (a b c : List UInt8), cmn a b ≤ cmn (a ++ c) b
  | [], b, c => by simp [cmn]
  | x :: a, [], c => by simp [cmn]
  | x :: a, y :: b, c => by
    simp only [List.cons_append]
    unfold cmn
    split
    · have := cmn_le_more a b c; omega
    · exact Nat.le_refl _
def wordP (t w : ByteArray) (i : Int) : Sp :=
  if inB t i = true then (if cmn ((bs t).drop i.toNat) (bs w) = w.size then ⟨i + cmn ((bs t).drop i.toNat) (bs w), 0, 0⟩ else stk t.size (i + cmn ((bs t).drop i.toNat) (bs w))) else argS
/-- One of words, from the k-th on: 'far' is how far those ahead came. -/
def oneGo (z : Nat) (i : Int) (M : List UInt8) : List ByteArray → Nat → Nat → Sp
  | [], _, far => stk z (i + far)
  | w :: ws, k, far => if cmn M (bs w) = w.size then ⟨i + cmn M (bs w), k, 0⟩ else oneGo z i M ws (k + 1) (max far (cmn M (bs w)))
/-- Words: none is empty, or the beginning of another one. -/
def Apart (ws : List ByteArray) : Prop := ws ≠ [] ∧ (∀ x ∈ ws, bs x ≠ []) ∧ ws.Pairwise fun a b => ¬ bs a <+: bs b ∧ ¬ bs b <+: bs a
noncomputable def apB (ws : List ByteArray) : Bool := @decide (Apart ws) (Classical.propDecidable _)
theorem apB_iff (ws : List ByteArray) : apB ws = true ↔ Apart ws := by unfold apB; exact @decide_eq_true_iff _ (Classical.propDecidable _)
theorem apB_no (ws : List ByteArray) : apB ws = false ↔ ¬ Apart ws := by rw [← apB_iff, Bool.not_eq_true]
noncomputable def oneP (t : ByteArray) (ws : List ByteArray) (i : Int) : Sp := if inB t i = true ∧ apB ws = true then oneGo t.size i ((bs t).drop i.toNat) ws 0 0 else argS
/-- The bytes' order. -/
theorem lex_between : ∀ (a b c : List UInt8), a ≤ b → b ≤ c → a <+: c → a <+: b
  | [], _, _, _, _, _ => List.nil_prefix
  | x :: a, [], _, h, _, _ => by simp at h
  | x :: a, y :: b, [], _, _, h => by simp at h
  | x :: a, y :: b, z :: c, h1, h2, h3 => by
    rw [List.cons_prefix_cons] at h3 ⊢
    rw [List.cons_le_cons_iff] at h1 h2
    obtain ⟨rfl, h3⟩ := h3
    have exy : x = y := by
      rcases h1 with h1 | h1
      · rcases h2 with h2 | h2
        · exact absurd h1 (UInt8.not_lt.2 (UInt8.le_of_lt h2))
        · exact h2.1.symm
      · exact h1.1
    subst exy
    refine ⟨rfl, lex_between a b c ?_ ?_ h3⟩
    · rcases h1 with h1 | h1
      · exact absurd h1 (UInt8.lt_irrefl _)
      · exact h1.2
    · rcases h2 with h2 | h2
      · exact absurd h2 (UInt8.lt_irrefl _)
      · exact h2.2
theorem prefix_le : ∀ {a b : List UInt8}, a <+: b → a ≤ b
  | [], _, _ => List.nil_le _
  | x :: a, [], h => by simp at h
  | x :: a, y :: b, h => by
    rw [List.cons_prefix_cons] at h
    rw [List.cons_le_cons_iff]
    exact .inr ⟨h.1, prefix_le h.2⟩
theorem gD {α : Type} {l : List α} {i : Nat} (d : α) (h : i < l.length) : l.getD i d = l[i] := by simp [List.getD, h]
/-- Sorted words: what the program tells by neighbours. -/
def nearB (S : List (List UInt8)) : Prop := ∀ j, j + 1 < S.length → ¬ S.getD j [] <+: S.getD (j + 1) []
theorem near_all (S : List (List UInt8)) (hs : S.Pairwise (· ≤ ·)) (hn : nearB S) : S.Pairwise fun a b => ¬ a <+: b ∧ ¬ b <+: a := by
  rw [List.pairwise_iff_getElem] at hs ⊢
  intro i k hi hk hik
  have key : ¬ S[i] <+: S[k] := by
    intro h
    refine hn i (by omega) ?_
    rw [gD _ hi, gD _ (by omega)]
    by_cases e : i + 1 = k
    · subst e; exact h
    · exact lex_between _ _ _ (hs i (i + 1) hi (by omega) (by omega)) (hs (i + 1) k (by omega) hk (by omega)) h
  refine ⟨key, fun h => ?_⟩
  have h1 := prefix_le h
  have h2 := hs i k hi hk hik
  exact key (by rw [List.le_antisymm h2 h1]; exact List.prefix_refl _)
theorem bs_map_inj {l m : List ByteArray} (h : l.map bs = m.map bs) : l = m := by
  refine List.map_inj_right (fun x y e => bs_inj e) |>.1 h
theorem pair_map (ws : List ByteArray) : (ws.Pairwise fun a b => ¬ bs a <+: bs b ∧ ¬ bs b <+: bs a) ↔ (ws.map bs).Pairwise fun a b => ¬ a <+: b ∧ ¬ b <+: a := by
  rw [List.pairwise_map]
theorem apart_sorted (ws : List ByteArray) (S : List (List UInt8)) (hp : S.Perm (ws.map bs)) (hs : S.Pairwise (· ≤ ·)) :
    Apart ws ↔ (S ≠ [] ∧ nearB S ∧ S.getD 0 [] ≠ []) := by
  have hsym : ∀ {a b : List UInt8}, (¬ a <+: b ∧ ¬ b <+: a) → (¬ b <+: a ∧ ¬ a <+: b) := fun h => ⟨h.2, h.1⟩
  have hlen : S.length = ws.length := by simpa using hp.length_eq
  constructor
  · rintro ⟨h0, h1, h2⟩
    have hS : S ≠ [] := by intro e; rw [e] at hlen; exact h0 (List.eq_nil_of_length_eq_zero hlen.symm)
    rw [pair_map, ← hp.pairwise_iff hsym] at h2
    refine ⟨hS, ?_, ?_⟩
    · intro j hj h
      rw [gD _ (by omega), gD _ hj] at h
      exact ((List.pairwise_iff_getElem.1 h2) j (j + 1) (by omega) hj (by omega)).1 h
    · have hl : 0 < S.length := List.length_pos_iff.2 hS
      rw [gD _ hl]
      have : S[0] ∈ ws.map bs := hp.mem_iff.1 (List.getElem_mem hl)
      obtain ⟨x, hx, e⟩ := List.mem_map.1 this
      rw [← e]; exact h1 x hx
  · rintro ⟨h0, h1, h2⟩
    have hl : 0 < S.length := List.length_pos_iff.2 h0
    refine ⟨fun e => by rw [e, List.length_nil] at hlen; omega, ?_, ?_⟩
    · intro x hx e
      have hm : bs x ∈ S := hp.mem_iff.2 (List.mem_map_of_mem hx)
      rw [e] at hm
      obtain ⟨k, hk, ek⟩ := List.getElem_of_mem hm
      rw [gD _ hl] at h2
      by_cases hk0 : k = 0
      · subst hk0; exact h2 ek
      · have := (List.pairwise_iff_getElem.1 hs) 0 k hl hk (by omega)
        rw [ek] at this
        exact h2 (List.le_antisymm this (List.nil_le _))
    · rw [pair_map, ← hp.pairwise_iff hsym]
      exact near_all S hs h1
/-- No two of them fit one text. -/
theorem apart_two {ws : List ByteArray} (h : Apart ws) {i k : Nat} {a b : ByteArray} (hi : ws[i]? = some a) (hk : ws[k]? = some b) (hn : i ≠ k) : ¬ bs a <+: bs b := by
  obtain ⟨l1, e1⟩ := List.getElem?_eq_some_iff.1 hi
  obtain ⟨l2, e2⟩ := List.getElem?_eq_some_iff.1 hk
  have hp := List.pairwise_iff_getElem.1 h.2.2
  rcases Nat.lt_or_gt_of_ne hn with h1 | h1
  · have := (hp i k l1 l2 h1).1
    rwa [e1, e2] at this
  · have := (hp k i l2 l1 h1).2
    rwa [e1, e2] at this

/-! ### numbers -/
def isD (b : UInt8) : Bool := decide (48 ≤ b.toNat) && decide (b.toNat ≤ 57)
/-- A number, from the byte at place j on, n told by those ahead. -/
def numGo (z : Nat) (i least most : Int) : List UInt8 → Nat → Int → Sp
  | [], j, n => if 0 < j ∧ least ≤ n then ⟨i + j, n, 0⟩ else ⟨i + j, 0, 1⟩
  | b :: r, j, n =>
    if isD b = true then
      (if 0 < j ∧ n = 0 then ⟨i + j, 0, 2⟩
       else if most < 10 * n + (b.toNat - 48) ∨ (j = 0 ∧ 10 * n + ((b.toNat : Int) - 48) = 0 ∧ 0 < least) then ⟨i + j, 0, 2⟩
       else numGo z i least most r (j + 1) (10 * n + (b.toNat - 48)))
    else if 0 < j ∧ least ≤ n then ⟨i + j, n, 0⟩ else ⟨i + j, 0, 2⟩
def numB (t : ByteArray) (i least most : Int) : Bool := inB t i && (decide (0 ≤ least) && (decide (least ≤ most) && decide (most ≤ 1000000)))
def numP (t : ByteArray) (i least most : Int) : Sp := if numB t i least most = true then numGo t.size i least most ((bs t).drop i.toNat) 0 0 else argS

/-! ### squares -/
def sqGo (i : Int) : List UInt8 → Sp
  | [] => ⟨i, 0, 1⟩
  | a :: r => if a.toNat < 97 ∨ 104 < a.toNat then ⟨i, 0, 2⟩ else match r with
    | [] => ⟨i + 1, 0, 1⟩
    | b :: _ => if b.toNat < 49 ∨ 56 < b.toNat then ⟨i + 1, 0, 2⟩ else ⟨i + 2, 8 * (b.toNat - 49) + (a.toNat - 97), 0⟩
def sqP (t : ByteArray) (i : Int) : Sp := if inB t i = true then sqGo i ((bs t).drop i.toNat) else argS

/-! ### lines -/
/-- How many bytes stand ahead of the next line feed. -/
def lnF (M : List UInt8) : Nat := M.findIdx (· == 10)
def lnS (t : ByteArray) (i : Int) : Sp :=
  if inB t i = true then (if lnF ((bs t).drop i.toNat) < ((bs t).drop i.toNat).length then ⟨i + lnF ((bs t).drop i.toNat) + 1, 0, 0⟩ else ⟨t.size, 0, 1⟩) else argS
def lnT (t : ByteArray) (i : Int) : ByteArray :=
  if inB t i = true then t.extract i.toNat (i.toNat + lnF ((bs t).drop i.toNat)) else ⟨#[]⟩
theorem lnF_at {M : List UInt8} {j : Nat} {b : UInt8} (h : M[j]? = some b) (hb : b = 10) (ha : ∀ k, k < j → M[k]? ≠ some 10) : lnF M = j := by
  obtain ⟨hj, e⟩ := List.getElem?_eq_some_iff.1 h
  unfold lnF
  rw [List.findIdx_eq hj]
  refine ⟨by rw [e, hb]; rfl, fun k hk => ?_⟩
  have := ha k hk
  rw [List.getElem?_eq_getElem (by omega)] at this
  simpa using this
theorem lnF_none {M : List UInt8} (ha : ∀ k, k < M.length → M[k]? ≠ some 10) : lnF M = M.length := by
  unfold lnF
  rw [List.findIdx_eq_length]
  intro x hx
  obtain ⟨k, hk, rfl⟩ := List.getElem_of_mem hx
  have := ha k hk
  rw [List.getElem?_eq_getElem hk] at this
  simpa using this

/-! ### signs -/
/-- The bytes of a sign of several bytes are high. -/
theorem sign_high (s : ByteArray) (p : Nat) (hp : p < s.size) (h : ¬ (s[p]'hp).toNat < 128) : ∀ k, p ≤ k → k < p + (Utf8.decode s p).2 → ∃ b, (bs s)[k]? = some b ∧ 128 ≤ b.toNat := by
  have hget : ∀ k, (hk : k < s.size) → s.get! k = s[k]'hk := fun k hk => by have := get_at s k hk; simpa using this
  have hb0 : (s.get! p).toNat = (s[p]'hp).toNat := by rw [hget p hp]
  have fin : ∀ k, (hk : k < s.size) → 128 ≤ (s.get! k).toNat → ∃ b, (bs s)[k]? = some b ∧ 128 ≤ b.toNat := fun k hk h1 => ⟨_, bs_getq s k hk, by rw [← hget k hk]; exact h1⟩
  have f0 := fin p hp (by omega)
  have hd := Lib.decode_at s p
  unfold Lib.decodeN at hd
  rw [if_neg (by omega)] at hd
  intro k hk1 hk2
  have hk : k = p ∨ k = p + 1 ∨ k = p + 2 ∨ k = p + 3 ∨ p + 4 ≤ k := by omega
  repeat' split at hd
  all_goals rw [hd] at hk2
  all_goals dsimp only at hk2
  all_goals rcases hk with rfl | rfl | rfl | rfl | hk
  all_goals first
    | exact f0
    | (exfalso; omega)
    | exact fin _ (by omega) (by omega)
end Go.Proofs.YtnlgjakohoimhaaDoor
