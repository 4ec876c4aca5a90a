/- The tidy roll of a board, and that it is read: by bytes alone. -/
import Derived.Test.YtmhnfnjngcoacaaRoA
namespace Go.Proofs.Ytmhnfnjngcoacaa
open Go.RowKit
set_option linter.unusedVariables false
set_option linter.unusedSimpArgs false

/-- A man of order n on the square s, as a roll names it. -/
def itemT (n s : Nat) : List UInt8 := (lettN (n % 6)).data.toList ++ (nameOf (s : Nat)).data.toList
def itemsT (n : Nat) (l : List Nat) : List UInt8 := l.flatMap fun s => 32 :: itemT n s
def kindT (B : List Int) (n : Nat) : List UInt8 := itemsT n (whereL B (inOrd n))
/-- All men of orders n0 .. n0 + j - 1. -/
def menT (B : List Int) (n0 j : Nat) : List UInt8 := (List.range j).flatMap fun i => kindT B (n0 + i)
def whiteT : List UInt8 := [119, 104, 105, 116, 101]
def blackT : List UInt8 := [98, 108, 97, 99, 107]
def rollT (B : List Int) : List UInt8 := whiteT ++ menT B 0 6 ++ (32 :: blackT) ++ menT B 6 6
theorem itemT_len (n s : Nat) : (itemT n s).length = 3 := rfl
theorem itemsT_len (n : Nat) (l : List Nat) : (itemsT n l).length = 4 * l.length := by
  induction l with
  | nil => rfl
  | cons a l ih =>
    have : itemsT n (a :: l) = (32 :: itemT n a) ++ itemsT n l := rfl
    rw [this, List.length_append, ih, List.length_cons, itemT_len, List.length_cons]
    omega
theorem itemsT_snoc (n : Nat) (l : List Nat) (s : Nat) : itemsT n (l ++ [s]) = itemsT n l ++ (32 :: itemT n s) := by simp [itemsT]
theorem kindT_len (B : List Int) (n : Nat) : (kindT B n).length ≤ 256 := by
  unfold kindT
  rw [itemsT_len]
  have := sel_le (fun i => B.getD i 0 == inOrd n) 64
  unfold whereL
  omega
theorem menT_succ (B : List Int) (n0 j : Nat) : menT B n0 (j + 1) = menT B n0 j ++ kindT B (n0 + j) := by simp [menT, List.range_succ]
theorem menT_len (B : List Int) (n0 : Nat) : ∀ j, (menT B n0 j).length ≤ 256 * j
  | 0 => by simp [menT]
  | j + 1 => by
    have h1 := menT_len B n0 j
    have h2 := kindT_len B (n0 + j)
    rw [menT_succ, List.length_append]
    omega
theorem rollT_len (B : List Int) : (rollT B).length ≤ 4000 := by
  have h1 := menT_len B 0 6
  have h2 := menT_len B 6 6
  simp [rollT, whiteT, blackT]
  omega
theorem rollT_pos (B : List Int) : 11 ≤ (rollT B).length := by
  simp [rollT, whiteT, blackT]
  omega
/-- Where a word or a man is whole. -/
def rs1 (B : List Int) (sd : Int) (left : List UInt8) (man : Int) (file : Nat) : RS := { B := B, side := sd, left := left, man := man, file := file, next := 1, ends := sd == 1 }
def sdN (n : Nat) : Int := if n < 6 then 0 else 1
theorem letter_cap (n : Nat) (h : n < 12) : (lettN (n % 6)).data.toList = [(runeL (n % 6)).toUInt8] ∧ sideM (sdN n) (capK (runeL (n % 6)).toUInt8) = inOrd n ∧ capK (runeL (n % 6)).toUInt8 ≠ 0 ∧ (runeL (n % 6)).toUInt8 ≠ 98 := by
  have : n = 0 ∨ n = 1 ∨ n = 2 ∨ n = 3 ∨ n = 4 ∨ n = 5 ∨ n = 6 ∨ n = 7 ∨ n = 8 ∨ n = 9 ∨ n = 10 ∨ n = 11 := by omega
  rcases this with rfl | rfl | rfl | rfl | rfl | rfl | rfl | rfl | rfl | rfl | rfl | rfl <;> decide
theorem name_bytes (s : Nat) (h : s < 64) : ∃ a b : UInt8, (nameOf (s : Nat)).data.toList = [a, b] ∧ a.toNat = 97 + s % 8 ∧ b.toNat = 49 + s / 8 := by
  refine ⟨_, _, rfl, ?_, ?_⟩
  · simp; omega
  · simp; omega
/-- What stands behind a man's letter and file. -/
theorem item_half (B : List Int) (left : List UInt8) (man : Int) (file n s : Nat) (hn : n < 12) (hs : s < 64) (b : UInt8) (hb : b.toNat = 49 + s / 8) :
    ∃ r : RS, (∃ a, rfeed (rs1 B (sdN n) left man file) (32 :: (lettN (n % 6)).data.toList ++ [a]) = some r ∧ itemT n s = (lettN (n % 6)).data.toList ++ [a, b]) ∧ r = { B := B, side := sdN n, left := left, man := inOrd n, file := 97 + s % 8, next := 4, ends := false } := by
  obtain ⟨h1, h2, h3, h4⟩ := letter_cap n hn
  obtain ⟨a, b', e, ha, hb'⟩ := name_bytes s hs
  have hbb : b' = b := UInt8.toNat.inj (by omega)
  subst hbb
  refine ⟨_, ⟨a, ?_, by rw [itemT, e]⟩, rfl⟩
  rw [h1]
  have e1 : rst 32 (rs1 B (sdN n) left man file) = some { B := B, side := sdN n, left := left, man := man, file := file, next := 2, ends := false } := rfl
  have e2 : rst (runeL (n % 6)).toUInt8 { B := B, side := sdN n, left := left, man := man, file := file, next := 2, ends := false } = some { B := B, side := sdN n, left := left, man := inOrd n, file := file, next := 3, ends := false } := by
    show (if sdN n = 0 ∧ (runeL (n % 6)).toUInt8 = 98 then _ else if capK (runeL (n % 6)).toUInt8 = 0 then none else some ({ B := B, side := sdN n, left := left, man := sideM (sdN n) (capK (runeL (n % 6)).toUInt8), file := file, next := 3, ends := false } : RS)) = _
    rw [if_neg (fun hh => h4 hh.2), if_neg h3, h2]
  have e3 : rst a { B := B, side := sdN n, left := left, man := inOrd n, file := file, next := 3, ends := false } = some { B := B, side := sdN n, left := left, man := inOrd n, file := 97 + s % 8, next := 4, ends := false } := by
    show (if 97 ≤ a.toNat ∧ a.toNat ≤ 104 then some ({ B := B, side := sdN n, left := left, man := inOrd n, file := a.toNat, next := 4, ends := false } : RS) else none) = _
    rw [if_pos (by omega), ha]
  simp only [List.cons_append, List.nil_append, rfeed_cons, e1, e2, e3, Option.bind_some, rfeed_nil]
theorem rsq_is (s : Nat) (hs : s < 64) (b : UInt8) (hb : b.toNat = 49 + s / 8) : rsq (97 + s % 8) b = s := by unfold rsq; omega
theorem item_feed (B : List Int) (left : List UInt8) (man : Int) (file n s : Nat) (hn : n < 12) (hs : s < 64) (h0 : B.getD s 0 = 0) :
    rfeed (rs1 B (sdN n) left man file) (32 :: itemT n s) = some (rs1 (B.set s (inOrd n)) (sdN n) left (inOrd n) (97 + s % 8)) := by
  obtain ⟨a0, b, _, _, hb⟩ := name_bytes s hs
  obtain ⟨r, ⟨a, h1, h2⟩, h3⟩ := item_half B left man file n s hn hs b hb
  rw [h2, show 32 :: ((lettN (n % 6)).data.toList ++ [a, b]) = (32 :: (lettN (n % 6)).data.toList ++ [a]) ++ [b] by simp, rfeed_app, h1, h3]
  show rfeed _ [b] = _
  rw [rfeed_cons]
  have e4 : rst b { B := B, side := sdN n, left := left, man := inOrd n, file := 97 + s % 8, next := 4, ends := false } = some (rs1 (B.set s (inOrd n)) (sdN n) left (inOrd n) (97 + s % 8)) := by
    unfold rst
    simp only
    rw [rsq_is s hs b hb, if_pos ⟨by omega, by omega, h0⟩]
    rfl
  rw [e4]
  rfl
theorem item_twice (B : List Int) (left : List UInt8) (man : Int) (file n s : Nat) (hn : n < 12) (hs : s < 64) (h0 : B.getD s 0 ≠ 0) :
    ∃ (v : List UInt8) (b : UInt8) (r : RS), 32 :: itemT n s = v ++ [b] ∧ rfeed (rs1 B (sdN n) left man file) v = some r ∧ rtwice b r := by
  obtain ⟨a0, b, _, _, hb⟩ := name_bytes s hs
  obtain ⟨r, ⟨a, h1, h2⟩, h3⟩ := item_half B left man file n s hn hs b hb
  refine ⟨_, b, r, ?_, h1, ?_⟩
  · rw [h2]; simp
  · rw [h3]
    exact ⟨rfl, by omega, by omega, by rw [rsq_is s hs b hb]; exact h0⟩
/-- Which squares are named ahead of the squares from p on of order n. -/
def dn (B : List Int) (n p i : Nat) : Bool := (List.range n).any (fun m => B.getD i 0 == inOrd m) || (B.getD i 0 == inOrd n && decide (i < p))
def mb (B : List Int) (n p : Nat) : List Int := tab fun i => if dn B n p i then B.getD i 0 else 0
theorem mb_len (B : List Int) (n p : Nat) : (mb B n p).length = 64 := tab_length _
theorem dn_here {B : List Int} {n p : Nat} (hn : n < 12) (h : B.getD p 0 = inOrd n) : dn B n p p = false := by
  unfold dn
  rw [Bool.or_eq_false_iff]
  refine ⟨?_, by simp⟩
  rw [List.any_eq_false]
  intro m hm
  have : m < n := by simpa using hm
  rw [h]
  simpa using fun e => inOrd_inj hn (by omega : m < 12) (by omega) e
theorem dn_next {B : List Int} {n p : Nat} (h : B.getD p 0 = inOrd n) : dn B n (p + 1) p = true := by
  unfold dn
  rw [Bool.or_eq_true]
  right
  rw [h]
  simp
theorem dn_other {B : List Int} {n p i : Nat} (h : i ≠ p) : dn B n (p + 1) i = dn B n p i := by
  unfold dn
  congr 2
  simp only [decide_eq_decide]
  omega
theorem dn_no {B : List Int} {n p : Nat} (h : (B.getD p 0 == inOrd n) = false) (i : Nat) : dn B n (p + 1) i = dn B n p i := by
  by_cases e : i = p
  · subst e
    unfold dn
    rw [h]
    rfl
  · exact dn_other e
theorem mb_yes {B : List Int} {n p : Nat} (hp : p < 64) (h : B.getD p 0 = inOrd n) : (mb B n p).set p (inOrd n) = mb B n (p + 1) := by
  unfold mb
  rw [tab_set]
  refine tab_ext fun i hi => ?_
  by_cases e : i = p
  · subst e
    rw [if_pos rfl, dn_next h, h]
    rfl
  · rw [if_neg e, dn_other e]
theorem mb_no {B : List Int} {n p : Nat} (h : (B.getD p 0 == inOrd n) = false) : mb B n (p + 1) = mb B n p := by
  unfold mb
  exact tab_ext fun i hi => by rw [dn_no h]
theorem mb_end (B : List Int) (n : Nat) : mb B n 64 = mb B (n + 1) 0 := by
  unfold mb
  refine tab_ext fun i hi => ?_
  have : dn B n 64 i = dn B (n + 1) 0 i := by
    unfold dn
    rw [List.range_succ, List.any_append]
    simp [hi]
  rw [this]
theorem mb_zero (B : List Int) : mb B 0 0 = Zb := by
  have : mb B 0 0 = tab fun _ => 0 := by
    unfold mb
    exact tab_ext fun i _ => by simp [dn]
  rw [this]
  decide +kernel
theorem mb_all {B : List Int} (hB : B.length = 64) (h : ∀ i, i < 64 → okB (B.getD i 0) = true) : mb B 12 0 = B := by
  conv => rhs; rw [← tab_of B hB]
  unfold mb
  refine tab_ext fun i hi => ?_
  by_cases h0 : B.getD i 0 = 0
  · rw [h0]; simp
  · have hm : manB (B.getD i 0) = true := by
      have := h i hi
      unfold okB at this
      rw [Bool.or_eq_true, beq_iff_eq] at this
      exact this.resolve_left h0
    obtain ⟨a, b, c⟩ := (manB_iff _).1 hm
    obtain ⟨n, hn, e⟩ := man_inOrd _ a b c
    have : dn B 12 0 i = true := by
      unfold dn
      rw [Bool.or_eq_true]
      left
      rw [List.any_eq_true]
      exact ⟨n, by simpa using hn, by rw [e]; simp⟩
    rw [this]
    rfl
theorem kind_feed (B : List Int) (n : Nat) (hn : n < 12) (left : List UInt8) : ∀ p, p ≤ 64 → ∀ (man : Int) (file : Nat), ∃ man' file',
    rfeed (rs1 (mb B n 0) (sdN n) left man file) (itemsT n (sel (fun i => B.getD i 0 == inOrd n) p)) = some (rs1 (mb B n p) (sdN n) left man' file')
  | 0, _, man, file => ⟨man, file, rfl⟩
  | p + 1, hp, man, file => by
    obtain ⟨m', f', ih⟩ := kind_feed B n hn left p (by omega) man file
    by_cases h : (B.getD p 0 == inOrd n) = true
    · rw [sel_yes h, itemsT_snoc, rfeed_app, ih]
      have e : B.getD p 0 = inOrd n := by simpa using h
      have h0 : (mb B n p).getD p 0 = 0 := by
        unfold mb
        rw [tab_get _ _ (by omega), dn_here hn e]
        rfl
      exact ⟨_, _, by rw [Option.bind_some, item_feed _ _ _ _ _ _ hn (by omega) h0, mb_yes (by omega) e]⟩
    · have h' : (B.getD p 0 == inOrd n) = false := by simpa using h
      rw [sel_no h', mb_no h']
      exact ⟨m', f', ih⟩
theorem men_feed (B : List Int) (n0 : Nat) (left : List UInt8) : ∀ j, n0 + j ≤ 12 → (∀ i, i < j → sdN (n0 + i) = sdN n0) → ∀ (man : Int) (file : Nat), ∃ man' file',
    rfeed (rs1 (mb B n0 0) (sdN n0) left man file) (menT B n0 j) = some (rs1 (mb B (n0 + j) 0) (sdN n0) left man' file')
  | 0, _, _, man, file => ⟨man, file, rfl⟩
  | j + 1, hj, hs, man, file => by
    obtain ⟨m', f', ih⟩ := men_feed B n0 left j (by omega) (fun i hi => hs i (by omega)) man file
    obtain ⟨m2, f2, h2⟩ := kind_feed B (n0 + j) (by omega) left 64 (by omega) m' f'
    rw [hs j (by omega), mb_end] at h2
    refine ⟨m2, f2, ?_⟩
    rw [menT_succ, rfeed_app, ih]
    exact h2
theorem white_feed : rfeed r0 whiteT = some (rs1 Zb 0 [] 0 0) := rfl
theorem black_feed (B : List Int) (left : List UInt8) (man : Int) (file : Nat) : rfeed (rs1 B 0 left man file) (32 :: blackT) = some (rs1 B 1 [] man file) := rfl
theorem roll_feed {B : List Int} (hB : B.length = 64) (h : rightB B = true) : ∃ man file, rfeed r0 (rollT B) = some (rs1 B 1 [] man file) := by
  obtain ⟨m1, f1, h1⟩ := men_feed B 0 [] 6 (by omega) (fun i hi => by unfold sdN; rw [if_pos (by omega), if_pos (by omega)]) 0 0
  obtain ⟨m2, f2, h2⟩ := men_feed B 6 [] 6 (by omega) (fun i hi => by unfold sdN; rw [if_neg (by omega), if_neg (by omega)]) m1 f1
  rw [mb_zero] at h1
  rw [mb_all hB ((rightB_iff B hB).1 h)] at h2
  refine ⟨m2, f2, ?_⟩
  unfold rollT
  rw [rfeed_app, rfeed_app, rfeed_app, white_feed, Option.bind_some]
  have e0 : rs1 Zb 0 [] 0 0 = rs1 Zb (sdN 0) [] 0 0 := rfl
  rw [e0, h1, Option.bind_some]
  have e1 : rs1 (mb B (0 + 6) 0) (sdN 0) [] m1 f1 = rs1 (mb B 6 0) 0 [] m1 f1 := rfl
  rw [e1, black_feed, Option.bind_some]
  exact h2
/-- What is written is read. -/
theorem roll_reads {B : List Int} (hB : B.length = 64) (h : rightB B = true) : RReads (rollT B) B (rollT B).length 0 := by
  obtain ⟨m, f, e⟩ := roll_feed hB h
  exact .inr ⟨_, e, rfl, .inr ⟨rfl, rfl, rfl⟩⟩
/-- One man more. -/
theorem more_yes {B : List Int} (hB : B.length = 64) (h : rightB B = true) (n s : Nat) (h6 : 6 ≤ n) (hn : n < 12) (hs : s < 64) (h0 : B.getD s 0 = 0) :
    RReads (rollT B ++ (32 :: itemT n s)) (B.set s (inOrd n)) (rollT B ++ (32 :: itemT n s)).length 0 := by
  obtain ⟨m, f, e⟩ := roll_feed hB h
  have e2 := item_feed B [] m f n s hn hs h0
  have hsd : sdN n = 1 := by unfold sdN; rw [if_neg (by omega)]
  rw [hsd] at e2
  refine .inr ⟨rs1 (B.set s (inOrd n)) 1 [] (inOrd n) (97 + s % 8), ?_, rfl, .inr ⟨rfl, rfl, rfl⟩⟩
  rw [rfeed_app, e]
  exact e2
theorem more_twice {B : List Int} (hB : B.length = 64) (h : rightB B = true) (n s : Nat) (h6 : 6 ≤ n) (hn : n < 12) (hs : s < 64) (h0 : B.getD s 0 ≠ 0) :
    RReads (rollT B ++ (32 :: itemT n s)) Zb ((rollT B ++ (32 :: itemT n s)).length - 1) 2 := by
  obtain ⟨m, f, e⟩ := roll_feed hB h
  obtain ⟨v, b, r, e1, e2, e3⟩ := item_twice B [] m f n s hn hs h0
  have hsd : sdN n = 1 := by unfold sdN; rw [if_neg (by omega)]
  rw [hsd] at e2
  have hl : (rollT B ++ (32 :: itemT n s)).length - 1 = (rollT B ++ v).length := by rw [e1]; simp
  have hh : (rollT B ++ (32 :: itemT n s)) = (rollT B ++ v) ++ [b] := by rw [e1]; simp
  rw [hl, hh]
  refine .inl ⟨by simp, r, ?_, ?_, rfl, rfl⟩
  · rw [List.take_left, rfeed_app, e]; exact e2
  · rw [List.getElem_append_right (by omega)]
    simpa using e3
end Go.Proofs.Ytmhnfnjngcoacaa
