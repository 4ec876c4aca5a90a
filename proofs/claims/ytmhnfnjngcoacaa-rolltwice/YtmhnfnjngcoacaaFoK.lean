/- The shortest text of a board, by bytes alone: it is read as the board; no text of the board is shorter. -/
import Derived.Test.YtmhnfnjngcoacaaFoA
import Derived.Lib.Join
namespace Go.Proofs.Ytmhnfnjngcoacaa
open Go.RowKit
set_option linter.unusedVariables false
set_option linter.unusedSimpArgs false

def feed (o : Option St) (l : List UInt8) : Option St := l.foldl (fun o c => o.bind (stp c)) o
theorem says_feed (l : List UInt8) : says l = feed (some ([], 0, 0)) l := rfl
theorem feed_append (o : Option St) (a b : List UInt8) : feed o (a ++ b) = feed (feed o a) b := List.foldl_append
/-- A digit for k empty squares; the letter of a man. -/
def dig (k : Nat) : List UInt8 := if k = 0 then [] else [UInt8.ofNat (48 + k)]
def ordN (m : Int) : Nat := (if 0 < m then 6 - m else 12 + m).toNat
def lettM (m : Int) : List UInt8 := if m = 0 then [] else (lettN (ordN m)).data.toList
theorem ordN_lt (m : Int) (h : manB m = true) : ordN m < 12 ∧ inOrd (ordN m) = m := by
  have := (manB_iff m).1 h
  unfold ordN inOrd
  split <;> split <;> omega
theorem dig_feed (S : List Int) (rows k g : Nat) (h : k + g ≤ 8) : feed (some (S, rows, k)) (dig g) = some (S ++ List.replicate g 0, rows, k + g) := by
  unfold dig
  by_cases h0 : g = 0
  · subst h0; simp [feed]
  · rw [if_neg h0]
    have e : (UInt8.ofNat (48 + g)).toNat = 48 + g := by simp; omega
    simp only [feed, List.foldl_cons, List.foldl_nil, Option.bind_some]
    unfold stp
    rw [if_neg (by omega), if_pos (by omega), e, if_pos (by simp; omega)]
    simp
theorem letter_byte (n : Nat) (h : n < 12) : (lettN n).data.toList = [(runeL n).toUInt8] ∧ (runeL n).toUInt8.toNat ≠ 47 ∧ 56 < (runeL n).toUInt8.toNat := by
  have : ∀ n : Fin 12, (runeL n.val).toUInt8.toNat ≠ 47 ∧ 56 < (runeL n.val).toUInt8.toNat := by decide +kernel
  exact ⟨rfl, this ⟨n, h⟩⟩
theorem lett_feed (S : List Int) (rows k : Nat) (m : Int) (hm : manB m = true) (h : k < 8) : feed (some (S, rows, k)) (lettM m) = some (S ++ [m], rows, k + 1) := by
  obtain ⟨h1, h2⟩ := ordN_lt m hm
  obtain ⟨h3, h4, h5⟩ := letter_byte _ h1
  have h0 : m ≠ 0 := ((manB_iff m).1 hm).1
  have e : manOf (runeL (ordN m)).toUInt8 = m := by
    have : manOf (runeL (ordN m)).toUInt8 = ofT (lettN (ordN m)) := rfl
    rw [this, ofT_letter _ h1, h2]
  unfold lettM
  rw [if_neg h0, h3]
  simp only [feed, List.foldl_cons, List.foldl_nil, Option.bind_some]
  unfold stp
  rw [if_neg h4, if_neg (by omega), if_neg (by rw [e]; exact h0), if_pos h, e]
theorem lettM_len (m : Int) : (lettM m).length ≤ 1 := by
  unfold lettM lettN
  split <;> simp
theorem dig_len (g : Nat) : (dig g).length ≤ 1 := by unfold dig; split <;> simp
/-- A row's text: what squares are left, how many were empty just ahead. -/
def rowGo : List Int → Nat → List UInt8
  | [], g => dig g
  | m :: ms, g => if m = 0 then rowGo ms (g + 1) else dig g ++ lettM m ++ rowGo ms 0
theorem rowGo_len : ∀ (l : List Int) (g : Nat), (rowGo l g).length ≤ 2 * l.length + 1
  | [], g => by have := dig_len g; simpa [rowGo] using this
  | m :: ms, g => by
    unfold rowGo
    split
    · have := rowGo_len ms (g + 1); simp; omega
    · have := rowGo_len ms 0; have := dig_len g; have := lettM_len m; simp; omega
theorem rowGo_feed (rows : Nat) : ∀ (l : List Int) (g k : Nat) (S : List Int), (∀ x ∈ l, okB x = true) → k + g + l.length ≤ 8 →
    feed (some (S, rows, k)) (rowGo l g) = some (S ++ List.replicate g 0 ++ l, rows, k + g + l.length)
  | [], g, k, S, _, h => by rw [rowGo, dig_feed S rows k g (by simpa using h)]; simp
  | m :: ms, g, k, S, hok, h => by
    simp at h
    have hm := hok m (by simp)
    have ih := fun g k S => rowGo_feed rows ms g k S (fun x hx => hok x (by simp [hx]))
    unfold rowGo
    split
    · rename_i h0
      rw [ih (g + 1) k S (by omega), h0]
      simp [List.replicate_succ']
      omega
    · rename_i h0
      have hmm : manB m = true := by
        unfold okB at hm
        have : (m == 0) = false := by simpa using h0
        simpa [this] using hm
      rw [feed_append, feed_append, dig_feed S rows k g (by omega), lett_feed _ rows (k + g) m hmm (by omega), ih 0 (k + g + 1) _ (by omega)]
      simp
      omega
def rowL (B : List Int) (r : Nat) : List Int := (List.range 8).map fun f => B.getD (8 * r + f) 0
def rowT (B : List Int) (r : Nat) : List UInt8 := rowGo (rowL B r) 0
theorem rowL_len (B : List Int) (r : Nat) : (rowL B r).length = 8 := by simp [rowL]
theorem rowL_get (B : List Int) (r f : Nat) (h : f < 8) : (rowL B r).getD f 0 = B.getD (8 * r + f) 0 := by
  simp [rowL, List.getD, h]
theorem rowT_len (B : List Int) (r : Nat) : (rowT B r).length ≤ 17 := by
  have := rowGo_len (rowL B r) 0
  rw [rowL_len] at this
  exact this
/-- The first n rows, each with a / behind it; the whole text. -/
def txt (B : List Int) : Nat → List UInt8
  | 0 => []
  | n + 1 => txt B n ++ rowT B (7 - n) ++ [47]
def writeT (B : List Int) : List UInt8 := txt B 7 ++ rowT B 0
theorem txt_len (B : List Int) : ∀ n, (txt B n).length ≤ 18 * n
  | 0 => by simp [txt]
  | n + 1 => by have := txt_len B n; have := rowT_len B (7 - n); simp [txt]; omega
theorem writeT_len (B : List Int) : (writeT B).length ≤ 200 := by
  have := txt_len B 7
  have := rowT_len B 0
  simp [writeT]; omega
theorem writeT_join (B : List Int) : Lib.join ((List.range 8).map fun i => rowT B (7 - i)) [47] = writeT B := by
  have : List.range 8 = [0, 1, 2, 3, 4, 5, 6, 7] := by decide
  rw [this]
  simp only [List.map_cons, List.map_nil, Lib.join_cons, Lib.joinTail, writeT, txt, List.flatten_cons, List.flatten_nil]
  simp
def sqs (B : List Int) : Nat → List Int
  | 0 => []
  | n + 1 => sqs B n ++ rowL B (7 - n)
theorem sqs_len (B : List Int) : ∀ n, (sqs B n).length = 8 * n
  | 0 => rfl
  | n + 1 => by simp [sqs, sqs_len B n, rowL_len]; omega
theorem sqs_get (B : List Int) : ∀ n j, n ≤ 8 → j < 8 * n → (sqs B n).getD j 0 = B.getD (8 * (7 - j / 8) + j % 8) 0
  | 0, j, _, h => by omega
  | n + 1, j, hn, h => by
    unfold sqs
    by_cases hj : j < 8 * n
    · rw [← sqs_get B n j (by omega) hj, List.getD, List.getD, List.getElem?_append_left (by rw [sqs_len]; exact hj)]
    · rw [List.getD, List.getElem?_append_right (by rw [sqs_len]; omega), sqs_len]
      have := rowL_get B (7 - n) (j - 8 * n) (by omega)
      rw [List.getD] at this
      rw [this]
      congr 1
      omega
theorem row_ok {B : List Int} (h : ∀ i, i < 64 → okB (B.getD i 0) = true) (r : Nat) (hr : r < 8) : ∀ x ∈ rowL B r, okB x = true := by
  intro x hx
  unfold rowL at hx
  obtain ⟨f, hf, rfl⟩ := List.mem_map.1 hx
  have := List.mem_range.1 hf
  exact h _ (by omega)
theorem txt_feed {B : List Int} (h : ∀ i, i < 64 → okB (B.getD i 0) = true) : ∀ n, n ≤ 7 → feed (some ([], 0, 0)) (txt B n) = some (sqs B n, n, 0)
  | 0, _ => rfl
  | n + 1, hn => by
    unfold txt
    rw [feed_append, feed_append, txt_feed h n (by omega), rowT, rowGo_feed n (rowL B (7 - n)) 0 0 _ (row_ok h _ (by omega)) (by rw [rowL_len]; omega)]
    simp only [feed, List.foldl_cons, List.foldl_nil, Option.bind_some]
    unfold stp
    rw [if_pos (by decide), if_pos ⟨by simp [rowL_len], by simp; omega⟩]
    simp [sqs]
theorem writeT_says {B : List Int} (h : ∀ i, i < 64 → okB (B.getD i 0) = true) : says (writeT B) = some (sqs B 8, 7, 8) := by
  rw [says_feed, writeT, feed_append, txt_feed h 7 (by omega), rowT, rowGo_feed 7 (rowL B 0) 0 0 _ (row_ok h _ (by omega)) (by rw [rowL_len]; omega)]
  simp [sqs, rowL_len]
theorem sw_lt (i : Nat) (h : i < 64) : sw i < 64 := by unfold sw; omega
theorem sw_sw (i : Nat) (h : i < 64) : 8 * (7 - sw i / 8) + sw i % 8 = i := by unfold sw; omega
theorem bd_sqs {B : List Int} (hB : B.length = 64) : bd (sqs B 8) = B := by
  rw [← tab_of B hB]
  refine tab_ext fun i hi => ?_
  rw [tab_of B hB, sqs_get B 8 _ (by omega) (by have := sw_lt i hi; omega), sw_sw i hi]
theorem writeT_reads {B : List Int} (hB : B.length = 64) (h : rightB B = true) : Reads (writeT B) B (writeT B).length 0 :=
  .inr ⟨_, writeT_says ((rightB_iff B hB).1 h), rfl, .inr ⟨by simp [sqs_len], (bd_sqs hB).symm, rfl⟩⟩
/-- Nothing goes on behind a whole text. -/
theorem stp_full (c : UInt8) (S : List Int) : stp c (S, 7, 8) = none := by
  unfold stp
  repeat' split
  all_goals first | rfl | (exfalso; simp at *; omega) | simp_all
theorem full_of {s : St} (hi : Inv s) (h : 64 ≤ s.1.length) : s = (s.1, 7, 8) := by
  obtain ⟨S, rows, row⟩ := s
  have h1 := hi.len
  have h2 := hi.row
  have h3 := hi.rows
  simp at h1 h2 h3 h
  have e1 : rows = 7 := by omega
  have e2 : row = 8 := by omega
  rw [e1, e2]
theorem cut_reads {t : List UInt8} {s : St} (h : says t = some s) (k : Nat) (hk : k < t.length) : Reads (t.take k) Zb k 1 := by
  have h0 : says (t.take k ++ t.drop k) = some s := by rw [List.take_append_drop]; exact h
  obtain ⟨s', hs'⟩ := says_some h0
  have h1 : ∃ s'', says (t.take (k + 1)) = some s'' := by
    have : says (t.take (k + 1) ++ t.drop (k + 1)) = some s := by rw [List.take_append_drop]; exact h
    exact says_some this
  refine .inr ⟨s', hs', by simp; omega, .inl ⟨?_, rfl, rfl⟩⟩
  refine Classical.byContradiction fun hh => ?_
  obtain ⟨s'', hs''⟩ := h1
  rw [says_take t k hk, hs', full_of (says_inv hs') (by omega)] at hs''
  simp [stp_full] at hs''
theorem more_reads {t : List UInt8} {S : List Int} (h : says t = some (S, 7, 8)) (c : UInt8) : Reads (t ++ [c]) Zb t.length 2 := by
  refine .inl ⟨by simp, ⟨_, by rw [List.take_left' rfl]; exact h⟩, ?_, rfl, rfl⟩
  rw [List.take_of_length_le (by simp), says_snoc, h]
  exact stp_full c S
/-- How long the shortest text of what was said is. -/
def cost (S : List Int) : Nat → Nat
  | 0 => 0
  | n + 1 => cost S n + ((rowGo ((S.drop (8 * n)).take 8) 0).length + 1)
theorem cost_app (S z : List Int) : ∀ n, 8 * n ≤ S.length → cost (S ++ z) n = cost S n
  | 0, _ => rfl
  | n + 1, h => by
    unfold cost
    rw [cost_app S z n (by omega), List.drop_append_of_le_length (by omega), List.take_append_of_le_length (by simp; omega)]
theorem rowGo_man (m : Int) (h : m ≠ 0) : ∀ (l : List Int) (g : Nat), rowGo (l ++ [m]) g = rowGo l g ++ lettM m
  | [], g => by simp [rowGo, h, dig]
  | x :: l, g => by
    simp only [List.cons_append, rowGo]
    split
    · exact rowGo_man m h l _
    · rw [rowGo_man m h l 0]; simp
theorem rowGo_zeros : ∀ (d g : Nat), rowGo (List.replicate d 0) g = dig (g + d)
  | 0, g => by simp [rowGo]
  | d + 1, g => by rw [List.replicate_succ]; simp only [rowGo, if_true]; rw [rowGo_zeros d (g + 1)]; congr 1; omega
theorem rowGo_gap (d : Nat) : ∀ (l : List Int) (g : Nat), (rowGo (l ++ List.replicate d 0) g).length ≤ (rowGo l g).length + 1
  | [], g => by rw [List.nil_append, rowGo_zeros]; have := dig_len (g + d); simp [rowGo]; omega
  | x :: l, g => by
    simp only [List.cons_append, rowGo]
    split
    · exact rowGo_gap d l _
    · have := rowGo_gap d l 0; simp; omega
def costS (s : St) : Nat := cost s.1 s.2.1 + (rowGo (s.1.drop (8 * s.2.1)) 0).length
theorem cost_stp {c : UInt8} {s s' : St} (h : stp c s = some s') (hi : Inv s) : costS s' ≤ costS s + 1 := by
  have hl := hi.len
  unfold stp at h
  repeat' split at h
  all_goals simp only [reduceCtorEq, Option.some.injEq] at h
  all_goals subst h
  · rename_i hh
    unfold costS
    simp only [cost]
    have e1 : s.1.drop (8 * (s.2.1 + 1)) = [] := List.drop_eq_nil_of_le (by omega)
    have e2 : (s.1.drop (8 * s.2.1)).take 8 = s.1.drop (8 * s.2.1) := List.take_of_length_le (by simp; omega)
    rw [e1, e2]
    simp [rowGo, dig]
    omega
  · unfold costS
    simp only
    rw [cost_app _ _ _ (by omega), List.drop_append_of_le_length (by omega)]
    have := rowGo_gap (c.toNat - 48) (s.1.drop (8 * s.2.1)) 0
    omega
  · rename_i hm hr
    unfold costS
    simp only
    rw [cost_app _ _ _ (by omega), List.drop_append_of_le_length (by omega), rowGo_man _ hm]
    have := lettM_len (manOf c)
    simp; omega
theorem cost_says_aux : ∀ (l : List UInt8) (n : Nat) (o : Option St), (∀ s, o = some s → Inv s ∧ costS s ≤ n) → ∀ s, feed o l = some s → costS s ≤ n + l.length
  | [], n, o, h, s, e => by have := (h s e).2; simp; exact this
  | c :: l, n, o, h, s, e => by
    have := cost_says_aux l (n + 1) (o.bind (stp c)) (fun s' e' => by
      cases o with
      | none => simp at e'
      | some s0 =>
        have h0 := h s0 rfl
        have := cost_stp e' h0.1
        exact ⟨stp_inv e' h0.1, by omega⟩) s e
    simp; omega
theorem cost_says {l : List UInt8} {s : St} (h : says l = some s) : costS s ≤ l.length := by
  have := cost_says_aux l 0 (some ([], 0, 0)) (fun s e => by cases e; exact ⟨⟨rfl, by simp, by simp, by simp⟩, by simp [costS, cost, rowGo, dig]⟩) s h
  omega
theorem row_bd (S : List Int) (hS : S.length = 64) (n : Nat) (hn : n < 8) : rowL (bd S) (7 - n) = (S.drop (8 * n)).take 8 := by
  refine List.ext_getElem (by simp [rowL_len]; omega) fun i h1 h2 => ?_
  have hi : i < 8 := by simpa [rowL_len] using h1
  rw [← getD_at _ _ h1, rowL_get _ _ _ hi, bd, tab_get _ _ (by omega)]
  have e2 : sw (8 * (7 - n) + i) = 8 * n + i := by unfold sw; omega
  rw [e2]
  simp [List.getD, List.getElem?_eq_getElem (show 8 * n + i < S.length by omega)]
theorem txt_cost (S : List Int) (hS : S.length = 64) : ∀ n, n ≤ 8 → (txt (bd S) n).length = cost S n
  | 0, _ => rfl
  | n + 1, h => by
    unfold txt cost
    rw [← txt_cost S hS n (by omega), rowT, row_bd S hS n (by omega)]
    simp [Nat.add_assoc]
theorem writeT_cost (S : List Int) (hS : S.length = 64) : (writeT (bd S)).length = costS (S, 7, 8) := by
  have h0 := row_bd S hS 7 (by omega)
  have e : (S.drop (8 * 7)).take 8 = S.drop (8 * 7) := List.take_of_length_le (by simp; omega)
  unfold writeT costS
  rw [List.length_append, txt_cost S hS 7 (by omega), rowT]
  rw [show 7 - 7 = 0 from rfl] at h0
  rw [h0, e]
theorem shortest {t : List UInt8} {s : St} (h : says t = some s) (h64 : 64 ≤ s.1.length) : (writeT (bd s.1)).length ≤ t.length := by
  have hf := full_of (says_inv h) h64
  have hl := (says_inv h).len
  rw [hf] at hl
  simp at hl
  rw [writeT_cost s.1 (by omega), ← hf]
  exact cost_says h
theorem bd_right {t : List UInt8} {s : St} (h : says t = some s) : rightB (bd s.1) = true := by
  rw [rightB_iff _ (bd_length _)]
  intro i hi
  rw [bd, tab_get _ _ hi]
  have hm := (says_inv h).men
  have : -6 ≤ s.1.getD (sw i) 0 ∧ s.1.getD (sw i) 0 ≤ 6 := by
    rw [List.getD]
    cases e : s.1[sw i]? with
    | none => simp
    | some x => have := hm x (List.mem_of_getElem? e); simpa using this
  generalize s.1.getD (sw i) 0 = x at *
  unfold okB
  rw [Bool.or_eq_true, beq_iff_eq, manB_iff]
  omega
end Go.Proofs.Ytmhnfnjngcoacaa
