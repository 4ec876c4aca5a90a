/- Who is pinned, by numbers alone. -/
import Derived.Test.YtkliefojegjhhaaDoorAtN
namespace Go.Proofs.YtkliefojegjhhaaDoor
set_option linter.unusedVariables false
set_option linter.unusedSimpArgs false

/-- The squares up to one that is told. -/
def lineW (k : Int) (c : Int × Nat × Nat) : List Int := (rayW k c.2.1).take c.2.2
def pinB (k s : Int) (c : Int × Nat × Nat) : Bool := hasB (lineW k c) s
def pinStep (k s : Int) (o : List Int) (c : Int × Nat × Nat) : List Int := if pinB k s c = true then lineW k c else o
def pinL (k s : Int) (l : List (Int × Nat × Nat)) : List Int := l.foldl (pinStep k s) []
theorem pinL_snoc (k s : Int) (l : List (Int × Nat × Nat)) (c : Int × Nat × Nat) : pinL k s (l ++ [c]) = if pinB k s c = true then lineW k c else pinL k s l := by
  unfold pinL; rw [List.foldl_append]; rfl
theorem pin_none {k s : Int} : ∀ (l : List (Int × Nat × Nat)) (o : List Int), (∀ c ∈ l, pinB k s c = false) → l.foldl (pinStep k s) o = o
  | [], o, _ => rfl
  | c :: l, o, h => by
    rw [List.foldl_cons, show pinStep k s o c = o by unfold pinStep; rw [h c (by simp)]; simp]
    exact pin_none l o fun d hd => h d (by simp [hd])
theorem pin_same {k s : Int} {c : Int × Nat × Nat} : ∀ (l : List (Int × Nat × Nat)), (∀ d ∈ l, pinB k s d = true → d = c) → l.foldl (pinStep k s) (lineW k c) = lineW k c
  | [], _ => rfl
  | d :: l, h => by
    rw [List.foldl_cons, show pinStep k s (lineW k c) d = lineW k c by
      unfold pinStep
      split
      · next hp => rw [h d (by simp) hp]
      · rfl]
    exact pin_same l fun e he => h e (by simp [he])
theorem pin_one {k s : Int} {c : Int × Nat × Nat} (hp : pinB k s c = true) : ∀ (l : List (Int × Nat × Nat)) (o : List Int), c ∈ l → (∀ d ∈ l, pinB k s d = true → d = c) → l.foldl (pinStep k s) o = lineW k c
  | [], o, hc, _ => by cases hc
  | d :: l, o, hc, h => by
    rw [List.foldl_cons]
    by_cases hd : pinB k s d = true
    · rw [show pinStep k s o d = lineW k c by unfold pinStep; rw [if_pos hd, h d (by simp) hd]]
      exact pin_same l fun e he => h e (by simp [he])
    · rw [show pinStep k s o d = o by unfold pinStep; rw [if_neg hd]]
      rcases List.mem_cons.1 hc with rfl | hc
      · exact absurd hp hd
      · exact pin_one hp l o hc fun e he => h e (by simp [he])
theorem flatMap_one {α β : Type} {g : α → List β} {x : α} : ∀ L : List α, L.Nodup → x ∈ L → (∀ y ∈ L, y ≠ x → g y = []) → L.flatMap g = g x
  | [], _, h, _ => by cases h
  | y :: L, hn, hx, h => by
    rw [List.flatMap_cons]
    obtain ⟨h1, h2⟩ := List.nodup_cons.1 hn
    by_cases e : y = x
    · subst e
      rw [List.flatMap_eq_nil_iff.2 fun z hz => h z (by simp [hz]) (fun e => h1 (e ▸ hz)), List.append_nil]
    · rw [h y (by simp) e, List.nil_append]
      rcases List.mem_cons.1 hx with rfl | hx
      · exact absurd rfl e
      · exact flatMap_one L h2 hx fun z hz => h z (by simp [hz])
/-- The board without the man on n. -/
theorem bAt_set {B : List Int} {n : Nat} (hl : B.length = 64) (hn : n < 64) (y : Int) (h0 : 0 ≤ y) : bAt (B.set n 0) y = if y = (n : Int) then 0 else bAt B y := by
  unfold bAt
  by_cases e : y = (n : Int)
  · subst e
    rw [if_pos rfl]
    simp [List.getD, hl, hn]
  · rw [if_neg e]
    have : n ≠ y.toNat := by omega
    simp [List.getD, List.getElem?_set_ne this]
theorem set_brd {B : List Int} (hB : Brd B) {n : Nat} (hn : n < 64) : Brd (B.set n 0) := by
  refine ⟨by simp [hB.1], fun i hi => ?_⟩
  have := bAt_set hB.1 hn (i : Int) (by omega)
  unfold bAt at this
  rw [Int.toNat_natCast] at this
  rw [this]
  split
  · omega
  · exact hB.2 i hi
theorem set_right {B : List Int} (hB : Brd B) {n : Nat} (hn : n < 64) (h : rightB B = true) : rightB (B.set n 0) = true := by
  rw [rightB_iff _ (set_brd hB hn).1]
  intro i hi
  have := bAt_set hB.1 hn (i : Int) (by omega)
  unfold bAt at this
  rw [Int.toNat_natCast] at this
  rw [this]
  split
  · rfl
  · exact (rightB_iff B hB.1).1 h i hi
section
variable {B : List Int} {n : Nat} {k sd : Int}
theorem tell_other (hl : B.length = 64) (hn : n < 64) (k0 : 0 ≤ k) (k1 : k < 64) (hsd : sd = 0 ∨ sd = 1) {c : Int × Nat × Nat} (hc : c ∈ tellL (B.set n 0) k sd) : c.1 ≠ (n : Int) ∧ 0 ≤ c.1 ∧ c.1 < 64 ∧ bAt (B.set n 0) c.1 = bAt B c.1 := by
  obtain ⟨hw, i, hi, h8, hs, hsi, hr⟩ := (mem_tell k0 k1).1 hc
  obtain ⟨a, b, _⟩ := hs.on k0 k1 hw
  have e := bAt_set hl hn c.1 a
  have hne : c.1 ≠ (n : Int) := by
    intro h
    rw [if_pos h] at e
    rw [e] at hsi
    have : sideI 0 = -1 := by decide
    omega
  rw [if_neg hne] at e
  exact ⟨hne, a, b, e⟩
theorem pin_iff (hl : B.length = 64) (hn : n < 64) (k0 : 0 ≤ k) (k1 : k < 64) (hsd : sd = 0 ∨ sd = 1) (hx : bAt B (n : Int) ≠ 0) {c : Int × Nat × Nat} (hc : c ∈ tellL (B.set n 0) k sd) :
    (c.1 ∈ outW B k sd ↔ pinB k (n : Int) c = false) := by
  obtain ⟨hne, a, b, e⟩ := tell_other hl hn k0 k1 hsd hc
  obtain ⟨hw, i, hi, h8, hs, hsi, hr⟩ := (mem_tell k0 k1).1 hc
  constructor
  · intro h
    unfold outW at h
    obtain ⟨c', hc', e'⟩ := List.mem_map.1 h
    obtain ⟨hw', i', hi', h8', hs', _, _⟩ := (mem_tell k0 k1).1 hc'
    rw [e'] at hs'
    obtain ⟨u1, u2⟩ := way_uniq k0 k1 hw hw' h8 h8' hs.1 hs'.1
    rw [← u1, ← u2] at hs'
    unfold pinB hasB lineW
    rw [Bool.eq_false_iff]
    intro hcon
    rw [List.contains_iff_mem] at hcon
    obtain ⟨j, hj, ej⟩ := List.mem_iff_getElem?.1 hcon |>.imp fun j hj => (⟨by
      obtain ⟨h1, _⟩ := List.getElem?_eq_some_iff.1 hj
      rw [List.length_take] at h1
      exact h1, hj⟩ : _ ∧ _)
    rw [List.getElem?_take, if_pos (by omega)] at ej
    have hji : j ≠ i := by
      intro h
      rw [h, hs.1] at ej
      exact hne (Option.some.inj ej)
    exact hx (hs'.2 j (by omega) _ ej)
  · intro h
    have hno : ∀ j, j < i → (rayW k c.2.1)[j]? ≠ some (n : Int) := by
      intro j hj ej
      unfold pinB hasB lineW at h
      rw [Bool.eq_false_iff] at h
      apply h
      rw [List.contains_iff_mem, List.mem_iff_getElem?]
      exact ⟨j, by rw [List.getElem?_take, if_pos (by omega)]; exact ej⟩
    have hs' : Sight B k c.2.1 i c.1 := by
      refine ⟨hs.1, fun j hj y hy => ?_⟩
      have h1 := hs.2 j hj y hy
      obtain ⟨y0, _⟩ := (rayW_at k0 k1 hw j y).1 hy
      rw [bAt_set hl hn y y0, if_neg (fun h : y = (n : Int) => hno j hj (by rw [← h]; exact hy))] at h1
      exact h1
    unfold outW
    refine List.mem_map.2 ⟨c, (mem_tell k0 k1).2 ⟨hw, i, hi, h8, hs', ?_, ?_⟩, rfl⟩
    · rw [← e]; exact hsi
    · rw [← e]; exact hr
theorem sight_man (hsd : sd = 0 ∨ sd = 1) {A : List Int} {y : Int} (h : sideI (bAt A y) = sd) : bAt A y ≠ 0 := by
  intro e
  rw [e] at h
  have : sideI 0 = -1 := by decide
  omega
theorem pin_uniq (k0 : 0 ≤ k) (k1 : k < 64) (hsd : sd = 0 ∨ sd = 1) {A : List Int} {s : Int} {c d : Int × Nat × Nat} (hc : c ∈ tellL A k sd) (hd : d ∈ tellL A k sd) (nc : c.1 ≠ s) (nd : d.1 ≠ s) (pc : pinB k s c = true) (pd : pinB k s d = true) : d = c := by
  obtain ⟨hw, i, hi, h8, hs, hsi, _⟩ := (mem_tell k0 k1).1 hc
  obtain ⟨hw', i', hi', h8', hs', hsi', _⟩ := (mem_tell k0 k1).1 hd
  have idx : ∀ (e : Int × Nat × Nat) (m : Nat), e.2.2 = m + 1 → (rayW k e.2.1)[m]? = some e.1 → e.1 ≠ s → pinB k s e = true → ∃ j, j < m ∧ (rayW k e.2.1)[j]? = some s := by
    intro e m he hr hne hp
    unfold pinB hasB lineW at hp
    rw [List.contains_iff_mem] at hp
    obtain ⟨j, ej⟩ := List.mem_iff_getElem?.1 hp
    have hj : j < m + 1 := by
      obtain ⟨h1, _⟩ := List.getElem?_eq_some_iff.1 ej
      rw [List.length_take] at h1
      omega
    rw [List.getElem?_take, if_pos (by omega)] at ej
    refine ⟨j, ?_, ej⟩
    have : j ≠ m := by
      intro h
      rw [h, hr] at ej
      exact hne (Option.some.inj ej)
    omega
  obtain ⟨j, hj, ej⟩ := idx c i hi hs.1 nc pc
  obtain ⟨j', hj', ej'⟩ := idx d i' hi' hs'.1 nd pd
  obtain ⟨u1, u2⟩ := way_uniq k0 k1 hw hw' (i := j) (j := j') (by omega) (by omega) ej ej'
  rw [← u1] at hs'
  have : i = i' := by
    rcases Nat.lt_trichotomy i i' with h | h | h
    · exact absurd (hs'.2 i h _ hs.1) (sight_man hsd hsi)
    · exact h
    · exact absurd (hs.2 i' h _ hs'.1) (sight_man hsd hsi')
  subst this
  have e1 : d.1 = c.1 := by
    have := hs.1.symm.trans hs'.1
    exact (Option.some.inj this).symm
  obtain ⟨c1, c2, c3⟩ := c
  obtain ⟨d1, d2, d3⟩ := d
  simp at e1 u1 hi hi' ⊢
  omega
theorem srt_nil : srt [] = [] := by unfold srt; simp
theorem mem_srt {l : List Int} {x : Int} : x ∈ srt l ↔ x ∈ l := (List.mergeSort_perm l _).mem_iff
theorem mem_by (k0 : 0 ≤ k) (k1 : k < 64) {A : List Int} {x : Int} : x ∈ zn (byN A k sd) ↔ x ∈ outW A k sd := by
  rw [← sort_outW A k sd k0 k1]; exact mem_srt
theorem zn_nodup (p : Nat → Bool) : (zn (sel p 64)).Nodup := by
  unfold zn sel List.Nodup
  rw [List.pairwise_map]
  exact (List.pairwise_lt_range.filter p).imp fun h => by omega
/-- The line up to a man that is seen. -/
theorem line_at (k0 : 0 ≤ k) (k1 : k < 64) {way i : Nat} {x : Int} (h8 : way < 8) (h : (rayW k way)[i]? = some x) : lineL k x = (rayW k way).take i := by
  have hcon : ∀ m, m < 8 → ((alongL m k).contains x = true ↔ m = way) := by
    intro m hm
    have e : alongL m k = rayW k m := by unfold alongL rayW; rw [if_neg (by omega)]
    rw [e, List.contains_iff_mem]
    constructor
    · intro hx
      obtain ⟨j, ej⟩ := List.mem_iff_getElem?.1 hx
      exact (way_uniq k0 k1 (by omega) (by omega) (.inl hm) (.inl h8) ej h).1
    · rintro rfl; exact List.mem_of_getElem? h
  have hidx : (rayW k way).idxOf x = i := by
    have hm : x ∈ rayW k way := List.mem_of_getElem? h
    have hlt := List.idxOf_lt_length_iff.2 hm
    have hg : (rayW k way)[(rayW k way).idxOf x]? = some x := by rw [List.getElem?_eq_getElem hlt, List.getElem_idxOf hlt]
    exact (way_uniq k0 k1 (by omega) (by omega) (.inl h8) (.inl h8) hg h).2
  have e : alongL way k = rayW k way := by unfold alongL rayW; rw [if_neg (by omega)]
  have go : ∀ d m, m + d = way → lineN k x m = (rayW k way).take i := by
    intro d
    induction d with
    | zero =>
      intro m hm
      have : m = way := by omega
      subst this
      rw [lineN_step k x m h8, if_pos ((hcon m h8).2 rfl), e, hidx]
    | succ d ih =>
      intro m hm
      have hne : ¬ (alongL m k).contains x = true := fun h => by have := (hcon m (by omega)).1 h; omega
      rw [lineN_step k x m (by omega), if_neg hne]
      exact ih (m + 1) (by omega)
  exact go way 0 (by omega)
/-- What the document tells of a pinned man. -/
def pinOne (B : List Int) (k sd : Int) (x : Int) : List Int := if hasB (zn (byN B k sd)) x = true then [] else zn (sel (fun t => hasB (lineL k x) (t : Int) || ((t : Int) == x)) 64)
def refPL (B A : List Int) (k sd : Int) : List Int := (zn (byN A k sd)).flatMap (pinOne B k sd)
theorem pin_main (hl : B.length = 64) (hn : n < 64) (k0 : 0 ≤ k) (k1 : k < 64) (hsd : sd = 0 ∨ sd = 1) (hx : bAt B (n : Int) ≠ 0) : srt (pinL k (n : Int) (tellL (B.set n 0) k sd)) = refPL B (B.set n 0) k sd := by
  have hnow : ∀ c ∈ tellL (B.set n 0) k sd, (hasB (zn (byN B k sd)) c.1 = true ↔ pinB k (n : Int) c = false) := by
    intro c hc
    rw [← pin_iff hl hn k0 k1 hsd hx hc, ← mem_by k0 k1]
    unfold hasB
    exact List.contains_iff_mem
  by_cases hex : ∃ c ∈ tellL (B.set n 0) k sd, pinB k (n : Int) c = true
  · obtain ⟨c, hc, hp⟩ := hex
    have hu : ∀ d ∈ tellL (B.set n 0) k sd, pinB k (n : Int) d = true → d = c := fun d hd pd =>
      pin_uniq k0 k1 hsd hc hd (tell_other hl hn k0 k1 hsd hc).1 (tell_other hl hn k0 k1 hsd hd).1 hp pd
    have e1 : pinL k (n : Int) (tellL (B.set n 0) k sd) = lineW k c := pin_one hp _ _ hc hu
    rw [e1]
    unfold refPL
    rw [flatMap_one (x := c.1) _ (show (zn (byN (B.set n 0) k sd)).Nodup from zn_nodup _)]
    · have hfalse : ¬ hasB (zn (byN B k sd)) c.1 = true := fun h => by have := (hnow c hc).1 h; rw [hp] at this; cases this
      unfold pinOne
      rw [if_neg hfalse]
      obtain ⟨hw, i, hi, h8, hs, _, _⟩ := (mem_tell k0 k1).1 hc
      have hi0 : i ≠ 0 := by
        intro h0
        subst h0
        unfold pinB hasB lineW at hp
        rw [List.contains_iff_mem, hi] at hp
        obtain ⟨j, ej⟩ := List.mem_iff_getElem?.1 hp
        have hj : j < 0 + 1 := by
          obtain ⟨h1, _⟩ := List.getElem?_eq_some_iff.1 ej
          rw [List.length_take] at h1
          omega
        rw [List.getElem?_take, if_pos (by omega)] at ej
        obtain rfl : j = 0 := by omega
        rw [hs.1] at ej
        exact (tell_other hl hn k0 k1 hsd hc).1 (Option.some.inj ej)
      have h8' : c.2.1 < 8 := by omega
      have hline := line_at k0 k1 h8' hs.1
      unfold srt lineW
      rw [hi]
      refine sort_sel _ _ ?_ ?_
      · unfold List.Nodup
        rw [List.pairwise_iff_getElem]
        intro a b ha hb hab e
        rw [List.getElem_take, List.getElem_take] at e
        rw [List.length_take] at ha hb
        have q1 : (rayW k c.2.1)[a]? = some (rayW k c.2.1)[a] := List.getElem?_eq_getElem (by omega)
        have q2 : (rayW k c.2.1)[b]? = some (rayW k c.2.1)[b] := List.getElem?_eq_getElem (by omega)
        rw [← e] at q2
        have := (way_uniq k0 k1 hw hw (.inl h8') (.inl h8') q1 q2).2
        omega
      · intro x
        have hmem : x ∈ (rayW k c.2.1).take (i + 1) ↔ x ∈ lineL k c.1 ∨ x = c.1 := by
          rw [hline, take_snoc_at _ i c.1 hs.1, List.mem_append, List.mem_singleton]
        rw [hmem]
        unfold hasB
        simp only [Bool.or_eq_true, beq_iff_eq, List.contains_iff_mem]
        constructor
        · intro h
          have hb : 0 ≤ x ∧ x < 64 := by
            rw [← hmem] at h
            exact rayL_mem (List.mem_of_mem_take h)
          obtain ⟨m, rfl⟩ := Int.eq_ofNat_of_zero_le hb.1
          exact ⟨m, by omega, rfl, h⟩
        · rintro ⟨m, _, rfl, h⟩; exact h
    · rw [mem_by k0 k1]
      exact List.mem_map.2 ⟨c, hc, rfl⟩
    · intro y hy hne
      rw [mem_by k0 k1] at hy
      obtain ⟨d, hd, rfl⟩ := List.mem_map.1 hy
      unfold pinOne
      rw [if_pos]
      rw [hnow d hd, Bool.eq_false_iff]
      intro hpd
      exact hne (by rw [hu d hd hpd])
  · have hall : ∀ c ∈ tellL (B.set n 0) k sd, pinB k (n : Int) c = false := fun c hc => by
      rw [Bool.eq_false_iff]; exact fun h => hex ⟨c, hc, h⟩
    have e1 : pinL k (n : Int) (tellL (B.set n 0) k sd) = [] := pin_none _ _ hall
    rw [e1]
    unfold refPL
    rw [List.flatMap_eq_nil_iff.2]
    · exact srt_nil
    · intro y hy
      rw [mem_by k0 k1] at hy
      obtain ⟨d, hd, rfl⟩ := List.mem_map.1 hy
      unfold pinOne
      rw [if_pos ((hnow d hd).2 (hall d hd))]
end
/-- What is told of a man that may be pinned. -/
def pinnedL (B : List Int) (s : Int) : List Int :=
  if okS s && rightB B && !(kindI (bAt B s) == 6) then srt (pinL (kingI B (sideI (bAt B s))) s (tellL (B.set s.toNat 0) (kingI B (sideI (bAt B s))) (otherI (sideI (bAt B s))))) else []
theorem tell_off {B : List Int} {k sd : Int} (h : k < 0) : tellL B k sd = [] := by
  unfold tellL lookL lookN
  rw [List.flatMap_eq_nil_iff.2]
  · rfl
  · intro way _
    unfold rayW
    rw [rayL_off (.inl h)]
    rfl
theorem pinned_none {B : List Int} {s : Int} (h : okS s = false ∨ rightB B = false ∨ bAt B s = 0 ∨ bAt B s = 6 ∨ bAt B s = -6 ∨ kingI B (sideI (bAt B s)) < 0) : pinnedL B s = [] := by
  unfold pinnedL
  split
  · next hc =>
    simp only [Bool.and_eq_true, Bool.not_eq_true', beq_eq_false_iff_ne, ne_eq] at hc
    have hk : kingI B (sideI (bAt B s)) < 0 := by
      rcases h with h | h | h | h | h | h
      · rw [h] at hc; exact absurd hc.1.1 (by decide)
      · rw [h] at hc; exact absurd hc.1.2 (by decide)
      · rw [h]
        have : sideI 0 = -1 := by decide
        rw [this]
        unfold kingI
        simp
      · rw [h] at hc; exact absurd (by decide) hc.2
      · rw [h] at hc; exact absurd (by decide) hc.2
      · exact h
    rw [tell_off hk]
    exact srt_nil
  · rfl
theorem pinned_some {B : List Int} (hB : Brd B) {n : Nat} (hn : n < 64) (hr : rightB B = true) (h0 : bAt B (n : Int) ≠ 0) (h6 : bAt B (n : Int) ≠ 6) (h6' : bAt B (n : Int) ≠ -6) (hk : 0 ≤ kingI B (sideI (bAt B (n : Int)))) :
    pinnedL B (n : Int) = refPL B (B.set n 0) (kingI B (sideI (bAt B (n : Int)))) (1 - sideI (bAt B (n : Int))) := by
  have hman : manB (bAt B (n : Int)) = true := by
    have := (rightB_iff B hB.1).1 hr n hn
    unfold okB at this
    rw [Bool.or_eq_true, beq_iff_eq] at this
    rcases this with h | h
    · exact absurd h h0
    · exact h
  have hk6 : (kindI (bAt B (n : Int)) == 6) = false := by
    rw [beq_eq_false_iff_ne]
    unfold kindI
    rw [if_pos hman]
    split <;> omega
  have hs := sideI_is _ hman
  unfold pinnedL
  rw [okS_yes (by omega) (by omega), hr, hk6, if_pos (by rfl), Int.toNat_natCast]
  have ho : otherI (sideI (bAt B (n : Int))) = 1 - sideI (bAt B (n : Int)) := by rcases hs with h | h <;> rw [h] <;> rfl
  rw [ho]
  exact pin_main hB.1 hn hk (kingI_bd B _).2 (by omega) h0
theorem pin_len (k s : Int) : ∀ (l : List (Int × Nat × Nat)) (o : List Int), o.length ≤ 8 → (l.foldl (pinStep k s) o).length ≤ 8
  | [], o, h => h
  | c :: l, o, h => by
    rw [List.foldl_cons]
    refine pin_len k s l _ ?_
    unfold pinStep
    split
    · have := rayL_len k (wayF c.2.1) (wayR c.2.1)
      unfold lineW rayW
      rw [List.length_take]
      omega
    · exact h
end Go.Proofs.YtkliefojegjhhaaDoor
