/- What ends within goes on; what is wrong stays wrong: numbers. -/
import Derived.Test.YtihmpglfghffiaaLxN
namespace Go.Proofs.Ytihmpglfghffiaa
open Go.RowKit
set_option linter.unusedVariables false
set_option linter.unusedSimpArgs false
set_option maxRecDepth 100000
set_option maxHeartbeats 4000000

theorem oneGo_cases (z : Nat) (i : Int) (M : List UInt8) : ∀ (ws : List ByteArray) (k far : Nat),
    (∃ j w, ws[j]? = some w ∧ bs w <+: M ∧ (∀ j' w', j' < j → ws[j']? = some w' → ¬ bs w' <+: M) ∧ oneGo z i M ws k far = ⟨i + w.size, ((k + j : Nat) : Int), 0⟩) ∨
    ((∀ w ∈ ws, ¬ bs w <+: M) ∧ ∃ f, far ≤ f ∧ (∀ w ∈ ws, cmn M (bs w) ≤ f) ∧ (f = far ∨ ∃ w ∈ ws, cmn M (bs w) = f) ∧ oneGo z i M ws k far = stk z (i + f))
  | [], k, far => .inr ⟨by simp, far, Nat.le_refl _, by simp, .inl rfl, rfl⟩
  | w :: ws, k, far => by
    by_cases h : cmn M (bs w) = w.size
    · left
      refine ⟨0, w, rfl, (cmn_full _ _).1 h, by intro j' w' hj; omega, ?_⟩
      rw [oneGo_yes h, h]; rfl
    · have hp : ¬ bs w <+: M := fun h2 => h ((cmn_full _ _).2 h2)
      rw [oneGo_no h]
      rcases oneGo_cases z i M ws (k + 1) (max far (cmn M (bs w))) with ⟨j, v, h1, h2, h3, h4⟩ | ⟨h1, f, h2, h3, h4, h5⟩
      · left
        refine ⟨j + 1, v, by simpa using h1, h2, ?_, by rw [h4, show k + 1 + j = k + (j + 1) by omega]⟩
        intro j' w' hj hw
        match j', hw with
        | 0, hw => have : w' = w := by simpa using hw.symm
                   rw [this]; exact hp
        | j' + 1, hw => exact h3 j' w' (by omega) (by simpa using hw)
      · right
        refine ⟨?_, f, by omega, ?_, ?_, h5⟩
        · intro x hx
          rcases List.mem_cons.1 hx with rfl | hx
          · exact hp
          · exact h1 x hx
        · intro x hx
          rcases List.mem_cons.1 hx with rfl | hx
          · omega
          · exact h3 x hx
        · rcases h4 with h4 | ⟨x, hx, e⟩
          · by_cases hm : far ≤ cmn M (bs w)
            · exact .inr ⟨w, List.mem_cons_self .., by omega⟩
            · exact .inl (by omega)
          · exact .inr ⟨x, List.mem_cons_of_mem _ hx, e⟩
theorem oneP_zero {t : ByteArray} {ws : List ByteArray} (h : Apart ws) : oneP t ws 0 = oneGo t.size 0 (bs t) ws 0 0 := by
  unfold oneP
  rw [if_pos ⟨by simp [inB], (apB_iff ws).2 h⟩]
  rfl
theorem goes {t more : ByteArray} {ws : List ByteArray} (h : Apart ws) :
    (∃ a n, oneP t ws 0 = ⟨a, n, 0⟩ ∧ oneP (t ++ more) ws 0 = ⟨a, n, 0⟩) ∨
    (∃ a, oneP t ws 0 = ⟨a, 0, 2⟩ ∧ oneP (t ++ more) ws 0 = ⟨a, 0, 2⟩) ∨
    (∃ a, oneP t ws 0 = ⟨a, 0, 1⟩ ∧ ∃ w ∈ ws, t.size < w.size ∧ bs t <+: bs w) := by
  rw [oneP_zero h, oneP_zero h, bs_append]
  rcases oneGo_cases t.size 0 (bs t) ws 0 0 with ⟨j, w, h1, h2, h3, h4⟩ | ⟨h1, f, h2, h3, h4, h5⟩
  · left
    refine ⟨_, _, h4, ?_⟩
    have hp : bs w <+: bs t ++ bs more := h2.trans (List.prefix_append ..)
    rcases oneGo_cases (t ++ more).size 0 (bs t ++ bs more) ws 0 0 with ⟨j2, w2, g1, g2, g3, g4⟩ | ⟨g1, _⟩
    · have e : j2 = j := by
        rcases Nat.lt_trichotomy j2 j with hl | hl | hl
        · exfalso
          rcases List.prefix_or_prefix_of_prefix g2 hp with q | q
          · exact apart_two h g1 h1 (by omega) q
          · exact apart_two h h1 g1 (by omega) q
        · exact hl
        · exact absurd hp (g3 j w hl h1)
      subst e
      rw [h1] at g1
      obtain rfl := Option.some.inj g1
      exact g4
    · exact absurd hp (g1 w (List.mem_of_getElem? h1))
  · have hfl : f ≤ t.size := by
      rcases h4 with h4 | ⟨w, hw, e⟩
      · omega
      · rw [← e, ← bs_len]; exact cmn_l _ _
    by_cases hf : f = t.size
    · right; right
      refine ⟨(0 : Int) + f, by rw [h5]; exact if_pos (by omega), ?_⟩
      have key : ∃ w ∈ ws, bs t <+: bs w := by
        by_cases h0 : t.size = 0
        · obtain ⟨w, hw⟩ := List.exists_mem_of_ne_nil ws h.1
          have : bs t = [] := List.eq_nil_of_length_eq_zero (by rw [bs_len]; exact h0)
          exact ⟨w, hw, by rw [this]; exact List.nil_prefix⟩
        · rcases h4 with h4 | ⟨w, hw, e⟩
          · omega
          · exact ⟨w, hw, (cmn_whole _ _).1 (by rw [bs_len, e, hf])⟩
      obtain ⟨w, hw, hp⟩ := key
      refine ⟨w, hw, ?_, hp⟩
      have hle := hp.length_le
      rw [bs_len, bs_len] at hle
      rcases Nat.lt_or_ge t.size w.size with hl | hl
      · exact hl
      · exfalso
        have e : bs t = bs w := hp.eq_of_length (by rw [bs_len, bs_len]; omega)
        exact h1 w hw (by rw [e]; exact List.prefix_refl _)
    · right; left
      refine ⟨(0 : Int) + f, by rw [h5]; exact if_neg (by omega), ?_⟩
      have hc : ∀ w ∈ ws, cmn (bs t ++ bs more) (bs w) = cmn (bs t) (bs w) := fun w hw => cmn_more _ _ _ (by have := h3 w hw; rw [bs_len]; omega)
      rcases oneGo_cases (t ++ more).size 0 (bs t ++ bs more) ws 0 0 with ⟨j2, w2, g1, g2, g3, g4⟩ | ⟨g1, f2, g2, g3, g4, g5⟩
      · exfalso
        have hw2 := List.mem_of_getElem? g1
        have := (cmn_full _ _).2 g2
        rw [hc w2 hw2] at this
        exact h1 w2 hw2 ((cmn_full _ _).1 this)
      · have e : f2 = f := by
          apply Nat.le_antisymm
          · rcases g4 with g4 | ⟨w, hw, e⟩
            · omega
            · rw [← e, hc w hw]; exact h3 w hw
          · rcases h4 with h4 | ⟨w, hw, e⟩
            · omega
            · rw [← e, ← hc w hw]; exact g3 w hw
        rw [g5, e]
        exact if_neg (by rw [ByteArray.size_append]; omega)
theorem self_ok {w : ByteArray} {ws : List ByteArray} (h : Apart ws) (hw : w ∈ ws) : ∃ a n, oneP w ws 0 = ⟨a, n, 0⟩ := by
  rw [oneP_zero h]
  rcases oneGo_cases w.size 0 (bs w) ws 0 0 with ⟨j, v, h1, h2, h3, h4⟩ | ⟨h1, _⟩
  · exact ⟨_, _, h4⟩
  · exact absurd (List.prefix_refl _) (h1 w hw)
end Go.Proofs.Ytihmpglfghffiaa
