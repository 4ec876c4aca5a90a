/- Stipulations: a whole text with a byte behind it is read as what it is; a text's beginnings go on. -/
import Derived.Test.YtnlgjakohoimhaaDoorSiD
namespace Go.Proofs.YtnlgjakohoimhaaDoor
open Go.RowKit
set_option linter.unusedVariables false
set_option linter.unusedSimpArgs false
set_option maxRecDepth 100000

theorem inB_0 (t : ByteArray) : inB t 0 = true := by
  unfold inB
  simp only [Bool.and_eq_true, decide_eq_true_eq]
  omega
theorem cmnU_self : ∀ (l : List Nat) (b : List UInt8), (∀ y ∈ l, y < 256) → cmnU (l.map UInt8.ofNat ++ b) l = l.length
  | [], b, _ => by rw [cmnU_nil2]; rfl
  | y :: l, b, h => by
    have hy : y < 256 := h y (by simp)
    rw [List.map_cons, List.cons_append, cmnU_cc, if_pos (by simp; omega), cmnU_self l b (fun z hz => h z (by simp [hz]))]
    rfl
theorem cmnU_stop : ∀ (a : List UInt8) (b : UInt8) (l : List Nat), (∀ y ∈ l, y ≠ b.toNat) → cmnU (a ++ [b]) l ≤ a.length
  | [], b, [], _ => by rw [cmnU_nil2]; exact Nat.le_refl _
  | [], b, y :: l, h => by rw [List.nil_append, cmnU_cc, if_neg (fun e => h y (by simp) e.symm)]; exact Nat.le_refl _
  | x :: a, b, [], _ => by rw [cmnU_nil2]; omega
  | x :: a, b, y :: l, h => by
    rw [List.cons_append, cmnU_cc, List.length_cons]
    split
    · have := cmnU_stop a b l (fun z hz => h z (by simp [hz])); omega
    · omega
theorem cmnU_take : ∀ (l : List Nat) (j : Nat), (∀ y ∈ l, y < 256) → j ≤ l.length → cmnU ((l.map UInt8.ofNat).take j) l = j
  | l, 0, _, _ => by rw [List.take_zero, cmnU_nil]
  | [], j + 1, _, h => by simp at h
  | y :: l, j + 1, h, hj => by
    have hy : y < 256 := h y (by simp)
    rw [List.map_cons, List.take_succ_cons, cmnU_cc, if_pos (by simp; omega), cmnU_take l j (fun z hz => h z (by simp [hz])) (by simpa using hj)]
theorem nmN_chars {n : Nat} {h : Bool} (hn : n < 100) : ∀ y ∈ nmN n h, (48 ≤ y ∧ y ≤ 57) ∨ y = 46 := by
  rcases @nmN_cases n h with ⟨a, _, e⟩ | ⟨a, _, e⟩ | ⟨a, _, e⟩ | ⟨a, _, e⟩
  all_goals
    rw [e]
    intro y hy
    simp at hy
    omega
/-- A number's text, and a byte that is none of a number's text: it is read whole. -/
theorem refN_whole (z : Nat) (i : Int) (hB : Bool) (n : Nat) (h : Bool) (hv : okM hB n h) (b : UInt8) (h1 : isD b = false) (h2 : b ≠ 46) :
    refN z i hB (nmL n h ++ [b]) = (some (n, h), ⟨i + (nmL n h).length, 0, 0⟩) := by
  have hn : n < 100 := by have := hv.1; omega
  have hlow := nmN_low n hn h
  have hlen := nm_len n hn h
  have hne : ∀ (n' : Nat) (h' : Bool), okM hB n' h' → ∀ y ∈ nmN n' h', y ≠ b.toNat := by
    intro n' h' hv' y hy e
    have hd : ¬ (48 ≤ b.toNat ∧ b.toNat ≤ 57) := by rw [← isD_iff, h1]; simp
    rcases nmN_chars (by have := hv'.1; omega) y hy with x | x
    · omega
    · exact h2 (UInt8.toNat.inj (by rw [← e, x]; rfl))
  have hself : cmnU (nmL n h ++ [b]) (nmN n h) = (nmN n h).length := by rw [nmL_is n hn]; exact cmnU_self _ _ hlow
  have hle : ∀ (n' : Nat) (h' : Bool), okM hB n' h' → cmnU (nmL n h ++ [b]) (nmN n' h') ≤ (nmN n h).length := fun n' h' hv' => by
    have := cmnU_stop (nmL n h) b (nmN n' h') (hne n' h' hv')
    omega
  have hN := nmP_top hB (nmL n h ++ [b])
  rcases hx : nmP hB (nmL n h ++ [b]) with ⟨F, K, n1, h1'⟩
  rw [hx] at hN
  obtain ⟨N1, N2, N3, N4⟩ := hN
  dsimp only at N1 N2 N3 N4
  have hF : F = (nmN n h).length := by
    have a1 := N1 n h hv
    rcases N2 with N2 | ⟨n', h', v, N2⟩
    · omega
    · have := hle n' h' v; omega
  have hK : K ≠ -1 := fun e => N3 e n h hv hself
  obtain ⟨v, e1, e2, e3⟩ := N4 hK
  have a1 := hle _ _ v
  obtain ⟨a2, a3⟩ := e3 n h hv hself
  obtain ⟨rfl, rfl⟩ := a3 (by omega)
  have hd : hdD ((nmL n h ++ [b]).drop F) = false := by
    rw [hF, ← hlen, List.drop_left]; exact h1
  rw [refN_fin hx]
  dsimp only
  rw [if_pos ⟨by omega, .inr hd⟩, hF, hlen]
theorem txT_size (s : Stp) : (txT s).size = (opL (s.k, s.g)).length + (nmL s.n s.h).length := by
  rw [← bs_len, bs_txT]; unfold txL; rw [List.length_append]
theorem rd_whole {s : Stp} (hs : okS s = true) (b : UInt8) (h1 : isD b = false) (h2 : b ≠ 46) : rdP (txT s ++ ⟨#[b]⟩) 0 = (s, ⟨((txT s).size : Nat), 0, 0⟩) := by
  have hp := okS_hd hs
  have hv := okS_M hs
  have hb : bs (txT s ++ ⟨#[b]⟩) = opL (s.k, s.g) ++ (nmL s.n s.h ++ [b]) := by
    rw [bs_append, bs_txT]; unfold txL; rw [List.append_assoc]; rfl
  rw [read_eq]
  unfold refP
  rw [if_pos (inB_0 _), show (0 : Int).toNat = 0 from rfl, List.drop_zero]
  have hT := all_top (bs (txT s ++ ⟨#[b]⟩))
  rw [hb] at hT ⊢
  have := refE_some hp (t := txT s ++ ⟨#[b]⟩) (i := 0) (m := nmL s.n s.h ++ [b]) (by rw [List.drop_zero, hb]) (by omega) hT
  rw [show ((0 : Nat) : Int) = 0 from rfl] at this
  rw [this]
  obtain ⟨N, hN⟩ : ∃ N : Nat, s.n = N := ⟨s.n.toNat, by have := hv.1; omega⟩
  obtain ⟨k, g, n, h⟩ := s
  dsimp only at hN hv hp ⊢
  subst hN
  rw [refN_whole _ _ _ N h (by simpa using hv.2) b h1 h2, txT_size]
  unfold wrap
  dsimp only
  rw [show ((0 : Int) + ((opL (k, g)).length : Nat) + ((nmL (N : Int) h).length : Nat)) = (((opL (k, g)).length + (nmL (N : Int) h).length : Nat) : Int) by omega]
/-- A beginning of a number's text is one, or ends ahead of its time. -/
theorem refN_cut (z : Nat) (i : Int) (hB : Bool) (n : Nat) (h : Bool) (hv : okM hB n h) (j : Nat) (hj : j < (nmL n h).length) (hz : (z : Int) = i + j) :
    (refN z i hB ((nmL n h).take j)).2.e = 0 ∨ (refN z i hB ((nmL n h).take j)).2 = ⟨i + j, 0, 1⟩ := by
  have hn : n < 100 := by have := hv.1; omega
  have hlow := nmN_low n hn h
  have hlen := nm_len n hn h
  have hml : ((nmL n h).take j).length = j := by rw [List.length_take]; omega
  have hself : cmnU ((nmL n h).take j) (nmN n h) = j := by rw [nmL_is n hn]; exact cmnU_take _ _ hlow (by omega)
  have hN := nmP_top hB ((nmL n h).take j)
  rcases hx : nmP hB ((nmL n h).take j) with ⟨F, K, n1, h1'⟩
  rw [hx] at hN
  obtain ⟨N1, N2, _, _⟩ := hN
  dsimp only at N1 N2
  have hF : F = j := by
    have a1 := N1 n h hv
    rcases N2 with N2 | ⟨n', h', v, N2⟩
    · omega
    · have := cmnU_len ((nmL n h).take j) (nmN n' h'); omega
  rw [refN_fin hx]
  dsimp only
  split
  · left; rfl
  · right
    rw [hF]
    unfold stk
    rw [if_pos (by omega)]
theorem rd_cut {s : Stp} (hs : okS s = true) (k : Nat) (hk : k < (txT s).size) :
    (rdP ((txT s).extract 0 k) 0).2.e = 0 ∨ (rdP ((txT s).extract 0 k) 0).2 = ⟨(k : Int), 0, 1⟩ := by
  have hp := okS_hd hs
  have hv := okS_M hs
  have hb : bs ((txT s).extract 0 k) = (txL s).take k := by rw [bs_extract, bs_txT, List.drop_zero]
  have hsz : ((txT s).extract 0 k).size = k := by
    rw [← bs_len, hb, List.length_take, ← bs_txT, bs_len]; omega
  rw [read_eq]
  unfold refP
  rw [if_pos (inB_0 _), show (0 : Int).toNat = 0 from rfl, List.drop_zero]
  have hT := all_top (bs ((txT s).extract 0 k))
  rw [txT_size] at hk
  by_cases ho : k < (opL (s.k, s.g)).length
  · have hM : bs ((txT s).extract 0 k) = (opL (s.k, s.g)).take k := by
      rw [hb]; unfold txL; rw [List.take_append_of_le_length (by omega)]
    rw [hM] at hT ⊢
    have hno : ∀ p ∈ hdL, ¬ opL p <+: (opL (s.k, s.g)).take k := by
      intro p hp' hx
      have hx2 := hx.trans (List.take_prefix k (opL (s.k, s.g)))
      by_cases e : p = (s.k, s.g)
      · rw [e] at hx
        have := hx.length_le
        rw [List.length_take] at this
        omega
      · exact hdL_apart hp' hp e hx2
    have hx := top_none hT hno k (by
        intro p hp'
        have := cmn_l ((opL (s.k, s.g)).take k) (opL p)
        rw [List.length_take] at this
        omega) (.inr ⟨_, hp, by
          have := (cmn_whole ((opL (s.k, s.g)).take k) (opL (s.k, s.g))).2 (List.take_prefix k _)
          rw [this, List.length_take]; omega⟩)
    right
    rw [hx]
    unfold refE
    rw [if_neg (by rintro ⟨y, _⟩; simp at y), if_pos ⟨by rw [hsz]; simp, by simp; omega⟩]
    simp
  · obtain ⟨j, hj⟩ : ∃ j, k = (opL (s.k, s.g)).length + j := ⟨k - (opL (s.k, s.g)).length, by omega⟩
    have hM : bs ((txT s).extract 0 k) = opL (s.k, s.g) ++ (nmL s.n s.h).take j := by
      rw [hb, hj]; unfold txL; rw [List.take_length_add_append]
    rw [hM] at hT ⊢
    have := refE_some hp (t := (txT s).extract 0 k) (i := 0) (m := (nmL s.n s.h).take j) (by rw [List.drop_zero, hM]) (by omega) hT
    rw [show ((0 : Nat) : Int) = 0 from rfl] at this
    rw [this]
    obtain ⟨N, hN⟩ : ∃ N : Nat, s.n = N := ⟨s.n.toNat, by have := hv.1; omega⟩
    have hw : ∀ x, (wrap (s.k, s.g) x).2 = x.2 := by rintro ⟨_ | ⟨a, b⟩, e⟩ <;> rfl
    rw [hw, hN]
    rw [hN] at hv hk
    have hc := refN_cut ((txT s).extract 0 k).size ((0 : Int) + ((opL (s.k, s.g)).length : Nat)) (decide (s.k = 5)) N s.h (by simpa using hv.2) j (by omega) (by rw [hsz]; omega)
    rcases hc with hc | hc
    · exact .inl hc
    · right
      rw [hc, show ((0 : Int) + ((opL (s.k, s.g)).length : Nat) + (j : Nat)) = (k : Int) by omega]
end Go.Proofs.YtnlgjakohoimhaaDoor
