/- Stipulations' texts: the document's answer is the program's. -/
import Derived.Test.YtnlgjakohoimhaaDoorSiC
namespace Go.Proofs.YtnlgjakohoimhaaDoor
open Go.RowKit
set_option linter.unusedVariables false
set_option linter.unusedSimpArgs false
set_option maxRecDepth 100000

def wrap (p : Int × Int) : Option (Nat × Bool) × Sp → Stp × Sp
  | (some (n, h), e) => (⟨p.1, p.2, n, h⟩, e)
  | (none, e) => (Zt, e)
theorem stk_e (z : Nat) (i : Int) : (stk z i).e ≠ 0 := by unfold stk; split <;> simp
theorem cmnU_at : ∀ (m : List UInt8) (l : List Nat), cmnU m l = l.length → ∀ (j y : Nat), l[j]? = some y → ∃ b : UInt8, m[j]? = some b ∧ b.toNat = y
  | _, [], _, j, y, h => by simp at h
  | [], z :: l, h, _, _, _ => by rw [cmnU_nil] at h; simp at h
  | x :: m, z :: l, h, j, y, hy => by
    rw [cmnU_cc] at h
    by_cases e : x.toNat = z
    · rw [if_pos e] at h
      rcases j with _ | j
      · simp at hy; exact ⟨x, rfl, by omega⟩
      · exact cmnU_at m l (by simpa using h) j y (by simpa using hy)
    · rw [if_neg e] at h; simp at h
theorem cmnU_len (m : List UInt8) (l : List Nat) : cmnU m l ≤ m.length := by
  induction m generalizing l with
  | nil => rw [cmnU_nil]; simp
  | cons x m ih =>
    rcases l with _ | ⟨y, l⟩
    · rw [cmnU_nil2]; omega
    · rw [cmnU_cc]
      split
      · have := ih l; simp; omega
      · omega
theorem get_rest (t : ByteArray) (i k : Nat) : (bs t)[i + k]? = ((bs t).drop i)[k]? := by rw [List.getElem?_drop]
theorem hdD_get (m : List UInt8) (F : Nat) : hdD (m.drop F) = match m[F]? with
    | none => false
    | some b => isD b := by
  rw [show m[F]? = (m.drop F)[0]? by rw [List.getElem?_drop, Nat.add_zero]]
  rcases m.drop F with _ | ⟨d, r⟩ <;> rfl
theorem dig_tail {p : Int × Int} (hp : p ∈ hdL) {t : ByteArray} {i : Nat} {m : List UInt8} (hM : (bs t).drop i = opL p ++ m) {F n : Nat} {hf : Bool}
    (hv : okM (decide (p.1 = 5)) n hf) (hF : (nmN n hf).length = F) (hw : cmnU m (nmN n hf) = F) : digB t ((i : Int) + ((opL p).length + F : Nat)) = (!hf && hdD (m.drop F)) := by
  obtain ⟨o1, o2, o3⟩ := hdL_last hp
  have hF1 : 1 ≤ F := by
    obtain ⟨x, l, e, _⟩ := nmN_ne n hf
    rw [← hF, e]; simp
  have e1 : (bs t)[((i : Int) + ((opL p).length + F : Nat)).toNat]? = m[F]? := by
    rw [show ((i : Int) + ((opL p).length + F : Nat)).toNat = i + ((opL p).length + F) by omega, get_rest, hM, List.getElem?_append_right (by omega)]
    congr 1; omega
  have e2 : (bs t)[((i : Int) + ((opL p).length + F : Nat) - 2).toNat]? = (opL p ++ m)[(opL p).length + F - 2]? := by
    rw [show ((i : Int) + ((opL p).length + F : Nat) - 2).toNat = i + ((opL p).length + F - 2) by omega, get_rest, hM]
  have e3 : decide ((i : Int) + ((opL p).length + F : Nat) < 2) = false := decide_eq_false (by omega)
  have e4 : ((opL p ++ m)[(opL p).length + F - 2]? == some 46) = hf := by
    rcases @nmN_cases n hf with ⟨a1, a2, a3⟩ | ⟨a1, a2, a3⟩ | ⟨a1, a2, a3⟩ | ⟨a1, a2, a3⟩
    · rw [a3] at hF
      simp at hF
      rw [a2, List.getElem?_append_left (by omega), show (opL p).length + F - 2 = (opL p).length - 1 by omega, ← List.getLast?_eq_getElem?]
      simpa using o1
    · rw [a3] at hF hw
      simp at hF
      obtain ⟨b, b1, b2⟩ := cmnU_at _ _ (hw.trans hF.symm) 1 46 rfl
      rw [a2, List.getElem?_append_right (by omega), show (opL p).length + F - 2 - (opL p).length = 1 by omega, b1]
      rw [show b = 46 from UInt8.toNat.inj b2]; rfl
    · rw [a3] at hF hw
      simp at hF
      obtain ⟨b, b1, b2⟩ := cmnU_at _ _ (hw.trans hF.symm) 0 (48 + n / 10) rfl
      rw [a2, List.getElem?_append_right (by omega), show (opL p).length + F - 2 - (opL p).length = 0 by omega, b1]
      have : b ≠ 46 := by intro e; rw [e] at b2; simp at b2; omega
      simpa using this
    · rw [a3] at hF hw
      simp at hF
      obtain ⟨b, b1, b2⟩ := cmnU_at _ _ (hw.trans hF.symm) 2 46 rfl
      rw [a2, List.getElem?_append_right (by omega), show (opL p).length + F - 2 - (opL p).length = 2 by omega, b1]
      rw [show b = 46 from UInt8.toNat.inj b2]; rfl
  unfold digB
  rw [e1, e2, e3, e4, hdD_get]
  cases m[F]? with
  | none => cases hf <;> rfl
  | some b => cases hf <;> simp
theorem refE_some {p : Int × Int} (hp : p ∈ hdL) {t : ByteArray} {i : Nat} {m : List UInt8} (hM : (bs t).drop i = opL p ++ m) (hi : i ≤ t.size) {x : Stp × Int × Nat}
    (h : Top (opL p ++ m) (fun s => okS s = true) x) : refE t i x = wrap p (refN t.size ((i : Int) + (opL p).length) (decide (p.1 = 5)) m) := by
  rcases hx : nmP (decide (p.1 = 5)) m with ⟨F, K, n, hf⟩
  have hN := nmP_top (decide (p.1 = 5)) m
  rw [hx] at hN
  obtain ⟨t1, t2⟩ := top_some hp h hN
  rw [refN_fin hx]
  dsimp only
  have hz : (t.size : Int) = i + (opL p).length + m.length := by
    have := congrArg List.length hM
    rw [List.length_drop, List.length_append, bs_len] at this
    omega
  have hl : (((opL p).length + F : Nat) : Int) = (opL p).length + F := by omega
  unfold refE
  rw [t1]
  rcases t2 with ⟨k1, k2, k3⟩ | ⟨k1, k2, k3⟩
  · have hC : ¬ (K = (F : Int) ∧ (hf = true ∨ hdD (m.drop F) = false)) := by rintro ⟨e, _⟩; omega
    rw [k2, if_neg (by rintro ⟨e, _⟩; omega)]
    by_cases e : (i : Int) + ((opL p).length + F : Nat) = t.size
    · rw [if_pos ⟨e, by omega⟩, if_neg hC]
      unfold stk wrap
      dsimp only
      rw [if_pos (by omega), hl, ← Int.add_assoc]
    · rw [if_neg (fun x => e x.1), if_neg hC]
      unfold stk wrap
      dsimp only
      rw [if_neg (by omega), hl, ← Int.add_assoc]
  · obtain ⟨v, w1, w2, _⟩ := hN.yes k1
    dsimp only at v w1 w2
    have hup := hN.up _ _ v
    dsimp only at hup
    rw [k2, k3]
    by_cases e : K = F
    · have hd := dig_tail hp hM v (F := F) (by omega) (by omega)
      rw [hd]
      by_cases e2 : (!hf && hdD (m.drop F)) = false
      · have e3 : hf = true ∨ hdD (m.drop F) = false := by
          cases hf
          · right; simpa using e2
          · left; rfl
        rw [if_pos ⟨by omega, by omega, e2⟩, if_pos ⟨e, e3⟩]
        unfold wrap
        dsimp only
        rw [e, ← Int.add_assoc]
      · have e3 : ¬ (hf = true ∨ hdD (m.drop F) = false) := by
          rintro (e3 | e3)
          · rw [e3] at e2; simp at e2
          · rw [e3] at e2; simp at e2
        have e4 : F < m.length := by
          rcases Nat.lt_or_ge F m.length with y | y
          · exact y
          · rw [List.drop_eq_nil_of_le y] at e3; exact absurd (.inr rfl) e3
        rw [if_neg (fun x => e2 x.2.2), if_neg (by rintro ⟨y, _⟩; omega), if_neg (fun x => e3 x.2)]
        unfold stk wrap
        dsimp only
        rw [if_neg (by omega), hl, ← Int.add_assoc]
    · have hC : ¬ (K = (F : Int) ∧ (hf = true ∨ hdD (m.drop F) = false)) := fun y => e y.1
      rw [if_neg (by rintro ⟨_, y, _⟩; omega)]
      by_cases y : (i : Int) + ((opL p).length + F : Nat) = t.size
      · rw [if_pos ⟨y, by omega⟩, if_neg hC]
        unfold stk wrap
        dsimp only
        rw [if_pos (by omega), hl, ← Int.add_assoc]
      · rw [if_neg (fun x => y x.1), if_neg hC]
        unfold stk wrap
        dsimp only
        rw [if_neg (by omega), hl, ← Int.add_assoc]
/-! ### words -/
theorem oneGo_none (z : Nat) (i : Int) (M : List UInt8) : ∀ (ws : List ByteArray) (k far : Nat), (∀ w ∈ ws, cmn M (bs w) ≠ w.size) →
    ∃ mx : Nat, oneGo z i M ws k far = stk z (i + mx) ∧ far ≤ mx ∧ (∀ w ∈ ws, cmn M (bs w) ≤ mx) ∧ (mx = far ∨ ∃ w ∈ ws, cmn M (bs w) = mx)
  | [], k, far, _ => ⟨far, rfl, Nat.le_refl _, fun w hw => by simp at hw, .inl rfl⟩
  | w :: ws, k, far, h => by
    obtain ⟨mx, h1, h2, h3, h4⟩ := oneGo_none z i M ws (k + 1) (max far (cmn M (bs w))) (fun x hx => h x (by simp [hx]))
    refine ⟨mx, (oneGo_no (h w (by simp))).trans h1, by omega, ?_, ?_⟩
    · intro x hx
      rcases List.mem_cons.1 hx with rfl | hx
      · omega
      · exact h3 x hx
    · rcases h4 with h4 | ⟨x, hx, h4⟩
      · rcases Nat.le_total far (cmn M (bs w)) with y | y
        · exact .inr ⟨w, by simp, by rw [h4, Nat.max_eq_right y]⟩
        · exact .inl (by rw [h4, Nat.max_eq_left y])
      · exact .inr ⟨x, by simp [hx], h4⟩
theorem oneGo_some (z : Nat) (i : Int) (M : List UInt8) : ∀ (ws : List ByteArray) (k far j : Nat) (w : ByteArray), ws[j]? = some w → cmn M (bs w) = w.size →
    (∀ j', j' < j → ∀ w', ws[j']? = some w' → cmn M (bs w') ≠ w'.size) → oneGo z i M ws k far = ⟨i + w.size, ((k + j : Nat) : Int), 0⟩
  | [], k, far, j, w, h, _, _ => by simp at h
  | a :: ws, k, far, 0, w, h, h1, _ => by
    simp at h
    rw [h, oneGo_yes h1, h1]; rfl
  | a :: ws, k, far, j + 1, w, h, h1, h2 => by
    rw [oneGo_no (h2 0 (by omega) a rfl), oneGo_some z i M ws (k + 1) _ j w (by simpa using h) h1 (fun j' hj w' hw' => h2 (j' + 1) (by omega) w' (by simpa using hw'))]
    rw [show k + 1 + j = k + (j + 1) by omega]
theorem hdT_at {j : Nat} {p : Int × Int} (h : hdL[j]? = some p) : hdT[j]? = some (opT p.1 p.2) := by unfold hdT; rw [List.getElem?_map, h]; rfl
theorem hdS_at {j : Nat} {p : Int × Int} (h : hdL[j]? = some p) : hdS.getD j Zt = ⟨p.1, p.2, 0, false⟩ := by unfold hdS; rw [List.getD, List.getElem?_map, h]; rfl
theorem hdT_mem {w : ByteArray} (h : w ∈ hdT) : ∃ p ∈ hdL, w = opT p.1 p.2 := by
  unfold hdT at h
  obtain ⟨p, hp, e⟩ := List.mem_map.1 h
  exact ⟨p, hp, e.symm⟩
theorem opT_bs (p : Int × Int) : bs (opT p.1 p.2) = opL p := bs_opT _ _
theorem opT_size (p : Int × Int) : (opT p.1 p.2).size = (opL p).length := by rw [← bs_len, opT_bs]
theorem hd_apart : apB hdT = true := by
  rw [apB_iff]
  refine ⟨by simp [hdT, hdL], ?_, ?_⟩
  · intro x hx e
    obtain ⟨p, hp, rfl⟩ := hdT_mem hx
    rw [opT_bs] at e
    have := (hdL_last hp).2.1
    rw [e] at this; simp at this
  · unfold hdT
    rw [List.pairwise_map]
    have hnd : hdL.Nodup := by decide
    have := List.Pairwise.and_mem.1 hnd
    refine this.imp ?_
    rintro p q ⟨hp, hq, hne⟩
    rw [opT_bs, opT_bs]
    exact ⟨hdL_apart hp hq hne, hdL_apart hq hp (Ne.symm hne)⟩
theorem one_first {M : List UInt8} {p : Int × Int} (hp : p ∈ hdL) (h : opL p <+: M) : ∃ j : Nat, hdL[j]? = some p ∧ ∀ (z : Nat) (i : Int), oneGo z i M hdT 0 0 = ⟨i + (opL p).length, (j : Int), 0⟩ := by
  obtain ⟨j, hj, e⟩ := List.getElem_of_mem hp
  have hj2 : hdL[j]? = some p := by rw [List.getElem?_eq_getElem hj, e]
  refine ⟨j, hj2, fun z i => ?_⟩
  rw [oneGo_some z i M hdT 0 0 j _ (hdT_at hj2) (by rw [opT_bs, opT_size]; exact (cmn_full _ _).2 h) ?_, opT_size, Nat.zero_add]
  intro j' hj' w' hw' hc
  obtain ⟨q, hq⟩ : ∃ q, hdL[j']? = some q := ⟨_, List.getElem?_eq_getElem (by omega)⟩
  rw [hdT_at hq] at hw'
  obtain rfl : opT q.1 q.2 = w' := by simpa using hw'
  rw [opT_bs, opT_size] at hc
  have hpre := (cmn_full _ _).1 hc
  have hne : q ≠ p := by
    intro eq
    have hnd : hdL.Nodup := by decide
    obtain ⟨l1, q1⟩ := List.getElem?_eq_some_iff.1 hq
    have := (List.pairwise_iff_getElem.1 hnd) j' j l1 hj hj'
    exact this (by rw [q1, e, eq])
  rcases List.prefix_or_prefix_of_prefix hpre h with y | y
  · exact hdL_apart (List.mem_of_getElem? hq) hp hne y
  · exact hdL_apart hp (List.mem_of_getElem? hq) (Ne.symm hne) y
/-! ### behind the opening -/
theorem numGo_ok (z : Nat) (i l u : Int) : ∀ (M : List UInt8) (j : Nat) (n : Int), 0 ≤ n → (numGo z i l u M j n).e = 0 →
    ∃ q : Nat, (numGo z i l u M j n).a = i + q ∧ q ≤ j + M.length ∧ 0 ≤ (numGo z i l u M j n).n
  | [], j, n, hn, he => by
    simp only [numGo] at he ⊢
    by_cases h : 0 < j ∧ l ≤ n
    · rw [if_pos h]; exact ⟨j, rfl, by omega, hn⟩
    · rw [if_neg h] at he; simp at he
  | b :: r, j, n, hn, he => by
    by_cases hb : isD b = true
    · by_cases h1 : 0 < j ∧ n = 0
      · rw [nG_lead hb h1] at he; simp at he
      · by_cases h2 : u < 10 * n + (b.toNat - 48) ∨ (j = 0 ∧ 10 * n + ((b.toNat : Int) - 48) = 0 ∧ 0 < l)
        · rw [nG_over hb h1 h2] at he; simp at he
        · rw [nG_next hb h1 h2] at he ⊢
          rw [isD_iff] at hb
          obtain ⟨q, q1, q2, q3⟩ := numGo_ok z i l u r (j + 1) _ (by omega) he
          exact ⟨q, q1, by simp; omega, q3⟩
    · by_cases h : 0 < j ∧ l ≤ n
      · rw [nG_far_yes hb h]; exact ⟨j, rfl, by omega, hn⟩
      · rw [nG_far_no hb h] at he; simp at he
theorem word_at {t : ByteArray} {a : Nat} (h : a ≤ t.size) (w : ByteArray) : wordP t w a = if cmn ((bs t).drop a) (bs w) = w.size then ⟨a + cmn ((bs t).drop a) (bs w), 0, 0⟩ else stk t.size (a + cmn ((bs t).drop a) (bs w)) := by
  unfold wordP
  rw [if_pos (by unfold inB; simp; omega)]
  rfl
theorem rdV_is {p : Int × Int} {t : ByteArray} {i : Nat} {m : List UInt8} (hM : (bs t).drop i = m) (hi : i ≤ t.size) :
    rdV t ⟨p.1, p.2, 0, false⟩ (numGo t.size i (lstI (decide (p.1 = 5))) 64 m 0 0) = wrap p (prN t.size i (decide (p.1 = 5)) m) := by
  unfold rdV prN
  have hz : (t.size : Nat) = i + m.length := by
    have := congrArg List.length hM
    rw [List.length_drop, bs_len] at this
    omega
  by_cases he : (numGo t.size i (lstI (decide (p.1 = 5))) 64 m 0 0).e ≠ 0
  · rw [if_pos he, if_pos he]; rfl
  · rw [if_neg he, if_neg he]
    obtain ⟨q, q1, q2, q3⟩ := numGo_ok t.size i (lstI (decide (p.1 = 5))) 64 m 0 0 (by omega) (by simpa using he)
    generalize numGo t.size i (lstI (decide (p.1 = 5))) 64 m 0 0 = u at *
    obtain ⟨ua, un, ue⟩ := u
    dsimp only at q1 q3 ⊢
    subst q1
    obtain ⟨N, rfl⟩ : ∃ N : Nat, un = N := ⟨un.toNat, by omega⟩
    have hq : (i : Int) + (q : Int) = ((i + q : Nat) : Int) := by omega
    have hd : (bs t).drop (i + q) = m.drop q := by rw [← hM, List.drop_drop]
    rw [show ((i : Int) + q - i).toNat = q by omega]
    rw [hq]
    unfold goB
    rw [word_at (by omega), word_at (by omega), hd]
    have e1 : bs dotT = [46] := rfl
    have e2 : bs hfT = [46, 53] := rfl
    have s1 : dotT.size = 1 := rfl
    have s2 : hfT.size = 2 := rfl
    rw [e1, e2, s1, s2]
    unfold prE
    dsimp only
    rw [show ((N : Int)).toNat = N from rfl]
    have g : (decide (p.1 = 5) && (decide ((N : Int) = 0) || decide ((if cmn (m.drop q) [46] = 1 then (⟨((i + q : Nat) : Int) + cmn (m.drop q) [46], 0, 0⟩ : Sp) else stk t.size (((i + q : Nat) : Int) + cmn (m.drop q) [46])).e = 0))) = true ↔
        (decide (p.1 = 5) = true ∧ ((N : Int) = 0 ∨ cmn (m.drop q) [46] = 1)) := by
      rw [Bool.and_eq_true, Bool.or_eq_true, decide_eq_true_eq (p := (N : Int) = 0)]
      refine and_congr_right fun _ => or_congr_right ?_
      rw [decide_eq_true_eq]
      by_cases c : cmn (m.drop q) [46] = 1
      · rw [if_pos c]; simp [c]
      · rw [if_neg c]
        exact ⟨fun h => absurd h (stk_e _ _), fun h => absurd h c⟩
    by_cases c : decide (p.1 = 5) = true ∧ ((N : Int) = 0 ∨ cmn (m.drop q) [46] = 1)
    · rw [if_pos (g.2 c), if_pos c]
      unfold rdW
      by_cases c2 : cmn (m.drop q) [46, 53] = 2
      · rw [if_pos c2, if_neg (by simp), if_pos c2, c2]; rfl
      · rw [if_neg c2, if_pos (stk_e _ _), if_neg c2]; rfl
    · rw [if_neg (fun h => c (g.1 h)), if_neg c]; rfl
theorem read_eq (t : ByteArray) (i : Int) : rdP t i = refP t i := by
  unfold rdP refP
  by_cases hi : inB t i = true
  · obtain ⟨a, rfl, ha⟩ := inB_yes hi
    rw [if_pos hi, oneP_yes hi hd_apart]
    show rdO t (oneGo t.size a ((bs t).drop a) hdT 0 0) = refE t a (rfGo ((bs t).drop a) allS (Zt, -1, 0))
    have hT := all_top ((bs t).drop a)
    by_cases h : ∃ p ∈ hdL, opL p <+: (bs t).drop a
    · obtain ⟨p, hp, hpre⟩ := h
      obtain ⟨m, hm⟩ := hpre
      obtain ⟨j, hj, ho⟩ := one_first hp (⟨m, hm⟩ : opL p <+: (bs t).drop a)
      rw [ho, refE_some hp hm.symm ha (by rw [hm]; exact hT)]
      unfold rdO
      rw [if_neg (by simp)]
      show rdV t (hdS.getD j Zt) (numP t ((a : Int) + (opL p).length) (lstI (decide ((hdS.getD j Zt).k = 5))) 64) = _
      rw [hdS_at hj]
      have hz : (t.size : Nat) = a + (opL p).length + m.length := by
        have := congrArg List.length hm
        rw [List.length_drop, bs_len, List.length_append] at this
        omega
      have hd : (bs t).drop (a + (opL p).length) = m := by rw [← List.drop_drop, ← hm, List.drop_left]
      have hnum : numP t ((a : Int) + (opL p).length) (lstI (decide (p.1 = 5))) 64 = numGo t.size ((a + (opL p).length : Nat) : Int) (lstI (decide (p.1 = 5))) 64 m 0 0 := by
        unfold numP
        rw [if_pos, show ((a : Int) + (opL p).length).toNat = a + (opL p).length by omega, hd]
        · rfl
        · unfold numB inB
          have : (0 : Int) ≤ lstI (decide (p.1 = 5)) ∧ lstI (decide (p.1 = 5)) ≤ 1 := by cases decide (p.1 = 5) <;> decide
          simp
          omega
      dsimp only
      rw [hnum, rdV_is hd (by omega), prN_is _ _ _ _ (by omega)]
      rw [show ((a + (opL p).length : Nat) : Int) = (a : Int) + (opL p).length by omega]
    · have hno : ∀ p ∈ hdL, ¬ opL p <+: (bs t).drop a := fun p hp hx => h ⟨p, hp, hx⟩
      obtain ⟨mx, h1, h2, h3, h4⟩ := oneGo_none t.size a ((bs t).drop a) hdT 0 0 (by
        intro w hw e
        obtain ⟨p, hp, rfl⟩ := hdT_mem hw
        rw [opT_bs, opT_size] at e
        exact hno p hp ((cmn_full _ _).1 e))
      have hx := top_none hT hno mx (by
          intro p hp
          have := h3 (opT p.1 p.2) (List.mem_map.2 ⟨p, hp, rfl⟩)
          rwa [opT_bs] at this) (by
          rcases h4 with h4 | ⟨w, hw, h4⟩
          · exact .inl h4
          · obtain ⟨p, hp, rfl⟩ := hdT_mem hw
            rw [opT_bs] at h4
            exact .inr ⟨p, hp, h4⟩)
      rw [h1, hx]
      unfold rdO refE
      rw [if_pos (stk_e _ _), if_neg (by rintro ⟨y, _⟩; simp at y)]
      unfold stk
      dsimp only
      by_cases y : (a : Int) + mx = t.size
      · rw [if_pos y, if_pos ⟨y, by omega⟩]
      · rw [if_neg y, if_neg (fun z => y z.1)]
  · rw [if_neg hi]
    rw [oneP_no (fun h => hi h.1)]
    rfl
end Go.Proofs.YtnlgjakohoimhaaDoor
