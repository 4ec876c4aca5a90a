/- Stipulations' texts: what the document says is what the program does. -/
import Derived.Test.YtnlgjakohoimhaaDoorSiB
namespace Go.Proofs.YtnlgjakohoimhaaDoor
open Go.RowKit
set_option linter.unusedVariables false
set_option linter.unusedSimpArgs false
set_option maxRecDepth 100000

theorem okS_hd {s : Stp} (h : okS s = true) : (s.k, s.g) ∈ hdL := by
  unfold okS at h
  rw [Bool.and_eq_true] at h
  exact (okG_iff _ _).1 h.1
theorem okN_iff (k n : Int) (h : Bool) : okN k n h = true ↔ 0 ≤ n ∧ okM (decide (k = 5)) n.toNat h := by
  unfold okN okM
  cases h
  · rw [if_neg (by simp)]
    simp only [Bool.and_eq_true, decide_eq_true_eq]
    constructor
    · rintro ⟨h1, h2⟩; exact ⟨by omega, by omega, fun e => by simp at e, fun _ => by omega⟩
    · rintro ⟨h1, h2, _, h4⟩; have := h4 trivial; omega
  · rw [if_pos rfl]
    simp only [Bool.and_eq_true, decide_eq_true_eq]
    constructor
    · rintro ⟨h1, h2, h3⟩; exact ⟨h2, by omega, fun _ => h1, fun e => by simp at e⟩
    · rintro ⟨h1, h2, h3, _⟩; exact ⟨h3 trivial, h1, by omega⟩
theorem okS_mk {p : Int × Int} (hp : p ∈ hdL) {n : Nat} {h : Bool} (hv : okM (decide (p.1 = 5)) n h) : okS ⟨p.1, p.2, n, h⟩ = true := by
  unfold okS
  rw [Bool.and_eq_true]
  exact ⟨(okG_iff _ _).2 hp, (okN_iff _ _ _).2 ⟨Int.natCast_nonneg _, hv⟩⟩
theorem okS_M {s : Stp} (h : okS s = true) : 0 ≤ s.n ∧ okM (decide (s.k = 5)) s.n.toNat s.h := by
  unfold okS at h
  rw [Bool.and_eq_true] at h
  exact (okN_iff _ _ _).1 h.2
theorem okM_one (b : Bool) : okM b 1 false := ⟨by omega, fun e => by simp at e, fun _ => by omega⟩
theorem tx_same {p : Int × Int} {s : Stp} (e : (s.k, s.g) = p) (h : okS s = true) (m : List UInt8) :
    cmn (opL p ++ m) (txL s) = (opL p).length + cmnU m (nmN s.n.toNat s.h) ∧ (txL s).length = (opL p).length + (nmN s.n.toNat s.h).length := by
  obtain ⟨h1, h2, _⟩ := okS_M h
  have e1 : nmL s.n s.h = nmL (s.n.toNat : Int) s.h := by rw [show ((s.n.toNat : Nat) : Int) = s.n by omega]
  unfold txL
  rw [e, cmn_pre, e1, cmn_nm _ _ (by omega), List.length_append, nm_len _ (by omega)]
  exact ⟨rfl, rfl⟩
theorem cmn_other2 {p q : Int × Int} (hp : p ∈ hdL) (hq : q ∈ hdL) (h : q ≠ p) (m c : List UInt8) : cmn (opL p ++ m) (opL q ++ c) < (opL q).length := by
  have a1 := hdL_apart hp hq (Ne.symm h)
  have a2 := hdL_apart hq hp h
  have n1 : ¬ opL q <+: opL p ++ m := by
    intro x
    rcases List.prefix_or_prefix_of_prefix x (List.prefix_append (opL p) m) with y | y
    · exact a2 y
    · exact a1 y
  have l1 := cmn_r (opL p ++ m) (opL q)
  have n2 : cmn (opL p ++ m) (opL q) < (opL q).length := by
    rcases Nat.lt_or_ge (cmn (opL p ++ m) (opL q)) (opL q).length with x | x
    · exact x
    · exact absurd ((cmn_full _ _).1 (by omega)) n1
  rw [cmn_short _ _ _ n2]
  exact n2
/-- No opening stands there. -/
theorem top_none {M : List UInt8} {x : Stp × Int × Nat} (h : Top M (fun s => okS s = true) x) (hn : ∀ p ∈ hdL, ¬ opL p <+: M) (mx : Nat) (hu : ∀ p ∈ hdL, cmn M (opL p) ≤ mx)
    (hw : mx = 0 ∨ ∃ p ∈ hdL, cmn M (opL p) = mx) : x = (Zt, -1, mx) := by
  have lt : ∀ p ∈ hdL, cmn M (opL p) < (opL p).length := by
    intro p hp
    have l1 := cmn_r M (opL p)
    rcases Nat.lt_or_ge (cmn M (opL p)) (opL p).length with y | y
    · exact y
    · exact absurd ((cmn_full _ _).1 (by omega)) (hn p hp)
  have e : ∀ s, okS s = true → cmn M (txL s) = cmn M (opL (s.k, s.g)) := fun s hs => cmn_short _ _ _ (lt _ (okS_hd hs))
  obtain ⟨b, m, f⟩ := x
  have hm : m = -1 := by
    apply Classical.byContradiction
    intro hm
    obtain ⟨h1, _, h3, _⟩ := h.yes hm
    have := lt _ (okS_hd h1)
    rw [e _ h1] at h3
    rw [h3] at this
    unfold txL at this
    rw [List.length_append] at this
    omega
  have hb := (h.no hm).1
  have hf : f = mx := by
    have h1 := h.up
    have h2 := h.at_
    dsimp only at h1 h2
    refine Nat.le_antisymm ?_ ?_
    · rcases h2 with h2 | ⟨s, hs, h2⟩
      · omega
      · have := hu _ (okS_hd hs)
        rw [← e s hs] at this
        omega
    · rcases hw with hw | ⟨p, hp, hw⟩
      · omega
      · have := h1 _ (okS_mk hp (okM_one _))
        rw [e _ (okS_mk hp (okM_one _))] at this
        change cmn M (opL p) ≤ f at this
        omega
  dsimp only at hb
  rw [hb, hm, hf]
/-- An opening stands there. -/
theorem top_some {p : Int × Int} (hp : p ∈ hdL) {m : List UInt8} {x : Stp × Int × Nat} (h : Top (opL p ++ m) (fun s => okS s = true) x) {F : Nat} {K : Int} {n : Nat} {hf : Bool}
    (hN : TopN (decide (p.1 = 5)) m (F, K, n, hf)) : x.2.2 = (opL p).length + F ∧ ((K = -1 ∧ x.2.1 = -1 ∧ x.1 = Zt) ∨ (K ≠ -1 ∧ x.2.1 = (opL p).length + K ∧ x.1 = ⟨p.1, p.2, n, hf⟩)) := by
  obtain ⟨N1, N2, N3, N4⟩ := hN
  dsimp only at N1 N2 N3 N4
  have one := okS_mk hp (okM_one _)
  have ones := (tx_same (p := p) rfl one m).1
  have hsame : ∀ s, okS s = true → (s.k, s.g) = p → okM (decide (p.1 = 5)) s.n.toNat s.h := by
    intro s hs e
    have := (okS_M hs).2
    rw [← e]; exact this
  refine ⟨?_, ?_⟩
  · have h1 := h.up
    have h2 := h.at_
    refine Nat.le_antisymm ?_ ?_
    · rcases h2 with h2 | ⟨s, hs, h2⟩
      · omega
      · by_cases e : (s.k, s.g) = p
        · rw [(tx_same e hs m).1] at h2
          have := N1 _ _ (hsame s hs e)
          omega
        · have := cmn_other hp (okS_hd hs) e m (nmL s.n s.h)
          unfold txL at h2
          omega
    · rcases N2 with N2 | ⟨n', h', v, N2⟩
      · have := h1 _ one
        rw [ones] at this
        omega
      · have hk := okS_mk hp v
        have := h1 _ hk
        rw [(tx_same (p := p) rfl hk m).1] at this
        change (opL p).length + cmnU m (nmN n' h') ≤ x.2.2 at this
        omega
  · by_cases hK : K = -1
    · left
      have hm : x.2.1 = -1 := by
        apply Classical.byContradiction
        intro hm
        obtain ⟨h1, _, h3, _⟩ := h.yes hm
        by_cases e : (x.1.k, x.1.g) = p
        · obtain ⟨t1, t2⟩ := tx_same e h1 m
          rw [t1, t2] at h3
          exact N3 hK _ _ (hsame _ h1 e) (by omega)
        · have := cmn_other2 hp (okS_hd h1) e m (nmL x.1.n x.1.h)
          unfold txL at h3
          rw [List.length_append] at h3
          omega
      exact ⟨hK, hm, (h.no hm).1⟩
    · right
      obtain ⟨v, e1, e2, e3⟩ := N4 hK
      have hk := okS_mk hp v
      obtain ⟨t1, t2⟩ := tx_same (p := p) rfl hk m
      dsimp only [Int.toNat_natCast] at t1 t2
      have hm : x.2.1 ≠ -1 := by
        intro hm
        refine (h.no hm).2 _ hk ?_
        rw [t1, t2, e2]
      obtain ⟨h1, h2, h3, h4⟩ := h.yes hm
      have big := h4 _ hk (by rw [t1, t2, e2])
      have e : (x.1.k, x.1.g) = p := by
        apply Classical.byContradiction
        intro e
        have := cmn_other2 hp (okS_hd h1) e m (nmL x.1.n x.1.h)
        unfold txL at h3
        rw [List.length_append] at h3
        omega
      obtain ⟨s1, s2⟩ := tx_same e h1 m
      have w := e3 _ _ (hsame _ h1 e) (by rw [s1, s2] at h3; omega)
      rw [t2, s2] at big
      obtain ⟨w1, w2⟩ := w.2 (by omega)
      refine ⟨hK, ?_, ?_⟩
      · rw [h2, s2, w1, w2, e1]; omega
      · generalize x.1 = y at *
        obtain ⟨xk, xg, xn, xh⟩ := y
        dsimp only at w1 w2 e
        have h0 := (okS_M h1).1
        dsimp only at h0
        rw [← e, ← w1, w2]
        congr 1
        omega
/-! ### the document's answer -/
def digB (t : ByteArray) (p : Int) : Bool := match (bs t)[p.toNat]? with
  | none => false
  | some b => isD b && (decide (p < 2) || !((bs t)[(p - 2).toNat]? == some 46))
def refE (t : ByteArray) (i : Int) (x : Stp × Int × Nat) : Stp × Sp :=
  if 0 ≤ x.2.1 ∧ (x.2.2 : Int) = x.2.1 ∧ digB t (i + x.2.2) = false then (x.1, ⟨i + x.2.1, 0, 0⟩)
  else if i + x.2.2 = t.size ∧ x.2.1 < x.2.2 then (Zt, ⟨i + x.2.2, 0, 1⟩) else (Zt, ⟨i + x.2.2, 0, 2⟩)
def refP (t : ByteArray) (i : Int) : Stp × Sp := if inB t i = true then refE t i (rfGo ((bs t).drop i.toNat) allS (Zt, -1, 0)) else (Zt, argS)
/-! ### the program's -/
def hdS : List Stp := hdL.map fun p => ⟨p.1, p.2, 0, false⟩
def hdT : List ByteArray := hdL.map fun p => opT p.1 p.2
def dotT : ByteArray := ⟨#[46]⟩
def goB (s : Stp) (t : ByteArray) (a : Int) : Bool := decide (s.k = 5) && (decide (s.n = 0) || decide ((wordP t dotT a).e = 0))
def rdW (s : Stp) (e : Sp) : Stp × Sp := if e.e ≠ 0 then (Zt, e) else (⟨s.k, s.g, s.n, true⟩, e)
def rdV (t : ByteArray) (s : Stp) (u : Sp) : Stp × Sp :=
  if u.e ≠ 0 then (Zt, u) else if goB ⟨s.k, s.g, u.n, s.h⟩ t u.a = true then rdW ⟨s.k, s.g, u.n, s.h⟩ (wordP t hfT u.a) else (⟨s.k, s.g, u.n, s.h⟩, ⟨u.a, 0, 0⟩)
def rdO (t : ByteArray) (o : Sp) : Stp × Sp :=
  if o.e ≠ 0 then (Zt, o) else rdV t (hdS.getD o.n.toNat Zt) (numP t o.a (lstI (decide ((hdS.getD o.n.toNat Zt).k = 5))) 64)
noncomputable def rdP (t : ByteArray) (i : Int) : Stp × Sp := rdO t (oneP t hdT i)
end Go.Proofs.YtnlgjakohoimhaaDoor
