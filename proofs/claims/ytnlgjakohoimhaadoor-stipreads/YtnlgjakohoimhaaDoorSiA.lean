/- Stipulations: numbers alone, by bytes. -/
import Derived.Test.YtnlgjakohoimhaaDoorLxG
import Derived.Lib.ItoaNum
namespace Go.Proofs.YtnlgjakohoimhaaDoor
open Go.RowKit
set_option linter.unusedVariables false
set_option linter.unusedSimpArgs false
set_option maxRecDepth 100000

/-- A stipulation: kind, goal, number, half a move more. -/
structure Stp where
  k : Int
  g : Int
  n : Int
  h : Bool
  deriving DecidableEq
def ql (s : Stp) : List Value := [.int .i64 s.k, .int .i64 s.g, .int .i64 s.n, .bool s.h]
def qv (s : Stp) : Value := .agg #[.int .i64 s.k, .int .i64 s.g, .int .i64 s.n, .bool s.h]
def Zt : Stp := ⟨0, 0, 0, false⟩
/-- The kinds' texts, the goals'. -/
def kT (k : Int) : ByteArray :=
  if k = 2 then ⟨#[115]⟩ else if k = 3 then ⟨#[114]⟩ else if k = 4 then ⟨#[115, 101, 109, 105, 45, 114]⟩ else if k = 5 then ⟨#[104]⟩
  else if k = 6 then ⟨#[115, 101, 114, 45, 104]⟩ else if k = 7 then ⟨#[115, 101, 114, 45]⟩ else if k = 8 then ⟨#[100, 105, 97, 32]⟩ else ⟨#[]⟩
def gT (g : Int) : ByteArray := if g = 1 then ⟨#[35]⟩ else if g = 2 then ⟨#[61]⟩ else ⟨#[]⟩
def dT (n : Int) : ByteArray := ⟨(Lib.decDigits n.toNat).toArray⟩
def hfT : ByteArray := ⟨#[46, 53]⟩
def opT (k g : Int) : ByteArray := kT k ++ gT g
def txT (s : Stp) : ByteArray := if s.h = true then (opT s.k s.g ++ dT s.n) ++ hfT else opT s.k s.g ++ dT s.n
/-- There are such a kind and goal; so many moves. -/
def okG (k g : Int) : Bool := (decide (k = 8) && decide (g = 0)) || ((decide (1 ≤ k) && decide (k ≤ 7)) && (decide (1 ≤ g) && decide (g ≤ 2)))
def okN (k n : Int) (h : Bool) : Bool := if h = true then decide (k = 5) && (decide (0 ≤ n) && decide (n ≤ 64)) else decide (0 < n) && decide (n ≤ 64)
def okS (s : Stp) : Bool := okG s.k s.g && okN s.k s.n s.h
/-- Who begins; how many plies. -/
def begI (s : Stp) : Int := if okS s = true then (if s.k = 6 ∨ (s.k = 5 ∧ s.h = false) then 1 else 0) else -1
def plyI (s : Stp) : Int := if okS s = true then (if s.k = 5 then (if s.h = true then 2 * s.n + 1 else 2 * s.n) else if s.k = 6 then s.n + 1 else if s.k = 7 then s.n else 0) else -1
def movI (s : Stp) (f p : Int) : Int :=
  if (f = 0 ∨ f = 1) ∧ 0 ≤ p ∧ p < plyI s then (if (s.k = 5 ∧ p % 2 = 1) ∨ (s.k = 6 ∧ p = s.n) then 1 - f else f) else -1

/-! ### numbers' texts -/
def cmnU : List UInt8 → List Nat → Nat
  | x :: u, y :: v => if x.toNat = y then cmnU u v + 1 else 0
  | _, _ => 0
theorem cmnU_nil (l : List Nat) : cmnU [] l = 0 := by cases l <;> rfl
theorem cmnU_nil2 (l : List UInt8) : cmnU l [] = 0 := by cases l <;> rfl
theorem cmnU_cc (x : UInt8) (u : List UInt8) (y : Nat) (v : List Nat) : cmnU (x :: u) (y :: v) = if x.toNat = y then cmnU u v + 1 else 0 := rfl
theorem cmn_nil (l : List UInt8) : cmn [] l = 0 := by cases l <;> rfl
theorem cmn_nil2 (l : List UInt8) : cmn l [] = 0 := by cases l <;> rfl
theorem cmn_cc (x : UInt8) (u : List UInt8) (y : UInt8) (v : List UInt8) : cmn (x :: u) (y :: v) = if x = y then cmn u v + 1 else 0 := rfl
theorem cmnU_is : ∀ (a : List UInt8) (l : List Nat), (∀ y ∈ l, y < 256) → cmn a (l.map UInt8.ofNat) = cmnU a l
  | [], l, _ => by rw [cmn_nil, cmnU_nil]
  | x :: a, [], _ => by rw [List.map_nil, cmn_nil2, cmnU_nil2]
  | x :: a, y :: l, h => by
    have hy : y < 256 := h y (by simp)
    rw [List.map_cons, cmn_cc, cmnU_cc, cmnU_is a l (fun z hz => h z (by simp [hz]))]
    have e : (UInt8.ofNat y).toNat = y := by simp; omega
    by_cases c : x.toNat = y
    · rw [if_pos c, if_pos (UInt8.toNat.inj (by omega))]
    · rw [if_neg c, if_neg (fun hx => c (by rw [hx]; exact e))]
def nmN (n : Nat) (h : Bool) : List Nat := (if n < 10 then [48 + n] else [48 + n / 10, 48 + n % 10]) ++ (if h = true then [46, 53] else [])
def nmL (n : Int) (h : Bool) : List UInt8 := bs (dT n) ++ (if h = true then bs hfT else [])
theorem dig_1 {n : Nat} (h : n < 10) : Lib.decDigits n = [UInt8.ofNat (48 + n)] := by unfold Lib.decDigits; rw [dif_pos h]
theorem dig_2 {n : Nat} (h : 10 ≤ n) (h2 : n < 100) : Lib.decDigits n = [UInt8.ofNat (48 + n / 10), UInt8.ofNat (48 + n % 10)] := by
  unfold Lib.decDigits
  rw [dif_neg (by omega), dig_1 (by omega)]
  rfl
theorem bs_dT (n : Int) : bs (dT n) = Lib.decDigits n.toNat := rfl
theorem nmL_is (n : Nat) (hn : n < 100) (h : Bool) : nmL n h = (nmN n h).map UInt8.ofNat := by
  unfold nmL nmN
  rw [bs_dT, List.map_append]
  by_cases h1 : n < 10
  · rw [show ((n : Int)).toNat = n from rfl, dig_1 h1, if_pos h1]; cases h <;> rfl
  · rw [show ((n : Int)).toNat = n from rfl, dig_2 (by omega) hn, if_neg h1]; cases h <;> rfl
theorem nmN_low (n : Nat) (hn : n < 100) (h : Bool) : ∀ y ∈ nmN n h, y < 256 := by
  intro y hy
  unfold nmN at hy
  split at hy <;> cases h <;> simp at hy <;> omega
theorem cmn_nm (a : List UInt8) (n : Nat) (hn : n < 100) (h : Bool) : cmn a (nmL n h) = cmnU a (nmN n h) := by
  rw [nmL_is n hn, cmnU_is _ _ (nmN_low n hn h)]
theorem nm_len (n : Nat) (hn : n < 100) (h : Bool) : (nmL n h).length = (nmN n h).length := by rw [nmL_is n hn, List.length_map]
/-- Of '.5' how many bytes stand there. -/
def tl5 (hB : Bool) (m : List UInt8) : Nat := if hB = true then cmnU m [46, 53] else 0
theorem tl5_le (hB : Bool) (m : List UInt8) : tl5 hB m ≤ 2 := by
  unfold tl5
  split
  · rcases m with _ | ⟨a, _ | ⟨b, r⟩⟩
    · simp [cmnU]
    · simp only [cmnU]; split <;> omega
    · simp only [cmnU]
      split
      · split <;> omega
      · omega
  · omega
/-- How far texts of numbers go (F), which is whole (its length; -1), the number, half a move more. -/
def fin (hB : Bool) (p n : Nat) (m : List UInt8) : Nat × Int × Nat × Bool :=
  (p + tl5 hB m, if tl5 hB m = 2 then (p + 2 : Nat) else if n = 0 then -1 else p, n, decide (tl5 hB m = 2))
def nmP (hB : Bool) : List UInt8 → Nat × Int × Nat × Bool
  | [] => (0, -1, 0, false)
  | b :: r =>
    if b.toNat < 48 ∨ 57 < b.toNat ∨ (b.toNat = 48 ∧ hB = false) then (0, -1, 0, false)
    else match r with
      | [] => fin hB 1 (b.toNat - 48) []
      | c :: r' => if 48 < b.toNat ∧ 48 ≤ c.toNat ∧ c.toNat ≤ 57 ∧ 10 * (b.toNat - 48) + (c.toNat - 48) ≤ 64 then fin hB 2 (10 * (b.toNat - 48) + (c.toNat - 48)) r' else fin hB 1 (b.toNat - 48) (c :: r')
def okM (hB : Bool) (n : Nat) (h : Bool) : Prop := n ≤ 64 ∧ (h = true → hB = true) ∧ (h = false → 0 < n)
/-- What these four are. -/
structure TopN (hB : Bool) (m : List UInt8) (x : Nat × Int × Nat × Bool) : Prop where
  up : ∀ n h, okM hB n h → cmnU m (nmN n h) ≤ x.1
  at_ : x.1 = 0 ∨ ∃ n h, okM hB n h ∧ cmnU m (nmN n h) = x.1
  no : x.2.1 = -1 → ∀ n h, okM hB n h → cmnU m (nmN n h) ≠ (nmN n h).length
  yes : x.2.1 ≠ -1 → okM hB x.2.2.1 x.2.2.2 ∧ x.2.1 = ((nmN x.2.2.1 x.2.2.2).length : Nat) ∧ cmnU m (nmN x.2.2.1 x.2.2.2) = (nmN x.2.2.1 x.2.2.2).length ∧
    ∀ n h, okM hB n h → cmnU m (nmN n h) = (nmN n h).length → (nmN n h).length ≤ (nmN x.2.2.1 x.2.2.2).length ∧ ((nmN n h).length = (nmN x.2.2.1 x.2.2.2).length → n = x.2.2.1 ∧ h = x.2.2.2)
theorem u5_le (m : List UInt8) : cmnU m [46, 53] ≤ 2 := tl5_le true m
theorem nmN_ff {n : Nat} (h : n < 10) : nmN n false = [48 + n] := by unfold nmN; rw [if_pos h]; rfl
theorem nmN_ft {n : Nat} (h : n < 10) : nmN n true = [48 + n, 46, 53] := by unfold nmN; rw [if_pos h]; rfl
theorem nmN_tf {n : Nat} (h : ¬ n < 10) : nmN n false = [48 + n / 10, 48 + n % 10] := by unfold nmN; rw [if_neg h]; rfl
theorem nmN_tt {n : Nat} (h : ¬ n < 10) : nmN n true = [48 + n / 10, 48 + n % 10, 46, 53] := by unfold nmN; rw [if_neg h]; rfl
theorem nmN_cases {n : Nat} {h : Bool} : (n < 10 ∧ h = false ∧ nmN n h = [48 + n]) ∨ (n < 10 ∧ h = true ∧ nmN n h = [48 + n, 46, 53]) ∨ (10 ≤ n ∧ h = false ∧ nmN n h = [48 + n / 10, 48 + n % 10]) ∨ (10 ≤ n ∧ h = true ∧ nmN n h = [48 + n / 10, 48 + n % 10, 46, 53]) := by
  by_cases h1 : n < 10
  · cases h
    · exact .inl ⟨h1, rfl, nmN_ff h1⟩
    · exact .inr (.inl ⟨h1, rfl, nmN_ft h1⟩)
  · cases h
    · exact .inr (.inr (.inl ⟨by omega, rfl, nmN_tf h1⟩))
    · exact .inr (.inr (.inr ⟨by omega, rfl, nmN_tt h1⟩))
theorem nmP_nil (hB : Bool) : nmP hB [] = (0, -1, 0, false) := rfl
theorem nmP_no {hB : Bool} {b : UInt8} {r : List UInt8} (h : b.toNat < 48 ∨ 57 < b.toNat ∨ (b.toNat = 48 ∧ hB = false)) : nmP hB (b :: r) = (0, -1, 0, false) := if_pos h
theorem nmP_end {hB : Bool} {b : UInt8} (h : ¬ (b.toNat < 48 ∨ 57 < b.toNat ∨ (b.toNat = 48 ∧ hB = false))) : nmP hB [b] = fin hB 1 (b.toNat - 48) [] := if_neg h
theorem nmP_two {hB : Bool} {b c : UInt8} {r : List UInt8} (h : ¬ (b.toNat < 48 ∨ 57 < b.toNat ∨ (b.toNat = 48 ∧ hB = false))) (h2 : 48 < b.toNat ∧ 48 ≤ c.toNat ∧ c.toNat ≤ 57 ∧ 10 * (b.toNat - 48) + (c.toNat - 48) ≤ 64) : nmP hB (b :: c :: r) = fin hB 2 (10 * (b.toNat - 48) + (c.toNat - 48)) r := (if_neg h).trans (if_pos h2)
theorem nmP_one {hB : Bool} {b c : UInt8} {r : List UInt8} (h : ¬ (b.toNat < 48 ∨ 57 < b.toNat ∨ (b.toNat = 48 ∧ hB = false))) (h2 : ¬ (48 < b.toNat ∧ 48 ≤ c.toNat ∧ c.toNat ≤ 57 ∧ 10 * (b.toNat - 48) + (c.toNat - 48) ≤ 64)) : nmP hB (b :: c :: r) = fin hB 1 (b.toNat - 48) (c :: r) := (if_neg h).trans (if_neg h2)
/-- One digit, and what stands behind it is none that goes on. -/
theorem fin_one (hB : Bool) (b : UInt8) (m : List UInt8) (h0 : 48 ≤ b.toNat) (h1 : b.toNat ≤ 57) (hz : b.toNat = 48 → hB = true)
    (hm : ∀ c r, m = c :: r → ¬ (48 < b.toNat ∧ 48 ≤ c.toNat ∧ c.toNat ≤ 57 ∧ 10 * (b.toNat - 48) + (c.toNat - 48) ≤ 64)) :
    TopN hB (b :: m) (fin hB 1 (b.toNat - 48) m) := by
  have hu := u5_le m
  have key : ∀ n h, okM hB n h → (n < 10 → (h = false → cmnU (b :: m) (nmN n h) = if b.toNat = 48 + n then 1 else 0) ∧ (h = true → cmnU (b :: m) (nmN n h) = if b.toNat = 48 + n then cmnU m [46, 53] + 1 else 0)) ∧ (10 ≤ n → cmnU (b :: m) (nmN n h) ≤ 1) := by
    intro n h ⟨a1, a2, a3⟩
    refine ⟨fun hn => ⟨fun e => ?_, fun e => ?_⟩, fun hn => ?_⟩
    · rw [e, nmN_ff hn, cmnU_cc, cmnU_nil2]
    · rw [e, nmN_ft hn, cmnU_cc]
    · have ht : ∀ l : List Nat, cmnU (b :: m) ((48 + n / 10) :: (48 + n % 10) :: l) ≤ 1 := by
        intro l
        rw [cmnU_cc]
        rcases m with _ | ⟨c, r⟩
        · rw [cmnU_nil]; split <;> omega
        · rw [cmnU_cc]
          have := hm c r rfl
          split
          · split
            · omega
            · omega
          · omega
      cases h
      · rw [nmN_tf (by omega)]; exact ht []
      · rw [nmN_tt (by omega)]; exact ht [46, 53]
  have k0 : okM hB (b.toNat - 48) true ↔ hB = true := ⟨fun x => x.2.1 rfl, fun x => ⟨by omega, fun _ => x, fun e => by simp at e⟩⟩
  have ht : hB = true → tl5 hB m = cmnU m [46, 53] := by rintro rfl; rfl
  have hf : hB = false → tl5 hB m = 0 := by rintro rfl; rfl
  have hle := tl5_le hB m
  have v1 : okM hB (b.toNat - 48) false ↔ 48 < b.toNat := ⟨fun x => by have := x.2.2 rfl; omega, fun x => ⟨by omega, fun e => by simp at e, fun _ => by omega⟩⟩
  have c1 : okM hB (b.toNat - 48) false → cmnU (b :: m) (nmN (b.toNat - 48) false) = 1 := by intro x; rw [((key _ _ x).1 (by omega)).1 rfl, if_pos (by omega)]
  have c2 : okM hB (b.toNat - 48) true → cmnU (b :: m) (nmN (b.toNat - 48) true) = cmnU m [46, 53] + 1 := by intro x; rw [((key _ _ x).1 (by omega)).2 rfl, if_pos (by omega)]
  have l1 : (nmN (b.toNat - 48) false).length = 1 := by rw [nmN_ff (by omega)]; rfl
  have l2 : (nmN (b.toNat - 48) true).length = 3 := by rw [nmN_ft (by omega)]; rfl
  have whole : ∀ n h, okM hB n h → cmnU (b :: m) (nmN n h) = (nmN n h).length → n = b.toNat - 48 ∧ (h = true → cmnU m [46, 53] = 2) := by
    intro n h hv hw
    have hk := key n h hv
    rcases @nmN_cases n h with ⟨hn, e, e2⟩ | ⟨hn, e, e2⟩ | ⟨hn, e, e2⟩ | ⟨hn, e, e2⟩
    · rw [(hk.1 hn).1 e, e2] at hw; simp at hw; exact ⟨by omega, fun x => by rw [x] at e; simp at e⟩
    · rw [(hk.1 hn).2 e, e2] at hw
      simp only [List.length_cons, List.length_nil] at hw
      split at hw
      · exact ⟨by omega, fun _ => by omega⟩
      · omega
    · have := hk.2 hn; rw [hw, e2] at this; simp at this
    · have := hk.2 hn; rw [hw, e2] at this; simp at this
  constructor
  · intro n h hv
    show _ ≤ 1 + tl5 hB m
    have hk := key n h hv
    by_cases hn : n < 10
    · cases h
      · rw [(hk.1 hn).1 rfl]; split <;> omega
      · rw [(hk.1 hn).2 rfl, ht (hv.2.1 rfl)]; split <;> omega
    · have := hk.2 (by omega); omega
  · right
    show ∃ n h, okM hB n h ∧ cmnU (b :: m) (nmN n h) = 1 + tl5 hB m
    by_cases hh : hB = true
    · exact ⟨_, true, k0.2 hh, by rw [c2 (k0.2 hh), ht hh]; omega⟩
    · have : 48 < b.toNat := by
        rcases Nat.lt_or_ge 48 b.toNat with x | x
        · exact x
        · exact absurd (hz (by omega)) hh
      exact ⟨_, false, v1.2 this, by rw [c1 (v1.2 this), hf (by simpa using hh)]⟩
  · intro hm1 n h hv hw
    have hww := whole n h hv hw
    change (if tl5 hB m = 2 then ((1 + 2 : Nat) : Int) else if b.toNat - 48 = 0 then -1 else ((1 : Nat) : Int)) = -1 at hm1
    by_cases h2 : tl5 hB m = 2
    · rw [if_pos h2] at hm1; omega
    · rw [if_neg h2] at hm1
      by_cases hz0 : b.toNat - 48 = 0
      · cases h
        · have := hv.2.2 rfl; omega
        · have := hww.2 rfl; rw [← ht (hv.2.1 rfl)] at this; exact h2 this
      · rw [if_neg hz0] at hm1; omega
  · intro hm1
    change (if tl5 hB m = 2 then ((1 + 2 : Nat) : Int) else if b.toNat - 48 = 0 then -1 else ((1 : Nat) : Int)) ≠ -1 at hm1
    show okM hB (b.toNat - 48) (decide (tl5 hB m = 2)) ∧ (if tl5 hB m = 2 then ((1 + 2 : Nat) : Int) else if b.toNat - 48 = 0 then -1 else ((1 : Nat) : Int)) = ((nmN (b.toNat - 48) (decide (tl5 hB m = 2))).length : Nat) ∧
      cmnU (b :: m) (nmN (b.toNat - 48) (decide (tl5 hB m = 2))) = (nmN (b.toNat - 48) (decide (tl5 hB m = 2))).length ∧
      ∀ n h, okM hB n h → cmnU (b :: m) (nmN n h) = (nmN n h).length → (nmN n h).length ≤ (nmN (b.toNat - 48) (decide (tl5 hB m = 2))).length ∧ ((nmN n h).length = (nmN (b.toNat - 48) (decide (tl5 hB m = 2))).length → n = b.toNat - 48 ∧ h = decide (tl5 hB m = 2))
    by_cases h2 : tl5 hB m = 2
    · have hh : hB = true := by cases hB; · rw [hf rfl] at h2; omega
                                · rfl
      rw [if_pos h2, decide_eq_true h2, l2]
      refine ⟨k0.2 hh, rfl, ?_, ?_⟩
      · rw [c2 (k0.2 hh), ← ht hh, h2]
      · intro n h hv hw
        obtain ⟨rfl, w2⟩ := whole n h hv hw
        cases h
        · rw [l1]; exact ⟨by omega, fun e => by omega⟩
        · rw [l2]; exact ⟨by omega, fun e => ⟨rfl, rfl⟩⟩
    · rw [if_neg h2] at hm1
      have hz0 : b.toNat - 48 ≠ 0 := by intro e; rw [if_pos e] at hm1; exact hm1 rfl
      rw [if_neg h2, if_neg hz0, decide_eq_false h2, l1]
      refine ⟨v1.2 (by omega), rfl, c1 (v1.2 (by omega)), ?_⟩
      intro n h hv hw
      obtain ⟨rfl, w2⟩ := whole n h hv hw
      cases h
      · rw [l1]; exact ⟨by omega, fun _ => ⟨rfl, rfl⟩⟩
      · have := w2 rfl; rw [← ht (hv.2.1 rfl)] at this; exact absurd this h2
/-- Two digits. -/
theorem fin_two (hB : Bool) (b c : UInt8) (m : List UInt8) (h0 : 48 < b.toNat) (h1 : b.toNat ≤ 57) (g0 : 48 ≤ c.toNat) (g1 : c.toNat ≤ 57) (hz : 10 * (b.toNat - 48) + (c.toNat - 48) ≤ 64) :
    TopN hB (b :: c :: m) (fin hB 2 (10 * (b.toNat - 48) + (c.toNat - 48)) m) := by
  have hu := u5_le m
  obtain ⟨N, hN⟩ : ∃ N, 10 * (b.toNat - 48) + (c.toNat - 48) = N := ⟨_, rfl⟩
  rw [hN] at hz ⊢
  have key : ∀ n h, okM hB n h → (n < 10 → cmnU (b :: c :: m) (nmN n h) ≤ 1) ∧ (10 ≤ n → n ≠ N → cmnU (b :: c :: m) (nmN n h) ≤ 1) := by
    intro n h ⟨a1, a2, a3⟩
    refine ⟨fun hn => ?_, fun hn hne => ?_⟩
    · cases h
      · rw [nmN_ff hn, cmnU_cc, cmnU_nil2]; split <;> omega
      · have hc : ¬ c.toNat = 46 := by omega
        rw [nmN_ft hn, cmnU_cc, cmnU_cc, if_neg hc]; split <;> omega
    · have ht : ∀ l : List Nat, cmnU (b :: c :: m) ((48 + n / 10) :: (48 + n % 10) :: l) ≤ 1 := by
        intro l
        rw [cmnU_cc, cmnU_cc]
        split
        · split
          · omega
          · omega
        · omega
      cases h
      · rw [nmN_tf (by omega)]; exact ht []
      · rw [nmN_tt (by omega)]; exact ht [46, 53]
  have hN1 : 10 ≤ N := by omega
  have k0 : okM hB N true ↔ hB = true := ⟨fun x => x.2.1 rfl, fun x => ⟨by omega, fun _ => x, fun e => by simp at e⟩⟩
  have ht : hB = true → tl5 hB m = cmnU m [46, 53] := by rintro rfl; rfl
  have hf : hB = false → tl5 hB m = 0 := by rintro rfl; rfl
  have hle := tl5_le hB m
  have v1 : okM hB N false := ⟨by omega, fun e => by simp at e, fun _ => by omega⟩
  have c1 : cmnU (b :: c :: m) (nmN N false) = 2 := by rw [nmN_tf (by omega), cmnU_cc, cmnU_cc, cmnU_nil2, if_pos (by omega), if_pos (by omega)]
  have c2 : cmnU (b :: c :: m) (nmN N true) = cmnU m [46, 53] + 2 := by rw [nmN_tt (by omega), cmnU_cc, cmnU_cc, if_pos (by omega), if_pos (by omega)]
  have l1 : (nmN N false).length = 2 := by rw [nmN_tf (by omega)]; rfl
  have l2 : (nmN N true).length = 4 := by rw [nmN_tt (by omega)]; rfl
  have lo : ∀ n h, okM hB n h → cmnU (b :: c :: m) (nmN n h) = (nmN n h).length → (n = N ∧ (h = true → cmnU m [46, 53] = 2)) ∨ (nmN n h).length = 1 := by
    intro n h hv hw
    have hk := key n h hv
    by_cases e : n = N
    · left
      refine ⟨e, fun x => ?_⟩
      rw [e, x, c2, l2] at hw; omega
    · right
      have : (nmN n h).length ≤ 1 := by
        rw [← hw]
        rcases Nat.lt_or_ge n 10 with x | x
        · exact hk.1 x
        · exact hk.2 x e
      rcases @nmN_cases n h with ⟨hn, _, e2⟩ | ⟨hn, _, e2⟩ | ⟨hn, _, e2⟩ | ⟨hn, _, e2⟩
      all_goals rw [e2] at this ⊢
      all_goals simp at this ⊢
  constructor
  · intro n h hv
    show _ ≤ 2 + tl5 hB m
    have hk := key n h hv
    by_cases e : n = N
    · cases h
      · rw [e, c1]; omega
      · rw [e, c2, ht (hv.2.1 rfl)]; omega
    · rcases Nat.lt_or_ge n 10 with x | x
      · have := hk.1 x; omega
      · have := hk.2 x e; omega
  · right
    show ∃ n h, okM hB n h ∧ cmnU (b :: c :: m) (nmN n h) = 2 + tl5 hB m
    by_cases hh : hB = true
    · exact ⟨_, true, k0.2 hh, by rw [c2, ht hh]; omega⟩
    · exact ⟨_, false, v1, by rw [c1, hf (by simpa using hh)]⟩
  · intro hm1
    change (if tl5 hB m = 2 then ((2 + 2 : Nat) : Int) else if N = 0 then -1 else ((2 : Nat) : Int)) = -1 at hm1
    exfalso
    split at hm1
    · omega
    · split at hm1 <;> omega
  · intro _
    show okM hB N (decide (tl5 hB m = 2)) ∧ (if tl5 hB m = 2 then ((2 + 2 : Nat) : Int) else if N = 0 then -1 else ((2 : Nat) : Int)) = ((nmN N (decide (tl5 hB m = 2))).length : Nat) ∧
      cmnU (b :: c :: m) (nmN N (decide (tl5 hB m = 2))) = (nmN N (decide (tl5 hB m = 2))).length ∧
      ∀ n h, okM hB n h → cmnU (b :: c :: m) (nmN n h) = (nmN n h).length → (nmN n h).length ≤ (nmN N (decide (tl5 hB m = 2))).length ∧ ((nmN n h).length = (nmN N (decide (tl5 hB m = 2))).length → n = N ∧ h = decide (tl5 hB m = 2))
    by_cases h2 : tl5 hB m = 2
    · have hh : hB = true := by cases hB; · rw [hf rfl] at h2; omega
                                · rfl
      rw [if_pos h2, decide_eq_true h2, l2]
      refine ⟨k0.2 hh, rfl, ?_, ?_⟩
      · rw [c2, ← ht hh, h2]
      · intro n h hv hw
        rcases lo n h hv hw with ⟨rfl, w2⟩ | w3
        · cases h
          · rw [l1]; exact ⟨by omega, fun e => by omega⟩
          · rw [l2]; exact ⟨by omega, fun e => ⟨rfl, rfl⟩⟩
        · rw [w3]; exact ⟨by omega, fun e => by omega⟩
    · rw [if_neg h2, if_neg (by omega), decide_eq_false h2, l1]
      refine ⟨v1, rfl, c1, ?_⟩
      intro n h hv hw
      rcases lo n h hv hw with ⟨rfl, w2⟩ | w3
      · cases h
        · rw [l1]; exact ⟨by omega, fun _ => ⟨rfl, rfl⟩⟩
        · have := w2 rfl; rw [← ht (hv.2.1 rfl)] at this; exact absurd this h2
      · rw [w3]; exact ⟨by omega, fun e => by omega⟩
theorem nmN_ne (n : Nat) (h : Bool) : ∃ x l, nmN n h = x :: l ∧ (x = 48 + n ∨ (10 ≤ n ∧ x = 48 + n / 10)) := by
  rcases @nmN_cases n h with ⟨hn, _, e⟩ | ⟨hn, _, e⟩ | ⟨hn, _, e⟩ | ⟨hn, _, e⟩
  · exact ⟨_, _, e, .inl rfl⟩
  · exact ⟨_, _, e, .inl rfl⟩
  · exact ⟨_, _, e, .inr ⟨hn, rfl⟩⟩
  · exact ⟨_, _, e, .inr ⟨hn, rfl⟩⟩
theorem nmN_lo {n : Nat} {h : Bool} {x : Nat} {l : List Nat} (e : nmN n h = x :: l) : (x = 48 + n ∧ n < 10) ∨ (10 ≤ n ∧ x = 48 + n / 10) := by
  rcases @nmN_cases n h with ⟨hn, _, e2⟩ | ⟨hn, _, e2⟩ | ⟨hn, _, e2⟩ | ⟨hn, _, e2⟩
  all_goals rw [e2] at e
  all_goals simp only [List.cons.injEq] at e
  · exact .inl ⟨e.1.symm, hn⟩
  · exact .inl ⟨e.1.symm, hn⟩
  · exact .inr ⟨hn, e.1.symm⟩
  · exact .inr ⟨hn, e.1.symm⟩
theorem zero_top {hB : Bool} {m : List UInt8} (h : ∀ n h, okM hB n h → cmnU m (nmN n h) = 0) : TopN hB m (0, -1, 0, false) := by
  constructor
  · intro n b hv; rw [h n b hv]; exact Nat.le_refl _
  · exact .inl rfl
  · intro _ n b hv
    obtain ⟨x, l, e, _⟩ := nmN_ne n b
    rw [h n b hv, e]; simp
  · intro h; exact absurd rfl h
theorem nmP_top (hB : Bool) (m : List UInt8) : TopN hB m (nmP hB m) := by
  rcases m with _ | ⟨b, r⟩
  · exact zero_top fun n h _ => cmnU_nil _
  · by_cases h : b.toNat < 48 ∨ 57 < b.toNat ∨ (b.toNat = 48 ∧ hB = false)
    · rw [nmP_no h]
      refine zero_top fun n hf hv => ?_
      obtain ⟨x, l, e, _⟩ := nmN_ne n hf
      have h1 := nmN_lo e
      obtain ⟨a1, a2, a3⟩ := hv
      rw [e, cmnU_cc, if_neg]
      intro ex
      rcases h with h | h | ⟨h, h2⟩
      · omega
      · omega
      · have : hf = false := by cases hf; · rfl
                                · rw [h2] at a2; exact absurd (a2 rfl) (by simp)
        have := a3 this
        omega
    · have hz : b.toNat = 48 → hB = true := by
        intro e
        cases hB
        · exact absurd (.inr (.inr ⟨e, rfl⟩)) h
        · rfl
      rcases r with _ | ⟨c, r⟩
      · rw [nmP_end h]; exact fin_one hB b [] (by omega) (by omega) hz (fun c r e => by simp at e)
      · by_cases h2 : 48 < b.toNat ∧ 48 ≤ c.toNat ∧ c.toNat ≤ 57 ∧ 10 * (b.toNat - 48) + (c.toNat - 48) ≤ 64
        · rw [nmP_two h h2]; exact fin_two hB b c r h2.1 (by omega) h2.2.1 h2.2.2.1 h2.2.2.2
        · rw [nmP_one h h2]; exact fin_one hB b (c :: r) (by omega) (by omega) hz (fun c' r' e => by simp only [List.cons.injEq] at e; rw [← e.1]; exact h2)
end Go.Proofs.YtnlgjakohoimhaaDoor
