/- Keys, numbers alone: numbers of 64 bits added without carry; how a number is turned about; what a position's parts add; what is left of two keys. -/
import Derived.Test.YtkebpchhpidogaaPoA
import Derived.Laws.Bits64
import Derived.Laws.BitsLemmas
namespace Go.Proofs.Ytkebpchhpidogaa
open Go.RowKit
set_option linter.unusedVariables false
set_option linter.unusedSimpArgs false

/-- A number of 64 bits. -/
def U (a : Int) : Prop := 0 ≤ a ∧ a < 18446744073709551616
/-- Two of them, added without carry. -/
abbrev xr (a b : Int) : Int := bits .xor .u64 a b
theorem xr_val (a b : Int) : xr a b = ((BitVec.ofInt 64 a ^^^ BitVec.ofInt 64 b).toNat : Int) := by
  show IntKind.u64.wrap ((BitVec.ofInt 64 a ^^^ BitVec.ofInt 64 b).toNat : Int) = _
  have h := (BitVec.ofInt 64 a ^^^ BitVec.ofInt 64 b).isLt
  rw [IntKind.wrap_u64]
  omega
theorem of_xr (a b : Int) : BitVec.ofInt 64 (xr a b) = BitVec.ofInt 64 a ^^^ BitVec.ofInt 64 b := by
  rw [xr_val, BitVec.ofInt_natCast, BitVec.ofNat_toNat, BitVec.setWidth_eq]
theorem xr_u (a b : Int) : U (xr a b) := by
  have h := (BitVec.ofInt 64 a ^^^ BitVec.ofInt 64 b).isLt
  rw [xr_val]; exact ⟨by omega, by omega⟩
theorem xr_comm (a b : Int) : xr a b = xr b a := by rw [xr_val, xr_val, BitVec.xor_comm]
theorem xr_assoc (a b c : Int) : xr (xr a b) c = xr a (xr b c) := by
  rw [xr_val (xr a b) c, xr_val a (xr b c), of_xr, of_xr, BitVec.xor_assoc]
instance : Std.Associative xr := ⟨xr_assoc⟩
instance : Std.Commutative xr := ⟨xr_comm⟩
theorem xr_left (a b c : Int) : xr a (xr b c) = xr b (xr a c) := by rw [← xr_assoc, xr_comm a b, xr_assoc]
theorem xr_self (a : Int) : xr a a = 0 := by rw [xr_val, BitVec.xor_self]; rfl
theorem U.to {a : Int} (h : U a) : ((BitVec.ofInt 64 a).toNat : Int) = a := by
  obtain ⟨n, rfl⟩ := Int.eq_ofNat_of_zero_le h.1
  have h2 := h.2
  rw [BitVec.ofInt_natCast, BitVec.toNat_ofNat]
  omega
theorem xr_zero {a : Int} (h : U a) : xr a 0 = a := by
  rw [xr_val, show BitVec.ofInt 64 0 = 0#64 from rfl, BitVec.xor_zero, h.to]
theorem zero_xr {a : Int} (h : U a) : xr 0 a = a := by rw [xr_comm, xr_zero h]
theorem xr_back {a : Int} (h : U a) (b : Int) : xr b (xr b a) = a := by rw [← xr_assoc, xr_self, zero_xr h]
theorem wrap_u (n : Int) : U (IntKind.u64.wrap n) := by
  rw [IntKind.wrap_u64]; exact ⟨Int.emod_nonneg _ (by decide), Int.emod_lt_of_pos _ (by decide)⟩
theorem U.wrap {a : Int} (h : U a) : IntKind.u64.wrap a = a := by
  rw [IntKind.wrap_u64]; exact Int.emod_eq_of_lt h.1 h.2
/-- How a number is turned about. -/
def mxa (n : Int) : Int := IntKind.u64.wrap (IntKind.u64.wrap (n * 11400714819323198485) + 11400714819323198485)
def mxb (x : Int) : Int := IntKind.u64.wrap (xr x (x / 1073741824) * 13787848793156543929)
def mxc (x : Int) : Int := IntKind.u64.wrap (xr x (x / 134217728) * 10723151780598845931)
def mxd (x : Int) : Int := xr x (x / 2147483648)
def mixI (n : Int) : Int := mxd (mxc (mxb (mxa n)))
theorem mxa_u (n : Int) : U (mxa n) := wrap_u _
theorem mxb_u (n : Int) : U (mxb n) := wrap_u _
theorem mxc_u (n : Int) : U (mxc n) := wrap_u _
theorem mxd_u (n : Int) : U (mxd n) := xr_u _ _
theorem mix_u (n : Int) : U (mixI n) := xr_u _ _
theorem mxa_ref (n : Int) : IntKind.u64.wrap (IntKind.u64.wrap (n + 1) * 11400714819323198485) = mxa n := by
  unfold mxa
  simp only [IntKind.wrap_u64]
  omega
theorem mix_0 : mixI 0 = 16294208416658607535 := by decide +kernel
theorem mix_1024 : mixI 1024 ≠ 0 := by decide +kernel
/-- What a man on a square, whose turn it is, a right, and the square behind a pawn add. -/
def manK (s : Nat) (m : Int) : Int := if m = 0 then 0 else mixI (IntKind.u64.wrap (16 * s + 8 + m))
def sideK (t : Int) : Int := if t = 1 then mixI 1024 else 0
def rgtK (c r : Int) : Int := if bits .and .i64 c r = 0 then 0 else mixI (1032 + r)
def pasK (e : Int) : Int := if e < 0 then 0 else mixI (IntKind.u64.wrap (1056 + e))
theorem zero_u : U 0 := ⟨by decide, by decide⟩
theorem man_u (s : Nat) (m : Int) : U (manK s m) := by unfold manK; split <;> first | exact zero_u | exact mix_u _
theorem side_u (t : Int) : U (sideK t) := by unfold sideK; split <;> first | exact mix_u _ | exact zero_u
theorem rgt_u (c r : Int) : U (rgtK c r) := by unfold rgtK; split <;> first | exact zero_u | exact mix_u _
theorem pas_u (e : Int) : U (pasK e) := by unfold pasK; split <;> first | exact zero_u | exact mix_u _
/-- The rights, one after another; the men. -/
def rgtN (c : Int) : Nat → Int
  | 0 => 0
  | n + 1 => xr (rgtN c n) (rgtK c (2 ^ n : Nat))
def menN (B : List Int) : Nat → Int
  | 0 => 0
  | n + 1 => xr (menN B n) (manK n (B.getD n 0))
theorem rgtN_u (c : Int) : ∀ n, U (rgtN c n)
  | 0 => zero_u
  | _ + 1 => xr_u _ _
theorem menN_u (B : List Int) : ∀ n, U (menN B n)
  | 0 => zero_u
  | _ + 1 => xr_u _ _
def rgsK (c : Int) : Int := rgtN c 4
theorem rgs_u (c : Int) : U (rgsK c) := rgtN_u c 4
/-- A position's key. -/
def baseK (p : Ps) : Int := xr (xr (sideK p.t) (rgsK p.c)) (pasK p.e)
def keyP (p : Ps) : Int := xr (baseK p) (menN p.B 64)
theorem base_u (p : Ps) : U (baseK p) := xr_u _ _
theorem key_u (p : Ps) : U (keyP p) := xr_u _ _
/-- The key by the document's order. -/
theorem key_ref (p : Ps) : xr (xr (xr (menN p.B 64) (sideK p.t)) (rgsK p.c)) (pasK p.e) = keyP p := by
  unfold keyP baseK
  simp only [xr_assoc]
  rw [xr_comm (menN p.B 64)]
  simp only [xr_assoc]
/-- One bit of two numbers added without carry. -/
theorem and_zero {c r : Int} : bits .and .i64 c r = 0 ↔ BitVec.ofInt 64 c &&& BitVec.ofInt 64 r = 0#64 := by
  show IntKind.i64.wrap ((BitVec.ofInt 64 c &&& BitVec.ofInt 64 r).toNat : Int) = 0 ↔ _
  have h := (BitVec.ofInt 64 c &&& BitVec.ofInt 64 r).isLt
  rw [← BitVec.toNat_inj, IntKind.wrap_i64]
  generalize (BitVec.ofInt 64 c &&& BitVec.ofInt 64 r).toNat = x at *
  rw [show (0#64).toNat = 0 from rfl]
  omega
theorem of_xor_i (c d : Int) : BitVec.ofInt 64 (bits .xor .i64 c d) = BitVec.ofInt 64 c ^^^ BitVec.ofInt 64 d := by
  show BitVec.ofInt 64 (IntKind.i64.wrap ((BitVec.ofInt 64 c ^^^ BitVec.ofInt 64 d).toNat : Int)) = _
  generalize BitVec.ofInt 64 c ^^^ BitVec.ofInt 64 d = x
  have hx := x.isLt
  apply BitVec.eq_of_toNat_eq
  rw [BitVec.toNat_ofInt, IntKind.wrap_i64]
  omega
theorem bit_cases (x : BitVec 64) (n : Nat) (hn : n < 64) : x &&& BitVec.twoPow 64 n = if x.getLsbD n then BitVec.twoPow 64 n else 0#64 := by
  rw [BitVec.and_twoPow]
theorem pow_ne (n : Nat) (hn : n < 64) : BitVec.twoPow 64 n ≠ 0#64 := by
  intro h
  have := congrArg (fun b => b.getLsbD n) h
  simp [hn] at this
theorem of_pow (n : Nat) (hn : n < 64) : BitVec.ofInt 64 ((2 ^ n : Nat) : Int) = BitVec.twoPow 64 n := by
  rw [BitVec.ofInt_natCast]
  apply BitVec.eq_of_toNat_eq
  simp [BitVec.toNat_twoPow]
theorem and_bit (c : Int) (n : Nat) (hn : n < 64) : (bits .and .i64 c (2 ^ n : Nat) = 0) ↔ (BitVec.ofInt 64 c).getLsbD n = false := by
  rw [and_zero, of_pow n hn, bit_cases _ n hn]
  cases (BitVec.ofInt 64 c).getLsbD n
  · simp
  · simp [pow_ne n hn]
theorem rgt_xor (c d : Int) (n : Nat) (hn : n < 64) : rgtK (bits .xor .i64 c d) (2 ^ n : Nat) = xr (rgtK c (2 ^ n : Nat)) (rgtK d (2 ^ n : Nat)) := by
  unfold rgtK
  simp only [and_bit _ n hn, of_xor_i, BitVec.getLsbD_xor]
  cases (BitVec.ofInt 64 c).getLsbD n <;> cases (BitVec.ofInt 64 d).getLsbD n
  · simp [xr_zero zero_u]
  · simp [zero_xr (mix_u _)]
  · simp [xr_zero (mix_u _)]
  · simp [xr_self]
theorem rgtN_xor (c d : Int) : ∀ n, n ≤ 64 → rgtN (bits .xor .i64 c d) n = xr (rgtN c n) (rgtN d n)
  | 0, _ => (xr_zero zero_u).symm
  | n + 1, h => by
    unfold rgtN
    rw [rgtN_xor c d n (by omega), rgt_xor c d n (by omega)]
    simp only [xr_assoc]
    rw [xr_left (rgtN d n)]
/-- What a key becomes. -/
def difN (p q : Ps) (n : Nat) : Int := xr (menN p.B n) (menN q.B n)
theorem difN_step (p q : Ps) (n : Nat) (k : Int) : xr (xr k (difN p q n)) (xr (manK n (p.B.getD n 0)) (manK n (q.B.getD n 0))) = xr k (difN p q (n + 1)) := by
  unfold difN
  show _ = xr k (xr (xr _ _) (xr _ _))
  simp only [xr_assoc]
  rw [xr_left (menN q.B n)]
theorem difN_same {p q : Ps} {n : Nat} (h : p.B.getD n 0 = q.B.getD n 0) (k : Int) : xr k (difN p q n) = xr k (difN p q (n + 1)) := by
  rw [← difN_step, h, xr_self, xr_zero (xr_u _ _)]
def behK (k : Int) (p q : Ps) : Int := xr (xr (xr (xr (xr (xr k (difN p q 64)) (rgsK (bits .xor .i64 p.c q.c))) (sideK p.t)) (sideK q.t)) (pasK p.e)) (pasK q.e)
theorem beh_key (p q : Ps) : behK (keyP p) p q = keyP q := by
  unfold behK rgsK
  rw [rgtN_xor _ _ 4 (by decide)]
  show _ = keyP q
  rw [← xr_zero (key_u q), ← xr_self (keyP p)]
  unfold keyP baseK difN rgsK
  ac_rfl
end Go.Proofs.Ytkebpchhpidogaa
