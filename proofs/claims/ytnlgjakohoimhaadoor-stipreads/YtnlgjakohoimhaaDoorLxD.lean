/- Square, Line, and the document's. -/
import Derived.Test.YtnlgjakohoimhaaDoorLxC
namespace Go.Proofs.YtnlgjakohoimhaaDoor
open Go.RowKit
set_option linter.unusedVariables false
set_option linter.unusedSimpArgs false
set_option maxRecDepth 100000
set_option maxHeartbeats 4000000

theorem Kept.iterAt {a w : World} (h : Kept a w) {i : Nat} (hi : a.heap.size ≤ i) (s : ByteArray) (q : Nat) : Kept a (iterAt w i s q) :=
  ⟨h.os, h.output, by show _ ≤ (w.heap.setIfInBounds i _).size; rw [Array.size_setIfInBounds]; exact h.size, fun k hk => by
    show (w.heap.setIfInBounds i _)[k]? = _
    rw [Array.getElem?_setIfInBounds_ne (by omega)]
    exact h.block k hk⟩
/-- While a text's signs are gone through: the result's cell, and the place. -/
structure It (w wr : World) (s : ByteArray) (p : Nat) : Prop where
  kept : Kept w wr
  cell : SAt wr w.heap.size Zs
  iter : wr.heap[w.heap.size + 1]? = some (.stringIter s p)
theorem It.start (w : World) (s : ByteArray) : It w ((w.alloc (.cells (sl Zs).toArray 27)).iter s 0) s 0 := by
  have hs : (w.alloc (.cells (sl Zs).toArray 27)).heap.size = w.heap.size + 1 := by show (w.heap.push _).size = _; simp
  refine ⟨(Kept.refl w).alloc _ |>.trans (Kept.of_grown (grown_iter _ _ _)), (SAt.new w Zs).kept (Kept.of_grown (grown_iter _ _ _)), ?_⟩
  have := World.iter_heap (w.alloc (.cells (sl Zs).toArray 27)) s 0
  rwa [hs] at this
theorem It.next {w wr : World} {s : ByteArray} {p : Nat} (h : It w wr s p) (q : Nat) : It w (iterAt wr (w.heap.size + 1) s q) s q := by
  refine ⟨h.kept.iterAt (by omega) s q, ⟨?_⟩, iterAt_heap h.iter s q⟩
  show (wr.heap.setIfInBounds (w.heap.size + 1) _)[w.heap.size]? = _
  rw [Array.getElem?_setIfInBounds_ne (by omega)]
  exact h.cell.at_
/-- The sign at a place, and its byte. -/
theorem sign_at (s : ByteArray) (p : Nat) (hp : p < s.size) : ∃ q k b, Utf8.decode s p = (q, k) ∧ (bs s)[p]? = some b ∧ 1 ≤ k ∧ q ≤ 2147483647 ∧ ((q < 128 ∧ q = b.toNat ∧ k = 1) ∨ (128 ≤ q ∧ 128 ≤ b.toNat)) ∧
    (∀ j, p < j → j < p + k → ∃ c, (bs s)[j]? = some c ∧ 128 ≤ c.toNat) := by
  refine ⟨(Utf8.decode s p).1, (Utf8.decode s p).2, s[p]'hp, rfl, bs_getq s p hp, width_pos s p hp, decode_le s p, ?_, ?_⟩
  · by_cases h : (s[p]'hp).toNat < 128
    · left; rw [decode_ascii s p hp h]; exact ⟨h, rfl, rfl⟩
    · right; exact ⟨(decode_high s p hp (by omega)).1, by omega⟩
  · intro j h1 h2
    by_cases h : (s[p]'hp).toNat < 128
    · rw [decode_ascii s p hp h] at h2; omega
    · exact sign_high s p hp h j (by omega) h2

/-! ### squares -/
theorem name_bytes (n : Nat) (hn : n < 64) : ∃ x y : UInt8, bs (nameOf n) = [x, y] ∧ x.toNat = 97 + n % 8 ∧ y.toNat = 49 + n / 8 := by
  refine ⟨_, _, rfl, ?_, ?_⟩
  · show ((97 + ((n : Int) % 8).toNat).toUInt8).toNat = _
    simp; omega
  · show ((49 + ((n : Int) / 8).toNat).toUInt8).toNat = _
    simp; omega
theorem bs_two {t : ByteArray} {m : Nat} {a b : UInt8} (h1 : (bs t)[m]? = some a) (h2 : (bs t)[m + 1]? = some b) : bs (t.extract m (m + 2)) = [a, b] := by
  obtain ⟨l1, e1⟩ := List.getElem?_eq_some_iff.1 h1
  obtain ⟨l2, e2⟩ := List.getElem?_eq_some_iff.1 h2
  rw [bs_extract, List.drop_take, List.drop_eq_getElem_cons l1, List.drop_eq_getElem_cons l2, e1, e2, show m + 2 - m = 2 by omega]
  rfl
theorem two_yes {t : ByteArray} {m : Nat} {a b : UInt8} (h1 : (bs t)[m]? = some a) (h2 : (bs t)[m + 1]? = some b) (a0 : 97 ≤ a.toNat) (a1 : a.toNat ≤ 104) (b0 : 49 ≤ b.toNat) (b1 : b.toNat ≤ 56) :
    t.extract m (m + 2) = nameOf ((8 * (b.toNat - 49) + (a.toNat - 97) : Nat) : Int) := by
  obtain ⟨x, y, e, hx, hy⟩ := name_bytes (8 * (b.toNat - 49) + (a.toNat - 97)) (by omega)
  apply bs_inj
  rw [bs_two h1 h2, e]
  have ex : a = x := UInt8.toNat.inj (by omega)
  have ey : b = y := UInt8.toNat.inj (by omega)
  rw [ex, ey]
theorem two_no {t : ByteArray} {m : Nat} {a b : UInt8} (h1 : (bs t)[m]? = some a) (h2 : (bs t)[m + 1]? = some b) (hb : b.toNat < 49 ∨ 56 < b.toNat) (n : Nat) (hn : n < 64) :
    t.extract m (m + 2) ≠ nameOf n := by
  intro h
  obtain ⟨x, y, e, hx, hy⟩ := name_bytes n hn
  have := congrArg bs h
  rw [bs_two h1 h2, e] at this
  simp at this
  obtain ⟨rfl, rfl⟩ := this
  omega
theorem sqP_in {t : ByteArray} {m : Nat} (hm : m ≤ t.size) : sqP t m = sqGo m ((bs t).drop m) := by
  unfold sqP
  rw [if_pos (by simp [inB]; omega)]
  rfl
theorem sq_end {t : ByteArray} {m : Nat} (h : m = t.size) : sqP t m = ⟨m, 0, 1⟩ := by
  rw [sqP_in (by omega), List.drop_eq_nil_of_le (by rw [bs_len]; omega)]
  rfl
theorem sq_far {t : ByteArray} {m : Nat} {a : UInt8} (h : (bs t)[m]? = some a) (ha : a.toNat < 97 ∨ 104 < a.toNat) : sqP t m = ⟨m, 0, 2⟩ := by
  obtain ⟨l1, e1⟩ := List.getElem?_eq_some_iff.1 h
  have := bs_len t
  rw [sqP_in (by omega), List.drop_eq_getElem_cons l1, e1]
  dsimp only [sqGo]
  rw [if_pos ha]
theorem sq_one {t : ByteArray} {m : Nat} {a : UInt8} (h : (bs t)[m]? = some a) (a0 : 97 ≤ a.toNat) (a1 : a.toNat ≤ 104) (he : m + 1 = t.size) : sqP t m = ⟨(m : Int) + 1, 0, 1⟩ := by
  obtain ⟨l1, e1⟩ := List.getElem?_eq_some_iff.1 h
  have := bs_len t
  rw [sqP_in (by omega), List.drop_eq_getElem_cons l1, e1, List.drop_eq_nil_of_le (by omega)]
  dsimp only [sqGo]
  rw [if_neg (by omega)]
theorem sq_bad {t : ByteArray} {m : Nat} {a b : UInt8} (h : (bs t)[m]? = some a) (h2 : (bs t)[m + 1]? = some b) (a0 : 97 ≤ a.toNat) (a1 : a.toNat ≤ 104) (hb : b.toNat < 49 ∨ 56 < b.toNat) : sqP t m = ⟨(m : Int) + 1, 0, 2⟩ := by
  obtain ⟨l1, e1⟩ := List.getElem?_eq_some_iff.1 h
  obtain ⟨l2, e2⟩ := List.getElem?_eq_some_iff.1 h2
  have := bs_len t
  rw [sqP_in (by omega), List.drop_eq_getElem_cons l1, e1, List.drop_eq_getElem_cons l2, e2]
  dsimp only [sqGo]
  rw [if_neg (by omega)]
  rw [if_pos hb]
theorem sq_yes {t : ByteArray} {m : Nat} {a b : UInt8} (h : (bs t)[m]? = some a) (h2 : (bs t)[m + 1]? = some b) (a0 : 97 ≤ a.toNat) (a1 : a.toNat ≤ 104) (b0 : 49 ≤ b.toNat) (b1 : b.toNat ≤ 56) : sqP t m = ⟨(m : Int) + 2, ((8 * (b.toNat - 49) + (a.toNat - 97) : Nat) : Int), 0⟩ := by
  obtain ⟨l1, e1⟩ := List.getElem?_eq_some_iff.1 h
  obtain ⟨l2, e2⟩ := List.getElem?_eq_some_iff.1 h2
  have := bs_len t
  rw [sqP_in (by omega), List.drop_eq_getElem_cons l1, e1, List.drop_eq_getElem_cons l2, e2]
  dsimp only [sqGo]
  rw [if_neg (by omega)]
  rw [if_neg (by omega)]
  congr 1
  omega
end Go.Proofs.YtnlgjakohoimhaaDoor
