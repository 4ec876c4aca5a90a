/- Write. -/
import Derived.Test.YtkfjpecehighlaaDoorFoL
namespace Go.Proofs.YtkfjpecehighlaaDoor
open Go.RowKit
set_option linter.unusedVariables false
set_option linter.unusedSimpArgs false

/-- Texts as the cells of a slice. -/
def tl (l : List ByteArray) : List Value := l.map Value.string
theorem tl_snoc (l : List ByteArray) (k : ByteArray) : tl (l ++ [k]) = tl l ++ [.string k] := by simp [tl]
theorem infoStr : (Tryd.prog.info? 9).map (fun i => (i.zero, i.size, i.bytes)) = some (some (.string ⟨#[]⟩), 1, 16) := by kernel_rfl
theorem info_parts3 {P : Program} {t : TypeId} {z : Value} {n b : Nat} (h : (P.info? t).map (fun i => (i.zero, i.size, i.bytes)) = some (some z, n, b)) :
    ∃ i, P.info? t = some i ∧ i.zero = some z ∧ i.size = n ∧ i.bytes = b := by
  cases hq : P.info? t with
  | none => simp [hq] at h
  | some i => simp [hq] at h; exact ⟨i, rfl, h.1, h.2.1, h.2.2⟩
/-- A slice of texts of the call's own. -/
def OwnsT (w : World) (base : Nat) (v : Value) (l : List ByteArray) : Prop := w.ownsRow base 9 1 v l.length (tl l)
theorem OwnsT.kept {w w' : World} {base : Nat} {v : Value} {l : List ByteArray} (h : OwnsT w base v l) (k : Kept w w') : OwnsT w' base v l := by
  obtain ⟨h1, h2⟩ := h
  refine ⟨h1, ?_⟩
  rcases h2 with h2 | ⟨b, cap, cur, e1, e2, e3, e4⟩
  · exact .inl h2
  · exact .inr ⟨b, cap, cur, e1, e2, k.heap e3, e4⟩
theorem OwnsT.all {w : World} {base : Nat} {v : Value} {l : List ByteArray} (h : OwnsT w base v l) (hl : 0 < l.length) :
    ∃ g cap, v = .slice (some ⟨g, 0, none⟩) l.length cap ∧ l.length ≤ cap ∧ g < w.heap.size ∧ ∀ (j : Nat) x, l[j]? = some x → w.cell? ⟨g, 0 + j, none⟩ = some (.string x) := by
  rcases h.2 with ⟨e, h0⟩ | ⟨g, cap', cur, e, hb, hh, hnc, _, hcs, ht⟩
  · omega
  · refine ⟨g, cap', e, hnc, lt_of_heap hh, fun j x hx => ?_⟩
    have hj : j < l.length := by
      obtain ⟨hj, _⟩ := List.getElem?_eq_some_iff.1 hx
      exact hj
    rw [Nat.zero_add, cell_of_row w g j cur _ (0, 0) hh]
    have h2 : (cur.toList.take (l.length * 1))[j]? = (tl l)[j]? := by rw [ht]
    rw [List.getElem?_take, if_pos (by omega)] at h2
    simp only [Array.getElem?_toList] at h2
    rw [h2]
    simp [tl, hx]
theorem Below.toKept {w w' : World} (h : Below w.heap.size w w') : Kept w w' := ⟨h.os, h.output, h.size, h.block⟩
def rowsT (B : List Int) (k : Nat) : List ByteArray := (List.range k).map fun i => ⟨(rowT B (7 - i)).toArray⟩
theorem rowsT_len (B : List Int) (k : Nat) : (rowsT B k).length = k := by simp [rowsT]
theorem rowsT_succ (B : List Int) (k : Nat) : rowsT B (k + 1) = rowsT B k ++ [⟨(rowT B (7 - k)).toArray⟩] := by simp [rowsT, List.range_succ]
theorem rowsT_join (B : List Int) : Lib.join ((rowsT B 8).map (·.data.toList)) [47] = writeT B := by
  rw [← writeT_join]
  congr 1
theorem row_int (B : List Int) (hB : Brd B) (hR : rightB B = true) (k : Nat) (hk : k < 8) (w : World) :
    Calls Tryd.prog 11 #[.agg (cl B).toArray, .int .i64 (7 - (k : Int))] w fun e w' => e = .returned (.string ⟨(rowT B (7 - k)).toArray⟩) ∧ Kept w w' := by
  have := row_is B hB hR (7 - k) (by omega) w
  rwa [show ((7 - k : Nat) : Int) = 7 - (k : Int) by omega] at this
theorem write_no (B : List Int) (hB : Brd B) (hR : rightB B = false) (w : World) :
    Calls Tryd.prog 7 #[.agg (cl B).toArray] w fun e w' => e = .returned (.tuple #[.string ⟨#[]⟩, .int .i64 5]) ∧ Kept w w' := by
  have hbl := heap_alloc_new w (.cells (cl B).toArray 24)
  have hz := Lib.hid (size_cl hB.1)
  have H := Lib.hid hB
  clear hB
  go_enter Tryd.func7, Tryd.ntmps7
  go_wp2_with (refine wpList_load_w (by rfl) _ rfl _ rfl _ (hbl) hz.out ?_)
  refine (bright_is B H.out _).mono ?_
  rw [hR]
  rintro e w1 ⟨rfl, g1⟩
  go_wp2
  go_ret2
  exact ⟨rfl, ((Kept.refl w).alloc _).trans g1⟩
theorem write_yes (B : List Int) (hB : Brd B) (hR : rightB B = true) (w : World) :
    Calls Tryd.prog 7 #[.agg (cl B).toArray] w fun e w' => e = .returned (.tuple #[.string ⟨(writeT B).toArray⟩, .int .i64 0]) ∧ Kept w w' := by
  have hbl := Lib.hid (heap_alloc_new w (.cells (cl B).toArray 24))
  have hz := Lib.hid (size_cl hB.1)
  have H := Lib.hid hB
  have HR := Lib.hid hR
  obtain ⟨i0, hi0, hz0, hz1, hz2⟩ := info_parts3 infoStr
  obtain ⟨W, eW⟩ : ∃ W, W = w.alloc (.cells (cl B).toArray 24) := ⟨_, rfl⟩
  have hkW := Lib.hid (show Kept w W by rw [eW]; exact (Kept.refl w).alloc _)
  have hbW := Lib.hid (show W.heap[w.heap.size]? = some (.cells (cl B).toArray 24 (0, 0)) by rw [eW]; exact hbl.out)
  have hsz := Lib.hid (show W.heap.size = w.heap.size + 1 by rw [eW]; simp)
  have HW := Lib.hid eW
  clear hB hR eW
  go_enter Tryd.func7, Tryd.ntmps7
  go_wp2_with (refine wpList_load_w (by rfl) _ rfl _ rfl _ (hbl.out) hz.out ?_)
  refine (bright_is B H.out _).mono ?_
  rw [HR.out]
  rintro e w1 ⟨rfl, g1⟩
  have HK1 := Lib.hid (show Kept W w1 by rw [HW.out]; exact g1)
  clear g1
  go_wp2
  go_loopw [4, 5] (fun t4 t5 wr => ∃ (k : Nat), k ≤ 8 ∧ t5 = .int .i64 (7 - (k : Int)) ∧ OwnsT wr (w.heap.size + 1) t4 (rowsT B k) ∧ Kept W wr) (fun _ t5 _ => (intOf t5 + 1).toNat)
  case atStart => exact ⟨0, by omega, rfl, World.ownsRow_nil _ _ _ _, HK1.out⟩
  case round =>
    obtain ⟨k, hk, rfl, hown, hK⟩ := hrel
    have HO := Lib.hid hown
    have HK := Lib.hid hK
    clear hown hK
    by_cases hl : k < 8
    · have hl' : (0 : Int) ≤ 7 - (k : Int) := by omega
      have hbr := HK.out.heap hbW.out
      go_wp2_with (refine wpList_load_w (by rfl) _ rfl _ rfl _ hbr hz.out ?_)
      refine (row_int B H.out HR.out k hl _).mono ?_
      rintro e w2 ⟨rfl, g2⟩
      have HO2 := Lib.hid (HO.out.kept g2)
      have HK2 := Lib.hid (HK.out.trans g2)
      have hrl := Lib.hid (rowsT_len B k)
      clear g2 hbr
      go_wp2_with (at_builtin; refine wpList_append_own _ rfl _ _ 37 rfl (w.heap.size + 1) 9 i0 (.string ⟨#[]⟩) 1 16 Tryd.underlying37 hi0 hz0 hz1 hz2 rfl (by decide) _ _ _ rfl (World.ownsRow.alloc HO2.out _) ⟨w2.heap.size, 0, none⟩ 1 1 [.string ⟨(rowT B (7 - k)).toArray⟩] rfl rfl ?c1 ?c2 ?c3 ?c4 ?c5 ?_)
      case c1 =>
        intro j u hj
        match j, hj with
        | 0, hj => simp at hj; subst hj; simp [Addr.add]
      case c2 => intro u hu; simp at hu; subst hu; rfl
      case c3 => unfold maxLen; have := hrl.out; omega
      case c4 => have := hrl.out; omega
      case c5 => have := HK2.out.size; have := hsz.out; simp; omega
      intro v' w3 hown' hgrow _
      have HO3 : Hid (OwnsT w3 (w.heap.size + 1) v' (rowsT B (k + 1))) := by
        refine Lib.hid ?_
        unfold OwnsT
        rw [rowsT_succ, tl_snoc]
        simpa [rowsT_len] using hown'
      have HK3 : Hid (Kept W w3) := (HK2.out.alloc _).grownBy hgrow (fun g hgv => by have := (World.ownsRow.lt HO2.out g hgv).1; have := hsz.out; omega)
      clear hown' hgrow
      go_wp2
      go_roundw
      case rel => exact ⟨k + 1, by omega, by go_num, HO3.out, HK3.out⟩
      case measure => simp [intOf]; omega
    · have e8 : k = 8 := by omega
      subst e8
      obtain ⟨g, cap, ev, hcap, hg, hcells⟩ := OwnsT.all HO.out (by rw [rowsT_len]; omega)
      rw [rowsT_len] at ev hcap
      subst ev
      have HC := Lib.hid hcells
      clear hcells hl
      have hj := Tryd.strings_Join g 0 cap (rowsT B 8) ⟨#[47]⟩ wr HC.out hg (by rw [rowsT_len]; omega) (by rw [rowsT_len]; exact hcap) (by have := writeT_len B; rw [show (⟨#[47]⟩ : ByteArray).data.toList = [47] from rfl, rowsT_join]; omega)
      rw [rowsT_len, show (⟨#[47]⟩ : ByteArray).data.toList = [47] from rfl, rowsT_join] at hj
      have HJ := Lib.hid hj
      clear hj
      go_wp2_with fail
      refine (HJ.out).mono ?_
      rintro e w2 ⟨rfl, g2⟩
      have HK2 := Lib.hid ((hkW.out.trans HK.out).trans (Below.toKept g2))
      clear g2
      go_wp2
      go_ret2
      exact ⟨rfl, HK2.out⟩
end Go.Proofs.YtkfjpecehighlaaDoor
