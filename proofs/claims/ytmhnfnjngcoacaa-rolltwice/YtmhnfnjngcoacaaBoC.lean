/- Where: the board's and the document's; slices of squares; Same. -/
import Derived.Test.YtmhnfnjngcoacaaBoB
namespace Go.Proofs.Ytmhnfnjngcoacaa
open Go.RowKit
set_option linter.unusedVariables false

/-- Squares as the cells of a slice. -/
def nl (l : List Nat) : List Value := l.map fun (i : Nat) => Value.int .i64 (i : Int)
theorem nl_length (l : List Nat) : (nl l).length = l.length := by simp [nl]
theorem nl_snoc (l : List Nat) (k : Nat) : nl (l ++ [k]) = nl l ++ [.int .i64 (k : Int)] := by simp [nl]
theorem infoInt : (Try.prog.info? 3).map (fun i => (i.zero, i.size, i.bytes)) = some (some (.int .i64 0), 1, 8) := by kernel_rfl
/-- A slice of squares of the call's own. -/
def Owns (w : World) (base : Nat) (v : Value) (l : List Nat) : Prop := w.ownsRow base 3 1 v l.length (nl l)
theorem Owns.low {w : World} {base b : Nat} {v : Value} {l : List Nat} (h : Owns w base v l) (hb : b ≤ base) : Owns w b v l := by
  obtain ⟨h1, h2⟩ := h
  refine ⟨h1, ?_⟩
  rcases h2 with h2 | ⟨g, cap, cur, e1, e2, e3⟩
  · exact .inl h2
  · exact .inr ⟨g, cap, cur, e1, by omega, e3⟩
theorem Owns.slice {w : World} {base : Nat} {v : Value} {l : List Nat} (h : Owns w base v l) : ∃ a cap, v = .slice a l.length cap := by
  rcases h.2 with ⟨e, h0⟩ | ⟨g, cap, cur, e, _⟩
  · exact ⟨none, 0, by rw [e, h0]⟩
  · exact ⟨_, _, e⟩
theorem Owns.kept {w w' : World} {base : Nat} {v : Value} {l : List Nat} (h : Owns w base v l) (k : Kept w w') : Owns w' base v l := by
  obtain ⟨h1, h2⟩ := h
  refine ⟨h1, ?_⟩
  rcases h2 with h2 | ⟨g, cap, cur, e1, e2, e3, e4⟩
  · exact .inl h2
  · exact .inr ⟨g, cap, cur, e1, e2, k.heap e3, e4⟩
theorem Owns.at_ {w : World} {base : Nat} {a : Option Addr} {n cap : Nat} {l : List Nat} (h : Owns w base (.slice a n cap) l) (j : Nat) (hj : j < l.length) :
    ∃ g, a = some ⟨g, 0, none⟩ ∧ w.cell? ⟨g, j, none⟩ = some (.int .i64 (l.getD j 0 : Nat)) := by
  rcases h.2 with ⟨e, h0⟩ | ⟨g, cap', cur, e, _, hh, hnc, _, hcs, ht⟩
  · omega
  · injection e with e1 e2 e3
    refine ⟨g, e1, ?_⟩
    rw [cell_of_row w g j cur _ (0, 0) hh]
    have h2 : (cur.toList.take (l.length * 1))[j]? = (nl l)[j]? := by rw [ht]
    rw [List.getElem?_take, if_pos (by omega)] at h2
    simp only [Array.getElem?_toList] at h2
    rw [h2]
    simp [nl, List.getD, List.getElem?_eq_getElem hj]
theorem owns_none (w : World) (b : Nat) (p : Nat → Bool) : Owns w b (.slice none 0 0) (sel p 0) := by
  have : sel p 0 = [] := by simp [sel]
  rw [this]; exact World.ownsRow_nil _ _ _ _
/-- What a search for squares gives. -/
def Gives (w : World) (l : List Nat) (e : Ending) (w' : World) : Prop := ∃ v, e = .returned v ∧ Owns w' w.heap.size v l ∧ Kept w w'
def whereL (B : List Int) (m : Int) : List Nat := sel (fun i => B.getD i 0 == m) 64
theorem where_step {w W wr w1 : World} {v v' : Value} {p : Nat → Bool} {k : Nat} {o : Obj} (hp : p k = true) (hW : W.heap.size = w.heap.size + 1) (hK : Kept W wr)
    (hown : Owns wr (w.heap.size + 1) v (sel p k)) (hown' : w1.ownsRow (w.heap.size + 1) 3 1 v' ((sel p k).length + 1) (nl (sel p k) ++ [.int .i64 (k : Int)])) (hg : (wr.alloc o).grownBy w1 v.ownBlock) :
    Owns w1 (w.heap.size + 1) v' (sel p (k + 1)) ∧ Kept W w1 := by
  refine ⟨?_, ?_⟩
  · unfold Owns
    rw [sel_yes hp, nl_snoc]
    simpa using hown'
  · exact (hK.alloc o).grownBy hg (fun g hgv => by have := (World.ownsRow.lt hown g hgv).1; omega)
theorem where_is (B : List Int) (hB : Brd B) (m : Int) (w : World) :
    Calls Try.prog 20 #[.agg (cl B).toArray, .int .i64 m] w (Gives w (whereL B m)) := by
  have H := Lib.hid hB
  have hz := Lib.hid (size_cl hB.1)
  clear hB
  obtain ⟨p, hp⟩ : ∃ p : Nat → Bool, p = fun i => B.getD i 0 == m := ⟨_, rfl⟩
  have HM : Hid (whereL B m = sel p 64) := by rw [hp]; rfl
  have HP := Lib.hid hp
  clear hp
  obtain ⟨i0, hi, hz0, hz1, hz2⟩ := info_parts infoInt
  obtain ⟨W, eW⟩ : ∃ W, W = w.alloc (.cells (cl B).toArray 24) := ⟨_, rfl⟩
  have HW := Lib.hid eW
  have hsz := Lib.hid (show W.heap.size = w.heap.size + 1 by rw [eW]; simp)
  clear eW
  go_enter Try.func20, Try.ntmps20
  go_wp2_with (refine wpList_load_w (by rfl) _ rfl _ rfl _ (heap_alloc_new w _) hz.out ?_)
  go_loopw [5, 9] (fun v i wr => ∃ k : Nat, k ≤ 64 ∧ i = .int .i64 k ∧ Owns wr (w.heap.size + 1) v (sel p k) ∧ Kept W wr) (fun _ i _ => 64 - (intOf i).toNat)
  case atStart => exact ⟨0, by omega, rfl, owns_none _ _ _, by rw [HW.out]; exact Kept.refl _⟩
  case round =>
    obtain ⟨k, hk, rfl, hown, hK⟩ := hrel
    have hsl := sel_le p k
    by_cases hlt : k < 64
    · have hx := run_index_cl B H.out.1 k hlt
      obtain ⟨hb1, hb2⟩ := H.out.2 k hlt
      obtain ⟨x, ex⟩ : ∃ x, x = B.getD k 0 := ⟨_, rfl⟩
      rw [← ex] at hx hb1 hb2
      have hq : Hid (p k = (x == m)) := by rw [ex, HP.out]; rfl
      clear ex
      by_cases h1 : (x == m) = true
      · have HQ : Hid (p k = true) := by rw [hq.out]; exact h1
        go_wp2_with (at_builtin; refine wpList_append_own _ rfl _ _ 39 rfl (w.heap.size + 1) 3 i0 (.int .i64 0) 1 8 Try.underlying39 hi hz0 hz1 hz2 rfl (by decide) _ _ _ rfl (World.ownsRow.alloc hown _) ⟨wr.heap.size, 0, none⟩ 1 1 [.int .i64 (k : Int)] rfl rfl ?c1 ?c2 ?c3 ?c4 ?c5 ?_)
        case c1 =>
          intro j u hj
          match j, hj with
          | 0, hj => simp at hj; subst hj; simp [Addr.add]
        case c2 => intro u hu; simp at hu; subst hu; rfl
        case c3 => unfold maxLen; omega
        case c4 => omega
        case c5 => have := hK.size; have := hsz.out; simp; omega
        intro v' w1 hown' hgrow _
        have R := where_step HQ.out hsz.out hK hown hown' hgrow
        clear hown' hgrow hown hK
        go_wp2
        go_roundw
        case rel => exact ⟨k + 1, by omega, by go_num, R.1, R.2⟩
        case measure => simp [intOf]; omega
      · have h1' : (x == m) = false := by simpa using h1
        clear h1
        have HQ : Hid (p k = false) := by rw [hq.out]; exact h1'
        go_wp2
        go_roundw
        case rel => exact ⟨k + 1, by omega, by go_num, by rw [sel_no HQ.out]; exact hown, hK⟩
        case measure => simp [intOf]; omega
    · go_wp2
      go_ret
      refine ⟨_, rfl, ?_, ?_⟩
      · rw [HM.out, show 64 = k by omega]; exact hown.low (by omega)
      · refine Kept.trans ?_ hK
        rw [HW.out]; exact (Kept.refl _).alloc _
end Go.Proofs.Ytmhnfnjngcoacaa
