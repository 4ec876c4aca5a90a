/- Slices of slices of numbers; Of and Line · Of whatever is asked; Line. The document's steps · The document's Of and Line · The document's Hits, Strikes and By. -/
import Derived.Test.YtkebpchhpidogaaGreatDoorPkA10
namespace Go.Proofs.YtkebpchhpidogaaGreatDoor
open Go.RowKit
set_option linter.unusedVariables false
set_option linter.unusedSimpArgs false

/-- A slice (of elements of type e, one cell each) of slices of numbers, each in a block of its own. -/
structure RowsAt (e : TypeId) (w : World) (base : Nat) (v : Value) (L : List (List Int)) (vs : List Value) (gs : List Nat) : Prop where
  own : w.ownsRow base e 1 v L.length vs
  ngs : gs.length = L.length
  each : ∀ (i : Nat) (u : Value) (g : Nat) (l : List Int), vs[i]? = some u → gs[i]? = some g → L[i]? = some l → OwnZ w base u l ∧ u.ownBlock = some g
  apart : gs.Pairwise (· < ·)
  old : ∀ g ∈ gs, g < w.heap.size
def RowsZ (e : TypeId) (w : World) (base : Nat) (v : Value) (L : List (List Int)) : Prop := ∃ vs gs, RowsAt e w base v L vs gs
theorem RowsAt.len {e : TypeId} {w : World} {base : Nat} {v : Value} {L : List (List Int)} {vs : List Value} {gs : List Nat} (h : RowsAt e w base v L vs gs) : vs.length = L.length := by
  have := h.own.1; omega
theorem RowsZ.nil (e : TypeId) (w : World) (base : Nat) : RowsZ e w base (.slice none 0 0) [] :=
  ⟨[], [], World.ownsRow_nil _ _ _ _, rfl, fun i u g l h => by simp at h, List.Pairwise.nil, fun g h => by cases h⟩
theorem RowsAt.kept {e : TypeId} {w w' : World} {base : Nat} {v : Value} {L : List (List Int)} {vs : List Value} {gs : List Nat} (h : RowsAt e w base v L vs gs) (k : Kept w w') : RowsAt e w' base v L vs gs := by
  refine ⟨?_, h.ngs, fun i u g l h1 h2 h3 => ?_, h.apart, fun g hg => Nat.lt_of_lt_of_le (h.old g hg) k.size⟩
  · obtain ⟨h1, h2⟩ := h.own
    refine ⟨h1, ?_⟩
    rcases h2 with h2 | ⟨b, cap, cur, e1, e2, e3, e4⟩
    · exact .inl h2
    · exact .inr ⟨b, cap, cur, e1, e2, k.heap e3, e4⟩
  · obtain ⟨a, b⟩ := h.each i u g l h1 h2 h3
    exact ⟨a.kept k, b⟩
theorem RowsZ.kept {e : TypeId} {w w' : World} {base : Nat} {v : Value} {L : List (List Int)} (h : RowsZ e w base v L) (k : Kept w w') : RowsZ e w' base v L := by
  obtain ⟨vs, gs, h⟩ := h
  exact ⟨vs, gs, h.kept k⟩
theorem RowsZ.slice {e : TypeId} {w : World} {base : Nat} {v : Value} {L : List (List Int)} (h : RowsZ e w base v L) : ∃ a cap, v = .slice a L.length cap := by
  obtain ⟨vs, gs, h⟩ := h
  rcases h.own.2 with ⟨e, h0⟩ | ⟨g, cap, cur, e, _⟩
  · exact ⟨none, 0, by rw [e, h0]⟩
  · exact ⟨_, _, e⟩
theorem RowsZ.low {e : TypeId} {w : World} {base b : Nat} {v : Value} {L : List (List Int)} (h : RowsZ e w base v L) (hb : b ≤ base) : RowsZ e w b v L := by
  obtain ⟨vs, gs, h⟩ := h
  refine ⟨vs, gs, ?_, h.ngs, fun i u g l h1 h2 h3 => ?_, h.apart, h.old⟩
  · obtain ⟨h1, h2⟩ := h.own
    refine ⟨h1, ?_⟩
    rcases h2 with h2 | ⟨g, cap, cur, e1, e2, e3⟩
    · exact .inl h2
    · exact .inr ⟨g, cap, cur, e1, by omega, e3⟩
  · obtain ⟨a, b⟩ := h.each i u g l h1 h2 h3
    exact ⟨a.low hb, b⟩
theorem OwnZ.blk {w : World} {base : Nat} {v : Value} {l : List Int} (h : OwnZ w base v l) (hl : 0 < l.length) :
    ∃ g cap cur, v = .slice (some ⟨g, 0, none⟩) l.length cap ∧ base ≤ g ∧ w.heap[g]? = some (.cells cur 3 (0, 0)) ∧ l.length ≤ cap ∧ cap ≤ maxLen ∧ cur.size = cap * 1 ∧ cur.toList.take (l.length * 1) = zl l := by
  rcases h.2 with ⟨e, h0⟩ | h
  · omega
  · exact h
theorem OwnZ.take {w : World} {base : Nat} {a : Option Addr} {n cap : Nat} {l : List Int} (h : OwnZ w base (.slice a n cap) l) (k : Nat) (hk : k ≤ l.length) : OwnZ w base (.slice a k cap) (l.take k) := by
  have hlen : (l.take k).length = k := by rw [List.length_take]; omega
  refine ⟨by simp [zl], ?_⟩
  rcases h.2 with ⟨e, h0⟩ | ⟨g, cap', cur, e, hb, hh, hnc, hcm, hcs, ht⟩
  · injection e with e1 e2 e3
    exact .inl ⟨by rw [e1, e3, show k = 0 by omega], by omega⟩
  · injection e with e1 e2 e3
    subst e1 e3
    refine .inr ⟨g, cap, cur, by rw [hlen], hb, hh, by omega, hcm, hcs, ?_⟩
    rw [hlen]
    have : cur.toList.take (k * 1) = (cur.toList.take (l.length * 1)).take k := by rw [List.take_take]; congr 1; omega
    rw [this, ht]
    simp [zl]
/-- One slice more, behind the others: 'append(v, u)'. -/
theorem RowsAt.append {t e : TypeId} {i0 : TypeInfo} {z : Value} (ht : Tryz.prog.underlying t = some (.slice e)) (hi : Tryz.prog.info? e = some i0) (hz : i0.zero = some z) (h1 : i0.size = 1) (h24 : i0.bytes = 24) (hzs : z.cells.size = 1) (hne : e ≠ 3)
    {ops : Array Oper} {rest : List Oper} {o : Oper} {a : Act} {w1 w2 : World} {Q : Exit → Act → World → Prop} (hgd : o.guard = none) (s x : Operand)
    (ho : o.op = .call { callee := .builtin .append, args := #[s, x], argTypes := #[t, t] }) (base : Nat) (v u : Value) (L : List (List Int)) (l : List Int) (hs : a.eval s = v) (hx : a.eval x = .slice (some ⟨w2.heap.size, 0, none⟩) 1 1)
    (hR : RowsZ e w1 base v L) (k : Kept w1 w2) (hu : OwnZ w2 w1.heap.size u l) (hl : 0 < l.length) (hb : base ≤ w1.heap.size) (hlen : L.length ≤ 1000)
    (h : ∀ v' w', RowsZ e w' base v' (L ++ [l]) → (∀ A, Kept A w2 → A.heap.size ≤ base → Kept A w') → wpList Tryz.prog ops Q rest (a.put o.dst v') w') :
    wpList Tryz.prog ops Q (o :: rest) a (w2.alloc (.cells #[u] e)) := by
  obtain ⟨vs, gs, hR⟩ := hR
  obtain ⟨gu, cu, curu, eu, bu, hhu, _⟩ := hu.blk hl
  have h2 := hR.kept k
  have h3 := h2.kept ((Kept.refl w2).alloc (.cells #[u] e))
  refine wpList_append_own _ hgd s x t ho base e i0 z 1 24 ht hi hz h1 h24 hzs (by decide) v _ _ hs h3.own ⟨w2.heap.size, 0, none⟩ 1 1 [u] hx rfl ?_ ?_ ?_ ?_ ?_ ?_
  · intro j y hy
    match j, hy with
    | 0, hy =>
      simp at hy; subst hy
      rw [show (⟨w2.heap.size, 0, none⟩ : Addr).add 0 = ⟨w2.heap.size, 0, none⟩ by unfold Addr.add; split <;> simp_all]
      rw [cell_of_row _ _ 0 _ _ (0, 0) (heap_alloc_new w2 _)]
      rfl
  · intro y hy
    simp at hy; subst hy
    rw [eu]; rfl
  · unfold maxLen; omega
  · omega
  · simp; have := k.size; omega
  · intro v' w' ho' hg _
    -- blocks of numbers are no block of e
    have hblk : ∀ (g : Nat) (c : Array Value), w2.heap[g]? = some (.cells c 3 (0, 0)) → w'.heap[g]? = w2.heap[g]? := by
      intro g c hc
      have hlt := lt_of_heap hc
      rw [hg.block g (by simp; omega) ?_, Below.heap_alloc _ _ _ hlt]
      intro hv
      rcases h2.own.2 with ⟨ev, _⟩ | ⟨b, cap, cur, ev, _, e3, _⟩
      · rw [ev] at hv; simp [Value.ownBlock] at hv
      · rw [ev] at hv
        simp [Value.ownBlock] at hv
        subst hv
        rw [hc] at e3
        simp at e3
        exact hne e3.2.symm
    have hsz : w2.heap.size ≤ w'.heap.size := by have := hg.size; simp at this; omega
    refine h v' w' ⟨vs ++ [u], gs ++ [gu], by simpa using ho', by simp [hR.ngs], ?_, ?_, ?_⟩ ?_
    · intro i y g m hy hgi hm
      by_cases hi : i < L.length
      · have hnv := hR.len
        have hng := hR.ngs
        rw [List.getElem?_append_left (by omega)] at hy hgi hm
        obtain ⟨q1, q2⟩ := h2.each i y g m hy hgi hm
        refine ⟨?_, q2⟩
        obtain ⟨r1, r2⟩ := q1
        refine ⟨r1, ?_⟩
        rcases r2 with r2 | ⟨b, cap, cur, e1, e2, e3, e4⟩
        · exact .inl r2
        · exact .inr ⟨b, cap, cur, e1, e2, (hblk b cur e3).trans e3, e4⟩
      · have hil : i = L.length := by
          obtain ⟨hi', _⟩ := List.getElem?_eq_some_iff.1 hm
          simp at hi'; omega
        have hnv := hR.len
        have hng := hR.ngs
        subst hil
        rw [List.getElem?_append_right (by omega)] at hy hgi hm
        simp [hnv, hng] at hy hgi hm
        subst hy hgi hm
        refine ⟨?_, by rw [eu]; rfl⟩
        obtain ⟨r1, r2⟩ := hu.low hb
        refine ⟨r1, ?_⟩
        rcases r2 with r2 | ⟨b, cap, cur, e1, e2, e3, e4⟩
        · exact .inl r2
        · exact .inr ⟨b, cap, cur, e1, e2, (hblk b cur e3).trans e3, e4⟩
    · rw [List.pairwise_append]
      refine ⟨hR.apart, List.pairwise_singleton _ _, fun g hg' b hb' => ?_⟩
      simp at hb'
      subst hb'
      have := hR.old g hg'
      omega
    · intro g hg'
      rcases List.mem_append.1 hg' with hg' | hg'
      · have := hR.old g hg'; have := k.size; omega
      · simp at hg'; subst hg'
        have := lt_of_heap hhu; omega
    · intro A hA hAb
      refine (hA.alloc (.cells #[u] e)).grownBy hg (fun b hbv => ?_)
      have := (World.ownsRow.lt h3.own b hbv).1
      omega
theorem infoRow : (Tryz.prog.info? 93).map (fun i => (i.zero, i.size, i.bytes)) = some (some (.slice none 0 0), 1, 24) := by kernel_rfl
theorem Tab.at_ {w : World} {g : Nat} (h : Tab w g) (way s : Nat) (hw : way < 16) (hs : s < 64) : ∃ u gA, w.cell? ⟨g, way * 64 + s, none⟩ = some u ∧ LsZ w gA u (alongL way (s : Int)) := by
  obtain ⟨gA, h⟩ := h
  obtain ⟨u, h1, h2⟩ := h (way * 64 + s) (by omega)
  rw [listAt_way way s hs] at h2
  exact ⟨u, gA, h1, h2⟩
/-- New rays are told. -/
def NewR (e : TypeId) (w : World) (L : List (List Int)) (E : Ending) (w' : World) : Prop := ∃ v, E = .returned v ∧ RowsZ e w' w.heap.size v L ∧ Kept w w'
theorem cutL_len (m : Int) (way : Nat) (s : Int) : (cutL m (alongL way s)).length ≤ 8 := by
  have := alongL_len way s
  unfold cutL
  split
  · exact this
  · rw [List.length_take]; omega
end Go.Proofs.YtkebpchhpidogaaGreatDoor
namespace Go.Proofs.YtkebpchhpidogaaGreatDoor
open Go.RowKit
set_option linter.unusedVariables false
set_option linter.unusedSimpArgs false

theorem run_head (gA off N cap m : Nat) (h : m ≤ cap) (w : World) :
    (Instr.sliceAt 93 (.slice (some ⟨gA, off, none⟩) N cap) none (some (.int .i64 (m : Int))) none).run Tryz.prog w = .ok (.slice (some ⟨gA, off, none⟩) m cap) w := by
  obtain ⟨i0, hi0, hz0, hz1, hz2⟩ := partsZ infoZ
  have ht := Tryz.underlying93
  have he : Tryz.prog.elem 93 = 3 := by kernel_rfl
  rw [run_sliceAt_slice w _ _ _ _ _ (by rw [he]; exact ht), run_slice_h w _ _ _ _ (by rw [he]; exact ht) _ _ (by omega) (by omega), he]
  simp [sizeOf, typeInfo, hi0, hz1, sliced, Addr.add]
/-- The document's steps, as numbers. -/
def stZ (m : Int) : List Int := (stepsL m).flatMap fun p => [p.1, p.2]
theorem flat_len : ∀ P : List (Int × Int), (P.flatMap fun p => [p.1, p.2]).length = 2 * P.length
  | [] => rfl
  | p :: P => by rw [List.flatMap_cons, List.length_append, flat_len P, List.length_cons]; simp; omega
theorem flat_at : ∀ (P : List (Int × Int)) (j : Nat) (p : Int × Int), P[j]? = some p → (P.flatMap fun p => [p.1, p.2])[2 * j]? = some p.1 ∧ (P.flatMap fun p => [p.1, p.2])[2 * j + 1]? = some p.2
  | [], j, p, h => by simp at h
  | q :: P, 0, p, h => by simp at h; subst h; simp
  | q :: P, j + 1, p, h => by
    rw [List.getElem?_cons_succ] at h
    have := flat_at P j p h
    rw [List.flatMap_cons]
    rw [show 2 * (j + 1) = 2 * j + 2 by omega, show 2 * j + 2 + 1 = (2 * j + 1) + 2 by omega]
    simpa using this
theorem stZ_len (m : Int) : (stZ m).length = 2 * (stepsL m).length := flat_len _
theorem stepsL_len (m : Int) : (stepsL m).length ≤ 8 := by
  unfold stepsL
  repeat' split
  all_goals simp
def straightZ : List Int := [0, 1, 1, 0, 0, -1, -1, 0]
def slantZ : List Int := [1, 1, 1, -1, -1, -1, -1, 1]
end Go.Proofs.YtkebpchhpidogaaGreatDoor
namespace Go.Proofs.YtkebpchhpidogaaGreatDoor
open Go.RowKit
set_option linter.unusedVariables false
set_option linter.unusedSimpArgs false

theorem ofR_snoc (m s : Int) (P : List (Int × Int)) (p : Int × Int) : ofR m s (P ++ [p]) = ofR m s P ++ oneL (cutL m (rayL s p.1 p.2)) := by
  unfold ofR; simp
theorem ofR_len (m s : Int) : ∀ P : List (Int × Int), (ofR m s P).length ≤ P.length
  | [] => Nat.le_refl _
  | p :: P => by
    have := ofR_len m s P
    unfold ofR at this ⊢
    rw [List.flatMap_cons, List.length_append, List.length_cons]
    have h1 : (oneL (cutL m (rayL s p.1 p.2))).length ≤ 1 := by unfold oneL; split <;> simp
    omega
theorem take_snoc_at {α : Type} (P : List α) (j : Nat) (p : α) (h : P[j]? = some p) : P.take (j + 1) = P.take j ++ [p] := by
  obtain ⟨hj, e⟩ := List.getElem?_eq_some_iff.1 h
  rw [List.take_succ_eq_append_getElem hj, e]
theorem cut_yes {m : Int} {l : List Int} (h : slidesB m = true) : cutL m l = l := by unfold cutL; rw [h]; simp
theorem cut_no {m : Int} {l : List Int} (h : slidesB m = false) : cutL m l = l.take 1 := by unfold cutL; rw [h]; simp
theorem cut_short {m : Int} {l : List Int} (h : l.length ≤ 1) : cutL m l = l := by
  unfold cutL
  split
  · rfl
  · exact List.take_of_length_le h
theorem RowsZ.read {e : TypeId} {w : World} {base : Nat} {v : Value} {L : List (List Int)} (h : RowsZ e w base v L) (hL : 0 < L.length) :
    ∃ go cap, v = .slice (some ⟨go, 0, none⟩) L.length cap ∧ L.length ≤ cap ∧ cap ≤ maxLen ∧ ∀ (i : Nat) (l : List Int), L[i]? = some l → ∃ u g, w.cell? ⟨go, i, none⟩ = some u ∧ LsZ w g u l ∧ (0 < l.length → base ≤ g ∧ g < w.heap.size) := by
  obtain ⟨vs, gs, h⟩ := h
  have hnv := h.len
  have hng := h.ngs
  rcases h.own.2 with ⟨ev, h0⟩ | ⟨go, cap, cur, ev, hb, hh, hnc, hcm, hcs, ht⟩
  · omega
  · refine ⟨go, cap, ev, hnc, hcm, fun i l hl => ?_⟩
    obtain ⟨hi, _⟩ := List.getElem?_eq_some_iff.1 hl
    obtain ⟨u, hu⟩ : ∃ u, vs[i]? = some u := ⟨_, List.getElem?_eq_getElem (by omega)⟩
    obtain ⟨gg, hg⟩ : ∃ g, gs[i]? = some g := ⟨_, List.getElem?_eq_getElem (by omega)⟩
    obtain ⟨q1, _⟩ := h.each i u gg l hu hg hl
    obtain ⟨g, q2, q3⟩ := q1.ls
    refine ⟨u, g, ?_, q2, q3⟩
    rw [cell_of_row w go i cur _ (0, 0) hh]
    have h2 : (cur.toList.take (L.length * 1))[i]? = vs[i]? := by rw [ht]
    rw [List.getElem?_take, if_pos (by omega)] at h2
    simp only [Array.getElem?_toList] at h2
    rw [h2, hu]
theorem ofL_pos {m s : Int} {l : List Int} (h : l ∈ ofL m s) : 0 < l.length ∧ l.length ≤ 8 := by
  unfold ofL ofN at h
  obtain ⟨w, _, hw⟩ := List.mem_flatMap.1 h
  unfold oneL at hw
  split at hw
  · cases hw
  · simp at hw
    subst hw
    exact ⟨by omega, cutL_len m w s⟩
theorem ofL_len (m s : Int) : (ofL m s).length ≤ 16 := ofN_len m s 16
theorem lineIn_drop (L : List (List Int)) (b : Int) (i : Nat) (l : List Int) (h : L[i]? = some l) : lineIn (L.drop i) b = if l.contains b then l.take (l.idxOf b) else lineIn (L.drop (i + 1)) b := by
  obtain ⟨hi, e⟩ := List.getElem?_eq_some_iff.1 h
  rw [List.drop_eq_getElem_cons hi, e]
  unfold lineIn
  rw [List.find?_cons]
  cases hc : l.contains b <;> simp [hc]
end Go.Proofs.YtkebpchhpidogaaGreatDoor
namespace Go.Proofs.YtkebpchhpidogaaGreatDoor
open Go.RowKit
set_option linter.unusedVariables false
set_option linter.unusedSimpArgs false

theorem ofL_mem {m s : Int} {l : List Int} (h : l ∈ ofL m s) {x : Int} (hx : x ∈ l) : 0 ≤ x ∧ x < 64 := by
  unfold ofL ofN at h
  obtain ⟨way, _, hl⟩ := List.mem_flatMap.1 h
  unfold oneL at hl
  split at hl
  · cases hl
  · rw [List.mem_singleton] at hl
    subst hl
    unfold cutL at hx
    split at hx
    · exact alongL_mem hx
    · exact alongL_mem (List.mem_of_mem_take hx)
theorem hit_found {B : List Int} {s tq : Int} {i k : Nat} {l : List Int} (hl : (ofL (bAt B s) s)[i]? = some l) (hk : l[k]? = some tq) (hc : ∀ j, j < k → ∀ y, l[j]? = some y → bAt B y = 0) : hitB B s tq = true := by
  rw [hitB_iff]
  unfold strikeL
  rw [List.mem_flatMap]
  exact ⟨l, List.mem_of_getElem? hl, (mem_upto B tq l).2 ⟨k, hk, hc⟩⟩
theorem hit_none {B : List Int} {s tq : Int} (h : ∀ (i : Nat) (l : List Int), (ofL (bAt B s) s)[i]? = some l → tq ∉ uptoL B l) : hitB B s tq = false := by
  rw [Bool.eq_false_iff]
  intro hc
  rw [hitB_iff] at hc
  unfold strikeL at hc
  obtain ⟨l, hl, hx⟩ := List.mem_flatMap.1 hc
  obtain ⟨i, hi, e⟩ := List.mem_iff_getElem.1 hl
  exact h i l (by rw [List.getElem?_eq_getElem hi, e]) hx
theorem upto_end {B : List Int} {tq : Int} {l : List Int} (h : ∀ j, j < l.length → l[j]? ≠ some tq) : tq ∉ uptoL B l := by
  rw [mem_upto]
  rintro ⟨i, hi, _⟩
  obtain ⟨hlt, _⟩ := List.getElem?_eq_some_iff.1 hi
  exact h i hlt hi
theorem upto_stop {B : List Int} {tq y : Int} {l : List Int} {k : Nat} (h : ∀ j, j < k → l[j]? ≠ some tq) (hy : l[k]? = some y) (hne : y ≠ tq) (hb : bAt B y ≠ 0) : tq ∉ uptoL B l := by
  rw [mem_upto]
  rintro ⟨i, hi, hc⟩
  by_cases h1 : i < k
  · exact h i h1 hi
  · by_cases h2 : i = k
    · subst h2; rw [hy] at hi; exact hne (Option.some.inj hi)
    · exact hb (hc k (by omega) y hy)
end Go.Proofs.YtkebpchhpidogaaGreatDoor
