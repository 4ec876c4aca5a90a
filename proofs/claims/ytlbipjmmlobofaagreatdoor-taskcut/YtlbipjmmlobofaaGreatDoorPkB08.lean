/- Slices of slices of numbers; Of and Line · Of whatever is asked; Line. The document's steps · The document's Of and Line · The document's Hits, Strikes and By. -/
import Derived.Test.YtlbipjmmlobofaaGreatDoorPkB07
namespace Go.Proofs.YtlbipjmmlobofaaGreatDoor
open Go.RowKit
set_option linter.unusedVariables false
set_option linter.unusedSimpArgs false

/-- A slice (of elements of type e, one cell each) of slices of numbers, each in a block of its own. -/
structure RowsAt (e : TypeId) (w : World) (base : Nat) (v : Value) (L : List (List Int)) (vs : List Value) (gs : List Nat) : Prop where
  own : w.ownsRow base e 1 v L.length vs
  ngs : gs.length = L.length
  each : ∀ (i : Nat) (u : Value) (g : Nat) (l : List Int), vs[i]? = some u → gs[i]? = some g → L[i]? = some l → OwnZ w base u l ∧ u.ownBlock = some g
  apart : gs.Pairwise (· < ·)
  old : ∀ g ∈ gs, g < w.heap.size
def RowsZ (e : TypeId) (w : World) (base : Nat) (v : Value) (L : List (List Int)) : Prop := ∃ vs gs, RowsAt e w base v L vs gs
theorem RowsAt.len {e : TypeId} {w : World} {base : Nat} {v : Value} {L : List (List Int)} {vs : List Value} {gs : List Nat} (h : RowsAt e w base v L vs gs) : vs.length = L.length := by
  have := h.own.1; omega
theorem RowsZ.nil (e : TypeId) (w : World) (base : Nat) : RowsZ e w base (.slice none 0 0) [] :=
  ⟨[], [], World.ownsRow_nil _ _ _ _, rfl, fun i u g l h => by simp at h, List.Pairwise.nil, fun g h => by cases h⟩
theorem RowsAt.kept {e : TypeId} {w w' : World} {base : Nat} {v : Value} {L : List (List Int)} {vs : List Value} {gs : List Nat} (h : RowsAt e w base v L vs gs) (k : Kept w w') : RowsAt e w' base v L vs gs := by
  refine ⟨?_, h.ngs, fun i u g l h1 h2 h3 => ?_, h.apart, fun g hg => Nat.lt_of_lt_of_le (h.old g hg) k.size⟩
  · obtain ⟨h1, h2⟩ := h.own
    refine ⟨h1, ?_⟩
    rcases h2 with h2 | ⟨b, cap, cur, e1, e2, e3, e4⟩
    · exact .inl h2
    · exact .inr ⟨b, cap, cur, e1, e2, k.heap e3, e4⟩
  · obtain ⟨a, b⟩ := h.each i u g l h1 h2 h3
    exact ⟨a.kept k, b⟩
theorem RowsZ.kept {e : TypeId} {w w' : World} {base : Nat} {v : Value} {L : List (List Int)} (h : RowsZ e w base v L) (k : Kept w w') : RowsZ e w' base v L := by
  obtain ⟨vs, gs, h⟩ := h
  exact ⟨vs, gs, h.kept k⟩
theorem RowsZ.slice {e : TypeId} {w : World} {base : Nat} {v : Value} {L : List (List Int)} (h : RowsZ e w base v L) : ∃ a cap, v = .slice a L.length cap := by
  obtain ⟨vs, gs, h⟩ := h
  rcases h.own.2 with ⟨e, h0⟩ | ⟨g, cap, cur, e, _⟩
  · exact ⟨none, 0, by rw [e, h0]⟩
  · exact ⟨_, _, e⟩
theorem RowsZ.low {e : TypeId} {w : World} {base b : Nat} {v : Value} {L : List (List Int)} (h : RowsZ e w base v L) (hb : b ≤ base) : RowsZ e w b v L := by
  obtain ⟨vs, gs, h⟩ := h
  refine ⟨vs, gs, ?_, h.ngs, fun i u g l h1 h2 h3 => ?_, h.apart, h.old⟩
  · obtain ⟨h1, h2⟩ := h.own
    refine ⟨h1, ?_⟩
    rcases h2 with h2 | ⟨g, cap, cur, e1, e2, e3⟩
    · exact .inl h2
    · exact .inr ⟨g, cap, cur, e1, by omega, e3⟩
  · obtain ⟨a, b⟩ := h.each i u g l h1 h2 h3
    exact ⟨a.low hb, b⟩
theorem OwnZ.blk {w : World} {base : Nat} {v : Value} {l : List Int} (h : OwnZ w base v l) (hl : 0 < l.length) :
    ∃ g cap cur, v = .slice (some ⟨g, 0, none⟩) l.length cap ∧ base ≤ g ∧ w.heap[g]? = some (.cells cur 3 (0, 0)) ∧ l.length ≤ cap ∧ cap ≤ maxLen ∧ cur.size = cap * 1 ∧ cur.toList.take (l.length * 1) = zl l := by
  rcases h.2 with ⟨e, h0⟩ | h
  · omega
  · exact h
theorem OwnZ.take {w : World} {base : Nat} {a : Option Addr} {n cap : Nat} {l : List Int} (h : OwnZ w base (.slice a n cap) l) (k : Nat) (hk : k ≤ l.length) : OwnZ w base (.slice a k cap) (l.take k) := by
  have hlen : (l.take k).length = k := by rw [List.length_take]; omega
  refine ⟨by simp [zl], ?_⟩
  rcases h.2 with ⟨e, h0⟩ | ⟨g, cap', cur, e, hb, hh, hnc, hcm, hcs, ht⟩
  · injection e with e1 e2 e3
    exact .inl ⟨by rw [e1, e3, show k = 0 by omega], by omega⟩
  · injection e with e1 e2 e3
    subst e1 e3
    refine .inr ⟨g, cap, cur, by rw [hlen], hb, hh, by omega, hcm, hcs, ?_⟩
    rw [hlen]
    have : cur.toList.take (k * 1) = (cur.toList.take (l.length * 1)).take k := by rw [List.take_take]; congr 1; omega
    rw [this, ht]
    simp [zl]
/-- One slice more, behind the others: 'append(v, u)'. -/
theorem RowsAt.append {t e : TypeId} {i0 : TypeInfo} {z : Value} (ht : Tryz.prog.underlying t = some (.slice e)) (hi : Tryz.prog.info? e = some i0) (hz : i0.zero = some z) (h1 : i0.size = 1) (h24 : i0.bytes = 24) (hzs : z.cells.size = 1) (hne : e ≠ 3)
    {ops : Array Oper} {rest : List Oper} {o : Oper} {a : Act} {w1 w2 : World} {Q : Exit → Act → World → Prop} (hgd : o.guard = none) (s x : Operand)
    (ho : o.op = .call { callee := .builtin .append, args := #[s, x], argTypes := #[t, t] }) (base : Nat) (v u : Value) (L : List (List Int)) (l : List Int) (hs : a.eval s = v) (hx : a.eval x = .slice (some ⟨w2.heap.size, 0, none⟩) 1 1)
    (hR : RowsZ e w1 base v L) (k : Kept w1 w2) (hu : OwnZ w2 w1.heap.size u l) (hl : 0 < l.length) (hb : base ≤ w1.heap.size) (hlen : L.length ≤ 1000)
    (h : ∀ v' w', RowsZ e w' base v' (L ++ [l]) → (∀ A, Kept A w2 → A.heap.size ≤ base → Kept A w') → wpList Tryz.prog ops Q rest (a.put o.dst v') w') :
    wpList Tryz.prog ops Q (o :: rest) a (w2.alloc (.cells #[u] e)) := by
  obtain ⟨vs, gs, hR⟩ := hR
  obtain ⟨gu, cu, curu, eu, bu, hhu, _⟩ := hu.blk hl
  have h2 := hR.kept k
  have h3 := h2.kept ((Kept.refl w2).alloc (.cells #[u] e))
  refine wpList_append_own _ hgd s x t ho base e i0 z 1 24 ht hi hz h1 h24 hzs (by decide) v _ _ hs h3.own ⟨w2.heap.size, 0, none⟩ 1 1 [u] hx rfl ?_ ?_ ?_ ?_ ?_ ?_
  · intro j y hy
    match j, hy with
    | 0, hy =>
      simp at hy; subst hy
      rw [show (⟨w2.heap.size, 0, none⟩ : Addr).add 0 = ⟨w2.heap.size, 0, none⟩ by unfold Addr.add; split <;> simp_all]
      rw [cell_of_row _ _ 0 _ _ (0, 0) (heap_alloc_new w2 _)]
      rfl
  · intro y hy
    simp at hy; subst hy
    rw [eu]; rfl
  · unfold maxLen; omega
  · omega
  · simp; have := k.size; omega
  · intro v' w' ho' hg _
    -- blocks of numbers are no block of e
    have hblk : ∀ (g : Nat) (c : Array Value), w2.heap[g]? = some (.cells c 3 (0, 0)) → w'.heap[g]? = w2.heap[g]? := by
      intro g c hc
      have hlt := lt_of_heap hc
      rw [hg.block g (by simp; omega) ?_, Below.heap_alloc _ _ _ hlt]
      intro hv
      rcases h2.own.2 with ⟨ev, _⟩ | ⟨b, cap, cur, ev, _, e3, _⟩
      · rw [ev] at hv; simp [Value.ownBlock] at hv
      · rw [ev] at hv
        simp [Value.ownBlock] at hv
        subst hv
        rw [hc] at e3
        simp at e3
        exact hne e3.2.symm
    have hsz : w2.heap.size ≤ w'.heap.size := by have := hg.size; simp at this; omega
    refine h v' w' ⟨vs ++ [u], gs ++ [gu], by simpa using ho', by simp [hR.ngs], ?_, ?_, ?_⟩ ?_
    · intro i y g m hy hgi hm
      by_cases hi : i < L.length
      · have hnv := hR.len
        have hng := hR.ngs
        rw [List.getElem?_append_left (by omega)] at hy hgi hm
        obtain ⟨q1, q2⟩ := h2.each i y g m hy hgi hm
        refine ⟨?_, q2⟩
        obtain ⟨r1, r2⟩ := q1
        refine ⟨r1, ?_⟩
        rcases r2 with r2 | ⟨b, cap, cur, e1, e2, e3, e4⟩
        · exact .inl r2
        · exact .inr ⟨b, cap, cur, e1, e2, (hblk b cur e3).trans e3, e4⟩
      · have hil : i = L.length := by
          obtain ⟨hi', _⟩ := List.getElem?_eq_some_iff.1 hm
          simp at hi'; omega
        have hnv := hR.len
        have hng := hR.ngs
        subst hil
        rw [List.getElem?_append_right (by omega)] at hy hgi hm
        simp [hnv, hng] at hy hgi hm
        subst hy hgi hm
        refine ⟨?_, by rw [eu]; rfl⟩
        obtain ⟨r1, r2⟩ := hu.low hb
        refine ⟨r1, ?_⟩
        rcases r2 with r2 | ⟨b, cap, cur, e1, e2, e3, e4⟩
        · exact .inl r2
        · exact .inr ⟨b, cap, cur, e1, e2, (hblk b cur e3).trans e3, e4⟩
    · rw [List.pairwise_append]
      refine ⟨hR.apart, List.pairwise_singleton _ _, fun g hg' b hb' => ?_⟩
      simp at hb'
      subst hb'
      have := hR.old g hg'
      omega
    · intro g hg'
      rcases List.mem_append.1 hg' with hg' | hg'
      · have := hR.old g hg'; have := k.size; omega
      · simp at hg'; subst hg'
        have := lt_of_heap hhu; omega
    · intro A hA hAb
      refine (hA.alloc (.cells #[u] e)).grownBy hg (fun b hbv => ?_)
      have := (World.ownsRow.lt h3.own b hbv).1
      omega
theorem infoRow : (Tryz.prog.info? 71).map (fun i => (i.zero, i.size, i.bytes)) = some (some (.slice none 0 0), 1, 24) := by kernel_rfl
theorem Tab.at_ {w : World} {g : Nat} (h : Tab w g) (way s : Nat) (hw : way < 16) (hs : s < 64) : ∃ u gA, w.cell? ⟨g, way * 64 + s, none⟩ = some u ∧ LsZ w gA u (alongL way (s : Int)) := by
  obtain ⟨gA, h⟩ := h
  obtain ⟨u, h1, h2⟩ := h (way * 64 + s) (by omega)
  rw [listAt_way way s hs] at h2
  exact ⟨u, gA, h1, h2⟩
/-- New rays are told. -/
def NewR (e : TypeId) (w : World) (L : List (List Int)) (E : Ending) (w' : World) : Prop := ∃ v, E = .returned v ∧ RowsZ e w' w.heap.size v L ∧ Kept w w'
theorem cutL_len (m : Int) (way : Nat) (s : Int) : (cutL m (alongL way s)).length ≤ 8 := by
  have := alongL_len way s
  unfold cutL
  split
  · exact this
  · rw [List.length_take]; omega
end Go.Proofs.YtlbipjmmlobofaaGreatDoor
namespace Go.Proofs.YtlbipjmmlobofaaGreatDoor
open Go.RowKit
set_option linter.unusedVariables false
set_option linter.unusedSimpArgs false

theorem run_head (gA off N cap m : Nat) (h : m ≤ cap) (w : World) :
    (Instr.sliceAt 71 (.slice (some ⟨gA, off, none⟩) N cap) none (some (.int .i64 (m : Int))) none).run Tryz.prog w = .ok (.slice (some ⟨gA, off, none⟩) m cap) w := by
  obtain ⟨i0, hi0, hz0, hz1, hz2⟩ := partsZ infoZ
  have ht := Tryz.underlying71
  have he : Tryz.prog.elem 71 = 3 := by kernel_rfl
  rw [run_sliceAt_slice w _ _ _ _ _ (by rw [he]; exact ht), run_slice_h w _ _ _ _ (by rw [he]; exact ht) _ _ (by omega) (by omega), he]
  simp [sizeOf, typeInfo, hi0, hz1, sliced, Addr.add]
/-- The document's steps, as numbers. -/
def stZ (m : Int) : List Int := (stepsL m).flatMap fun p => [p.1, p.2]
theorem flat_len : ∀ P : List (Int × Int), (P.flatMap fun p => [p.1, p.2]).length = 2 * P.length
  | [] => rfl
  | p :: P => by rw [List.flatMap_cons, List.length_append, flat_len P, List.length_cons]; simp; omega
theorem flat_at : ∀ (P : List (Int × Int)) (j : Nat) (p : Int × Int), P[j]? = some p → (P.flatMap fun p => [p.1, p.2])[2 * j]? = some p.1 ∧ (P.flatMap fun p => [p.1, p.2])[2 * j + 1]? = some p.2
  | [], j, p, h => by simp at h
  | q :: P, 0, p, h => by simp at h; subst h; simp
  | q :: P, j + 1, p, h => by
    rw [List.getElem?_cons_succ] at h
    have := flat_at P j p h
    rw [List.flatMap_cons]
    rw [show 2 * (j + 1) = 2 * j + 2 by omega, show 2 * j + 2 + 1 = (2 * j + 1) + 2 by omega]
    simpa using this
theorem stZ_len (m : Int) : (stZ m).length = 2 * (stepsL m).length := flat_len _
theorem stepsL_len (m : Int) : (stepsL m).length ≤ 8 := by
  unfold stepsL
  repeat' split
  all_goals simp
def straightZ : List Int := [0, 1, 1, 0, 0, -1, -1, 0]
def slantZ : List Int := [1, 1, 1, -1, -1, -1, -1, 1]
set_option maxHeartbeats 1000000 in
theorem rsteps_is (m : Int) (w : World) : Calls Tryz.prog 160 #[.int .i64 m] w (NewZ w (stZ m)) := by
  have hk := Lib.hid (rknd_any m)
  have hq := knd_is m
  have hp := @knd_pawn m
  have e : stZ m = (if knd m = 1 then [1, m, -1, m] else if knd m = 2 then [1, 2, 2, 1, 2, -1, 1, -2, -1, -2, -2, -1, -2, 1, -1, 2] else if knd m = 3 then slantZ else if knd m = 4 then straightZ else if knd m = 0 then [] else straightZ ++ slantZ) := by
    unfold stZ stepsL
    repeat' split
    all_goals first | rfl | simp_all
  generalize stZ m = Z at *
  generalize knd m = q at *
  have H1 := Lib.hid (LsZ.lit w straightZ (by decide))
  have H2 := Lib.hid (LsZ.lit (w.alloc (.cells (zl straightZ).toArray 3)) slantZ (by decide))
  obtain ⟨W, eW⟩ : ∃ W, W = (w.alloc (.cells (zl straightZ).toArray 3)).alloc (.cells (zl slantZ).toArray 3) := ⟨_, rfl⟩
  have HW : Hid (W = (w.alloc (.cells #[.int .i64 0, .int .i64 1, .int .i64 1, .int .i64 0, .int .i64 0, .int .i64 (-1), .int .i64 (-1), .int .i64 0] 3)).alloc (.cells #[.int .i64 1, .int .i64 1, .int .i64 1, .int .i64 (-1), .int .i64 (-1), .int .i64 (-1), .int .i64 (-1), .int .i64 1] 3)) := Lib.hid eW
  have HK := Lib.hid (show Kept w W by rw [eW]; exact ((Kept.refl w).alloc _).alloc _)
  have HA := Lib.hid (show LsZ W w.heap.size (.slice (some ⟨w.heap.size, 0, none⟩) 8 8) straightZ by rw [eW]; exact H1.out.kept ((Kept.refl _).alloc _))
  have HB := Lib.hid (show LsZ W (w.heap.size + 1) (.slice (some ⟨w.heap.size + 1, 0, none⟩) 8 8) slantZ by rw [eW]; have := H2.out; simpa [slantZ] using this)
  clear eW H1 H2
  rcases hq with rfl | rfl | rfl | rfl | rfl | rfl | rfl
  · have HE := Lib.hid (show Z = [] from e)
    clear e hp
    go_enter Tryz.func160, Tryz.ntmps160
    go_wp2_with fail
    refine (hk.out _).mono ?_
    rintro e w' ⟨rfl, rfl⟩
    rw [← HW.out]
    go_wp2
    go_ret
    exact ⟨_, rfl, by rw [HE.out]; exact OwnZ.nil _ _, HK.out⟩
  · have hk1 : (.cells #[.int .i64 1, .int .i64 m, .int .i64 (-1), .int .i64 m] 3 : Obj) = .cells (zl [1, m, -1, m]).toArray 3 := rfl
    have KK1 := (Kept.refl W).alloc (.cells (zl [1, m, -1, m]).toArray 3)
    clear hk1
    have HE := Lib.hid (show Z = [1, m, -1, m] from e)
    clear e hp
    go_enter Tryz.func160, Tryz.ntmps160
    go_wp2_with fail
    refine (hk.out _).mono ?_
    rintro e w' ⟨rfl, rfl⟩
    rw [← HW.out]
    go_wp2_with (at_builtin; refine wpList_append_z rfl _ _ rfl w.heap.size W.heap.size _ _ [] [1, m, -1, m] rfl rfl (OwnZ.nil _ _) (LsZ.lit _ [1, m, -1, m] (by simp)) ?c1 ?d1 ?_)
    case c1 => simp
    case d1 => (try simp); have := HK.out.size; omega
    intro v1 w1 hown1 hg1
    have K1 := (OwnZ.nil _ W.heap.size).grown (a := W) KK1 (Nat.le_refl _) hg1
    replace hown1 : OwnZ w1 w.heap.size v1 [1, m, -1, m] := hown1
    obtain ⟨a1, cap1, rfl⟩ := hown1.slice
    have HO1 := Lib.hid hown1
    have HK1 := Lib.hid K1
    clear hown1 hg1 K1
    go_wp2
    go_ret
    exact ⟨_, rfl, by rw [HE.out]; exact HO1.out, HK.out.trans HK1.out⟩
  · have KK1 := (Kept.refl W).alloc (.cells (zl [1, 2, 2, 1, 2, -1, 1, -2]).toArray 3)
    have HE := Lib.hid (show Z = [1, 2, 2, 1, 2, -1, 1, -2, -1, -2, -2, -1, -2, 1, -1, 2] from e)
    clear e hp
    go_enter Tryz.func160, Tryz.ntmps160
    go_wp2_with fail
    refine (hk.out _).mono ?_
    rintro e w' ⟨rfl, rfl⟩
    rw [← HW.out]
    go_wp2_with (at_builtin; refine wpList_append_z rfl _ _ rfl w.heap.size W.heap.size _ _ [] [1, 2, 2, 1, 2, -1, 1, -2] rfl rfl (OwnZ.nil _ _) (LsZ.lit _ [1, 2, 2, 1, 2, -1, 1, -2] (by simp)) ?c1 ?d1 ?_)
    case c1 => decide
    case d1 => (try simp); have := HK.out.size; omega
    intro v1 w1 hown1 hg1
    have K1 := (OwnZ.nil _ W.heap.size).grown (a := W) KK1 (Nat.le_refl _) hg1
    replace hown1 : OwnZ w1 w.heap.size v1 [1, 2, 2, 1, 2, -1, 1, -2] := hown1
    obtain ⟨a1, cap1, rfl⟩ := hown1.slice
    have HO1 := Lib.hid hown1
    have HK1 := Lib.hid K1
    clear hown1 hg1 K1
    have HA1 := Lib.hid (HO1.out.kept ((Kept.refl _).alloc (.cells (zl [-1, -2, -2, -1, -2, 1, -1, 2]).toArray 3)))
    have KK2 := HK1.out.alloc (.cells (zl [-1, -2, -2, -1, -2, 1, -1, 2]).toArray 3)
    go_wp2_with (at_builtin; refine wpList_append_z rfl _ _ rfl w.heap.size w1.heap.size _ _ [1, 2, 2, 1, 2, -1, 1, -2] [-1, -2, -2, -1, -2, 1, -1, 2] rfl rfl HA1.out (LsZ.lit _ [-1, -2, -2, -1, -2, 1, -1, 2] (by simp)) ?c2 ?d2 ?_)
    case c2 => decide
    case d2 => (try simp); have := HK.out.size; have := HK1.out.size; omega
    intro v2 w2 hown2 hg2
    have K2 := HA1.out.grown (a := w) (HK.out.trans KK2) (Nat.le_refl _) hg2
    obtain ⟨a2, cap2, rfl⟩ := hown2.slice
    have HO2 := Lib.hid hown2
    have HK2 := Lib.hid K2
    clear hown2 hg2 K2
    go_wp2
    go_ret
    exact ⟨_, rfl, by rw [HE.out]; exact HO2.out, HK2.out⟩
  · have KK1 := Kept.refl W
    have HE := Lib.hid (show Z = slantZ from e)
    clear e hp
    go_enter Tryz.func160, Tryz.ntmps160
    go_wp2_with fail
    refine (hk.out _).mono ?_
    rintro e w' ⟨rfl, rfl⟩
    rw [← HW.out]
    go_wp2_with (at_builtin; refine wpList_append_z rfl _ _ rfl w.heap.size (w.heap.size + 1) _ _ [] slantZ rfl rfl (OwnZ.nil _ _) HB.out ?c1 ?d1 ?_)
    case c1 => decide
    case d1 => (try simp); have := HK.out.size; omega
    intro v1 w1 hown1 hg1
    have K1 := (OwnZ.nil _ W.heap.size).grown (a := W) KK1 (Nat.le_refl _) hg1
    replace hown1 : OwnZ w1 w.heap.size v1 slantZ := hown1
    obtain ⟨a1, cap1, rfl⟩ := hown1.slice
    have HO1 := Lib.hid hown1
    have HK1 := Lib.hid K1
    clear hown1 hg1 K1
    go_wp2
    go_ret
    exact ⟨_, rfl, by rw [HE.out]; exact HO1.out, HK.out.trans HK1.out⟩
  · have KK1 := Kept.refl W
    have HE := Lib.hid (show Z = straightZ from e)
    clear e hp
    go_enter Tryz.func160, Tryz.ntmps160
    go_wp2_with fail
    refine (hk.out _).mono ?_
    rintro e w' ⟨rfl, rfl⟩
    rw [← HW.out]
    go_wp2_with (at_builtin; refine wpList_append_z rfl _ _ rfl w.heap.size w.heap.size _ _ [] straightZ rfl rfl (OwnZ.nil _ _) HA.out ?c1 ?d1 ?_)
    case c1 => decide
    case d1 => (try simp); have := HK.out.size; omega
    intro v1 w1 hown1 hg1
    have K1 := (OwnZ.nil _ W.heap.size).grown (a := W) KK1 (Nat.le_refl _) hg1
    replace hown1 : OwnZ w1 w.heap.size v1 straightZ := hown1
    obtain ⟨a1, cap1, rfl⟩ := hown1.slice
    have HO1 := Lib.hid hown1
    have HK1 := Lib.hid K1
    clear hown1 hg1 K1
    go_wp2
    go_ret
    exact ⟨_, rfl, by rw [HE.out]; exact HO1.out, HK.out.trans HK1.out⟩
  · have KK1 := Kept.refl W
    have HE := Lib.hid (show Z = straightZ ++ slantZ from e)
    clear e hp
    go_enter Tryz.func160, Tryz.ntmps160
    go_wp2_with fail
    refine (hk.out _).mono ?_
    rintro e w' ⟨rfl, rfl⟩
    rw [← HW.out]
    go_wp2_with (at_builtin; refine wpList_append_z rfl _ _ rfl w.heap.size w.heap.size _ _ [] straightZ rfl rfl (OwnZ.nil _ _) HA.out ?c1 ?d1 ?_)
    case c1 => decide
    case d1 => (try simp); have := HK.out.size; omega
    intro v1 w1 hown1 hg1
    have K1 := (OwnZ.nil _ W.heap.size).grown (a := W) KK1 (Nat.le_refl _) hg1
    replace hown1 : OwnZ w1 w.heap.size v1 straightZ := hown1
    obtain ⟨a1, cap1, rfl⟩ := hown1.slice
    have HO1 := Lib.hid hown1
    have HK1 := Lib.hid K1
    clear hown1 hg1 K1
    have HB1 := Lib.hid (HB.out.kept HK1.out)
    go_wp2_with (at_builtin; refine wpList_append_z rfl _ _ rfl w.heap.size (w.heap.size + 1) _ _ straightZ slantZ rfl rfl HO1.out HB1.out ?c2 ?d2 ?_)
    case c2 => decide
    case d2 => have := HK.out.size; have := HK1.out.size; omega
    intro v2 w2 hown2 hg2
    have K2 := HO1.out.grown (a := w) (HK.out.trans HK1.out) (Nat.le_refl _) hg2
    obtain ⟨a2, cap2, rfl⟩ := hown2.slice
    have HO2 := Lib.hid hown2
    have HK2 := Lib.hid K2
    clear hown2 hg2 K2
    go_wp2
    go_ret
    exact ⟨_, rfl, by rw [HE.out]; exact HO2.out, HK2.out⟩
  · have KK1 := Kept.refl W
    have HE := Lib.hid (show Z = straightZ ++ slantZ from e)
    clear e hp
    go_enter Tryz.func160, Tryz.ntmps160
    go_wp2_with fail
    refine (hk.out _).mono ?_
    rintro e w' ⟨rfl, rfl⟩
    rw [← HW.out]
    go_wp2_with (at_builtin; refine wpList_append_z rfl _ _ rfl w.heap.size w.heap.size _ _ [] straightZ rfl rfl (OwnZ.nil _ _) HA.out ?c1 ?d1 ?_)
    case c1 => decide
    case d1 => (try simp); have := HK.out.size; omega
    intro v1 w1 hown1 hg1
    have K1 := (OwnZ.nil _ W.heap.size).grown (a := W) KK1 (Nat.le_refl _) hg1
    replace hown1 : OwnZ w1 w.heap.size v1 straightZ := hown1
    obtain ⟨a1, cap1, rfl⟩ := hown1.slice
    have HO1 := Lib.hid hown1
    have HK1 := Lib.hid K1
    clear hown1 hg1 K1
    have HB1 := Lib.hid (HB.out.kept HK1.out)
    go_wp2_with (at_builtin; refine wpList_append_z rfl _ _ rfl w.heap.size (w.heap.size + 1) _ _ straightZ slantZ rfl rfl HO1.out HB1.out ?c2 ?d2 ?_)
    case c2 => decide
    case d2 => have := HK.out.size; have := HK1.out.size; omega
    intro v2 w2 hown2 hg2
    have K2 := HO1.out.grown (a := w) (HK.out.trans HK1.out) (Nat.le_refl _) hg2
    obtain ⟨a2, cap2, rfl⟩ := hown2.slice
    have HO2 := Lib.hid hown2
    have HK2 := Lib.hid K2
    clear hown2 hg2 K2
    go_wp2
    go_ret
    exact ⟨_, rfl, by rw [HE.out]; exact HO2.out, HK2.out⟩
end Go.Proofs.YtlbipjmmlobofaaGreatDoor
namespace Go.Proofs.YtlbipjmmlobofaaGreatDoor
open Go.RowKit
set_option linter.unusedVariables false
set_option linter.unusedSimpArgs false

theorem ofR_snoc (m s : Int) (P : List (Int × Int)) (p : Int × Int) : ofR m s (P ++ [p]) = ofR m s P ++ oneL (cutL m (rayL s p.1 p.2)) := by
  unfold ofR; simp
theorem ofR_len (m s : Int) : ∀ P : List (Int × Int), (ofR m s P).length ≤ P.length
  | [] => Nat.le_refl _
  | p :: P => by
    have := ofR_len m s P
    unfold ofR at this ⊢
    rw [List.flatMap_cons, List.length_append, List.length_cons]
    have h1 : (oneL (cutL m (rayL s p.1 p.2))).length ≤ 1 := by unfold oneL; split <;> simp
    omega
theorem take_snoc_at {α : Type} (P : List α) (j : Nat) (p : α) (h : P[j]? = some p) : P.take (j + 1) = P.take j ++ [p] := by
  obtain ⟨hj, e⟩ := List.getElem?_eq_some_iff.1 h
  rw [List.take_succ_eq_append_getElem hj, e]
theorem rray_low (s f r : Int) (w W : World) (k : Kept W w) :
    Calls Tryz.prog 161 #[.int .i64 s, .int .i64 f, .int .i64 r] w fun e w' => ∃ v, e = .returned v ∧ OwnZ w' w.heap.size v (rayL s f r) ∧ Kept w w' := rray_is s f r w
theorem cut_yes {m : Int} {l : List Int} (h : slidesB m = true) : cutL m l = l := by unfold cutL; rw [h]; simp
theorem cut_no {m : Int} {l : List Int} (h : slidesB m = false) : cutL m l = l.take 1 := by unfold cutL; rw [h]; simp
theorem cut_short {m : Int} {l : List Int} (h : l.length ≤ 1) : cutL m l = l := by
  unfold cutL
  split
  · rfl
  · exact List.take_of_length_le h
set_option maxRecDepth 100000 in
set_option maxHeartbeats 2000000 in
theorem rof_is (m s : Int) (w : World) : Calls Tryz.prog 140 #[.int .i64 m, .int .i64 s] w (NewR 71 w (ofL m s)) := by
  obtain ⟨i0, hi0, hz0, hz1, hz2⟩ := partsZ infoRow
  have HI := Lib.hid hi0
  have HZ := Lib.hid hz0
  have HZ1 := Lib.hid hz1
  have HZ2 := Lib.hid hz2
  have HEnd := Lib.hid (ofR_is m s)
  have hlenP := stepsL_len m
  have HFL := Lib.hid (stZ_len m)
  have HAt := Lib.hid (show ∀ (j : Nat) (p : Int × Int), (stepsL m)[j]? = some p → (stZ m)[2 * j]? = some p.1 ∧ (stZ m)[2 * j + 1]? = some p.2 from flat_at (stepsL m))
  clear hi0 hz0 hz1 hz2
  go_enter Tryz.func140, Tryz.ntmps140
  go_wp2_with fail
  refine (rsteps_is m _).mono ?_
  rintro e W ⟨v6, rfl, hown6, k6⟩
  obtain ⟨a6, c6, rfl⟩ := hown6.slice
  obtain ⟨g6, hl6, _⟩ := hown6.ls
  have HL6 := Lib.hid hl6
  have HK6 := Lib.hid k6
  clear hown6 hl6 k6
  generalize hn6 : (stZ m).length = n6 at *
  have HN6 := Lib.hid hn6
  clear hn6
  go_wp2
  go_loopw [5, 7] (fun t5 t7 wr => ∃ i j : Nat, i = 2 * j ∧ j ≤ (stepsL m).length ∧ t7 = .int .i64 i ∧ RowsZ 71 wr W.heap.size t5 (ofR m s ((stepsL m).take j)) ∧ Kept W wr) (fun _ t7 _ => n6 - (intOf t7).toNat)
  case atStart => exact ⟨0, 0, rfl, by omega, rfl, RowsZ.nil _ _ _, Kept.refl _⟩
  case round =>
    obtain ⟨i, j, hij, hj, rfl, hR, hK⟩ := hrel
    obtain ⟨a5, c5, rfl⟩ := hR.slice
    have HIJ := Lib.hid hij
    have HR := Lib.hid hR
    have HK := Lib.hid hK
    have hNN : n6 = 2 * (stepsL m).length := HFL.out
    by_cases hlt : i < n6
    · have hlt' : (i : Int) < (n6 : Int) := by omega
      have hlt1 : (i : Int) + 1 < (n6 : Int) := by omega
      have hsm : (i : Int) ≤ 100 := by omega
      obtain ⟨p, hp⟩ : ∃ p, (stepsL m)[j]? = some p := ⟨_, List.getElem?_eq_getElem (by omega)⟩
      obtain ⟨q1, q2⟩ := HAt.out j p hp
      rw [← hij] at q1 q2
      obtain ⟨off, c6', e6, hk1, hk2, hcell⟩ := HL6.out.full (by have := HN6.out; omega)
      injection e6 with e61 e62 e63
      subst e61 e63
      have d1 := kept_cell HK.out (hcell i _ q1)
      have d2 := kept_cell HK.out (hcell (i + 1) _ q2)
      have hLj := Lib.hid (ofR_len m s ((stepsL m).take j))
      have HTk := Lib.hid (show ofR m s ((stepsL m).take (j + 1)) = ofR m s ((stepsL m).take j) ++ oneL (cutL m (rayL s p.1 p.2)) by rw [take_snoc_at _ j p hp, ofR_snoc])
      have hj1 : j + 1 ≤ (stepsL m).length := by omega
      have hLj2 : (ofR m s ((stepsL m).take j)).length ≤ 1000 := by have := hLj.out; rw [List.length_take] at this; omega
      obtain ⟨pf, pr⟩ := p
      dsimp only at *
      clear hij hR hK hp q1 q2 hcell hLj hk1 hk2 e62 hNN
      generalize (stepsL m).take j = PJ at *
      generalize hRL : rayL s pf pr = RL at *
      have HRay := Lib.hid (rray_low s pf pr)
      rw [hRL] at HRay
      have hrl8 : RL.length ≤ 8 := by rw [← hRL]; exact rayL_len _ _ _
      clear hRL
      generalize hN5 : (ofR m s PJ).length = N5 at *
      have HN5 := Lib.hid hN5
      clear hN5
      have wr1 : IntKind.i64.wrap ((i : Int) + 1) = (i : Int) + 1 := IntWalk.i64_in _ (by omega)
      have tn1 : ((i : Int) + 1).toNat = i + 1 := by omega
      have ge1 : (0 : Int) ≤ (i : Int) + 1 := by omega
      go_wp2
      refine wp_region_held_drew (S := Kept _) (by kernel_rfl) (Kept.refl _).drew (fun hHeld => ?_)
      refine rT 0 17 (.int .i64 s) rfl rfl hHeld ?_
      simp only [pA, pN, sZ, sU]
      refine rT 1 18 (.slice (some ⟨g6, off, none⟩) n6 c6) rfl rfl hHeld ?_
      simp only [pA, pN, sZ, sU]
      refine rT 2 19 (.int .i64 (i : Int)) rfl rfl hHeld ?_
      simp only [pA, pN, sZ, sU]
      refine rT 3 20 (.pointer (some ⟨g6, off + i, none⟩)) rfl rfl hHeld ?_
      simp only [pA, pN, sZ, sU]
      refine rC 4 21 (.int .i64 pf) rfl rfl (fun _ h => kept_cell h (d1)) hHeld ?_
      simp only [pA, pN, sZ, sU]
      refine rT 5 22 (.slice (some ⟨g6, off, none⟩) n6 c6) rfl rfl hHeld ?_
      simp only [pA, pN, sZ, sU]
      refine rT 6 23 (.int .i64 (i : Int)) rfl rfl hHeld ?_
      simp only [pA, pN, sZ, sU]
      refine rT 7 24 (.int .i64 ((i : Int) + 1)) rfl rfl hHeld ?_
      simp only [pA, pN, sZ, sU]
      refine rT 8 25 (.pointer (some ⟨g6, off + (i + 1), none⟩)) rfl rfl hHeld ?_
      simp only [pA, pN, sZ, sU]
      refine rC 9 26 (.int .i64 pr) rfl rfl (fun _ h => kept_cell h (d2)) hHeld ?_
      simp only [pA, pN, sZ, sU]
      refine rR 10 rfl (fun K hK => ?_)
      go_simp
      have HK0 := Lib.hid hHeld
      refine (HRay.out _ _ hHeld).mono ?_
      rintro e w1 ⟨v, rfl, hown, g1⟩
      obtain ⟨a, cap, rfl⟩ := hown.slice
      refine hK.out _ _ (hHeld.trans g1) (fun _ => ?_)
      replace hHeld := hHeld.trans g1
      clear hK K
      have HO := Lib.hid hown
      have HG1 := Lib.hid g1
      clear hown g1
      refine rT 11 8 (.slice a RL.length cap) rfl rfl hHeld ?_
      simp only [pA, pN, sZ, sU]
      refine wpAnyH_done (by kernel_rfl) ?_ _
      have HRX := Lib.hid (HR.out.kept HK0.out)
      by_cases h1 : 1 < RL.length
      · have h1' : (1 : Int) < (RL.length : Int) := by omega
        have h0' : (0 : Int) < (RL.length : Int) := by omega
        go_wp2_with fail
        refine (rslides_is m _).mono ?_
        cases hsl : slidesB m
        · have HT1 := HTk.out
          rw [cut_no hsl, show oneL (RL.take 1) = [RL.take 1] by unfold oneL; rw [if_neg (by rw [List.length_take]; omega)]] at HT1
          replace HTk := Lib.hid HT1
          clear HT1 hsl
          rintro e w' ⟨rfl, rfl⟩
          obtain ⟨g8, cap8, cur8, e8, _, _, hnc8, hcm8, _, _⟩ := HO.out.blk (by omega)
          injection e8 with e81 e82 e83
          subst e81 e83
          have hr : ∀ w, (Instr.sliceAt 71 (.slice (some ⟨g8, 0, none⟩) RL.length cap) none (some (.int .i64 1)) none).run Tryz.prog w = .ok (.slice (some ⟨g8, 0, none⟩) 1 cap) w := run_head g8 0 RL.length cap 1 (by omega)
          have HO8 := Lib.hid (HO.out.take 1 (by omega))
          have hpos8 : 0 < (RL.take 1).length := by rw [List.length_take]; omega
          clear hnc8 hcm8
          go_wp2_with (at_builtin; refine RowsAt.append Tryz.underlying153 HI.out HZ.out HZ1.out HZ2.out rfl (by decide) rfl _ _ rfl W.heap.size _ _ (ofR m s PJ) (RL.take 1) rfl rfl HRX.out HG1.out HO8.out hpos8 ?c1 ?d1 ?_)
          case c1 => have := HK.out.size; have := HK0.out.size; omega
          case d1 => rw [HN5.out]; omega
          intro v' w4 hR4 hk4
          obtain ⟨a4, c4, rfl⟩ := hR4.slice
          have HR4 := Lib.hid hR4
          have HK4 := Lib.hid (hk4 W ((HK.out.trans HK0.out).trans HG1.out) (Nat.le_refl _))
          clear hR4 hk4
          generalize (ofR m s PJ ++ [(RL.take 1)]).length = N4 at *
          go_wp2
          go_roundw
          case rel => exact ⟨i + 2, j + 1, by have := HIJ.out; omega, hj1, by go_num, by rw [HTk.out]; exact HR4.out, HK4.out⟩
          case measure => simp [intOf]; omega
        · have HT1 := HTk.out
          rw [cut_yes hsl, show oneL RL = [RL] by unfold oneL; rw [if_neg (by omega)]] at HT1
          replace HTk := Lib.hid HT1
          clear HT1 hsl
          rintro e w' ⟨rfl, rfl⟩
          have hpos8 : 0 < RL.length := by omega
          go_wp2_with (at_builtin; refine RowsAt.append Tryz.underlying153 HI.out HZ.out HZ1.out HZ2.out rfl (by decide) rfl _ _ rfl W.heap.size _ _ (ofR m s PJ) RL rfl rfl HRX.out HG1.out HO.out hpos8 ?c2 ?d2 ?_)
          case c2 => have := HK.out.size; have := HK0.out.size; omega
          case d2 => rw [HN5.out]; omega
          intro v' w4 hR4 hk4
          obtain ⟨a4, c4, rfl⟩ := hR4.slice
          have HR4 := Lib.hid hR4
          have HK4 := Lib.hid (hk4 W ((HK.out.trans HK0.out).trans HG1.out) (Nat.le_refl _))
          clear hR4 hk4
          generalize (ofR m s PJ ++ [RL]).length = N4 at *
          go_wp2
          go_roundw
          case rel => exact ⟨i + 2, j + 1, by have := HIJ.out; omega, hj1, by go_num, by rw [HTk.out]; exact HR4.out, HK4.out⟩
          case measure => simp [intOf]; omega
      · have h1' : ¬ (1 : Int) < (RL.length : Int) := by omega
        by_cases h0 : 0 < RL.length
        · have h0' : (0 : Int) < (RL.length : Int) := by omega
          have HT1 := HTk.out
          rw [cut_short (by omega), show oneL RL = [RL] by unfold oneL; rw [if_neg (by omega)]] at HT1
          replace HTk := Lib.hid HT1
          clear HT1
          go_wp2_with (at_builtin; refine RowsAt.append Tryz.underlying153 HI.out HZ.out HZ1.out HZ2.out rfl (by decide) rfl _ _ rfl W.heap.size _ _ (ofR m s PJ) RL rfl rfl HRX.out HG1.out HO.out h0 ?c3 ?d3 ?_)
          case c3 => have := HK.out.size; have := HK0.out.size; omega
          case d3 => rw [HN5.out]; omega
          intro v' w4 hR4 hk4
          obtain ⟨a4, c4, rfl⟩ := hR4.slice
          have HR4 := Lib.hid hR4
          have HK4 := Lib.hid (hk4 W ((HK.out.trans HK0.out).trans HG1.out) (Nat.le_refl _))
          clear hR4 hk4
          generalize (ofR m s PJ ++ [RL]).length = N4 at *
          go_wp2
          go_roundw
          case rel => exact ⟨i + 2, j + 1, by have := HIJ.out; omega, hj1, by go_num, by rw [HTk.out]; exact HR4.out, HK4.out⟩
          case measure => simp [intOf]; omega
        · have h0' : ¬ (0 : Int) < (RL.length : Int) := by omega
          have HT1 := HTk.out
          rw [cut_short (by omega), show oneL RL = [] by unfold oneL; rw [if_pos (by omega)]] at HT1
          replace HTk := Lib.hid HT1
          have HR9 := Lib.hid (HRX.out.kept HG1.out)
          have HK9 := Lib.hid ((HK.out.trans HK0.out).trans HG1.out)
          clear HT1
          go_wp2
          go_roundw
          case rel => exact ⟨i + 2, j + 1, by have := HIJ.out; omega, hj1, by go_num, by rw [HTk.out]; simpa using HR9.out, HK9.out⟩
          case measure => simp [intOf]; omega
    · have hlt' : ¬ (i : Int) < (n6 : Int) := by omega
      have HT := Lib.hid (show ofR m s ((stepsL m).take j) = ofL m s by rw [List.take_of_length_le (by omega)]; exact HEnd.out)
      clear hij hR hK hNN
      go_wp2
      go_ret
      exact ⟨_, rfl, by rw [← HT.out]; exact HR.out.low HK6.out.size, HK6.out.trans HK.out⟩
theorem RowsZ.read {e : TypeId} {w : World} {base : Nat} {v : Value} {L : List (List Int)} (h : RowsZ e w base v L) (hL : 0 < L.length) :
    ∃ go cap, v = .slice (some ⟨go, 0, none⟩) L.length cap ∧ L.length ≤ cap ∧ cap ≤ maxLen ∧ ∀ (i : Nat) (l : List Int), L[i]? = some l → ∃ u g, w.cell? ⟨go, i, none⟩ = some u ∧ LsZ w g u l ∧ (0 < l.length → base ≤ g ∧ g < w.heap.size) := by
  obtain ⟨vs, gs, h⟩ := h
  have hnv := h.len
  have hng := h.ngs
  rcases h.own.2 with ⟨ev, h0⟩ | ⟨go, cap, cur, ev, hb, hh, hnc, hcm, hcs, ht⟩
  · omega
  · refine ⟨go, cap, ev, hnc, hcm, fun i l hl => ?_⟩
    obtain ⟨hi, _⟩ := List.getElem?_eq_some_iff.1 hl
    obtain ⟨u, hu⟩ : ∃ u, vs[i]? = some u := ⟨_, List.getElem?_eq_getElem (by omega)⟩
    obtain ⟨gg, hg⟩ : ∃ g, gs[i]? = some g := ⟨_, List.getElem?_eq_getElem (by omega)⟩
    obtain ⟨q1, _⟩ := h.each i u gg l hu hg hl
    obtain ⟨g, q2, q3⟩ := q1.ls
    refine ⟨u, g, ?_, q2, q3⟩
    rw [cell_of_row w go i cur _ (0, 0) hh]
    have h2 : (cur.toList.take (L.length * 1))[i]? = vs[i]? := by rw [ht]
    rw [List.getElem?_take, if_pos (by omega)] at h2
    simp only [Array.getElem?_toList] at h2
    rw [h2, hu]
theorem ofL_pos {m s : Int} {l : List Int} (h : l ∈ ofL m s) : 0 < l.length ∧ l.length ≤ 8 := by
  unfold ofL ofN at h
  obtain ⟨w, _, hw⟩ := List.mem_flatMap.1 h
  unfold oneL at hw
  split at hw
  · cases hw
  · simp at hw
    subst hw
    exact ⟨by omega, cutL_len m w s⟩
theorem ofL_len (m s : Int) : (ofL m s).length ≤ 16 := ofN_len m s 16
theorem lineIn_drop (L : List (List Int)) (b : Int) (i : Nat) (l : List Int) (h : L[i]? = some l) : lineIn (L.drop i) b = if l.contains b then l.take (l.idxOf b) else lineIn (L.drop (i + 1)) b := by
  obtain ⟨hi, e⟩ := List.getElem?_eq_some_iff.1 h
  rw [List.drop_eq_getElem_cons hi, e]
  unfold lineIn
  rw [List.find?_cons]
  cases hc : l.contains b <;> simp [hc]
end Go.Proofs.YtlbipjmmlobofaaGreatDoor
namespace Go.Proofs.YtlbipjmmlobofaaGreatDoor
open Go.RowKit
set_option linter.unusedVariables false
set_option linter.unusedSimpArgs false

theorem rside_any (m : Int) (w : World) : Calls Tryz.prog 102 #[.int .i64 m] w fun e w' => e = .returned (.int .i64 (sideI m)) ∧ w = w' := by
  have hk := Lib.hid (rknd_any m)
  unfold sideI
  by_cases h : manB m = true
  · have hm := (manB_iff m).1 h
    have h0 : (knd m == 0) = false := by
      unfold knd
      rw [if_neg (by omega)]
      split <;> simp <;> omega
    rw [if_pos h]
    generalize knd m = q at *
    by_cases hp : 0 < m
    · have hp' : ¬ m < 0 := by omega
      rw [if_pos hp]
      clear h hm
      go_enter Tryz.func102, Tryz.ntmps102
      go_wp2_with fail
      refine (hk.out _).mono ?_
      rintro e w' ⟨rfl, rfl⟩
      go_wp2
      go_ret
      exact ⟨rfl, rfl⟩
    · have hp' : m < 0 := by omega
      rw [if_neg hp]
      clear h hm
      go_enter Tryz.func102, Tryz.ntmps102
      go_wp2_with fail
      refine (hk.out _).mono ?_
      rintro e w' ⟨rfl, rfl⟩
      go_wp2
      go_ret
      exact ⟨rfl, rfl⟩
  · have hm := (manB_not m).1 (by simpa using h)
    rw [if_neg h]
    rw [knd_none hm] at hk
    clear h hm
    go_enter Tryz.func102, Tryz.ntmps102
    go_wp2_with fail
    refine (hk.out _).mono ?_
    rintro e w' ⟨rfl, rfl⟩
    go_wp2
    go_ret
    exact ⟨rfl, rfl⟩
theorem ofL_mem {m s : Int} {l : List Int} (h : l ∈ ofL m s) {x : Int} (hx : x ∈ l) : 0 ≤ x ∧ x < 64 := by
  unfold ofL ofN at h
  obtain ⟨way, _, hl⟩ := List.mem_flatMap.1 h
  unfold oneL at hl
  split at hl
  · cases hl
  · rw [List.mem_singleton] at hl
    subst hl
    unfold cutL at hx
    split at hx
    · exact alongL_mem hx
    · exact alongL_mem (List.mem_of_mem_take hx)
theorem hit_found {B : List Int} {s tq : Int} {i k : Nat} {l : List Int} (hl : (ofL (bAt B s) s)[i]? = some l) (hk : l[k]? = some tq) (hc : ∀ j, j < k → ∀ y, l[j]? = some y → bAt B y = 0) : hitB B s tq = true := by
  rw [hitB_iff]
  unfold strikeL
  rw [List.mem_flatMap]
  exact ⟨l, List.mem_of_getElem? hl, (mem_upto B tq l).2 ⟨k, hk, hc⟩⟩
theorem hit_none {B : List Int} {s tq : Int} (h : ∀ (i : Nat) (l : List Int), (ofL (bAt B s) s)[i]? = some l → tq ∉ uptoL B l) : hitB B s tq = false := by
  rw [Bool.eq_false_iff]
  intro hc
  rw [hitB_iff] at hc
  unfold strikeL at hc
  obtain ⟨l, hl, hx⟩ := List.mem_flatMap.1 hc
  obtain ⟨i, hi, e⟩ := List.mem_iff_getElem.1 hl
  exact h i l (by rw [List.getElem?_eq_getElem hi, e]) hx
theorem upto_end {B : List Int} {tq : Int} {l : List Int} (h : ∀ j, j < l.length → l[j]? ≠ some tq) : tq ∉ uptoL B l := by
  rw [mem_upto]
  rintro ⟨i, hi, _⟩
  obtain ⟨hlt, _⟩ := List.getElem?_eq_some_iff.1 hi
  exact h i hlt hi
theorem upto_stop {B : List Int} {tq y : Int} {l : List Int} {k : Nat} (h : ∀ j, j < k → l[j]? ≠ some tq) (hy : l[k]? = some y) (hne : y ≠ tq) (hb : bAt B y ≠ 0) : tq ∉ uptoL B l := by
  rw [mem_upto]
  rintro ⟨i, hi, hc⟩
  by_cases h1 : i < k
  · exact h i h1 hi
  · by_cases h2 : i = k
    · subst h2; rw [hy] at hi; exact hne (Option.some.inj hi)
    · exact hb (hc k (by omega) y hy)
set_option maxRecDepth 100000 in
set_option maxHeartbeats 2000000 in
theorem hits_is (B : List Int) (hB : Brd B) (s : Nat) (hs : s < 64) (tq : Int) (w : World) :
    Calls Tryz.prog 103 #[.agg (cl B).toArray, .int .i64 (s : Int), .int .i64 tq] w fun e w' => e = .returned (.bool (hitB B (s : Int) tq)) ∧ Kept w w' := by
  have hbl := heap_alloc_new w (.cells (cl B).toArray 24)
  have hc0 := board_cell hB hbl s hs
  obtain ⟨hb1, hb2⟩ := hB.2 s hs
  have HB := Lib.hid hB
  have HBl := Lib.hid hbl
  have HF := Lib.hid (fun (i k : Nat) (l : List Int) => hit_found (B := B) (s := (s : Int)) (tq := tq) (i := i) (k := k) (l := l))
  have HN := Lib.hid (hit_none (B := B) (s := (s : Int)) (tq := tq))
  have HMem := Lib.hid (fun (l : List Int) (h : l ∈ ofL (bAt B (s : Int)) (s : Int)) (x : Int) (hx : x ∈ l) => ofL_mem h hx)
  have hx : bAt B (s : Int) = B.getD s 0 := rfl
  rw [hx] at HF HN HMem
  have hOf := Lib.hid (rof_is (B.getD s 0) (s : Int))
  generalize hitB B (s : Int) tq = hb at *
  generalize B.getD s 0 = x at *
  clear hB hbl hx
  generalize ofL x (s : Int) = L at *
  go_enter Tryz.func103, Tryz.ntmps103
  go_wp2_with fail
  refine (hOf.out _).mono ?_
  rintro e W ⟨v, rfl, hR, hK⟩
  have HK := Lib.hid (((Kept.refl w).alloc _).trans hK)
  have HBW := Lib.hid (hK.heap HBl.out)
  clear hK
  by_cases hL : 0 < L.length
  · obtain ⟨g7, c7, rfl, hn1, hn2, hrow⟩ := hR.read hL
    unfold maxLen at hn2
    have HRow := Lib.hid hrow
    generalize hN : L.length = N at *
    have HNN := Lib.hid hN
    clear hR hrow hN hc0
    go_wp2
    go_loop [8] (fun t8 => ∃ i : Nat, i ≤ N ∧ t8 = .int .i64 i ∧ ∀ j l, j < i → L[j]? = some l → tq ∉ uptoL B l) (fun t8 => N - (intOf t8).toNat)
    case atStart => exact ⟨0, by omega, rfl, fun j l hj => by omega⟩
    case round =>
      obtain ⟨i, hi, rfl, hno⟩ := hrel
      have HNo := Lib.hid hno
      clear hno
      by_cases hlt : i < N
      · have hlt' : (i : Int) < (N : Int) := by omega
        obtain ⟨l, hl⟩ : ∃ l, L[i]? = some l := ⟨_, List.getElem?_eq_getElem (by have := HNN.out; omega)⟩
        obtain ⟨u, g, hcu, hls, _⟩ := HRow.out i l hl
        have HMl := Lib.hid (HMem.out l (List.mem_of_getElem? hl))
        have Hl := Lib.hid hl
        clear hl
        obtain ⟨au, cu, rfl⟩ := hls.slice
        have HLs := Lib.hid hls
        clear hls
        generalize hM : l.length = M at *
        have HMM := Lib.hid hM
        clear hM
        go_wp2
        go_loop [9] (fun t9 => ∃ k : Nat, k ≤ M ∧ t9 = .int .i64 k ∧ ∀ j, j < k → l[j]? ≠ some tq ∧ ∀ y, l[j]? = some y → bAt B y = 0) (fun t9 => M - (intOf t9).toNat)
        case atStart => exact ⟨0, by omega, rfl, fun j hj => by omega⟩
        case round =>
          obtain ⟨k, hk, rfl, hin⟩ := hrel
          have HIn := Lib.hid hin
          clear hin
          by_cases hkl : k < M
          · have hkl' : (k : Int) < (M : Int) := by omega
            obtain ⟨y, hy⟩ : ∃ y, l[k]? = some y := ⟨_, List.getElem?_eq_getElem (by have := HMM.out; omega)⟩
            obtain ⟨off, cu', e6, hk1, hk2, hcell⟩ := HLs.out.full (by have := HMM.out; omega)
            injection e6 with e61 e62 e63
            have HE62 := Lib.hid e62
            subst e61 e63
            clear e62
            have d1 := hcell k _ hy
            obtain ⟨y0, y1⟩ := HMl.out y (List.mem_of_getElem? hy)
            obtain ⟨yn, rfl⟩ := Int.eq_ofNat_of_zero_le y0
            have hyn : yn < 64 := by omega
            have d2 := board_cell HB.out HBW.out yn hyn
            have HY := Lib.hid hy
            have hbm : M ≤ 9223372036854775807 := by unfold maxLen at hk2; have := HMM.out; omega
            clear hy hcell hk1 hk2
            by_cases hto : (yn : Int) = tq
            · have b0 : ((yn : Int) == tq) = true := by simpa using hto
              have HE := Lib.hid (HF.out i k l Hl.out (by rw [HY.out, hto]) (fun j hj y hy => (HIn.out j hj).2 y hy))
              clear hto d2
              go_wp2
              go_ret
              exact ⟨by rw [HE.out]; rfl, HK.out⟩
            · have b0 : ((yn : Int) == tq) = false := by simpa using hto
              have HTo := Lib.hid hto
              clear hto
              obtain ⟨z, hz⟩ : ∃ z, B.getD yn 0 = z := ⟨_, rfl⟩
              rw [hz] at d2
              by_cases h0 : z = 0
              · have b1 : (z != 0) = false := by simpa using h0
                have HZ := Lib.hid (show bAt B (yn : Int) = 0 by show B.getD yn 0 = 0; rw [hz]; exact h0)
                clear h0 hz
                go_wp2
                go_round
                case rel => exact ⟨k + 1, by omega, by go_num, fun j hj => by
                  by_cases hji : j < k
                  · exact HIn.out j hji
                  · obtain rfl : j = k := by omega
                    rw [HY.out]
                    exact ⟨fun e => HTo.out (Option.some.inj e), fun y e => by rw [← Option.some.inj e]; exact HZ.out⟩⟩
                case measure => simp [intOf]; omega
              · have b1 : (z != 0) = true := by simpa using h0
                have HSt := Lib.hid (upto_stop (fun j hj => (HIn.out j hj).1) HY.out HTo.out (show bAt B (yn : Int) ≠ 0 by show B.getD yn 0 ≠ 0; rw [hz]; exact h0))
                clear h0 hz
                go_wp2
                go_round
                case rel => exact ⟨i + 1, by omega, by go_num, fun j l' hj hl' => by
                  by_cases hji : j < i
                  · exact HNo.out j l' hji hl'
                  · obtain rfl : j = i := by omega
                    rw [Hl.out] at hl'
                    rw [← Option.some.inj hl']
                    exact HSt.out⟩
                case measure => simp [intOf]; omega
          · have hkl' : ¬ (k : Int) < (M : Int) := by omega
            have HSt := Lib.hid (upto_end (B := B) (tq := tq) (l := l) (fun j hj => (HIn.out j (by have := HMM.out; omega)).1))
            go_wp2
            go_round
            case rel => exact ⟨i + 1, by omega, by go_num, fun j l' hj hl' => by
              by_cases hji : j < i
              · exact HNo.out j l' hji hl'
              · obtain rfl : j = i := by omega
                rw [Hl.out] at hl'
                rw [← Option.some.inj hl']
                exact HSt.out⟩
            case measure => simp [intOf]; omega
      · have hlt' : ¬ (i : Int) < (N : Int) := by omega
        have HE := Lib.hid (HN.out (fun j l hl => HNo.out j l (by obtain ⟨h, _⟩ := List.getElem?_eq_some_iff.1 hl; have := HNN.out; omega) hl))
        go_wp2
        go_ret
        exact ⟨by rw [HE.out]; rfl, HK.out⟩
  · have h0 : L = [] := List.eq_nil_of_length_eq_zero (by omega)
    subst h0
    obtain ⟨a7, c7, rfl⟩ := hR.slice
    have HE := Lib.hid (HN.out (fun j l hl => by simp at hl))
    clear hR hc0
    go_wp2
    go_loop [8] (fun t8 => t8 = .int .i64 0) (fun _ => 0)
    case atStart => exact rfl
    case round =>
      obtain rfl := hrel
      go_wp2
      go_ret
      exact ⟨by rw [HE.out]; rfl, HK.out⟩
end Go.Proofs.YtlbipjmmlobofaaGreatDoor
