/- Slices of slices of numbers; Of and Line. -/
import Derived.Test.YtkliefojegjhhaaDoorRaV
namespace Go.Proofs.YtkliefojegjhhaaDoor
open Go.RowKit
set_option linter.unusedVariables false
set_option linter.unusedSimpArgs false

/-- A slice (of elements of type e, one cell each) of slices of numbers, each in a block of its own. -/
structure RowsAt (e : TypeId) (w : World) (base : Nat) (v : Value) (L : List (List Int)) (vs : List Value) (gs : List Nat) : Prop where
  own : w.ownsRow base e 1 v L.length vs
  ngs : gs.length = L.length
  each : ∀ (i : Nat) (u : Value) (g : Nat) (l : List Int), vs[i]? = some u → gs[i]? = some g → L[i]? = some l → OwnZ w base u l ∧ u.ownBlock = some g
  apart : gs.Pairwise (· < ·)
  old : ∀ g ∈ gs, g < w.heap.size
def RowsZ (e : TypeId) (w : World) (base : Nat) (v : Value) (L : List (List Int)) : Prop := ∃ vs gs, RowsAt e w base v L vs gs
theorem RowsAt.len {e : TypeId} {w : World} {base : Nat} {v : Value} {L : List (List Int)} {vs : List Value} {gs : List Nat} (h : RowsAt e w base v L vs gs) : vs.length = L.length := by
  have := h.own.1; omega
theorem RowsZ.nil (e : TypeId) (w : World) (base : Nat) : RowsZ e w base (.slice none 0 0) [] :=
  ⟨[], [], World.ownsRow_nil _ _ _ _, rfl, fun i u g l h => by simp at h, List.Pairwise.nil, fun g h => by cases h⟩
theorem RowsAt.kept {e : TypeId} {w w' : World} {base : Nat} {v : Value} {L : List (List Int)} {vs : List Value} {gs : List Nat} (h : RowsAt e w base v L vs gs) (k : Kept w w') : RowsAt e w' base v L vs gs := by
  refine ⟨?_, h.ngs, fun i u g l h1 h2 h3 => ?_, h.apart, fun g hg => Nat.lt_of_lt_of_le (h.old g hg) k.size⟩
  · obtain ⟨h1, h2⟩ := h.own
    refine ⟨h1, ?_⟩
    rcases h2 with h2 | ⟨b, cap, cur, e1, e2, e3, e4⟩
    · exact .inl h2
    · exact .inr ⟨b, cap, cur, e1, e2, k.heap e3, e4⟩
  · obtain ⟨a, b⟩ := h.each i u g l h1 h2 h3
    exact ⟨a.kept k, b⟩
theorem RowsZ.kept {e : TypeId} {w w' : World} {base : Nat} {v : Value} {L : List (List Int)} (h : RowsZ e w base v L) (k : Kept w w') : RowsZ e w' base v L := by
  obtain ⟨vs, gs, h⟩ := h
  exact ⟨vs, gs, h.kept k⟩
theorem RowsZ.slice {e : TypeId} {w : World} {base : Nat} {v : Value} {L : List (List Int)} (h : RowsZ e w base v L) : ∃ a cap, v = .slice a L.length cap := by
  obtain ⟨vs, gs, h⟩ := h
  rcases h.own.2 with ⟨e, h0⟩ | ⟨g, cap, cur, e, _⟩
  · exact ⟨none, 0, by rw [e, h0]⟩
  · exact ⟨_, _, e⟩
theorem RowsZ.low {e : TypeId} {w : World} {base b : Nat} {v : Value} {L : List (List Int)} (h : RowsZ e w base v L) (hb : b ≤ base) : RowsZ e w b v L := by
  obtain ⟨vs, gs, h⟩ := h
  refine ⟨vs, gs, ?_, h.ngs, fun i u g l h1 h2 h3 => ?_, h.apart, h.old⟩
  · obtain ⟨h1, h2⟩ := h.own
    refine ⟨h1, ?_⟩
    rcases h2 with h2 | ⟨g, cap, cur, e1, e2, e3⟩
    · exact .inl h2
    · exact .inr ⟨g, cap, cur, e1, by omega, e3⟩
  · obtain ⟨a, b⟩ := h.each i u g l h1 h2 h3
    exact ⟨a.low hb, b⟩
theorem OwnZ.blk {w : World} {base : Nat} {v : Value} {l : List Int} (h : OwnZ w base v l) (hl : 0 < l.length) :
    ∃ g cap cur, v = .slice (some ⟨g, 0, none⟩) l.length cap ∧ base ≤ g ∧ w.heap[g]? = some (.cells cur 3 (0, 0)) ∧ l.length ≤ cap ∧ cap ≤ maxLen ∧ cur.size = cap * 1 ∧ cur.toList.take (l.length * 1) = zl l := by
  rcases h.2 with ⟨e, h0⟩ | h
  · omega
  · exact h
theorem OwnZ.take {w : World} {base : Nat} {a : Option Addr} {n cap : Nat} {l : List Int} (h : OwnZ w base (.slice a n cap) l) (k : Nat) (hk : k ≤ l.length) : OwnZ w base (.slice a k cap) (l.take k) := by
  have hlen : (l.take k).length = k := by rw [List.length_take]; omega
  refine ⟨by simp [zl], ?_⟩
  rcases h.2 with ⟨e, h0⟩ | ⟨g, cap', cur, e, hb, hh, hnc, hcm, hcs, ht⟩
  · injection e with e1 e2 e3
    exact .inl ⟨by rw [e1, e3, show k = 0 by omega], by omega⟩
  · injection e with e1 e2 e3
    subst e1 e3
    refine .inr ⟨g, cap, cur, by rw [hlen], hb, hh, by omega, hcm, hcs, ?_⟩
    rw [hlen]
    have : cur.toList.take (k * 1) = (cur.toList.take (l.length * 1)).take k := by rw [List.take_take]; congr 1; omega
    rw [this, ht]
    simp [zl]
/-- One slice more, behind the others: 'append(v, u)'. -/
theorem RowsAt.append {t e : TypeId} {i0 : TypeInfo} {z : Value} (ht : Tryd.prog.underlying t = some (.slice e)) (hi : Tryd.prog.info? e = some i0) (hz : i0.zero = some z) (h1 : i0.size = 1) (h24 : i0.bytes = 24) (hzs : z.cells.size = 1) (hne : e ≠ 3)
    {ops : Array Oper} {rest : List Oper} {o : Oper} {a : Act} {w1 w2 : World} {Q : Exit → Act → World → Prop} (hgd : o.guard = none) (s x : Operand)
    (ho : o.op = .call { callee := .builtin .append, args := #[s, x], argTypes := #[t, t] }) (base : Nat) (v u : Value) (L : List (List Int)) (l : List Int) (hs : a.eval s = v) (hx : a.eval x = .slice (some ⟨w2.heap.size, 0, none⟩) 1 1)
    (hR : RowsZ e w1 base v L) (k : Kept w1 w2) (hu : OwnZ w2 w1.heap.size u l) (hl : 0 < l.length) (hb : base ≤ w1.heap.size) (hlen : L.length ≤ 1000)
    (h : ∀ v' w', RowsZ e w' base v' (L ++ [l]) → (∀ A, Kept A w2 → A.heap.size ≤ base → Kept A w') → wpList Tryd.prog ops Q rest (a.put o.dst v') w') :
    wpList Tryd.prog ops Q (o :: rest) a (w2.alloc (.cells #[u] e)) := by
  obtain ⟨vs, gs, hR⟩ := hR
  obtain ⟨gu, cu, curu, eu, bu, hhu, _⟩ := hu.blk hl
  have h2 := hR.kept k
  have h3 := h2.kept ((Kept.refl w2).alloc (.cells #[u] e))
  refine wpList_append_own _ hgd s x t ho base e i0 z 1 24 ht hi hz h1 h24 hzs (by decide) v _ _ hs h3.own ⟨w2.heap.size, 0, none⟩ 1 1 [u] hx rfl ?_ ?_ ?_ ?_ ?_ ?_
  · intro j y hy
    match j, hy with
    | 0, hy =>
      simp at hy; subst hy
      rw [show (⟨w2.heap.size, 0, none⟩ : Addr).add 0 = ⟨w2.heap.size, 0, none⟩ by unfold Addr.add; split <;> simp_all]
      rw [cell_of_row _ _ 0 _ _ (0, 0) (heap_alloc_new w2 _)]
      rfl
  · intro y hy
    simp at hy; subst hy
    rw [eu]; rfl
  · unfold maxLen; omega
  · omega
  · simp; have := k.size; omega
  · intro v' w' ho' hg _
    -- blocks of numbers are no block of e
    have hblk : ∀ (g : Nat) (c : Array Value), w2.heap[g]? = some (.cells c 3 (0, 0)) → w'.heap[g]? = w2.heap[g]? := by
      intro g c hc
      have hlt := lt_of_heap hc
      rw [hg.block g (by simp; omega) ?_, Below.heap_alloc _ _ _ hlt]
      intro hv
      rcases h2.own.2 with ⟨ev, _⟩ | ⟨b, cap, cur, ev, _, e3, _⟩
      · rw [ev] at hv; simp [Value.ownBlock] at hv
      · rw [ev] at hv
        simp [Value.ownBlock] at hv
        subst hv
        rw [hc] at e3
        simp at e3
        exact hne e3.2.symm
    have hsz : w2.heap.size ≤ w'.heap.size := by have := hg.size; simp at this; omega
    refine h v' w' ⟨vs ++ [u], gs ++ [gu], by simpa using ho', by simp [hR.ngs], ?_, ?_, ?_⟩ ?_
    · intro i y g m hy hgi hm
      by_cases hi : i < L.length
      · have hnv := hR.len
        have hng := hR.ngs
        rw [List.getElem?_append_left (by omega)] at hy hgi hm
        obtain ⟨q1, q2⟩ := h2.each i y g m hy hgi hm
        refine ⟨?_, q2⟩
        obtain ⟨r1, r2⟩ := q1
        refine ⟨r1, ?_⟩
        rcases r2 with r2 | ⟨b, cap, cur, e1, e2, e3, e4⟩
        · exact .inl r2
        · exact .inr ⟨b, cap, cur, e1, e2, (hblk b cur e3).trans e3, e4⟩
      · have hil : i = L.length := by
          obtain ⟨hi', _⟩ := List.getElem?_eq_some_iff.1 hm
          simp at hi'; omega
        have hnv := hR.len
        have hng := hR.ngs
        subst hil
        rw [List.getElem?_append_right (by omega)] at hy hgi hm
        simp [hnv, hng] at hy hgi hm
        subst hy hgi hm
        refine ⟨?_, by rw [eu]; rfl⟩
        obtain ⟨r1, r2⟩ := hu.low hb
        refine ⟨r1, ?_⟩
        rcases r2 with r2 | ⟨b, cap, cur, e1, e2, e3, e4⟩
        · exact .inl r2
        · exact .inr ⟨b, cap, cur, e1, e2, (hblk b cur e3).trans e3, e4⟩
    · rw [List.pairwise_append]
      refine ⟨hR.apart, List.pairwise_singleton _ _, fun g hg' b hb' => ?_⟩
      simp at hb'
      subst hb'
      have := hR.old g hg'
      omega
    · intro g hg'
      rcases List.mem_append.1 hg' with hg' | hg'
      · have := hR.old g hg'; have := k.size; omega
      · simp at hg'; subst hg'
        have := lt_of_heap hhu; omega
    · intro A hA hAb
      refine (hA.alloc (.cells #[u] e)).grownBy hg (fun b hbv => ?_)
      have := (World.ownsRow.lt h3.own b hbv).1
      omega
theorem infoRay : (Tryd.prog.info? 32).map (fun i => (i.zero, i.size, i.bytes)) = some (some (.agg #[.slice none 0 0]), 1, 24) := by kernel_rfl
theorem infoRow : (Tryd.prog.info? 30).map (fun i => (i.zero, i.size, i.bytes)) = some (some (.slice none 0 0), 1, 24) := by kernel_rfl
theorem Tab.at_ {w : World} {g : Nat} (h : Tab w g) (way s : Nat) (hw : way < 16) (hs : s < 64) : ∃ u gA, w.cell? ⟨g, way * 64 + s, none⟩ = some u ∧ LsZ w gA u (alongL way (s : Int)) := by
  obtain ⟨gA, h⟩ := h
  obtain ⟨u, h1, h2⟩ := h (way * 64 + s) (by omega)
  rw [listAt_way way s hs] at h2
  exact ⟨u, gA, h1, h2⟩
/-- New rays are told. -/
def NewR (e : TypeId) (w : World) (L : List (List Int)) (E : Ending) (w' : World) : Prop := ∃ v, E = .returned v ∧ RowsZ e w' w.heap.size v L ∧ Kept w w'
theorem cutL_len (m : Int) (way : Nat) (s : Int) : (cutL m (alongL way s)).length ≤ 8 := by
  have := alongL_len way s
  unfold cutL
  split
  · exact this
  · rw [List.length_take]; omega
set_option maxRecDepth 100000 in
set_option maxHeartbeats 1000000 in
theorem of_in (m : Int) (s : Nat) (hs : s < 64) (g : Nat) (w : World) (hT : Tab w g) (hS : Steps w) :
    Calls Tryd.prog 14 #[.pointer (some ⟨g, 0, none⟩), .int .i64 m, .int .i64 (s : Int)] w (NewR 32 w (ofL m (s : Int))) := by
  have HT := Lib.hid hT
  have HS := Lib.hid hS
  obtain ⟨i0, hi0, hz0, hz1, hz2⟩ := partsZ infoRay
  have HI := Lib.hid hi0
  have HZ := Lib.hid hz0
  have HZ1 := Lib.hid hz1
  have HZ2 := Lib.hid hz2
  clear hT hS hi0 hz0 hz1 hz2
  go_enter Tryd.func14, Tryd.ntmps14
  go_wp2_with fail
  refine (right_yes _ _ (by omega) (by omega)).mono ?_
  rintro e w' ⟨rfl, rfl⟩
  go_wp2
  go_loopw [7, 17] (fun t7 t17 wr => ∃ n : Nat, n ≤ 16 ∧ t17 = .int .i64 n ∧ RowsZ 32 wr w.heap.size t7 (ofN m (s : Int) n) ∧ Kept w wr) (fun _ t17 _ => 16 - (intOf t17).toNat)
  case atStart => exact ⟨0, by omega, rfl, RowsZ.nil _ _ _, Kept.refl _⟩
  case round =>
    obtain ⟨n, hn, rfl, hR, hK⟩ := hrel
    obtain ⟨a7, c7, rfl⟩ := hR.slice
    have HR := Lib.hid hR
    have HK := Lib.hid hK
    clear hR hK
    by_cases hlt : n < 16
    · have hlt' : (n : Int) < 16 := by omega
      have hL := ofN_len m (s : Int) n
      have HN := Lib.hid (ofN_succ m (s : Int) n)
      generalize hlen : (ofN m (s : Int) n).length = N at *
      have HLen := Lib.hid hlen
      clear hlen
      go_wp2_with fail
      refine (reach1_is m n hlt _ (HS.out.kept HK.out)).mono ?_
      cases hg : goesB m n
      · rw [hg] at HN
        rintro e w1 ⟨rfl, k1⟩
        have HR1 := Lib.hid (HR.out.kept k1)
        have HK1 := Lib.hid (HK.out.trans k1)
        clear k1 hg
        go_wp2
        go_roundw
        case rel => exact ⟨n + 1, by omega, by go_num, by rw [HN.out]; simpa using HR1.out, HK1.out⟩
        case measure => simp [intOf]; omega
      · rw [hg] at HN
        rintro e w1 ⟨rfl, k1⟩
        have HR1 := Lib.hid (HR.out.kept k1)
        have HK1 := Lib.hid (HK.out.trans k1)
        obtain ⟨u, gA, hc, hls⟩ := (HT.out.kept HK1.out).at_ n s hlt hs
        obtain ⟨au, cu, rfl⟩ := hls.slice
        have HC := Lib.hid (cutL_len m n (s : Int))
        have HLS := Lib.hid hls
        have HG := Lib.hid hg
        clear k1 hg hls
        generalize alongL n (s : Int) = A at *
        go_wp2_with fail
        refine (reach2_is m n hlt _ (HS.out.kept HK1.out) HG.out).mono ?_
        cases hsl : slidesB m
        · have hcut : cutL m A = A.take 1 := by unfold cutL; rw [hsl]; simp
          rw [hcut] at HN HC
          clear hsl hcut
          rintro e w1b ⟨rfl, k2⟩
          have HR1 := Lib.hid (HR1.out.kept k2)
          have HK1 := Lib.hid (HK1.out.trans k2)
          have HLS := Lib.hid (HLS.out.kept k2)
          clear k2
          go_wp2_with fail
          refine (nearest_is gA _ A _ HLS.out).mono ?_
          rintro e w2 ⟨⟨v, rfl, hv⟩, rfl⟩
          obtain ⟨av, cv, rfl⟩ := hv.slice
          have HV := Lib.hid hv
          clear hv
          generalize A.take 1 = C at *
          by_cases hC : 0 < C.length
          · have hC' : (0 : Int) < (C.length : Int) := by omega
            have hone : oneL C = [C] := by unfold oneL; rw [if_neg (by omega)]
            rw [hone] at HN
            clear hone
            go_wp2_with fail
            refine (fresh_is gA _ C _ HV.out (by have := HC.out; omega)).mono ?_
            rintro e w3 ⟨v3, rfl, hown, k3⟩
            obtain ⟨a3, c3, rfl⟩ := hown.slice
            have HO := Lib.hid hown
            have HK3 := Lib.hid k3
            clear hown k3
            go_wp2_with (at_builtin; refine RowsAt.append Tryd.underlying25 HI.out HZ.out HZ1.out HZ2.out rfl (by decide) rfl _ _ rfl w.heap.size _ _ (ofN m (s : Int) n) C rfl rfl HR1.out HK3.out HO.out hC ?c1 ?c2 ?_)
            case c1 => exact HK1.out.size
            case c2 => rw [HLen.out]; omega
            intro v' w4 hR4 hk4
            obtain ⟨a4, c4, rfl⟩ := hR4.slice
            have HR4 := Lib.hid hR4
            have HK4 := Lib.hid (hk4 w (HK1.out.trans HK3.out) (Nat.le_refl _))
            clear hR4 hk4
            generalize (ofN m (s : Int) n ++ [C]).length = N4 at *
            go_wp2
            go_roundw
            case rel => exact ⟨n + 1, by omega, by go_num, by rw [HN.out]; exact HR4.out, HK4.out⟩
            case measure => simp [intOf]; omega
          · have hC' : ¬ (0 : Int) < (C.length : Int) := by omega
            have hone : oneL C = [] := by unfold oneL; rw [if_pos (by omega)]
            rw [hone] at HN
            clear hone
            go_wp2
            go_roundw
            case rel => exact ⟨n + 1, by omega, by go_num, by rw [HN.out]; simpa using HR1.out, HK1.out⟩
            case measure => simp [intOf]; omega
        · have hcut : cutL m A = A := by unfold cutL; rw [hsl]; simp
          rw [hcut] at HN HC
          clear hsl hcut
          rintro e w1b ⟨rfl, k2⟩
          have HR1 := Lib.hid (HR1.out.kept k2)
          have HK1 := Lib.hid (HK1.out.trans k2)
          have HLS := Lib.hid (HLS.out.kept k2)
          clear k2
          by_cases hC : 0 < A.length
          · have hC' : (0 : Int) < (A.length : Int) := by omega
            have hone : oneL A = [A] := by unfold oneL; rw [if_neg (by omega)]
            rw [hone] at HN
            clear hone
            go_wp2_with fail
            refine (fresh_is gA _ A _ HLS.out (by have := HC.out; omega)).mono ?_
            rintro e w3 ⟨v3, rfl, hown, k3⟩
            obtain ⟨a3, c3, rfl⟩ := hown.slice
            have HO := Lib.hid hown
            have HK3 := Lib.hid k3
            clear hown k3
            go_wp2_with (at_builtin; refine RowsAt.append Tryd.underlying25 HI.out HZ.out HZ1.out HZ2.out rfl (by decide) rfl _ _ rfl w.heap.size _ _ (ofN m (s : Int) n) A rfl rfl HR1.out HK3.out HO.out hC ?c3 ?c4 ?_)
            case c3 => exact HK1.out.size
            case c4 => rw [HLen.out]; omega
            intro v' w4 hR4 hk4
            obtain ⟨a4, c4, rfl⟩ := hR4.slice
            have HR4 := Lib.hid hR4
            have HK4 := Lib.hid (hk4 w (HK1.out.trans HK3.out) (Nat.le_refl _))
            clear hR4 hk4
            generalize (ofN m (s : Int) n ++ [A]).length = N4 at *
            go_wp2
            go_roundw
            case rel => exact ⟨n + 1, by omega, by go_num, by rw [HN.out]; exact HR4.out, HK4.out⟩
            case measure => simp [intOf]; omega
          · have hC' : ¬ (0 : Int) < (A.length : Int) := by omega
            have hone : oneL A = [] := by unfold oneL; rw [if_pos (by omega)]
            rw [hone] at HN
            clear hone
            go_wp2
            go_roundw
            case rel => exact ⟨n + 1, by omega, by go_num, by rw [HN.out]; simpa using HR1.out, HK1.out⟩
            case measure => simp [intOf]; omega
    · have hlt' : ¬ (n : Int) < 16 := by omega
      have HE := Lib.hid (show ofL m (s : Int) = ofN m (s : Int) n by unfold ofL; rw [show n = 16 by omega])
      go_wp2
      go_ret
      exact ⟨_, rfl, by rw [HE.out]; exact HR.out, HK.out⟩
end Go.Proofs.YtkliefojegjhhaaDoor
