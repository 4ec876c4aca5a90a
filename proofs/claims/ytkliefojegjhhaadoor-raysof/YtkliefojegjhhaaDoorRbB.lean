/- The walk of RaysOf: what is told is written into, and nothing else has turned. -/
import Derived.Test.YtkliefojegjhhaaDoorRaZ
namespace Go.Proofs.YtkliefojegjhhaaDoor
open Go.RowKit
set_option linter.unusedVariables false
set_option linter.unusedSimpArgs false

/-- Nothing has turned but blocks of B. -/
structure Turned (B : Nat → Prop) (w w' : World) : Prop where
  os : w'.os = w.os
  output : w'.output = w.output
  size : w.heap.size ≤ w'.heap.size
  block : ∀ k, k < w.heap.size → ¬ B k → w'.heap[k]? = w.heap[k]?
theorem Turned.refl (B : Nat → Prop) (w : World) : Turned B w w := ⟨rfl, rfl, Nat.le_refl _, fun _ _ _ => rfl⟩
theorem Turned.kept {B : Nat → Prop} {a w w' : World} (h : Turned B a w) (k : Kept w w') : Turned B a w' :=
  ⟨k.os.trans h.os, k.output.trans h.output, Nat.le_trans h.size k.size, fun i hi hb => (k.block i (Nat.lt_of_lt_of_le hi h.size)).trans (h.block i hi hb)⟩
theorem Turned.mono {B C : Nat → Prop} {a w : World} (h : Turned B a w) (hBC : ∀ k, B k → C k) : Turned C a w :=
  ⟨h.os, h.output, h.size, fun k hk hc => h.block k hk (fun hb => hc (hBC k hb))⟩
theorem Turned.grownBy {B : Nat → Prop} {a w w' : World} {row : Option Nat} (h : Turned B a w) (hg : w.grownBy w' row) (hr : ∀ k, row = some k → B k) : Turned B a w' :=
  ⟨hg.os.trans h.os, hg.output.trans h.output, Nat.le_trans h.size hg.size, fun k hk hb => (hg.block k (Nat.lt_of_lt_of_le hk h.size) (fun e => hb (hr k e.symm))).trans (h.block k hk hb)⟩
theorem Turned.heap {B : Nat → Prop} {a w : World} (h : Turned B a w) {g : Nat} {o : Obj} (hb : ¬ B g) (hg : a.heap[g]? = some o) : w.heap[g]? = some o :=
  (h.block g (lt_of_heap hg) hb).trans hg
theorem Turned.toKept {B : Nat → Prop} {b a w : World} (h : Turned B a w) (k : Kept b a) (hB : ∀ k, B k → b.heap.size ≤ k) : Kept b w :=
  ⟨h.os.trans k.os, h.output.trans k.output, Nat.le_trans k.size h.size, fun i hi => (h.block i (Nat.lt_of_lt_of_le hi k.size) (fun hb => by have := hB i hb; omega)).trans (k.block i hi)⟩
theorem OwnZ.turned {B : Nat → Prop} {w w' : World} {base : Nat} {v : Value} {l : List Int} (h : OwnZ w base v l) (t : Turned B w w') (hB : ∀ g, v.ownBlock = some g → ¬ B g) : OwnZ w' base v l := by
  obtain ⟨h1, h2⟩ := h
  refine ⟨h1, ?_⟩
  rcases h2 with h2 | ⟨b, cap, cur, e1, e2, e3, e4⟩
  · exact .inl h2
  · exact .inr ⟨b, cap, cur, e1, e2, t.heap (hB b (by rw [e1]; rfl)) e3, e4⟩
/-- The first i of them. -/
def BI (gs : List Nat) (i : Nat) (k : Nat) : Prop := ∃ j, j < i ∧ gs[j]? = some k
theorem BI.mono {gs : List Nat} {i k : Nat} (h : BI gs i k) : BI gs (i + 1) k := by obtain ⟨j, h1, h2⟩ := h; exact ⟨j, by omega, h2⟩
theorem BI.mem {gs : List Nat} {i k : Nat} (h : BI gs i k) : k ∈ gs := by obtain ⟨j, _, h2⟩ := h; exact List.mem_of_getElem? h2
theorem BI.last {gs : List Nat} {i g : Nat} (h : gs[i]? = some g) : BI gs (i + 1) g := ⟨i, by omega, h⟩
theorem BI.not {gs : List Nat} {i g : Nat} (hp : gs.Pairwise (· < ·)) (h : gs[i]? = some g) : ¬ BI gs i g := by
  rintro ⟨j, hj, e⟩
  obtain ⟨h1, e1⟩ := List.getElem?_eq_some_iff.1 h
  obtain ⟨h2, e2⟩ := List.getElem?_eq_some_iff.1 e
  have := List.pairwise_iff_getElem.1 hp j i h2 h1 hj
  omega
/-- One of the slices, with where it stands. -/
theorem RowsAt.elem {e : TypeId} {w : World} {base : Nat} {v : Value} {L : List (List Int)} {vs : List Value} {gs : List Nat} (h : RowsAt e w base v L vs gs) (i : Nat) (l : List Int) (hl : L[i]? = some l) (hp : 0 < l.length) :
    ∃ go cap g cu, v = .slice (some ⟨go, 0, none⟩) L.length cap ∧ (∃ cur, w.heap[go]? = some (.cells cur e (0, 0)) ∧ cur[i]? = some (.slice (some ⟨g, 0, none⟩) l.length cu)) ∧ base ≤ go ∧ go < w.heap.size ∧ gs[i]? = some g ∧ OwnZ w base (.slice (some ⟨g, 0, none⟩) l.length cu) l ∧ L.length ≤ cap := by
  have hnv := h.len
  have hng := h.ngs
  obtain ⟨hi, _⟩ := List.getElem?_eq_some_iff.1 hl
  obtain ⟨u, hu⟩ : ∃ u, vs[i]? = some u := ⟨_, List.getElem?_eq_getElem (by omega)⟩
  obtain ⟨g, hg⟩ : ∃ g, gs[i]? = some g := ⟨_, List.getElem?_eq_getElem (by omega)⟩
  obtain ⟨q1, q2⟩ := h.each i u g l hu hg hl
  obtain ⟨g', cu, _, eu, _⟩ := q1.blk hp
  subst eu
  simp [Value.ownBlock] at q2
  subst q2
  rcases h.own.2 with ⟨ev, h0⟩ | ⟨go, cap, cur, ev, hb, hh, hnc, hcm, hcs, ht⟩
  · omega
  · refine ⟨go, cap, g', cu, ev, ⟨cur, hh, ?_⟩, hb, lt_of_heap hh, hg, q1, hnc⟩
    have h2 : (cur.toList.take (L.length * 1))[i]? = vs[i]? := by rw [ht]
    rw [List.getElem?_take, if_pos (by omega)] at h2
    simp only [Array.getElem?_toList] at h2
    rw [h2, hu]
theorem RowsAt.num {e : TypeId} {w : World} {base : Nat} {v : Value} {L : List (List Int)} {vs : List Value} {gs : List Nat} (h : RowsAt e w base v L vs gs) (hne : e ≠ 3) {g : Nat} (hg : g ∈ gs) :
    base ≤ g ∧ v.ownBlock ≠ some g := by
  have hnv := h.len
  have hng := h.ngs
  obtain ⟨i, hi, eg⟩ := List.mem_iff_getElem.1 hg
  obtain ⟨u, hu⟩ : ∃ u, vs[i]? = some u := ⟨_, List.getElem?_eq_getElem (by omega)⟩
  obtain ⟨l, hl⟩ : ∃ l, L[i]? = some l := ⟨_, List.getElem?_eq_getElem (by omega)⟩
  obtain ⟨q1, q2⟩ := h.each i u g l hu (by rw [List.getElem?_eq_getElem hi, eg]) hl
  rcases q1.2 with ⟨eu, _⟩ | ⟨b, cap, cur, eu, hb, hh, _⟩
  · rw [eu] at q2; simp [Value.ownBlock] at q2
  · rw [eu] at q2
    simp [Value.ownBlock] at q2
    subst q2
    refine ⟨hb, fun hv => ?_⟩
    rcases h.own.2 with ⟨ev, _⟩ | ⟨go, cap', cur', ev, _, hh', _⟩
    · rw [ev] at hv; simp [Value.ownBlock] at hv
    · rw [ev] at hv
      simp [Value.ownBlock] at hv
      subst hv
      rw [hh] at hh'
      simp at hh'
      exact hne hh'.2.symm
theorem RowsAt.turned {e : TypeId} {B : Nat → Prop} {w w' : World} {base : Nat} {v : Value} {L : List (List Int)} {vs : List Value} {gs : List Nat} (h : RowsAt e w base v L vs gs) (t : Turned B w w') (hB : ∀ k, base ≤ k → ¬ B k) : RowsAt e w' base v L vs gs := by
  refine ⟨?_, h.ngs, fun i u g l h1 h2 h3 => ?_, h.apart, fun g hg => Nat.lt_of_lt_of_le (h.old g hg) t.size⟩
  · obtain ⟨h1, h2⟩ := h.own
    refine ⟨h1, ?_⟩
    rcases h2 with h2 | ⟨b, cap, cur, e1, e2, e3, e4⟩
    · exact .inl h2
    · exact .inr ⟨b, cap, cur, e1, e2, t.heap (hB b e2) e3, e4⟩
  · obtain ⟨a, b⟩ := h.each i u g l h1 h2 h3
    exact ⟨a.turned t (fun g hg => hB g (World.ownsRow.lt a g hg).1), b⟩
theorem cell_row {w : World} {go i : Nat} {cur : Array Value} {e : TypeId} {u : Value} (h : w.heap[go]? = some (.cells cur e (0, 0))) (hi : cur[i]? = some u) : w.cell? ⟨go, i, none⟩ = some u := by
  rw [cell_of_row w go i cur e (0, 0) h, hi]
theorem OwnZ.lsAt {w : World} {base g n cap : Nat} {l : List Int} (h : OwnZ w base (.slice (some ⟨g, 0, none⟩) n cap) l) : LsZ w g (.slice (some ⟨g, 0, none⟩) n cap) l := by
  rcases h.2 with ⟨e, h0⟩ | ⟨g', cap', cur, e, hb, hh, hnc, hcm, hcs, ht⟩
  · simp at e
  · injection e with e1 e2 e3
    injection e1 with e1
    injection e1 with e1
    subst e1 e3 e2
    refine .inr ⟨0, cap, rfl, hnc, hcm, fun i x hx => ?_⟩
    have hi : i < l.length := by
      obtain ⟨hi, _⟩ := List.getElem?_eq_some_iff.1 hx
      exact hi
    rw [Nat.zero_add, cell_of_row w g i cur _ (0, 0) hh]
    have h2 : (cur.toList.take (l.length * 1))[i]? = (zl l)[i]? := by rw [ht]
    rw [List.getElem?_take, if_pos (by omega)] at h2
    simp only [Array.getElem?_toList] at h2
    rw [h2]
    simp [zl, hx]
/-- A number written over one of a slice of the call's own. -/
theorem OwnZ.put {w : World} {base g n cap : Nat} {l : List Int} (h : OwnZ w base (.slice (some ⟨g, 0, none⟩) n cap) l) (k : Nat) (x : Int) :
    OwnZ (w.setCell ⟨g, k, none⟩ (.int .i64 x)) base (.slice (some ⟨g, 0, none⟩) n cap) (l.set k x) ∧ w.grownBy (w.setCell ⟨g, k, none⟩ (.int .i64 x)) (some g) := by
  have hn : n = l.length := by
    rcases h.2 with ⟨e, _⟩ | ⟨_, _, _, e, _⟩
    · simp at e
    · injection e
  subst hn
  have := World.ownsRow.stored h k (.int .i64 x)
  refine ⟨?_, this.2⟩
  have h1 := this.1
  unfold OwnZ
  rw [List.length_set]
  have e : zl (l.set k x) = (zl l).set k (.int .i64 x) := by unfold zl; rw [List.map_set]
  rw [e]
  exact h1
set_option maxRecDepth 100000 in
set_option maxHeartbeats 2000000 in
theorem walkRaysOf (m : Int) (w0 : (Lit.int .i64 m).wf = true) (s : Int) (w1 : (Lit.int .i64 s).wf = true) (w : World) (hS : Steps w) :
    Calls Tryd.prog 3 #[.int .i64 m, .int .i64 s] w fun e w' => e = .returned (.bool true) ∧ Kept w w' := by
  have HS := Lib.hid hS
  have HPos := Lib.hid (show ∀ l : List Int, l ∈ ofL m s → 0 < l.length ∧ l.length ≤ 8 from fun l h => ofL_pos h)
  have HLen := Lib.hid (ofL_len m s)
  clear hS w0 w1
  go_enter Tryd.func3, Tryd.ntmps3
  go_wp2_with fail
  refine (rays_wake _ HS.out).mono ?_
  rintro e w1 ⟨rfl, k1⟩
  have HK1 := Lib.hid k1
  clear k1
  go_wp2_with fail
  refine (make_is _ (HS.out.kept HK1.out)).mono ?_
  rintro e w2 ⟨rfl, hT, k2⟩
  have HT2 := Lib.hid hT
  have HK2 := Lib.hid (HK1.out.trans k2)
  clear hT k2
  go_wp2_with fail
  refine (of_is _ _ _ _ HT2.out (HS.out.kept HK2.out)).mono ?_
  rintro e W1 ⟨v6, rfl, hR6, k3⟩
  obtain ⟨a6, c6, rfl⟩ := hR6.slice
  have HR6 := Lib.hid hR6
  have HK3 := Lib.hid k3
  clear hR6 k3
  go_wp2_with fail
  refine (rof_is m s _).mono ?_
  rintro e W2 ⟨v7, rfl, hR7, k4⟩
  obtain ⟨a7, c7, rfl⟩ := hR7.slice
  obtain ⟨vs, gs, hA0⟩ := HR6.out
  obtain ⟨vs7, gs7, hA7⟩ := hR7
  have HOld := Lib.hid hA0.old
  have HA6 := Lib.hid (hA0.kept k4)
  have HA7 := Lib.hid hA7
  have HK4 := Lib.hid (HK3.out.trans k4)
  have HSz := Lib.hid k4.size
  clear k4 hA0 hA7 HR6
  generalize w1.heap.size = gT at *
  have HOf := Lib.hid (of_is m s gT)
  generalize ofL m s = L at *
  generalize hN : L.length = N at *
  have HN := Lib.hid hN
  have hN16 : N ≤ 16 := HLen.out
  clear hN HLen
  go_wp2
  go_loopw [29] (fun t29 wr => ∃ i : Nat, i ≤ N ∧ t29 = .int .i64 i ∧ Turned (BI gs i) W2 wr) (fun t29 _ => N - (intOf t29).toNat)
  case atStart => exact ⟨0, by omega, rfl, Turned.refl _ _⟩
  case round =>
    obtain ⟨i, hi, rfl, hTu⟩ := hrel
    have HTu := Lib.hid hTu
    clear hTu
    by_cases hlt : i < N
    · have hlt' : (i : Int) < (N : Int) := by omega
      obtain ⟨l, hl⟩ : ∃ l, L[i]? = some l := ⟨_, List.getElem?_eq_getElem (by have := HN.out; omega)⟩
      obtain ⟨p0, p8⟩ := HPos.out l (List.mem_of_getElem? hl)
      obtain ⟨go, c6', g, cu, ev, ⟨cur, hh, hcu⟩, _, hgo, hgi, hO, _⟩ := HA6.out.elem i l hl p0
      injection ev with ev1 ev2 ev3
      subst ev1 ev3
      -- the array of what is told, whatever has turned
      have hArr : ∀ j, ¬ BI gs j go := fun j hb => (HA6.out.num (by decide) hb.mem).2 rfl
      have HArr := Lib.hid (show ∀ (j : Nat) (w' : World), Turned (BI gs j) W2 w' → w'.cell? ⟨go, i, none⟩ = some (.slice (some ⟨g, 0, none⟩) l.length cu) from fun j w' t => cell_row (t.heap (hArr j) hh) hcu)
      have d6 := HArr.out i wr HTu.out
      have HO6 := Lib.hid (hO.turned HTu.out (fun b hb hB => by simp [Value.ownBlock] at hb; subst hb; exact BI.not HA6.out.apart hgi hB))
      obtain ⟨go7, c7', g7, cu7, ev, ⟨cur7, hh7, hcu7⟩, hb7, _, _, hO7, _⟩ := (HA7.out.turned HTu.out (fun k hk hB => by have := HOld.out k hB.mem; omega)).elem i l hl p0
      injection ev with ev71 ev72 ev73
      subst ev71 ev73
      have d7 := cell_row hh7 hcu7
      have HO7 := Lib.hid hO7
      have HTu1 := Lib.hid (show Turned (BI gs (i + 1)) W2 wr from HTu.out.mono (fun k h => h.mono))
      have HB1 := Lib.hid (BI.last hgi)
      have HB0 := Lib.hid (show w2.heap.size ≤ W2.heap.size from HK4.out.size)
      generalize hnl : l.length = n at *
      have Hnl := Lib.hid hnl
      clear hl hh hcu hgi hO hArr hh7 hcu7 hO7 hnl ev2 ev72
      go_wp2
      refine wp_region_held_drew (S := Kept _) (by kernel_rfl) (Kept.refl _).drew (fun hHeld => ?_)
      refine rg_take (i := 0) (v := (.slice (some ⟨go, 0, none⟩) N c6)) (some 32) rfl rfl (by kernel_rfl) (by kernel_rfl) (by kernel_rfl) (fun _ _ _ h => h) (Or.inl ⟨by rfl, fun _ _ => by go_simp⟩) hHeld ?_
      simp only [Act.put, List.setIfInBounds_toArray, List.set_cons_zero, List.set_cons_succ]
      refine rg_take (i := 1) (v := (.int .i64 (i : Int))) (some 33) rfl rfl (by kernel_rfl) (by kernel_rfl) (by kernel_rfl) (fun _ _ _ h => h) (Or.inl ⟨by rfl, fun _ _ => by go_simp⟩) hHeld ?_
      simp only [Act.put, List.setIfInBounds_toArray, List.set_cons_zero, List.set_cons_succ]
      refine rg_take (i := 2) (v := (.pointer (some ⟨go, i, none⟩))) (some 34) rfl rfl (by kernel_rfl) (by kernel_rfl) (by kernel_rfl) (fun _ _ _ h => h) (Or.inl ⟨by rfl, fun _ _ => by go_simp⟩) hHeld ?_
      simp only [Act.put, List.setIfInBounds_toArray, List.set_cons_zero, List.set_cons_succ]
      refine rg_take (i := 3) (v := (.pointer (some ⟨go, i, none⟩))) (some 35) rfl rfl (by kernel_rfl) (by kernel_rfl) (by kernel_rfl) (fun _ _ _ h => h) (Or.inl ⟨by rfl, fun _ _ => by go_simp⟩) hHeld ?_
      simp only [Act.put, List.setIfInBounds_toArray, List.set_cons_zero, List.set_cons_succ]
      refine rg_take (i := 4) (v := (.slice (some ⟨g, 0, none⟩) n cu)) (some 36) rfl rfl (by kernel_rfl) (by kernel_rfl) (by kernel_rfl) (fun _ _ _ h => h) (Or.inl ⟨by rfl, fun w' h => by have h' := kept_cell h (d6); go_simp⟩) hHeld ?_
      simp only [Act.put, List.setIfInBounds_toArray, List.set_cons_zero, List.set_cons_succ]
      refine rg_take (i := 5) (v := (.slice (some ⟨go7, 0, none⟩) N c7)) (some 37) rfl rfl (by kernel_rfl) (by kernel_rfl) (by kernel_rfl) (fun _ _ _ h => h) (Or.inl ⟨by rfl, fun _ _ => by go_simp⟩) hHeld ?_
      simp only [Act.put, List.setIfInBounds_toArray, List.set_cons_zero, List.set_cons_succ]
      refine rg_take (i := 6) (v := (.int .i64 (i : Int))) (some 38) rfl rfl (by kernel_rfl) (by kernel_rfl) (by kernel_rfl) (fun _ _ _ h => h) (Or.inl ⟨by rfl, fun _ _ => by go_simp⟩) hHeld ?_
      simp only [Act.put, List.setIfInBounds_toArray, List.set_cons_zero, List.set_cons_succ]
      refine rg_take (i := 7) (v := (.pointer (some ⟨go7, i, none⟩))) (some 39) rfl rfl (by kernel_rfl) (by kernel_rfl) (by kernel_rfl) (fun _ _ _ h => h) (Or.inl ⟨by rfl, fun _ _ => by go_simp⟩) hHeld ?_
      simp only [Act.put, List.setIfInBounds_toArray, List.set_cons_zero, List.set_cons_succ]
      refine rg_take (i := 8) (v := (.slice (some ⟨g7, 0, none⟩) n cu7)) (some 40) rfl rfl (by kernel_rfl) (by kernel_rfl) (by kernel_rfl) (fun _ _ _ h => h) (Or.inl ⟨by rfl, fun w' h => by have h' := kept_cell h (d7); go_simp⟩) hHeld ?_
      simp only [Act.put, List.setIfInBounds_toArray, List.set_cons_zero, List.set_cons_succ]
      refine wpAnyH_ready (rs := [9]) (by kernel_rfl) (by simp) ?_
      refine AllReadyH.cons rfl (fun K hK => ?_) AllReadyH.nil
      go_simp
      refine (sameZ_yes g g7 _ _ l _ (HO6.out.lsAt.kept hHeld) (HO7.out.lsAt.kept hHeld)).mono ?_
      rintro e w3 ⟨rfl, gw3⟩
      refine hK.out _ _ (hHeld.trans gw3) (fun _ => ?_)
      replace hHeld := hHeld.trans gw3
      clear hK K
      refine rg_take (i := 10) (v := (.bool false)) (some 42) rfl rfl (by kernel_rfl) (by kernel_rfl) (by kernel_rfl) (fun _ _ _ h => h) (Or.inl ⟨by rfl, fun _ _ => by go_simp⟩) hHeld ?_
      simp only [Act.put, List.setIfInBounds_toArray, List.set_cons_zero, List.set_cons_succ]
      refine wpAnyH_done (by kernel_rfl) ?_ _
      have HTu3 := Lib.hid (HTu1.out.kept hHeld)
      have HO63 := Lib.hid (HO6.out.kept hHeld)
      have d63 := HArr.out (i + 1) w3 HTu3.out
      go_wp2
      go_loopw [49] (fun t49 wr => ∃ k : Nat, k ≤ n ∧ t49 = .int .i64 k ∧ Turned (BI gs (i + 1)) W2 wr ∧ ∃ l' : List Int, l'.length = n ∧ OwnZ wr w2.heap.size (.slice (some ⟨g, 0, none⟩) n cu) l') (fun t49 _ => n - (intOf t49).toNat)
      case atStart => exact ⟨0, by omega, rfl, HTu3.out, l, Hnl.out, HO63.out⟩
      case round =>
        obtain ⟨k, hk, rfl, hTk, l', hl', hOk⟩ := hrel
        have HTk := Lib.hid hTk
        have HOk := Lib.hid hOk
        have HLk := Lib.hid hl'
        have d8 := HArr.out (i + 1) _ hTk
        by_cases hkl : k < n
        · have hkl' : (k : Int) < (n : Int) := by omega
          obtain ⟨y, hy⟩ : ∃ y, l'[k]? = some y := ⟨_, List.getElem?_eq_getElem (by omega)⟩
          have d9 : wr.cell? ⟨g, k, none⟩ = some (.int .i64 y) := by
            obtain ⟨off, cc, e, _, _, hc⟩ := hOk.lsAt.full (by omega)
            injection e with e1
            injection e1 with e1
            injection e1 with _ e2
            subst e2
            simpa using hc k y hy
          have f9 : wr.frozen? ⟨g, k, none⟩ = false := by
            obtain ⟨g', _, cur', e, _, hh, _⟩ := hOk.blk (by omega)
            injection e with e1
            injection e1 with e1
            injection e1 with e1
            subst e1
            exact frozen_of_row _ _ _ _ _ hh
          have hP := hOk.put k 99
          have HP1 := Lib.hid hP.1
          have HP2 := Lib.hid (hTk.grownBy hP.2 (fun b hb => by injection hb with hb; subst hb; exact HB1.out))
          clear hTk hOk hl' hy hP
          go_wp2
          go_roundw
          case rel => exact ⟨k + 1, by omega, by go_num, HP2.out, _, by rw [List.length_set]; exact HLk.out, HP1.out⟩
          case measure => simp [intOf]; omega
        · have hkl' : ¬ (k : Int) < (n : Int) := by omega
          have HOa := Lib.hid (hOk.kept ((Kept.refl wr).alloc (.cells (zl [98, 97]).toArray 3)))
          have HTa := Lib.hid (hTk.kept ((Kept.refl wr).alloc (.cells (zl [98, 97]).toArray 3)))
          clear hTk hOk hl'
          go_wp2_with (at_builtin; refine wpList_append_z rfl _ _ rfl w2.heap.size wr.heap.size _ _ l' [98, 97] rfl rfl HOa.out (LsZ.lit _ [98, 97] (by simp)) ?c1 ?c2 ?_)
          case c1 => have := HLk.out; simp; omega
          case c2 => have := HTk.out.size; have := HB0.out; simp; omega
          intro v' w5 hown hg
          have HT5 := Lib.hid (HTa.out.grownBy hg (fun b hb => by simp [Value.ownBlock] at hb; subst hb; exact HB1.out))
          clear hown hg
          go_wp2
          go_roundw
          case rel => exact ⟨i + 1, by omega, by go_num, HT5.out⟩
          case measure => simp [intOf]; omega
    · have hlt' : ¬ (i : Int) < (N : Int) := by omega
      have HKr := Lib.hid (HTu.out.toKept HK4.out (fun k hB => (HA6.out.num (by decide) hB.mem).1))
      have HA7r := Lib.hid (HA7.out.turned HTu.out (fun k hk hB => by have := HOld.out k hB.mem; omega))
      go_wp2_with fail
      refine (HOf.out _ (HT2.out.kept HKr.out) (HS.out.kept (HK2.out.trans HKr.out))).mono ?_
      rintro e W5 ⟨v10, rfl, hR10, k10⟩
      obtain ⟨a10, c10, rfl⟩ := hR10.slice
      have HR10 := Lib.hid hR10
      have HR7 := Lib.hid (show RowsZ 30 W5 W1.heap.size (.slice a7 N c7) L from ⟨vs7, gs7, HA7r.out.kept k10⟩)
      have HK5 := Lib.hid ((HK2.out.trans HKr.out).trans k10)
      have HL10 := Lib.hid HN.out
      clear hR10 k10
      rw [HN.out] at HR10 ⊢
      go_wp2
      go_loopw [74] (fun t74 wr => ∃ i : Nat, i ≤ N ∧ t74 = .int .i64 i ∧ Kept W5 wr) (fun t74 _ => N - (intOf t74).toNat)
      case atStart => exact ⟨0, by omega, rfl, Kept.refl _⟩
      case round =>
        obtain ⟨j, hj, rfl, hK⟩ := hrel
        have HK := Lib.hid hK
        clear hK
        by_cases hjl : j < N
        · have hjl' : (j : Int) < (N : Int) := by omega
          obtain ⟨l, hl⟩ : ∃ l, L[j]? = some l := ⟨_, List.getElem?_eq_getElem (by have := HN.out; omega)⟩
          obtain ⟨go, c10', ev, _, _, hread⟩ := HR10.out.read (by have := HN.out; omega)
          injection ev with ev1 ev2 ev3
          subst ev1 ev3
          obtain ⟨go7, c7', ev7, _, _, hread7⟩ := HR7.out.read (by have := HN.out; omega)
          injection ev7 with ev71 ev72 ev73
          subst ev71 ev73
          obtain ⟨u, g, hc, hls, _⟩ := hread j l hl
          obtain ⟨u7, g7, hc7, hls7, _⟩ := hread7 j l hl
          obtain ⟨au, cu, rfl⟩ := hls.slice
          obtain ⟨au7, cu7, rfl⟩ := hls7.slice
          have d6 := kept_cell HK.out hc
          have d7 := kept_cell HK.out hc7
          have HLs := Lib.hid (hls.kept HK.out)
          have HLs7 := Lib.hid (hls7.kept HK.out)
          generalize l.length = n at *
          clear hl hread hread7 hc hc7 hls hls7 ev2 ev72
          go_wp2
          refine wp_region_held_drew (S := Kept _) (by kernel_rfl) (Kept.refl _).drew (fun hHeld => ?_)
          refine rg_take (i := 0) (v := (.slice (some ⟨go, 0, none⟩) N c10)) (some 77) rfl rfl (by kernel_rfl) (by kernel_rfl) (by kernel_rfl) (fun _ _ _ h => h) (Or.inl ⟨by rfl, fun _ _ => by go_simp⟩) hHeld ?_
          simp only [Act.put, List.setIfInBounds_toArray, List.set_cons_zero, List.set_cons_succ]
          refine rg_take (i := 1) (v := (.int .i64 (j : Int))) (some 78) rfl rfl (by kernel_rfl) (by kernel_rfl) (by kernel_rfl) (fun _ _ _ h => h) (Or.inl ⟨by rfl, fun _ _ => by go_simp⟩) hHeld ?_
          simp only [Act.put, List.setIfInBounds_toArray, List.set_cons_zero, List.set_cons_succ]
          refine rg_take (i := 2) (v := (.pointer (some ⟨go, j, none⟩))) (some 79) rfl rfl (by kernel_rfl) (by kernel_rfl) (by kernel_rfl) (fun _ _ _ h => h) (Or.inl ⟨by rfl, fun _ _ => by go_simp⟩) hHeld ?_
          simp only [Act.put, List.setIfInBounds_toArray, List.set_cons_zero, List.set_cons_succ]
          refine rg_take (i := 3) (v := (.pointer (some ⟨go, j, none⟩))) (some 80) rfl rfl (by kernel_rfl) (by kernel_rfl) (by kernel_rfl) (fun _ _ _ h => h) (Or.inl ⟨by rfl, fun _ _ => by go_simp⟩) hHeld ?_
          simp only [Act.put, List.setIfInBounds_toArray, List.set_cons_zero, List.set_cons_succ]
          refine rg_take (i := 4) (v := (.slice au n cu)) (some 81) rfl rfl (by kernel_rfl) (by kernel_rfl) (by kernel_rfl) (fun _ _ _ h => h) (Or.inl ⟨by rfl, fun w' h => by have h' := kept_cell h (d6); go_simp⟩) hHeld ?_
          simp only [Act.put, List.setIfInBounds_toArray, List.set_cons_zero, List.set_cons_succ]
          refine rg_take (i := 5) (v := (.slice (some ⟨go7, 0, none⟩) N c7)) (some 82) rfl rfl (by kernel_rfl) (by kernel_rfl) (by kernel_rfl) (fun _ _ _ h => h) (Or.inl ⟨by rfl, fun _ _ => by go_simp⟩) hHeld ?_
          simp only [Act.put, List.setIfInBounds_toArray, List.set_cons_zero, List.set_cons_succ]
          refine rg_take (i := 6) (v := (.int .i64 (j : Int))) (some 83) rfl rfl (by kernel_rfl) (by kernel_rfl) (by kernel_rfl) (fun _ _ _ h => h) (Or.inl ⟨by rfl, fun _ _ => by go_simp⟩) hHeld ?_
          simp only [Act.put, List.setIfInBounds_toArray, List.set_cons_zero, List.set_cons_succ]
          refine rg_take (i := 7) (v := (.pointer (some ⟨go7, j, none⟩))) (some 84) rfl rfl (by kernel_rfl) (by kernel_rfl) (by kernel_rfl) (fun _ _ _ h => h) (Or.inl ⟨by rfl, fun _ _ => by go_simp⟩) hHeld ?_
          simp only [Act.put, List.setIfInBounds_toArray, List.set_cons_zero, List.set_cons_succ]
          refine rg_take (i := 8) (v := (.slice au7 n cu7)) (some 85) rfl rfl (by kernel_rfl) (by kernel_rfl) (by kernel_rfl) (fun _ _ _ h => h) (Or.inl ⟨by rfl, fun w' h => by have h' := kept_cell h (d7); go_simp⟩) hHeld ?_
          simp only [Act.put, List.setIfInBounds_toArray, List.set_cons_zero, List.set_cons_succ]
          refine wpAnyH_ready (rs := [9]) (by kernel_rfl) (by simp) ?_
          refine AllReadyH.cons rfl (fun K hK => ?_) AllReadyH.nil
          go_simp
          refine (sameZ_yes g g7 _ _ l _ (HLs.out.kept hHeld) (HLs7.out.kept hHeld)).mono ?_
          rintro e w3 ⟨rfl, gw3⟩
          refine hK.out _ _ (hHeld.trans gw3) (fun _ => ?_)
          replace hHeld := hHeld.trans gw3
          clear hK K
          refine rg_take (i := 10) (v := (.bool false)) (some 87) rfl rfl (by kernel_rfl) (by kernel_rfl) (by kernel_rfl) (fun _ _ _ h => h) (Or.inl ⟨by rfl, fun _ _ => by go_simp⟩) hHeld ?_
          simp only [Act.put, List.setIfInBounds_toArray, List.set_cons_zero, List.set_cons_succ]
          refine wpAnyH_done (by kernel_rfl) ?_ _
          have HK3r := Lib.hid (HK.out.trans hHeld)
          go_wp2
          go_roundw
          case rel => exact ⟨j + 1, by omega, by go_num, HK3r.out⟩
          case measure => simp [intOf]; omega
        · have hjl' : ¬ (j : Int) < (N : Int) := by omega
          go_wp2
          go_ret
          exact ⟨rfl, HK5.out.trans HK.out⟩
end Go.Proofs.YtkliefojegjhhaaDoor
