/- The order of moves, in worlds that only grow; moves sorted · The tables of layer 10; New, tells, captures, arrive, ahead. (Written by wip/mkged.py.) · ahead, officer. (Written by wip/mkgee.py.) · officer, king. (Written by wip/mkgef.py.). -/
import Derived.Test.YtkebpchhpidogaaGreatDoorPkA17
import Derived.Test.YtkebpchhpidogaaGreatDoorShelfS
namespace Go.Proofs.YtkebpchhpidogaaGreatDoor
open Go.RowKit Go.Sort
set_option linter.unusedVariables false
set_option linter.unusedSimpArgs false
set_option maxRecDepth 100000

/-- New blocks, and draws: nothing else. -/
def Gr (w w' : World) : Prop := ∃ q os, w' = grow (w.drewN q) os
theorem Gr.refl (w : World) : Gr w w := ⟨0, #[], by rw [grow_empty]; rfl⟩
theorem Gr.trans {a b c : World} (h : Gr a b) (k : Gr b c) : Gr a c := by
  obtain ⟨q, os, rfl⟩ := h
  obtain ⟨q', os', rfl⟩ := k
  refine ⟨q + q', os ++ os', ?_⟩
  rw [← grow_grow]
  unfold grow World.drewN
  simp [Nat.add_assoc]
theorem Gr.drewN {a b : World} (h : Gr a b) (n : Nat) : Gr a (b.drewN n) := h.trans ⟨n, #[], by rw [grow_empty]⟩
theorem Gr.drew {a b : World} (h : Gr a b) : Gr a b.drew := h.trans ⟨1, #[], by rw [grow_empty]; rfl⟩
theorem Gr.alloc {a b : World} (h : Gr a b) (o : Obj) : Gr a (b.alloc o) := h.trans ⟨0, #[o], by rw [alloc_eq_grow]; rfl⟩
theorem Gr.kept {a b : World} (h : Gr a b) : Kept a b := by
  obtain ⟨q, os, rfl⟩ := h
  exact ⟨rfl, rfl, by simp [World.drewN], fun k hk => by rw [heap_grow_old _ _ (by exact hk)]; rfl⟩
theorem compare_g (x y : Int) (w : World) : Calls Tryz.prog 84 #[.int .i64 x, .int .i64 y] w fun e w' => e = .returned (.int .i64 (cmpI x y)) ∧ Gr w w' := by
  by_cases h1 : x < y
  · have HV : Hid (cmpI x y = -1) := by show _ = _; unfold cmpI; rw [if_pos h1]
    go_enter Tryz.func84, Tryz.ntmps84
    go_wp2_with fail
    refine (nan_is _ _).mono ?_
    rintro e w' ⟨rfl, rfl⟩
    go_wp2_with fail
    refine (nan_is _ _).mono ?_
    rintro e w' ⟨rfl, rfl⟩
    go_wp2
    go_ret
    exact ⟨by rw [HV.out]; rfl, Gr.refl _⟩
  · by_cases h2 : y < x
    · have HV : Hid (cmpI x y = 1) := by show _ = _; unfold cmpI; rw [if_neg h1, if_pos h2]
      go_enter Tryz.func84, Tryz.ntmps84
      go_wp2_with fail
      refine (nan_is _ _).mono ?_
      rintro e w' ⟨rfl, rfl⟩
      go_wp2_with fail
      refine (nan_is _ _).mono ?_
      rintro e w' ⟨rfl, rfl⟩
      go_wp2
      go_ret
      exact ⟨by rw [HV.out]; rfl, Gr.refl _⟩
    · have HV : Hid (cmpI x y = 0) := by show _ = _; unfold cmpI; rw [if_neg h1, if_neg h2]
      go_enter Tryz.func84, Tryz.ntmps84
      go_wp2_with fail
      refine (nan_is _ _).mono ?_
      rintro e w' ⟨rfl, rfl⟩
      go_wp2_with fail
      refine (nan_is _ _).mono ?_
      rintro e w' ⟨rfl, rfl⟩
      go_wp2
      go_ret
      exact ⟨by rw [HV.out]; rfl, Gr.refl _⟩
theorem or_g (l : List Int) (g : Nat) (w : World) (hc : ∀ j, j < 3 → w.cell? ⟨g, j, none⟩ = some (.int .i64 (l.getD j 0))) :
    Calls Tryz.prog 83 #[.slice (some ⟨g, 0, none⟩) 3 3] w fun e w' => e = .returned (.int .i64 (orI l)) ∧ Gr w w' := by
  have HC := Lib.hid hc
  clear hc
  go_enter Tryz.func83, Tryz.ntmps83
  go_wp2
  go_loopw [8] (fun t8 wr => ∃ k : Nat, k ≤ 3 ∧ t8 = .int .i64 k ∧ (∀ j, j < k → l.getD j 0 = 0) ∧ Gr w wr) (fun t8 _ => 3 - (intOf t8).toNat)
  case atStart => exact ⟨0, by omega, rfl, fun j hj => by omega, Gr.refl _⟩
  case round =>
    obtain ⟨k, hk, rfl, hno, hK⟩ := hrel
    have HNo := Lib.hid hno
    have HK := Lib.hid hK
    clear hno
    by_cases hlt : k < 3
    · have hx := kept_cell hK.kept (HC.out k hlt)
      clear hK
      obtain ⟨x, hxe⟩ : ∃ x, l.getD k 0 = x := ⟨_, rfl⟩
      rw [hxe] at hx
      have HX := Lib.hid hxe
      clear hxe
      by_cases h0 : x = 0
      · have hb : (x != 0) = false := by rw [h0]; rfl
        have H0 := Lib.hid h0
        clear h0
        go_wp2
        go_roundw
        case rel => exact ⟨k + 1, by omega, by go_num, fun j hj => by rcases Nat.lt_succ_iff_lt_or_eq.1 hj with h | h; exact HNo.out j h; rw [h, HX.out]; exact H0.out, HK.out⟩
        case measure => simp [intOf]; omega
      · have hb : (x != 0) = true := bne_iff_ne.2 h0
        have HE := Lib.hid (or_at hlt (by rw [HX.out]; exact h0) HNo.out)
        clear h0
        go_wp2
        go_ret
        exact ⟨by rw [HE.out, HX.out]; rfl, HK.out⟩
    · have HE := Lib.hid (or_none (l := l) (fun j hj => HNo.out j (by omega)))
      clear hK
      go_wp2
      go_ret
      exact ⟨by rw [HE.out]; rfl, HK.out⟩
set_option maxHeartbeats 2000000 in
theorem less_g (a b : Mv) (w : World) : Calls Tryz.prog 57 #[.agg (ml a).toArray, .agg (ml b).toArray] w fun e w' => e = .returned (.bool (lessB a b)) ∧ Gr w w' := by
  have HA : Hid (MAt _ _ a) := ⟨heap_alloc2_old w (.cells (ml a).toArray 35) (.cells (ml b).toArray 35)⟩
  have HB : Hid (MAt _ _ b) := ⟨heap_alloc2_new w (.cells (ml a).toArray 35) (.cells (ml b).toArray 35)⟩
  have HK0 := Lib.hid (((Gr.refl w).alloc (.cells (ml a).toArray 35)).alloc (.cells (ml b).toArray 35))
  have HV := Lib.hid (or_less a b)
  have HC1 := Lib.hid (compare_g a.f b.f)
  have HC2 := Lib.hid (compare_g a.t b.t)
  have HC3 := Lib.hid (compare_g b.p a.p)
  generalize cmpI a.f b.f = c1 at *
  generalize cmpI a.t b.t = c2 at *
  generalize cmpI b.p a.p = c3 at *
  go_enter Tryz.func57, Tryz.ntmps57
  go_wp2
  refine wp_region_held_drew (S := Gr _) (by kernel_rfl) (Gr.refl _).drew (fun hHeld => ?_)
  refine rT 0 5 (.pointer (some ⟨w.heap.size, 0, none⟩)) rfl rfl hHeld ?_
  simp only [pA, pN, sZ, sU]
  refine rC 1 6 (.int .i64 a.f) rfl rfl (fun _ h => kept_cell h.kept (HA.out.f)) hHeld ?_
  simp only [pA, pN, sZ, sU]
  refine rT 2 7 (.pointer (some ⟨w.heap.size + 1, 0, none⟩)) rfl rfl hHeld ?_
  simp only [pA, pN, sZ, sU]
  refine rC 3 8 (.int .i64 b.f) rfl rfl (fun _ h => kept_cell h.kept (HB.out.f)) hHeld ?_
  simp only [pA, pN, sZ, sU]
  refine rT 5 10 (.pointer (some ⟨w.heap.size, 1, none⟩)) rfl rfl hHeld ?_
  simp only [pA, pN, sZ, sU]
  refine rC 6 11 (.int .i64 a.t) rfl rfl (fun _ h => kept_cell h.kept (HA.out.t)) hHeld ?_
  simp only [pA, pN, sZ, sU]
  refine rT 7 12 (.pointer (some ⟨w.heap.size + 1, 1, none⟩)) rfl rfl hHeld ?_
  simp only [pA, pN, sZ, sU]
  refine rC 8 13 (.int .i64 b.t) rfl rfl (fun _ h => kept_cell h.kept (HB.out.t)) hHeld ?_
  simp only [pA, pN, sZ, sU]
  refine rT 10 15 (.pointer (some ⟨w.heap.size + 1, 2, none⟩)) rfl rfl hHeld ?_
  simp only [pA, pN, sZ, sU]
  refine rC 11 16 (.int .i64 b.p) rfl rfl (fun _ h => kept_cell h.kept (HB.out.p)) hHeld ?_
  simp only [pA, pN, sZ, sU]
  refine rT 12 17 (.pointer (some ⟨w.heap.size, 2, none⟩)) rfl rfl hHeld ?_
  simp only [pA, pN, sZ, sU]
  refine rC 13 18 (.int .i64 a.p) rfl rfl (fun _ h => kept_cell h.kept (HA.out.p)) hHeld ?_
  simp only [pA, pN, sZ, sU]
  refine rR 4 rfl (fun K hK => ?_)
  go_simp
  refine (HC1.out _).mono ?_
  rintro e x1 ⟨rfl, gx1⟩
  refine hK.out _ _ (hHeld.trans gx1) (fun _ => ?_)
  replace hHeld := hHeld.trans gx1
  clear hK K
  refine rR 9 rfl (fun K hK => ?_)
  go_simp
  refine (HC2.out _).mono ?_
  rintro e x2 ⟨rfl, gx2⟩
  refine hK.out _ _ (hHeld.trans gx2) (fun _ => ?_)
  replace hHeld := hHeld.trans gx2
  clear hK K
  refine rR 14 rfl (fun K hK => ?_)
  go_simp
  refine (HC3.out _).mono ?_
  rintro e x3 ⟨rfl, gx3⟩
  refine hK.out _ _ (hHeld.trans gx3) (fun _ => ?_)
  replace hHeld := hHeld.trans gx3
  clear hK K
  refine rR 15 rfl (fun K hK => ?_)
  go_simp
  have hnew := heap_alloc_new x3 (.cells #[.int .i64 c1, .int .i64 c2, .int .i64 c3] 3)
  have HCl := Lib.hid (fun j (hj : j < 3) => show (x3.alloc (.cells #[.int .i64 c1, .int .i64 c2, .int .i64 c3] 3)).cell? ⟨x3.heap.size, j, none⟩ = some (.int .i64 (([c1, c2, c3] : List Int).getD j 0)) by
    rw [cell_of_row _ _ j _ _ (0, 0) hnew]
    have : j = 0 ∨ j = 1 ∨ j = 2 := by omega
    rcases this with rfl | rfl | rfl <;> rfl)
  clear hnew
  refine hK.out _ _ (hHeld.alloc _) (fun _ => ?_)
  replace hHeld := hHeld.alloc (.cells #[.int .i64 c1, .int .i64 c2, .int .i64 c3] 3)
  clear hK K
  refine rR 16 rfl (fun K hK => ?_)
  go_simp
  refine (or_g [c1, c2, c3] x3.heap.size _ HCl.out).mono ?_
  rintro e x4 ⟨rfl, gx4⟩
  refine hK.out _ _ (hHeld.trans gx4) (fun _ => ?_)
  replace hHeld := hHeld.trans gx4
  clear hK K
  refine rT 17 22 (.bool (decide (orI [c1, c2, c3] < 0))) rfl rfl hHeld ?_
  simp only [pA, pN, sZ, sU]
  refine rT 18 4 (.bool (decide (orI [c1, c2, c3] < 0))) rfl rfl hHeld ?_
  simp only [pA, pN, sZ, sU]
  refine wpAnyH_done (by kernel_rfl) ?_ _
  go_wp2
  go_ret
  exact ⟨by rw [← HV.out]; rfl, HK0.out.trans hHeld⟩
theorem order_g (a b : Mv) (w : World) : Calls Tryz.prog 34 #[.agg (ml a).toArray, .agg (ml b).toArray] w fun e w' => e = .returned (.int .i64 (ordI a b)) ∧ Gr w w' := by
  have HA : Hid (MAt _ _ a) := ⟨heap_alloc2_old w (.cells (ml a).toArray 35) (.cells (ml b).toArray 35)⟩
  have HB : Hid (MAt _ _ b) := ⟨heap_alloc2_new w (.cells (ml a).toArray 35) (.cells (ml b).toArray 35)⟩
  have HK0 := Lib.hid (((Gr.refl w).alloc (.cells (ml a).toArray 35)).alloc (.cells (ml b).toArray 35))
  have HL1 := Lib.hid (less_g a b)
  have HL2 := Lib.hid (less_g b a)
  have HV : Hid (ordI a b = if lessB a b then -1 else if lessB b a then 1 else 0) := by rfl
  generalize lessB a b = b1 at *
  generalize lessB b a = b2 at *
  cases b1
  · cases b2
    · go_enter Tryz.func34, Tryz.ntmps34
      go_wp2_with (first | (refine wpList_load_mv (by rfl) _ rfl _ rfl _ HA.out ?_) | (refine wpList_load_mv (by rfl) _ rfl _ rfl _ HB.out ?_))
      refine (HL1.out _).mono ?_
      rintro e w1 ⟨rfl, k1⟩
      have HA1 := Lib.hid (MAt.kept HA.out k1.kept)
      have HB1 := Lib.hid (MAt.kept HB.out k1.kept)
      have HK1 := Lib.hid (HK0.out.trans k1)
      clear k1
      go_wp2_with (first | (refine wpList_load_mv (by rfl) _ rfl _ rfl _ HA1.out ?_) | (refine wpList_load_mv (by rfl) _ rfl _ rfl _ HB1.out ?_))
      refine (HL2.out _).mono ?_
      rintro e w2 ⟨rfl, k2⟩
      have HK2 := Lib.hid (HK1.out.trans k2)
      clear k2
      go_wp2
      go_ret
      exact ⟨by rw [HV.out]; rfl, HK2.out⟩
    · go_enter Tryz.func34, Tryz.ntmps34
      go_wp2_with (first | (refine wpList_load_mv (by rfl) _ rfl _ rfl _ HA.out ?_) | (refine wpList_load_mv (by rfl) _ rfl _ rfl _ HB.out ?_))
      refine (HL1.out _).mono ?_
      rintro e w1 ⟨rfl, k1⟩
      have HA1 := Lib.hid (MAt.kept HA.out k1.kept)
      have HB1 := Lib.hid (MAt.kept HB.out k1.kept)
      have HK1 := Lib.hid (HK0.out.trans k1)
      clear k1
      go_wp2_with (first | (refine wpList_load_mv (by rfl) _ rfl _ rfl _ HA1.out ?_) | (refine wpList_load_mv (by rfl) _ rfl _ rfl _ HB1.out ?_))
      refine (HL2.out _).mono ?_
      rintro e w2 ⟨rfl, k2⟩
      have HK2 := Lib.hid (HK1.out.trans k2)
      clear k2
      go_wp2
      go_ret
      exact ⟨by rw [HV.out]; rfl, HK2.out⟩
  · go_enter Tryz.func34, Tryz.ntmps34
    go_wp2_with (first | (refine wpList_load_mv (by rfl) _ rfl _ rfl _ HA.out ?_) | (refine wpList_load_mv (by rfl) _ rfl _ rfl _ HB.out ?_))
    refine (HL1.out _).mono ?_
    rintro e w1 ⟨rfl, k1⟩
    have HK1 := Lib.hid (HK0.out.trans k1)
    clear k1
    go_wp2
    go_ret
    exact ⟨by rw [HV.out]; rfl, HK1.out⟩
instance : Inhabited Mv := ⟨Zm⟩
theorem swoM : SWO (ltOf ordI) := by
  refine ⟨fun x => ?_, fun x y z h1 h2 => ?_, fun x y z h1 h2 => ?_⟩
  · show decide (ordI x x < 0) = false
    rw [ord_less, less_irr]
  · have a1 : decide (ordI x y < 0) = true := h1
    have a2 : decide (ordI y z < 0) = true := h2
    show decide (ordI x z < 0) = true
    rw [ord_less] at *
    exact less_trans a1 a2
  · have a1 : decide (ordI x y < 0) = false := h1
    have a2 : decide (ordI y z < 0) = false := h2
    show decide (ordI x z < 0) = false
    rw [ord_less] at *
    exact less_ntrans a1 a2
theorem totM (x y : Mv) (h1 : ltOf ordI x y = false) (h2 : ltOf ordI y x = false) : x = y := by
  have a1 : decide (ordI x y < 0) = false := h1
  have a2 : decide (ordI y x < 0) = false := h2
  rw [ord_less] at a1 a2
  exact (beqM_iff x y).1 (less_eq a1 a2)
theorem flatM_at (L : List Mv) (t : Nat) (h : t < L.length * 3) : (mlL L)[t]? = some ((ml (L.toArray[t / 3]!))[t % 3]!) := by
  have hi : t / 3 < L.length := by omega
  have e1 : L[t / 3]? = some (L.toArray[t / 3]!) := by
    rw [List.getElem?_eq_getElem hi]
    simp [hi]
  have := mlL_at L (t / 3) (t % 3) _ e1 (by omega)
  rw [show 3 * (t / 3) + t % 3 = t by omega] at this
  rw [this]
  have h3 : t % 3 < (ml (L.toArray[t / 3]!)).length := by show _ < 3; omega
  rw [List.getElem?_eq_getElem h3]
  exact congrArg some (getElem!_pos (ml (L.toArray[t / 3]!)) (t % 3) h3).symm
theorem holdsM {w : World} {g : Nat} {cur : Array Value} {e : TypeId} {L : List Mv} (hb : w.heap[g]? = some (.cells cur e (0, 0))) (ht : cur.toList.take (L.length * 3) = mlL L) : HoldsK ml 3 w g 0 L.toArray := by
  intro t hj
  have hj' : t < L.length * 3 := by simpa using hj
  refine ⟨?_, by simp [World.frozen?, hb]⟩
  rw [get_flatK _ _ _ _ (by simpa using hj'), Nat.zero_add, cell_of_row w g t cur _ (0, 0) hb]
  have h1 : (cur.toList.take (L.length * 3))[t]? = (mlL L)[t]? := by rw [ht]
  rw [List.getElem?_take_of_lt hj', Array.getElem?_toList, flatM_at L t hj'] at h1
  rw [h1]; rfl
theorem sorted_heap {w : World} {g n : Nat} {os : Array Obj} {cur : Array Value} {e : TypeId} {fr : Nat × Nat} (d : Array Value) (hb : w.heap[g]? = some (.cells cur e fr)) :
    (grow (putRow id (Sort.ahead w n) g 0 d) os).heap[g]? = some (.cells (putCells id 0 d cur) e fr) := by
  have hg : g < w.heap.size := (Array.getElem?_eq_some_iff.1 hb).1
  rw [heap_grow_old _ _ (by simpa using hg)]
  simp [putRow, mapBlock, Sort.ahead, Array.getElem?_modify, hb, onCells]
theorem sorted_grown {w : World} {g n : Nat} {os : Array Obj} (d : Array Value) : w.grownBy (grow (putRow id (Sort.ahead w n) g 0 d) os) (some g) := by
  refine ⟨rfl, rfl, rfl, by simp, fun k hk hne => ?_⟩
  rw [heap_grow_old _ _ (by simpa using hk)]
  have : g ≠ k := fun e => hne (by rw [e])
  simp [putRow, mapBlock, Sort.ahead, Array.getElem?_modify, this]
theorem take_put (cur : Array Value) (L : List Mv) (h : L.length * 3 ≤ cur.size) : (putCells id 0 (flatK ml 3 L.toArray) cur).toList.take (L.length * 3) = mlL L := by
  apply List.ext_getElem?
  intro j
  by_cases hj : j < L.length * 3
  · rw [List.getElem?_take_of_lt hj, Array.getElem?_toList, flatM_at L j hj]
    have hf : j < (flatK ml 3 L.toArray).size := by simpa using hj
    have hg := get_flatK ml 3 L.toArray j (by simpa using hj)
    have hc : j < cur.size := by omega
    rw [← hg]
    simp [putCells, hf, hc]
    intro hh
    omega
  · rw [List.getElem?_take_eq_none (by omega), List.getElem?_eq_none (by rw [mlL_len]; omega)]
theorem sortM_own (w : World) (base : Nat) (v : Value) (L : List Mv) (h : OwnM w base v L) (hl : L.length ≤ 100000) :
    Calls Tryz.prog 33 #[v, .func (.func 34) #[] #[]] w fun e w' => e = .returned (.tuple #[]) ∧ OwnM w' base v (L.mergeSort fun x y => !lessB y x) ∧ w.grownBy w' v.ownBlock := by
  have hle : (L.mergeSort fun x y => !lessB y x).length = L.length := (List.mergeSort_perm L _).length_eq
  rcases h.2 with ⟨rfl, h0⟩ | ⟨g, cap, cur, rfl, hb, hh, h1, h2, h3, h4⟩
  · refine (AnyF.slices_SortFunc_none (P := Tryz.prog) Tryz.sortMv none 0 _ w).mono ?_
    rintro e w' ⟨rfl, rfl⟩
    have : L = [] := List.eq_nil_of_length_eq_zero h0
    subst this
    exact ⟨rfl, by simpa using h, rfl, rfl, rfl, Nat.le_refl _, fun _ _ _ => rfl⟩
  · have eg : ∀ args w, (callFunc 34 args).run Tryz.prog w = .ok (.enter 34 args) w := enters_of Tryz.func34 (by kernel_rfl) rfl
    have hcon := AnyQ.slices_SortFunc_total (P := Tryz.prog) Tryz.sortMv 3 Tryz.isAgg35 Tryz.sizeOf35 ml (fun _ => rfl)
      (fun x v hv => by simp only [ml, List.mem_cons, List.not_mem_nil, or_false] at hv; rcases hv with rfl | rfl | rfl <;> rfl)
      ordI swoM 34 #[] g 0 cap L.toArray w eg (fun _ _ _ _ x y => order_g x y _) (holdsM hh h4) (lt_of_heap hh) (by simp; omega) totM
    have he : (fun x y : Mv => !ltOf ordI y x) = fun x y => !lessB y x := by
      funext x y
      show (!decide (ordI y x < 0)) = _
      rw [ord_less]
    rw [he] at hcon
    have hsz : L.toArray.size = L.length := by simp
    rw [hsz] at hcon
    refine hcon.mono ?_
    rintro e w' ⟨rfl, n, os, rfl⟩
    refine ⟨rfl, ?_, sorted_grown _⟩
    refine ⟨by rw [mlL_len], .inr ⟨g, cap, _, by rw [hle], hb, sorted_heap _ hh, by rw [hle]; exact h1, h2, by simp [putCells, h3], ?_⟩⟩
    exact take_put cur _ (by rw [hle]; omega)
end Go.Proofs.YtkebpchhpidogaaGreatDoor
namespace Go.Proofs.YtkebpchhpidogaaGreatDoor
open Go.RowKit
set_option linter.unusedVariables false
set_option linter.unusedSimpArgs false
set_option maxRecDepth 100000

/-- The tables of layer 10. -/
def gpL : List Int := [5, 4, 3, 2]
def gpV : List Value := gpL.map (Value.int .i64)
def maL : List Int := [1, 1, 7, -1, 6, 0]
def swL : List Int := [-2, 2]
def swV : List Value := swL.map (Value.int .i64)
structure TabG (w : World) : Prop where
  tabm : TabM w
  prom : ∀ i, i < 4 → w.cell? ⟨7, i, none⟩ = some (.int .i64 (gpL.getD i 0))
  mar : ∀ i, i < 6 → w.cell? ⟨6, i, none⟩ = some (.int .i64 (maL.getD i 0))
  side : ∀ i, i < 2 → w.cell? ⟨4, i, none⟩ = some (.int .i64 (swL.getD i 0))
theorem TabG.kept {w w' : World} (h : TabG w) (k : Kept w w') : TabG w' :=
  ⟨h.tabm.kept k, fun i hi => kept_cell k (h.prom i hi), fun i hi => kept_cell k (h.mar i hi), fun i hi => kept_cell k (h.side i hi)⟩
theorem size_gp : (Tryz.prog.info? 119).map (·.size) = some gpV.length := by kernel_rfl
theorem size_sw : (Tryz.prog.info? 69).map (·.size) = some swV.length := by kernel_rfl
theorem TabG.promR {w : World} (h : TabG w) : w.rangeAt 7 0 gpV := range_of rfl h.prom
theorem TabG.sideR {w : World} (h : TabG w) : w.rangeAt 4 0 swV := range_of rfl h.side
theorem size_int (w : World) : (sizeOf 3).run Tryz.prog w = .ok 1 w := by
  have h0 : (Tryz.prog.info? 3).map (·.size) = some 1 := by kernel_rfl
  cases hq : Tryz.prog.info? 3 with
  | none => simp [hq] at h0
  | some i => simp [hq] at h0; simp [sizeOf, typeInfo, hq, h0]
theorem run_index_gp (k : Nat) (hk : k < 4) (w : World) : (Instr.index 119 (.agg gpV.toArray) (.int .i64 k)).run Tryz.prog w = .ok (.int .i64 (gpL.getD k 0)) w := by
  have h1 : (0 : Int) ≤ (k : Int) ∧ (k : Int) < ((4 : Nat) : Int) := by omega
  simp only [Instr.index, asIntOf, Sem.run_bind, Sem.run_pure, Result.andThen_ok, run_underlying Tryz.underlying119, if_pos h1, size_int]
  simp only [part, isAgg, Sem.run_bind, Sem.run_pure, Result.andThen_ok, run_underlying Tryz.underlying3, if_true, size_int, Int.toNat_natCast]
  have : k = 0 ∨ k = 1 ∨ k = 2 ∨ k = 3 := by omega
  rcases this with rfl | rfl | rfl | rfl <;> rfl
theorem run_index_sw (k : Nat) (hk : k < 2) (w : World) : (Instr.index 69 (.agg swV.toArray) (.int .i64 k)).run Tryz.prog w = .ok (.int .i64 (swL.getD k 0)) w := by
  have h1 : (0 : Int) ≤ (k : Int) ∧ (k : Int) < ((2 : Nat) : Int) := by omega
  simp only [Instr.index, asIntOf, Sem.run_bind, Sem.run_pure, Result.andThen_ok, run_underlying Tryz.underlying69, if_pos h1, size_int]
  simp only [part, isAgg, Sem.run_bind, Sem.run_pure, Result.andThen_ok, run_underlying Tryz.underlying3, if_true, size_int, Int.toNat_natCast]
  have : k = 0 ∨ k = 1 := by omega
  rcases this with rfl | rfl <;> rfl
/-- Where a Gen keeps its Eye. -/
def EyeAt (w : World) (g : Nat) (a : Addr) : Prop := w.cell? ⟨g, 0, none⟩ = some (.pointer (some a))
theorem EyeAt.kept {w w' : World} {g : Nat} {a : Addr} (h : EyeAt w g a) (k : Kept w w') : EyeAt w' g a := kept_cell k h
theorem bt_gen (a : Addr) : Tryz.prog.built 48 [(0, .pointer (some a))] = some #[.pointer (some a)] := by kernel_rfl
theorem gnew_is (w : World) : Calls Tryz.prog 6 #[] w fun e w' => ∃ g a, e = .returned (.pointer (some ⟨g, 0, none⟩)) ∧ EyeAt w' g a ∧ Kept w w' := by
  go_enter Tryz.func6, Tryz.ntmps6
  go_wp2_with fail
  refine (new_is _).mono ?_
  rintro e w1 ⟨⟨a, rfl⟩, k1⟩
  have HK := Lib.hid k1
  clear k1
  go_wp2_with (refine wpList_built rfl 48 _ rfl #[.pointer (some a)] (bt_gen a) ?_)
  go_ret
  exact ⟨w1.heap.size, a, rfl, cell_box (heap_alloc_new w1 _), HK.out.alloc _⟩
theorem tells_is (g : Addr) (p : Ps) (hB : Brd p.B) (w : World) (hT : TabG w) : Calls Tryz.prog 18 #[.pointer (some g), .agg (pl p).toArray] w fun e w' => e = .returned (.bool (pwI p == 0)) ∧ Kept w w' := by
  have HP := Lib.hid (PAt.new w hB.1)
  have HK0 := Lib.hid ((Kept.refl w).alloc (.cells (pl p).toArray 26))
  have HW := Lib.hid (fun w hw => pwrong_is p hB w hw)
  have HT := Lib.hid (hT.kept HK0.out)
  generalize pwI p = x at *
  clear hB hT
  go_enter Tryz.func18, Tryz.ntmps18
  go_wp2_with (first | (refine wpList_load_ps (by rfl) _ rfl _ rfl _ (HP.out) ?_) | (refine wpList_load_pb (by rfl) _ rfl _ rfl _ (HP.out) ?_))
  refine (HW.out _ HT.out.tabm.tabs).mono ?_
  rintro e w1 ⟨rfl, k1⟩
  have HK1 := Lib.hid (HK0.out.trans k1)
  clear k1
  go_wp2
  go_ret
  exact ⟨rfl, HK1.out⟩
theorem tells_nil (p : Ps) (hB : Brd p.B) (w : World) : Calls Tryz.prog 18 #[.pointer none, .agg (pl p).toArray] w fun e w' => e = .returned (.bool false) ∧ Kept w w' := by
  have HK0 := Lib.hid ((Kept.refl w).alloc (.cells (pl p).toArray 26))
  go_enter Tryz.func18, Tryz.ntmps18
  go_wp2
  go_ret
  exact ⟨rfl, HK0.out⟩
theorem captures_is (p : Ps) (hB : Brd p.B) (x : Int) (x0 : 0 ≤ x) (x1 : x < 64) (w : World) : Calls Tryz.prog 70 #[.agg (pl p).toArray, .int .i64 x] w fun e w' => e = .returned (.bool (capB p x)) ∧ Kept w w' := by
  have HP := Lib.hid (PAt.new w hB.1)
  have HK0 := Lib.hid ((Kept.refl w).alloc (.cells (pl p).toArray 26))
  have hpl : Hid (p.B.length = 64) := hB.1
  have HC := Lib.hid (man_a p.B hB x)
  have HV : Hid (capB p x = ((x == p.e) || (sideI (manA p.B x) == otherI p.t))) := by show _ = _; unfold capB manA; rw [if_pos ⟨x0, x1⟩]
  generalize manA p.B x = y at *
  clear hB x0 x1
  cases h1 : (x == p.e)
  · rw [h1] at HV
    go_enter Tryz.func70, Tryz.ntmps70
    go_wp2
    refine wp_region_held_drew (S := Kept _) (by kernel_rfl) (Kept.refl _).drew (fun hHeld => ?_)
    refine rT 0 5 (.int .i64 x) rfl rfl hHeld ?_
    simp only [pA, pN, sZ, sU]
    refine rT 1 6 (.pointer (some ⟨w.heap.size, 66, none⟩)) rfl rfl hHeld ?_
    simp only [pA, pN, sZ, sU]
    refine rC 2 7 (.int .i64 p.e) rfl rfl (fun _ h => kept_cell h (HP.out.ep)) hHeld ?_
    simp only [pA, pN, sZ, sU]
    refine rT 3 8 (.bool false) rfl rfl hHeld ?_
    simp only [pA, pN, sZ, sU]
    refine rT 4 9 (.bool false) rfl rfl hHeld ?_
    simp only [pA, pN, sZ, sU]
    refine rT 5 10 (.pointer (some ⟨w.heap.size, 0, none⟩)) rfl rfl hHeld ?_
    simp only [pA, pN, sZ, sU]
    refine rY 6 11 rfl rfl (take_load_pb (by rfl) _ rfl _ rfl p hpl.out (fun _ h => (HP.out).kept h)) hHeld ?_
    simp only [pA, pN, sZ, sU]
    refine rT 7 12 (.int .i64 x) rfl rfl hHeld ?_
    simp only [pA, pN, sZ, sU]
    refine rT 10 15 (.pointer (some ⟨w.heap.size, 64, none⟩)) rfl rfl hHeld ?_
    simp only [pA, pN, sZ, sU]
    refine rC 11 16 (.int .i64 p.t) rfl rfl (fun _ h => kept_cell h (HP.out.turn)) hHeld ?_
    simp only [pA, pN, sZ, sU]
    refine rR 8 rfl (fun K hK => ?_)
    go_simp
    refine (HC.out _).mono ?_
    rintro e w1 ⟨rfl, gw1⟩
    refine hK.out _ _ (hHeld.trans gw1) (fun _ => ?_)
    replace hHeld := hHeld.trans gw1
    clear hK K
    refine rR 9 rfl (fun K hK => ?_)
    go_simp
    refine (mside_k y _).mono ?_
    rintro e w2 ⟨rfl, gw2⟩
    refine hK.out _ _ (hHeld.trans gw2) (fun _ => ?_)
    replace hHeld := hHeld.trans gw2
    clear hK K
    refine rR 12 rfl (fun K hK => ?_)
    go_simp
    refine (other_any p.t _).mono ?_
    rintro e w3 ⟨rfl, gw3⟩
    refine hK.out _ _ (hHeld.trans gw3) (fun _ => ?_)
    replace hHeld := hHeld.trans gw3
    clear hK K
    generalize hq : (sideI y == otherI p.t) = q at *
    refine rT 13 18 (.bool q) rfl rfl hHeld ?_
    simp only [pA, pN, sZ, sU]
    refine rT 14 19 (.bool q) rfl rfl hHeld ?_
    simp only [pA, pN, sZ, sU]
    refine rT 15 4 (.bool q) rfl rfl hHeld ?_
    simp only [pA, pN, sZ, sU]
    refine wpAnyH_done (by kernel_rfl) ?_ _
    go_wp2
    go_ret
    exact ⟨by rw [HV.out]; rfl, HK0.out.trans hHeld⟩
  · rw [h1] at HV
    go_enter Tryz.func70, Tryz.ntmps70
    go_wp2
    refine wp_region_held_drew (S := Kept _) (by kernel_rfl) (Kept.refl _).drew (fun hHeld => ?_)
    refine rT 0 5 (.int .i64 x) rfl rfl hHeld ?_
    simp only [pA, pN, sZ, sU]
    refine rT 1 6 (.pointer (some ⟨w.heap.size, 66, none⟩)) rfl rfl hHeld ?_
    simp only [pA, pN, sZ, sU]
    refine rC 2 7 (.int .i64 p.e) rfl rfl (fun _ h => kept_cell h (HP.out.ep)) hHeld ?_
    simp only [pA, pN, sZ, sU]
    refine rT 3 8 (.bool true) rfl rfl hHeld ?_
    simp only [pA, pN, sZ, sU]
    refine rT 4 9 (.bool true) rfl rfl hHeld ?_
    simp only [pA, pN, sZ, sU]
    refine rN 5 10 rfl rfl hHeld ?_
    simp only [pA, pN, sZ, sU]
    refine rN 6 11 rfl rfl hHeld ?_
    simp only [pA, pN, sZ, sU]
    refine rN 7 12 rfl rfl hHeld ?_
    simp only [pA, pN, sZ, sU]
    refine rN 8 13 rfl rfl hHeld ?_
    simp only [pA, pN, sZ, sU]
    refine rN 9 14 rfl rfl hHeld ?_
    simp only [pA, pN, sZ, sU]
    refine rN 10 15 rfl rfl hHeld ?_
    simp only [pA, pN, sZ, sU]
    refine rN 11 16 rfl rfl hHeld ?_
    simp only [pA, pN, sZ, sU]
    refine rN 12 17 rfl rfl hHeld ?_
    simp only [pA, pN, sZ, sU]
    refine rN 13 18 rfl rfl hHeld ?_
    simp only [pA, pN, sZ, sU]
    refine rT 14 19 (.bool true) rfl rfl hHeld ?_
    simp only [pA, pN, sZ, sU]
    refine rT 15 4 (.bool true) rfl rfl hHeld ?_
    simp only [pA, pN, sZ, sU]
    refine wpAnyH_done (by kernel_rfl) ?_ _
    go_wp2
    go_ret
    exact ⟨by rw [HV.out]; rfl, HK0.out.trans hHeld⟩
theorem OwnM.lit (w : World) (m : Mv) (b : Nat) (hb : b ≤ w.heap.size) : OwnM (w.alloc (.cells (ml m).toArray 35)) b (.slice (some ⟨w.heap.size, 0, none⟩) 1 1) [m] := by
  have := World.ownsRow_lit (base := b) (e := 35) (size := 3) w (ml m).toArray 1 hb (by unfold maxLen; omega) (by rfl)
  show (w.alloc (.cells (ml m).toArray 35)).ownsRow b 35 3 (.slice (some ⟨w.heap.size, 0, none⟩) 1 1) 1 (mlL [m])
  have e : mlL [m] = (ml m).toArray.toList := by simp [mlL]
  rw [e]
  exact this
theorem arr_not {p : Ps} {s : Nat} {to : Int} (h : to / 8 ≠ lastI p.t) : arrN p s to = [⟨s, to, 0⟩] := by unfold arrN; rw [if_pos h]
def arP (s : Nat) (to : Int) (k : Nat) : List Mv := (gpL.take k).map fun x => ⟨s, to, x⟩
theorem arr_yes {p : Ps} {s : Nat} {to : Int} (h : to / 8 = lastI p.t) : arrN p s to = arP s to 4 := by unfold arrN; rw [if_neg (by simpa using h)]; rfl
theorem arP_succ (s : Nat) (to : Int) (k : Nat) (hk : k < 4) : arP s to (k + 1) = arP s to k ++ [⟨s, to, gpL.getD k 0⟩] := by
  have : k = 0 ∨ k = 1 ∨ k = 2 ∨ k = 3 := by omega
  rcases this with rfl | rfl | rfl | rfl <;> rfl
theorem arP_len (s : Nat) (to : Int) (k : Nat) : (arP s to k).length ≤ 4 := by
  unfold arP; rw [List.length_map, List.length_take]; show min k 4 ≤ 4; omega
set_option maxHeartbeats 2000000 in
theorem arrive_w (p : Ps) (hB : Brd p.B) (hp : p.t = 0) (s : Nat) (x : Int) (x0 : 0 ≤ x) (x1 : x < 64) (w : World) (hT : TabG w) : Calls Tryz.prog 68 #[.agg (pl p).toArray, .int .i64 (s : Int), .int .i64 x] w (NewM w (arrN p s x)) := by
  have HP := Lib.hid (PAt.new w hB.1)
  have HK0 := Lib.hid ((Kept.refl w).alloc (.cells (pl p).toArray 26))
  have HT := Lib.hid (hT.kept HK0.out)
  have ht := HP.out.turn
  rw [hp] at ht
  have HTn := Lib.hid ht
  have hm := HT.out.mar 2 (by omega)
  have HMr : Hid ((w.alloc (.cells (pl p).toArray 26)).cell? ⟨6, 2, none⟩ = some (.int .i64 7)) := hm
  have HRk := Lib.hid (fun w => rank_any x w)
  have hrk : rkI x = x / 8 := by unfold rkI; rw [if_pos ⟨x0, x1⟩]
  rw [hrk] at HRk
  have hl : lastI p.t = 7 := by rw [hp]; rfl
  clear hrk ht hm hB hT
  by_cases h : x / 8 = 7
  · have HE := Lib.hid (arr_yes (p := p) (s := s) (to := x) (by rw [hl]; exact h))
    rw [h] at HRk
    clear h hl hp x0 x1
    go_enter Tryz.func68, Tryz.ntmps68
    go_wp2
    refine wp_region_held_drew (S := Kept _) (by kernel_rfl) (Kept.refl _).drew (fun hHeld => ?_)
    refine rT 0 10 (.int .i64 x) rfl rfl hHeld ?_
    simp only [pA, pN, sZ, sU]
    refine rT 2 12 (.pointer (some ⟨w.heap.size, 64, none⟩)) rfl rfl hHeld ?_
    simp only [pA, pN, sZ, sU]
    refine rC 3 13 (.int .i64 0) rfl rfl (fun _ h => kept_cell h (HTn.out)) hHeld ?_
    simp only [pA, pN, sZ, sU]
    refine rT 4 14 (.pointer (some ⟨6, 0, none⟩)) rfl rfl hHeld ?_
    simp only [pA, pN, sZ, sU]
    refine rT 5 15 (.pointer (some ⟨6, 2, none⟩)) rfl rfl hHeld ?_
    simp only [pA, pN, sZ, sU]
    refine rC 6 16 (.int .i64 7) rfl rfl (fun _ h => kept_cell h (HMr.out)) hHeld ?_
    simp only [pA, pN, sZ, sU]
    refine rR 1 rfl (fun K hK => ?_)
    go_simp
    refine (HRk.out _).mono ?_
    rintro e w1 ⟨rfl, gw1⟩
    refine hK.out _ _ (hHeld.trans gw1) (fun _ => ?_)
    replace hHeld := hHeld.trans gw1
    clear hK K
    refine rT 7 17 (.bool false) rfl rfl hHeld ?_
    simp only [pA, pN, sZ, sU]
    refine wpAnyH_done (by kernel_rfl) ?_ _
    have HK1 := Lib.hid (HK0.out.trans hHeld)
    have HT1 := Lib.hid (HT.out.kept hHeld)
    clear hHeld
    go_wp2_with (refine wpList_load_mid rfl 119 _ rfl 7 0 rfl gpV _ HT1.out.promR Tryz.underlying119 rfl size_gp ?_)
    go_loopw [7, 23] (fun t7 t23 wr => ∃ k : Nat, k ≤ 4 ∧ t23 = .int .i64 k ∧ OwnM wr w1.heap.size t7 (arP s x k) ∧ Kept w1 wr) (fun _ t23 _ => 4 - (intOf t23).toNat)
    case atStart => exact ⟨0, by omega, rfl, OwnM.nil _ _, Kept.refl _⟩
    case round =>
      obtain ⟨k, hk, rfl, hO, hK⟩ := hrel
      obtain ⟨a, cap, rfl⟩ := hO.slice
      have HO := Lib.hid hO
      have HK := Lib.hid hK
      have hLn := Lib.hid (arP_len s x k)
      clear hO hK
      by_cases hlt : k < 4
      · have hx := run_index_gp k hlt
        have HS := Lib.hid (arP_succ s x k hlt)
        generalize gpL.getD k 0 = y at *
        generalize hln : (arP s x k).length = n at *
        have HN := Lib.hid hln
        clear hln
        have KA := Lib.hid ((Kept.refl wr).alloc (.cells (ml ⟨s, x, y⟩).toArray 35))
        go_wp2_with (first | (refine wpList_bt_mv3 rfl _ _ _ rfl (s : Int) x y rfl rfl rfl ?_) | (refine wpList_bslice_mv rfl _ rfl ⟨s, x, y⟩ rfl ?_) | (at_builtin; refine wpList_append_m rfl _ _ rfl w1.heap.size wr.heap.size _ _ (arP s x k) [⟨s, x, y⟩] rfl rfl (HO.out.kept KA.out) (LsM.lit _ _) ?c1 ?c2 ?_))
        case c1 => have := HN.out; have := hLn.out; simp; omega
        case c2 => have := HK.out.size; simp; omega
        intro v' w2 hO' hg
        have hK2 := (HO.out.kept KA.out).grown (HK.out.trans KA.out) (Nat.le_refl _) hg
        rw [← HS.out] at hO'
        obtain ⟨a', cap', rfl⟩ := hO'.slice
        have HO2 := Lib.hid hO'
        have HK2 := Lib.hid hK2
        clear hO' hK2 hg
        generalize (arP s x (k + 1)).length = n' at *
        go_wp2
        go_roundw
        case rel => exact ⟨k + 1, by omega, by go_num, HO2.out, HK2.out⟩
        case measure => simp [intOf]; omega
      · obtain rfl : k = 4 := by omega
        go_wp2
        go_ret
        exact ⟨_, rfl, by rw [HE.out]; exact HO.out.low HK1.out.size, HK1.out.trans HK.out⟩
  · have HE := Lib.hid (arr_not (p := p) (s := s) (to := x) (by rw [hl]; exact h))
    generalize x / 8 = r at *
    have hb : (r != 7) = true := bne_iff_ne.2 h
    clear h hl hp x0 x1
    go_enter Tryz.func68, Tryz.ntmps68
    go_wp2
    refine wp_region_held_drew (S := Kept _) (by kernel_rfl) (Kept.refl _).drew (fun hHeld => ?_)
    refine rT 0 10 (.int .i64 x) rfl rfl hHeld ?_
    simp only [Act.put, sA, sZ, sU]
    refine rT 2 12 (.pointer (some ⟨w.heap.size, 64, none⟩)) rfl rfl hHeld ?_
    simp only [pA, pN, sZ, sU]
    refine rC 3 13 (.int .i64 0) rfl rfl (fun _ h => kept_cell h (HTn.out)) hHeld ?_
    simp only [pA, pN, sZ, sU]
    refine rT 4 14 (.pointer (some ⟨6, 0, none⟩)) rfl rfl hHeld ?_
    simp only [pA, pN, sZ, sU]
    refine rT 5 15 (.pointer (some ⟨6, 2, none⟩)) rfl rfl hHeld ?_
    simp only [pA, pN, sZ, sU]
    refine rC 6 16 (.int .i64 7) rfl rfl (fun _ h => kept_cell h (HMr.out)) hHeld ?_
    simp only [pA, pN, sZ, sU]
    refine rR 1 rfl (fun K hK => ?_)
    go_simp
    refine (HRk.out _).mono ?_
    rintro e w1 ⟨rfl, gw1⟩
    refine hK.out _ _ (hHeld.trans gw1) (fun _ => ?_)
    replace hHeld := hHeld.trans gw1
    clear hK K
    refine rT 7 17 (.bool true) rfl rfl hHeld ?_
    simp only [pA, pN, sZ, sU]
    refine wpAnyH_done (by kernel_rfl) ?_ _
    have HK1 := Lib.hid (HK0.out.trans hHeld)
    clear hHeld
    go_wp2_with (first | (refine wpList_bt_mv2 rfl _ _ rfl (s : Int) x rfl rfl ?_) | (refine wpList_bslice_mv rfl _ rfl ⟨s, x, 0⟩ rfl ?_))
    go_ret
    exact ⟨_, rfl, by rw [HE.out]; exact OwnM.lit _ _ _ HK1.out.size, HK1.out.alloc _⟩
set_option maxHeartbeats 2000000 in
theorem arrive_b (p : Ps) (hB : Brd p.B) (hp : p.t = 1) (s : Nat) (x : Int) (x0 : 0 ≤ x) (x1 : x < 64) (w : World) (hT : TabG w) : Calls Tryz.prog 68 #[.agg (pl p).toArray, .int .i64 (s : Int), .int .i64 x] w (NewM w (arrN p s x)) := by
  have HP := Lib.hid (PAt.new w hB.1)
  have HK0 := Lib.hid ((Kept.refl w).alloc (.cells (pl p).toArray 26))
  have HT := Lib.hid (hT.kept HK0.out)
  have ht := HP.out.turn
  rw [hp] at ht
  have HTn := Lib.hid ht
  have hm := HT.out.mar 5 (by omega)
  have HMr : Hid ((w.alloc (.cells (pl p).toArray 26)).cell? ⟨6, 5, none⟩ = some (.int .i64 0)) := hm
  have HRk := Lib.hid (fun w => rank_any x w)
  have hrk : rkI x = x / 8 := by unfold rkI; rw [if_pos ⟨x0, x1⟩]
  rw [hrk] at HRk
  have hl : lastI p.t = 0 := by rw [hp]; rfl
  clear hrk ht hm hB hT
  by_cases h : x / 8 = 0
  · have HE := Lib.hid (arr_yes (p := p) (s := s) (to := x) (by rw [hl]; exact h))
    rw [h] at HRk
    clear h hl hp x0 x1
    go_enter Tryz.func68, Tryz.ntmps68
    go_wp2
    refine wp_region_held_drew (S := Kept _) (by kernel_rfl) (Kept.refl _).drew (fun hHeld => ?_)
    refine rT 0 10 (.int .i64 x) rfl rfl hHeld ?_
    simp only [pA, pN, sZ, sU]
    refine rT 2 12 (.pointer (some ⟨w.heap.size, 64, none⟩)) rfl rfl hHeld ?_
    simp only [pA, pN, sZ, sU]
    refine rC 3 13 (.int .i64 1) rfl rfl (fun _ h => kept_cell h (HTn.out)) hHeld ?_
    simp only [pA, pN, sZ, sU]
    refine rT 4 14 (.pointer (some ⟨6, 3, none⟩)) rfl rfl hHeld ?_
    simp only [pA, pN, sZ, sU]
    refine rT 5 15 (.pointer (some ⟨6, 5, none⟩)) rfl rfl hHeld ?_
    simp only [pA, pN, sZ, sU]
    refine rC 6 16 (.int .i64 0) rfl rfl (fun _ h => kept_cell h (HMr.out)) hHeld ?_
    simp only [pA, pN, sZ, sU]
    refine rR 1 rfl (fun K hK => ?_)
    go_simp
    refine (HRk.out _).mono ?_
    rintro e w1 ⟨rfl, gw1⟩
    refine hK.out _ _ (hHeld.trans gw1) (fun _ => ?_)
    replace hHeld := hHeld.trans gw1
    clear hK K
    refine rT 7 17 (.bool false) rfl rfl hHeld ?_
    simp only [pA, pN, sZ, sU]
    refine wpAnyH_done (by kernel_rfl) ?_ _
    have HK1 := Lib.hid (HK0.out.trans hHeld)
    have HT1 := Lib.hid (HT.out.kept hHeld)
    clear hHeld
    go_wp2_with (refine wpList_load_mid rfl 119 _ rfl 7 0 rfl gpV _ HT1.out.promR Tryz.underlying119 rfl size_gp ?_)
    go_loopw [7, 23] (fun t7 t23 wr => ∃ k : Nat, k ≤ 4 ∧ t23 = .int .i64 k ∧ OwnM wr w1.heap.size t7 (arP s x k) ∧ Kept w1 wr) (fun _ t23 _ => 4 - (intOf t23).toNat)
    case atStart => exact ⟨0, by omega, rfl, OwnM.nil _ _, Kept.refl _⟩
    case round =>
      obtain ⟨k, hk, rfl, hO, hK⟩ := hrel
      obtain ⟨a, cap, rfl⟩ := hO.slice
      have HO := Lib.hid hO
      have HK := Lib.hid hK
      have hLn := Lib.hid (arP_len s x k)
      clear hO hK
      by_cases hlt : k < 4
      · have hx := run_index_gp k hlt
        have HS := Lib.hid (arP_succ s x k hlt)
        generalize gpL.getD k 0 = y at *
        generalize hln : (arP s x k).length = n at *
        have HN := Lib.hid hln
        clear hln
        have KA := Lib.hid ((Kept.refl wr).alloc (.cells (ml ⟨s, x, y⟩).toArray 35))
        go_wp2_with (first | (refine wpList_bt_mv3 rfl _ _ _ rfl (s : Int) x y rfl rfl rfl ?_) | (refine wpList_bslice_mv rfl _ rfl ⟨s, x, y⟩ rfl ?_) | (at_builtin; refine wpList_append_m rfl _ _ rfl w1.heap.size wr.heap.size _ _ (arP s x k) [⟨s, x, y⟩] rfl rfl (HO.out.kept KA.out) (LsM.lit _ _) ?c1 ?c2 ?_))
        case c1 => have := HN.out; have := hLn.out; simp; omega
        case c2 => have := HK.out.size; simp; omega
        intro v' w2 hO' hg
        have hK2 := (HO.out.kept KA.out).grown (HK.out.trans KA.out) (Nat.le_refl _) hg
        rw [← HS.out] at hO'
        obtain ⟨a', cap', rfl⟩ := hO'.slice
        have HO2 := Lib.hid hO'
        have HK2 := Lib.hid hK2
        clear hO' hK2 hg
        generalize (arP s x (k + 1)).length = n' at *
        go_wp2
        go_roundw
        case rel => exact ⟨k + 1, by omega, by go_num, HO2.out, HK2.out⟩
        case measure => simp [intOf]; omega
      · obtain rfl : k = 4 := by omega
        go_wp2
        go_ret
        exact ⟨_, rfl, by rw [HE.out]; exact HO.out.low HK1.out.size, HK1.out.trans HK.out⟩
  · have HE := Lib.hid (arr_not (p := p) (s := s) (to := x) (by rw [hl]; exact h))
    generalize x / 8 = r at *
    have hb : (r != 0) = true := bne_iff_ne.2 h
    clear h hl hp x0 x1
    go_enter Tryz.func68, Tryz.ntmps68
    go_wp2
    refine wp_region_held_drew (S := Kept _) (by kernel_rfl) (Kept.refl _).drew (fun hHeld => ?_)
    refine rT 0 10 (.int .i64 x) rfl rfl hHeld ?_
    simp only [Act.put, sA, sZ, sU]
    refine rT 2 12 (.pointer (some ⟨w.heap.size, 64, none⟩)) rfl rfl hHeld ?_
    simp only [pA, pN, sZ, sU]
    refine rC 3 13 (.int .i64 1) rfl rfl (fun _ h => kept_cell h (HTn.out)) hHeld ?_
    simp only [pA, pN, sZ, sU]
    refine rT 4 14 (.pointer (some ⟨6, 3, none⟩)) rfl rfl hHeld ?_
    simp only [pA, pN, sZ, sU]
    refine rT 5 15 (.pointer (some ⟨6, 5, none⟩)) rfl rfl hHeld ?_
    simp only [pA, pN, sZ, sU]
    refine rC 6 16 (.int .i64 0) rfl rfl (fun _ h => kept_cell h (HMr.out)) hHeld ?_
    simp only [pA, pN, sZ, sU]
    refine rR 1 rfl (fun K hK => ?_)
    go_simp
    refine (HRk.out _).mono ?_
    rintro e w1 ⟨rfl, gw1⟩
    refine hK.out _ _ (hHeld.trans gw1) (fun _ => ?_)
    replace hHeld := hHeld.trans gw1
    clear hK K
    refine rT 7 17 (.bool true) rfl rfl hHeld ?_
    simp only [pA, pN, sZ, sU]
    refine wpAnyH_done (by kernel_rfl) ?_ _
    have HK1 := Lib.hid (HK0.out.trans hHeld)
    clear hHeld
    go_wp2_with (first | (refine wpList_bt_mv2 rfl _ _ rfl (s : Int) x rfl rfl ?_) | (refine wpList_bslice_mv rfl _ rfl ⟨s, x, 0⟩ rfl ?_))
    go_ret
    exact ⟨_, rfl, by rw [HE.out]; exact OwnM.lit _ _ _ HK1.out.size, HK1.out.alloc _⟩
theorem arrive_is (p : Ps) (hB : Brd p.B) (t01 : p.t = 0 ∨ p.t = 1) (s : Nat) (x : Int) (x0 : 0 ≤ x) (x1 : x < 64) (w : World) (hT : TabG w) : Calls Tryz.prog 68 #[.agg (pl p).toArray, .int .i64 (s : Int), .int .i64 x] w (NewM w (arrN p s x)) := by
  rcases t01 with h | h
  · exact arrive_w p hB h s x x0 x1 w hT
  · exact arrive_b p hB h s x x0 x1 w hT
end Go.Proofs.YtkebpchhpidogaaGreatDoor
namespace Go.Proofs.YtkebpchhpidogaaGreatDoor
open Go.RowKit
set_option linter.unusedVariables false
set_option linter.unusedSimpArgs false
set_option maxRecDepth 100000

/-- How a side's pawns go, as it lies. -/
def mr (a b c : Int) : List Value := [.int .i64 a, .int .i64 b, .int .i64 c]
theorem sizeMr : (Tryz.prog.info? 117).map (·.size) = some 3 := by kernel_rfl
theorem mr_sz (a b c : Int) : (Tryz.prog.info? 117).map (·.size) = some (mr a b c).toArray.size := by rw [sizeMr]; rfl
theorem zeroMr : (Tryz.prog.info? 117).map (fun i => (i.zero, i.size)) = some (some (.agg (mr 0 0 0).toArray), 3) := by kernel_rfl
theorem run_zero_mr (w : World) : (zeroValue 117).run Tryz.prog w = .ok (.agg (mr 0 0 0).toArray) w := (zero_of_info zeroMr).1 w
theorem mr_one (a b c : Int) : (mr a b c).toArray.all (·.oneCell') = true := by
  rw [Array.all_eq_true_iff_forall_mem]
  intro v hv
  simp only [List.mem_toArray, mr, List.mem_cons, List.not_mem_nil, or_false] at hv
  rcases hv with rfl | rfl | rfl <;> rfl
theorem wpList_new_mr {ops : Array Oper} {rest : List Oper} {o : Oper} {a : Act} {w : World} {Q : Exit → Act → World → Prop} (hgd : o.guard = none) (ho : o.op = .alloc 117)
    (h : wpList Tryz.prog ops Q rest (a.put o.dst (.pointer (some ⟨w.heap.size, 0, none⟩))) (w.alloc (.cells (mr 0 0 0).toArray 117))) : wpList Tryz.prog ops Q (o :: rest) a w := by
  refine wpList_plain hgd fun _ hK => ?_
  unfold Oper.wp execOp
  simp only [ho, Instr.alloc, Sem.run_bind, run_zero_mr, Result.andThen_ok, newVar, newRow, Value.cells]
  exact hK _ _ h
theorem wpList_store_newmr {ops : Array Oper} {rest : List Oper} {o : Oper} {a : Act} {w : World} {Q : Exit → Act → World → Prop} (hgd : o.guard = none) (x y : Operand) (ho : o.op = .store 117 x y)
    (i j k : Int) (hx : a.eval x = .pointer (some ⟨w.heap.size, 0, none⟩)) (hy : a.eval y = .agg (mr i j k).toArray)
    (h : wpList Tryz.prog ops Q rest (a.put o.dst undef) (w.alloc (.cells (mr i j k).toArray 117))) : wpList Tryz.prog ops Q (o :: rest) a (w.alloc (.cells (mr 0 0 0).toArray 117)) := by
  refine wpList_store_row hgd 117 x y ho w.heap.size (mr i j k).toArray hx hy 117 _ (heap_alloc_new w _) (mr_sz i j k) rfl (mr_one _ _ _) ?_
  rw [World.setRow_alloc_new]
  exact h
theorem step_k (s f r t : Int) (w : World) (s0 : 0 ≤ s) (s1 : s < 64) (a : 0 ≤ s % 8 + f) (b : s % 8 + f < 8) (c : 0 ≤ s / 8 + r) (d : s / 8 + r < 8) (e : (s / 8 + r) * 8 + (s % 8 + f) = t) :
    Calls Tryz.prog 71 #[.int .i64 s, .int .i64 f, .int .i64 r] w fun e w' => e = .returned (.tuple #[.int .i64 t, .bool true]) ∧ Kept w w' := by
  subst e
  exact (step_yes s f r w s0 s1 a b c d).mono fun _ _ ⟨a, b⟩ => ⟨a, b ▸ Kept.refl _⟩
theorem man_on (B : List Int) (hB : Brd B) (s : Int) (h0 : 0 ≤ s) (h1 : s < 64) (w : World) : Calls Tryz.prog 29 #[.agg (cl B).toArray, .int .i64 s] w fun e w' => e = .returned (.int .i64 (bAt B s)) ∧ Kept w w' := by
  have := man_a B hB s w
  unfold manA at this
  rwa [if_pos ⟨h0, h1⟩] at this
set_option maxHeartbeats 4000000 in
theorem ahead_w1 (p : Ps) (hB : Brd p.B) (hp : p.t = 0) (s : Nat) (s0 : 8 ≤ s) (s1 : s < 56) (hsec : ¬ (s : Int) / 8 = 1) (w : World) (hT : TabG w) : Calls Tryz.prog 67 #[.agg (pl p).toArray, .int .i64 (s : Int)] w (NewZ w (ahN p s)) := by
  have hHP := PAt.new w hB.1
  have HK0 := Lib.hid ((Kept.refl w).alloc (.cells (pl p).toArray 26))
  have HT := Lib.hid (hT.kept HK0.out)
  have ht := hHP.turn
  rw [hp] at ht
  have HP := Lib.hid hHP
  have hrng : Hid ((w.alloc (.cells (pl p).toArray 26)).rangeAt 6 0 (mr 1 1 7)) := by
    intro j v hv
    have hj : j < 3 := (List.getElem?_eq_some_iff.1 hv).1
    have hm := HT.out.mar (0 + j) (by omega)
    rw [hm]
    have : j = 0 ∨ j = 1 ∨ j = 2 := by omega
    rcases this with rfl | rfl | rfl <;> exact hv
  have HRk := Lib.hid (fun w => rank_any (s : Int) w)
  have hrk : rkI (s : Int) = (s : Int) / 8 := by unfold rkI; rw [if_pos ⟨by omega, by omega⟩]
  rw [hrk] at HRk
  have hu : upI p.t = 8 := by rw [hp]; rfl
  have hs2 : secI p.t = 1 := by rw [hp]; rfl
  have HS1 := Lib.hid (fun w => step_k (s : Int) 0 (1) ((s : Int) + 8) w (by omega) (by omega) (by omega) (by omega) (by omega) (by omega) (by omega))
  have HC1 := Lib.hid (fun w => man_on p.B hB ((s : Int) + 8) (by omega) (by omega) w)
  have HV : Hid (ahN p s = if bAt p.B ((s : Int) + 8) ≠ 0 then [] else [(s : Int) + 8]) := by
    show _ = _
    unfold ahN
    rw [hu]
    split
    · rfl
    · rw [if_neg (fun h => hsec (by rw [← hs2]; exact h.1))]
  have hq : ((s : Int) / 8 == 1) = false := by rw [beq_eq_false_iff_ne]; exact hsec
  generalize bAt p.B ((s : Int) + 8) = y1 at *
  generalize (s : Int) + 8 = x1 at *
  generalize (s : Int) / 8 = rk at *
  clear hrk hB hT hu hs2 hsec hHP hp s0 s1
  go_enter Tryz.func67, Tryz.ntmps67
  go_wp2_with (first | (refine wpList_load_mid rfl 117 _ rfl 6 0 rfl (mr 1 1 7) _ hrng.out Tryz.underlying117 rfl sizeMr ?_) | (with_reducible refine wpList_new_mr rfl rfl ?_) | ((with_reducible refine wpList_store_newmr rfl _ _ rfl 1 1 7 ?_ ?_ ?_); exact rfl; exact rfl))
  have hRM : RAt _ _ (mr 1 1 7) 117 := ⟨heap_alloc_new (w.alloc (.cells (pl p).toArray 26)) (.cells (mr 1 1 7).toArray 117)⟩
  have m0 : ((w.alloc (.cells (pl p).toArray 26)).alloc (.cells (mr 1 1 7).toArray 117)).cell? ⟨w.heap.size + 1, 0, none⟩ = some (Value.int .i64 (1)) := by have h := hRM.cellK 0; rw [show (w.alloc (.cells (pl p).toArray 26)).heap.size = w.heap.size + 1 by simp] at h; exact h
  have m1 : ((w.alloc (.cells (pl p).toArray 26)).alloc (.cells (mr 1 1 7).toArray 117)).cell? ⟨w.heap.size + 1, 1, none⟩ = some (Value.int .i64 1) := by have h := hRM.cellK 1; rw [show (w.alloc (.cells (pl p).toArray 26)).heap.size = w.heap.size + 1 by simp] at h; exact h
  have M0 := Lib.hid m0
  have M1 := Lib.hid m1
  have HK01 := Lib.hid ((Kept.refl (w.alloc (.cells (pl p).toArray 26))).alloc (.cells (mr 1 1 7).toArray 117))
  clear hRM m0 m1
  refine wp_region_held_drew (S := Kept _) (by kernel_rfl) (Kept.refl _).drew (fun hHeld => ?_)
  refine rT 0 15 (.int .i64 (s : Int)) rfl rfl hHeld ?_
  simp only [Act.put, sA, sZ, sU]
  refine rT 2 17 (.pointer (some ⟨w.heap.size + 1, 1, none⟩)) rfl rfl hHeld ?_
  simp only [pA, pN, sZ, sU]
  refine rC 3 18 (.int .i64 1) rfl rfl (fun _ h => kept_cell h (M1.out)) hHeld ?_
  simp only [pA, pN, sZ, sU]
  refine rR 1 rfl (fun K hK => ?_)
  go_simp
  refine (HRk.out _).mono ?_
  rintro e W ⟨rfl, gW⟩
  refine hK.out _ _ (hHeld.trans gW) (fun _ => ?_)
  replace hHeld := hHeld.trans gW
  clear hK K
  refine rT 4 19 (.bool false) rfl rfl hHeld ?_
  simp only [pA, pN, sZ, sU]
  refine wpAnyH_done (by kernel_rfl) ?_ _
  have HKW := Lib.hid (HK01.out.trans hHeld)
  have m0 := kept_cell hHeld M0.out
  have M0W := Lib.hid m0
  clear hHeld m0
  go_wp2
  go_loopw [7, 8] (fun t7 t8 wr => ((t8 = .int .i64 1 ∧ OwnZ wr W.heap.size t7 []) ∨ (t8 = .int .i64 2 ∧ OwnZ wr W.heap.size t7 [x1] ∧ y1 = 0)) ∧ Kept W wr) (fun _ t8 _ => 4 - (intOf t8).toNat)
  case atStart => exact ⟨.inl ⟨rfl, OwnZ.nil _ _⟩, Kept.refl _⟩
  case round =>
    obtain ⟨hinv, hK⟩ := hrel
    have HK := Lib.hid hK
    have m0 := kept_cell hK M0W.out
    clear hK
    skip
    · rcases hinv with ⟨rfl, hO⟩ | ⟨rfl, hO, hy1⟩
      · skip
        obtain ⟨a, cap, rfl⟩ := hO.slice
        have HO := Lib.hid hO
        clear hO
        by_cases h0 : y1 ≠ 0
        · have hb : (y1 != 0) = true := bne_iff_ne.2 h0
          have HE : Hid (ahN p s = []) := by show _ = _; rw [HV.out, if_pos h0]
          go_wp2_with fail
          refine (HS1.out _).mono ?_
          rintro e w2 ⟨rfl, k2⟩
          have HP2 := Lib.hid (HP.out.kept (HKW.out.trans (HK.out.trans k2)))
          have HO2 := Lib.hid (HO.out.kept k2)
          have HK2 := Lib.hid (HK.out.trans k2)
          clear k2
          go_wp2_with (first | (refine wpList_load_ps (by rfl) _ rfl _ rfl _ (HP2.out) ?_) | (refine wpList_load_pb (by rfl) _ rfl _ rfl _ (HP2.out) ?_))
          refine (HC1.out _).mono ?_
          rintro e w3 ⟨rfl, k3⟩
          have HK3 := Lib.hid (HK2.out.trans k3)
          have HO3 := Lib.hid (HO2.out.kept k3)
          clear k3
          go_wp2
          go_ret
          exact ⟨_, rfl, by rw [HE.out]; exact HO3.out.low (HK0.out.trans HKW.out).size, (HK0.out.trans HKW.out).trans HK3.out⟩
        · replace h0 : y1 = 0 := by simpa using h0
          have hb : (y1 != 0) = false := by rw [h0]; rfl
          go_wp2_with fail
          refine (HS1.out _).mono ?_
          rintro e w2 ⟨rfl, k2⟩
          have HP2 := Lib.hid (HP.out.kept (HKW.out.trans (HK.out.trans k2)))
          replace HO := Lib.hid (HO.out.kept k2)
          have HK2 := Lib.hid (HK.out.trans k2)
          clear k2
          go_wp2_with (first | (refine wpList_load_ps (by rfl) _ rfl _ rfl _ (HP2.out) ?_) | (refine wpList_load_pb (by rfl) _ rfl _ rfl _ (HP2.out) ?_))
          refine (HC1.out _).mono ?_
          rintro e w3 ⟨rfl, k3⟩
          have HK3 := Lib.hid (HK2.out.trans k3)
          have KA := Lib.hid ((Kept.refl w3).alloc (.cells #[.int .i64 x1] 3))
          go_wp2_with (at_builtin; refine wpList_append_z rfl _ _ rfl W.heap.size w3.heap.size _ _ [] [x1] rfl rfl ((HO.out.kept k3).kept KA.out) (LsZ.lit _ [x1] (by simp)) ?c1 ?c2 ?_)
          case c1 => simp
          case c2 => have := HK3.out.size; simp; omega
          intro v' w4 hO' hg
          have hK4 := ((HO.out.kept k3).kept KA.out).grown (HK3.out.trans KA.out) (Nat.le_refl _) hg
          obtain ⟨a', cap', rfl⟩ := hO'.slice
          have HO4 := Lib.hid hO'
          have HK4 := Lib.hid hK4
          clear hO' hK4 hg k3
          go_wp2
          go_roundw
          case rel => exact ⟨.inr ⟨rfl, HO4.out, h0⟩, HK4.out⟩
          case measure => simp [intOf]
      · skip
        obtain ⟨a, cap, rfl⟩ := hO.slice
        have HO := Lib.hid hO
        have HE : Hid (ahN p s = [x1]) := by show _ = _; rw [HV.out, if_neg (by simpa using hy1)]
        clear hO
        go_wp2
        go_ret
        exact ⟨_, rfl, by rw [HE.out]; exact HO.out.low (HK0.out.trans HKW.out).size, (HK0.out.trans HKW.out).trans HK.out⟩
set_option maxHeartbeats 4000000 in
theorem ahead_b1 (p : Ps) (hB : Brd p.B) (hp : p.t = 1) (s : Nat) (s0 : 8 ≤ s) (s1 : s < 56) (hsec : ¬ (s : Int) / 8 = 6) (w : World) (hT : TabG w) : Calls Tryz.prog 67 #[.agg (pl p).toArray, .int .i64 (s : Int)] w (NewZ w (ahN p s)) := by
  have hHP := PAt.new w hB.1
  have HK0 := Lib.hid ((Kept.refl w).alloc (.cells (pl p).toArray 26))
  have HT := Lib.hid (hT.kept HK0.out)
  have ht := hHP.turn
  rw [hp] at ht
  have HP := Lib.hid hHP
  have hrng : Hid ((w.alloc (.cells (pl p).toArray 26)).rangeAt 6 3 (mr (-1) 6 0)) := by
    intro j v hv
    have hj : j < 3 := (List.getElem?_eq_some_iff.1 hv).1
    have hm := HT.out.mar (3 + j) (by omega)
    rw [hm]
    have : j = 0 ∨ j = 1 ∨ j = 2 := by omega
    rcases this with rfl | rfl | rfl <;> exact hv
  have HRk := Lib.hid (fun w => rank_any (s : Int) w)
  have hrk : rkI (s : Int) = (s : Int) / 8 := by unfold rkI; rw [if_pos ⟨by omega, by omega⟩]
  rw [hrk] at HRk
  have hu : upI p.t = (-8) := by rw [hp]; rfl
  have hs2 : secI p.t = 6 := by rw [hp]; rfl
  have HS1 := Lib.hid (fun w => step_k (s : Int) 0 ((-1)) ((s : Int) + (-8)) w (by omega) (by omega) (by omega) (by omega) (by omega) (by omega) (by omega))
  have HC1 := Lib.hid (fun w => man_on p.B hB ((s : Int) + (-8)) (by omega) (by omega) w)
  have HV : Hid (ahN p s = if bAt p.B ((s : Int) + (-8)) ≠ 0 then [] else [(s : Int) + (-8)]) := by
    show _ = _
    unfold ahN
    rw [hu]
    split
    · rfl
    · rw [if_neg (fun h => hsec (by rw [← hs2]; exact h.1))]
  have hq : ((s : Int) / 8 == 6) = false := by rw [beq_eq_false_iff_ne]; exact hsec
  generalize bAt p.B ((s : Int) + (-8)) = y1 at *
  generalize (s : Int) + (-8) = x1 at *
  generalize (s : Int) / 8 = rk at *
  clear hrk hB hT hu hs2 hsec hHP hp s0 s1
  go_enter Tryz.func67, Tryz.ntmps67
  go_wp2_with (first | (refine wpList_load_mid rfl 117 _ rfl 6 3 rfl (mr (-1) 6 0) _ hrng.out Tryz.underlying117 rfl sizeMr ?_) | (with_reducible refine wpList_new_mr rfl rfl ?_) | ((with_reducible refine wpList_store_newmr rfl _ _ rfl (-1) 6 0 ?_ ?_ ?_); exact rfl; exact rfl))
  have hRM : RAt _ _ (mr (-1) 6 0) 117 := ⟨heap_alloc_new (w.alloc (.cells (pl p).toArray 26)) (.cells (mr (-1) 6 0).toArray 117)⟩
  have m0 : ((w.alloc (.cells (pl p).toArray 26)).alloc (.cells (mr (-1) 6 0).toArray 117)).cell? ⟨w.heap.size + 1, 0, none⟩ = some (Value.int .i64 ((-1))) := by have h := hRM.cellK 0; rw [show (w.alloc (.cells (pl p).toArray 26)).heap.size = w.heap.size + 1 by simp] at h; exact h
  have m1 : ((w.alloc (.cells (pl p).toArray 26)).alloc (.cells (mr (-1) 6 0).toArray 117)).cell? ⟨w.heap.size + 1, 1, none⟩ = some (Value.int .i64 6) := by have h := hRM.cellK 1; rw [show (w.alloc (.cells (pl p).toArray 26)).heap.size = w.heap.size + 1 by simp] at h; exact h
  have M0 := Lib.hid m0
  have M1 := Lib.hid m1
  have HK01 := Lib.hid ((Kept.refl (w.alloc (.cells (pl p).toArray 26))).alloc (.cells (mr (-1) 6 0).toArray 117))
  clear hRM m0 m1
  refine wp_region_held_drew (S := Kept _) (by kernel_rfl) (Kept.refl _).drew (fun hHeld => ?_)
  refine rT 0 15 (.int .i64 (s : Int)) rfl rfl hHeld ?_
  simp only [Act.put, sA, sZ, sU]
  refine rT 2 17 (.pointer (some ⟨w.heap.size + 1, 1, none⟩)) rfl rfl hHeld ?_
  simp only [pA, pN, sZ, sU]
  refine rC 3 18 (.int .i64 6) rfl rfl (fun _ h => kept_cell h (M1.out)) hHeld ?_
  simp only [pA, pN, sZ, sU]
  refine rR 1 rfl (fun K hK => ?_)
  go_simp
  refine (HRk.out _).mono ?_
  rintro e W ⟨rfl, gW⟩
  refine hK.out _ _ (hHeld.trans gW) (fun _ => ?_)
  replace hHeld := hHeld.trans gW
  clear hK K
  refine rT 4 19 (.bool false) rfl rfl hHeld ?_
  simp only [pA, pN, sZ, sU]
  refine wpAnyH_done (by kernel_rfl) ?_ _
  have HKW := Lib.hid (HK01.out.trans hHeld)
  have m0 := kept_cell hHeld M0.out
  have M0W := Lib.hid m0
  clear hHeld m0
  go_wp2
  go_loopw [7, 8] (fun t7 t8 wr => ((t8 = .int .i64 1 ∧ OwnZ wr W.heap.size t7 []) ∨ (t8 = .int .i64 2 ∧ OwnZ wr W.heap.size t7 [x1] ∧ y1 = 0)) ∧ Kept W wr) (fun _ t8 _ => 4 - (intOf t8).toNat)
  case atStart => exact ⟨.inl ⟨rfl, OwnZ.nil _ _⟩, Kept.refl _⟩
  case round =>
    obtain ⟨hinv, hK⟩ := hrel
    have HK := Lib.hid hK
    have m0 := kept_cell hK M0W.out
    clear hK
    skip
    · rcases hinv with ⟨rfl, hO⟩ | ⟨rfl, hO, hy1⟩
      · skip
        obtain ⟨a, cap, rfl⟩ := hO.slice
        have HO := Lib.hid hO
        clear hO
        by_cases h0 : y1 ≠ 0
        · have hb : (y1 != 0) = true := bne_iff_ne.2 h0
          have HE : Hid (ahN p s = []) := by show _ = _; rw [HV.out, if_pos h0]
          go_wp2_with fail
          refine (HS1.out _).mono ?_
          rintro e w2 ⟨rfl, k2⟩
          have HP2 := Lib.hid (HP.out.kept (HKW.out.trans (HK.out.trans k2)))
          have HO2 := Lib.hid (HO.out.kept k2)
          have HK2 := Lib.hid (HK.out.trans k2)
          clear k2
          go_wp2_with (first | (refine wpList_load_ps (by rfl) _ rfl _ rfl _ (HP2.out) ?_) | (refine wpList_load_pb (by rfl) _ rfl _ rfl _ (HP2.out) ?_))
          refine (HC1.out _).mono ?_
          rintro e w3 ⟨rfl, k3⟩
          have HK3 := Lib.hid (HK2.out.trans k3)
          have HO3 := Lib.hid (HO2.out.kept k3)
          clear k3
          go_wp2
          go_ret
          exact ⟨_, rfl, by rw [HE.out]; exact HO3.out.low (HK0.out.trans HKW.out).size, (HK0.out.trans HKW.out).trans HK3.out⟩
        · replace h0 : y1 = 0 := by simpa using h0
          have hb : (y1 != 0) = false := by rw [h0]; rfl
          go_wp2_with fail
          refine (HS1.out _).mono ?_
          rintro e w2 ⟨rfl, k2⟩
          have HP2 := Lib.hid (HP.out.kept (HKW.out.trans (HK.out.trans k2)))
          replace HO := Lib.hid (HO.out.kept k2)
          have HK2 := Lib.hid (HK.out.trans k2)
          clear k2
          go_wp2_with (first | (refine wpList_load_ps (by rfl) _ rfl _ rfl _ (HP2.out) ?_) | (refine wpList_load_pb (by rfl) _ rfl _ rfl _ (HP2.out) ?_))
          refine (HC1.out _).mono ?_
          rintro e w3 ⟨rfl, k3⟩
          have HK3 := Lib.hid (HK2.out.trans k3)
          have KA := Lib.hid ((Kept.refl w3).alloc (.cells #[.int .i64 x1] 3))
          go_wp2_with (at_builtin; refine wpList_append_z rfl _ _ rfl W.heap.size w3.heap.size _ _ [] [x1] rfl rfl ((HO.out.kept k3).kept KA.out) (LsZ.lit _ [x1] (by simp)) ?c1 ?c2 ?_)
          case c1 => simp
          case c2 => have := HK3.out.size; simp; omega
          intro v' w4 hO' hg
          have hK4 := ((HO.out.kept k3).kept KA.out).grown (HK3.out.trans KA.out) (Nat.le_refl _) hg
          obtain ⟨a', cap', rfl⟩ := hO'.slice
          have HO4 := Lib.hid hO'
          have HK4 := Lib.hid hK4
          clear hO' hK4 hg k3
          go_wp2
          go_roundw
          case rel => exact ⟨.inr ⟨rfl, HO4.out, h0⟩, HK4.out⟩
          case measure => simp [intOf]
      · skip
        obtain ⟨a, cap, rfl⟩ := hO.slice
        have HO := Lib.hid hO
        have HE : Hid (ahN p s = [x1]) := by show _ = _; rw [HV.out, if_neg (by simpa using hy1)]
        clear hO
        go_wp2
        go_ret
        exact ⟨_, rfl, by rw [HE.out]; exact HO.out.low (HK0.out.trans HKW.out).size, (HK0.out.trans HKW.out).trans HK.out⟩
set_option maxHeartbeats 4000000 in
theorem ahead_w2 (p : Ps) (hB : Brd p.B) (hp : p.t = 0) (s : Nat) (s0 : 8 ≤ s) (s1 : s < 56) (hsec : (s : Int) / 8 = 1) (w : World) (hT : TabG w) : Calls Tryz.prog 67 #[.agg (pl p).toArray, .int .i64 (s : Int)] w (NewZ w (ahN p s)) := by
  have hHP := PAt.new w hB.1
  have HK0 := Lib.hid ((Kept.refl w).alloc (.cells (pl p).toArray 26))
  have HT := Lib.hid (hT.kept HK0.out)
  have ht := hHP.turn
  rw [hp] at ht
  have HP := Lib.hid hHP
  have hrng : Hid ((w.alloc (.cells (pl p).toArray 26)).rangeAt 6 0 (mr 1 1 7)) := by
    intro j v hv
    have hj : j < 3 := (List.getElem?_eq_some_iff.1 hv).1
    have hm := HT.out.mar (0 + j) (by omega)
    rw [hm]
    have : j = 0 ∨ j = 1 ∨ j = 2 := by omega
    rcases this with rfl | rfl | rfl <;> exact hv
  have HRk := Lib.hid (fun w => rank_any (s : Int) w)
  have hrk : rkI (s : Int) = (s : Int) / 8 := by unfold rkI; rw [if_pos ⟨by omega, by omega⟩]
  rw [hrk] at HRk
  have hu : upI p.t = 8 := by rw [hp]; rfl
  have hs2 : secI p.t = 1 := by rw [hp]; rfl
  have HS1 := Lib.hid (fun w => step_k (s : Int) 0 (1) ((s : Int) + 8) w (by omega) (by omega) (by omega) (by omega) (by omega) (by omega) (by omega))
  have HC1 := Lib.hid (fun w => man_on p.B hB ((s : Int) + 8) (by omega) (by omega) w)
  have HS2 := Lib.hid (fun w => step_k (s : Int) 0 (2) ((s : Int) + 2 * 8) w (by omega) (by omega) (by omega) (by omega) (by omega) (by omega) (by omega))
  have HC2 := Lib.hid (fun w => man_on p.B hB ((s : Int) + 2 * 8) (by omega) (by omega) w)
  have HV : Hid (ahN p s = if bAt p.B ((s : Int) + 8) ≠ 0 then [] else if bAt p.B ((s : Int) + 2 * 8) ≠ 0 then [(s : Int) + 8] else [(s : Int) + 8, (s : Int) + 2 * 8]) := by
    show _ = _
    unfold ahN
    rw [hu]
    split
    · rfl
    · by_cases hq : bAt p.B ((s : Int) + 2 * 8) = 0
      · rw [if_pos ⟨by rw [hs2]; exact hsec, hq⟩, if_neg (by simpa using hq)]
      · rw [if_neg (fun h => hq h.2), if_pos hq]
  have hq : ((s : Int) / 8 == 1) = true := by rw [hsec]; rfl
  generalize bAt p.B ((s : Int) + 8) = y1 at *
  generalize (s : Int) + 8 = x1 at *
  generalize bAt p.B ((s : Int) + 2 * 8) = y2 at *
  generalize (s : Int) + 2 * 8 = x2 at *
  generalize (s : Int) / 8 = rk at *
  clear hrk hB hT hu hs2 hsec hHP hp s0 s1
  go_enter Tryz.func67, Tryz.ntmps67
  go_wp2_with (first | (refine wpList_load_mid rfl 117 _ rfl 6 0 rfl (mr 1 1 7) _ hrng.out Tryz.underlying117 rfl sizeMr ?_) | (with_reducible refine wpList_new_mr rfl rfl ?_) | ((with_reducible refine wpList_store_newmr rfl _ _ rfl 1 1 7 ?_ ?_ ?_); exact rfl; exact rfl))
  have hRM : RAt _ _ (mr 1 1 7) 117 := ⟨heap_alloc_new (w.alloc (.cells (pl p).toArray 26)) (.cells (mr 1 1 7).toArray 117)⟩
  have m0 : ((w.alloc (.cells (pl p).toArray 26)).alloc (.cells (mr 1 1 7).toArray 117)).cell? ⟨w.heap.size + 1, 0, none⟩ = some (Value.int .i64 (1)) := by have h := hRM.cellK 0; rw [show (w.alloc (.cells (pl p).toArray 26)).heap.size = w.heap.size + 1 by simp] at h; exact h
  have m1 : ((w.alloc (.cells (pl p).toArray 26)).alloc (.cells (mr 1 1 7).toArray 117)).cell? ⟨w.heap.size + 1, 1, none⟩ = some (Value.int .i64 1) := by have h := hRM.cellK 1; rw [show (w.alloc (.cells (pl p).toArray 26)).heap.size = w.heap.size + 1 by simp] at h; exact h
  have M0 := Lib.hid m0
  have M1 := Lib.hid m1
  have HK01 := Lib.hid ((Kept.refl (w.alloc (.cells (pl p).toArray 26))).alloc (.cells (mr 1 1 7).toArray 117))
  clear hRM m0 m1
  refine wp_region_held_drew (S := Kept _) (by kernel_rfl) (Kept.refl _).drew (fun hHeld => ?_)
  refine rT 0 15 (.int .i64 (s : Int)) rfl rfl hHeld ?_
  simp only [Act.put, sA, sZ, sU]
  refine rT 2 17 (.pointer (some ⟨w.heap.size + 1, 1, none⟩)) rfl rfl hHeld ?_
  simp only [pA, pN, sZ, sU]
  refine rC 3 18 (.int .i64 1) rfl rfl (fun _ h => kept_cell h (M1.out)) hHeld ?_
  simp only [pA, pN, sZ, sU]
  refine rR 1 rfl (fun K hK => ?_)
  go_simp
  refine (HRk.out _).mono ?_
  rintro e W ⟨rfl, gW⟩
  refine hK.out _ _ (hHeld.trans gW) (fun _ => ?_)
  replace hHeld := hHeld.trans gW
  clear hK K
  refine rT 4 19 (.bool true) rfl rfl hHeld ?_
  simp only [pA, pN, sZ, sU]
  refine wpAnyH_done (by kernel_rfl) ?_ _
  have HKW := Lib.hid (HK01.out.trans hHeld)
  have m0 := kept_cell hHeld M0.out
  have M0W := Lib.hid m0
  clear hHeld m0
  go_wp2
  go_loopw [7, 8] (fun t7 t8 wr => ((t8 = .int .i64 1 ∧ OwnZ wr W.heap.size t7 []) ∨ (t8 = .int .i64 2 ∧ OwnZ wr W.heap.size t7 [x1] ∧ y1 = 0) ∨ (t8 = .int .i64 3 ∧ OwnZ wr W.heap.size t7 [x1, x2] ∧ y1 = 0 ∧ y2 = 0)) ∧ Kept W wr) (fun _ t8 _ => 4 - (intOf t8).toNat)
  case atStart => exact ⟨.inl ⟨rfl, OwnZ.nil _ _⟩, Kept.refl _⟩
  case round =>
    obtain ⟨hinv, hK⟩ := hrel
    have HK := Lib.hid hK
    have m0 := kept_cell hK M0W.out
    clear hK
    skip
    · rcases hinv with ⟨rfl, hO⟩ | ⟨rfl, hO, hy1⟩ | ⟨rfl, hO, hy1, hy2⟩
      · skip
        obtain ⟨a, cap, rfl⟩ := hO.slice
        have HO := Lib.hid hO
        clear hO
        by_cases h0 : y1 ≠ 0
        · have hb : (y1 != 0) = true := bne_iff_ne.2 h0
          have HE : Hid (ahN p s = []) := by show _ = _; rw [HV.out, if_pos h0]
          go_wp2_with fail
          refine (HS1.out _).mono ?_
          rintro e w2 ⟨rfl, k2⟩
          have HP2 := Lib.hid (HP.out.kept (HKW.out.trans (HK.out.trans k2)))
          have HO2 := Lib.hid (HO.out.kept k2)
          have HK2 := Lib.hid (HK.out.trans k2)
          clear k2
          go_wp2_with (first | (refine wpList_load_ps (by rfl) _ rfl _ rfl _ (HP2.out) ?_) | (refine wpList_load_pb (by rfl) _ rfl _ rfl _ (HP2.out) ?_))
          refine (HC1.out _).mono ?_
          rintro e w3 ⟨rfl, k3⟩
          have HK3 := Lib.hid (HK2.out.trans k3)
          have HO3 := Lib.hid (HO2.out.kept k3)
          clear k3
          go_wp2
          go_ret
          exact ⟨_, rfl, by rw [HE.out]; exact HO3.out.low (HK0.out.trans HKW.out).size, (HK0.out.trans HKW.out).trans HK3.out⟩
        · replace h0 : y1 = 0 := by simpa using h0
          have hb : (y1 != 0) = false := by rw [h0]; rfl
          go_wp2_with fail
          refine (HS1.out _).mono ?_
          rintro e w2 ⟨rfl, k2⟩
          have HP2 := Lib.hid (HP.out.kept (HKW.out.trans (HK.out.trans k2)))
          replace HO := Lib.hid (HO.out.kept k2)
          have HK2 := Lib.hid (HK.out.trans k2)
          clear k2
          go_wp2_with (first | (refine wpList_load_ps (by rfl) _ rfl _ rfl _ (HP2.out) ?_) | (refine wpList_load_pb (by rfl) _ rfl _ rfl _ (HP2.out) ?_))
          refine (HC1.out _).mono ?_
          rintro e w3 ⟨rfl, k3⟩
          have HK3 := Lib.hid (HK2.out.trans k3)
          have KA := Lib.hid ((Kept.refl w3).alloc (.cells #[.int .i64 x1] 3))
          go_wp2_with (at_builtin; refine wpList_append_z rfl _ _ rfl W.heap.size w3.heap.size _ _ [] [x1] rfl rfl ((HO.out.kept k3).kept KA.out) (LsZ.lit _ [x1] (by simp)) ?c1 ?c2 ?_)
          case c1 => simp
          case c2 => have := HK3.out.size; simp; omega
          intro v' w4 hO' hg
          have hK4 := ((HO.out.kept k3).kept KA.out).grown (HK3.out.trans KA.out) (Nat.le_refl _) hg
          obtain ⟨a', cap', rfl⟩ := hO'.slice
          have HO4 := Lib.hid hO'
          have HK4 := Lib.hid hK4
          clear hO' hK4 hg k3
          go_wp2
          go_roundw
          case rel => exact ⟨.inr (.inl ⟨rfl, HO4.out, h0⟩), HK4.out⟩
          case measure => simp [intOf]
      · skip
        obtain ⟨a, cap, rfl⟩ := hO.slice
        have HO := Lib.hid hO
        clear hO
        by_cases h0 : y2 ≠ 0
        · have hb : (y2 != 0) = true := bne_iff_ne.2 h0
          have HE : Hid (ahN p s = [x1]) := by show _ = _; rw [HV.out, if_neg (by simpa using hy1), if_pos h0]
          go_wp2_with fail
          refine (HS2.out _).mono ?_
          rintro e w2 ⟨rfl, k2⟩
          have HP2 := Lib.hid (HP.out.kept (HKW.out.trans (HK.out.trans k2)))
          have HO2 := Lib.hid (HO.out.kept k2)
          have HK2 := Lib.hid (HK.out.trans k2)
          clear k2
          go_wp2_with (first | (refine wpList_load_ps (by rfl) _ rfl _ rfl _ (HP2.out) ?_) | (refine wpList_load_pb (by rfl) _ rfl _ rfl _ (HP2.out) ?_))
          refine (HC2.out _).mono ?_
          rintro e w3 ⟨rfl, k3⟩
          have HK3 := Lib.hid (HK2.out.trans k3)
          have HO3 := Lib.hid (HO2.out.kept k3)
          clear k3
          go_wp2
          go_ret
          exact ⟨_, rfl, by rw [HE.out]; exact HO3.out.low (HK0.out.trans HKW.out).size, (HK0.out.trans HKW.out).trans HK3.out⟩
        · replace h0 : y2 = 0 := by simpa using h0
          have hb : (y2 != 0) = false := by rw [h0]; rfl
          go_wp2_with fail
          refine (HS2.out _).mono ?_
          rintro e w2 ⟨rfl, k2⟩
          have HP2 := Lib.hid (HP.out.kept (HKW.out.trans (HK.out.trans k2)))
          replace HO := Lib.hid (HO.out.kept k2)
          have HK2 := Lib.hid (HK.out.trans k2)
          clear k2
          go_wp2_with (first | (refine wpList_load_ps (by rfl) _ rfl _ rfl _ (HP2.out) ?_) | (refine wpList_load_pb (by rfl) _ rfl _ rfl _ (HP2.out) ?_))
          refine (HC2.out _).mono ?_
          rintro e w3 ⟨rfl, k3⟩
          have HK3 := Lib.hid (HK2.out.trans k3)
          have KA := Lib.hid ((Kept.refl w3).alloc (.cells #[.int .i64 x2] 3))
          go_wp2_with (at_builtin; refine wpList_append_z rfl _ _ rfl W.heap.size w3.heap.size _ _ [x1] [x2] rfl rfl ((HO.out.kept k3).kept KA.out) (LsZ.lit _ [x2] (by simp)) ?c1 ?c2 ?_)
          case c1 => simp
          case c2 => have := HK3.out.size; simp; omega
          intro v' w4 hO' hg
          have hK4 := ((HO.out.kept k3).kept KA.out).grown (HK3.out.trans KA.out) (Nat.le_refl _) hg
          obtain ⟨a', cap', rfl⟩ := hO'.slice
          have HO4 := Lib.hid hO'
          have HK4 := Lib.hid hK4
          clear hO' hK4 hg k3
          go_wp2
          go_roundw
          case rel => exact ⟨.inr (.inr ⟨rfl, HO4.out, hy1, h0⟩), HK4.out⟩
          case measure => simp [intOf]
      · skip
        obtain ⟨a, cap, rfl⟩ := hO.slice
        have HO := Lib.hid hO
        have HE : Hid (ahN p s = [x1, x2]) := by show _ = _; rw [HV.out, if_neg (by simpa using hy1), if_neg (by simpa using hy2)]
        clear hO
        go_wp2
        go_ret
        exact ⟨_, rfl, by rw [HE.out]; exact HO.out.low (HK0.out.trans HKW.out).size, (HK0.out.trans HKW.out).trans HK.out⟩
set_option maxHeartbeats 4000000 in
theorem ahead_b2 (p : Ps) (hB : Brd p.B) (hp : p.t = 1) (s : Nat) (s0 : 8 ≤ s) (s1 : s < 56) (hsec : (s : Int) / 8 = 6) (w : World) (hT : TabG w) : Calls Tryz.prog 67 #[.agg (pl p).toArray, .int .i64 (s : Int)] w (NewZ w (ahN p s)) := by
  have hHP := PAt.new w hB.1
  have HK0 := Lib.hid ((Kept.refl w).alloc (.cells (pl p).toArray 26))
  have HT := Lib.hid (hT.kept HK0.out)
  have ht := hHP.turn
  rw [hp] at ht
  have HP := Lib.hid hHP
  have hrng : Hid ((w.alloc (.cells (pl p).toArray 26)).rangeAt 6 3 (mr (-1) 6 0)) := by
    intro j v hv
    have hj : j < 3 := (List.getElem?_eq_some_iff.1 hv).1
    have hm := HT.out.mar (3 + j) (by omega)
    rw [hm]
    have : j = 0 ∨ j = 1 ∨ j = 2 := by omega
    rcases this with rfl | rfl | rfl <;> exact hv
  have HRk := Lib.hid (fun w => rank_any (s : Int) w)
  have hrk : rkI (s : Int) = (s : Int) / 8 := by unfold rkI; rw [if_pos ⟨by omega, by omega⟩]
  rw [hrk] at HRk
  have hu : upI p.t = (-8) := by rw [hp]; rfl
  have hs2 : secI p.t = 6 := by rw [hp]; rfl
  have HS1 := Lib.hid (fun w => step_k (s : Int) 0 ((-1)) ((s : Int) + (-8)) w (by omega) (by omega) (by omega) (by omega) (by omega) (by omega) (by omega))
  have HC1 := Lib.hid (fun w => man_on p.B hB ((s : Int) + (-8)) (by omega) (by omega) w)
  have HS2 := Lib.hid (fun w => step_k (s : Int) 0 (-2) ((s : Int) + 2 * (-8)) w (by omega) (by omega) (by omega) (by omega) (by omega) (by omega) (by omega))
  have HC2 := Lib.hid (fun w => man_on p.B hB ((s : Int) + 2 * (-8)) (by omega) (by omega) w)
  have HV : Hid (ahN p s = if bAt p.B ((s : Int) + (-8)) ≠ 0 then [] else if bAt p.B ((s : Int) + 2 * (-8)) ≠ 0 then [(s : Int) + (-8)] else [(s : Int) + (-8), (s : Int) + 2 * (-8)]) := by
    show _ = _
    unfold ahN
    rw [hu]
    split
    · rfl
    · by_cases hq : bAt p.B ((s : Int) + 2 * (-8)) = 0
      · rw [if_pos ⟨by rw [hs2]; exact hsec, hq⟩, if_neg (by simpa using hq)]
      · rw [if_neg (fun h => hq h.2), if_pos hq]
  have hq : ((s : Int) / 8 == 6) = true := by rw [hsec]; rfl
  generalize bAt p.B ((s : Int) + (-8)) = y1 at *
  generalize (s : Int) + (-8) = x1 at *
  generalize bAt p.B ((s : Int) + 2 * (-8)) = y2 at *
  generalize (s : Int) + 2 * (-8) = x2 at *
  generalize (s : Int) / 8 = rk at *
  clear hrk hB hT hu hs2 hsec hHP hp s0 s1
  go_enter Tryz.func67, Tryz.ntmps67
  go_wp2_with (first | (refine wpList_load_mid rfl 117 _ rfl 6 3 rfl (mr (-1) 6 0) _ hrng.out Tryz.underlying117 rfl sizeMr ?_) | (with_reducible refine wpList_new_mr rfl rfl ?_) | ((with_reducible refine wpList_store_newmr rfl _ _ rfl (-1) 6 0 ?_ ?_ ?_); exact rfl; exact rfl))
  have hRM : RAt _ _ (mr (-1) 6 0) 117 := ⟨heap_alloc_new (w.alloc (.cells (pl p).toArray 26)) (.cells (mr (-1) 6 0).toArray 117)⟩
  have m0 : ((w.alloc (.cells (pl p).toArray 26)).alloc (.cells (mr (-1) 6 0).toArray 117)).cell? ⟨w.heap.size + 1, 0, none⟩ = some (Value.int .i64 ((-1))) := by have h := hRM.cellK 0; rw [show (w.alloc (.cells (pl p).toArray 26)).heap.size = w.heap.size + 1 by simp] at h; exact h
  have m1 : ((w.alloc (.cells (pl p).toArray 26)).alloc (.cells (mr (-1) 6 0).toArray 117)).cell? ⟨w.heap.size + 1, 1, none⟩ = some (Value.int .i64 6) := by have h := hRM.cellK 1; rw [show (w.alloc (.cells (pl p).toArray 26)).heap.size = w.heap.size + 1 by simp] at h; exact h
  have M0 := Lib.hid m0
  have M1 := Lib.hid m1
  have HK01 := Lib.hid ((Kept.refl (w.alloc (.cells (pl p).toArray 26))).alloc (.cells (mr (-1) 6 0).toArray 117))
  clear hRM m0 m1
  refine wp_region_held_drew (S := Kept _) (by kernel_rfl) (Kept.refl _).drew (fun hHeld => ?_)
  refine rT 0 15 (.int .i64 (s : Int)) rfl rfl hHeld ?_
  simp only [Act.put, sA, sZ, sU]
  refine rT 2 17 (.pointer (some ⟨w.heap.size + 1, 1, none⟩)) rfl rfl hHeld ?_
  simp only [pA, pN, sZ, sU]
  refine rC 3 18 (.int .i64 6) rfl rfl (fun _ h => kept_cell h (M1.out)) hHeld ?_
  simp only [pA, pN, sZ, sU]
  refine rR 1 rfl (fun K hK => ?_)
  go_simp
  refine (HRk.out _).mono ?_
  rintro e W ⟨rfl, gW⟩
  refine hK.out _ _ (hHeld.trans gW) (fun _ => ?_)
  replace hHeld := hHeld.trans gW
  clear hK K
  refine rT 4 19 (.bool true) rfl rfl hHeld ?_
  simp only [pA, pN, sZ, sU]
  refine wpAnyH_done (by kernel_rfl) ?_ _
  have HKW := Lib.hid (HK01.out.trans hHeld)
  have m0 := kept_cell hHeld M0.out
  have M0W := Lib.hid m0
  clear hHeld m0
  go_wp2
  go_loopw [7, 8] (fun t7 t8 wr => ((t8 = .int .i64 1 ∧ OwnZ wr W.heap.size t7 []) ∨ (t8 = .int .i64 2 ∧ OwnZ wr W.heap.size t7 [x1] ∧ y1 = 0) ∨ (t8 = .int .i64 3 ∧ OwnZ wr W.heap.size t7 [x1, x2] ∧ y1 = 0 ∧ y2 = 0)) ∧ Kept W wr) (fun _ t8 _ => 4 - (intOf t8).toNat)
  case atStart => exact ⟨.inl ⟨rfl, OwnZ.nil _ _⟩, Kept.refl _⟩
  case round =>
    obtain ⟨hinv, hK⟩ := hrel
    have HK := Lib.hid hK
    have m0 := kept_cell hK M0W.out
    clear hK
    skip
    · rcases hinv with ⟨rfl, hO⟩ | ⟨rfl, hO, hy1⟩ | ⟨rfl, hO, hy1, hy2⟩
      · skip
        obtain ⟨a, cap, rfl⟩ := hO.slice
        have HO := Lib.hid hO
        clear hO
        by_cases h0 : y1 ≠ 0
        · have hb : (y1 != 0) = true := bne_iff_ne.2 h0
          have HE : Hid (ahN p s = []) := by show _ = _; rw [HV.out, if_pos h0]
          go_wp2_with fail
          refine (HS1.out _).mono ?_
          rintro e w2 ⟨rfl, k2⟩
          have HP2 := Lib.hid (HP.out.kept (HKW.out.trans (HK.out.trans k2)))
          have HO2 := Lib.hid (HO.out.kept k2)
          have HK2 := Lib.hid (HK.out.trans k2)
          clear k2
          go_wp2_with (first | (refine wpList_load_ps (by rfl) _ rfl _ rfl _ (HP2.out) ?_) | (refine wpList_load_pb (by rfl) _ rfl _ rfl _ (HP2.out) ?_))
          refine (HC1.out _).mono ?_
          rintro e w3 ⟨rfl, k3⟩
          have HK3 := Lib.hid (HK2.out.trans k3)
          have HO3 := Lib.hid (HO2.out.kept k3)
          clear k3
          go_wp2
          go_ret
          exact ⟨_, rfl, by rw [HE.out]; exact HO3.out.low (HK0.out.trans HKW.out).size, (HK0.out.trans HKW.out).trans HK3.out⟩
        · replace h0 : y1 = 0 := by simpa using h0
          have hb : (y1 != 0) = false := by rw [h0]; rfl
          go_wp2_with fail
          refine (HS1.out _).mono ?_
          rintro e w2 ⟨rfl, k2⟩
          have HP2 := Lib.hid (HP.out.kept (HKW.out.trans (HK.out.trans k2)))
          replace HO := Lib.hid (HO.out.kept k2)
          have HK2 := Lib.hid (HK.out.trans k2)
          clear k2
          go_wp2_with (first | (refine wpList_load_ps (by rfl) _ rfl _ rfl _ (HP2.out) ?_) | (refine wpList_load_pb (by rfl) _ rfl _ rfl _ (HP2.out) ?_))
          refine (HC1.out _).mono ?_
          rintro e w3 ⟨rfl, k3⟩
          have HK3 := Lib.hid (HK2.out.trans k3)
          have KA := Lib.hid ((Kept.refl w3).alloc (.cells #[.int .i64 x1] 3))
          go_wp2_with (at_builtin; refine wpList_append_z rfl _ _ rfl W.heap.size w3.heap.size _ _ [] [x1] rfl rfl ((HO.out.kept k3).kept KA.out) (LsZ.lit _ [x1] (by simp)) ?c1 ?c2 ?_)
          case c1 => simp
          case c2 => have := HK3.out.size; simp; omega
          intro v' w4 hO' hg
          have hK4 := ((HO.out.kept k3).kept KA.out).grown (HK3.out.trans KA.out) (Nat.le_refl _) hg
          obtain ⟨a', cap', rfl⟩ := hO'.slice
          have HO4 := Lib.hid hO'
          have HK4 := Lib.hid hK4
          clear hO' hK4 hg k3
          go_wp2
          go_roundw
          case rel => exact ⟨.inr (.inl ⟨rfl, HO4.out, h0⟩), HK4.out⟩
          case measure => simp [intOf]
      · skip
        obtain ⟨a, cap, rfl⟩ := hO.slice
        have HO := Lib.hid hO
        clear hO
        by_cases h0 : y2 ≠ 0
        · have hb : (y2 != 0) = true := bne_iff_ne.2 h0
          have HE : Hid (ahN p s = [x1]) := by show _ = _; rw [HV.out, if_neg (by simpa using hy1), if_pos h0]
          go_wp2_with fail
          refine (HS2.out _).mono ?_
          rintro e w2 ⟨rfl, k2⟩
          have HP2 := Lib.hid (HP.out.kept (HKW.out.trans (HK.out.trans k2)))
          have HO2 := Lib.hid (HO.out.kept k2)
          have HK2 := Lib.hid (HK.out.trans k2)
          clear k2
          go_wp2_with (first | (refine wpList_load_ps (by rfl) _ rfl _ rfl _ (HP2.out) ?_) | (refine wpList_load_pb (by rfl) _ rfl _ rfl _ (HP2.out) ?_))
          refine (HC2.out _).mono ?_
          rintro e w3 ⟨rfl, k3⟩
          have HK3 := Lib.hid (HK2.out.trans k3)
          have HO3 := Lib.hid (HO2.out.kept k3)
          clear k3
          go_wp2
          go_ret
          exact ⟨_, rfl, by rw [HE.out]; exact HO3.out.low (HK0.out.trans HKW.out).size, (HK0.out.trans HKW.out).trans HK3.out⟩
        · replace h0 : y2 = 0 := by simpa using h0
          have hb : (y2 != 0) = false := by rw [h0]; rfl
          go_wp2_with fail
          refine (HS2.out _).mono ?_
          rintro e w2 ⟨rfl, k2⟩
          have HP2 := Lib.hid (HP.out.kept (HKW.out.trans (HK.out.trans k2)))
          replace HO := Lib.hid (HO.out.kept k2)
          have HK2 := Lib.hid (HK.out.trans k2)
          clear k2
          go_wp2_with (first | (refine wpList_load_ps (by rfl) _ rfl _ rfl _ (HP2.out) ?_) | (refine wpList_load_pb (by rfl) _ rfl _ rfl _ (HP2.out) ?_))
          refine (HC2.out _).mono ?_
          rintro e w3 ⟨rfl, k3⟩
          have HK3 := Lib.hid (HK2.out.trans k3)
          have KA := Lib.hid ((Kept.refl w3).alloc (.cells #[.int .i64 x2] 3))
          go_wp2_with (at_builtin; refine wpList_append_z rfl _ _ rfl W.heap.size w3.heap.size _ _ [x1] [x2] rfl rfl ((HO.out.kept k3).kept KA.out) (LsZ.lit _ [x2] (by simp)) ?c1 ?c2 ?_)
          case c1 => simp
          case c2 => have := HK3.out.size; simp; omega
          intro v' w4 hO' hg
          have hK4 := ((HO.out.kept k3).kept KA.out).grown (HK3.out.trans KA.out) (Nat.le_refl _) hg
          obtain ⟨a', cap', rfl⟩ := hO'.slice
          have HO4 := Lib.hid hO'
          have HK4 := Lib.hid hK4
          clear hO' hK4 hg k3
          go_wp2
          go_roundw
          case rel => exact ⟨.inr (.inr ⟨rfl, HO4.out, hy1, h0⟩), HK4.out⟩
          case measure => simp [intOf]
      · skip
        obtain ⟨a, cap, rfl⟩ := hO.slice
        have HO := Lib.hid hO
        have HE : Hid (ahN p s = [x1, x2]) := by show _ = _; rw [HV.out, if_neg (by simpa using hy1), if_neg (by simpa using hy2)]
        clear hO
        go_wp2
        go_ret
        exact ⟨_, rfl, by rw [HE.out]; exact HO.out.low (HK0.out.trans HKW.out).size, (HK0.out.trans HKW.out).trans HK.out⟩
theorem ahead_is {p : Ps} {s : Nat} (h : Pw p s) (w : World) (hT : TabG w) : Calls Tryz.prog 67 #[.agg (pl p).toArray, .int .i64 (s : Int)] w (NewZ w (ahN p s)) := by
  obtain ⟨s0, s1⟩ := h.rank
  rcases h.turn with ⟨ht, _⟩ | ⟨ht, _⟩
  · by_cases hs : (s : Int) / 8 = 1
    · exact ahead_w2 p h.brd ht s s0 s1 hs w hT
    · exact ahead_w1 p h.brd ht s s0 s1 hs w hT
  · by_cases hs : (s : Int) / 8 = 6
    · exact ahead_b2 p h.brd ht s s0 s1 hs w hT
    · exact ahead_b1 p h.brd ht s s0 s1 hs w hT
end Go.Proofs.YtkebpchhpidogaaGreatDoor
namespace Go.Proofs.YtkebpchhpidogaaGreatDoor
open Go.RowKit
set_option linter.unusedVariables false
set_option linter.unusedSimpArgs false
set_option maxRecDepth 100000

theorem take_at {α : Type} (P : List α) (j : Nat) (p : α) (h : P[j]? = some p) : P.take (j + 1) = P.take j ++ [p] := by
  rw [List.take_add_one, h]; rfl
theorem strikes_on (a : Addr) (p : Ps) (hB : Brd p.B) (hr : pwI p = 0) (s : Nat) (hs : s < 64) (w : World) (hS : Steps w) :
    Calls Tryz.prog 69 #[.pointer (some a), .agg (cl p.B).toArray, .int .i64 (s : Int)] w (NewZ w (zn (strikesN p.B (s : Int)))) := by
  have := strikes_is a p.B hB (s : Int) w hS
  rwa [if_pos (by rw [okS_yes (by omega) (by omega), (king_one (right_pos hr).1).1]; rfl)] at this
def offP (p : Ps) (s : Nat) (L : List Int) (k : Nat) : List Mv := ((L.take k).filter (offOk p)).map fun x => ⟨(s : Int), x, 0⟩
theorem offP_yes {p : Ps} {s : Nat} {L : List Int} {k : Nat} {x : Int} (h : L[k]? = some x) (ho : offOk p x = true) : offP p s L (k + 1) = offP p s L k ++ [⟨s, x, 0⟩] := by
  unfold offP; rw [take_at L k x h]; simp [ho]
theorem offP_no {p : Ps} {s : Nat} {L : List Int} {k : Nat} {x : Int} (h : L[k]? = some x) (ho : offOk p x = false) : offP p s L (k + 1) = offP p s L k := by
  unfold offP; rw [take_at L k x h]; simp [ho]
theorem offP_len (p : Ps) (s : Nat) (L : List Int) (k : Nat) (hL : L.length ≤ 64) : (offP p s L k).length ≤ 64 := by
  unfold offP
  rw [List.length_map]
  have := List.length_filter_le (offOk p) (L.take k)
  rw [List.length_take] at this
  omega
set_option maxHeartbeats 4000000 in
theorem officer_is (g : Nat) (a : Addr) (p : Ps) (hB : Brd p.B) (hr : pwI p = 0) (s : Nat) (hs : s < 64) (w : World) (hT : TabG w) (hE : EyeAt w g a) :
    Calls Tryz.prog 53 #[.pointer (some ⟨g, 0, none⟩), .agg (pl p).toArray, .int .i64 (s : Int)] w (NewM w (offN p s)) := by
  have HP := Lib.hid (PAt.new w hB.1)
  have HK0 := Lib.hid ((Kept.refl w).alloc (.cells (pl p).toArray 26))
  have HT := Lib.hid (hT.kept HK0.out)
  have HE := Lib.hid (hE.kept HK0.out)
  have hpl : Hid (p.B.length = 64) := hB.1
  have HStr := Lib.hid (fun w hS => strikes_on a p hB hr s hs w hS)
  have HC := Lib.hid (fun x h0 h1 w => man_at p.B hB x h0 h1 w)
  have HLn := Lib.hid (zs_len p.B (s : Int))
  have HMem := Lib.hid (fun x (hx : x ∈ zn (strikesN p.B (s : Int))) => ((mem_zs (B := p.B) (s := s) x).1 hx).1)
  have HV : Hid (offN p s = offP p s (zn (strikesN p.B (s : Int))) (zn (strikesN p.B (s : Int))).length) := by show _ = _; unfold offP offN; rw [List.take_length]
  generalize zn (strikesN p.B (s : Int)) = L at *
  clear hB hr hT hE hs
  go_enter Tryz.func53, Tryz.ntmps53
  go_wp2
  refine wp_region_held_drew (S := Kept _) (by kernel_rfl) (Kept.refl _).drew (fun hHeld => ?_)
  refine rT 0 10 (.pointer (some ⟨g, 0, none⟩)) rfl rfl hHeld ?_
  simp only [pA, pN, sZ, sU]
  refine rT 1 11 (.pointer (some ⟨g, 0, none⟩)) rfl rfl hHeld ?_
  simp only [pA, pN, sZ, sU]
  refine rT 2 12 (.pointer (some ⟨g, 0, none⟩)) rfl rfl hHeld ?_
  simp only [pA, pN, sZ, sU]
  refine rC 3 13 (.pointer (some a)) rfl rfl (fun _ h => kept_cell h (HE.out)) hHeld ?_
  simp only [pA, pN, sZ, sU]
  refine rT 4 14 (.pointer (some ⟨w.heap.size, 0, none⟩)) rfl rfl hHeld ?_
  simp only [pA, pN, sZ, sU]
  refine rY 5 15 rfl rfl (take_load_pb (by rfl) _ rfl _ rfl p hpl.out (fun _ h => (HP.out).kept h)) hHeld ?_
  simp only [pA, pN, sZ, sU]
  refine rT 6 16 (.int .i64 (s : Int)) rfl rfl hHeld ?_
  simp only [pA, pN, sZ, sU]
  refine rT 9 19 (.int .i64 0) rfl rfl hHeld ?_
  simp only [pA, pN, sZ, sU]
  refine rR 7 rfl (fun K hK => ?_)
  go_simp
  refine (HStr.out _ (HT.out.tabm.tabs.steps.kept hHeld)).mono ?_
  rintro e X ⟨vX, rfl, hoX, gX⟩
  obtain ⟨aX, cX, rfl⟩ := hoX.slice
  have HOX := Lib.hid hoX
  clear hoX
  refine hK.out _ _ (hHeld.trans gX) (fun _ => ?_)
  replace hHeld := hHeld.trans gX
  clear hK K
  refine rT 8 18 (.int .i64 (L.length : Int)) rfl rfl hHeld ?_
  simp only [pA, pN, sZ, sU]
  refine wpAnyH_done (by kernel_rfl) ?_ _
  have HKX := Lib.hid hHeld
  obtain ⟨gl, hls, _⟩ := HOX.out.ls
  have HLs := Lib.hid hls
  have HPX := Lib.hid (HP.out.kept hHeld)
  generalize hn : L.length = n at *
  have HN := Lib.hid hn
  clear hHeld hls hn gX
  go_wp2
  go_loopw [7, 19] (fun t7 t19 wr => ∃ k : Nat, k ≤ n ∧ t19 = .int .i64 k ∧ OwnM wr X.heap.size t7 (offP p s L k) ∧ Kept X wr) (fun _ t19 _ => n - (intOf t19).toNat)
  case atStart => exact ⟨0, Nat.zero_le _, rfl, OwnM.nil _ _, Kept.refl _⟩
  case round =>
    obtain ⟨k, hk, rfl, hO, hK⟩ := hrel
    obtain ⟨ao, co, rfl⟩ := hO.slice
    have HO := Lib.hid hO
    have HK := Lib.hid hK
    have HPr := Lib.hid (HPX.out.kept hK)
    have hLk := Lib.hid (offP_len p s L k (by have := HN.out; have := HLn.out; omega))
    clear hO
    by_cases hlt : k < n
    · have hlt' : (k : Int) < (n : Int) := by omega
      obtain ⟨x, hx⟩ : ∃ x, L[k]? = some x := ⟨_, List.getElem?_eq_getElem (by have := HN.out; omega)⟩
      obtain ⟨x0, x1⟩ := HMem.out x (List.mem_of_getElem? hx)
      obtain ⟨off, cap, he, hc1, hc2, h3⟩ := HLs.out.full (by have := HN.out; omega)
      rw [HN.out] at he
      injection he with he1 he2 he3
      subst he1 he3
      have e1 := kept_cell hK (h3 k x hx)
      rw [HN.out] at hc1
      unfold maxLen at hc2
      have HX := Lib.hid hx
      have HCx := Lib.hid (HC.out x x0 x1)
      have HOk : Hid (offOk p x = (sideI (bAt p.B x) != p.t)) := by show _ = _; unfold offOk; rfl
      generalize bAt p.B x = y at *
      generalize hln : (offP p s L k).length = q at *
      have HQ := Lib.hid hln
      clear hx h3 hK x0 x1 hln
      cases hy : (sideI y != p.t)
      · rw [hy] at HOk
        have HS := Lib.hid (offP_no (s := s) HX.out HOk.out)
        go_wp2
        refine wp_region_held_drew (S := Kept _) (by kernel_rfl) (Kept.refl _).drew (fun hHeld => ?_)
        refine rT 0 23 (.pointer (some ⟨w.heap.size, 0, none⟩)) rfl rfl hHeld ?_
        simp only [pA, pN, sZ, sU]
        refine rY 1 24 rfl rfl (take_load_pb (by rfl) _ rfl _ rfl p hpl.out (fun _ h => (HPr.out).kept h)) hHeld ?_
        simp only [pA, pN, sZ, sU]
        refine rT 2 25 (.int .i64 x) rfl rfl hHeld ?_
        simp only [pA, pN, sZ, sU]
        refine rT 5 28 (.pointer (some ⟨w.heap.size, 64, none⟩)) rfl rfl hHeld ?_
        simp only [pA, pN, sZ, sU]
        refine rC 6 29 (.int .i64 p.t) rfl rfl (fun _ h => kept_cell h (HPr.out.turn)) hHeld ?_
        simp only [pA, pN, sZ, sU]
        refine rR 3 rfl (fun K hK => ?_)
        go_simp
        refine (HCx.out _).mono ?_
        rintro e w2 ⟨rfl, gw2⟩
        refine hK.out _ _ (hHeld.trans gw2) (fun _ => ?_)
        replace hHeld := hHeld.trans gw2
        clear hK K
        refine rR 4 rfl (fun K hK => ?_)
        go_simp
        refine (mside_k y _).mono ?_
        rintro e w3 ⟨rfl, gw3⟩
        refine hK.out _ _ (hHeld.trans gw3) (fun _ => ?_)
        replace hHeld := hHeld.trans gw3
        clear hK K
        refine rT 7 30 (.bool false) rfl rfl hHeld ?_
        simp only [pA, pN, sZ, sU]
        refine wpAnyH_done (by kernel_rfl) ?_ _
        have HK3 := Lib.hid (HK.out.trans hHeld)
        have HO3 := Lib.hid (HO.out.kept hHeld)
        clear hHeld
        go_wp2
        go_roundw
        case rel => exact ⟨k + 1, by omega, by go_num, by rw [HS.out]; exact HO3.out, HK3.out⟩
        case measure => simp [intOf]; omega
      · rw [hy] at HOk
        have HS := Lib.hid (offP_yes (s := s) HX.out HOk.out)
        go_wp2
        refine wp_region_held_drew (S := Kept _) (by kernel_rfl) (Kept.refl _).drew (fun hHeld => ?_)
        refine rT 0 23 (.pointer (some ⟨w.heap.size, 0, none⟩)) rfl rfl hHeld ?_
        simp only [pA, pN, sZ, sU]
        refine rY 1 24 rfl rfl (take_load_pb (by rfl) _ rfl _ rfl p hpl.out (fun _ h => (HPr.out).kept h)) hHeld ?_
        simp only [pA, pN, sZ, sU]
        refine rT 2 25 (.int .i64 x) rfl rfl hHeld ?_
        simp only [pA, pN, sZ, sU]
        refine rT 5 28 (.pointer (some ⟨w.heap.size, 64, none⟩)) rfl rfl hHeld ?_
        simp only [pA, pN, sZ, sU]
        refine rC 6 29 (.int .i64 p.t) rfl rfl (fun _ h => kept_cell h (HPr.out.turn)) hHeld ?_
        simp only [pA, pN, sZ, sU]
        refine rR 3 rfl (fun K hK => ?_)
        go_simp
        refine (HCx.out _).mono ?_
        rintro e w2 ⟨rfl, gw2⟩
        refine hK.out _ _ (hHeld.trans gw2) (fun _ => ?_)
        replace hHeld := hHeld.trans gw2
        clear hK K
        refine rR 4 rfl (fun K hK => ?_)
        go_simp
        refine (mside_k y _).mono ?_
        rintro e w3 ⟨rfl, gw3⟩
        refine hK.out _ _ (hHeld.trans gw3) (fun _ => ?_)
        replace hHeld := hHeld.trans gw3
        clear hK K
        refine rT 7 30 (.bool true) rfl rfl hHeld ?_
        simp only [pA, pN, sZ, sU]
        refine wpAnyH_done (by kernel_rfl) ?_ _
        have HK3 := Lib.hid (HK.out.trans hHeld)
        have HO3 := Lib.hid (HO.out.kept hHeld)
        have KA := Lib.hid ((Kept.refl w3).alloc (.cells (ml ⟨s, x, 0⟩).toArray 35))
        clear hHeld
        go_wp2_with (first | (refine wpList_bt_mv2 rfl _ _ rfl (s : Int) x rfl rfl ?_) | (refine wpList_bslice_mv rfl _ rfl ⟨s, x, 0⟩ rfl ?_) | (at_builtin; refine wpList_append_m rfl _ _ rfl X.heap.size w3.heap.size _ _ (offP p s L k) [⟨s, x, 0⟩] rfl rfl (HO3.out.kept KA.out) (LsM.lit _ _) ?c1 ?c2 ?_))
        case c1 => have := hLk.out; have := HQ.out; simp; omega
        case c2 => have := HK3.out.size; simp; omega
        intro v' w4 hO' hg
        have hK4 := (HO3.out.kept KA.out).grown (HK3.out.trans KA.out) (Nat.le_refl _) hg
        rw [← HS.out] at hO'
        obtain ⟨a', cap', rfl⟩ := hO'.slice
        have HO4 := Lib.hid hO'
        have HK4 := Lib.hid hK4
        clear hO' hK4 hg
        generalize (offP p s L (k + 1)).length = q' at *
        go_wp2
        go_roundw
        case rel => exact ⟨k + 1, by omega, by go_num, HO4.out, HK4.out⟩
        case measure => simp [intOf]; omega
    · obtain rfl : k = n := by omega
      go_wp2
      go_ret
      exact ⟨_, rfl, by rw [HV.out]; exact HO.out.low (HK0.out.trans HKX.out).size, (HK0.out.trans HKX.out).trans HK.out⟩
theorem castles_is (p : Ps) (hB : Brd p.B) (m : Mv) (w : World) (hT : TabM w) :
    Calls Tryz.prog 72 #[.agg (pl p).toArray, .agg (ml m).toArray] w fun e w' => e = .returned (.bool (okM p m && decide (castN p m < 4))) ∧ Kept w w' := by
  cases h : okM p m
  · exact castles_no p hB m h w hT
  · exact castles_yes p hB m h w hT
def kgP (p : Ps) (s : Nat) (k : Nat) : List Mv := if k = 0 then offN p s else if k = 1 then offN p s ++ csN p s (-2) else offN p s ++ csN p s (-2) ++ csN p s 2
theorem kgP_step (p : Ps) (s k : Nat) (hk : k < 2) : kgP p s (k + 1) = kgP p s k ++ csN p s (swL.getD k 0) := by
  have : k = 0 ∨ k = 1 := by omega
  rcases this with rfl | rfl <;> rfl
theorem kgP_len (p : Ps) (s k : Nat) : (kgP p s k).length ≤ 66 := by
  have h1 := off_len p s
  have h2 := cs_len p s (-2)
  have h3 := cs_len p s 2
  unfold kgP
  split
  · omega
  · split
    · rw [List.length_append]; omega
    · rw [List.length_append, List.length_append]; omega
theorem cs_off {p : Ps} {s : Nat} {d : Int} (h : stI s d 0 = -1) : csN p s d = [] := by unfold csN; rw [if_neg (fun q => q.1 h)]
theorem cs_yes {p : Ps} {s : Nat} {d t : Int} (h : stI s d 0 = t) (h0 : 0 ≤ t) (hc : (okM p ⟨s, t, 0⟩ && decide (castN p ⟨s, t, 0⟩ < 4)) = true) : csN p s d = [⟨s, t, 0⟩] := by
  unfold csN; rw [h]; rw [Bool.and_eq_true, decide_eq_true_eq] at hc; rw [if_pos ⟨by omega, hc⟩]
theorem cs_no {p : Ps} {s : Nat} {d t : Int} (h : stI s d 0 = t) (hc : (okM p ⟨s, t, 0⟩ && decide (castN p ⟨s, t, 0⟩ < 4)) = false) : csN p s d = [] := by
  unfold csN; rw [h]; rw [if_neg]
  rintro ⟨_, a, b⟩
  rw [a, show decide (castN p ⟨s, t, 0⟩ < 4) = true by simpa using b] at hc
  cases hc
set_option maxHeartbeats 4000000 in
theorem king_go (g : Nat) (a : Addr) (p : Ps) (hB : Brd p.B) (hr : pwI p = 0) (s : Nat) (hs : s < 64) (w : World) (hT : TabG w) (hE : EyeAt w g a) :
    Calls Tryz.prog 54 #[.pointer (some ⟨g, 0, none⟩), .agg (pl p).toArray, .int .i64 (s : Int)] w (NewM w (kingN p s)) := by
  have HP := Lib.hid (PAt.new w hB.1)
  have HK0 := Lib.hid ((Kept.refl w).alloc (.cells (pl p).toArray 26))
  obtain ⟨W, eW⟩ : ∃ W, W = w.alloc (.cells (pl p).toArray 26) := ⟨_, rfl⟩
  have HW := Lib.hid eW
  rw [← eW] at HP HK0
  have HT := Lib.hid (hT.kept HK0.out)
  have HE := Lib.hid (hE.kept HK0.out)
  have HOf := Lib.hid (fun w hT hE => officer_is g a p hB hr s hs w hT hE)
  have HCs := Lib.hid (fun m w hT => castles_is p hB m w hT)
  have HSt := Lib.hid (fun (d : Int) (hd : (Lit.int .i64 d).wf = true) w => step_any (s : Int) d 0 w hd (by decide))
  have hcas := HP.out.cas
  have HLn := Lib.hid (off_len p s)
  by_cases hc0 : p.c = 0
  · have hV : Hid (kingN p s = offN p s) := by show _ = _; unfold kingN; rw [if_pos hc0]
    have hb : (p.c == 0) = true := by rw [hc0]; rfl
    clear hB hr hT hE hs eW hcas hc0
    go_enter Tryz.func54, Tryz.ntmps54
    go_wp2_with (rw [← HW.out] at *; refine wpList_load_ps (by rfl) _ rfl _ rfl _ HP.out ?_)
    refine (HOf.out _ HT.out HE.out).mono ?_
    rintro e w1 ⟨v1, rfl, hO1, k1⟩
    obtain ⟨a1, c1, rfl⟩ := hO1.slice
    have HO1 := Lib.hid hO1
    have HK1 := Lib.hid k1
    have hcas := (HP.out.kept k1).cas
    clear hO1 k1
    go_wp2
    go_ret
    exact ⟨_, rfl, by rw [hV.out]; exact HO1.out.low HK0.out.size, HK0.out.trans HK1.out⟩
  · have hV : Hid (kingN p s = kgP p s 2) := by show _ = _; unfold kingN; rw [if_neg hc0]; rfl
    have hb : (p.c == 0) = false := beq_eq_false_iff_ne.2 hc0
    have h0 : Hid (offN p s = kgP p s 0) := by rfl
    clear hB hr hT hE hs eW hcas hc0
    go_enter Tryz.func54, Tryz.ntmps54
    go_wp2_with (rw [← HW.out] at *; refine wpList_load_ps (by rfl) _ rfl _ rfl _ HP.out ?_)
    refine (HOf.out _ HT.out HE.out).mono ?_
    rintro e w1 ⟨v1, rfl, hO1, k1⟩
    obtain ⟨a1, c1, rfl⟩ := hO1.slice
    have HO1 := Lib.hid hO1
    have HK1 := Lib.hid k1
    have HT1 := Lib.hid (HT.out.kept k1)
    have hcas := (HP.out.kept k1).cas
    clear hO1 k1
    generalize hln : (offN p s).length = n0 at *
    have HN0 := Lib.hid hln
    clear hln
    go_wp2_with (refine wpList_load_mid rfl 69 _ rfl 4 0 rfl swV _ HT1.out.sideR Tryz.underlying69 rfl size_sw ?_)
    go_loopw [7, 22] (fun t7 t22 wr => ∃ k : Nat, k ≤ 2 ∧ t22 = .int .i64 k ∧ OwnM wr W.heap.size t7 (kgP p s k) ∧ Kept W wr) (fun _ t22 _ => 2 - (intOf t22).toNat)
    case atStart => exact ⟨0, Nat.zero_le _, rfl, by rw [← h0.out]; exact HO1.out, HK1.out⟩
    case round =>
      obtain ⟨k, hk, rfl, hO, hK⟩ := hrel
      obtain ⟨ao, co, rfl⟩ := hO.slice
      have HO := Lib.hid hO
      have HK := Lib.hid hK
      have hLk := Lib.hid (kgP_len p s k)
      generalize hln : (kgP p s k).length = q at *
      have HQ := Lib.hid hln
      clear hO hK hcas hln
      by_cases hlt : k < 2
      · have hlt' : (k : Int) < 2 := by omega
        have hx := run_index_sw k hlt
        have HS := Lib.hid (kgP_step p s k hlt)
        have hwf : (Lit.int .i64 (swL.getD k 0)).wf = true := by
          have : k = 0 ∨ k = 1 := by omega
          rcases this with rfl | rfl <;> decide
        have HSd := Lib.hid (HSt.out _ hwf)
        generalize swL.getD k 0 = d at *
        clear hwf
        go_wp2_with fail
        refine (HSd.out _).mono ?_
        rintro e w' ⟨⟨t, on, rfl, ht⟩, rfl⟩
        have KB0 := Lib.hid ((Kept.refl wr).alloc (.cells (ml ⟨s, t, 0⟩).toArray 35))
        have HPb := Lib.hid (HP.out.kept (HK.out.trans KB0.out))
        have HMb : Hid (MAt _ _ _) := MAt.new wr ⟨s, t, 0⟩
        have HTb := Lib.hid (HT.out.kept (HK.out.trans KB0.out))
        have HOb := Lib.hid (HO.out.kept KB0.out)
        have HKb := Lib.hid (HK.out.trans KB0.out)
        rcases ht with ⟨rfl, b0, b1, b2, b3, b4, b5, b6⟩ | ⟨rfl, hno⟩
        · have hst : stI s d 0 = t := by
            rcases stI_cases s d 0 with ⟨_, _, _, _, _, _, e⟩ | ⟨_, q⟩
            · rw [e, b6]
            · omega
          have ht0 : 0 ≤ t := by omega
          have HCm := Lib.hid (HCs.out ⟨s, t, 0⟩)
          cases hcm : (okM p ⟨s, t, 0⟩ && decide (castN p ⟨s, t, 0⟩ < 4))
          · rw [hcm] at HCm
            have HC0 := Lib.hid (cs_no (p := p) hst hcm)
            clear hst ht0 hcm b0 b1 b2 b3 b4 b5 b6
            go_wp2_with (first | (refine wpList_bt_mv2 rfl _ _ rfl (s : Int) t rfl rfl ?_) | (with_reducible refine wpList_new_mv rfl rfl ?_) | ((with_reducible refine wpList_store_newmv rfl _ _ rfl Zm ⟨s, t, 0⟩ ?_ ?_ ?_); exact rfl; exact rfl) | (refine wpList_load_ps (by rfl) _ rfl _ rfl _ HPb.out ?_) | (refine wpList_load_mv (by rfl) _ rfl _ rfl _ HMb.out ?_))
            refine (HCm.out _ HTb.out.tabm).mono ?_
            rintro e w3 ⟨rfl, k3⟩
            have HK3 := Lib.hid (HKb.out.trans k3)
            have HO3 := Lib.hid (HOb.out.kept k3)
            clear k3
            go_wp2
            go_roundw
            case rel => exact ⟨k + 1, by omega, by go_num, by rw [HS.out, HC0.out, List.append_nil]; exact HO3.out, HK3.out⟩
            case measure => simp [intOf]; omega
          · rw [hcm] at HCm
            have HC0 := Lib.hid (cs_yes (p := p) hst ht0 hcm)
            clear hst ht0 hcm b0 b1 b2 b3 b4 b5 b6
            go_wp2_with (first | (refine wpList_bt_mv2 rfl _ _ rfl (s : Int) t rfl rfl ?_) | (with_reducible refine wpList_new_mv rfl rfl ?_) | ((with_reducible refine wpList_store_newmv rfl _ _ rfl Zm ⟨s, t, 0⟩ ?_ ?_ ?_); exact rfl; exact rfl) | (refine wpList_load_ps (by rfl) _ rfl _ rfl _ HPb.out ?_) | (refine wpList_load_mv (by rfl) _ rfl _ rfl _ HMb.out ?_))
            refine (HCm.out _ HTb.out.tabm).mono ?_
            rintro e w3 ⟨rfl, k3⟩
            have HK3 := Lib.hid (HKb.out.trans k3)
            have HO3 := Lib.hid (HOb.out.kept k3)
            have HM3 := Lib.hid (MAt.kept HMb.out k3)
            have KA := Lib.hid ((Kept.refl w3).alloc (.cells (ml ⟨s, t, 0⟩).toArray 35))
            clear k3
            go_wp2_with (first | (refine wpList_load_mv (by rfl) _ rfl _ rfl _ HM3.out ?_) | (refine wpList_bslice_mv rfl _ rfl ⟨s, t, 0⟩ rfl ?_) | (at_builtin; refine wpList_append_m rfl _ _ rfl W.heap.size w3.heap.size _ _ (kgP p s k) [⟨s, t, 0⟩] rfl rfl (HO3.out.kept KA.out) (LsM.lit _ _) ?c1 ?c2 ?_))
            case c1 => have := hLk.out; have := HQ.out; simp; omega
            case c2 => have := HK3.out.size; simp; omega
            intro v' w4 hO' hg
            have hK4 := (HO3.out.kept KA.out).grown (HK3.out.trans KA.out) (Nat.le_refl _) hg
            rw [← HC0.out, ← HS.out] at hO'
            obtain ⟨a', cap', rfl⟩ := hO'.slice
            have HO4 := Lib.hid hO'
            have HK4 := Lib.hid hK4
            clear hO' hK4 hg
            generalize (kgP p s (k + 1)).length = q' at *
            go_wp2
            go_roundw
            case rel => exact ⟨k + 1, by omega, by go_num, HO4.out, HK4.out⟩
            case measure => simp [intOf]; omega
        · have HC0 := Lib.hid (cs_off (p := p) hno)
          clear hno
          go_wp2_with (first | (refine wpList_bt_mv2 rfl _ _ rfl (s : Int) t rfl rfl ?_) | (with_reducible refine wpList_new_mv rfl rfl ?_) | ((with_reducible refine wpList_store_newmv rfl _ _ rfl Zm ⟨s, t, 0⟩ ?_ ?_ ?_); exact rfl; exact rfl))
          go_roundw
          case rel => exact ⟨k + 1, by omega, by go_num, by rw [HS.out, HC0.out, List.append_nil]; exact HOb.out, HKb.out⟩
          case measure => simp [intOf]; omega
      · obtain rfl : k = 2 := by omega
        go_wp2
        go_ret
        exact ⟨_, rfl, by rw [hV.out]; exact HO.out.low HK0.out.size, HK0.out.trans HK.out⟩
end Go.Proofs.YtkebpchhpidogaaGreatDoor
