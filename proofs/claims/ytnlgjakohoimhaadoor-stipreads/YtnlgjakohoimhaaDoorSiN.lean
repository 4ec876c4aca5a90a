/- Stipulations: slices of texts of a call's own; words, goesOn. -/
import Derived.Test.YtnlgjakohoimhaaDoorSiM
namespace Go.Proofs.YtnlgjakohoimhaaDoor
open Go.RowKit
set_option linter.unusedVariables false
set_option linter.unusedSimpArgs false
set_option maxRecDepth 100000
set_option maxHeartbeats 4000000

theorem infoX : (Tryd.prog.info? 9).map (fun i => (i.zero, i.size, i.bytes)) = some (some (.string ⟨#[]⟩), 1, 16) := by kernel_rfl
/-- A slice of texts of the call's own. -/
def OwnX (w : World) (base : Nat) (v : Value) (l : List ByteArray) : Prop := w.ownsRow base 9 1 v l.length (l.map Value.string)
theorem OwnX.nil (w : World) (base : Nat) : OwnX w base (.slice none 0 0) [] := World.ownsRow_nil _ _ _ _
theorem OwnX.kept {w w' : World} {base : Nat} {v : Value} {l : List ByteArray} (h : OwnX w base v l) (k : Kept w w') : OwnX w' base v l := by
  obtain ⟨h1, h2⟩ := h
  refine ⟨h1, ?_⟩
  rcases h2 with h2 | ⟨b, cap, cur, e1, e2, e3, e4⟩
  · exact .inl h2
  · exact .inr ⟨b, cap, cur, e1, e2, k.heap e3, e4⟩
theorem OwnX.grown {w w' : World} {base : Nat} {v : Value} {l : List ByteArray} (h : OwnX w base v l) {a : World} (k : Kept a w) (hb : a.heap.size ≤ base) (hg : w.grownBy w' v.ownBlock) : Kept a w' :=
  k.grownBy hg (fun g hgv => by have := (World.ownsRow.lt h g hgv).1; omega)
theorem OwnX.ls {w : World} {base : Nat} {v : Value} {l : List ByteArray} (h : OwnX w base v l) (hl : 0 < l.length) : LsT w v l := by
  rcases h.2 with ⟨e, h0⟩ | ⟨g, cap', cur, e, hb, hh, hnc, _, hcs, ht⟩
  · omega
  · refine .inr ⟨g, 0, cap', e, lt_of_heap hh, hnc, fun j x hx => ?_⟩
    have hj : j < l.length := by
      obtain ⟨hj, _⟩ := List.getElem?_eq_some_iff.1 hx
      exact hj
    rw [Nat.zero_add, cell_of_row w g j cur _ (0, 0) hh]
    have h2 : (cur.toList.take (l.length * 1))[j]? = (l.map Value.string)[j]? := by rw [ht]
    rw [List.getElem?_take, if_pos (by omega)] at h2
    simp only [Array.getElem?_toList] at h2
    rw [h2]
    simp [hx]
theorem wpList_append_x {ops : Array Oper} {rest : List Oper} {o : Oper} {a : Act} {w : World} {Q : Exit → Act → World → Prop} (hgd : o.guard = none) (s x : Operand)
    (ho : o.op = .call { callee := .builtin .append, args := #[s, x], argTypes := #[46, 46] })
    (base g : Nat) (v : Value) (l : List ByteArray) (y : ByteArray) (hs : a.eval s = v) (hx : a.eval x = .slice (some ⟨g, 0, none⟩) 1 1) (hown : OwnX w base v l) (hL : w.cell? ⟨g, 0, none⟩ = some (.string y)) (hlen : l.length ≤ 10000) (hbase : base ≤ w.heap.size)
    (h : ∀ v' w', OwnX w' base v' (l ++ [y]) → w.grownBy w' v.ownBlock → wpList Tryd.prog ops Q rest (a.put o.dst v') w') : wpList Tryd.prog ops Q (o :: rest) a w := by
  obtain ⟨i0, hi0, hz0, hz1, hz2⟩ := partsQ infoX
  refine wpList_append_own w hgd s x 46 ho base 9 i0 (.string ⟨#[]⟩) 1 16 Tryd.underlying46 hi0 hz0 hz1 hz2 rfl (by decide) v _ _ hs hown ⟨g, 0, none⟩ 1 1 [.string y] hx rfl ?_ ?_ ?_ ?_ hbase ?_
  · intro j u hu
    match j, hu with
    | 0, hu => simp at hu; subst hu; exact hL
  · intro u hu; simp at hu; subst hu; rfl
  · unfold maxLen; omega
  · omega
  · intro v' w' h1 h2 _
    refine h v' w' ?_ h2
    unfold OwnX
    rw [List.map_append, List.length_append]
    exact h1
theorem hdT_next {j : Nat} {p : Int × Int} (h : hdL[j]? = some p) : hdT.take (j + 1) = hdT.take j ++ [opT p.1 p.2] := by
  rw [List.take_add_one, hdT_at h]; rfl
theorem hdS_get {j : Nat} {p : Int × Int} (h : hdL[j]? = some p) : hdS[j]? = some ⟨p.1, p.2, 0, false⟩ := by unfold hdS; rw [List.getElem?_map, h]; rfl
theorem hd_ok {j : Nat} {p : Int × Int} (h : hdL[j]? = some p) : okG p.1 p.2 = true := (okG_iff _ _).2 (List.mem_of_getElem? h)
theorem words_is (v : Value) (g : Nat) (w : World) (hv : LsQ w g v hdS) (hT : TabS w) :
    Calls Tryd.prog 20 #[v] w fun e w' => ∃ v', e = .returned v' ∧ OwnX w' w.heap.size v' hdT ∧ Kept w w' := by
  obtain ⟨off, cap, rfl, hc1, hc2, hr⟩ := hv
  have hc1' : 15 ≤ cap := hc1
  rw [show hdS.length = 15 from rfl]
  obtain ⟨W, eW⟩ : ∃ W, W = w := ⟨_, rfl⟩
  have HW := Lib.hid eW
  have HK0 : Hid (Kept W w) := Lib.hid (by rw [eW]; exact Kept.refl _)
  have HR : Hid (W.rangeAt g off (qlL hdS)) := Lib.hid (by rw [eW]; exact hr)
  have HT : Hid (TabS W) := Lib.hid (by rw [eW]; exact hT)
  clear eW hr hT
  go_enter Tryd.func20, Tryd.ntmps20
  go_wp2
  go_loopw [3, 8] (fun t3 t8 wr => ∃ j : Nat, t8 = .int .i64 j ∧ j ≤ 15 ∧ OwnX wr W.heap.size t3 (hdT.take j) ∧ Kept W wr) (fun _ t8 _ => 15 - (intOf t8).toNat)
  case atStart => exact ⟨0, rfl, by omega, OwnX.nil _ _, HK0.out⟩
  case round =>
    obtain ⟨j, rfl, hj, hown, hK⟩ := hrel
    have HO := Lib.hid hown
    have HK := Lib.hid hK
    clear hown hK
    by_cases hlt : j < 15
    · have hlt' : (j : Int) < 15 := by omega
      obtain ⟨p, hp⟩ : ∃ p, hdL[j]? = some p := ⟨_, List.getElem?_eq_getElem hlt⟩
      have HP := Lib.hid hp
      obtain ⟨s, hs⟩ : ∃ s : Stp, s = ⟨p.1, p.2, 0, false⟩ := ⟨_, rfl⟩
      have HS := Lib.hid hs
      have HRj : Hid (wr.rangeAt g (off + j * 4) (ql s)) := Lib.hid (by
        rw [hs, Nat.mul_comm]
        intro k u hu
        exact kept_cell HK.out (range_q HR.out (hdS_get hp) k u hu))
      have HA : Hid (OwnX (wr.alloc (.cells (ql s).toArray 24)) W.heap.size _ _) := Lib.hid (HO.out.kept ((Kept.refl _).alloc _))
      have HKA := Lib.hid (HK.out.alloc (.cells (ql s).toArray 24))
      have HN := Lib.hid (TAt.new wr s)
      clear hp hs
      go_wp2_with (first | (refine wpList_load_q rfl _ rfl g (off + j * 4) rfl s HRj.out ?_) | (with_reducible refine wpList_new_q rfl rfl ?_) | (refine wpList_store_newq rfl _ _ rfl Zt s rfl rfl ?_) | (refine wpList_load_q rfl _ rfl wr.heap.size 0 rfl s HN.out.range ?_))
      rw [HS.out]
      refine (head_is p.1 p.2 0 false (hd_ok HP.out) _ (HT.out.kept (by rw [← HS.out]; exact HKA.out))).mono ?_
      rintro e w2 ⟨rfl, g2⟩
      rw [← HS.out] at g2
      have HO2 : Hid (OwnX (w2.alloc (.cells #[.string (opT p.1 p.2)] 9)) W.heap.size _ _) := Lib.hid ((HA.out.kept g2).kept ((Kept.refl _).alloc _))
      have HK2 := Lib.hid ((HKA.out.trans g2).alloc (.cells #[.string (opT p.1 p.2)] 9))
      have HC2 : Hid ((w2.alloc (.cells #[.string (opT p.1 p.2)] 9)).cell? ⟨w2.heap.size, 0, none⟩ = some (.string (opT p.1 p.2))) := Lib.hid (by rw [cell_of_row _ _ _ _ _ (0, 0) (heap_alloc_new w2 _)]; rfl)
      clear g2
      go_wp2_with (at_builtin; refine wpList_append_x rfl _ _ rfl W.heap.size w2.heap.size _ (hdT.take j) (opT p.1 p.2) rfl rfl HO2.out HC2.out ?c1 ?c2 ?_)
      case c1 => rw [List.length_take]; omega
      case c2 => exact HK2.out.size
      intro v' w3 ho hg
      have HO3 : Hid (OwnX w3 W.heap.size v' (hdT.take (j + 1))) := Lib.hid (by rw [hdT_next HP.out]; exact ho)
      have HK3 := Lib.hid (HO2.out.grown HK2.out (Nat.le_refl _) hg)
      clear ho hg
      go_wp2
      go_roundw
      case rel => exact ⟨j + 1, by go_num, by omega, HO3.out, HK3.out⟩
      case measure => simp [intOf]; omega
    · have ej : j = 15 := by omega
      subst ej
      go_wp2
      go_ret
      exact ⟨_, rfl, by rw [← HW.out]; exact HO.out, by rw [← HW.out]; exact HK.out⟩
theorem goesOn_is (s : Stp) (t : ByteArray) (a : Int) (ht : t.size ≤ 1000) (w : World) : Calls Tryd.prog 23 #[qv s, .string t, .int .i64 a] w fun e w' => e = .returned (.bool (goB s t a)) ∧ Kept w w' := by
  have HK := Lib.hid ((Kept.refl w).alloc (.cells (ql s).toArray 24))
  have HG : Hid (goB s t a = (decide (s.k = 5) && (decide (s.n = 0) || decide ((wordP t dotT a).e = 0)))) := Lib.hid rfl
  have HWd := Lib.hid (fun w => word_is t dotT a ht (by decide) w)
  obtain ⟨k, g, n, h⟩ := s
  unfold qv
  unfold ql at HK
  dsimp only at HK HG ⊢
  by_cases h5 : k = 5
  · have b5 : (k == 5) = true := beq_iff_eq.2 h5
    by_cases h0 : n = 0
    · have b0 : (n == 0) = true := beq_iff_eq.2 h0
      have HE := Lib.hid (HG.out.trans (by rw [decide_eq_true h5, decide_eq_true h0]; rfl : _ = true))
      clear h5 h0
      go_enter Tryd.func23, Tryd.ntmps23
      go_wp2
      go_ret
      exact ⟨by rw [HE.out]; first | done | rfl, HK.out⟩
    · have b0 : (n == 0) = false := beq_eq_false_iff_ne.2 h0
      rw [decide_eq_true h5, decide_eq_false h0, Bool.true_and, Bool.false_or] at HG
      obtain ⟨x, hx⟩ : ∃ x, wordP t dotT a = x := ⟨_, rfl⟩
      rw [hx] at HG HWd
      have hf := run_field_sp x
      obtain ⟨y, hy⟩ : ∃ y, sv x = y := ⟨_, rfl⟩
      obtain ⟨xe, hxe⟩ : ∃ z, x.e = z := ⟨_, rfl⟩
      rw [hy] at hf HWd
      rw [hxe] at hf HG
      clear h5 h0 hx hy hxe
      by_cases he : xe = 0
      · have be : (xe == 0) = true := beq_iff_eq.2 he
        have HE := Lib.hid (HG.out.trans (decide_eq_true he))
        clear he
        go_enter Tryd.func23, Tryd.ntmps23
        go_wp2_with fail
        refine (HWd.out _).mono ?_
        rintro e w2 ⟨rfl, g2⟩
        have HK2 := Lib.hid (HK.out.trans g2)
        clear g2
        go_wp2
        go_ret
        exact ⟨by rw [HE.out]; first | done | rfl, HK2.out⟩
      · have be : (xe == 0) = false := beq_eq_false_iff_ne.2 he
        have HE := Lib.hid (HG.out.trans (decide_eq_false he))
        clear he
        go_enter Tryd.func23, Tryd.ntmps23
        go_wp2_with fail
        refine (HWd.out _).mono ?_
        rintro e w2 ⟨rfl, g2⟩
        have HK2 := Lib.hid (HK.out.trans g2)
        clear g2
        go_wp2
        go_ret
        exact ⟨by rw [HE.out]; first | done | rfl, HK2.out⟩
  · have b5 : (k == 5) = false := beq_eq_false_iff_ne.2 h5
    have HE := Lib.hid (HG.out.trans (by rw [decide_eq_false h5]; rfl : _ = false))
    clear h5
    go_enter Tryd.func23, Tryd.ntmps23
    go_wp2
    go_ret
    exact ⟨by rw [HE.out]; first | done | rfl, HK.out⟩
end Go.Proofs.YtnlgjakohoimhaaDoor
