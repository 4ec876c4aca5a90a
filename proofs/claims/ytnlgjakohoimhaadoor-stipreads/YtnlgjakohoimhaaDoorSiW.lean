/- Stipulations: the document's list of all. -/
import Derived.Test.YtnlgjakohoimhaaDoorSiP
import Derived.Test.YtnlgjakohoimhaaDoorSiU
namespace Go.Proofs.YtnlgjakohoimhaaDoor
open Go.RowKit
set_option linter.unusedVariables false
set_option linter.unusedSimpArgs false
set_option maxRecDepth 100000
set_option maxHeartbeats 4000000

theorem optS_len (s : Stp) : (optS s).length ≤ 1 := by unfold optS; split <;> simp
theorem allN_len (k g : Int) : ∀ n : Nat, (allN k g n).length ≤ 2 * n
  | 0 => by simp [allN]
  | n + 1 => by
    unfold allN
    rw [List.length_append, List.length_append]
    have := allN_len k g n
    have h1 := optS_len ⟨k, g, n, false⟩
    have h2 := optS_len ⟨k, g, n, true⟩
    omega
theorem allG_len (k : Int) : ∀ g : Nat, (allG k g).length ≤ 130 * g
  | 0 => by simp [allG]
  | g + 1 => by
    unfold allG
    rw [List.length_append]
    have := allG_len k g
    have := allN_len k g 65
    omega
theorem allK_len : ∀ k : Nat, (allK k).length ≤ 390 * k
  | 0 => by simp [allK]
  | k + 1 => by
    unfold allK
    rw [List.length_append]
    have := allK_len k
    have := allG_len ((k : Int) + 1) 3
    omega
theorem optS_t {s : Stp} (h : okS s = true) : optS s = [s] := by unfold optS; rw [if_pos h]
theorem optS_f {s : Stp} (h : okS s = false) : optS s = [] := by unfold optS; rw [if_neg (by rw [h]; simp)]
/-- What stands in the list ahead of (k, g, n). -/
def upS (k g n : Nat) : List Stp := allK k ++ (allG ((k : Int) + 1) g ++ allN ((k : Int) + 1) g n)
theorem upS_len (k g n : Nat) (hk : k ≤ 8) (hg : g ≤ 3) (hn : n ≤ 65) : (upS k g n).length ≤ 4000 := by
  unfold upS
  rw [List.length_append, List.length_append]
  have := allK_len k
  have := allG_len ((k : Int) + 1) g
  have := allN_len ((k : Int) + 1) g n
  omega
theorem upS_n (k g n : Nat) : upS k g (n + 1) = (upS k g n ++ optS ⟨(k : Int) + 1, g, n, false⟩) ++ optS ⟨(k : Int) + 1, g, n, true⟩ := by
  unfold upS
  rw [allN]
  simp only [List.append_assoc]
theorem upS_g (k g : Nat) : upS k (g + 1) 0 = upS k g 65 := by
  unfold upS
  rw [allG]
  simp [allN]
theorem upS_k (k : Nat) : upS (k + 1) 0 0 = upS k 3 0 := by
  unfold upS
  rw [allK]
  simp [allN, allG]
theorem upS_8 : upS 8 0 0 = allS := by unfold upS allS; simp [allN, allG]
theorem TAt.setHt {w : World} {g : Nat} {k j n : Int} (h : TAt w g ⟨k, j, n, false⟩) : TAt (w.setCell ⟨g, 3, none⟩ (.bool true)) g ⟨k, j, n, true⟩ := h.setH true
theorem TAt.grown {w w' : World} {g : Nat} {s : Stp} {row : Option Nat} (h : TAt w g s) (hg : w.grownBy w' row) (hne : some g ≠ row) : TAt w' g s := ⟨(hg.block g (lt_of_heap h.at_) hne).trans h.at_⟩
theorem OwnQ.low {w : World} {base b : Nat} {v : Value} {l : List Stp} (h : OwnQ w base v l) (hb : b ≤ base) : OwnQ w b v l := by
  obtain ⟨h1, h2⟩ := h
  refine ⟨h1, ?_⟩
  rcases h2 with h2 | ⟨g, cap, cur, e1, e2, e3⟩
  · exact .inl h2
  · exact .inr ⟨g, cap, cur, e1, by omega, e3⟩
theorem OwnQ.setOther {w : World} {base : Nat} {v : Value} {l : List Stp} (h : OwnQ w base v l) {g : Nat} (hne : v.ownBlock ≠ some g) (k : Nat) (u : Value) : OwnQ (w.setCell ⟨g, k, none⟩ u) base v l := by
  obtain ⟨h1, h2⟩ := h
  refine ⟨h1, ?_⟩
  rcases h2 with h2 | ⟨b, cap, cur, e1, e2, e3, e4⟩
  · exact .inl h2
  · refine .inr ⟨b, cap, cur, e1, e2, (heap_setCell_other w _ b u (fun e => ?_)).trans e3, e4⟩
    exact hne (by rw [e1]; simp [Value.ownBlock]; exact e)
theorem OwnQ.wide {w : World} {base : Nat} {v : Value} {l : List Stp} (h : OwnQ w base v l) {g : Nat} {s : Stp} (ht : TAt w g s) (hl : 2 ≤ l.length) : v.ownBlock ≠ some g := by
  intro e
  rcases h.2 with ⟨_, h0⟩ | ⟨b, cap, cur, e1, hb, hh, hnc, hcm, hcs, ht2⟩
  · omega
  · rw [e1] at e
    simp [Value.ownBlock] at e
    subst e
    rw [ht.at_] at hh
    simp only [Option.some.injEq, Obj.cells.injEq] at hh
    have h4 : cur.toList.length = 4 := by rw [← hh.1]; rfl
    have := congrArg List.length ht2
    rw [List.length_take, h4, qlL_len] at this
    omega
/-- One put behind them; the block g of a stipulation is not theirs, before and behind. -/
theorem wpList_append_far {ops : Array Oper} {rest : List Oper} {o : Oper} {a : Act} {w : World} {Q : Exit → Act → World → Prop} (hgd : o.guard = none) (s x : Operand)
    (ho : o.op = .call { callee := .builtin .append, args := #[s, x], argTypes := #[43, 43] })
    (base g gq : Nat) (v vx : Value) (l : List Stp) (y q : Stp) (hs : a.eval s = v) (hx : a.eval x = vx) (hown : OwnQ w base v l) (hnil : l = [] → v = .slice none 0 0) (hL : LsQ w g vx [y]) (hlen : l.length ≤ 10000) (hbase : base ≤ w.heap.size)
    (hq : TAt w gq q) (hne : v.ownBlock ≠ some gq)
    (h : ∀ v' w', OwnQ w' base v' (l ++ [y]) → w.grownBy w' v.ownBlock → v'.ownBlock ≠ some gq → wpList Tryd.prog ops Q rest (a.put o.dst v') w') : wpList Tryd.prog ops Q (o :: rest) a w := by
  by_cases hl : l = []
  · have hv := hnil hl
    subst hv
    subst hl
    refine wpList_append_q hgd s x ho w.heap.size g _ vx [] [y] hs hx (OwnQ.nil _ _) hL (by simp) (Nat.le_refl _) ?_
    intro v' w' h1 h2
    refine h v' w' (h1.low hbase) h2 ?_
    intro e
    have := (World.ownsRow.lt h1 gq e).1
    have := lt_of_heap hq.at_
    omega
  · refine wpList_append_q hgd s x ho base g v vx l [y] hs hx hown hL (by simp; omega) hbase ?_
    intro v' w' h1 h2
    refine h v' w' h1 h2 (h1.wide (hq.grown h2 (fun e => hne e.symm)) ?_)
    have := List.length_pos_iff.2 hl
    simp; omega
theorem all_is (w : World) : Calls Tryd.prog 26 #[] w fun e w' => ∃ v, e = .returned v ∧ OwnQ w' w.heap.size v allS ∧ Kept w w' := by
  obtain ⟨W, eW⟩ : ∃ W, W = w := ⟨_, rfl⟩
  have HW := Lib.hid eW
  have HK0 : Hid (Kept W w) := Lib.hid (by rw [eW]; exact Kept.refl _)
  clear eW
  go_enter Tryd.func26, Tryd.ntmps26
  go_wp2
  go_loopw [1, 2] (fun t1 t2 wr => ∃ k : Nat, t2 = .int .i64 ((k : Int) + 1) ∧ k ≤ 8 ∧ OwnQ wr W.heap.size t1 (upS k 0 0) ∧ (upS k 0 0 = [] → t1 = .slice none 0 0) ∧ Kept W wr) (fun _ t2 _ => 9 - (intOf t2).toNat)
  case atStart => exact ⟨0, rfl, by omega, OwnQ.nil _ _, fun _ => rfl, HK0.out⟩
  case round =>
    obtain ⟨k, rfl, hk, hown, hnl, hK⟩ := hrel
    have HNl := Lib.hid hnl
    clear hnl
    have HO := Lib.hid hown
    have HK := Lib.hid hK
    clear hown hK
    by_cases hkt : k < 8
    · have hkt' : (k : Int) + 1 ≤ 8 := by omega
      go_wp2
      generalize wr = X1 at *
      go_loopw [1, 3] (fun t1 t3 wr => ∃ g : Nat, t3 = .int .i64 g ∧ g ≤ 3 ∧ OwnQ wr W.heap.size t1 (upS k g 0) ∧ (upS k g 0 = [] → t1 = .slice none 0 0) ∧ Kept W wr) (fun _ t3 _ => 3 - (intOf t3).toNat)
      case atStart => exact ⟨0, rfl, by omega, HO.out, HNl.out, HK.out⟩
      case round =>
        obtain ⟨g, rfl, hg, hown2, hnl, hK2⟩ := hrel
        have HNl2 := Lib.hid hnl
        clear hnl
        have HO2 := Lib.hid hown2
        have HK2 := Lib.hid hK2
        clear hown2 hK2
        by_cases hgt : g < 3
        · have hgt' : (g : Int) ≤ 2 := by omega
          go_wp2
          generalize wr = X2 at *
          go_loopw [1, 4] (fun t1 t4 wr => ∃ n : Nat, t4 = .int .i64 n ∧ n ≤ 65 ∧ OwnQ wr W.heap.size t1 (upS k g n) ∧ (upS k g n = [] → t1 = .slice none 0 0) ∧ Kept W wr) (fun _ t4 _ => 65 - (intOf t4).toNat)
          case atStart => exact ⟨0, rfl, by omega, HO2.out, HNl2.out, HK2.out⟩
          case round =>
            obtain ⟨n, rfl, hn, hown3, hnl, hK3⟩ := hrel
            have HNil3 := Lib.hid hnl
            clear hnl
            have HO3 := Lib.hid hown3
            have HK3 := Lib.hid hK3
            clear hown3 hK3
            by_cases hnt : n < 65
            · have hnt' : (n : Int) ≤ 64 := by omega
              have HR1 := Lib.hid (rright_q ⟨(k : Int) + 1, g, n, false⟩)
              have HR2 := Lib.hid (rright_q ⟨(k : Int) + 1, g, n, true⟩)
              have HT0 := Lib.hid (TAt.new wr ⟨(k : Int) + 1, g, n, false⟩)
              have HO0 := Lib.hid (HO3.out.kept ((Kept.refl _).alloc (.cells (ql ⟨(k : Int) + 1, g, n, false⟩).toArray 24)))
              have HK0 := Lib.hid (HK3.out.alloc (.cells (ql ⟨(k : Int) + 1, g, n, false⟩).toArray 24))
              have HNe := Lib.hid (show Value.ownBlock _ ≠ some wr.heap.size from fun e => by have := (World.ownsRow.lt HO3.out _ e).2; omega)
              have HGe := Lib.hid (show W.heap.size ≤ wr.heap.size from HK3.out.size)
              have HLen := Lib.hid (upS_len k g n (by omega) (by omega) (by omega))
              have HNil := Lib.hid HNil3.out
              have hw1 : IntKind.i64.wrap ((k : Int) + 1) = (k : Int) + 1 := IntWalk.i64_in _ (by omega)
              clear HO3 HK3 HNil3
              obtain ⟨b1, hb1⟩ : ∃ b1, okS ⟨(k : Int) + 1, g, n, false⟩ = b1 := ⟨_, rfl⟩
              obtain ⟨b2, hb2⟩ : ∃ b2, okS ⟨(k : Int) + 1, g, n, true⟩ = b2 := ⟨_, rfl⟩
              cases b1
              · cases b2
                · skip
                  have HE1 := Lib.hid (optS_f hb1)
                  have HE2 := Lib.hid (optS_f hb2)
                  have HB1 := Lib.hid hb1
                  have HB2 := Lib.hid hb2
                  clear hb1 hb2
                  go_upto_region 12 with (first | (refine wpList_bt_q3 rfl _ _ _ rfl ((k : Int) + 1) g n rfl rfl rfl ?_) | (with_reducible refine wpList_new_q rfl rfl ?_) | ((with_reducible refine wpList_store_newq rfl _ _ rfl Zt ⟨(k : Int) + 1, g, n, false⟩ ?_ ?_ ?_); exact rfl; exact rfl))
                  generalize wr.alloc (.cells (ql ⟨(k : Int) + 1, g, n, false⟩).toArray 24) = Y at *
                  generalize wr.heap.size = gq at *
                  simp only [pA, pN, sZ, sU]
                  go_wp2_with ((with_reducible refine wpList_load_q rfl _ rfl gq 0 ?_ ⟨(k : Int) + 1, g, n, false⟩ HT0.out.range ?_); exact rfl)
                  refine (HR1.out _).mono ?_
                  rw [HB1.out]
                  rintro e x1 ⟨rfl, k1⟩
                  have HT1 := Lib.hid (HT0.out.kept k1)
                  have HO1 := Lib.hid (HO0.out.kept k1)
                  have HK1 := Lib.hid (HK0.out.trans k1)
                  clear k1
                  have hc3 := HT1.out.h
                  have hf3 := HT1.out.frozen 3
                  have HT3 := Lib.hid HT1.out.setHt
                  have HO3 := Lib.hid (HO1.out.setOther HNe.out 3 (.bool true))
                  have HK3 := Lib.hid (HK1.out.setCell (p := ⟨gq, 3, none⟩) HGe.out (.bool true))
                  go_wp2_with ((with_reducible refine wpList_load_q rfl _ rfl gq 0 ?_ ⟨(k : Int) + 1, g, n, true⟩ HT3.out.range ?_); exact rfl)
                  refine (HR2.out _).mono ?_
                  rw [HB2.out]
                  rintro e x4 ⟨rfl, k4⟩
                  have HT4 := Lib.hid (HT3.out.kept k4)
                  have HO4 := Lib.hid (HO3.out.kept k4)
                  have HK4 := Lib.hid (HK3.out.trans k4)
                  clear k4 hc3 hf3
                  have HO5 : Hid (OwnQ x4 W.heap.size _ (upS k g (n + 1))) := Lib.hid (by rw [upS_n, HE1.out, HE2.out, List.append_nil, List.append_nil]; exact HO4.out)
                  have HNil5 : Hid (upS k g (n + 1) = [] → _ = Value.slice none 0 0) := Lib.hid (by rw [upS_n, HE1.out, HE2.out, List.append_nil, List.append_nil]; exact HNil.out)
                  go_wp2
                  go_roundw
                  case rel => exact ⟨n + 1, by go_num, by omega, HO5.out, HNil5.out, HK4.out⟩
                  case measure => simp [intOf]; omega
                · skip
                  have HE1 := Lib.hid (optS_f hb1)
                  have HE2 := Lib.hid (optS_t hb2)
                  have HB1 := Lib.hid hb1
                  have HB2 := Lib.hid hb2
                  clear hb1 hb2
                  go_upto_region 12 with (first | (refine wpList_bt_q3 rfl _ _ _ rfl ((k : Int) + 1) g n rfl rfl rfl ?_) | (with_reducible refine wpList_new_q rfl rfl ?_) | ((with_reducible refine wpList_store_newq rfl _ _ rfl Zt ⟨(k : Int) + 1, g, n, false⟩ ?_ ?_ ?_); exact rfl; exact rfl))
                  generalize wr.alloc (.cells (ql ⟨(k : Int) + 1, g, n, false⟩).toArray 24) = Y at *
                  generalize wr.heap.size = gq at *
                  simp only [pA, pN, sZ, sU]
                  go_wp2_with ((with_reducible refine wpList_load_q rfl _ rfl gq 0 ?_ ⟨(k : Int) + 1, g, n, false⟩ HT0.out.range ?_); exact rfl)
                  refine (HR1.out _).mono ?_
                  rw [HB1.out]
                  rintro e x1 ⟨rfl, k1⟩
                  have HT1 := Lib.hid (HT0.out.kept k1)
                  have HO1 := Lib.hid (HO0.out.kept k1)
                  have HK1 := Lib.hid (HK0.out.trans k1)
                  clear k1
                  have hc3 := HT1.out.h
                  have hf3 := HT1.out.frozen 3
                  have HT3 := Lib.hid HT1.out.setHt
                  have HO3 := Lib.hid (HO1.out.setOther HNe.out 3 (.bool true))
                  have HK3 := Lib.hid (HK1.out.setCell (p := ⟨gq, 3, none⟩) HGe.out (.bool true))
                  go_wp2_with ((with_reducible refine wpList_load_q rfl _ rfl gq 0 ?_ ⟨(k : Int) + 1, g, n, true⟩ HT3.out.range ?_); exact rfl)
                  refine (HR2.out _).mono ?_
                  rw [HB2.out]
                  rintro e x4 ⟨rfl, k4⟩
                  have HT4 := Lib.hid (HT3.out.kept k4)
                  have HO4 := Lib.hid (HO3.out.kept k4)
                  have HK4 := Lib.hid (HK3.out.trans k4)
                  clear k4 hc3 hf3
                  have HOb := Lib.hid (HO4.out.kept ((Kept.refl _).alloc (.cells (ql ⟨(k : Int) + 1, g, n, true⟩).toArray 24)))
                  have HKb := Lib.hid (HK4.out.alloc (.cells (ql ⟨(k : Int) + 1, g, n, true⟩).toArray 24))
                  have HTb := Lib.hid (HT4.out.kept ((Kept.refl _).alloc (.cells (ql ⟨(k : Int) + 1, g, n, true⟩).toArray 24)))
                  have HLb := Lib.hid (LsQ.lit x4 ⟨(k : Int) + 1, g, n, true⟩)
                  go_wp2_with (first | ((with_reducible refine wpList_load_q rfl _ rfl gq 0 ?_ ⟨(k : Int) + 1, g, n, true⟩ HT4.out.range ?_); exact rfl) | (refine wpList_bslice_q rfl _ rfl ⟨(k : Int) + 1, g, n, true⟩ rfl ?_) | (at_builtin; refine wpList_append_far rfl _ _ rfl W.heap.size x4.heap.size gq _ _ (upS k g n) ⟨(k : Int) + 1, g, n, true⟩ ⟨(k : Int) + 1, g, n, true⟩ rfl rfl ?_ ?_ ?_ ?c3 ?c4 HTb.out ?_ ?_; exact HOb.out; exact HNil.out; exact HLb.out))
                  case c3 => have := HLen.out; simp; omega
                  case c4 => exact HKb.out.size
                  exact HNe.out
                  intro v2 x5 ho hg hne
                  have HO5 : Hid (OwnQ x5 W.heap.size v2 (upS k g (n + 1))) := Lib.hid (by rw [upS_n, HE1.out, HE2.out, List.append_nil]; first | exact ho | simpa using ho)
                  have HK5 := Lib.hid (HOb.out.grown HKb.out (Nat.le_refl _) hg)
                  have HNil5 : Hid (upS k g (n + 1) = [] → v2 = .slice none 0 0) := Lib.hid (by rw [upS_n, HE1.out, HE2.out]; intro e; simp at e)
                  clear ho hg hne
                  go_wp2
                  go_roundw
                  case rel => exact ⟨n + 1, by go_num, by omega, HO5.out, HNil5.out, HK5.out⟩
                  case measure => simp [intOf]; omega
              · cases b2
                · skip
                  have HE1 := Lib.hid (optS_t hb1)
                  have HE2 := Lib.hid (optS_f hb2)
                  have HB1 := Lib.hid hb1
                  have HB2 := Lib.hid hb2
                  clear hb1 hb2
                  go_upto_region 12 with (first | (refine wpList_bt_q3 rfl _ _ _ rfl ((k : Int) + 1) g n rfl rfl rfl ?_) | (with_reducible refine wpList_new_q rfl rfl ?_) | ((with_reducible refine wpList_store_newq rfl _ _ rfl Zt ⟨(k : Int) + 1, g, n, false⟩ ?_ ?_ ?_); exact rfl; exact rfl))
                  generalize wr.alloc (.cells (ql ⟨(k : Int) + 1, g, n, false⟩).toArray 24) = Y at *
                  generalize wr.heap.size = gq at *
                  simp only [pA, pN, sZ, sU]
                  go_wp2_with ((with_reducible refine wpList_load_q rfl _ rfl gq 0 ?_ ⟨(k : Int) + 1, g, n, false⟩ HT0.out.range ?_); exact rfl)
                  refine (HR1.out _).mono ?_
                  rw [HB1.out]
                  rintro e x1 ⟨rfl, k1⟩
                  have HT1 := Lib.hid (HT0.out.kept k1)
                  have HO1 := Lib.hid (HO0.out.kept k1)
                  have HK1 := Lib.hid (HK0.out.trans k1)
                  clear k1
                  have HOa := Lib.hid (HO1.out.kept ((Kept.refl _).alloc (.cells (ql ⟨(k : Int) + 1, g, n, false⟩).toArray 24)))
                  have HKa := Lib.hid (HK1.out.alloc (.cells (ql ⟨(k : Int) + 1, g, n, false⟩).toArray 24))
                  have HTa := Lib.hid (HT1.out.kept ((Kept.refl _).alloc (.cells (ql ⟨(k : Int) + 1, g, n, false⟩).toArray 24)))
                  have HLa := Lib.hid (LsQ.lit x1 ⟨(k : Int) + 1, g, n, false⟩)
                  go_wp2_with (first | ((with_reducible refine wpList_load_q rfl _ rfl gq 0 ?_ ⟨(k : Int) + 1, g, n, false⟩ HT1.out.range ?_); exact rfl) | (refine wpList_bslice_q rfl _ rfl ⟨(k : Int) + 1, g, n, false⟩ rfl ?_) | (at_builtin; refine wpList_append_far rfl _ _ rfl W.heap.size x1.heap.size gq _ _ (upS k g n) ⟨(k : Int) + 1, g, n, false⟩ ⟨(k : Int) + 1, g, n, false⟩ rfl rfl ?_ ?_ ?_ ?c1 ?c2 HTa.out ?_ ?_; exact HOa.out; exact HNil.out; exact HLa.out))
                  case c1 => exact Nat.le_trans HLen.out (by omega)
                  case c2 => exact HKa.out.size
                  exact HNe.out
                  intro v1 x2 ho hg hne
                  have HO2 := Lib.hid ho
                  have HK2 := Lib.hid (HOa.out.grown HKa.out (Nat.le_refl _) hg)
                  have HT2 := Lib.hid (HTa.out.grown hg (fun e => HNe.out e.symm))
                  have HNe2 := Lib.hid hne
                  have HNil2 : Hid (upS k g n ++ [⟨(k : Int) + 1, g, n, false⟩] = [] → v1 = .slice none 0 0) := Lib.hid (fun e => by simp at e)
                  clear ho hg hne
                  have hc3 := HT2.out.h
                  have hf3 := HT2.out.frozen 3
                  have HT3 := Lib.hid HT2.out.setHt
                  have HO3 := Lib.hid (HO2.out.setOther HNe2.out 3 (.bool true))
                  have HK3 := Lib.hid (HK2.out.setCell (p := ⟨gq, 3, none⟩) HGe.out (.bool true))
                  go_wp2_with ((with_reducible refine wpList_load_q rfl _ rfl gq 0 ?_ ⟨(k : Int) + 1, g, n, true⟩ HT3.out.range ?_); exact rfl)
                  refine (HR2.out _).mono ?_
                  rw [HB2.out]
                  rintro e x4 ⟨rfl, k4⟩
                  have HT4 := Lib.hid (HT3.out.kept k4)
                  have HO4 := Lib.hid (HO3.out.kept k4)
                  have HK4 := Lib.hid (HK3.out.trans k4)
                  clear k4 hc3 hf3
                  have HO5 : Hid (OwnQ x4 W.heap.size _ (upS k g (n + 1))) := Lib.hid (by rw [upS_n, HE1.out, HE2.out, List.append_nil]; exact HO4.out)
                  have HNil5 : Hid (upS k g (n + 1) = [] → v1 = .slice none 0 0) := Lib.hid (by rw [upS_n, HE1.out, HE2.out]; intro e; simp at e)
                  go_wp2
                  go_roundw
                  case rel => exact ⟨n + 1, by go_num, by omega, HO5.out, HNil5.out, HK4.out⟩
                  case measure => simp [intOf]; omega
                · skip
                  have HE1 := Lib.hid (optS_t hb1)
                  have HE2 := Lib.hid (optS_t hb2)
                  have HB1 := Lib.hid hb1
                  have HB2 := Lib.hid hb2
                  clear hb1 hb2
                  go_upto_region 12 with (first | (refine wpList_bt_q3 rfl _ _ _ rfl ((k : Int) + 1) g n rfl rfl rfl ?_) | (with_reducible refine wpList_new_q rfl rfl ?_) | ((with_reducible refine wpList_store_newq rfl _ _ rfl Zt ⟨(k : Int) + 1, g, n, false⟩ ?_ ?_ ?_); exact rfl; exact rfl))
                  generalize wr.alloc (.cells (ql ⟨(k : Int) + 1, g, n, false⟩).toArray 24) = Y at *
                  generalize wr.heap.size = gq at *
                  simp only [pA, pN, sZ, sU]
                  go_wp2_with ((with_reducible refine wpList_load_q rfl _ rfl gq 0 ?_ ⟨(k : Int) + 1, g, n, false⟩ HT0.out.range ?_); exact rfl)
                  refine (HR1.out _).mono ?_
                  rw [HB1.out]
                  rintro e x1 ⟨rfl, k1⟩
                  have HT1 := Lib.hid (HT0.out.kept k1)
                  have HO1 := Lib.hid (HO0.out.kept k1)
                  have HK1 := Lib.hid (HK0.out.trans k1)
                  clear k1
                  have HOa := Lib.hid (HO1.out.kept ((Kept.refl _).alloc (.cells (ql ⟨(k : Int) + 1, g, n, false⟩).toArray 24)))
                  have HKa := Lib.hid (HK1.out.alloc (.cells (ql ⟨(k : Int) + 1, g, n, false⟩).toArray 24))
                  have HTa := Lib.hid (HT1.out.kept ((Kept.refl _).alloc (.cells (ql ⟨(k : Int) + 1, g, n, false⟩).toArray 24)))
                  have HLa := Lib.hid (LsQ.lit x1 ⟨(k : Int) + 1, g, n, false⟩)
                  go_wp2_with (first | ((with_reducible refine wpList_load_q rfl _ rfl gq 0 ?_ ⟨(k : Int) + 1, g, n, false⟩ HT1.out.range ?_); exact rfl) | (refine wpList_bslice_q rfl _ rfl ⟨(k : Int) + 1, g, n, false⟩ rfl ?_) | (at_builtin; refine wpList_append_far rfl _ _ rfl W.heap.size x1.heap.size gq _ _ (upS k g n) ⟨(k : Int) + 1, g, n, false⟩ ⟨(k : Int) + 1, g, n, false⟩ rfl rfl ?_ ?_ ?_ ?c1 ?c2 HTa.out ?_ ?_; exact HOa.out; exact HNil.out; exact HLa.out))
                  case c1 => exact Nat.le_trans HLen.out (by omega)
                  case c2 => exact HKa.out.size
                  exact HNe.out
                  intro v1 x2 ho hg hne
                  have HO2 := Lib.hid ho
                  have HK2 := Lib.hid (HOa.out.grown HKa.out (Nat.le_refl _) hg)
                  have HT2 := Lib.hid (HTa.out.grown hg (fun e => HNe.out e.symm))
                  have HNe2 := Lib.hid hne
                  have HNil2 : Hid (upS k g n ++ [⟨(k : Int) + 1, g, n, false⟩] = [] → v1 = .slice none 0 0) := Lib.hid (fun e => by simp at e)
                  clear ho hg hne
                  have hc3 := HT2.out.h
                  have hf3 := HT2.out.frozen 3
                  have HT3 := Lib.hid HT2.out.setHt
                  have HO3 := Lib.hid (HO2.out.setOther HNe2.out 3 (.bool true))
                  have HK3 := Lib.hid (HK2.out.setCell (p := ⟨gq, 3, none⟩) HGe.out (.bool true))
                  go_wp2_with ((with_reducible refine wpList_load_q rfl _ rfl gq 0 ?_ ⟨(k : Int) + 1, g, n, true⟩ HT3.out.range ?_); exact rfl)
                  refine (HR2.out _).mono ?_
                  rw [HB2.out]
                  rintro e x4 ⟨rfl, k4⟩
                  have HT4 := Lib.hid (HT3.out.kept k4)
                  have HO4 := Lib.hid (HO3.out.kept k4)
                  have HK4 := Lib.hid (HK3.out.trans k4)
                  clear k4 hc3 hf3
                  have HOb := Lib.hid (HO4.out.kept ((Kept.refl _).alloc (.cells (ql ⟨(k : Int) + 1, g, n, true⟩).toArray 24)))
                  have HKb := Lib.hid (HK4.out.alloc (.cells (ql ⟨(k : Int) + 1, g, n, true⟩).toArray 24))
                  have HTb := Lib.hid (HT4.out.kept ((Kept.refl _).alloc (.cells (ql ⟨(k : Int) + 1, g, n, true⟩).toArray 24)))
                  have HLb := Lib.hid (LsQ.lit x4 ⟨(k : Int) + 1, g, n, true⟩)
                  go_wp2_with (first | ((with_reducible refine wpList_load_q rfl _ rfl gq 0 ?_ ⟨(k : Int) + 1, g, n, true⟩ HT4.out.range ?_); exact rfl) | (refine wpList_bslice_q rfl _ rfl ⟨(k : Int) + 1, g, n, true⟩ rfl ?_) | (at_builtin; refine wpList_append_far rfl _ _ rfl W.heap.size x4.heap.size gq _ _ (upS k g n ++ [⟨(k : Int) + 1, g, n, false⟩]) ⟨(k : Int) + 1, g, n, true⟩ ⟨(k : Int) + 1, g, n, true⟩ rfl rfl ?_ ?_ ?_ ?c3 ?c4 HTb.out ?_ ?_; exact HOb.out; exact HNil2.out; exact HLb.out))
                  case c3 => have := HLen.out; simp; omega
                  case c4 => exact HKb.out.size
                  exact HNe2.out
                  intro v2 x5 ho hg hne
                  have HO5 : Hid (OwnQ x5 W.heap.size v2 (upS k g (n + 1))) := Lib.hid (by rw [upS_n, HE1.out, HE2.out]; first | exact ho | simpa using ho)
                  have HK5 := Lib.hid (HOb.out.grown HKb.out (Nat.le_refl _) hg)
                  have HNil5 : Hid (upS k g (n + 1) = [] → v2 = .slice none 0 0) := Lib.hid (by rw [upS_n, HE1.out, HE2.out]; intro e; simp at e)
                  clear ho hg hne
                  go_wp2
                  go_roundw
                  case rel => exact ⟨n + 1, by go_num, by omega, HO5.out, HNil5.out, HK5.out⟩
                  case measure => simp [intOf]; omega
            · have en : n = 65 := by omega
              subst en
              have HO4 : Hid (OwnQ wr W.heap.size _ (upS k (g + 1) 0)) := Lib.hid (by rw [upS_g]; exact HO3.out)
              go_wp2
              go_roundw
              case rel => exact ⟨g + 1, by go_num, by omega, HO4.out, by rw [upS_g]; exact HNil3.out, HK3.out⟩
              case measure => simp [intOf]; omega
        · have eg : g = 3 := by omega
          subst eg
          have HO4 : Hid (OwnQ wr W.heap.size _ (upS (k + 1) 0 0)) := Lib.hid (by rw [upS_k]; exact HO2.out)
          go_wp2
          go_roundw
          case rel => exact ⟨k + 1, by go_num, by omega, HO4.out, by rw [upS_k]; exact HNl2.out, HK2.out⟩
          case measure => simp [intOf]; omega
    · have ek : k = 8 := by omega
      subst ek
      have HO4 : Hid (OwnQ wr W.heap.size _ allS) := Lib.hid (by rw [← upS_8]; exact HO.out)
      go_wp2
      go_ret
      exact ⟨_, rfl, by rw [← HW.out]; exact HO4.out, by rw [← HW.out]; exact HK.out⟩
end Go.Proofs.YtnlgjakohoimhaaDoor
