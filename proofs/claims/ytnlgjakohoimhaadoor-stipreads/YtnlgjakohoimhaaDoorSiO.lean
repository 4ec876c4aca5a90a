/- Stipulations: Read. -/
import Derived.Test.YtnlgjakohoimhaaDoorSiN
import Derived.Deep.CutRange
namespace Go.Proofs.YtnlgjakohoimhaaDoor
open Go.RowKit
set_option linter.unusedVariables false
set_option linter.unusedSimpArgs false
set_option maxRecDepth 100000
set_option maxHeartbeats 4000000

theorem results_qs {fn : Func} {s t : Tmp} (h : fn.results = #[.cell s 24, .cell t 27]) (tmps : Array Value) {w : World} {g k : Nat} {x : Stp} {y : Sp}
    (hs : tmps.getD s undef = .pointer (some ⟨g, 0, none⟩)) (ht : tmps.getD t undef = .pointer (some ⟨k, 0, none⟩)) (hx : TAt w g x) (hy : SAt w k y) :
    (results fn tmps).run Tryd.prog w = .ok (.tuple #[qv x, sv y]) w := by
  have hs' : tmps[s]?.getD undef = .pointer (some ⟨g, 0, none⟩) := by simpa using hs
  have ht' : tmps[t]?.getD undef = .pointer (some ⟨k, 0, none⟩) := by simpa using ht
  have lu : (loadVar 24 ⟨g, 0, none⟩).run Tryd.prog w = .ok (qv x) w := run_loadVar_row w g _ _ (ql x).toArray (0, 0) _ hx.at_ Tryd.underlying24 rfl (ql_sz x)
  have lv : (loadVar 27 ⟨k, 0, none⟩).run Tryd.prog w = .ok (sv y) w := run_loadVar_row w k _ _ (sl y).toArray (0, 0) _ hy.at_ Tryd.underlying27 rfl (sl_sz y)
  simp [results, h, hs', ht', asAddr, lu, lv]
theorem SAt.rowOther {w : World} {g k : Nat} {x : Sp} (h : SAt w g x) (hk : g ≠ k) (c : Array Value) : SAt (w.setRow k c) g x := ⟨(setRow_other w k g c hk).trans h.at_⟩
theorem TAt.rowOther {w : World} {g k : Nat} {x : Stp} (h : TAt w g x) (hk : g ≠ k) (c : Array Value) : TAt (w.setRow k c) g x := ⟨(setRow_other w k g c hk).trans h.at_⟩
theorem SAt.setOther {w : World} {g k i : Nat} {x : Sp} (h : SAt w g x) (hk : g ≠ k) (u : Value) : SAt (w.setCell ⟨k, i, none⟩ u) g x := ⟨(heap_setCell_other w _ g u (fun e => hk e)).trans h.at_⟩
theorem TAt.setOther {w : World} {g k i : Nat} {x : Stp} (h : TAt w g x) (hk : g ≠ k) (u : Value) : TAt (w.setCell ⟨k, i, none⟩ u) g x := ⟨(heap_setCell_other w _ g u (fun e => hk e)).trans h.at_⟩
theorem TAt.frozen {w : World} {g : Nat} {x : Stp} (h : TAt w g x) (k : Nat) : w.frozen? ⟨g, k, none⟩ = false := frozen_of_row w g k _ _ h.at_
theorem take_bt_q0 {ops : Array Oper} {S : World → Prop} {op : Oper} {a : Act} (hw : Region.wanted op (yielded ops a.tmps) = true) (ho : op.op = .build 24 #[]) : YieldsIf Tryd.prog ops S op (qv Zt) a :=
  .inl ⟨hw, fun w _ => by
    have hr : (Instr.build 24 ((#[] : Array (Nat × Operand)).map fun (i, x) => (i, a.eval x))).run Tryd.prog w = .ok (qv Zt) w := run_build w 24 _ _ ((congrArg _ (show ((#[] : Array (Nat × Operand)).map fun (i, x) => (i, a.eval x)).toList = [] by simp)).trans bt_q0)
    unfold execOp
    simp only [ho, Sem.run_bind, hr, Result.andThen_ok, Sem.run_pure]⟩
theorem take_bt_sa {ops : Array Oper} {S : World → Prop} {op : Oper} {a : Act} (hw : Region.wanted op (yielded ops a.tmps) = true) (x0 : Operand) (ho : op.op = .build 27 #[(0, x0)]) (i : Int) (h0 : a.eval x0 = .int .i64 i) : YieldsIf Tryd.prog ops S op (sv ⟨i, 0, 0⟩) a :=
  .inl ⟨hw, fun w _ => by
    have hr : (Instr.build 27 ((#[(0, x0)] : Array (Nat × Operand)).map fun (i, x) => (i, a.eval x))).run Tryd.prog w = .ok (sv ⟨i, 0, 0⟩) w := run_build w 27 _ _ (by rw [show ((#[(0, x0)] : Array (Nat × Operand)).map fun (i, x) => (i, a.eval x)).toList = [(0, .int .i64 i)] by simp [h0]]; exact bt_sa i)
    unfold execOp
    simp only [ho, Sem.run_bind, hr, Result.andThen_ok, Sem.run_pure]⟩
/-- While it reads: what was there stands; the two results' blocks. -/
structure Rd (w x : World) : Prop where
  k : Kept w x
  t : ∃ s, TAt x w.heap.size s
  e : ∃ y, SAt x (w.heap.size + 1) y
theorem Rd.kept {w x x' : World} (h : Rd w x) (k : Kept x x') : Rd w x' := by
  obtain ⟨h1, ⟨s, h2⟩, ⟨y, h3⟩⟩ := h
  exact ⟨h1.trans k, ⟨s, h2.kept k⟩, ⟨y, h3.kept k⟩⟩
theorem Rd.rowT {w x : World} (h : Rd w x) (s : Stp) : Rd w (x.setRow w.heap.size (ql s).toArray) ∧ TAt (x.setRow w.heap.size (ql s).toArray) w.heap.size s := by
  obtain ⟨h1, ⟨s0, h2⟩, ⟨y, h3⟩⟩ := h
  exact ⟨⟨h1.setRow (by omega) _, ⟨s, h2.row s⟩, ⟨y, h3.rowOther (by omega) _⟩⟩, h2.row s⟩
theorem Rd.rowE {w x : World} (h : Rd w x) (y : Sp) : Rd w (x.setRow (w.heap.size + 1) (sl y).toArray) ∧ SAt (x.setRow (w.heap.size + 1) (sl y).toArray) (w.heap.size + 1) y := by
  obtain ⟨h1, ⟨s0, h2⟩, ⟨y0, h3⟩⟩ := h
  exact ⟨⟨h1.setRow (by omega) _, ⟨s0, h2.rowOther (by omega) _⟩, ⟨y, h3.row y⟩⟩, h3.row y⟩
theorem Rd.hi {w x : World} (h : Rd w x) : w.heap.size + 1 < x.heap.size := by
  obtain ⟨_, _, ⟨y, h3⟩⟩ := h
  exact lt_of_heap h3.at_
theorem one_ok {t : ByteArray} {i : Int} (h : (oneP t hdT i).e = 0) : ∃ (j : Nat) (p : Int × Int), (oneP t hdT i).n = j ∧ hdL[j]? = some p := by
  by_cases hi : inB t i = true
  · obtain ⟨a, rfl, ha⟩ := inB_yes hi
    rw [oneP_yes hi hd_apart] at h ⊢
    by_cases hp : ∃ p ∈ hdL, opL p <+: (bs t).drop a
    · obtain ⟨p, hp, hpre⟩ := hp
      obtain ⟨j, hj, ho⟩ := one_first hp hpre
      exact ⟨j, p, by rw [ho], hj⟩
    · exfalso
      obtain ⟨mx, h1, _⟩ := oneGo_none t.size a ((bs t).drop a) hdT 0 0 (by
        intro w hw e
        obtain ⟨p, hp', rfl⟩ := hdT_mem hw
        rw [opT_bs, opT_size] at e
        exact hp ⟨p, hp', (cmn_full _ _).1 e⟩)
      rw [h1] at h
      exact stk_e _ _ h
  · exfalso
    rw [oneP_no (fun x => hi x.1)] at h
    revert h; decide
theorem hd_sizes (j : Nat) (x : ByteArray) (h : hdT[j]? = some x) : x.size ≤ 1000 := by
  obtain ⟨p, hp, rfl⟩ := hdT_mem (List.mem_of_getElem? h)
  have := opT_sz p.1 p.2
  omega
theorem TAt.setN {w : World} {g : Nat} {s : Stp} (h : TAt w g s) (n : Int) : TAt (w.setCell ⟨g, 2, none⟩ (.int .i64 n)) g ⟨s.k, s.g, n, s.h⟩ := by
  refine ⟨?_⟩
  rw [heap_setCell_same w g 2 _ _ _ h.at_]
  rfl
theorem TAt.setH {w : World} {g : Nat} {s : Stp} (h : TAt w g s) (b : Bool) : TAt (w.setCell ⟨g, 3, none⟩ (.bool b)) g ⟨s.k, s.g, s.n, b⟩ := by
  refine ⟨?_⟩
  rw [heap_setCell_same w g 3 _ _ _ h.at_]
  rfl
theorem Rd.set {w x : World} (h : Rd w x) {g : Nat} (hg : w.heap.size + 1 < g) (k : Nat) (u : Value) : Rd w (x.setCell ⟨g, k, none⟩ u) := by
  obtain ⟨h1, ⟨s, h2⟩, ⟨y, h3⟩⟩ := h
  exact ⟨h1.setCell (by show w.heap.size ≤ g; omega) u, ⟨s, h2.setOther (by omega) u⟩, ⟨y, h3.setOther (by omega) u⟩⟩
theorem wp_new_sp {o : Oper} {a : Act} {w : World} {K : Act → World → Prop} {Q : Exit → Act → World → Prop} (ho : o.op = .alloc 27)
    (h : K (a.put o.dst (.pointer (some ⟨w.heap.size, 0, none⟩))) (w.alloc (.cells (sl Zs).toArray 27))) : o.wp Tryd.prog a w K Q := by
  unfold Oper.wp execOp
  simp only [ho, Instr.alloc, Sem.run_bind, run_zero_sp, Result.andThen_ok, newVar, newRow, Value.cells]
  exact h
/-- Behind the number. -/
def RetQ (w : World) (x : Stp × Sp) (e : Ending) (w' : World) : Prop := e = .returned (.tuple #[qv x.1, sv x.2]) ∧ Kept w w'
theorem SAt.at0 {w : World} {g : Nat} {x : Sp} (h : SAt w g x) : w.cell? ⟨g, 0, none⟩ = some (.int .i64 x.a) := by
  rw [cell_of_row _ _ 0 _ _ (0, 0) h.at_]; rfl
theorem SAt.at1 {w : World} {g : Nat} {x : Sp} (h : SAt w g x) : w.cell? ⟨g, 1, none⟩ = some (.int .i64 x.n) := by
  rw [cell_of_row _ _ 1 _ _ (0, 0) h.at_]; rfl
theorem read_bad (t : ByteArray) (i : Int) (ht : t.size ≤ 1000) (he : (oneP t hdT i).e ≠ 0) (w : World) (hT : TabS w) : Calls Tryd.prog 8 #[.string t, .int .i64 i] w (RetQ w (rdP t i)) := by
  have HE : Hid (rdP t i = (Zt, oneP t hdT i)) := Lib.hid (by unfold rdP rdO; rw [if_pos he])
  have HOne := Lib.hid (fun v w hv => oneOf_is t i hdT v w hv ht (by decide) hd_sizes)
  have hb : ((oneP t hdT i).e != 0) = true := bne_iff_ne.2 he
  generalize oneP t hdT i = o at *
  have HT := Lib.hid hT
  have HK := Lib.hid (((Kept.refl w).alloc (.cells (ql Zt).toArray 24)).alloc (.cells (sl Zs).toArray 27))
  have HRd : Hid (Rd w ((w.alloc (.cells (ql Zt).toArray 24)).alloc (.cells (sl Zs).toArray 27))) := Lib.hid ⟨HK.out, ⟨Zt, (TAt.new w Zt).kept ((Kept.refl _).alloc _)⟩, ⟨Zs, by have := SAt.new (w.alloc (.cells (ql Zt).toArray 24)) Zs; rwa [World.size_alloc] at this⟩⟩
  clear he hT
  go_enter Tryd.func8, Tryd.ntmps8
  go_wp2_with (first | (with_reducible refine wpList_new_q rfl rfl ?_) | (with_reducible refine wpList_new_sp rfl rfl ?_))
  refine (openings_is _).mono ?_
  rintro e w1 ⟨v, rfl, ho, k1⟩
  obtain ⟨g6, hl, hg6⟩ := ho.ls (by decide)
  have HL := Lib.hid hl
  have HRd1 := Lib.hid (HRd.out.kept k1)
  clear k1 ho hl
  go_wp2_with fail
  refine (words_is v g6 _ HL.out (HT.out.kept HRd1.out.k)).mono ?_
  rintro e w2 ⟨v2, rfl, hx, k2⟩
  have HX := Lib.hid (hx.ls (by decide))
  have HRd2 := Lib.hid (HRd1.out.kept k2)
  clear k2 hx
  go_wp2_with fail
  refine (HOne.out v2 _ HX.out).mono ?_
  rintro e w3 ⟨rfl, k3⟩
  have HRd7 := Lib.hid ((HRd2.out.kept k3).kept ((Kept.refl w3).alloc (.cells (sl o).toArray 27)))
  have Hg7 := Lib.hid (HRd2.out.kept k3).hi
  have HS7 := Lib.hid (SAt.new w3 o)
  have hc7 := HS7.out.err
  clear k3
  go_wp2_with (first | (with_reducible refine wpList_new_sp rfl rfl ?_) | ((with_reducible refine wpList_store_newsp rfl _ _ rfl Zs o ?_ ?_ ?_); exact rfl; exact rfl))
  generalize w3.alloc (.cells (sl o).toArray 27) = W7 at *
  generalize w3.heap.size = g7 at *
  clear hc7
  refine wp_region_held_drew (S := (fun x => Rd w x ∧ SAt x g7 o)) (by kernel_rfl) ⟨(HRd7.out).kept (Kept.refl _).drew, (HS7.out).kept (Kept.refl _).drew⟩ (fun hHeld => ?_)
  refine rY 0 20 rfl rfl (take_bt_q0 (by rfl) rfl) hHeld ?_
  simp only [pA, pN, sZ, sU]
  refine rY 1 21 rfl rfl (take_load_sp (by rfl) _ rfl g7 0 rfl o (fun _ h => SAt.range h.2)) hHeld ?_
  simp only [pA, pN, sZ, sU]
  refine rR 2 rfl (fun K hK => ?_)
  rw [if_pos (by rfl)]
  obtain ⟨s0, hs0⟩ := hHeld.1.t
  refine wp_store_row 24 _ _ rfl w.heap.size (ql Zt).toArray rfl rfl 24 _ hs0.at_ (ql_sz _) rfl (ql_one _) ?_
  have hT1 := hHeld.1.rowT Zt
  refine hK.out _ _ ⟨hT1.1, SAt.rowOther hHeld.2 (by have := Hg7.out; omega) _⟩ (fun hHeld => ?_)
  clear hK K
  refine rR 3 rfl (fun K hK => ?_)
  rw [if_pos (by rfl)]
  obtain ⟨y0, hy0⟩ := hHeld.1.e
  refine wp_store_row 27 _ _ rfl (w.heap.size + 1) (sl o).toArray rfl rfl 27 _ hy0.at_ (sl_sz _) rfl (sl_one _) ?_
  have hE1 := hHeld.1.rowE o
  have hT2 := hT1.2.rowOther (k := w.heap.size + 1) (by omega) (sl o).toArray
  refine hK.out _ _ ⟨hE1.1, SAt.rowOther hHeld.2 (by have := Hg7.out; omega) _⟩ (fun hHeld => ?_)
  clear hK K
  refine wpAnyH_done (by kernel_rfl) ?_ _
  have HE1 := Lib.hid hE1
  have HT2 := Lib.hid hT2
  clear hE1 hT2 hT1 hHeld
  go_wp2
  refine bodyPost_ret (v := .tuple #[qv Zt, sv o]) ?_ rfl ⟨by rw [HE.out], HE1.out.1.k⟩
  exact results_qs rfl _ rfl rfl HT2.out HE1.out.2
theorem read_good (t : ByteArray) (i : Int) (ht : t.size ≤ 1000) (he : (oneP t hdT i).e = 0) (w : World) (hT : TabS w) : Calls Tryd.prog 8 #[.string t, .int .i64 i] w (RetQ w (rdP t i)) := by
  obtain ⟨j, p, hj, hp⟩ := one_ok he
  obtain ⟨s, hs⟩ : ∃ s : Stp, s = ⟨p.1, p.2, 0, false⟩ := ⟨_, rfl⟩
  have hsj : hdS[j]? = some s := by rw [hs]; exact hdS_get hp
  have HE0 : Hid (rdP t i = rdV t s (numP t (oneP t hdT i).a (lstI (decide (s.k = 5))) 64)) := Lib.hid (by
    unfold rdP rdO
    rw [if_neg (by rw [he]; simp), hj, show ((j : Int)).toNat = j from rfl, hdS_at hp, hs])
  have HOne := Lib.hid (fun v w hv => oneOf_is t i hdT v w hv ht (by decide) hd_sizes)
  have hb : ((oneP t hdT i).e != 0) = false := by rw [he]; rfl
  generalize oneP t hdT i = o at *
  have HNum := Lib.hid (fun w => number_is t o.a (lstI (decide (s.k = 5))) 64 ht w)
  generalize numP t o.a (lstI (decide (s.k = 5))) 64 = u at *
  have HT := Lib.hid hT
  have HSJ := Lib.hid hsj
  have hj15 : (j : Int) < 15 := by
    obtain ⟨h, _⟩ := List.getElem?_eq_some_iff.1 hp
    have : hdL.length = 15 := rfl
    omega
  have HJ := Lib.hid hj
  have HK := Lib.hid (((Kept.refl w).alloc (.cells (ql Zt).toArray 24)).alloc (.cells (sl Zs).toArray 27))
  have HRd : Hid (Rd w ((w.alloc (.cells (ql Zt).toArray 24)).alloc (.cells (sl Zs).toArray 27))) := Lib.hid ⟨HK.out, ⟨Zt, (TAt.new w Zt).kept ((Kept.refl _).alloc _)⟩, ⟨Zs, by have := SAt.new (w.alloc (.cells (ql Zt).toArray 24)) Zs; rwa [World.size_alloc] at this⟩⟩
  clear he hT hs hsj hj hp
  go_enter Tryd.func8, Tryd.ntmps8
  go_wp2_with (first | (with_reducible refine wpList_new_q rfl rfl ?_) | (with_reducible refine wpList_new_sp rfl rfl ?_))
  refine (openings_is _).mono ?_
  rintro e w1 ⟨v, rfl, ho, k1⟩
  obtain ⟨g6, hl, hg6⟩ := ho.ls (by decide)
  have HL := Lib.hid hl
  obtain ⟨off, cap, rfl, hc1, hc2, hr⟩ := hl
  rw [show hdS.length = 15 from rfl] at HL ⊢
  have HR := Lib.hid hr
  have HRd1 := Lib.hid (HRd.out.kept k1)
  clear k1 ho hr hc1 hc2
  go_wp2_with fail
  refine (words_is _ g6 _ HL.out (HT.out.kept HRd1.out.k)).mono ?_
  rintro e w2 ⟨v2, rfl, hx, k2⟩
  have HX := Lib.hid (hx.ls (by decide))
  have HRd2 := Lib.hid (HRd1.out.kept k2)
  go_wp2_with fail
  refine (HOne.out v2 _ HX.out).mono ?_
  rintro e w3 ⟨rfl, k3⟩
  have HRd7 := Lib.hid ((HRd2.out.kept k3).kept ((Kept.refl w3).alloc (.cells (sl o).toArray 27)))
  have HK13 := Lib.hid ((k2.trans k3).alloc (.cells (sl o).toArray 27))
  have Hg7 := Lib.hid (HRd2.out.kept k3).hi
  have HS7 := Lib.hid (SAt.new w3 o)
  have hc7 := HS7.out.err
  clear k2 k3 hx
  have hc7n := HS7.out.at1
  rw [HJ.out] at hc7n
  have HR7 : Hid ((w3.alloc (.cells (sl o).toArray 27)).rangeAt g6 (off + j * 4) (ql s)) := Lib.hid (by
    rw [Nat.mul_comm]
    intro k u hu
    exact kept_cell HK13.out (range_q HR.out HSJ.out k u hu))
  obtain ⟨W7, eW7⟩ : ∃ W7, W7 = w3.alloc (.cells (sl o).toArray 27) := ⟨_, rfl⟩
  have HRd8 : Hid (Rd w ((w3.alloc (.cells (sl o).toArray 27)).alloc (.cells (ql s).toArray 24))) := Lib.hid (HRd7.out.kept ((Kept.refl _).alloc _))
  have HS78 : Hid (SAt ((w3.alloc (.cells (sl o).toArray 27)).alloc (.cells (ql s).toArray 24)) w3.heap.size o) := Lib.hid (HS7.out.kept ((Kept.refl _).alloc _))
  have HT8 := Lib.hid (TAt.new (w3.alloc (.cells (sl o).toArray 27)) s)
  clear eW7 W7
  go_upto_region 6 with (first | (with_reducible refine wpList_new_sp rfl rfl ?_) | ((with_reducible refine wpList_store_newsp rfl _ _ rfl Zs o ?_ ?_ ?_); exact rfl; exact rfl) | ((with_reducible refine wpList_load_q rfl _ rfl g6 (off + j * 4) ?_ s HR7.out ?_); exact rfl) | (with_reducible refine wpList_new_q rfl rfl ?_) | ((with_reducible refine wpList_store_newq rfl _ _ rfl Zt s ?_ ?_ ?_); exact rfl; exact rfl))
  have Hg8 : Hid (w.heap.size + 1 < (w3.alloc (.cells (sl o).toArray 27)).heap.size) := Lib.hid (by have := Hg7.out; simp; omega)
  generalize (w3.alloc (.cells (sl o).toArray 27)).alloc (.cells (ql s).toArray 24) = W8 at *
  generalize (w3.alloc (.cells (sl o).toArray 27)).heap.size = g8 at *
  generalize w3.heap.size = g7 at *
  have Hlt8 : Hid (g8 < W8.heap.size) := Lib.hid (lt_of_heap HT8.out.at_)
  clear hc7 hc7n HRd7 HK13 HS7 HR7
  simp only [pA, pN, sZ, sU]
  go_cut [9] from 10 (fun s9 wc => ∃ g9, s9 = .pointer (some ⟨g9, 0, none⟩) ∧ SAt wc g9 u ∧ Kept W8 wc ∧ W8.heap.size ≤ g9)
  case first =>
    go_wp2_with fail
    refine wp_region_held_drew (S := Kept _) (by kernel_rfl) (Kept.refl _).drew (fun hHeld => ?_)
    refine rT 0 27 (.string t) rfl rfl hHeld ?_
    simp only [pA, pN, sZ, sU]
    refine rT 1 28 (.pointer (some ⟨g7, 0, none⟩)) rfl rfl hHeld ?_
    simp only [pA, pN, sZ, sU]
    refine rC 2 29 (.int .i64 o.a) rfl rfl (fun _ h => kept_cell h ((HS78.out.at0))) hHeld ?_
    simp only [pA, pN, sZ, sU]
    refine rY 3 30 rfl rfl (take_load_q (by rfl) _ rfl g8 0 rfl s (fun _ h => TAt.range (TAt.kept (HT8.out) h))) hHeld ?_
    simp only [pA, pN, sZ, sU]
    refine wpAnyH_ready (rs := [4, 6]) (by kernel_rfl) (by simp) ?_
    refine AllReadyH.cons rfl (fun K hK => ?_) (AllReadyH.cons rfl (fun K hK => ?_) AllReadyH.nil)
    · go_simp
      refine (least_is s _).mono ?_
      rintro e x4 ⟨rfl, k4⟩
      refine hK.out _ _ (hHeld.trans k4) (fun _ => ?_)
      replace hHeld := hHeld.trans k4
      clear hK K k4
      refine wpAnyH_ready (rs := [5, 6]) (by kernel_rfl) (by simp) ?_
      refine AllReadyH.cons rfl (fun K hK => ?_) (AllReadyH.cons rfl (fun K hK => ?_) AllReadyH.nil)
      · go_simp
        refine (HNum.out _).mono ?_
        rintro e x5 ⟨rfl, k5⟩
        refine hK.out _ _ (hHeld.trans k5) (fun _ => ?_)
        replace hHeld := hHeld.trans k5
        clear hK K k5
        refine rR 6 rfl (fun K hK => ?_)
        rw [if_pos (by rfl)]
        refine wp_new_sp rfl ?_
        refine hK.out _ _ (hHeld.alloc _) (fun _ => ?_)
        clear hK K
        have hS9 := SAt.new x5 Zs
        have hlo := hHeld.size
        replace hHeld := hHeld.alloc (.cells (sl Zs).toArray 27)
        generalize x5.alloc (.cells (sl Zs).toArray 27) = y5 at *
        generalize x5.heap.size = g9 at *
        refine rR 7 rfl (fun K hK => ?_)
        rw [if_pos (by rfl)]
        refine wp_store_row 27 _ _ rfl g9 (sl u).toArray rfl rfl 27 _ hS9.at_ (sl_sz _) rfl (sl_one _) ?_
        refine hK.out _ _ (hHeld.setRow hlo _) (fun _ => ?_)
        clear hK K
        refine wpAnyH_done (by kernel_rfl) ?_ _
        go_wp2
        go_meet
        case rel => exact ⟨g9, rfl, hS9.row u, hHeld.setRow hlo _, hlo⟩
      · skip
        rw [if_pos (by rfl)]
        refine wp_new_sp rfl ?_
        refine hK.out _ _ (hHeld.alloc _) (fun _ => ?_)
        clear hK K
        have hS9 := SAt.new x4 Zs
        have hlo := hHeld.size
        replace hHeld := hHeld.alloc (.cells (sl Zs).toArray 27)
        generalize x4.alloc (.cells (sl Zs).toArray 27) = y5 at *
        generalize x4.heap.size = g9 at *
        refine rR 5 rfl (fun K hK => ?_)
        go_simp
        refine (HNum.out _).mono ?_
        rintro e x5 ⟨rfl, k5⟩
        refine hK.out _ _ (hHeld.trans k5) (fun _ => ?_)
        replace hHeld := hHeld.trans k5
        replace hS9 := hS9.kept k5
        clear hK K k5
        refine rR 7 rfl (fun K hK => ?_)
        rw [if_pos (by rfl)]
        refine wp_store_row 27 _ _ rfl g9 (sl u).toArray rfl rfl 27 _ hS9.at_ (sl_sz _) rfl (sl_one _) ?_
        refine hK.out _ _ (hHeld.setRow hlo _) (fun _ => ?_)
        clear hK K
        refine wpAnyH_done (by kernel_rfl) ?_ _
        go_wp2
        go_meet
        case rel => exact ⟨g9, rfl, hS9.row u, hHeld.setRow hlo _, hlo⟩
    · skip
      rw [if_pos (by rfl)]
      refine wp_new_sp rfl ?_
      refine hK.out _ _ (hHeld.alloc _) (fun _ => ?_)
      clear hK K
      have hS9 := SAt.new W8.drew Zs
      have hlo := hHeld.size
      replace hHeld := hHeld.alloc (.cells (sl Zs).toArray 27)
      generalize W8.drew.alloc (.cells (sl Zs).toArray 27) = y5 at *
      generalize W8.drew.heap.size = g9 at *
      refine rR 4 rfl (fun K hK => ?_)
      go_simp
      refine (least_is s _).mono ?_
      rintro e x4 ⟨rfl, k4⟩
      refine hK.out _ _ (hHeld.trans k4) (fun _ => ?_)
      replace hHeld := hHeld.trans k4
      replace hS9 := hS9.kept k4
      clear hK K k4
      refine rR 5 rfl (fun K hK => ?_)
      go_simp
      refine (HNum.out _).mono ?_
      rintro e x5 ⟨rfl, k5⟩
      refine hK.out _ _ (hHeld.trans k5) (fun _ => ?_)
      replace hHeld := hHeld.trans k5
      replace hS9 := hS9.kept k5
      clear hK K k5
      refine rR 7 rfl (fun K hK => ?_)
      rw [if_pos (by rfl)]
      refine wp_store_row 27 _ _ rfl g9 (sl u).toArray rfl rfl 27 _ hS9.at_ (sl_sz _) rfl (sl_one _) ?_
      refine hK.out _ _ (hHeld.setRow hlo _) (fun _ => ?_)
      clear hK K
      refine wpAnyH_done (by kernel_rfl) ?_ _
      go_wp2
      go_meet
      case rel => exact ⟨g9, rfl, hS9.row u, hHeld.setRow hlo _, hlo⟩
  case rest =>
    obtain ⟨g9, rfl, h9, k9, lo9⟩ := hcut
    have HRd9 := Lib.hid (HRd8.out.kept k9)
    have HT8w := Lib.hid (HT8.out.kept k9)
    have HS9 := Lib.hid h9
    have Hg9 : Hid (w.heap.size + 1 < g9) := Lib.hid (by have := Hg8.out; have := Hlt8.out; omega)
    have Hne : Hid (g9 ≠ g8) := Lib.hid (by have := Hlt8.out; omega)
    have hc9 := HS9.out.err
    clear h9 k9 lo9 HRd8 HS78 HT8
    by_cases hu : u.e ≠ 0
    · have HE : Hid (rdP t i = (Zt, u)) := Lib.hid (HE0.out.trans (by unfold rdV; rw [if_pos hu]))
      have hbu : (u.e != 0) = true := bne_iff_ne.2 hu
      clear hu
      go_wp2_with fail
      refine wp_region_held_drew (S := (fun x => Rd w x ∧ SAt x g9 u)) (by kernel_rfl) ⟨(HRd9.out).kept (Kept.refl _).drew, (HS9.out).kept (Kept.refl _).drew⟩ (fun hHeld => ?_)
      refine rY 0 36 rfl rfl (take_bt_q0 (by rfl) rfl) hHeld ?_
      simp only [pA, pN, sZ, sU]
      refine rY 1 37 rfl rfl (take_load_sp (by rfl) _ rfl g9 0 rfl u (fun _ h => SAt.range h.2)) hHeld ?_
      simp only [pA, pN, sZ, sU]
      refine rR 2 rfl (fun K hK => ?_)
      rw [if_pos (by rfl)]
      obtain ⟨s0, hs0⟩ := hHeld.1.t
      refine wp_store_row 24 _ _ rfl w.heap.size (ql Zt).toArray rfl rfl 24 _ hs0.at_ (ql_sz _) rfl (ql_one _) ?_
      have hT1 := hHeld.1.rowT Zt
      refine hK.out _ _ ⟨hT1.1, SAt.rowOther hHeld.2 (by have := Hg9.out; omega) _⟩ (fun hHeld => ?_)
      clear hK K
      refine rR 3 rfl (fun K hK => ?_)
      rw [if_pos (by rfl)]
      obtain ⟨y0, hy0⟩ := hHeld.1.e
      refine wp_store_row 27 _ _ rfl (w.heap.size + 1) (sl u).toArray rfl rfl 27 _ hy0.at_ (sl_sz _) rfl (sl_one _) ?_
      have hE1 := hHeld.1.rowE u
      have hT2 := hT1.2.rowOther (k := w.heap.size + 1) (by omega) (sl u).toArray
      refine hK.out _ _ ⟨hE1.1, SAt.rowOther hHeld.2 (by have := Hg9.out; omega) _⟩ (fun hHeld => ?_)
      clear hK K
      refine wpAnyH_done (by kernel_rfl) ?_ _
      have HE1 := Lib.hid hE1
      have HT2 := Lib.hid hT2
      clear hE1 hT2 hT1 hHeld
      go_wp2
      refine bodyPost_ret (v := .tuple #[qv Zt, sv u]) ?_ rfl ⟨by rw [HE.out], HE1.out.1.k⟩
      exact results_qs rfl _ rfl rfl HT2.out HE1.out.2
    · have hu0 : u.e = 0 := by simpa using hu
      have HE1 : Hid (rdP t i = if goB ⟨s.k, s.g, u.n, s.h⟩ t u.a = true then rdW ⟨s.k, s.g, u.n, s.h⟩ (wordP t hfT u.a) else (⟨s.k, s.g, u.n, s.h⟩, ⟨u.a, 0, 0⟩)) := Lib.hid (HE0.out.trans (by unfold rdV; rw [if_neg hu]))
      have hbu : (u.e != 0) = false := by rw [hu0]; rfl
      have hc9a := HS9.out.at0
      have hc9n := HS9.out.at1
      have hc8n := HT8w.out.n
      have hf8 := HT8w.out.frozen 2
      have HT8 := Lib.hid (HT8w.out.setN u.n)
      have HRdn := Lib.hid (HRd9.out.set Hg8.out 2 (.int .i64 u.n))
      have HS9n := Lib.hid (HS9.out.setOther (i := 2) Hne.out (.int .i64 u.n))
      have hc9a' := HS9n.out.at0
      have HGo := Lib.hid (fun w => goesOn_is ⟨s.k, s.g, u.n, s.h⟩ t u.a ht w)
      clear hu hu0 HE0 HT8w HRd9 HS9
      obtain ⟨s1, hs1⟩ : ∃ s1 : Stp, (⟨s.k, s.g, u.n, s.h⟩ : Stp) = s1 := ⟨_, rfl⟩
      rw [hs1] at HE1 HT8 HGo
      have HS1 := Lib.hid hs1
      clear hs1
      go_wp2_with ((with_reducible refine wpList_load_q rfl _ rfl g8 0 ?_ s1 HT8.out.range ?_); exact rfl)
      refine (HGo.out _).mono ?_
      generalize goB s1 t u.a = b at *
      rintro e x10 ⟨rfl, k10⟩
      have HRd9 := Lib.hid (HRdn.out.kept k10)
      have HS9 := Lib.hid (HS9n.out.kept k10)
      have HT8x := Lib.hid (HT8.out.kept k10)
      have hc9b := HS9.out.at0
      clear k10 HT8 HRdn HS9n hc9 hc9a hc9n hc8n hf8 hc9a'
      cases b
      · have HE : Hid (rdP t i = (s1, ⟨u.a, 0, 0⟩)) := Lib.hid (HE1.out.trans (if_neg (by simp)))
        have HT8 := HT8x
        clear HE1 HT8x
        go_wp2_with fail
        refine wp_region_held_drew (S := (fun x => Rd w x ∧ TAt x g8 s1 ∧ SAt x g9 u)) (by kernel_rfl) ⟨(HRd9.out).kept (Kept.refl _).drew, (HT8.out).kept (Kept.refl _).drew, (HS9.out).kept (Kept.refl _).drew⟩ (fun hHeld => ?_)
        refine rY 0 47 rfl rfl (take_load_q (by rfl) _ rfl g8 0 rfl s1 (fun _ h => TAt.range h.2.1)) hHeld ?_
        simp only [pA, pN, sZ, sU]
        refine rT 1 48 (.pointer (some ⟨g9, 0, none⟩)) rfl rfl hHeld ?_
        simp only [pA, pN, sZ, sU]
        refine rC 2 49 (.int .i64 u.a) rfl rfl (fun _ h => SAt.at0 h.2.2) hHeld ?_
        simp only [pA, pN, sZ, sU]
        refine rY 3 50 rfl rfl (take_bt_sa (by rfl) _ rfl u.a rfl) hHeld ?_
        simp only [pA, pN, sZ, sU]
        refine rR 4 rfl (fun K hK => ?_)
        rw [if_pos (by rfl)]
        obtain ⟨s0, hs0⟩ := hHeld.1.t
        refine wp_store_row 24 _ _ rfl w.heap.size (ql s1).toArray rfl rfl 24 _ hs0.at_ (ql_sz _) rfl (ql_one _) ?_
        have hT1 := hHeld.1.rowT s1
        refine hK.out _ _ ⟨hT1.1, TAt.rowOther hHeld.2.1 (by have := Hg8.out; omega) _, SAt.rowOther hHeld.2.2 (by have := Hg9.out; omega) _⟩ (fun hHeld => ?_)
        clear hK K
        refine rR 5 rfl (fun K hK => ?_)
        rw [if_pos (by rfl)]
        obtain ⟨y0, hy0⟩ := hHeld.1.e
        refine wp_store_row 27 _ _ rfl (w.heap.size + 1) (sl ⟨u.a, 0, 0⟩).toArray rfl rfl 27 _ hy0.at_ (sl_sz _) rfl (sl_one _) ?_
        have hE1 := hHeld.1.rowE ⟨u.a, 0, 0⟩
        have hT2 := hT1.2.rowOther (k := w.heap.size + 1) (by omega) (sl ⟨u.a, 0, 0⟩).toArray
        refine hK.out _ _ ⟨hE1.1, TAt.rowOther hHeld.2.1 (by have := Hg8.out; omega) _, SAt.rowOther hHeld.2.2 (by have := Hg9.out; omega) _⟩ (fun hHeld => ?_)
        clear hK K
        refine wpAnyH_done (by kernel_rfl) ?_ _
        have HE1 := Lib.hid hE1
        have HT2 := Lib.hid hT2
        clear hE1 hT2 hT1 hHeld
        go_wp2
        refine bodyPost_ret (v := .tuple #[qv s1, sv ⟨u.a, 0, 0⟩]) ?_ rfl ⟨by rw [HE.out], HE1.out.1.k⟩
        exact results_qs rfl _ rfl rfl HT2.out HE1.out.2
      · have HE2 : Hid (rdP t i = rdW s1 (wordP t hfT u.a)) := Lib.hid (HE1.out.trans (if_pos rfl))
        have HWd := Lib.hid (fun w => word_is t hfT u.a ht (by decide) w)
        clear HE1
        generalize wordP t hfT u.a = y at *
        go_wp2_with fail
        refine (HWd.out _).mono ?_
        rintro e x12 ⟨rfl, k12⟩
        have HRdA := Lib.hid ((HRd9.out.kept k12).kept ((Kept.refl x12).alloc (.cells (sl y).toArray 27)))
        have HgA := Lib.hid (HRd9.out.kept k12).hi
        have HSA := Lib.hid (SAt.new x12 y)
        have HT8y := Lib.hid ((HT8x.out.kept k12).kept ((Kept.refl x12).alloc (.cells (sl y).toArray 27)))
        have HneA : Hid (x12.heap.size ≠ g8) := Lib.hid (by have := lt_of_heap (HT8x.out.kept k12).at_; omega)
        have hcA := HSA.out.err
        have hc8h := HT8y.out.h
        have hf8 := HT8y.out.frozen 3
        clear k12 HT8x HRd9
        by_cases hy : y.e ≠ 0
        · have HE : Hid (rdP t i = (Zt, y)) := Lib.hid (HE2.out.trans (by unfold rdW; rw [if_pos hy]))
          have hby : (y.e != 0) = true := bne_iff_ne.2 hy
          clear hy HE2
          go_wp2_with (first | (with_reducible refine wpList_new_sp rfl rfl ?_) | ((with_reducible refine wpList_store_newsp rfl _ _ rfl Zs y ?_ ?_ ?_); exact rfl; exact rfl))
          generalize x12.alloc (.cells (sl y).toArray 27) = WA at *
          generalize x12.heap.size = gA at *
          refine wp_region_held_drew (S := (fun x => Rd w x ∧ SAt x gA y)) (by kernel_rfl) ⟨(HRdA.out).kept (Kept.refl _).drew, (HSA.out).kept (Kept.refl _).drew⟩ (fun hHeld => ?_)
          refine rY 0 58 rfl rfl (take_bt_q0 (by rfl) rfl) hHeld ?_
          simp only [pA, pN, sZ, sU]
          refine rY 1 59 rfl rfl (take_load_sp (by rfl) _ rfl gA 0 rfl y (fun _ h => SAt.range h.2)) hHeld ?_
          simp only [pA, pN, sZ, sU]
          refine rR 2 rfl (fun K hK => ?_)
          rw [if_pos (by rfl)]
          obtain ⟨s0, hs0⟩ := hHeld.1.t
          refine wp_store_row 24 _ _ rfl w.heap.size (ql Zt).toArray rfl rfl 24 _ hs0.at_ (ql_sz _) rfl (ql_one _) ?_
          have hT1 := hHeld.1.rowT Zt
          refine hK.out _ _ ⟨hT1.1, SAt.rowOther hHeld.2 (by have := HgA.out; omega) _⟩ (fun hHeld => ?_)
          clear hK K
          refine rR 3 rfl (fun K hK => ?_)
          rw [if_pos (by rfl)]
          obtain ⟨y0, hy0⟩ := hHeld.1.e
          refine wp_store_row 27 _ _ rfl (w.heap.size + 1) (sl y).toArray rfl rfl 27 _ hy0.at_ (sl_sz _) rfl (sl_one _) ?_
          have hE1 := hHeld.1.rowE y
          have hT2 := hT1.2.rowOther (k := w.heap.size + 1) (by omega) (sl y).toArray
          refine hK.out _ _ ⟨hE1.1, SAt.rowOther hHeld.2 (by have := HgA.out; omega) _⟩ (fun hHeld => ?_)
          clear hK K
          refine wpAnyH_done (by kernel_rfl) ?_ _
          have HE1 := Lib.hid hE1
          have HT2 := Lib.hid hT2
          clear hE1 hT2 hT1 hHeld
          go_wp2
          refine bodyPost_ret (v := .tuple #[qv Zt, sv y]) ?_ rfl ⟨by rw [HE.out], HE1.out.1.k⟩
          exact results_qs rfl _ rfl rfl HT2.out HE1.out.2
        · have hy0 : y.e = 0 := by simpa using hy
          have HE : Hid (rdP t i = (⟨s1.k, s1.g, s1.n, true⟩, y)) := Lib.hid (HE2.out.trans (by unfold rdW; rw [if_neg hy]))
          have hby : (y.e != 0) = false := by rw [hy0]; rfl
          clear hy hy0 HE2
          have HT8 := Lib.hid (HT8y.out.setH true)
          have HRdA2 := Lib.hid (HRdA.out.set Hg8.out 3 (.bool true))
          have HSA2 := Lib.hid (HSA.out.setOther (i := 3) HneA.out (.bool true))
          obtain ⟨s2, hs2⟩ : ∃ s2 : Stp, (⟨s1.k, s1.g, s1.n, true⟩ : Stp) = s2 := ⟨_, rfl⟩
          rw [hs2] at HE HT8
          clear hs2
          go_wp2_with (first | (with_reducible refine wpList_new_sp rfl rfl ?_) | ((with_reducible refine wpList_store_newsp rfl _ _ rfl Zs y ?_ ?_ ?_); exact rfl; exact rfl))
          clear HRdA HSA HT8y
          have HRdA := HRdA2
          have HSA := HSA2
          clear HRdA2 HSA2
          generalize x12.heap.size = gA at *
          refine wp_region_held_drew (S := (fun x => Rd w x ∧ TAt x g8 s2 ∧ SAt x gA y)) (by kernel_rfl) ⟨(HRdA.out).kept (Kept.refl _).drew, (HT8.out).kept (Kept.refl _).drew, (HSA.out).kept (Kept.refl _).drew⟩ (fun hHeld => ?_)
          refine rY 0 61 rfl rfl (take_load_q (by rfl) _ rfl g8 0 rfl s2 (fun _ h => TAt.range h.2.1)) hHeld ?_
          simp only [pA, pN, sZ, sU]
          refine rY 1 62 rfl rfl (take_load_sp (by rfl) _ rfl gA 0 rfl y (fun _ h => SAt.range h.2.2)) hHeld ?_
          simp only [pA, pN, sZ, sU]
          refine rR 2 rfl (fun K hK => ?_)
          rw [if_pos (by rfl)]
          obtain ⟨s0, hs0⟩ := hHeld.1.t
          refine wp_store_row 24 _ _ rfl w.heap.size (ql s2).toArray rfl rfl 24 _ hs0.at_ (ql_sz _) rfl (ql_one _) ?_
          have hT1 := hHeld.1.rowT s2
          refine hK.out _ _ ⟨hT1.1, TAt.rowOther hHeld.2.1 (by have := Hg8.out; omega) _, SAt.rowOther hHeld.2.2 (by have := HgA.out; omega) _⟩ (fun hHeld => ?_)
          clear hK K
          refine rR 3 rfl (fun K hK => ?_)
          rw [if_pos (by rfl)]
          obtain ⟨y0, hy0⟩ := hHeld.1.e
          refine wp_store_row 27 _ _ rfl (w.heap.size + 1) (sl y).toArray rfl rfl 27 _ hy0.at_ (sl_sz _) rfl (sl_one _) ?_
          have hE1 := hHeld.1.rowE y
          have hT2 := hT1.2.rowOther (k := w.heap.size + 1) (by omega) (sl y).toArray
          refine hK.out _ _ ⟨hE1.1, TAt.rowOther hHeld.2.1 (by have := Hg8.out; omega) _, SAt.rowOther hHeld.2.2 (by have := HgA.out; omega) _⟩ (fun hHeld => ?_)
          clear hK K
          refine wpAnyH_done (by kernel_rfl) ?_ _
          have HE1 := Lib.hid hE1
          have HT2 := Lib.hid hT2
          clear hE1 hT2 hT1 hHeld
          go_wp2
          refine bodyPost_ret (v := .tuple #[qv s2, sv y]) ?_ rfl ⟨by rw [HE.out], HE1.out.1.k⟩
          exact results_qs rfl _ rfl rfl HT2.out HE1.out.2
end Go.Proofs.YtnlgjakohoimhaaDoor
