/- Same; the walk of PosSame. -/
import Derived.Test.YthoknnckbllpnaaDoorPkF
namespace Go.Proofs.YthoknnckbllpnaaDoor
open Go.RowKit
set_option linter.unusedVariables false
set_option linter.unusedSimpArgs false

/-- A position without its rights. -/
def bareP (p : Ps) : Ps := ⟨p.B, p.t, 0, -1⟩
set_option maxRecDepth 100000 in
theorem bare_is (p : Ps) (hB : Brd p.B) (w : World) : Calls Tryd.prog 41 #[.agg (pl p).toArray] w (RetP w (bareP p)) := by
  have HP : Hid (PAt _ _ p) := ⟨hB.1, heap_alloc2_old w (.cells (pl p).toArray 26) (.cells (pl Zp).toArray 26)⟩
  have HR : Hid (PAt _ _ Zp) := ⟨Zp_len, heap_alloc2_new w (.cells (pl p).toArray 26) (.cells (pl Zp).toArray 26)⟩
  have HK := Lib.hid (((Kept.refl w).alloc (.cells (pl p).toArray 26)).alloc (.cells (pl Zp).toArray 26))
  have hql : Hid ((bareP p).B.length = 64) := hB.1
  have hsz : Hid ((w.alloc (.cells (pl p).toArray 26)).heap.size = w.heap.size + 1) := by show _ = _; simp
  clear hB
  go_enter Tryd.func41, Tryd.ntmps41
  go_wp2_with (with_reducible refine wpList_new_p rfl rfl ?_; refine Hid.out ?_)
  refine Lib.hid ?_

  generalize (w.alloc (.cells (pl p).toArray 26)).alloc (.cells (pl Zp).toArray 26) = W at *
  have c1 := HP.out.cas
  have f1 := HP.out.frozen 65
  have HP1 : Hid (PAt (W.setCell ⟨w.heap.size, 65, none⟩ (.int .i64 0)) w.heap.size ⟨p.B, p.t, 0, p.e⟩) := HP.out.set 1 (.int .i64 0) rfl rfl
  have c2 := HP1.out.ep
  have f2 := HP1.out.frozen 66
  have HP2 : Hid (PAt ((W.setCell ⟨w.heap.size, 65, none⟩ (.int .i64 0)).setCell ⟨w.heap.size, 66, none⟩ (.int .i64 (-1))) w.heap.size (bareP p)) := HP1.out.set 2 (.int .i64 (-1)) rfl rfl
  have HR2 : Hid (PAt ((W.setCell ⟨w.heap.size, 65, none⟩ (.int .i64 0)).setCell ⟨w.heap.size, 66, none⟩ (.int .i64 (-1))) (w.heap.size + 1) Zp) :=
    ⟨Zp_len, (heap_setCell_other _ _ _ _ (by simp)).trans ((heap_setCell_other _ _ _ _ (by simp)).trans HR.out.at_)⟩
  have HK2 := Lib.hid ((HK.out.setCell (p := ⟨w.heap.size, 65, none⟩) (Nat.le_refl _) (.int .i64 0)).setCell (p := ⟨w.heap.size, 66, none⟩) (Nat.le_refl _) (.int .i64 (-1)))
  go_wp2_with (first | (refine wpList_load_ps (by rfl) _ rfl _ rfl _ HP2.out ?_) | (refine wpList_store_ps rfl _ _ rfl (w.heap.size + 1) Zp (bareP p) HR2.out hql.out rfl rfl ?_))
  refine bodyPost_ret (v := .agg (pl (bareP p)).toArray) ?_ rfl ⟨rfl, HK2.out.setRow (by omega) _⟩
  exact results_p rfl _ rfl (HR2.out.setRow hql.out)
/-- Are the boards and the sides to move the same? -/
def sameB (p q : Ps) : Bool := beqB p.B q.B && (p.t == q.t)
theorem bare_eq (p q : Ps) : beqP (bareP p) (bareP q) = sameB p q := by simp [beqP, bareP, sameB]
set_option maxRecDepth 100000 in
theorem psame_is (p q : Ps) (hB : Brd p.B) (hQ : Brd q.B) (w : World) : Calls Tryd.prog 18 #[.agg (pl p).toArray, .agg (pl q).toArray] w fun e w' => e = .returned (.bool (sameB p q)) ∧ Kept w w' := by
  have HP : Hid (PAt _ _ p) := ⟨hB.1, heap_alloc2_old w (.cells (pl p).toArray 26) (.cells (pl q).toArray 26)⟩
  have HQ : Hid (PAt _ _ q) := ⟨hQ.1, heap_alloc2_new w (.cells (pl p).toArray 26) (.cells (pl q).toArray 26)⟩
  have HK := Lib.hid (((Kept.refl w).alloc (.cells (pl p).toArray 26)).alloc (.cells (pl q).toArray 26))
  have hpl : Hid (p.B.length = 64) := hB.1
  have hql : Hid (q.B.length = 64) := hQ.1
  have hbp : Hid ((bareP p).B.length = 64) := hB.1
  have hbq : Hid ((bareP q).B.length = 64) := hQ.1
  have HC1 := Lib.hid (bare_is p hB)
  have HC2 := Lib.hid (bare_is q hQ)
  clear hB hQ
  go_enter Tryd.func18, Tryd.ntmps18
  go_wp2
  refine wp_region_held_drew (S := Kept _) (by kernel_rfl) (Kept.refl _).drew (fun hHeld => ?_)
  refine rg_take (i := 0) (some 5) rfl rfl (by kernel_rfl) (by kernel_rfl) (by kernel_rfl) (fun _ _ _ h => h) (take_load_ps (by rfl) _ rfl _ rfl p hpl.out (fun _ h => (HP.out).kept h)) hHeld ?_
  simp only [Act.put, List.setIfInBounds_toArray, List.set_cons_zero, List.set_cons_succ]
  refine rg_take (i := 2) (some 7) rfl rfl (by kernel_rfl) (by kernel_rfl) (by kernel_rfl) (fun _ _ _ h => h) (take_load_ps (by rfl) _ rfl _ rfl q hql.out (fun _ h => (HQ.out).kept h)) hHeld ?_
  simp only [Act.put, List.setIfInBounds_toArray, List.set_cons_zero, List.set_cons_succ]
  refine wpAnyH_ready (rs := [1]) (by kernel_rfl) (by simp) ?_
  refine AllReadyH.cons rfl (fun K hK => ?_) AllReadyH.nil
  go_simp
  refine (HC1.out _).mono ?_
  rintro e x1 ⟨rfl, gx1⟩
  refine hK.out _ _ (hHeld.trans gx1) (fun _ => ?_)
  replace hHeld := hHeld.trans gx1
  clear hK K
  refine wpAnyH_ready (rs := [3]) (by kernel_rfl) (by simp) ?_
  refine AllReadyH.cons rfl (fun K hK => ?_) AllReadyH.nil
  go_simp
  refine (HC2.out _).mono ?_
  rintro e x2 ⟨rfl, gx2⟩
  refine hK.out _ _ (hHeld.trans gx2) (fun _ => ?_)
  replace hHeld := hHeld.trans gx2
  clear hK K
  refine rg_take (i := 4) (some 9) rfl rfl (by kernel_rfl) (by kernel_rfl) (by kernel_rfl) (fun _ _ _ h => h) (take_eql_p (by rfl) _ _ _ rfl (bareP p) (bareP q) rfl rfl (⟨hbp.out, hbq.out, bare_eq p q⟩)) hHeld ?_
  simp only [Act.put, List.setIfInBounds_toArray, List.set_cons_zero, List.set_cons_succ]
  refine rg_take (i := 5) (v := (.bool (sameB p q))) (some 4) rfl rfl (by kernel_rfl) (by kernel_rfl) (by kernel_rfl) (fun _ _ _ h => h) (Or.inl ⟨by rfl, fun _ _ => by go_simp⟩) hHeld ?_
  simp only [Act.put, List.setIfInBounds_toArray, List.set_cons_zero, List.set_cons_succ]
  refine wpAnyH_done (by kernel_rfl) ?_ _
  go_wp2
  go_ret
  exact ⟨rfl, HK.out.trans hHeld⟩
theorem run_field_c {p : Ps} (h : p.B.length = 64) (w : World) : (Instr.field 26 (.agg (pl p).toArray) 2).run Tryd.prog w = .ok (.int .i64 p.c) w := by
  have := run_part_i h 1 (show (tlP p)[1]? = some (.int .i64 p.c) from rfl) w
  simp [Instr.field, Sem.run_bind, run_underlying Tryd.underlying26, asAgg, this]
theorem run_field_b {p : Ps} (h : p.B.length = 64) (w : World) : (Instr.field 26 (.agg (pl p).toArray) 0).run Tryd.prog w = .ok (.agg (cl p.B).toArray) w := by
  have := run_part_b h w
  simp [Instr.field, Sem.run_bind, run_underlying Tryd.underlying26, asAgg, this]
theorem rwrong_first (w : World) : Calls Tryd.prog 20 #[.agg (cl Fb).toArray] w fun e w' => e = .returned (.int .i64 0) ∧ Kept w w' := by
  have := rwrong_is Fb Fb_brd w
  rwa [show wrongI Fb = 0 by decide +kernel] at this
/-- A position with other rights. -/
def tw (p : Ps) (c : Int) : Ps := ⟨p.B, p.t, c, c⟩
theorem same_tw (p : Ps) (c : Int) : sameB p (tw p c) = true := by simp [sameB, tw, beqB_refl]
set_option maxRecDepth 100000 in
set_option maxHeartbeats 4000000 in
theorem walkPosSame (p : Ps) (hB : Brd p.B) (q : Ps) (hQ : Brd q.B) (c : Int) (wc : (Lit.int .i64 c).wf = true) (w : World) (hT : Tabs w) :
    Calls Tryd.prog 7 #[.agg (pl p).toArray, .agg (pl q).toArray, .int .i64 c] w fun e w' => e = .returned (.bool true) ∧ Kept w w' := by
  have HP : Hid (PAt _ _ p) := ⟨hB.1, heap_alloc2_old w (.cells (pl p).toArray 26) (.cells (pl q).toArray 26)⟩
  have HQ : Hid (PAt _ _ q) := ⟨hQ.1, heap_alloc2_new w (.cells (pl p).toArray 26) (.cells (pl q).toArray 26)⟩
  have HK0 := Lib.hid (((Kept.refl w).alloc (.cells (pl p).toArray 26)).alloc (.cells (pl q).toArray 26))
  have HT := Lib.hid (hT.kept HK0.out)
  have hpl : Hid (p.B.length = 64) := hB.1
  have hql : Hid (q.B.length = 64) := hQ.1
  have hrl : Hid ((tw p c).B.length = 64) := hB.1
  have HC1 := Lib.hid (psame_is p (tw p c) hB hB)
  rw [same_tw] at HC1
  have HC2 := Lib.hid (psame_is p q hB hQ)
  have HV : Hid (sameB p q = (beqB p.B q.B && (p.t == q.t))) := by rfl
  have hfc := run_field_c Fp_len
  have hfb := run_field_b Fp_len
  have e15 : Fp.c = 15 := rfl
  have eFb : Fp.B = Fb := rfl
  rw [e15] at hfc
  rw [eFb] at hfb
  clear hB hQ hT wc
  generalize hbt : (p.t == q.t) = bt at *
  go_enter Tryd.func7, Tryd.ntmps7
  go_wp2_with fail
  refine (pos_wake _ HT.out).mono ?_
  rintro e w1 ⟨rfl, k1⟩
  have HP1 := Lib.hid (HP.out.kept k1)
  have HQ1 := Lib.hid (HQ.out.kept k1)
  have HK1 := Lib.hid (HK0.out.trans k1)
  have HT1 := Lib.hid (HT.out.kept k1)
  have HN := Lib.hid (PAt.new w1 hpl.out)
  have HKN := Lib.hid ((Kept.refl w1).alloc (.cells (pl p).toArray 26))
  clear k1
  go_wp2_with (first
    | (refine wpList_load_ps (by rfl) _ rfl _ rfl _ HP1.out ?_)
    | (with_reducible refine wpList_new_p rfl rfl ?_)
    | ((with_reducible refine wpList_store_newp rfl _ _ rfl Zp p Zp_len hpl.out ?_ ?_ ?_); exact rfl; exact rfl; refine Hid.out ?_))
  refine Lib.hid ?_
  generalize w1.alloc (.cells (pl p).toArray 26) = W at *
  have c1 := HN.out.cas
  have f1 := HN.out.frozen 65
  have HN1 : Hid (PAt (W.setCell ⟨w1.heap.size, 65, none⟩ (.int .i64 c)) w1.heap.size ⟨p.B, p.t, c, p.e⟩) := HN.out.set 1 (.int .i64 c) rfl rfl
  have c2 := HN1.out.ep
  have f2 := HN1.out.frozen 66
  have HR3 : Hid (PAt ((W.setCell ⟨w1.heap.size, 65, none⟩ (.int .i64 c)).setCell ⟨w1.heap.size, 66, none⟩ (.int .i64 c)) w1.heap.size (tw p c)) := HN1.out.set 2 (.int .i64 c) rfl rfl
  have HKW := Lib.hid ((HKN.out.setCell (p := ⟨w1.heap.size, 65, none⟩) (Nat.le_refl _) (.int .i64 c)).setCell (p := ⟨w1.heap.size, 66, none⟩) (Nat.le_refl _) (.int .i64 c))
  have HP3 := Lib.hid (HP1.out.kept HKW.out)
  have HQ3 := Lib.hid (HQ1.out.kept HKW.out)
  have HT3 := Lib.hid (HT1.out.kept HKW.out)
  have HK3 := Lib.hid (HK1.out.trans HKW.out)
  clear HN HN1 HKN HP HQ HP1 HQ1 HT HT1
  go_wp2
  refine Hid.out ?_
  generalize (W.setCell ⟨w1.heap.size, 65, none⟩ (.int .i64 c)).setCell ⟨w1.heap.size, 66, none⟩ (.int .i64 c) = W3 at *
  refine Lib.hid ?_
  clear c1 c2 f1 f2
  cases hb : beqB p.B q.B
  · rw [hb, Bool.false_and] at HV
    rw [HV.out] at HC2
    refine wp_region_held_drew (S := Kept _) (by kernel_rfl) (Kept.refl _).drew (fun hHeld => ?_)
    refine rg_take (i := 0) (some 15) rfl rfl (by kernel_rfl) (by kernel_rfl) (by kernel_rfl) (fun _ _ _ h => h) (take_load_ps (by rfl) _ rfl _ rfl p hpl.out (fun _ h => (HP3.out).kept h)) hHeld ?_
    simp only [Act.put, List.setIfInBounds_toArray, List.set_cons_zero, List.set_cons_succ]
    refine rg_take (i := 1) (some 16) rfl rfl (by kernel_rfl) (by kernel_rfl) (by kernel_rfl) (fun _ _ _ h => h) (take_load_ps (by rfl) _ rfl _ rfl (tw p c) hrl.out (fun _ h => (HR3.out).kept h)) hHeld ?_
    simp only [Act.put, List.setIfInBounds_toArray, List.set_cons_zero, List.set_cons_succ]
    refine wpAnyH_ready (rs := [2]) (by kernel_rfl) (by simp) ?_
    refine AllReadyH.cons rfl (fun K hK => ?_) AllReadyH.nil
    go_simp
    refine (HC1.out _).mono ?_
    rintro e x1 ⟨rfl, gx1⟩
    refine hK.out _ _ (hHeld.trans gx1) (fun _ => ?_)
    replace hHeld := hHeld.trans gx1
    clear hK K
    refine rg_take (i := 3) (v := (.bool true)) (some 18) rfl rfl (by kernel_rfl) (by kernel_rfl) (by kernel_rfl) (fun _ _ _ h => h) (Or.inl ⟨by rfl, fun _ _ => by go_simp⟩) hHeld ?_
    simp only [Act.put, List.setIfInBounds_toArray, List.set_cons_zero, List.set_cons_succ]
    refine rg_take (i := 4) (some 19) rfl rfl (by kernel_rfl) (by kernel_rfl) (by kernel_rfl) (fun _ _ _ h => h) (take_load_ps (by rfl) _ rfl _ rfl p hpl.out (fun _ h => (HP3.out).kept h)) hHeld ?_
    simp only [Act.put, List.setIfInBounds_toArray, List.set_cons_zero, List.set_cons_succ]
    refine rg_take (i := 5) (some 20) rfl rfl (by kernel_rfl) (by kernel_rfl) (by kernel_rfl) (fun _ _ _ h => h) (take_load_ps (by rfl) _ rfl _ rfl q hql.out (fun _ h => (HQ3.out).kept h)) hHeld ?_
    simp only [Act.put, List.setIfInBounds_toArray, List.set_cons_zero, List.set_cons_succ]
    refine rg_take (i := 7) (v := (.pointer (some ⟨w.heap.size, 0, none⟩))) (some 22) rfl rfl (by kernel_rfl) (by kernel_rfl) (by kernel_rfl) (fun _ _ _ h => h) (Or.inl ⟨by rfl, fun _ _ => by go_simp⟩) hHeld ?_
    simp only [Act.put, List.setIfInBounds_toArray, List.set_cons_zero, List.set_cons_succ]
    refine rg_take (i := 8) (some 23) rfl rfl (by kernel_rfl) (by kernel_rfl) (by kernel_rfl) (fun _ _ _ h => h) (take_load_pb (by rfl) _ rfl _ rfl p hpl.out (fun _ h => (HP3.out).kept h)) hHeld ?_
    simp only [Act.put, List.setIfInBounds_toArray, List.set_cons_zero, List.set_cons_succ]
    refine rg_take (i := 9) (v := (.pointer (some ⟨w.heap.size + 1, 0, none⟩))) (some 24) rfl rfl (by kernel_rfl) (by kernel_rfl) (by kernel_rfl) (fun _ _ _ h => h) (Or.inl ⟨by rfl, fun _ _ => by go_simp⟩) hHeld ?_
    simp only [Act.put, List.setIfInBounds_toArray, List.set_cons_zero, List.set_cons_succ]
    refine rg_take (i := 10) (some 25) rfl rfl (by kernel_rfl) (by kernel_rfl) (by kernel_rfl) (fun _ _ _ h => h) (take_load_pb (by rfl) _ rfl _ rfl q hql.out (fun _ h => (HQ3.out).kept h)) hHeld ?_
    simp only [Act.put, List.setIfInBounds_toArray, List.set_cons_zero, List.set_cons_succ]
    refine rg_take (i := 11) (some 26) rfl rfl (by kernel_rfl) (by kernel_rfl) (by kernel_rfl) (fun _ _ _ h => h) (take_eql (by rfl) _ _ _ rfl (p.B) (q.B) rfl rfl (⟨hpl.out, hql.out, hb⟩)) hHeld ?_
    simp only [Act.put, List.setIfInBounds_toArray, List.set_cons_zero, List.set_cons_succ]
    refine wpAnyH_ready (rs := [6]) (by kernel_rfl) (by simp) ?_
    refine AllReadyH.cons rfl (fun K hK => ?_) AllReadyH.nil
    go_simp
    refine (HC2.out _).mono ?_
    rintro e x2 ⟨rfl, gx2⟩
    refine hK.out _ _ (hHeld.trans gx2) (fun _ => ?_)
    replace hHeld := hHeld.trans gx2
    clear hK K
    refine rg_take (i := 12) (v := (.bool false)) (some 27) rfl rfl (by kernel_rfl) (by kernel_rfl) (by kernel_rfl) (fun _ _ _ h => h) (Or.inl ⟨by rfl, fun _ _ => by go_simp⟩) hHeld ?_
    simp only [Act.put, List.setIfInBounds_toArray, List.set_cons_zero, List.set_cons_succ]
    refine rg_take (i := 13) (some 28) rfl rfl (by kernel_rfl) (by kernel_rfl) (by kernel_rfl) (fun _ _ _ h => h) (Or.inr ⟨by rfl, rfl⟩) hHeld ?_
    simp only [Act.put, List.setIfInBounds_toArray, List.set_cons_zero, List.set_cons_succ]
    refine rg_take (i := 14) (some 29) rfl rfl (by kernel_rfl) (by kernel_rfl) (by kernel_rfl) (fun _ _ _ h => h) (Or.inr ⟨by rfl, rfl⟩) hHeld ?_
    simp only [Act.put, List.setIfInBounds_toArray, List.set_cons_zero, List.set_cons_succ]
    refine rg_take (i := 15) (some 30) rfl rfl (by kernel_rfl) (by kernel_rfl) (by kernel_rfl) (fun _ _ _ h => h) (Or.inr ⟨by rfl, rfl⟩) hHeld ?_
    simp only [Act.put, List.setIfInBounds_toArray, List.set_cons_zero, List.set_cons_succ]
    refine rg_take (i := 16) (some 31) rfl rfl (by kernel_rfl) (by kernel_rfl) (by kernel_rfl) (fun _ _ _ h => h) (Or.inr ⟨by rfl, rfl⟩) hHeld ?_
    simp only [Act.put, List.setIfInBounds_toArray, List.set_cons_zero, List.set_cons_succ]
    refine rg_take (i := 17) (some 32) rfl rfl (by kernel_rfl) (by kernel_rfl) (by kernel_rfl) (fun _ _ _ h => h) (Or.inr ⟨by rfl, rfl⟩) hHeld ?_
    simp only [Act.put, List.setIfInBounds_toArray, List.set_cons_zero, List.set_cons_succ]
    refine rg_take (i := 18) (v := (.bool false)) (some 33) rfl rfl (by kernel_rfl) (by kernel_rfl) (by kernel_rfl) (fun _ _ _ h => h) (Or.inl ⟨by rfl, fun _ _ => by go_simp⟩) hHeld ?_
    simp only [Act.put, List.setIfInBounds_toArray, List.set_cons_zero, List.set_cons_succ]
    refine rg_take (i := 19) (v := (.bool true)) (some 34) rfl rfl (by kernel_rfl) (by kernel_rfl) (by kernel_rfl) (fun _ _ _ h => h) (Or.inl ⟨by rfl, fun _ _ => by go_simp⟩) hHeld ?_
    simp only [Act.put, List.setIfInBounds_toArray, List.set_cons_zero, List.set_cons_succ]
    refine rg_take (i := 20) (v := (.bool true)) (some 35) rfl rfl (by kernel_rfl) (by kernel_rfl) (by kernel_rfl) (fun _ _ _ h => h) (Or.inl ⟨by rfl, fun _ _ => by go_simp⟩) hHeld ?_
    simp only [Act.put, List.setIfInBounds_toArray, List.set_cons_zero, List.set_cons_succ]
    refine rg_take (i := 21) (v := (.bool true)) (some 36) rfl rfl (by kernel_rfl) (by kernel_rfl) (by kernel_rfl) (fun _ _ _ h => h) (Or.inl ⟨by rfl, fun _ _ => by go_simp⟩) hHeld ?_
    simp only [Act.put, List.setIfInBounds_toArray, List.set_cons_zero, List.set_cons_succ]
    refine wpAnyH_ready (rs := [22]) (by kernel_rfl) (by simp) ?_
    refine AllReadyH.cons rfl (fun K hK => ?_) AllReadyH.nil
    go_simp
    refine (pfirst_is _).mono ?_
    rintro e x3 ⟨rfl, gx3⟩
    refine hK.out _ _ (hHeld.trans gx3) (fun _ => ?_)
    replace hHeld := hHeld.trans gx3
    clear hK K
    refine wpAnyH_ready (rs := [23]) (by kernel_rfl) (by simp) ?_
    refine AllReadyH.cons rfl (fun K hK => ?_) AllReadyH.nil
    go_simp
    refine (pwrong_first _ (HT3.out.kept hHeld)).mono ?_
    rintro e x4 ⟨rfl, gx4⟩
    refine hK.out _ _ (hHeld.trans gx4) (fun _ => ?_)
    replace hHeld := hHeld.trans gx4
    clear hK K
    refine rg_take (i := 24) (v := (.bool true)) (some 39) rfl rfl (by kernel_rfl) (by kernel_rfl) (by kernel_rfl) (fun _ _ _ h => h) (Or.inl ⟨by rfl, fun _ _ => by go_simp⟩) hHeld ?_
    simp only [Act.put, List.setIfInBounds_toArray, List.set_cons_zero, List.set_cons_succ]
    refine rg_take (i := 25) (v := (.bool true)) (some 40) rfl rfl (by kernel_rfl) (by kernel_rfl) (by kernel_rfl) (fun _ _ _ h => h) (Or.inl ⟨by rfl, fun _ _ => by go_simp⟩) hHeld ?_
    simp only [Act.put, List.setIfInBounds_toArray, List.set_cons_zero, List.set_cons_succ]
    refine rg_take (i := 26) (v := (.bool true)) (some 41) rfl rfl (by kernel_rfl) (by kernel_rfl) (by kernel_rfl) (fun _ _ _ h => h) (Or.inl ⟨by rfl, fun _ _ => by go_simp⟩) hHeld ?_
    simp only [Act.put, List.setIfInBounds_toArray, List.set_cons_zero, List.set_cons_succ]
    refine wpAnyH_ready (rs := [27]) (by kernel_rfl) (by simp) ?_
    refine AllReadyH.cons rfl (fun K hK => ?_) AllReadyH.nil
    go_simp
    refine (pfirst_is _).mono ?_
    rintro e x5 ⟨rfl, gx5⟩
    refine hK.out _ _ (hHeld.trans gx5) (fun _ => ?_)
    replace hHeld := hHeld.trans gx5
    clear hK K
    refine rg_take (i := 28) (v := (.int .i64 15)) (some 43) rfl rfl (by kernel_rfl) (by kernel_rfl) (by kernel_rfl) (fun _ _ _ h => h) (Or.inl ⟨by rfl, fun _ _ => by go_simp⟩) hHeld ?_
    simp only [Act.put, List.setIfInBounds_toArray, List.set_cons_zero, List.set_cons_succ]
    refine rg_take (i := 29) (v := (.bool true)) (some 44) rfl rfl (by kernel_rfl) (by kernel_rfl) (by kernel_rfl) (fun _ _ _ h => h) (Or.inl ⟨by rfl, fun _ _ => by go_simp⟩) hHeld ?_
    simp only [Act.put, List.setIfInBounds_toArray, List.set_cons_zero, List.set_cons_succ]
    refine rg_take (i := 30) (v := (.bool true)) (some 45) rfl rfl (by kernel_rfl) (by kernel_rfl) (by kernel_rfl) (fun _ _ _ h => h) (Or.inl ⟨by rfl, fun _ _ => by go_simp⟩) hHeld ?_
    simp only [Act.put, List.setIfInBounds_toArray, List.set_cons_zero, List.set_cons_succ]
    refine rg_take (i := 31) (v := (.bool true)) (some 46) rfl rfl (by kernel_rfl) (by kernel_rfl) (by kernel_rfl) (fun _ _ _ h => h) (Or.inl ⟨by rfl, fun _ _ => by go_simp⟩) hHeld ?_
    simp only [Act.put, List.setIfInBounds_toArray, List.set_cons_zero, List.set_cons_succ]
    refine wpAnyH_ready (rs := [32]) (by kernel_rfl) (by simp) ?_
    refine AllReadyH.cons rfl (fun K hK => ?_) AllReadyH.nil
    go_simp
    refine (pfirst_is _).mono ?_
    rintro e x6 ⟨rfl, gx6⟩
    refine hK.out _ _ (hHeld.trans gx6) (fun _ => ?_)
    replace hHeld := hHeld.trans gx6
    clear hK K
    refine rg_take (i := 33) (v := (.agg (cl Fb).toArray)) (some 48) rfl rfl (by kernel_rfl) (by kernel_rfl) (by kernel_rfl) (fun _ _ _ h => h) (Or.inl ⟨by rfl, fun _ _ => by go_simp⟩) hHeld ?_
    simp only [Act.put, List.setIfInBounds_toArray, List.set_cons_zero, List.set_cons_succ]
    refine wpAnyH_ready (rs := [34]) (by kernel_rfl) (by simp) ?_
    refine AllReadyH.cons rfl (fun K hK => ?_) AllReadyH.nil
    go_simp
    refine (rwrong_first _).mono ?_
    rintro e x7 ⟨rfl, gx7⟩
    refine hK.out _ _ (hHeld.trans gx7) (fun _ => ?_)
    replace hHeld := hHeld.trans gx7
    clear hK K
    refine rg_take (i := 35) (v := (.bool true)) (some 50) rfl rfl (by kernel_rfl) (by kernel_rfl) (by kernel_rfl) (fun _ _ _ h => h) (Or.inl ⟨by rfl, fun _ _ => by go_simp⟩) hHeld ?_
    simp only [Act.put, List.setIfInBounds_toArray, List.set_cons_zero, List.set_cons_succ]
    refine rg_take (i := 36) (v := (.bool true)) (some 51) rfl rfl (by kernel_rfl) (by kernel_rfl) (by kernel_rfl) (fun _ _ _ h => h) (Or.inl ⟨by rfl, fun _ _ => by go_simp⟩) hHeld ?_
    simp only [Act.put, List.setIfInBounds_toArray, List.set_cons_zero, List.set_cons_succ]
    refine rg_take (i := 37) (v := (.bool true)) (some 6) rfl rfl (by kernel_rfl) (by kernel_rfl) (by kernel_rfl) (fun _ _ _ h => h) (Or.inl ⟨by rfl, fun _ _ => by go_simp⟩) hHeld ?_
    simp only [Act.put, List.setIfInBounds_toArray, List.set_cons_zero, List.set_cons_succ]
    refine wpAnyH_done (by kernel_rfl) ?_ _
    go_wp2
    go_ret
    exact ⟨rfl, HK3.out.trans hHeld⟩
  · rw [hb, Bool.true_and] at HV
    rw [HV.out] at HC2
    have hbtt : (bt == bt) = true := by simp
    refine wp_region_held_drew (S := Kept _) (by kernel_rfl) (Kept.refl _).drew (fun hHeld => ?_)
    refine rg_take (i := 0) (some 15) rfl rfl (by kernel_rfl) (by kernel_rfl) (by kernel_rfl) (fun _ _ _ h => h) (take_load_ps (by rfl) _ rfl _ rfl p hpl.out (fun _ h => (HP3.out).kept h)) hHeld ?_
    simp only [Act.put, List.setIfInBounds_toArray, List.set_cons_zero, List.set_cons_succ]
    refine rg_take (i := 1) (some 16) rfl rfl (by kernel_rfl) (by kernel_rfl) (by kernel_rfl) (fun _ _ _ h => h) (take_load_ps (by rfl) _ rfl _ rfl (tw p c) hrl.out (fun _ h => (HR3.out).kept h)) hHeld ?_
    simp only [Act.put, List.setIfInBounds_toArray, List.set_cons_zero, List.set_cons_succ]
    refine wpAnyH_ready (rs := [2]) (by kernel_rfl) (by simp) ?_
    refine AllReadyH.cons rfl (fun K hK => ?_) AllReadyH.nil
    go_simp
    refine (HC1.out _).mono ?_
    rintro e x1 ⟨rfl, gx1⟩
    refine hK.out _ _ (hHeld.trans gx1) (fun _ => ?_)
    replace hHeld := hHeld.trans gx1
    clear hK K
    refine rg_take (i := 3) (v := (.bool true)) (some 18) rfl rfl (by kernel_rfl) (by kernel_rfl) (by kernel_rfl) (fun _ _ _ h => h) (Or.inl ⟨by rfl, fun _ _ => by go_simp⟩) hHeld ?_
    simp only [Act.put, List.setIfInBounds_toArray, List.set_cons_zero, List.set_cons_succ]
    refine rg_take (i := 4) (some 19) rfl rfl (by kernel_rfl) (by kernel_rfl) (by kernel_rfl) (fun _ _ _ h => h) (take_load_ps (by rfl) _ rfl _ rfl p hpl.out (fun _ h => (HP3.out).kept h)) hHeld ?_
    simp only [Act.put, List.setIfInBounds_toArray, List.set_cons_zero, List.set_cons_succ]
    refine rg_take (i := 5) (some 20) rfl rfl (by kernel_rfl) (by kernel_rfl) (by kernel_rfl) (fun _ _ _ h => h) (take_load_ps (by rfl) _ rfl _ rfl q hql.out (fun _ h => (HQ3.out).kept h)) hHeld ?_
    simp only [Act.put, List.setIfInBounds_toArray, List.set_cons_zero, List.set_cons_succ]
    refine rg_take (i := 7) (v := (.pointer (some ⟨w.heap.size, 0, none⟩))) (some 22) rfl rfl (by kernel_rfl) (by kernel_rfl) (by kernel_rfl) (fun _ _ _ h => h) (Or.inl ⟨by rfl, fun _ _ => by go_simp⟩) hHeld ?_
    simp only [Act.put, List.setIfInBounds_toArray, List.set_cons_zero, List.set_cons_succ]
    refine rg_take (i := 8) (some 23) rfl rfl (by kernel_rfl) (by kernel_rfl) (by kernel_rfl) (fun _ _ _ h => h) (take_load_pb (by rfl) _ rfl _ rfl p hpl.out (fun _ h => (HP3.out).kept h)) hHeld ?_
    simp only [Act.put, List.setIfInBounds_toArray, List.set_cons_zero, List.set_cons_succ]
    refine rg_take (i := 9) (v := (.pointer (some ⟨w.heap.size + 1, 0, none⟩))) (some 24) rfl rfl (by kernel_rfl) (by kernel_rfl) (by kernel_rfl) (fun _ _ _ h => h) (Or.inl ⟨by rfl, fun _ _ => by go_simp⟩) hHeld ?_
    simp only [Act.put, List.setIfInBounds_toArray, List.set_cons_zero, List.set_cons_succ]
    refine rg_take (i := 10) (some 25) rfl rfl (by kernel_rfl) (by kernel_rfl) (by kernel_rfl) (fun _ _ _ h => h) (take_load_pb (by rfl) _ rfl _ rfl q hql.out (fun _ h => (HQ3.out).kept h)) hHeld ?_
    simp only [Act.put, List.setIfInBounds_toArray, List.set_cons_zero, List.set_cons_succ]
    refine rg_take (i := 11) (some 26) rfl rfl (by kernel_rfl) (by kernel_rfl) (by kernel_rfl) (fun _ _ _ h => h) (take_eql (by rfl) _ _ _ rfl (p.B) (q.B) rfl rfl (⟨hpl.out, hql.out, hb⟩)) hHeld ?_
    simp only [Act.put, List.setIfInBounds_toArray, List.set_cons_zero, List.set_cons_succ]
    refine wpAnyH_ready (rs := [6]) (by kernel_rfl) (by simp) ?_
    refine AllReadyH.cons rfl (fun K hK => ?_) AllReadyH.nil
    go_simp
    refine (HC2.out _).mono ?_
    rintro e x2 ⟨rfl, gx2⟩
    refine hK.out _ _ (hHeld.trans gx2) (fun _ => ?_)
    replace hHeld := hHeld.trans gx2
    clear hK K
    refine rg_take (i := 12) (v := (.bool true)) (some 27) rfl rfl (by kernel_rfl) (by kernel_rfl) (by kernel_rfl) (fun _ _ _ h => h) (Or.inl ⟨by rfl, fun _ _ => by go_simp⟩) hHeld ?_
    simp only [Act.put, List.setIfInBounds_toArray, List.set_cons_zero, List.set_cons_succ]
    refine rg_take (i := 13) (v := (.pointer (some ⟨w.heap.size, 64, none⟩))) (some 28) rfl rfl (by kernel_rfl) (by kernel_rfl) (by kernel_rfl) (fun _ _ _ h => h) (Or.inl ⟨by rfl, fun _ _ => by go_simp⟩) hHeld ?_
    simp only [Act.put, List.setIfInBounds_toArray, List.set_cons_zero, List.set_cons_succ]
    refine rg_take (i := 14) (v := (.int .i64 p.t)) (some 29) rfl rfl (by kernel_rfl) (by kernel_rfl) (by kernel_rfl) (fun _ _ _ h => h) (Or.inl ⟨by rfl, fun w' h => by have h' := kept_cell h (HP3.out.turn); go_simp⟩) hHeld ?_
    simp only [Act.put, List.setIfInBounds_toArray, List.set_cons_zero, List.set_cons_succ]
    refine rg_take (i := 15) (v := (.pointer (some ⟨w.heap.size + 1, 64, none⟩))) (some 30) rfl rfl (by kernel_rfl) (by kernel_rfl) (by kernel_rfl) (fun _ _ _ h => h) (Or.inl ⟨by rfl, fun _ _ => by go_simp⟩) hHeld ?_
    simp only [Act.put, List.setIfInBounds_toArray, List.set_cons_zero, List.set_cons_succ]
    refine rg_take (i := 16) (v := (.int .i64 q.t)) (some 31) rfl rfl (by kernel_rfl) (by kernel_rfl) (by kernel_rfl) (fun _ _ _ h => h) (Or.inl ⟨by rfl, fun w' h => by have h' := kept_cell h (HQ3.out.turn); go_simp⟩) hHeld ?_
    simp only [Act.put, List.setIfInBounds_toArray, List.set_cons_zero, List.set_cons_succ]
    refine rg_take (i := 17) (v := (.bool bt)) (some 32) rfl rfl (by kernel_rfl) (by kernel_rfl) (by kernel_rfl) (fun _ _ _ h => h) (Or.inl ⟨by rfl, fun _ _ => by go_simp⟩) hHeld ?_
    simp only [Act.put, List.setIfInBounds_toArray, List.set_cons_zero, List.set_cons_succ]
    refine rg_take (i := 18) (v := (.bool bt)) (some 33) rfl rfl (by kernel_rfl) (by kernel_rfl) (by kernel_rfl) (fun _ _ _ h => h) (Or.inl ⟨by rfl, fun _ _ => by go_simp⟩) hHeld ?_
    simp only [Act.put, List.setIfInBounds_toArray, List.set_cons_zero, List.set_cons_succ]
    refine rg_take (i := 19) (v := (.bool true)) (some 34) rfl rfl (by kernel_rfl) (by kernel_rfl) (by kernel_rfl) (fun _ _ _ h => h) (Or.inl ⟨by rfl, fun _ _ => by go_simp⟩) hHeld ?_
    simp only [Act.put, List.setIfInBounds_toArray, List.set_cons_zero, List.set_cons_succ]
    refine rg_take (i := 20) (v := (.bool true)) (some 35) rfl rfl (by kernel_rfl) (by kernel_rfl) (by kernel_rfl) (fun _ _ _ h => h) (Or.inl ⟨by rfl, fun _ _ => by go_simp⟩) hHeld ?_
    simp only [Act.put, List.setIfInBounds_toArray, List.set_cons_zero, List.set_cons_succ]
    refine rg_take (i := 21) (v := (.bool true)) (some 36) rfl rfl (by kernel_rfl) (by kernel_rfl) (by kernel_rfl) (fun _ _ _ h => h) (Or.inl ⟨by rfl, fun _ _ => by go_simp⟩) hHeld ?_
    simp only [Act.put, List.setIfInBounds_toArray, List.set_cons_zero, List.set_cons_succ]
    refine wpAnyH_ready (rs := [22]) (by kernel_rfl) (by simp) ?_
    refine AllReadyH.cons rfl (fun K hK => ?_) AllReadyH.nil
    go_simp
    refine (pfirst_is _).mono ?_
    rintro e x3 ⟨rfl, gx3⟩
    refine hK.out _ _ (hHeld.trans gx3) (fun _ => ?_)
    replace hHeld := hHeld.trans gx3
    clear hK K
    refine wpAnyH_ready (rs := [23]) (by kernel_rfl) (by simp) ?_
    refine AllReadyH.cons rfl (fun K hK => ?_) AllReadyH.nil
    go_simp
    refine (pwrong_first _ (HT3.out.kept hHeld)).mono ?_
    rintro e x4 ⟨rfl, gx4⟩
    refine hK.out _ _ (hHeld.trans gx4) (fun _ => ?_)
    replace hHeld := hHeld.trans gx4
    clear hK K
    refine rg_take (i := 24) (v := (.bool true)) (some 39) rfl rfl (by kernel_rfl) (by kernel_rfl) (by kernel_rfl) (fun _ _ _ h => h) (Or.inl ⟨by rfl, fun _ _ => by go_simp⟩) hHeld ?_
    simp only [Act.put, List.setIfInBounds_toArray, List.set_cons_zero, List.set_cons_succ]
    refine rg_take (i := 25) (v := (.bool true)) (some 40) rfl rfl (by kernel_rfl) (by kernel_rfl) (by kernel_rfl) (fun _ _ _ h => h) (Or.inl ⟨by rfl, fun _ _ => by go_simp⟩) hHeld ?_
    simp only [Act.put, List.setIfInBounds_toArray, List.set_cons_zero, List.set_cons_succ]
    refine rg_take (i := 26) (v := (.bool true)) (some 41) rfl rfl (by kernel_rfl) (by kernel_rfl) (by kernel_rfl) (fun _ _ _ h => h) (Or.inl ⟨by rfl, fun _ _ => by go_simp⟩) hHeld ?_
    simp only [Act.put, List.setIfInBounds_toArray, List.set_cons_zero, List.set_cons_succ]
    refine wpAnyH_ready (rs := [27]) (by kernel_rfl) (by simp) ?_
    refine AllReadyH.cons rfl (fun K hK => ?_) AllReadyH.nil
    go_simp
    refine (pfirst_is _).mono ?_
    rintro e x5 ⟨rfl, gx5⟩
    refine hK.out _ _ (hHeld.trans gx5) (fun _ => ?_)
    replace hHeld := hHeld.trans gx5
    clear hK K
    refine rg_take (i := 28) (v := (.int .i64 15)) (some 43) rfl rfl (by kernel_rfl) (by kernel_rfl) (by kernel_rfl) (fun _ _ _ h => h) (Or.inl ⟨by rfl, fun _ _ => by go_simp⟩) hHeld ?_
    simp only [Act.put, List.setIfInBounds_toArray, List.set_cons_zero, List.set_cons_succ]
    refine rg_take (i := 29) (v := (.bool true)) (some 44) rfl rfl (by kernel_rfl) (by kernel_rfl) (by kernel_rfl) (fun _ _ _ h => h) (Or.inl ⟨by rfl, fun _ _ => by go_simp⟩) hHeld ?_
    simp only [Act.put, List.setIfInBounds_toArray, List.set_cons_zero, List.set_cons_succ]
    refine rg_take (i := 30) (v := (.bool true)) (some 45) rfl rfl (by kernel_rfl) (by kernel_rfl) (by kernel_rfl) (fun _ _ _ h => h) (Or.inl ⟨by rfl, fun _ _ => by go_simp⟩) hHeld ?_
    simp only [Act.put, List.setIfInBounds_toArray, List.set_cons_zero, List.set_cons_succ]
    refine rg_take (i := 31) (v := (.bool true)) (some 46) rfl rfl (by kernel_rfl) (by kernel_rfl) (by kernel_rfl) (fun _ _ _ h => h) (Or.inl ⟨by rfl, fun _ _ => by go_simp⟩) hHeld ?_
    simp only [Act.put, List.setIfInBounds_toArray, List.set_cons_zero, List.set_cons_succ]
    refine wpAnyH_ready (rs := [32]) (by kernel_rfl) (by simp) ?_
    refine AllReadyH.cons rfl (fun K hK => ?_) AllReadyH.nil
    go_simp
    refine (pfirst_is _).mono ?_
    rintro e x6 ⟨rfl, gx6⟩
    refine hK.out _ _ (hHeld.trans gx6) (fun _ => ?_)
    replace hHeld := hHeld.trans gx6
    clear hK K
    refine rg_take (i := 33) (v := (.agg (cl Fb).toArray)) (some 48) rfl rfl (by kernel_rfl) (by kernel_rfl) (by kernel_rfl) (fun _ _ _ h => h) (Or.inl ⟨by rfl, fun _ _ => by go_simp⟩) hHeld ?_
    simp only [Act.put, List.setIfInBounds_toArray, List.set_cons_zero, List.set_cons_succ]
    refine wpAnyH_ready (rs := [34]) (by kernel_rfl) (by simp) ?_
    refine AllReadyH.cons rfl (fun K hK => ?_) AllReadyH.nil
    go_simp
    refine (rwrong_first _).mono ?_
    rintro e x7 ⟨rfl, gx7⟩
    refine hK.out _ _ (hHeld.trans gx7) (fun _ => ?_)
    replace hHeld := hHeld.trans gx7
    clear hK K
    refine rg_take (i := 35) (v := (.bool true)) (some 50) rfl rfl (by kernel_rfl) (by kernel_rfl) (by kernel_rfl) (fun _ _ _ h => h) (Or.inl ⟨by rfl, fun _ _ => by go_simp⟩) hHeld ?_
    simp only [Act.put, List.setIfInBounds_toArray, List.set_cons_zero, List.set_cons_succ]
    refine rg_take (i := 36) (v := (.bool true)) (some 51) rfl rfl (by kernel_rfl) (by kernel_rfl) (by kernel_rfl) (fun _ _ _ h => h) (Or.inl ⟨by rfl, fun _ _ => by go_simp⟩) hHeld ?_
    simp only [Act.put, List.setIfInBounds_toArray, List.set_cons_zero, List.set_cons_succ]
    refine rg_take (i := 37) (v := (.bool true)) (some 6) rfl rfl (by kernel_rfl) (by kernel_rfl) (by kernel_rfl) (fun _ _ _ h => h) (Or.inl ⟨by rfl, fun _ _ => by go_simp⟩) hHeld ?_
    simp only [Act.put, List.setIfInBounds_toArray, List.set_cons_zero, List.set_cons_succ]
    refine wpAnyH_done (by kernel_rfl) ?_ _
    go_wp2
    go_ret
    exact ⟨rfl, HK3.out.trans hHeld⟩
end Go.Proofs.YthoknnckbllpnaaDoor
