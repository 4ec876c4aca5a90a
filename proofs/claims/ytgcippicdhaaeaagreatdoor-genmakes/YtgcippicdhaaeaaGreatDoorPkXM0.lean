/- BoN · PoA · PoH · MvB · MvD · MvF · MvG · MvM · MvO · GeN · GeR: my texts, in their order. -/
import Derived.Test.YtgcippicdhaaeaaGreatDoorPkXFMTA0
import Derived.Test.YtgcippicdhaaeaaGreatDoorPkXNFM0
import Derived.Test.YtgcippicdhaaeaaGreatDoorPkXFMT0
import Derived.Test.YtgcippicdhaaeaaGreatDoorPkXMT0
import Derived.Test.YtgcippicdhaaeaaGreatDoorPkA
import Derived.Test.YtgcippicdhaaeaaGreatDoorPkB
import Derived.Test.YtgcippicdhaaeaaGreatDoorPkC
import Derived.Test.YtgcippicdhaaeaaGreatDoorPkD
import Derived.Test.YtgcippicdhaaeaaGreatDoorPkE
import Derived.Test.YtgcippicdhaaeaaGreatDoorPkF
import Derived.Test.YtgcippicdhaaeaaGreatDoorPkGa
import Derived.Test.YtgcippicdhaaeaaGreatDoorPkGb
import Derived.Test.YtgcippicdhaaeaaGreatDoorPkGc
import Derived.Test.YtgcippicdhaaeaaGreatDoorPkGd
import Derived.Test.YtgcippicdhaaeaaGreatDoorPkGe
import Derived.Test.YtgcippicdhaaeaaGreatDoorPkGw
import Derived.Test.YtgcippicdhaaeaaGreatDoorPkH
import Derived.Test.YtgcippicdhaaeaaGreatDoorPkI
import Derived.Test.YtgcippicdhaaeaaGreatDoorPkJ
import Derived.Test.YtgcippicdhaaeaaGreatDoorPkK
import Derived.Test.YtgcippicdhaaeaaGreatDoorPkL
import Derived.Test.YtgcippicdhaaeaaGreatDoorPkM
import Derived.Test.YtgcippicdhaaeaaGreatDoorPkR
import Derived.Test.YtgcippicdhaaeaaGreatDoorPkU
import Derived.Laws.StructEq
import Derived.Deep.Cut
namespace Go.Proofs.YtgcippicdhaaeaaGreatDoor
open Go.RowKit
set_option linter.unusedVariables false
set_option linter.unusedSimpArgs false
set_option maxRecDepth 100000

theorem Zb_len : Zb.length = 64 := Zb_brd.1
/-- A whole board into the variable that was laid last. -/
theorem wpList_store_new {ops : Array Oper} {rest : List Oper} {o : Oper} {a : Act} {w : World} {Q : Exit → Act → World → Prop} (hgd : o.guard = none) (x y : Operand) (ho : o.op = .store 24 x y)
    (A B : List Int) (hA : A.length = 64) (hB : B.length = 64) (hx : a.eval x = .pointer (some ⟨w.heap.size, 0, none⟩)) (hy : a.eval y = .agg (cl B).toArray)
    (h : wpList Tryz.prog ops Q rest (a.put o.dst undef) (w.alloc (.cells (cl B).toArray 24))) : wpList Tryz.prog ops Q (o :: rest) a (w.alloc (.cells (cl A).toArray 24)) := by
  refine wpList_store_row hgd 24 x y ho w.heap.size (cl B).toArray hx hy 24 _ (heap_alloc_new w _) (size_cl hB) (by rw [cl_size _ hA, cl_size _ hB]) (cl_one _) ?_
  rw [World.setRow_alloc_new]
  exact h
end Go.Proofs.YtgcippicdhaaeaaGreatDoor
namespace Go.Proofs.YtgcippicdhaaeaaGreatDoor
open Go.RowKit
set_option linter.unusedVariables false
set_option linter.unusedSimpArgs false

/-- A whole position into the variable that was laid last. -/
theorem wpList_store_newp {ops : Array Oper} {rest : List Oper} {o : Oper} {a : Act} {w : World} {Q : Exit → Act → World → Prop} (hgd : o.guard = none) (x y : Operand) (ho : o.op = .store 26 x y)
    (p q : Ps) (hp : p.B.length = 64) (hq : q.B.length = 64) (hx : a.eval x = .pointer (some ⟨w.heap.size, 0, none⟩)) (hy : a.eval y = .agg (pl q).toArray)
    (h : wpList Tryz.prog ops Q rest (a.put o.dst undef) (w.alloc (.cells (pl q).toArray 26))) : wpList Tryz.prog ops Q (o :: rest) a (w.alloc (.cells (pl p).toArray 26)) := by
  refine wpList_store_row hgd 26 x y ho w.heap.size (pl q).toArray hx hy 26 _ (heap_alloc_new w _) (size_pl hq) (by rw [pl_size hp, pl_size hq]) (pl_one _) ?_
  rw [World.setRow_alloc_new]
  exact h
end Go.Proofs.YtgcippicdhaaeaaGreatDoor
namespace Go.Proofs.YtgcippicdhaaeaaGreatDoor
open Go.RowKit
set_option linter.unusedVariables false
set_option maxRecDepth 100000
set_option linter.unusedSimpArgs false

theorem results_pos_tmp {fn : Func} {s t : Tmp} (h : fn.results = #[.cell s 26, .tmp t]) (tmps : Array Value) {w : World} {g : Nat} {p : Ps}
    (hp : tmps.getD s undef = .pointer (some ⟨g, 0, none⟩)) (hg : PAt w g p) : (results fn tmps).run Tryz.prog w = .ok (.tuple #[.agg (pl p).toArray, tmps.getD t undef]) w := by
  have hp' : tmps[s]?.getD undef = .pointer (some ⟨g, 0, none⟩) := by simpa using hp
  have hl : (loadVar 26 ⟨g, 0, none⟩).run Tryz.prog w = .ok (.agg (pl p).toArray) w := run_loadVar_row w g _ _ (pl p).toArray (0, 0) _ hg.at_ Tryz.underlying26 rfl (size_pl hg.len)
  simp [results, h, hp', asAddr, hl]
end Go.Proofs.YtgcippicdhaaeaaGreatDoor
namespace Go.Proofs.YtgcippicdhaaeaaGreatDoor
open Go.RowKit
set_option linter.unusedVariables false
set_option linter.unusedSimpArgs false
set_option maxRecDepth 100000

theorem mid_is (m : Mv) (ho : On m) (w : World) : Calls Tryz.prog 73 #[.agg (ml m).toArray] w fun e w' => e = .returned (.int .i64 ((m.f + m.t) / 2)) ∧ Kept w w' := by
  obtain ⟨f0, f1, t0, t1⟩ := ho
  have HM := Lib.hid (MAt.new w m)
  have cf := HM.out.f
  have ct := HM.out.t
  have e1 : IntKind.i64.wrap (m.f + m.t) = m.f + m.t := IntWalk.i64_in _ (by omega)
  have e2 : IntKind.i64.wrap ((m.f + m.t).tdiv 2) = (m.f + m.t) / 2 := by
    rw [Int.tdiv_eq_ediv_of_nonneg (by omega)]; exact IntWalk.i64_in _ (by omega)
  go_enter Tryz.func73, Tryz.ntmps73
  go_wp2
  go_ret
  exact ⟨rfl, (Kept.refl _).alloc _⟩
theorem mtouches_is (m : Mv) (s : Int) (w : World) : Calls Tryz.prog 75 #[.agg (ml m).toArray, .int .i64 s] w fun e w' => e = .returned (.bool ((m.f == s) || (m.t == s))) ∧ Kept w w' := by
  have HM := Lib.hid (MAt.new w m)
  have cf := HM.out.f
  have ct := HM.out.t
  cases h1 : (m.f == s)
  · go_enter Tryz.func75, Tryz.ntmps75
    go_wp2
    go_ret
    exact ⟨rfl, (Kept.refl _).alloc _⟩
  · go_enter Tryz.func75, Tryz.ntmps75
    go_wp2
    go_ret
    exact ⟨rfl, (Kept.refl _).alloc _⟩
theorem pawn_is (p : Ps) (hB : Brd p.B) (m : Mv) (f0 : 0 ≤ m.f) (f1 : m.f < 64) (w : World) : Calls Tryz.prog 77 #[.agg (pl p).toArray, .agg (ml m).toArray] w fun e w' => e = .returned (.bool (pawnB p m)) ∧ Kept w w' := by
  have HP : Hid (PAt _ _ p) := ⟨hB.1, heap_alloc2_old w (.cells (pl p).toArray 26) (.cells (ml m).toArray 35)⟩
  have HM : Hid (MAt _ _ m) := ⟨heap_alloc2_new w (.cells (pl p).toArray 26) (.cells (ml m).toArray 35)⟩
  have HK0 := Lib.hid (((Kept.refl w).alloc (.cells (pl p).toArray 26)).alloc (.cells (ml m).toArray 35))
  have cf := HM.out.f
  have HC := Lib.hid (man_at p.B hB m.f f0 f1)
  have HV : Hid (pawnB p m = (kindI (bAt p.B m.f) == 1)) := by rfl
  generalize bAt p.B m.f = x at *
  clear hB f0 f1
  go_enter Tryz.func77, Tryz.ntmps77
  go_wp2_with (first | (refine wpList_load_ps (by rfl) _ rfl _ rfl _ (HP.out) ?_) | (refine wpList_load_pb (by rfl) _ rfl _ rfl _ (HP.out) ?_) | (refine wpList_load_mv (by rfl) _ rfl _ rfl _ (HM.out) ?_))
  refine (HC.out _).mono ?_
  rintro e w1 ⟨rfl, k1⟩
  have HK1 := Lib.hid (HK0.out.trans k1)
  clear k1 cf
  go_wp2_with fail
  refine (mkind_k _ _).mono ?_
  rintro e w2 ⟨rfl, k2⟩
  have HK2 := Lib.hid (HK1.out.trans k2)
  clear k2
  go_wp2
  go_ret
  exact ⟨by rw [HV.out]; rfl, HK2.out⟩
end Go.Proofs.YtgcippicdhaaeaaGreatDoor
namespace Go.Proofs.YtgcippicdhaaeaaGreatDoor
open Go.RowKit
set_option linter.unusedVariables false
set_option linter.unusedSimpArgs false
set_option maxRecDepth 100000

theorem file_k (s : Int) (w : World) (h0 : 0 ≤ s) (h1 : s < 64) : Calls Tryz.prog 76 #[.int .i64 s] w fun e w' => e = .returned (.int .i64 (s % 8)) ∧ Kept w w' :=
  (file_yes s w h0 h1).mono fun _ _ ⟨a, b⟩ => ⟨a, b ▸ Kept.refl _⟩
theorem far_k (a b : Int) (w : World) (a0 : 0 ≤ a) (a1 : a < 64) (b0 : 0 ≤ b) (b1 : b < 64) : Calls Tryz.prog 78 #[.int .i64 a, .int .i64 b] w fun e w' => e = .returned (.int .i64 (farI a b)) ∧ Kept w w' :=
  (far_yes a b w a0 a1 b0 b1).mono fun _ _ ⟨x, y⟩ => ⟨x, y ▸ Kept.refl _⟩
theorem take_off {p : Ps} {m : Mv} (h : takeI p m = -1) : takeS p m = 0 ∧ takeB p m = false := by unfold takeS takeB; rw [h]; decide
theorem take_on {p : Ps} {m : Mv} {s : Int} (h : takeI p m = s) (h0 : 0 ≤ s) : takeS p m = s ∧ takeB p m = true := by unfold takeS takeB; rw [h, if_pos h0]; simpa using h0
theorem take_pass {p : Ps} {m : Mv} (h : takeI p m = passI p) : takeS p m = passS p ∧ takeB p m = passB p := by unfold takeS takeB passS passB; rw [h]; exact ⟨rfl, rfl⟩
set_option maxHeartbeats 2000000 in
theorem taken0 (p : Ps) (hB : Brd p.B) (m : Mv) (ho : On m) (h0 : bAt p.B m.t ≠ 0) (w : World) (hT : TabM w) :
    Calls Tryz.prog 71 #[.agg (pl p).toArray, .agg (ml m).toArray] w fun e w' => e = .returned (.tuple #[.int .i64 (takeS p m), .bool (takeB p m)]) ∧ Kept w w' := by
  obtain ⟨f0, f1, t0, t1⟩ := ho
  have HP : Hid (PAt _ _ p) := ⟨hB.1, heap_alloc2_old w (.cells (pl p).toArray 26) (.cells (ml m).toArray 35)⟩
  have HM : Hid (MAt _ _ m) := ⟨heap_alloc2_new w (.cells (pl p).toArray 26) (.cells (ml m).toArray 35)⟩
  have HK0 := Lib.hid (((Kept.refl w).alloc (.cells (pl p).toArray 26)).alloc (.cells (ml m).toArray 35))
  have HT := Lib.hid (hT.kept HK0.out)
  have hpl : Hid (p.B.length = 64) := hB.1
  have HB := Lib.hid hB
  have ct := HM.out.t
  have HC := Lib.hid (man_at p.B hB m.t t0 t1)
  have HPw := Lib.hid (fun w => pawn_is p hB m f0 f1 w)
  have HF1 := Lib.hid (fun w => file_k m.f w f0 f1)
  have HF2 := Lib.hid (fun w => file_k m.t w t0 t1)
  have HPs := Lib.hid (fun w h => passed_is p hB w h)
  have HV := Lib.hid (take_on (p := p) (m := m) (s := m.t) (by unfold takeI; rw [if_pos h0]) t0)
  have hb : (bAt p.B m.t != 0) = true := bne_iff_ne.2 h0
  generalize bAt p.B m.t = x at *
  clear hB hT f0 f1 t0 t1
  go_enter Tryz.func71, Tryz.ntmps71
  go_wp2_with (first | (refine wpList_load_ps (by rfl) _ rfl _ rfl _ (HP.out) ?_) | (refine wpList_load_pb (by rfl) _ rfl _ rfl _ (HP.out) ?_) | (refine wpList_load_mv (by rfl) _ rfl _ rfl _ (HM.out) ?_))
  refine (HC.out _).mono ?_
  rintro e w1 ⟨rfl, k1⟩
  have HK1 := Lib.hid (HK0.out.trans k1)
  have HP1 := Lib.hid (HP.out.kept k1)
  have HM1 := Lib.hid (MAt.kept HM.out k1)
  have HT1 := Lib.hid (HT.out.kept k1)
  clear k1 ct
  have ct := HM1.out.t
  go_wp2
  go_ret2
  exact ⟨by rw [HV.out.1, HV.out.2]; rfl, HK1.out⟩
set_option maxHeartbeats 2000000 in
theorem taken1 (p : Ps) (hB : Brd p.B) (m : Mv) (ho : On m) (h0 : bAt p.B m.t = 0) (h1 : pawnB p m = false) (w : World) (hT : TabM w) :
    Calls Tryz.prog 71 #[.agg (pl p).toArray, .agg (ml m).toArray] w fun e w' => e = .returned (.tuple #[.int .i64 (takeS p m), .bool (takeB p m)]) ∧ Kept w w' := by
  obtain ⟨f0, f1, t0, t1⟩ := ho
  have HP : Hid (PAt _ _ p) := ⟨hB.1, heap_alloc2_old w (.cells (pl p).toArray 26) (.cells (ml m).toArray 35)⟩
  have HM : Hid (MAt _ _ m) := ⟨heap_alloc2_new w (.cells (pl p).toArray 26) (.cells (ml m).toArray 35)⟩
  have HK0 := Lib.hid (((Kept.refl w).alloc (.cells (pl p).toArray 26)).alloc (.cells (ml m).toArray 35))
  have HT := Lib.hid (hT.kept HK0.out)
  have hpl : Hid (p.B.length = 64) := hB.1
  have HB := Lib.hid hB
  have ct := HM.out.t
  have HC := Lib.hid (man_at p.B hB m.t t0 t1)
  have HPw := Lib.hid (fun w => pawn_is p hB m f0 f1 w)
  have HF1 := Lib.hid (fun w => file_k m.f w f0 f1)
  have HF2 := Lib.hid (fun w => file_k m.t w t0 t1)
  have HPs := Lib.hid (fun w h => passed_is p hB w h)
  rw [h0] at HC
  rw [h1] at HPw
  have HV := Lib.hid (take_off (p := p) (m := m) (by unfold takeI epTake; rw [if_neg (by simpa using h0), if_neg (by simp [h1])]))
  clear hB hT f0 f1 t0 t1
  go_enter Tryz.func71, Tryz.ntmps71
  go_wp2_with (first | (refine wpList_load_ps (by rfl) _ rfl _ rfl _ (HP.out) ?_) | (refine wpList_load_pb (by rfl) _ rfl _ rfl _ (HP.out) ?_) | (refine wpList_load_mv (by rfl) _ rfl _ rfl _ (HM.out) ?_))
  refine (HC.out _).mono ?_
  rintro e w1 ⟨rfl, k1⟩
  have HK1 := Lib.hid (HK0.out.trans k1)
  have HP1 := Lib.hid (HP.out.kept k1)
  have HM1 := Lib.hid (MAt.kept HM.out k1)
  have HT1 := Lib.hid (HT.out.kept k1)
  clear k1 ct
  go_wp2
  refine wp_region_held_drew (S := Kept _) (by kernel_rfl) (Kept.refl _).drew (fun hHeld => ?_)
  refine rg_take (i := 0) (some 16) rfl rfl (by kernel_rfl) (by kernel_rfl) (by kernel_rfl) (fun _ _ _ h => h) (take_load_ps (by rfl) _ rfl _ rfl p hpl.out (fun _ h => (HP1.out).kept h)) hHeld ?_
  simp only [Act.put, List.setIfInBounds_toArray, List.set_cons_zero, List.set_cons_succ]
  refine rg_take (i := 1) (some 17) rfl rfl (by kernel_rfl) (by kernel_rfl) (by kernel_rfl) (fun _ _ _ h => h) (take_load_mv (by rfl) _ rfl _ rfl m (fun _ h => MAt.kept (HM1.out) h)) hHeld ?_
  simp only [Act.put, List.setIfInBounds_toArray, List.set_cons_zero, List.set_cons_succ]
  refine wpAnyH_ready (rs := [2]) (by kernel_rfl) (by simp) ?_
  refine AllReadyH.cons rfl (fun K hK => ?_) AllReadyH.nil
  go_simp
  refine (HPw.out _).mono ?_
  rintro e w2 ⟨rfl, gw2⟩
  refine hK.out _ _ (hHeld.trans gw2) (fun _ => ?_)
  replace hHeld := hHeld.trans gw2
  clear hK K
  refine rg_take (i := 3) (v := (.bool false)) (some 19) rfl rfl (by kernel_rfl) (by kernel_rfl) (by kernel_rfl) (fun _ _ _ h => h) (Or.inl ⟨by rfl, fun _ _ => by go_simp⟩) hHeld ?_
  simp only [Act.put, List.setIfInBounds_toArray, List.set_cons_zero, List.set_cons_succ]
  refine rg_take (i := 4) (some 20) rfl rfl (by kernel_rfl) (by kernel_rfl) (by kernel_rfl) (fun _ _ _ h => h) (Or.inr ⟨by rfl, rfl⟩) hHeld ?_
  simp only [Act.put, List.setIfInBounds_toArray, List.set_cons_zero, List.set_cons_succ]
  refine rg_take (i := 5) (some 21) rfl rfl (by kernel_rfl) (by kernel_rfl) (by kernel_rfl) (fun _ _ _ h => h) (Or.inr ⟨by rfl, rfl⟩) hHeld ?_
  simp only [Act.put, List.setIfInBounds_toArray, List.set_cons_zero, List.set_cons_succ]
  refine rg_take (i := 6) (some 22) rfl rfl (by kernel_rfl) (by kernel_rfl) (by kernel_rfl) (fun _ _ _ h => h) (Or.inr ⟨by rfl, rfl⟩) hHeld ?_
  simp only [Act.put, List.setIfInBounds_toArray, List.set_cons_zero, List.set_cons_succ]
  refine rg_take (i := 7) (some 23) rfl rfl (by kernel_rfl) (by kernel_rfl) (by kernel_rfl) (fun _ _ _ h => h) (Or.inr ⟨by rfl, rfl⟩) hHeld ?_
  simp only [Act.put, List.setIfInBounds_toArray, List.set_cons_zero, List.set_cons_succ]
  refine rg_take (i := 8) (some 24) rfl rfl (by kernel_rfl) (by kernel_rfl) (by kernel_rfl) (fun _ _ _ h => h) (Or.inr ⟨by rfl, rfl⟩) hHeld ?_
  simp only [Act.put, List.setIfInBounds_toArray, List.set_cons_zero, List.set_cons_succ]
  refine rg_take (i := 9) (v := (.bool false)) (some 25) rfl rfl (by kernel_rfl) (by kernel_rfl) (by kernel_rfl) (fun _ _ _ h => h) (Or.inl ⟨by rfl, fun _ _ => by go_simp⟩) hHeld ?_
  simp only [Act.put, List.setIfInBounds_toArray, List.set_cons_zero, List.set_cons_succ]
  refine rg_take (i := 10) (v := (.bool false)) (some 26) rfl rfl (by kernel_rfl) (by kernel_rfl) (by kernel_rfl) (fun _ _ _ h => h) (Or.inl ⟨by rfl, fun _ _ => by go_simp⟩) hHeld ?_
  simp only [Act.put, List.setIfInBounds_toArray, List.set_cons_zero, List.set_cons_succ]
  refine rg_take (i := 11) (some 27) rfl rfl (by kernel_rfl) (by kernel_rfl) (by kernel_rfl) (fun _ _ _ h => h) (Or.inr ⟨by rfl, rfl⟩) hHeld ?_
  simp only [Act.put, List.setIfInBounds_toArray, List.set_cons_zero, List.set_cons_succ]
  refine rg_take (i := 12) (some 28) rfl rfl (by kernel_rfl) (by kernel_rfl) (by kernel_rfl) (fun _ _ _ h => h) (Or.inr ⟨by rfl, rfl⟩) hHeld ?_
  simp only [Act.put, List.setIfInBounds_toArray, List.set_cons_zero, List.set_cons_succ]
  refine rg_take (i := 13) (some 29) rfl rfl (by kernel_rfl) (by kernel_rfl) (by kernel_rfl) (fun _ _ _ h => h) (Or.inr ⟨by rfl, rfl⟩) hHeld ?_
  simp only [Act.put, List.setIfInBounds_toArray, List.set_cons_zero, List.set_cons_succ]
  refine rg_take (i := 14) (some 30) rfl rfl (by kernel_rfl) (by kernel_rfl) (by kernel_rfl) (fun _ _ _ h => h) (Or.inr ⟨by rfl, rfl⟩) hHeld ?_
  simp only [Act.put, List.setIfInBounds_toArray, List.set_cons_zero, List.set_cons_succ]
  refine rg_take (i := 15) (some 31) rfl rfl (by kernel_rfl) (by kernel_rfl) (by kernel_rfl) (fun _ _ _ h => h) (Or.inr ⟨by rfl, rfl⟩) hHeld ?_
  simp only [Act.put, List.setIfInBounds_toArray, List.set_cons_zero, List.set_cons_succ]
  refine rg_take (i := 16) (some 32) rfl rfl (by kernel_rfl) (by kernel_rfl) (by kernel_rfl) (fun _ _ _ h => h) (Or.inr ⟨by rfl, rfl⟩) hHeld ?_
  simp only [Act.put, List.setIfInBounds_toArray, List.set_cons_zero, List.set_cons_succ]
  refine rg_take (i := 17) (some 33) rfl rfl (by kernel_rfl) (by kernel_rfl) (by kernel_rfl) (fun _ _ _ h => h) (Or.inr ⟨by rfl, rfl⟩) hHeld ?_
  simp only [Act.put, List.setIfInBounds_toArray, List.set_cons_zero, List.set_cons_succ]
  refine rg_take (i := 18) (v := (.bool false)) (some 34) rfl rfl (by kernel_rfl) (by kernel_rfl) (by kernel_rfl) (fun _ _ _ h => h) (Or.inl ⟨by rfl, fun _ _ => by go_simp⟩) hHeld ?_
  simp only [Act.put, List.setIfInBounds_toArray, List.set_cons_zero, List.set_cons_succ]
  refine rg_take (i := 19) (v := (.bool false)) (some 15) rfl rfl (by kernel_rfl) (by kernel_rfl) (by kernel_rfl) (fun _ _ _ h => h) (Or.inl ⟨by rfl, fun _ _ => by go_simp⟩) hHeld ?_
  simp only [Act.put, List.setIfInBounds_toArray, List.set_cons_zero, List.set_cons_succ]
  refine wpAnyH_done (by kernel_rfl) ?_ _
  go_wp2
  go_ret2
  exact ⟨by rw [HV.out.1, HV.out.2]; rfl, HK1.out.trans hHeld⟩
set_option maxHeartbeats 2000000 in
theorem taken2 (p : Ps) (hB : Brd p.B) (m : Mv) (ho : On m) (h0 : bAt p.B m.t = 0) (h1 : pawnB p m = true) (h2 : (m.t == p.e) = false) (w : World) (hT : TabM w) :
    Calls Tryz.prog 71 #[.agg (pl p).toArray, .agg (ml m).toArray] w fun e w' => e = .returned (.tuple #[.int .i64 (takeS p m), .bool (takeB p m)]) ∧ Kept w w' := by
  obtain ⟨f0, f1, t0, t1⟩ := ho
  have HP : Hid (PAt _ _ p) := ⟨hB.1, heap_alloc2_old w (.cells (pl p).toArray 26) (.cells (ml m).toArray 35)⟩
  have HM : Hid (MAt _ _ m) := ⟨heap_alloc2_new w (.cells (pl p).toArray 26) (.cells (ml m).toArray 35)⟩
  have HK0 := Lib.hid (((Kept.refl w).alloc (.cells (pl p).toArray 26)).alloc (.cells (ml m).toArray 35))
  have HT := Lib.hid (hT.kept HK0.out)
  have hpl : Hid (p.B.length = 64) := hB.1
  have HB := Lib.hid hB
  have ct := HM.out.t
  have HC := Lib.hid (man_at p.B hB m.t t0 t1)
  have HPw := Lib.hid (fun w => pawn_is p hB m f0 f1 w)
  have HF1 := Lib.hid (fun w => file_k m.f w f0 f1)
  have HF2 := Lib.hid (fun w => file_k m.t w t0 t1)
  have HPs := Lib.hid (fun w h => passed_is p hB w h)
  rw [h0] at HC
  rw [h1] at HPw
  have HV := Lib.hid (take_off (p := p) (m := m) (by unfold takeI epTake; rw [if_neg (by simpa using h0), if_neg (by simp [h1, h2])]))
  clear hB hT f0 f1 t0 t1
  go_enter Tryz.func71, Tryz.ntmps71
  go_wp2_with (first | (refine wpList_load_ps (by rfl) _ rfl _ rfl _ (HP.out) ?_) | (refine wpList_load_pb (by rfl) _ rfl _ rfl _ (HP.out) ?_) | (refine wpList_load_mv (by rfl) _ rfl _ rfl _ (HM.out) ?_))
  refine (HC.out _).mono ?_
  rintro e w1 ⟨rfl, k1⟩
  have HK1 := Lib.hid (HK0.out.trans k1)
  have HP1 := Lib.hid (HP.out.kept k1)
  have HM1 := Lib.hid (MAt.kept HM.out k1)
  have HT1 := Lib.hid (HT.out.kept k1)
  clear k1 ct
  go_wp2
  refine wp_region_held_drew (S := Kept _) (by kernel_rfl) (Kept.refl _).drew (fun hHeld => ?_)
  refine rg_take (i := 0) (some 16) rfl rfl (by kernel_rfl) (by kernel_rfl) (by kernel_rfl) (fun _ _ _ h => h) (take_load_ps (by rfl) _ rfl _ rfl p hpl.out (fun _ h => (HP1.out).kept h)) hHeld ?_
  simp only [Act.put, List.setIfInBounds_toArray, List.set_cons_zero, List.set_cons_succ]
  refine rg_take (i := 1) (some 17) rfl rfl (by kernel_rfl) (by kernel_rfl) (by kernel_rfl) (fun _ _ _ h => h) (take_load_mv (by rfl) _ rfl _ rfl m (fun _ h => MAt.kept (HM1.out) h)) hHeld ?_
  simp only [Act.put, List.setIfInBounds_toArray, List.set_cons_zero, List.set_cons_succ]
  refine wpAnyH_ready (rs := [2]) (by kernel_rfl) (by simp) ?_
  refine AllReadyH.cons rfl (fun K hK => ?_) AllReadyH.nil
  go_simp
  refine (HPw.out _).mono ?_
  rintro e w2 ⟨rfl, gw2⟩
  refine hK.out _ _ (hHeld.trans gw2) (fun _ => ?_)
  replace hHeld := hHeld.trans gw2
  clear hK K
  refine rg_take (i := 3) (v := (.bool true)) (some 19) rfl rfl (by kernel_rfl) (by kernel_rfl) (by kernel_rfl) (fun _ _ _ h => h) (Or.inl ⟨by rfl, fun _ _ => by go_simp⟩) hHeld ?_
  simp only [Act.put, List.setIfInBounds_toArray, List.set_cons_zero, List.set_cons_succ]
  refine rg_take (i := 4) (v := (.pointer (some ⟨w.heap.size + 1, 1, none⟩))) (some 20) rfl rfl (by kernel_rfl) (by kernel_rfl) (by kernel_rfl) (fun _ _ _ h => h) (Or.inl ⟨by rfl, fun _ _ => by go_simp⟩) hHeld ?_
  simp only [Act.put, List.setIfInBounds_toArray, List.set_cons_zero, List.set_cons_succ]
  refine rg_take (i := 5) (v := (.int .i64 m.t)) (some 21) rfl rfl (by kernel_rfl) (by kernel_rfl) (by kernel_rfl) (fun _ _ _ h => h) (Or.inl ⟨by rfl, fun w' h => by have h' := kept_cell h (HM1.out.t); go_simp⟩) hHeld ?_
  simp only [Act.put, List.setIfInBounds_toArray, List.set_cons_zero, List.set_cons_succ]
  refine rg_take (i := 6) (v := (.pointer (some ⟨w.heap.size, 66, none⟩))) (some 22) rfl rfl (by kernel_rfl) (by kernel_rfl) (by kernel_rfl) (fun _ _ _ h => h) (Or.inl ⟨by rfl, fun _ _ => by go_simp⟩) hHeld ?_
  simp only [Act.put, List.setIfInBounds_toArray, List.set_cons_zero, List.set_cons_succ]
  refine rg_take (i := 7) (v := (.int .i64 p.e)) (some 23) rfl rfl (by kernel_rfl) (by kernel_rfl) (by kernel_rfl) (fun _ _ _ h => h) (Or.inl ⟨by rfl, fun w' h => by have h' := kept_cell h (HP1.out.ep); go_simp⟩) hHeld ?_
  simp only [Act.put, List.setIfInBounds_toArray, List.set_cons_zero, List.set_cons_succ]
  refine rg_take (i := 8) (v := (.bool false)) (some 24) rfl rfl (by kernel_rfl) (by kernel_rfl) (by kernel_rfl) (fun _ _ _ h => h) (Or.inl ⟨by rfl, fun _ _ => by go_simp⟩) hHeld ?_
  simp only [Act.put, List.setIfInBounds_toArray, List.set_cons_zero, List.set_cons_succ]
  refine rg_take (i := 9) (v := (.bool false)) (some 25) rfl rfl (by kernel_rfl) (by kernel_rfl) (by kernel_rfl) (fun _ _ _ h => h) (Or.inl ⟨by rfl, fun _ _ => by go_simp⟩) hHeld ?_
  simp only [Act.put, List.setIfInBounds_toArray, List.set_cons_zero, List.set_cons_succ]
  refine rg_take (i := 10) (v := (.bool false)) (some 26) rfl rfl (by kernel_rfl) (by kernel_rfl) (by kernel_rfl) (fun _ _ _ h => h) (Or.inl ⟨by rfl, fun _ _ => by go_simp⟩) hHeld ?_
  simp only [Act.put, List.setIfInBounds_toArray, List.set_cons_zero, List.set_cons_succ]
  refine rg_take (i := 11) (some 27) rfl rfl (by kernel_rfl) (by kernel_rfl) (by kernel_rfl) (fun _ _ _ h => h) (Or.inr ⟨by rfl, rfl⟩) hHeld ?_
  simp only [Act.put, List.setIfInBounds_toArray, List.set_cons_zero, List.set_cons_succ]
  refine rg_take (i := 12) (some 28) rfl rfl (by kernel_rfl) (by kernel_rfl) (by kernel_rfl) (fun _ _ _ h => h) (Or.inr ⟨by rfl, rfl⟩) hHeld ?_
  simp only [Act.put, List.setIfInBounds_toArray, List.set_cons_zero, List.set_cons_succ]
  refine rg_take (i := 13) (some 29) rfl rfl (by kernel_rfl) (by kernel_rfl) (by kernel_rfl) (fun _ _ _ h => h) (Or.inr ⟨by rfl, rfl⟩) hHeld ?_
  simp only [Act.put, List.setIfInBounds_toArray, List.set_cons_zero, List.set_cons_succ]
  refine rg_take (i := 14) (some 30) rfl rfl (by kernel_rfl) (by kernel_rfl) (by kernel_rfl) (fun _ _ _ h => h) (Or.inr ⟨by rfl, rfl⟩) hHeld ?_
  simp only [Act.put, List.setIfInBounds_toArray, List.set_cons_zero, List.set_cons_succ]
  refine rg_take (i := 15) (some 31) rfl rfl (by kernel_rfl) (by kernel_rfl) (by kernel_rfl) (fun _ _ _ h => h) (Or.inr ⟨by rfl, rfl⟩) hHeld ?_
  simp only [Act.put, List.setIfInBounds_toArray, List.set_cons_zero, List.set_cons_succ]
  refine rg_take (i := 16) (some 32) rfl rfl (by kernel_rfl) (by kernel_rfl) (by kernel_rfl) (fun _ _ _ h => h) (Or.inr ⟨by rfl, rfl⟩) hHeld ?_
  simp only [Act.put, List.setIfInBounds_toArray, List.set_cons_zero, List.set_cons_succ]
  refine rg_take (i := 17) (some 33) rfl rfl (by kernel_rfl) (by kernel_rfl) (by kernel_rfl) (fun _ _ _ h => h) (Or.inr ⟨by rfl, rfl⟩) hHeld ?_
  simp only [Act.put, List.setIfInBounds_toArray, List.set_cons_zero, List.set_cons_succ]
  refine rg_take (i := 18) (v := (.bool false)) (some 34) rfl rfl (by kernel_rfl) (by kernel_rfl) (by kernel_rfl) (fun _ _ _ h => h) (Or.inl ⟨by rfl, fun _ _ => by go_simp⟩) hHeld ?_
  simp only [Act.put, List.setIfInBounds_toArray, List.set_cons_zero, List.set_cons_succ]
  refine rg_take (i := 19) (v := (.bool false)) (some 15) rfl rfl (by kernel_rfl) (by kernel_rfl) (by kernel_rfl) (fun _ _ _ h => h) (Or.inl ⟨by rfl, fun _ _ => by go_simp⟩) hHeld ?_
  simp only [Act.put, List.setIfInBounds_toArray, List.set_cons_zero, List.set_cons_succ]
  refine wpAnyH_done (by kernel_rfl) ?_ _
  go_wp2
  go_ret2
  exact ⟨by rw [HV.out.1, HV.out.2]; rfl, HK1.out.trans hHeld⟩
set_option maxHeartbeats 2000000 in
theorem taken3 (p : Ps) (hB : Brd p.B) (m : Mv) (ho : On m) (h0 : bAt p.B m.t = 0) (h1 : pawnB p m = true) (h2 : (m.t == p.e) = true) (h3 : (m.f % 8 != m.t % 8) = false) (w : World) (hT : TabM w) :
    Calls Tryz.prog 71 #[.agg (pl p).toArray, .agg (ml m).toArray] w fun e w' => e = .returned (.tuple #[.int .i64 (takeS p m), .bool (takeB p m)]) ∧ Kept w w' := by
  obtain ⟨f0, f1, t0, t1⟩ := ho
  have HP : Hid (PAt _ _ p) := ⟨hB.1, heap_alloc2_old w (.cells (pl p).toArray 26) (.cells (ml m).toArray 35)⟩
  have HM : Hid (MAt _ _ m) := ⟨heap_alloc2_new w (.cells (pl p).toArray 26) (.cells (ml m).toArray 35)⟩
  have HK0 := Lib.hid (((Kept.refl w).alloc (.cells (pl p).toArray 26)).alloc (.cells (ml m).toArray 35))
  have HT := Lib.hid (hT.kept HK0.out)
  have hpl : Hid (p.B.length = 64) := hB.1
  have HB := Lib.hid hB
  have ct := HM.out.t
  have HC := Lib.hid (man_at p.B hB m.t t0 t1)
  have HPw := Lib.hid (fun w => pawn_is p hB m f0 f1 w)
  have HF1 := Lib.hid (fun w => file_k m.f w f0 f1)
  have HF2 := Lib.hid (fun w => file_k m.t w t0 t1)
  have HPs := Lib.hid (fun w h => passed_is p hB w h)
  rw [h0] at HC
  rw [h1] at HPw
  have HV := Lib.hid (take_off (p := p) (m := m) (by unfold takeI epTake; rw [if_neg (by simpa using h0), if_neg (by simp [h1, h2, h3])]))
  clear hB hT f0 f1 t0 t1
  go_enter Tryz.func71, Tryz.ntmps71
  go_wp2_with (first | (refine wpList_load_ps (by rfl) _ rfl _ rfl _ (HP.out) ?_) | (refine wpList_load_pb (by rfl) _ rfl _ rfl _ (HP.out) ?_) | (refine wpList_load_mv (by rfl) _ rfl _ rfl _ (HM.out) ?_))
  refine (HC.out _).mono ?_
  rintro e w1 ⟨rfl, k1⟩
  have HK1 := Lib.hid (HK0.out.trans k1)
  have HP1 := Lib.hid (HP.out.kept k1)
  have HM1 := Lib.hid (MAt.kept HM.out k1)
  have HT1 := Lib.hid (HT.out.kept k1)
  clear k1 ct
  go_wp2
  refine wp_region_held_drew (S := Kept _) (by kernel_rfl) (Kept.refl _).drew (fun hHeld => ?_)
  refine rg_take (i := 0) (some 16) rfl rfl (by kernel_rfl) (by kernel_rfl) (by kernel_rfl) (fun _ _ _ h => h) (take_load_ps (by rfl) _ rfl _ rfl p hpl.out (fun _ h => (HP1.out).kept h)) hHeld ?_
  simp only [Act.put, List.setIfInBounds_toArray, List.set_cons_zero, List.set_cons_succ]
  refine rg_take (i := 1) (some 17) rfl rfl (by kernel_rfl) (by kernel_rfl) (by kernel_rfl) (fun _ _ _ h => h) (take_load_mv (by rfl) _ rfl _ rfl m (fun _ h => MAt.kept (HM1.out) h)) hHeld ?_
  simp only [Act.put, List.setIfInBounds_toArray, List.set_cons_zero, List.set_cons_succ]
  refine wpAnyH_ready (rs := [2]) (by kernel_rfl) (by simp) ?_
  refine AllReadyH.cons rfl (fun K hK => ?_) AllReadyH.nil
  go_simp
  refine (HPw.out _).mono ?_
  rintro e w2 ⟨rfl, gw2⟩
  refine hK.out _ _ (hHeld.trans gw2) (fun _ => ?_)
  replace hHeld := hHeld.trans gw2
  clear hK K
  refine rg_take (i := 3) (v := (.bool true)) (some 19) rfl rfl (by kernel_rfl) (by kernel_rfl) (by kernel_rfl) (fun _ _ _ h => h) (Or.inl ⟨by rfl, fun _ _ => by go_simp⟩) hHeld ?_
  simp only [Act.put, List.setIfInBounds_toArray, List.set_cons_zero, List.set_cons_succ]
  refine rg_take (i := 4) (v := (.pointer (some ⟨w.heap.size + 1, 1, none⟩))) (some 20) rfl rfl (by kernel_rfl) (by kernel_rfl) (by kernel_rfl) (fun _ _ _ h => h) (Or.inl ⟨by rfl, fun _ _ => by go_simp⟩) hHeld ?_
  simp only [Act.put, List.setIfInBounds_toArray, List.set_cons_zero, List.set_cons_succ]
  refine rg_take (i := 5) (v := (.int .i64 m.t)) (some 21) rfl rfl (by kernel_rfl) (by kernel_rfl) (by kernel_rfl) (fun _ _ _ h => h) (Or.inl ⟨by rfl, fun w' h => by have h' := kept_cell h (HM1.out.t); go_simp⟩) hHeld ?_
  simp only [Act.put, List.setIfInBounds_toArray, List.set_cons_zero, List.set_cons_succ]
  refine rg_take (i := 6) (v := (.pointer (some ⟨w.heap.size, 66, none⟩))) (some 22) rfl rfl (by kernel_rfl) (by kernel_rfl) (by kernel_rfl) (fun _ _ _ h => h) (Or.inl ⟨by rfl, fun _ _ => by go_simp⟩) hHeld ?_
  simp only [Act.put, List.setIfInBounds_toArray, List.set_cons_zero, List.set_cons_succ]
  refine rg_take (i := 7) (v := (.int .i64 p.e)) (some 23) rfl rfl (by kernel_rfl) (by kernel_rfl) (by kernel_rfl) (fun _ _ _ h => h) (Or.inl ⟨by rfl, fun w' h => by have h' := kept_cell h (HP1.out.ep); go_simp⟩) hHeld ?_
  simp only [Act.put, List.setIfInBounds_toArray, List.set_cons_zero, List.set_cons_succ]
  refine rg_take (i := 8) (v := (.bool true)) (some 24) rfl rfl (by kernel_rfl) (by kernel_rfl) (by kernel_rfl) (fun _ _ _ h => h) (Or.inl ⟨by rfl, fun _ _ => by go_simp⟩) hHeld ?_
  simp only [Act.put, List.setIfInBounds_toArray, List.set_cons_zero, List.set_cons_succ]
  refine rg_take (i := 9) (v := (.bool true)) (some 25) rfl rfl (by kernel_rfl) (by kernel_rfl) (by kernel_rfl) (fun _ _ _ h => h) (Or.inl ⟨by rfl, fun _ _ => by go_simp⟩) hHeld ?_
  simp only [Act.put, List.setIfInBounds_toArray, List.set_cons_zero, List.set_cons_succ]
  refine rg_take (i := 10) (v := (.bool true)) (some 26) rfl rfl (by kernel_rfl) (by kernel_rfl) (by kernel_rfl) (fun _ _ _ h => h) (Or.inl ⟨by rfl, fun _ _ => by go_simp⟩) hHeld ?_
  simp only [Act.put, List.setIfInBounds_toArray, List.set_cons_zero, List.set_cons_succ]
  refine rg_take (i := 11) (v := (.pointer (some ⟨w.heap.size + 1, 0, none⟩))) (some 27) rfl rfl (by kernel_rfl) (by kernel_rfl) (by kernel_rfl) (fun _ _ _ h => h) (Or.inl ⟨by rfl, fun _ _ => by go_simp⟩) hHeld ?_
  simp only [Act.put, List.setIfInBounds_toArray, List.set_cons_zero, List.set_cons_succ]
  refine rg_take (i := 12) (v := (.int .i64 m.f)) (some 28) rfl rfl (by kernel_rfl) (by kernel_rfl) (by kernel_rfl) (fun _ _ _ h => h) (Or.inl ⟨by rfl, fun w' h => by have h' := kept_cell h (HM1.out.f); go_simp⟩) hHeld ?_
  simp only [Act.put, List.setIfInBounds_toArray, List.set_cons_zero, List.set_cons_succ]
  refine rg_take (i := 14) (v := (.pointer (some ⟨w.heap.size + 1, 1, none⟩))) (some 30) rfl rfl (by kernel_rfl) (by kernel_rfl) (by kernel_rfl) (fun _ _ _ h => h) (Or.inl ⟨by rfl, fun _ _ => by go_simp⟩) hHeld ?_
  simp only [Act.put, List.setIfInBounds_toArray, List.set_cons_zero, List.set_cons_succ]
  refine rg_take (i := 15) (v := (.int .i64 m.t)) (some 31) rfl rfl (by kernel_rfl) (by kernel_rfl) (by kernel_rfl) (fun _ _ _ h => h) (Or.inl ⟨by rfl, fun w' h => by have h' := kept_cell h (HM1.out.t); go_simp⟩) hHeld ?_
  simp only [Act.put, List.setIfInBounds_toArray, List.set_cons_zero, List.set_cons_succ]
  refine wpAnyH_ready (rs := [13]) (by kernel_rfl) (by simp) ?_
  refine AllReadyH.cons rfl (fun K hK => ?_) AllReadyH.nil
  go_simp
  refine (HF1.out _).mono ?_
  rintro e w3 ⟨rfl, gw3⟩
  refine hK.out _ _ (hHeld.trans gw3) (fun _ => ?_)
  replace hHeld := hHeld.trans gw3
  clear hK K
  refine wpAnyH_ready (rs := [16]) (by kernel_rfl) (by simp) ?_
  refine AllReadyH.cons rfl (fun K hK => ?_) AllReadyH.nil
  go_simp
  refine (HF2.out _).mono ?_
  rintro e w4 ⟨rfl, gw4⟩
  refine hK.out _ _ (hHeld.trans gw4) (fun _ => ?_)
  replace hHeld := hHeld.trans gw4
  clear hK K
  refine rg_take (i := 17) (v := (.bool false)) (some 33) rfl rfl (by kernel_rfl) (by kernel_rfl) (by kernel_rfl) (fun _ _ _ h => h) (Or.inl ⟨by rfl, fun _ _ => by go_simp⟩) hHeld ?_
  simp only [Act.put, List.setIfInBounds_toArray, List.set_cons_zero, List.set_cons_succ]
  refine rg_take (i := 18) (v := (.bool false)) (some 34) rfl rfl (by kernel_rfl) (by kernel_rfl) (by kernel_rfl) (fun _ _ _ h => h) (Or.inl ⟨by rfl, fun _ _ => by go_simp⟩) hHeld ?_
  simp only [Act.put, List.setIfInBounds_toArray, List.set_cons_zero, List.set_cons_succ]
  refine rg_take (i := 19) (v := (.bool false)) (some 15) rfl rfl (by kernel_rfl) (by kernel_rfl) (by kernel_rfl) (fun _ _ _ h => h) (Or.inl ⟨by rfl, fun _ _ => by go_simp⟩) hHeld ?_
  simp only [Act.put, List.setIfInBounds_toArray, List.set_cons_zero, List.set_cons_succ]
  refine wpAnyH_done (by kernel_rfl) ?_ _
  go_wp2
  go_ret2
  exact ⟨by rw [HV.out.1, HV.out.2]; rfl, HK1.out.trans hHeld⟩
set_option maxHeartbeats 2000000 in
theorem taken4 (p : Ps) (hB : Brd p.B) (m : Mv) (ho : On m) (h0 : bAt p.B m.t = 0) (h1 : pawnB p m = true) (h2 : (m.t == p.e) = true) (h3 : (m.f % 8 != m.t % 8) = true) (w : World) (hT : TabM w) :
    Calls Tryz.prog 71 #[.agg (pl p).toArray, .agg (ml m).toArray] w fun e w' => e = .returned (.tuple #[.int .i64 (takeS p m), .bool (takeB p m)]) ∧ Kept w w' := by
  obtain ⟨f0, f1, t0, t1⟩ := ho
  have HP : Hid (PAt _ _ p) := ⟨hB.1, heap_alloc2_old w (.cells (pl p).toArray 26) (.cells (ml m).toArray 35)⟩
  have HM : Hid (MAt _ _ m) := ⟨heap_alloc2_new w (.cells (pl p).toArray 26) (.cells (ml m).toArray 35)⟩
  have HK0 := Lib.hid (((Kept.refl w).alloc (.cells (pl p).toArray 26)).alloc (.cells (ml m).toArray 35))
  have HT := Lib.hid (hT.kept HK0.out)
  have hpl : Hid (p.B.length = 64) := hB.1
  have HB := Lib.hid hB
  have ct := HM.out.t
  have HC := Lib.hid (man_at p.B hB m.t t0 t1)
  have HPw := Lib.hid (fun w => pawn_is p hB m f0 f1 w)
  have HF1 := Lib.hid (fun w => file_k m.f w f0 f1)
  have HF2 := Lib.hid (fun w => file_k m.t w t0 t1)
  have HPs := Lib.hid (fun w h => passed_is p hB w h)
  rw [h0] at HC
  rw [h1] at HPw
  have HV := Lib.hid (take_pass (p := p) (m := m) (by unfold takeI epTake; rw [if_neg (by simpa using h0), if_pos (by rw [h1, h2, h3]; rfl)]))
  clear hB hT f0 f1 t0 t1
  go_enter Tryz.func71, Tryz.ntmps71
  go_wp2_with (first | (refine wpList_load_ps (by rfl) _ rfl _ rfl _ (HP.out) ?_) | (refine wpList_load_pb (by rfl) _ rfl _ rfl _ (HP.out) ?_) | (refine wpList_load_mv (by rfl) _ rfl _ rfl _ (HM.out) ?_))
  refine (HC.out _).mono ?_
  rintro e w1 ⟨rfl, k1⟩
  have HK1 := Lib.hid (HK0.out.trans k1)
  have HP1 := Lib.hid (HP.out.kept k1)
  have HM1 := Lib.hid (MAt.kept HM.out k1)
  have HT1 := Lib.hid (HT.out.kept k1)
  clear k1 ct
  go_wp2
  refine wp_region_held_drew (S := Kept _) (by kernel_rfl) (Kept.refl _).drew (fun hHeld => ?_)
  refine rg_take (i := 0) (some 16) rfl rfl (by kernel_rfl) (by kernel_rfl) (by kernel_rfl) (fun _ _ _ h => h) (take_load_ps (by rfl) _ rfl _ rfl p hpl.out (fun _ h => (HP1.out).kept h)) hHeld ?_
  simp only [Act.put, List.setIfInBounds_toArray, List.set_cons_zero, List.set_cons_succ]
  refine rg_take (i := 1) (some 17) rfl rfl (by kernel_rfl) (by kernel_rfl) (by kernel_rfl) (fun _ _ _ h => h) (take_load_mv (by rfl) _ rfl _ rfl m (fun _ h => MAt.kept (HM1.out) h)) hHeld ?_
  simp only [Act.put, List.setIfInBounds_toArray, List.set_cons_zero, List.set_cons_succ]
  refine wpAnyH_ready (rs := [2]) (by kernel_rfl) (by simp) ?_
  refine AllReadyH.cons rfl (fun K hK => ?_) AllReadyH.nil
  go_simp
  refine (HPw.out _).mono ?_
  rintro e w2 ⟨rfl, gw2⟩
  refine hK.out _ _ (hHeld.trans gw2) (fun _ => ?_)
  replace hHeld := hHeld.trans gw2
  clear hK K
  refine rg_take (i := 3) (v := (.bool true)) (some 19) rfl rfl (by kernel_rfl) (by kernel_rfl) (by kernel_rfl) (fun _ _ _ h => h) (Or.inl ⟨by rfl, fun _ _ => by go_simp⟩) hHeld ?_
  simp only [Act.put, List.setIfInBounds_toArray, List.set_cons_zero, List.set_cons_succ]
  refine rg_take (i := 4) (v := (.pointer (some ⟨w.heap.size + 1, 1, none⟩))) (some 20) rfl rfl (by kernel_rfl) (by kernel_rfl) (by kernel_rfl) (fun _ _ _ h => h) (Or.inl ⟨by rfl, fun _ _ => by go_simp⟩) hHeld ?_
  simp only [Act.put, List.setIfInBounds_toArray, List.set_cons_zero, List.set_cons_succ]
  refine rg_take (i := 5) (v := (.int .i64 m.t)) (some 21) rfl rfl (by kernel_rfl) (by kernel_rfl) (by kernel_rfl) (fun _ _ _ h => h) (Or.inl ⟨by rfl, fun w' h => by have h' := kept_cell h (HM1.out.t); go_simp⟩) hHeld ?_
  simp only [Act.put, List.setIfInBounds_toArray, List.set_cons_zero, List.set_cons_succ]
  refine rg_take (i := 6) (v := (.pointer (some ⟨w.heap.size, 66, none⟩))) (some 22) rfl rfl (by kernel_rfl) (by kernel_rfl) (by kernel_rfl) (fun _ _ _ h => h) (Or.inl ⟨by rfl, fun _ _ => by go_simp⟩) hHeld ?_
  simp only [Act.put, List.setIfInBounds_toArray, List.set_cons_zero, List.set_cons_succ]
  refine rg_take (i := 7) (v := (.int .i64 p.e)) (some 23) rfl rfl (by kernel_rfl) (by kernel_rfl) (by kernel_rfl) (fun _ _ _ h => h) (Or.inl ⟨by rfl, fun w' h => by have h' := kept_cell h (HP1.out.ep); go_simp⟩) hHeld ?_
  simp only [Act.put, List.setIfInBounds_toArray, List.set_cons_zero, List.set_cons_succ]
  refine rg_take (i := 8) (v := (.bool true)) (some 24) rfl rfl (by kernel_rfl) (by kernel_rfl) (by kernel_rfl) (fun _ _ _ h => h) (Or.inl ⟨by rfl, fun _ _ => by go_simp⟩) hHeld ?_
  simp only [Act.put, List.setIfInBounds_toArray, List.set_cons_zero, List.set_cons_succ]
  refine rg_take (i := 9) (v := (.bool true)) (some 25) rfl rfl (by kernel_rfl) (by kernel_rfl) (by kernel_rfl) (fun _ _ _ h => h) (Or.inl ⟨by rfl, fun _ _ => by go_simp⟩) hHeld ?_
  simp only [Act.put, List.setIfInBounds_toArray, List.set_cons_zero, List.set_cons_succ]
  refine rg_take (i := 10) (v := (.bool true)) (some 26) rfl rfl (by kernel_rfl) (by kernel_rfl) (by kernel_rfl) (fun _ _ _ h => h) (Or.inl ⟨by rfl, fun _ _ => by go_simp⟩) hHeld ?_
  simp only [Act.put, List.setIfInBounds_toArray, List.set_cons_zero, List.set_cons_succ]
  refine rg_take (i := 11) (v := (.pointer (some ⟨w.heap.size + 1, 0, none⟩))) (some 27) rfl rfl (by kernel_rfl) (by kernel_rfl) (by kernel_rfl) (fun _ _ _ h => h) (Or.inl ⟨by rfl, fun _ _ => by go_simp⟩) hHeld ?_
  simp only [Act.put, List.setIfInBounds_toArray, List.set_cons_zero, List.set_cons_succ]
  refine rg_take (i := 12) (v := (.int .i64 m.f)) (some 28) rfl rfl (by kernel_rfl) (by kernel_rfl) (by kernel_rfl) (fun _ _ _ h => h) (Or.inl ⟨by rfl, fun w' h => by have h' := kept_cell h (HM1.out.f); go_simp⟩) hHeld ?_
  simp only [Act.put, List.setIfInBounds_toArray, List.set_cons_zero, List.set_cons_succ]
  refine rg_take (i := 14) (v := (.pointer (some ⟨w.heap.size + 1, 1, none⟩))) (some 30) rfl rfl (by kernel_rfl) (by kernel_rfl) (by kernel_rfl) (fun _ _ _ h => h) (Or.inl ⟨by rfl, fun _ _ => by go_simp⟩) hHeld ?_
  simp only [Act.put, List.setIfInBounds_toArray, List.set_cons_zero, List.set_cons_succ]
  refine rg_take (i := 15) (v := (.int .i64 m.t)) (some 31) rfl rfl (by kernel_rfl) (by kernel_rfl) (by kernel_rfl) (fun _ _ _ h => h) (Or.inl ⟨by rfl, fun w' h => by have h' := kept_cell h (HM1.out.t); go_simp⟩) hHeld ?_
  simp only [Act.put, List.setIfInBounds_toArray, List.set_cons_zero, List.set_cons_succ]
  refine wpAnyH_ready (rs := [13]) (by kernel_rfl) (by simp) ?_
  refine AllReadyH.cons rfl (fun K hK => ?_) AllReadyH.nil
  go_simp
  refine (HF1.out _).mono ?_
  rintro e w3 ⟨rfl, gw3⟩
  refine hK.out _ _ (hHeld.trans gw3) (fun _ => ?_)
  replace hHeld := hHeld.trans gw3
  clear hK K
  refine wpAnyH_ready (rs := [16]) (by kernel_rfl) (by simp) ?_
  refine AllReadyH.cons rfl (fun K hK => ?_) AllReadyH.nil
  go_simp
  refine (HF2.out _).mono ?_
  rintro e w4 ⟨rfl, gw4⟩
  refine hK.out _ _ (hHeld.trans gw4) (fun _ => ?_)
  replace hHeld := hHeld.trans gw4
  clear hK K
  refine rg_take (i := 17) (v := (.bool true)) (some 33) rfl rfl (by kernel_rfl) (by kernel_rfl) (by kernel_rfl) (fun _ _ _ h => h) (Or.inl ⟨by rfl, fun _ _ => by go_simp⟩) hHeld ?_
  simp only [Act.put, List.setIfInBounds_toArray, List.set_cons_zero, List.set_cons_succ]
  refine rg_take (i := 18) (v := (.bool true)) (some 34) rfl rfl (by kernel_rfl) (by kernel_rfl) (by kernel_rfl) (fun _ _ _ h => h) (Or.inl ⟨by rfl, fun _ _ => by go_simp⟩) hHeld ?_
  simp only [Act.put, List.setIfInBounds_toArray, List.set_cons_zero, List.set_cons_succ]
  refine rg_take (i := 19) (v := (.bool true)) (some 15) rfl rfl (by kernel_rfl) (by kernel_rfl) (by kernel_rfl) (fun _ _ _ h => h) (Or.inl ⟨by rfl, fun _ _ => by go_simp⟩) hHeld ?_
  simp only [Act.put, List.setIfInBounds_toArray, List.set_cons_zero, List.set_cons_succ]
  refine wpAnyH_done (by kernel_rfl) ?_ _
  have HP4 := Lib.hid (HP1.out.kept hHeld)
  have HT4 := Lib.hid (HT1.out.kept hHeld)
  have HK4 := Lib.hid (HK1.out.trans hHeld)
  clear hHeld
  go_wp2_with (first | (refine wpList_load_ps (by rfl) _ rfl _ rfl _ (HP4.out) ?_) | (refine wpList_load_pb (by rfl) _ rfl _ rfl _ (HP4.out) ?_))
  refine (HPs.out _ HT4.out.tabs).mono ?_
  rintro e w5 ⟨rfl, k5⟩
  have HK5 := Lib.hid (HK4.out.trans k5)
  clear k5
  go_wp2
  go_ret2
  exact ⟨by rw [HV.out.1, HV.out.2]; rfl, HK5.out⟩
theorem taken_is (p : Ps) (hB : Brd p.B) (m : Mv) (ho : On m) (w : World) (hT : TabM w) :
    Calls Tryz.prog 71 #[.agg (pl p).toArray, .agg (ml m).toArray] w fun e w' => e = .returned (.tuple #[.int .i64 (takeS p m), .bool (takeB p m)]) ∧ Kept w w' := by
  by_cases h0 : bAt p.B m.t = 0
  · cases h1 : pawnB p m
    · exact taken1 p hB m ho h0 h1 w hT
    · cases h2 : (m.t == p.e)
      · exact taken2 p hB m ho h0 h1 h2 w hT
      · cases h3 : (m.f % 8 != m.t % 8)
        · exact taken3 p hB m ho h0 h1 h2 h3 w hT
        · exact taken4 p hB m ho h0 h1 h2 h3 w hT
  · exact taken0 p hB m ho h0 w hT
/-- Is a right's home touched? -/
def tcB (m : Mv) (k : Nat) : Bool := ((m.f == hKg k) || (m.t == hKg k)) || ((m.f == hRk k) || (m.t == hRk k))
def rtN (c : Int) (m : Mv) : Nat → Int
  | 0 => c
  | k + 1 => if tcB m k then bits .andNot .i64 (rtN c m k) (hR k) else rtN c m k
theorem rtN_yes {c : Int} {m : Mv} {k : Nat} (h : tcB m k = true) : rtN c m (k + 1) = bits .andNot .i64 (rtN c m k) (hR k) := by rw [rtN, if_pos h]
theorem rtN_no {c : Int} {m : Mv} {k : Nat} (h : tcB m k = false) : rtN c m (k + 1) = rtN c m k := by rw [rtN, if_neg (by rw [h]; decide)]
set_option maxHeartbeats 2000000 in
theorem rights_is (p : Ps) (hB : Brd p.B) (m : Mv) (w : World) (hT : TabM w) :
    Calls Tryz.prog 36 #[.agg (pl p).toArray, .agg (ml m).toArray] w fun e w' => e = .returned (.int .i64 (rtN p.c m 4)) ∧ Kept w w' := by
  have HP : Hid (PAt _ _ p) := ⟨hB.1, heap_alloc2_old w (.cells (pl p).toArray 26) (.cells (ml m).toArray 35)⟩
  have HM : Hid (MAt _ _ m) := ⟨heap_alloc2_new w (.cells (pl p).toArray 26) (.cells (ml m).toArray 35)⟩
  have HK0 := Lib.hid (((Kept.refl w).alloc (.cells (pl p).toArray 26)).alloc (.cells (ml m).toArray 35))
  have HT := Lib.hid (hT.kept HK0.out)
  have cc := HP.out.cas
  clear hB hT
  go_enter Tryz.func36, Tryz.ntmps36
  go_wp2_with (refine wpList_load_mid rfl 89 _ rfl 1 0 rfl wiV _ HT.out.wings.range Tryz.underlying89 rfl size_wings ?_)
  clear cc
  generalize (w.alloc (.cells (pl p).toArray 26)).alloc (.cells (ml m).toArray 35) = W at *
  go_loopw [5, 11] (fun t5 t11 wr => ∃ k : Nat, k ≤ 4 ∧ t11 = .int .i64 k ∧ t5 = .int .i64 (rtN p.c m k) ∧ Kept W wr) (fun _ t11 _ => 4 - (intOf t11).toNat)
  case atStart => exact ⟨0, by omega, rfl, rfl, Kept.refl _⟩
  case round =>
    obtain ⟨k, hk, rfl, rfl, hK⟩ := hrel
    have HK := Lib.hid hK
    clear hK
    by_cases hlt : k < 4
    · have hx := run_index_wi k hlt
      have HA := Lib.hid (HK.out.alloc (.cells (wl k).toArray 85))
      have HMA := Lib.hid (MAt.kept HM.out HA.out)
      have HWA : Hid (RAt _ _ (wl k) 85) := ⟨heap_alloc_new wr (.cells (wl k).toArray 85)⟩
      have HV : Hid (tcB m k = (((m.f == hKg k) || (m.t == hKg k)) || ((m.f == hRk k) || (m.t == hRk k)))) := by rfl
      have HY := Lib.hid (@rtN_yes p.c m k)
      have HN := Lib.hid (@rtN_no p.c m k)
      have HC1 := Lib.hid (mtouches_is m (hKg k))
      have HC2 := Lib.hid (mtouches_is m (hRk k))
      have y1 : _ = some (Value.int .i64 (hKg k)) := HWA.out.cellK 1
      generalize ((m.f == hKg k) || (m.t == hKg k)) = b1 at *
      generalize ((m.f == hRk k) || (m.t == hRk k)) = b2 at *
      cases b1
      · go_wp2_with (first | (with_reducible refine wpList_new_wi rfl rfl ?_) | ((with_reducible refine wpList_store_newwi rfl _ _ rfl 4 k ?_ ?_ ?_); exact rfl; exact rfl) | (refine wpList_load_mv (by rfl) _ rfl _ rfl _ HMA.out ?_))
        refine (HC1.out _).mono ?_
        rintro e w2 ⟨rfl, k2⟩
        have HK2 := Lib.hid (HA.out.trans k2)
        have HW2 := Lib.hid (HWA.out.kept k2)
        have HM2 := Lib.hid (MAt.kept HMA.out k2)
        have y2 : _ = some (Value.int .i64 (hRk k)) := HW2.out.cellK 2
        clear k2 y1
        go_wp2_with (refine wpList_load_mv (by rfl) _ rfl _ rfl _ HM2.out ?_)
        refine (HC2.out _).mono ?_
        rintro e w3 ⟨rfl, k3⟩
        have HK3 := Lib.hid (HK2.out.trans k3)
        have HW3 := Lib.hid (HW2.out.kept k3)
        clear k3 y2
        cases b2
        · have HE := Lib.hid (HN.out HV.out)
          go_wp2
          go_roundw
          case rel => exact ⟨k + 1, by omega, by go_num, by rw [HE.out], HK3.out⟩
          case measure => simp [intOf]; omega
        · have HE := Lib.hid (HY.out HV.out)
          have y0 : _ = some (Value.int .i64 (hR k)) := HW3.out.cellK 0
          go_wp2
          go_roundw
          case rel => exact ⟨k + 1, by omega, by go_num, by rw [HE.out], HK3.out⟩
          case measure => simp [intOf]; omega
      · go_wp2_with (first | (with_reducible refine wpList_new_wi rfl rfl ?_) | ((with_reducible refine wpList_store_newwi rfl _ _ rfl 4 k ?_ ?_ ?_); exact rfl; exact rfl) | (refine wpList_load_mv (by rfl) _ rfl _ rfl _ HMA.out ?_))
        refine (HC1.out _).mono ?_
        rintro e w2 ⟨rfl, k2⟩
        have HK2 := Lib.hid (HA.out.trans k2)
        have HW2 := Lib.hid (HWA.out.kept k2)
        have HE := Lib.hid (HY.out (by rw [HV.out]; rfl))
        have y0 : _ = some (Value.int .i64 (hR k)) := HW2.out.cellK 0
        clear k2 y1
        go_wp2
        go_roundw
        case rel => exact ⟨k + 1, by omega, by go_num, by rw [HE.out], HK2.out⟩
        case measure => simp [intOf]; omega
    · obtain rfl : k = 4 := by omega
      go_wp2
      go_ret
      exact ⟨rfl, HK0.out.trans HK.out⟩
/-- Ep behind a move. -/
def epI (p : Ps) (m : Mv) : Int := if pawnB p m && (m.f % 8 == m.t % 8) && (farI m.f m.t == 2) then (m.f + m.t) / 2 else -1
set_option maxHeartbeats 2000000 in
theorem ep1 (p : Ps) (hB : Brd p.B) (m : Mv) (ho : On m) (h1 : pawnB p m = false) (w : World) :
    Calls Tryz.prog 37 #[.agg (pl p).toArray, .agg (ml m).toArray] w fun e w' => e = .returned (.int .i64 (epI p m)) ∧ Kept w w' := by
  have HP : Hid (PAt _ _ p) := ⟨hB.1, heap_alloc2_old w (.cells (pl p).toArray 26) (.cells (ml m).toArray 35)⟩
  have HM : Hid (MAt _ _ m) := ⟨heap_alloc2_new w (.cells (pl p).toArray 26) (.cells (ml m).toArray 35)⟩
  have HK0 := Lib.hid (((Kept.refl w).alloc (.cells (pl p).toArray 26)).alloc (.cells (ml m).toArray 35))
  have hpl : Hid (p.B.length = 64) := hB.1
  have HPw := Lib.hid (fun w => pawn_is p hB m ho.f0 ho.f1 w)
  rw [h1] at HPw
  have HF1 := Lib.hid (fun w => file_k m.f w ho.f0 ho.f1)
  have HF2 := Lib.hid (fun w => file_k m.t w ho.t0 ho.t1)
  have HFr := Lib.hid (fun w => far_k m.f m.t w ho.f0 ho.f1 ho.t0 ho.t1)
  have HMd := Lib.hid (fun w => mid_is m ho w)
  have HV : Hid (epI p m = -1) := by unfold epI; rw [h1]; rfl
  clear hB ho
  go_enter Tryz.func37, Tryz.ntmps37
  go_wp2
  generalize (w.alloc (.cells (pl p).toArray 26)).alloc (.cells (ml m).toArray 35) = W at *
  refine wp_region_held_drew (S := Kept _) (by kernel_rfl) (Kept.refl _).drew (fun hHeld => ?_)
  refine rg_take (i := 0) (v := (.pointer (some ⟨w.heap.size + 1, 0, none⟩))) (some 6) rfl rfl (by kernel_rfl) (by kernel_rfl) (by kernel_rfl) (fun _ _ _ h => h) (Or.inl ⟨by rfl, fun _ _ => by go_simp⟩) hHeld ?_
  simp only [Act.put, List.setIfInBounds_toArray, List.set_cons_zero, List.set_cons_succ]
  refine rg_take (i := 1) (v := (.int .i64 m.f)) (some 7) rfl rfl (by kernel_rfl) (by kernel_rfl) (by kernel_rfl) (fun _ _ _ h => h) (Or.inl ⟨by rfl, fun w' h => by have h' := kept_cell h (HM.out.f); go_simp⟩) hHeld ?_
  simp only [Act.put, List.setIfInBounds_toArray, List.set_cons_zero, List.set_cons_succ]
  refine rg_take (i := 3) (v := (.pointer (some ⟨w.heap.size + 1, 1, none⟩))) (some 9) rfl rfl (by kernel_rfl) (by kernel_rfl) (by kernel_rfl) (fun _ _ _ h => h) (Or.inl ⟨by rfl, fun _ _ => by go_simp⟩) hHeld ?_
  simp only [Act.put, List.setIfInBounds_toArray, List.set_cons_zero, List.set_cons_succ]
  refine rg_take (i := 4) (v := (.int .i64 m.t)) (some 10) rfl rfl (by kernel_rfl) (by kernel_rfl) (by kernel_rfl) (fun _ _ _ h => h) (Or.inl ⟨by rfl, fun w' h => by have h' := kept_cell h (HM.out.t); go_simp⟩) hHeld ?_
  simp only [Act.put, List.setIfInBounds_toArray, List.set_cons_zero, List.set_cons_succ]
  refine wpAnyH_ready (rs := [2]) (by kernel_rfl) (by simp) ?_
  refine AllReadyH.cons rfl (fun K hK => ?_) AllReadyH.nil
  go_simp
  refine (HF1.out _).mono ?_
  rintro e w1 ⟨rfl, gw1⟩
  refine hK.out _ _ (hHeld.trans gw1) (fun _ => ?_)
  replace hHeld := hHeld.trans gw1
  clear hK K
  refine wpAnyH_ready (rs := [5]) (by kernel_rfl) (by simp) ?_
  refine AllReadyH.cons rfl (fun K hK => ?_) AllReadyH.nil
  go_simp
  refine (HF2.out _).mono ?_
  rintro e w2 ⟨rfl, gw2⟩
  refine hK.out _ _ (hHeld.trans gw2) (fun _ => ?_)
  replace hHeld := hHeld.trans gw2
  clear hK K
  refine rg_take (i := 6) (v := (.bool (m.f % 8 == m.t % 8))) (some 12) rfl rfl (by kernel_rfl) (by kernel_rfl) (by kernel_rfl) (fun _ _ _ h => h) (Or.inl ⟨by rfl, fun _ _ => by go_simp⟩) hHeld ?_
  simp only [Act.put, List.setIfInBounds_toArray, List.set_cons_zero, List.set_cons_succ]
  refine rg_take (i := 7) (v := (.bool (m.f % 8 == m.t % 8))) (some 5) rfl rfl (by kernel_rfl) (by kernel_rfl) (by kernel_rfl) (fun _ _ _ h => h) (Or.inl ⟨by rfl, fun _ _ => by go_simp⟩) hHeld ?_
  simp only [Act.put, List.setIfInBounds_toArray, List.set_cons_zero, List.set_cons_succ]
  refine wpAnyH_done (by kernel_rfl) ?_ _
  have HP2 := Lib.hid (HP.out.kept hHeld)
  have HM2 := Lib.hid (MAt.kept HM.out hHeld)
  have HK2 := Lib.hid (HK0.out.trans hHeld)
  clear hHeld
  go_wp2_with (first | (refine wpList_load_ps (by rfl) _ rfl _ rfl _ (HP2.out) ?_) | (refine wpList_load_pb (by rfl) _ rfl _ rfl _ (HP2.out) ?_) | (refine wpList_load_mv (by rfl) _ rfl _ rfl _ (HM2.out) ?_))
  refine (HPw.out _).mono ?_
  rintro e w3 ⟨rfl, k3⟩
  have HM3 := Lib.hid (MAt.kept HM2.out k3)
  have HK3 := Lib.hid (HK2.out.trans k3)
  clear k3
  go_wp2
  go_ret
  exact ⟨by rw [HV.out]; rfl, HK3.out⟩
set_option maxHeartbeats 2000000 in
theorem ep2 (p : Ps) (hB : Brd p.B) (m : Mv) (ho : On m) (h1 : pawnB p m = true) (h2 : (m.f % 8 == m.t % 8) = false) (w : World) :
    Calls Tryz.prog 37 #[.agg (pl p).toArray, .agg (ml m).toArray] w fun e w' => e = .returned (.int .i64 (epI p m)) ∧ Kept w w' := by
  have HP : Hid (PAt _ _ p) := ⟨hB.1, heap_alloc2_old w (.cells (pl p).toArray 26) (.cells (ml m).toArray 35)⟩
  have HM : Hid (MAt _ _ m) := ⟨heap_alloc2_new w (.cells (pl p).toArray 26) (.cells (ml m).toArray 35)⟩
  have HK0 := Lib.hid (((Kept.refl w).alloc (.cells (pl p).toArray 26)).alloc (.cells (ml m).toArray 35))
  have hpl : Hid (p.B.length = 64) := hB.1
  have HPw := Lib.hid (fun w => pawn_is p hB m ho.f0 ho.f1 w)
  rw [h1] at HPw
  have HF1 := Lib.hid (fun w => file_k m.f w ho.f0 ho.f1)
  have HF2 := Lib.hid (fun w => file_k m.t w ho.t0 ho.t1)
  have HFr := Lib.hid (fun w => far_k m.f m.t w ho.f0 ho.f1 ho.t0 ho.t1)
  have HMd := Lib.hid (fun w => mid_is m ho w)
  have HV : Hid (epI p m = -1) := by unfold epI; rw [h1, h2]; rfl
  clear hB ho
  go_enter Tryz.func37, Tryz.ntmps37
  go_wp2
  generalize (w.alloc (.cells (pl p).toArray 26)).alloc (.cells (ml m).toArray 35) = W at *
  refine wp_region_held_drew (S := Kept _) (by kernel_rfl) (Kept.refl _).drew (fun hHeld => ?_)
  refine rg_take (i := 0) (v := (.pointer (some ⟨w.heap.size + 1, 0, none⟩))) (some 6) rfl rfl (by kernel_rfl) (by kernel_rfl) (by kernel_rfl) (fun _ _ _ h => h) (Or.inl ⟨by rfl, fun _ _ => by go_simp⟩) hHeld ?_
  simp only [Act.put, List.setIfInBounds_toArray, List.set_cons_zero, List.set_cons_succ]
  refine rg_take (i := 1) (v := (.int .i64 m.f)) (some 7) rfl rfl (by kernel_rfl) (by kernel_rfl) (by kernel_rfl) (fun _ _ _ h => h) (Or.inl ⟨by rfl, fun w' h => by have h' := kept_cell h (HM.out.f); go_simp⟩) hHeld ?_
  simp only [Act.put, List.setIfInBounds_toArray, List.set_cons_zero, List.set_cons_succ]
  refine rg_take (i := 3) (v := (.pointer (some ⟨w.heap.size + 1, 1, none⟩))) (some 9) rfl rfl (by kernel_rfl) (by kernel_rfl) (by kernel_rfl) (fun _ _ _ h => h) (Or.inl ⟨by rfl, fun _ _ => by go_simp⟩) hHeld ?_
  simp only [Act.put, List.setIfInBounds_toArray, List.set_cons_zero, List.set_cons_succ]
  refine rg_take (i := 4) (v := (.int .i64 m.t)) (some 10) rfl rfl (by kernel_rfl) (by kernel_rfl) (by kernel_rfl) (fun _ _ _ h => h) (Or.inl ⟨by rfl, fun w' h => by have h' := kept_cell h (HM.out.t); go_simp⟩) hHeld ?_
  simp only [Act.put, List.setIfInBounds_toArray, List.set_cons_zero, List.set_cons_succ]
  refine wpAnyH_ready (rs := [2]) (by kernel_rfl) (by simp) ?_
  refine AllReadyH.cons rfl (fun K hK => ?_) AllReadyH.nil
  go_simp
  refine (HF1.out _).mono ?_
  rintro e w1 ⟨rfl, gw1⟩
  refine hK.out _ _ (hHeld.trans gw1) (fun _ => ?_)
  replace hHeld := hHeld.trans gw1
  clear hK K
  refine wpAnyH_ready (rs := [5]) (by kernel_rfl) (by simp) ?_
  refine AllReadyH.cons rfl (fun K hK => ?_) AllReadyH.nil
  go_simp
  refine (HF2.out _).mono ?_
  rintro e w2 ⟨rfl, gw2⟩
  refine hK.out _ _ (hHeld.trans gw2) (fun _ => ?_)
  replace hHeld := hHeld.trans gw2
  clear hK K
  refine rg_take (i := 6) (v := (.bool (m.f % 8 == m.t % 8))) (some 12) rfl rfl (by kernel_rfl) (by kernel_rfl) (by kernel_rfl) (fun _ _ _ h => h) (Or.inl ⟨by rfl, fun _ _ => by go_simp⟩) hHeld ?_
  simp only [Act.put, List.setIfInBounds_toArray, List.set_cons_zero, List.set_cons_succ]
  refine rg_take (i := 7) (v := (.bool (m.f % 8 == m.t % 8))) (some 5) rfl rfl (by kernel_rfl) (by kernel_rfl) (by kernel_rfl) (fun _ _ _ h => h) (Or.inl ⟨by rfl, fun _ _ => by go_simp⟩) hHeld ?_
  simp only [Act.put, List.setIfInBounds_toArray, List.set_cons_zero, List.set_cons_succ]
  refine wpAnyH_done (by kernel_rfl) ?_ _
  have HP2 := Lib.hid (HP.out.kept hHeld)
  have HM2 := Lib.hid (MAt.kept HM.out hHeld)
  have HK2 := Lib.hid (HK0.out.trans hHeld)
  clear hHeld
  go_wp2_with (first | (refine wpList_load_ps (by rfl) _ rfl _ rfl _ (HP2.out) ?_) | (refine wpList_load_pb (by rfl) _ rfl _ rfl _ (HP2.out) ?_) | (refine wpList_load_mv (by rfl) _ rfl _ rfl _ (HM2.out) ?_))
  refine (HPw.out _).mono ?_
  rintro e w3 ⟨rfl, k3⟩
  have HM3 := Lib.hid (MAt.kept HM2.out k3)
  have HK3 := Lib.hid (HK2.out.trans k3)
  clear k3
  go_wp2
  go_ret
  exact ⟨by rw [HV.out]; rfl, HK3.out⟩
set_option maxHeartbeats 2000000 in
theorem ep3 (p : Ps) (hB : Brd p.B) (m : Mv) (ho : On m) (h1 : pawnB p m = true) (h2 : (m.f % 8 == m.t % 8) = true) (h3 : (farI m.f m.t == 2) = false) (w : World) :
    Calls Tryz.prog 37 #[.agg (pl p).toArray, .agg (ml m).toArray] w fun e w' => e = .returned (.int .i64 (epI p m)) ∧ Kept w w' := by
  have HP : Hid (PAt _ _ p) := ⟨hB.1, heap_alloc2_old w (.cells (pl p).toArray 26) (.cells (ml m).toArray 35)⟩
  have HM : Hid (MAt _ _ m) := ⟨heap_alloc2_new w (.cells (pl p).toArray 26) (.cells (ml m).toArray 35)⟩
  have HK0 := Lib.hid (((Kept.refl w).alloc (.cells (pl p).toArray 26)).alloc (.cells (ml m).toArray 35))
  have hpl : Hid (p.B.length = 64) := hB.1
  have HPw := Lib.hid (fun w => pawn_is p hB m ho.f0 ho.f1 w)
  rw [h1] at HPw
  have HF1 := Lib.hid (fun w => file_k m.f w ho.f0 ho.f1)
  have HF2 := Lib.hid (fun w => file_k m.t w ho.t0 ho.t1)
  have HFr := Lib.hid (fun w => far_k m.f m.t w ho.f0 ho.f1 ho.t0 ho.t1)
  have HMd := Lib.hid (fun w => mid_is m ho w)
  have HV : Hid (epI p m = -1) := by unfold epI; rw [h1, h2, h3]; rfl
  generalize farI m.f m.t = fr at *
  clear hB ho
  go_enter Tryz.func37, Tryz.ntmps37
  go_wp2
  generalize (w.alloc (.cells (pl p).toArray 26)).alloc (.cells (ml m).toArray 35) = W at *
  refine wp_region_held_drew (S := Kept _) (by kernel_rfl) (Kept.refl _).drew (fun hHeld => ?_)
  refine rg_take (i := 0) (v := (.pointer (some ⟨w.heap.size + 1, 0, none⟩))) (some 6) rfl rfl (by kernel_rfl) (by kernel_rfl) (by kernel_rfl) (fun _ _ _ h => h) (Or.inl ⟨by rfl, fun _ _ => by go_simp⟩) hHeld ?_
  simp only [Act.put, List.setIfInBounds_toArray, List.set_cons_zero, List.set_cons_succ]
  refine rg_take (i := 1) (v := (.int .i64 m.f)) (some 7) rfl rfl (by kernel_rfl) (by kernel_rfl) (by kernel_rfl) (fun _ _ _ h => h) (Or.inl ⟨by rfl, fun w' h => by have h' := kept_cell h (HM.out.f); go_simp⟩) hHeld ?_
  simp only [Act.put, List.setIfInBounds_toArray, List.set_cons_zero, List.set_cons_succ]
  refine rg_take (i := 3) (v := (.pointer (some ⟨w.heap.size + 1, 1, none⟩))) (some 9) rfl rfl (by kernel_rfl) (by kernel_rfl) (by kernel_rfl) (fun _ _ _ h => h) (Or.inl ⟨by rfl, fun _ _ => by go_simp⟩) hHeld ?_
  simp only [Act.put, List.setIfInBounds_toArray, List.set_cons_zero, List.set_cons_succ]
  refine rg_take (i := 4) (v := (.int .i64 m.t)) (some 10) rfl rfl (by kernel_rfl) (by kernel_rfl) (by kernel_rfl) (fun _ _ _ h => h) (Or.inl ⟨by rfl, fun w' h => by have h' := kept_cell h (HM.out.t); go_simp⟩) hHeld ?_
  simp only [Act.put, List.setIfInBounds_toArray, List.set_cons_zero, List.set_cons_succ]
  refine wpAnyH_ready (rs := [2]) (by kernel_rfl) (by simp) ?_
  refine AllReadyH.cons rfl (fun K hK => ?_) AllReadyH.nil
  go_simp
  refine (HF1.out _).mono ?_
  rintro e w1 ⟨rfl, gw1⟩
  refine hK.out _ _ (hHeld.trans gw1) (fun _ => ?_)
  replace hHeld := hHeld.trans gw1
  clear hK K
  refine wpAnyH_ready (rs := [5]) (by kernel_rfl) (by simp) ?_
  refine AllReadyH.cons rfl (fun K hK => ?_) AllReadyH.nil
  go_simp
  refine (HF2.out _).mono ?_
  rintro e w2 ⟨rfl, gw2⟩
  refine hK.out _ _ (hHeld.trans gw2) (fun _ => ?_)
  replace hHeld := hHeld.trans gw2
  clear hK K
  refine rg_take (i := 6) (v := (.bool (m.f % 8 == m.t % 8))) (some 12) rfl rfl (by kernel_rfl) (by kernel_rfl) (by kernel_rfl) (fun _ _ _ h => h) (Or.inl ⟨by rfl, fun _ _ => by go_simp⟩) hHeld ?_
  simp only [Act.put, List.setIfInBounds_toArray, List.set_cons_zero, List.set_cons_succ]
  refine rg_take (i := 7) (v := (.bool (m.f % 8 == m.t % 8))) (some 5) rfl rfl (by kernel_rfl) (by kernel_rfl) (by kernel_rfl) (fun _ _ _ h => h) (Or.inl ⟨by rfl, fun _ _ => by go_simp⟩) hHeld ?_
  simp only [Act.put, List.setIfInBounds_toArray, List.set_cons_zero, List.set_cons_succ]
  refine wpAnyH_done (by kernel_rfl) ?_ _
  have HP2 := Lib.hid (HP.out.kept hHeld)
  have HM2 := Lib.hid (MAt.kept HM.out hHeld)
  have HK2 := Lib.hid (HK0.out.trans hHeld)
  clear hHeld
  go_wp2_with (first | (refine wpList_load_ps (by rfl) _ rfl _ rfl _ (HP2.out) ?_) | (refine wpList_load_pb (by rfl) _ rfl _ rfl _ (HP2.out) ?_) | (refine wpList_load_mv (by rfl) _ rfl _ rfl _ (HM2.out) ?_))
  refine (HPw.out _).mono ?_
  rintro e w3 ⟨rfl, k3⟩
  have HM3 := Lib.hid (MAt.kept HM2.out k3)
  have HK3 := Lib.hid (HK2.out.trans k3)
  clear k3
  have cf := HM3.out.f
  have ct := HM3.out.t
  go_wp2_with fail
  refine (HFr.out _).mono ?_
  rintro e w4 ⟨rfl, k4⟩
  have HM4 := Lib.hid (MAt.kept HM3.out k4)
  have HK4 := Lib.hid (HK3.out.trans k4)
  clear k4 cf ct
  go_wp2
  go_ret
  exact ⟨by rw [HV.out]; rfl, HK4.out⟩
set_option maxHeartbeats 2000000 in
theorem ep4 (p : Ps) (hB : Brd p.B) (m : Mv) (ho : On m) (h1 : pawnB p m = true) (h2 : (m.f % 8 == m.t % 8) = true) (h3 : (farI m.f m.t == 2) = true) (w : World) :
    Calls Tryz.prog 37 #[.agg (pl p).toArray, .agg (ml m).toArray] w fun e w' => e = .returned (.int .i64 (epI p m)) ∧ Kept w w' := by
  have HP : Hid (PAt _ _ p) := ⟨hB.1, heap_alloc2_old w (.cells (pl p).toArray 26) (.cells (ml m).toArray 35)⟩
  have HM : Hid (MAt _ _ m) := ⟨heap_alloc2_new w (.cells (pl p).toArray 26) (.cells (ml m).toArray 35)⟩
  have HK0 := Lib.hid (((Kept.refl w).alloc (.cells (pl p).toArray 26)).alloc (.cells (ml m).toArray 35))
  have hpl : Hid (p.B.length = 64) := hB.1
  have HPw := Lib.hid (fun w => pawn_is p hB m ho.f0 ho.f1 w)
  rw [h1] at HPw
  have HF1 := Lib.hid (fun w => file_k m.f w ho.f0 ho.f1)
  have HF2 := Lib.hid (fun w => file_k m.t w ho.t0 ho.t1)
  have HFr := Lib.hid (fun w => far_k m.f m.t w ho.f0 ho.f1 ho.t0 ho.t1)
  have HMd := Lib.hid (fun w => mid_is m ho w)
  have HV : Hid (epI p m = (m.f + m.t) / 2) := by unfold epI; rw [h1, h2, h3]; rfl
  generalize farI m.f m.t = fr at *
  clear hB ho
  go_enter Tryz.func37, Tryz.ntmps37
  go_wp2
  generalize (w.alloc (.cells (pl p).toArray 26)).alloc (.cells (ml m).toArray 35) = W at *
  refine wp_region_held_drew (S := Kept _) (by kernel_rfl) (Kept.refl _).drew (fun hHeld => ?_)
  refine rg_take (i := 0) (v := (.pointer (some ⟨w.heap.size + 1, 0, none⟩))) (some 6) rfl rfl (by kernel_rfl) (by kernel_rfl) (by kernel_rfl) (fun _ _ _ h => h) (Or.inl ⟨by rfl, fun _ _ => by go_simp⟩) hHeld ?_
  simp only [Act.put, List.setIfInBounds_toArray, List.set_cons_zero, List.set_cons_succ]
  refine rg_take (i := 1) (v := (.int .i64 m.f)) (some 7) rfl rfl (by kernel_rfl) (by kernel_rfl) (by kernel_rfl) (fun _ _ _ h => h) (Or.inl ⟨by rfl, fun w' h => by have h' := kept_cell h (HM.out.f); go_simp⟩) hHeld ?_
  simp only [Act.put, List.setIfInBounds_toArray, List.set_cons_zero, List.set_cons_succ]
  refine rg_take (i := 3) (v := (.pointer (some ⟨w.heap.size + 1, 1, none⟩))) (some 9) rfl rfl (by kernel_rfl) (by kernel_rfl) (by kernel_rfl) (fun _ _ _ h => h) (Or.inl ⟨by rfl, fun _ _ => by go_simp⟩) hHeld ?_
  simp only [Act.put, List.setIfInBounds_toArray, List.set_cons_zero, List.set_cons_succ]
  refine rg_take (i := 4) (v := (.int .i64 m.t)) (some 10) rfl rfl (by kernel_rfl) (by kernel_rfl) (by kernel_rfl) (fun _ _ _ h => h) (Or.inl ⟨by rfl, fun w' h => by have h' := kept_cell h (HM.out.t); go_simp⟩) hHeld ?_
  simp only [Act.put, List.setIfInBounds_toArray, List.set_cons_zero, List.set_cons_succ]
  refine wpAnyH_ready (rs := [2]) (by kernel_rfl) (by simp) ?_
  refine AllReadyH.cons rfl (fun K hK => ?_) AllReadyH.nil
  go_simp
  refine (HF1.out _).mono ?_
  rintro e w1 ⟨rfl, gw1⟩
  refine hK.out _ _ (hHeld.trans gw1) (fun _ => ?_)
  replace hHeld := hHeld.trans gw1
  clear hK K
  refine wpAnyH_ready (rs := [5]) (by kernel_rfl) (by simp) ?_
  refine AllReadyH.cons rfl (fun K hK => ?_) AllReadyH.nil
  go_simp
  refine (HF2.out _).mono ?_
  rintro e w2 ⟨rfl, gw2⟩
  refine hK.out _ _ (hHeld.trans gw2) (fun _ => ?_)
  replace hHeld := hHeld.trans gw2
  clear hK K
  refine rg_take (i := 6) (v := (.bool (m.f % 8 == m.t % 8))) (some 12) rfl rfl (by kernel_rfl) (by kernel_rfl) (by kernel_rfl) (fun _ _ _ h => h) (Or.inl ⟨by rfl, fun _ _ => by go_simp⟩) hHeld ?_
  simp only [Act.put, List.setIfInBounds_toArray, List.set_cons_zero, List.set_cons_succ]
  refine rg_take (i := 7) (v := (.bool (m.f % 8 == m.t % 8))) (some 5) rfl rfl (by kernel_rfl) (by kernel_rfl) (by kernel_rfl) (fun _ _ _ h => h) (Or.inl ⟨by rfl, fun _ _ => by go_simp⟩) hHeld ?_
  simp only [Act.put, List.setIfInBounds_toArray, List.set_cons_zero, List.set_cons_succ]
  refine wpAnyH_done (by kernel_rfl) ?_ _
  have HP2 := Lib.hid (HP.out.kept hHeld)
  have HM2 := Lib.hid (MAt.kept HM.out hHeld)
  have HK2 := Lib.hid (HK0.out.trans hHeld)
  clear hHeld
  go_wp2_with (first | (refine wpList_load_ps (by rfl) _ rfl _ rfl _ (HP2.out) ?_) | (refine wpList_load_pb (by rfl) _ rfl _ rfl _ (HP2.out) ?_) | (refine wpList_load_mv (by rfl) _ rfl _ rfl _ (HM2.out) ?_))
  refine (HPw.out _).mono ?_
  rintro e w3 ⟨rfl, k3⟩
  have HM3 := Lib.hid (MAt.kept HM2.out k3)
  have HK3 := Lib.hid (HK2.out.trans k3)
  clear k3
  have cf := HM3.out.f
  have ct := HM3.out.t
  go_wp2_with fail
  refine (HFr.out _).mono ?_
  rintro e w4 ⟨rfl, k4⟩
  have HM4 := Lib.hid (MAt.kept HM3.out k4)
  have HK4 := Lib.hid (HK3.out.trans k4)
  clear k4 cf ct
  go_wp2_with (refine wpList_load_mv (by rfl) _ rfl _ rfl _ HM4.out ?_)
  refine (HMd.out _).mono ?_
  rintro e w5 ⟨rfl, k5⟩
  have HK5 := Lib.hid (HK4.out.trans k5)
  clear k5
  go_wp2
  go_ret
  exact ⟨by rw [HV.out]; rfl, HK5.out⟩
theorem epb_is (p : Ps) (hB : Brd p.B) (m : Mv) (ho : On m) (w : World) :
    Calls Tryz.prog 37 #[.agg (pl p).toArray, .agg (ml m).toArray] w fun e w' => e = .returned (.int .i64 (epI p m)) ∧ Kept w w' := by
  cases h1 : pawnB p m
  · exact ep1 p hB m ho h1 w
  · cases h2 : (m.f % 8 == m.t % 8)
    · exact ep2 p hB m ho h1 h2 w
    · cases h3 : (farI m.f m.t == 2)
      · exact ep3 p hB m ho h1 h2 h3 w
      · exact ep4 p hB m ho h1 h2 h3 w
end Go.Proofs.YtgcippicdhaaeaaGreatDoor
namespace Go.Proofs.YtgcippicdhaaeaaGreatDoor
open Go.RowKit
set_option linter.unusedVariables false
set_option linter.unusedSimpArgs false
set_option maxRecDepth 100000

/-- The board behind a move, step by step. -/
def st1 (p : Ps) (m : Mv) : List Int := if takeB p m then p.B.set (takeS p m).toNat 0 else p.B
def st2 (p : Ps) (m : Mv) (B : List Int) : List Int := if castN p m < 4 then (B.set (hRk (castN p m)) 0).set ((m.f + m.t) / 2).toNat (B.getD (hRk (castN p m)) 0) else B
def st3 (m : Mv) (B : List Int) : List Int := (B.set m.f.toNat 0).set m.t.toNat (B.getD m.f.toNat 0)
def st4 (p : Ps) (m : Mv) (B : List Int) : List Int := if m.p != 0 then B.set m.t.toNat (mkI m.p p.t) else B
def behB (p : Ps) (m : Mv) : List Int := st4 p m (st3 m (st2 p m (st1 p m)))
theorem st1_len {p : Ps} {m : Mv} (h : p.B.length = 64) : (st1 p m).length = 64 := by unfold st1; split <;> simp [h]
theorem st2_len {p : Ps} {m : Mv} {B : List Int} (h : B.length = 64) : (st2 p m B).length = 64 := by unfold st2; split <;> simp [h]
theorem st3_len {m : Mv} {B : List Int} (h : B.length = 64) : (st3 m B).length = 64 := by unfold st3; simp [h]
theorem st4_len {p : Ps} {m : Mv} {B : List Int} (h : B.length = 64) : (st4 p m B).length = 64 := by unfold st4; split <;> simp [h]
theorem behB_len {p : Ps} {m : Mv} (h : p.B.length = 64) : (behB p m).length = 64 := st4_len (st3_len (st2_len (st1_len h)))
theorem mk_i8 {k t : Int} (h2 : 2 ≤ k) (h5 : k ≤ 5) : IntKind.i8.wrap (mkI k t) = mkI k t := by
  have : k = 2 ∨ k = 3 ∨ k = 4 ∨ k = 5 := by omega
  unfold mkI
  split <;> rcases this with rfl | rfl | rfl | rfl <;> decide
set_option maxHeartbeats 4000000 in
theorem board_is (p : Ps) (hB : Brd p.B) (t01 : p.t = 0 ∨ p.t = 1) (c0 : 0 ≤ p.c) (c1 : p.c ≤ 15) (m : Mv) (ho : On m) (hpr : promoB m.p = true) (w : World) (hT : TabM w) :
    Calls Tryz.prog 34 #[.agg (pl p).toArray, .agg (ml m).toArray] w (RetB w (behB p m)) := by
  have HP : Hid (PAt _ _ p) := ⟨hB.1, heap_alloc2_old w (.cells (pl p).toArray 26) (.cells (ml m).toArray 35)⟩
  have HM : Hid (MAt _ _ m) := ⟨heap_alloc2_new w (.cells (pl p).toArray 26) (.cells (ml m).toArray 35)⟩
  have HK0 := Lib.hid (((Kept.refl w).alloc (.cells (pl p).toArray 26)).alloc (.cells (ml m).toArray 35))
  obtain ⟨f, hf⟩ := Int.eq_ofNat_of_zero_le ho.f0
  obtain ⟨t, ht⟩ := Int.eq_ofNat_of_zero_le ho.t0
  have hf64 : f < 64 := by have := ho.f1; omega
  have ht64 : t < 64 := by have := ho.t1; omega
  have HB0 : Hid (Bb w p m f t ((((w.alloc (.cells (pl p).toArray 26)).alloc (.cells (ml m).toArray 35)).alloc (.cells (cl Zb).toArray 24)).alloc (.cells (cl p.B).toArray 24)) p.B) := by
    have k2 := (((Kept.refl ((w.alloc (.cells (pl p).toArray 26)).alloc (.cells (ml m).toArray 35))).alloc (.cells (cl Zb).toArray 24)).alloc (.cells (cl p.B).toArray 24))
    have a2 := heap_alloc2_old ((w.alloc (.cells (pl p).toArray 26)).alloc (.cells (ml m).toArray 35)) (.cells (cl Zb).toArray 24) (.cells (cl p.B).toArray 24)
    have a3 := heap_alloc2_new ((w.alloc (.cells (pl p).toArray 26)).alloc (.cells (ml m).toArray 35)) (.cells (cl Zb).toArray 24) (.cells (cl p.B).toArray 24)
    have hsz : ((w.alloc (.cells (pl p).toArray 26)).alloc (.cells (ml m).toArray 35)).heap.size = w.heap.size + 2 := by simp
    rw [hsz] at a2 a3
    exact ⟨HP.out.kept k2, MAt.kept HM.out k2, hf, ht, a2, a3, hB.1, HK0.out.trans k2⟩
  have HP3 := Lib.hid (HP.out.kept ((Kept.refl _).alloc (.cells (cl Zb).toArray 24)))
  have HB := Lib.hid hB
  have HT := Lib.hid hT
  have hpl : Hid (p.B.length = 64) := hB.1
  have HTk := Lib.hid (fun w hw => taken_is p hB m ho w hw)
  have HCs := Lib.hid (fun w hw => castling_is p hB c0 c1 m w hw)
  have HMd := Lib.hid (fun w => mid_is m ho w)
  have HTl := Lib.hid (take_lt (p := p) ho)
  have HFt : Hid (m.f = f ∧ m.t = t) := ⟨hf, ht⟩
  have HPr := Lib.hid hpr
  have HT01 := Lib.hid t01
  have HS1 : Hid (st1 p m = if takeB p m then p.B.set (takeS p m).toNat 0 else p.B) := rfl
  have HS2 : Hid (∀ B, st2 p m B = if castN p m < 4 then (B.set (hRk (castN p m)) 0).set ((m.f + m.t) / 2).toNat (B.getD (hRk (castN p m)) 0) else B) := fun _ => rfl
  have HFin : Hid (behB p m = st4 p m (st3 m (st2 p m (st1 p m)))) := rfl
  clear hB hT c0 c1 ho hf ht hpr t01 HP HM HK0
  go_enter Tryz.func34, Tryz.ntmps34
  go_wp2_with (first
    | (with_reducible refine wpList_new_b rfl rfl ?_)
    | ((with_reducible refine wpList_store_new rfl _ _ rfl Zb p.B Zb_len hpl.out ?_ ?_ ?_); exact rfl; exact rfl)
    | (refine wpList_load_pb (by rfl) _ rfl _ rfl _ HP3.out ?_)
    | (refine wpList_load_ps (by rfl) _ rfl _ rfl _ HB0.out.hp ?_)
    | (refine wpList_load_mv (by rfl) _ rfl _ rfl _ HB0.out.hm ?_))
  refine (HTk.out _ (HT.out.kept HB0.out.hk)).mono ?_
  rintro e w1 ⟨rfl, k1⟩
  have H1 := Lib.hid (HB0.out.kept k1)
  clear k1 HB0 HP3
  go_upto_if 18 with fail
  go_cut [] from 6 (fun wc => Bb w p m f t wc (st1 p m))
  case first =>
    obtain ⟨k, hk⟩ := Int.eq_ofNat_of_zero_le HTl.out.1
    have hk64 : k < 64 := by have := HTl.out.2; omega
    rw [hk] at HS1
    have hkn : ((k : Int)).toNat = k := by simp
    rw [hkn] at HS1
    rw [hk]
    clear hk hkn
    cases hb : takeB p m
    · rw [hb] at HS1
      have HE : Hid (st1 p m = p.B) := HS1.out
      go_wp2
      go_meet
      case rel => rw [HE.out]; exact H1.out
    · rw [hb] at HS1
      have HE : Hid (st1 p m = p.B.set k 0) := HS1.out
      have x1 := H1.out.cell k hk64
      have x2 := H1.out.frozen k
      have H2 := Lib.hid (H1.out.set k 0)
      generalize p.B.getD k 0 = y at *
      go_wp2
      go_meet
      case rel => rw [HE.out]; exact H2.out
  case rest =>
  have H2 := Lib.hid hcut
  clear hcut H1 HS1 HTl HTk
  generalize st1 p m = B1 at *
  go_wp2_with (first
    | (refine wpList_load_ps (by rfl) _ rfl _ rfl _ H2.out.hp ?_)
    | (refine wpList_load_mv (by rfl) _ rfl _ rfl _ H2.out.hm ?_))
  refine (HCs.out _ (HT.out.kept H2.out.hk)).mono ?_
  rintro e w3 ⟨rfl, k3⟩
  have H3 := Lib.hid ((H2.out.kept k3).kept ((Kept.refl w3).alloc (.cells (wl (castN p m)).toArray 85)))
  have HW3 : Hid (RAt _ _ (wl (castN p m)) 85) := ⟨heap_alloc_new w3 (.cells (wl (castN p m)).toArray 85)⟩
  have hgw : Hid (w.heap.size + 3 < w3.heap.size) := lt_of_heap (H2.out.kept k3).hb
  clear k3
  go_upto_if 27 with (first | (with_reducible refine wpList_new_wi rfl rfl ?_) | ((with_reducible refine wpList_store_newwi rfl _ _ rfl 4 (castN p m) ?_ ?_ ?_); exact rfl; exact rfl))
  generalize w3.alloc (.cells (wl (castN p m)).toArray 85) = W3 at *
  generalize w3.heap.size = gw at *
  go_cut [] from 6 (fun wc => Bb w p m f t wc (st2 p m B1))
  case first =>
    by_cases hc : castN p m < 4
    · have HE := Lib.hid (HS2.out B1)
      rw [if_pos hc] at HE
      have HRk := Lib.hid (hRk_lt (castN p m))
      have y2 : Hid (_ = some (Value.int .i64 (hRk (castN p m)))) := HW3.out.cellK 2
      have hmd : Hid (((f : Int) + t) / 2 = (((f + t) / 2 : Nat) : Int)) := by show _ = _; omega
      have hmd64 : (f + t) / 2 < 64 := by omega
      rw [HFt.out.1, HFt.out.2, hmd.out] at HMd HE
      have hnn : ((((f + t) / 2 : Nat) : Int)).toNat = (f + t) / 2 := Int.toNat_natCast _
      rw [hnn] at HE
      clear hnn
      generalize hRk (castN p m) = rk at *
      generalize (f + t) / 2 = md at *
      obtain ⟨x, hx⟩ : ∃ x, B1.getD rk 0 = x := ⟨_, rfl⟩
      rw [hx] at HE
      have HX := Lib.hid hx
      clear hx
      rw [decide_eq_true hc]
      have hrk64 : rk < 64 := HRk.out
      have hrkI : (rk : Int) < 64 := by omega
      have hmdI : (md : Int) < 64 := by omega
      have hne1 : w.heap.size + 1 ≠ w.heap.size + 3 := by omega
      have hne2 : gw ≠ w.heap.size + 3 := by have := hgw.out; omega
      clear hc
      go_wp2
      refine wp_region_held_drew (S := KB (W3) (w.heap.size + 3)) (by kernel_rfl) ((KB.refl _ _).kept (Kept.refl _).drew) (fun hHeld => ?_)
      have hKp := (Kept.refl (W3)).drew
      refine rg_take (i := 0) (v := (.pointer (some ⟨gw, 2, none⟩))) (some 28) rfl rfl (by kernel_rfl) (by kernel_rfl) (by kernel_rfl) (fun _ _ _ h => h) (Or.inl ⟨by rfl, fun _ _ => by go_simp⟩) hHeld ?_
      simp only [Act.put, List.setIfInBounds_toArray, List.set_cons_zero, List.set_cons_succ]
      refine rg_take (i := 1) (v := (.int .i64 ↑rk)) (some 29) rfl rfl (by kernel_rfl) (by kernel_rfl) (by kernel_rfl) (fun _ _ _ h => h) (Or.inl ⟨by rfl, fun w' h => by have h' := KB.cell h (hne2) (y2.out); go_simp⟩) hHeld ?_
      simp only [Act.put, List.setIfInBounds_toArray, List.set_cons_zero, List.set_cons_succ]
      refine rg_take (i := 2) (some 30) rfl rfl (by kernel_rfl) (by kernel_rfl) (by kernel_rfl) (fun _ _ _ h => h) (take_load_mv (by rfl) _ rfl _ rfl m (fun _ h => MAt.kb (H3.out.hm) h (hne1))) hHeld ?_
      simp only [Act.put, List.setIfInBounds_toArray, List.set_cons_zero, List.set_cons_succ]
      refine rg_take (i := 4) (v := (.pointer (some ⟨gw, 2, none⟩))) (some 32) rfl rfl (by kernel_rfl) (by kernel_rfl) (by kernel_rfl) (fun _ _ _ h => h) (Or.inl ⟨by rfl, fun _ _ => by go_simp⟩) hHeld ?_
      simp only [Act.put, List.setIfInBounds_toArray, List.set_cons_zero, List.set_cons_succ]
      refine rg_take (i := 5) (v := (.int .i64 ↑rk)) (some 33) rfl rfl (by kernel_rfl) (by kernel_rfl) (by kernel_rfl) (fun _ _ _ h => h) (Or.inl ⟨by rfl, fun w' h => by have h' := KB.cell h (hne2) (y2.out); go_simp⟩) hHeld ?_
      simp only [Act.put, List.setIfInBounds_toArray, List.set_cons_zero, List.set_cons_succ]
      refine rg_take (i := 6) (v := (.pointer (some ⟨w.heap.size + 3, rk, none⟩))) (some 34) rfl rfl (by kernel_rfl) (by kernel_rfl) (by kernel_rfl) (fun _ _ _ h => h) (Or.inl ⟨by rfl, fun _ _ => by go_simp⟩) hHeld ?_
      simp only [Act.put, List.setIfInBounds_toArray, List.set_cons_zero, List.set_cons_succ]
      refine wpAnyH_ready (rs := [3, 7]) (by kernel_rfl) (by simp) ?_
      refine AllReadyH.cons rfl (fun K hK => ?_) (AllReadyH.cons rfl (fun K hK => ?_) AllReadyH.nil)
      · go_simp
        refine (HMd.out _).mono ?_
        rintro e w4 ⟨rfl, k4⟩
        refine hK.out _ _ (hHeld.kept k4) (fun _ => ?_)
        replace hHeld := hHeld.kept k4
        replace hKp := hKp.trans k4
        clear hK K k4
        have a7 := (H3.out.kept hKp).cell rk hrk64
        rw [HX.out] at a7
        refine wpAnyH_ready (rs := [7]) (by kernel_rfl) (by simp) ?_
        refine AllReadyH.cons rfl (fun K hK => ?_) AllReadyH.nil
        go_simp
        refine hK.out _ _ hHeld (fun _ => ?_)
        clear hK K a7
        refine rg_take (i := 8) (v := (.pointer (some ⟨w.heap.size + 3, rk, none⟩))) (some 36) rfl rfl (by kernel_rfl) (by kernel_rfl) (by kernel_rfl) (fun _ _ _ h => h) (Or.inl ⟨by rfl, fun _ _ => by go_simp⟩) hHeld ?_
        simp only [Act.put, List.setIfInBounds_toArray, List.set_cons_zero, List.set_cons_succ]
        have H5 := Lib.hid (H3.out.kept hKp)
        have a9 := H5.out.cell rk hrk64
        have f9 := H5.out.frozen rk
        refine wpAnyH_ready (rs := [9]) (by kernel_rfl) (by simp) ?_
        refine AllReadyH.cons rfl (fun K hK => ?_) AllReadyH.nil
        go_simp
        have H6 := Lib.hid (H5.out.set rk 0)
        refine hK.out _ _ (KB.set hHeld rk (.int .i8 0)) (fun hHeld => ?_)
        clear hK K a9 f9
        generalize w4.setCell ⟨w.heap.size + 3, rk, none⟩ (.int .i8 0) = y6 at *
        refine rg_take (i := 10) (v := (.pointer (some ⟨w.heap.size + 3, md, none⟩))) (some 37) rfl rfl (by kernel_rfl) (by kernel_rfl) (by kernel_rfl) (fun _ _ _ h => h) (Or.inl ⟨by rfl, fun _ _ => by go_simp⟩) hHeld ?_
        simp only [Act.put, List.setIfInBounds_toArray, List.set_cons_zero, List.set_cons_succ]
        have a9 := H6.out.cell md hmd64
        have f9 := H6.out.frozen md
        refine wpAnyH_ready (rs := [11]) (by kernel_rfl) (by simp) ?_
        refine AllReadyH.cons rfl (fun K hK => ?_) AllReadyH.nil
        go_simp
        have H7 := Lib.hid (H6.out.set md x)
        refine hK.out _ _ (KB.set hHeld md (.int .i8 x)) (fun hHeld => ?_)
        clear hK K a9 f9
        generalize y6.setCell ⟨w.heap.size + 3, md, none⟩ (.int .i8 x) = y7 at *
        refine wpAnyH_done (by kernel_rfl) ?_ _
        go_wp2
        go_meet
        case rel => rw [HE.out]; exact H7.out
      · have a7 := (H3.out.kept hKp).cell rk hrk64
        rw [HX.out] at a7
        go_simp
        refine hK.out _ _ hHeld (fun _ => ?_)
        clear hK K a7
        refine rg_take (i := 8) (v := (.pointer (some ⟨w.heap.size + 3, rk, none⟩))) (some 36) rfl rfl (by kernel_rfl) (by kernel_rfl) (by kernel_rfl) (fun _ _ _ h => h) (Or.inl ⟨by rfl, fun _ _ => by go_simp⟩) hHeld ?_
        simp only [Act.put, List.setIfInBounds_toArray, List.set_cons_zero, List.set_cons_succ]
        refine wpAnyH_ready (rs := [3]) (by kernel_rfl) (by simp) ?_
        refine AllReadyH.cons rfl (fun K hK => ?_) AllReadyH.nil
        go_simp
        refine (HMd.out _).mono ?_
        rintro e w4 ⟨rfl, k4⟩
        refine hK.out _ _ (hHeld.kept k4) (fun _ => ?_)
        replace hHeld := hHeld.kept k4
        replace hKp := hKp.trans k4
        clear hK K k4
        have H5 := Lib.hid (H3.out.kept hKp)
        have a9 := H5.out.cell rk hrk64
        have f9 := H5.out.frozen rk
        refine wpAnyH_ready (rs := [9]) (by kernel_rfl) (by simp) ?_
        refine AllReadyH.cons rfl (fun K hK => ?_) AllReadyH.nil
        go_simp
        have H6 := Lib.hid (H5.out.set rk 0)
        refine hK.out _ _ (KB.set hHeld rk (.int .i8 0)) (fun hHeld => ?_)
        clear hK K a9 f9
        generalize w4.setCell ⟨w.heap.size + 3, rk, none⟩ (.int .i8 0) = y6 at *
        refine rg_take (i := 10) (v := (.pointer (some ⟨w.heap.size + 3, md, none⟩))) (some 37) rfl rfl (by kernel_rfl) (by kernel_rfl) (by kernel_rfl) (fun _ _ _ h => h) (Or.inl ⟨by rfl, fun _ _ => by go_simp⟩) hHeld ?_
        simp only [Act.put, List.setIfInBounds_toArray, List.set_cons_zero, List.set_cons_succ]
        have a9 := H6.out.cell md hmd64
        have f9 := H6.out.frozen md
        refine wpAnyH_ready (rs := [11]) (by kernel_rfl) (by simp) ?_
        refine AllReadyH.cons rfl (fun K hK => ?_) AllReadyH.nil
        go_simp
        have H7 := Lib.hid (H6.out.set md x)
        refine hK.out _ _ (KB.set hHeld md (.int .i8 x)) (fun hHeld => ?_)
        clear hK K a9 f9
        generalize y6.setCell ⟨w.heap.size + 3, md, none⟩ (.int .i8 x) = y7 at *
        refine wpAnyH_done (by kernel_rfl) ?_ _
        go_wp2
        go_meet
        case rel => rw [HE.out]; exact H7.out
    · have HE := Lib.hid (HS2.out B1)
      rw [if_neg hc] at HE
      rw [decide_eq_false hc]
      clear hc
      go_wp2
      go_meet
      case rel => rw [HE.out]; exact H3.out
  case rest =>
  have H4 := Lib.hid hcut
  clear hcut H2 H3 HS2 HCs HW3 hgw
  generalize st2 p m B1 = B2 at *
  have HE3 : Hid (st3 m B2 = (B2.set f 0).set t (B2.getD f 0)) := by show _ = _; unfold st3; rw [HFt.out.1, HFt.out.2, Int.toNat_natCast, Int.toNat_natCast]
  obtain ⟨x, hx⟩ : ∃ x, B2.getD f 0 = x := ⟨_, rfl⟩
  rw [hx] at HE3
  have HX := Lib.hid hx
  have hfI : (f : Int) < 64 := by omega
  have htI : (t : Int) < 64 := by omega
  have hne1 : w.heap.size + 1 ≠ w.heap.size + 3 := by omega
  have hne0 : w.heap.size ≠ w.heap.size + 3 := by omega
  clear hx
  go_wp2
  refine wp_region_held_drew (S := KB (wc) (w.heap.size + 3)) (by kernel_rfl) ((KB.refl _ _).kept (Kept.refl _).drew) (fun hHeld => ?_)
  have hKp := (Kept.refl (wc)).drew
  generalize wc.drew = w8 at *
  refine rg_take (i := 0) (v := (.pointer (some ⟨w.heap.size + 1, 0, none⟩))) (some 38) rfl rfl (by kernel_rfl) (by kernel_rfl) (by kernel_rfl) (fun _ _ _ h => h) (Or.inl ⟨by rfl, fun _ _ => by go_simp⟩) hHeld ?_
  simp only [Act.put, List.setIfInBounds_toArray, List.set_cons_zero, List.set_cons_succ]
  refine rg_take (i := 1) (v := (.int .i64 ↑f)) (some 39) rfl rfl (by kernel_rfl) (by kernel_rfl) (by kernel_rfl) (fun _ _ _ h => h) (Or.inl ⟨by rfl, fun w' h => by have h' := KB.cell h (hne1) (H4.out.cf); go_simp⟩) hHeld ?_
  simp only [Act.put, List.setIfInBounds_toArray, List.set_cons_zero, List.set_cons_succ]
  refine rg_take (i := 4) (v := (.pointer (some ⟨w.heap.size + 1, 0, none⟩))) (some 42) rfl rfl (by kernel_rfl) (by kernel_rfl) (by kernel_rfl) (fun _ _ _ h => h) (Or.inl ⟨by rfl, fun _ _ => by go_simp⟩) hHeld ?_
  simp only [Act.put, List.setIfInBounds_toArray, List.set_cons_zero, List.set_cons_succ]
  refine rg_take (i := 5) (v := (.int .i64 ↑f)) (some 43) rfl rfl (by kernel_rfl) (by kernel_rfl) (by kernel_rfl) (fun _ _ _ h => h) (Or.inl ⟨by rfl, fun w' h => by have h' := KB.cell h (hne1) (H4.out.cf); go_simp⟩) hHeld ?_
  simp only [Act.put, List.setIfInBounds_toArray, List.set_cons_zero, List.set_cons_succ]
  refine rg_take (i := 2) (v := (.pointer (some ⟨w.heap.size + 1, 1, none⟩))) (some 40) rfl rfl (by kernel_rfl) (by kernel_rfl) (by kernel_rfl) (fun _ _ _ h => h) (Or.inl ⟨by rfl, fun _ _ => by go_simp⟩) hHeld ?_
  simp only [Act.put, List.setIfInBounds_toArray, List.set_cons_zero, List.set_cons_succ]
  refine rg_take (i := 3) (v := (.int .i64 ↑t)) (some 41) rfl rfl (by kernel_rfl) (by kernel_rfl) (by kernel_rfl) (fun _ _ _ h => h) (Or.inl ⟨by rfl, fun w' h => by have h' := KB.cell h (hne1) (H4.out.ct); go_simp⟩) hHeld ?_
  simp only [Act.put, List.setIfInBounds_toArray, List.set_cons_zero, List.set_cons_succ]
  refine rg_take (i := 6) (v := (.pointer (some ⟨w.heap.size + 3, f, none⟩))) (some 44) rfl rfl (by kernel_rfl) (by kernel_rfl) (by kernel_rfl) (fun _ _ _ h => h) (Or.inl ⟨by rfl, fun _ _ => by go_simp⟩) hHeld ?_
  simp only [Act.put, List.setIfInBounds_toArray, List.set_cons_zero, List.set_cons_succ]
  have H4' := Lib.hid (H4.out.kept hKp)
  have a7 := H4'.out.cell f hf64
  rw [HX.out] at a7
  refine wpAnyH_ready (rs := [7]) (by kernel_rfl) (by simp) ?_
  refine AllReadyH.cons rfl (fun K hK => ?_) AllReadyH.nil
  go_simp
  refine hK.out _ _ hHeld (fun _ => ?_)
  clear hK K a7
  refine rg_take (i := 8) (v := (.pointer (some ⟨w.heap.size + 3, f, none⟩))) (some 46) rfl rfl (by kernel_rfl) (by kernel_rfl) (by kernel_rfl) (fun _ _ _ h => h) (Or.inl ⟨by rfl, fun _ _ => by go_simp⟩) hHeld ?_
  simp only [Act.put, List.setIfInBounds_toArray, List.set_cons_zero, List.set_cons_succ]
  have a9 := H4'.out.cell f hf64
  have f9 := H4'.out.frozen f
  refine wpAnyH_ready (rs := [9]) (by kernel_rfl) (by simp) ?_
  refine AllReadyH.cons rfl (fun K hK => ?_) AllReadyH.nil
  go_simp
  have H5 := Lib.hid (H4'.out.set f 0)
  refine hK.out _ _ (KB.set hHeld f (.int .i8 0)) (fun hHeld => ?_)
  clear hK K a9 f9
  generalize w8.setCell ⟨w.heap.size + 3, f, none⟩ (.int .i8 0) = y6 at *
  refine rg_take (i := 10) (v := (.pointer (some ⟨w.heap.size + 3, t, none⟩))) (some 47) rfl rfl (by kernel_rfl) (by kernel_rfl) (by kernel_rfl) (fun _ _ _ h => h) (Or.inl ⟨by rfl, fun _ _ => by go_simp⟩) hHeld ?_
  simp only [Act.put, List.setIfInBounds_toArray, List.set_cons_zero, List.set_cons_succ]
  have a9 := H5.out.cell t ht64
  have f9 := H5.out.frozen t
  refine wpAnyH_ready (rs := [11]) (by kernel_rfl) (by simp) ?_
  refine AllReadyH.cons rfl (fun K hK => ?_) AllReadyH.nil
  go_simp
  have H6 := Lib.hid (H5.out.set t x)
  rw [← HE3.out] at H6
  refine hK.out _ _ (KB.set hHeld t (.int .i8 x)) (fun hHeld => ?_)
  clear hK K a9 f9
  generalize y6.setCell ⟨w.heap.size + 3, t, none⟩ (.int .i8 x) = y7 at *
  refine wpAnyH_done (by kernel_rfl) ?_ _
  have HL3 := Lib.hid (st3_len (m := m) H4.out.len)
  have HE4 : Hid (∀ B, st4 p m B = if m.p != 0 then B.set t (mkI m.p p.t) else B) := fun B => by unfold st4; rw [HFt.out.2, Int.toNat_natCast]
  clear H4 H4' H5 hHeld hKp HX HE3
  generalize st3 m B2 = B3 at *
  have cp := H6.out.hm.p
  go_upto_if 50 with fail
  clear cp
  go_cut [] from 6 (fun wd => Bb w p m f t wd (st4 p m B3))
  case first =>
    cases hp0 : (m.p != 0)
    · have HE := Lib.hid (HE4.out B3)
      rw [hp0] at HE
      have HE' : Hid (st4 p m B3 = B3) := HE.out
      go_wp2
      go_meet
      case rel => rw [HE'.out]; exact H6.out
    · have HE := Lib.hid (HE4.out B3)
      rw [hp0] at HE
      have HE' : Hid (st4 p m B3 = B3.set t (mkI m.p p.t)) := HE.out
      have hp25 : Hid (2 ≤ m.p ∧ m.p ≤ 5) := by
        have h1 := HPr.out
        have h2 := bne_iff_ne.1 hp0
        unfold promoB at h1
        simp only [Bool.or_eq_true, Bool.and_eq_true, beq_iff_eq, decide_eq_true_eq] at h1
        exact h1.resolve_left h2
      have HMk := Lib.hid (fun w => mmake_is m.p p.t w (by have := hp25.out; omega) (by have := hp25.out; omega) HT01.out)
      have hi8 := mk_i8 (t := p.t) hp25.out.1 hp25.out.2
      generalize mkI m.p p.t = x at *
      go_wp2
      refine wp_region_held_drew (S := KB (y7) (w.heap.size + 3)) (by kernel_rfl) ((KB.refl _ _).kept (Kept.refl _).drew) (fun hHeld => ?_)
      have hKp := (Kept.refl (y7)).drew
      refine rg_take (i := 0) (v := (.pointer (some ⟨w.heap.size + 1, 1, none⟩))) (some 51) rfl rfl (by kernel_rfl) (by kernel_rfl) (by kernel_rfl) (fun _ _ _ h => h) (Or.inl ⟨by rfl, fun _ _ => by go_simp⟩) hHeld ?_
      simp only [Act.put, List.setIfInBounds_toArray, List.set_cons_zero, List.set_cons_succ]
      refine rg_take (i := 1) (v := (.int .i64 ↑t)) (some 52) rfl rfl (by kernel_rfl) (by kernel_rfl) (by kernel_rfl) (fun _ _ _ h => h) (Or.inl ⟨by rfl, fun w' h => by have h' := KB.cell h (hne1) (H6.out.ct); go_simp⟩) hHeld ?_
      simp only [Act.put, List.setIfInBounds_toArray, List.set_cons_zero, List.set_cons_succ]
      refine rg_take (i := 2) (v := (.pointer (some ⟨w.heap.size + 1, 2, none⟩))) (some 53) rfl rfl (by kernel_rfl) (by kernel_rfl) (by kernel_rfl) (fun _ _ _ h => h) (Or.inl ⟨by rfl, fun _ _ => by go_simp⟩) hHeld ?_
      simp only [Act.put, List.setIfInBounds_toArray, List.set_cons_zero, List.set_cons_succ]
      refine rg_take (i := 3) (v := (.int .i64 m.p)) (some 54) rfl rfl (by kernel_rfl) (by kernel_rfl) (by kernel_rfl) (fun _ _ _ h => h) (Or.inl ⟨by rfl, fun w' h => by have h' := KB.cell h (hne1) (H6.out.hm.p); go_simp⟩) hHeld ?_
      simp only [Act.put, List.setIfInBounds_toArray, List.set_cons_zero, List.set_cons_succ]
      refine rg_take (i := 4) (v := (.pointer (some ⟨w.heap.size, 64, none⟩))) (some 55) rfl rfl (by kernel_rfl) (by kernel_rfl) (by kernel_rfl) (fun _ _ _ h => h) (Or.inl ⟨by rfl, fun _ _ => by go_simp⟩) hHeld ?_
      simp only [Act.put, List.setIfInBounds_toArray, List.set_cons_zero, List.set_cons_succ]
      refine rg_take (i := 5) (v := (.int .i64 p.t)) (some 56) rfl rfl (by kernel_rfl) (by kernel_rfl) (by kernel_rfl) (fun _ _ _ h => h) (Or.inl ⟨by rfl, fun w' h => by have h' := KB.cell h (hne0) (H6.out.hp.turn); go_simp⟩) hHeld ?_
      simp only [Act.put, List.setIfInBounds_toArray, List.set_cons_zero, List.set_cons_succ]
      refine wpAnyH_ready (rs := [6]) (by kernel_rfl) (by simp) ?_
      refine AllReadyH.cons rfl (fun K hK => ?_) AllReadyH.nil
      go_simp
      refine (HMk.out _).mono ?_
      rintro e w9 ⟨rfl, gw9⟩
      refine hK.out _ _ (hHeld.kept gw9) (fun _ => ?_)
      replace hHeld := hHeld.kept gw9
      replace hKp := hKp.trans gw9
      clear hK K
      refine rg_take (i := 7) (v := (.int .i8 x)) (some 58) rfl rfl (by kernel_rfl) (by kernel_rfl) (by kernel_rfl) (fun _ _ _ h => h) (Or.inl ⟨by rfl, fun _ _ => by go_simp⟩) hHeld ?_
      simp only [Act.put, List.setIfInBounds_toArray, List.set_cons_zero, List.set_cons_succ]
      refine rg_take (i := 8) (v := (.pointer (some ⟨w.heap.size + 3, t, none⟩))) (some 59) rfl rfl (by kernel_rfl) (by kernel_rfl) (by kernel_rfl) (fun _ _ _ h => h) (Or.inl ⟨by rfl, fun _ _ => by go_simp⟩) hHeld ?_
      simp only [Act.put, List.setIfInBounds_toArray, List.set_cons_zero, List.set_cons_succ]
      have H7 := Lib.hid (H6.out.kept hKp)
      have a9 := H7.out.cell t ht64
      have f9 := H7.out.frozen t
      refine wpAnyH_ready (rs := [9]) (by kernel_rfl) (by simp) ?_
      refine AllReadyH.cons rfl (fun K hK => ?_) AllReadyH.nil
      go_simp
      have H8 := Lib.hid (H7.out.set t x)
      refine hK.out _ _ (KB.set hHeld t (.int .i8 x)) (fun hHeld => ?_)
      clear hK K a9 f9
      generalize w9.setCell ⟨w.heap.size + 3, t, none⟩ (.int .i8 x) = y8 at *
      refine wpAnyH_done (by kernel_rfl) ?_ _
      go_wp2
      go_meet
      case rel => rw [HE'.out]; exact H8.out
  case rest =>
  have H7 := Lib.hid hcut
  clear hcut H6 HE4
  have HL4 := Lib.hid (st4_len (p := p) (m := m) HL3.out)
  have hz := Lib.hid (size_cl HL4.out)
  generalize st4 p m B3 = B4 at *
  go_wp2_with (first | (refine wpList_load_w (by rfl) _ rfl _ rfl _ H7.out.hb hz.out ?_) | (refine wpList_store_row rfl 24 _ _ rfl (w.heap.size + 2) (cl B4).toArray rfl rfl 24 _ H7.out.hr hz.out (by rw [cl_size _ Zb_brd.1, cl_size _ HL4.out]) (cl_one _) ?_))
  refine bodyPost_ret (v := .agg (cl B4).toArray) ?_ rfl ⟨?_, ?_⟩
  · exact results_cell_row rfl _ _ (w.heap.size + 2) 24 _ (0, 0) _ rfl (setRow_heap _ _ _ _ _ _ H7.out.hr) Tryz.underlying24 rfl hz.out
  · rw [HFin.out]
  · exact H7.out.hk.setRow (by omega) _
end Go.Proofs.YtgcippicdhaaeaaGreatDoor
namespace Go.Proofs.YtgcippicdhaaeaaGreatDoor
open Go.RowKit
set_option linter.unusedVariables false
set_option linter.unusedSimpArgs false
set_option maxRecDepth 100000

/-- The position behind a move. -/
def behP (p : Ps) (m : Mv) : Ps := ⟨behB p m, otherI p.t, rtN p.c m 4, epI p m⟩
def RetPE (w : World) (q : Ps) (x : Int) (e : Ending) (w' : World) : Prop := e = .returned (.tuple #[.agg (pl q).toArray, .int .i64 x]) ∧ Kept w w'
set_option maxHeartbeats 2000000 in
theorem make_yes (p : Ps) (hB : Brd p.B) (m : Mv) (h : okM p m = true) (w : World) (hT : TabM w) :
    Calls Tryz.prog 17 #[.agg (pl p).toArray, .agg (ml m).toArray] w (RetPE w (behP p m) 0) := by
  obtain ⟨hw, hf⟩ := okM_right h
  obtain ⟨t01, ⟨c0, c1⟩, e0, e1⟩ := right_t hw
  have HP : Hid (PAt _ _ p) := ⟨hB.1, heap_alloc2_old w (.cells (pl p).toArray 26) (.cells (ml m).toArray 35)⟩
  have HM : Hid (MAt _ _ m) := ⟨heap_alloc2_new w (.cells (pl p).toArray 26) (.cells (ml m).toArray 35)⟩
  have HK0 := Lib.hid (((Kept.refl w).alloc (.cells (pl p).toArray 26)).alloc (.cells (ml m).toArray 35))
  have HK1 := Lib.hid (HK0.out.alloc (.cells (pl Zp).toArray 26))
  have HP1 := Lib.hid (HP.out.kept ((Kept.refl _).alloc (.cells (pl Zp).toArray 26)))
  have HM1 := Lib.hid (MAt.kept HM.out ((Kept.refl _).alloc (.cells (pl Zp).toArray 26)))
  have HR1 : Hid (PAt _ _ Zp) := PAt.new ((w.alloc (.cells (pl p).toArray 26)).alloc (.cells (ml m).toArray 35)) Zp_len
  have hsz : ((w.alloc (.cells (pl p).toArray 26)).alloc (.cells (ml m).toArray 35)).heap.size = w.heap.size + 2 := by simp
  rw [hsz] at HR1
  have HT := Lib.hid (hT.kept HK1.out)
  have HC := Lib.hid (fun w h => pwrong_is p hB w h)
  have HF := Lib.hid (fun w hw => formed_is p hB t01 m w hw)
  have HX1 := Lib.hid (fun w hw => board_is p hB t01 c0 c1 m (okM_on h) (form_promo hf) w hw)
  have HX2 := Lib.hid (other_any p.t)
  have HX3 := Lib.hid (fun w hw => rights_is p hB m w hw)
  have HX4 := Lib.hid (fun w => epb_is p hB m (okM_on h) w)
  have hpl : Hid (p.B.length = 64) := hB.1
  have hql : Hid ((behP p m).B.length = 64) := behB_len hB.1
  rw [hw] at HC
  rw [hf] at HF
  clear hB hT h HP HM HK0 hsz hf hw t01 c0 c1 e0 e1
  go_enter Tryz.func17, Tryz.ntmps17
  go_wp2_with (first | (with_reducible refine wpList_new_p rfl rfl ?_) | (refine wpList_load_ps (by rfl) _ rfl _ rfl _ HP1.out ?_))
  refine (HC.out _ HT.out.tabs).mono ?_
  rintro e w1 ⟨rfl, k1⟩
  have HK2 := Lib.hid (HK1.out.trans k1)
  have HR2 := Lib.hid (HR1.out.kept k1)
  have HP2 := Lib.hid (HP1.out.kept k1)
  have HM2 := Lib.hid (MAt.kept HM1.out k1)
  have HT2 := Lib.hid (HT.out.kept k1)
  clear k1
  go_wp2_with (first | (refine wpList_load_ps (by rfl) _ rfl _ rfl _ (HP2.out) ?_) | (refine wpList_load_pb (by rfl) _ rfl _ rfl _ (HP2.out) ?_) | (refine wpList_load_mv (by rfl) _ rfl _ rfl _ (HM2.out) ?_))
  refine (HF.out _ HT2.out).mono ?_
  rintro e w2 ⟨rfl, k2⟩
  have HK3 := Lib.hid (HK2.out.trans k2)
  have HR3 := Lib.hid (HR2.out.kept k2)
  have HP3 := Lib.hid (HP2.out.kept k2)
  have HM3 := Lib.hid (MAt.kept HM2.out k2)
  have HT3 := Lib.hid (HT2.out.kept k2)
  clear k2
  have hne0 : w.heap.size ≠ w.heap.size + 2 := by omega
  have hne1 : w.heap.size + 1 ≠ w.heap.size + 2 := by omega
  go_wp2
  refine wp_region_held_drew (S := KB (w2) (w.heap.size + 2)) (by kernel_rfl) ((KB.refl _ _).kept (Kept.refl _).drew) (fun hHeld => ?_)
  have hKp := (Kept.refl (w2)).drew
  refine rg_take (i := 0) (some 18) rfl rfl (by kernel_rfl) (by kernel_rfl) (by kernel_rfl) (fun _ _ _ h => h) (take_load_ps (by rfl) _ rfl _ rfl p hpl.out (fun _ h => (HP3.out).kb h (hne0))) hHeld ?_
  simp only [Act.put, List.setIfInBounds_toArray, List.set_cons_zero, List.set_cons_succ]
  refine rg_take (i := 1) (some 19) rfl rfl (by kernel_rfl) (by kernel_rfl) (by kernel_rfl) (fun _ _ _ h => h) (take_load_mv (by rfl) _ rfl _ rfl m (fun _ h => MAt.kb (HM3.out) h (hne1))) hHeld ?_
  simp only [Act.put, List.setIfInBounds_toArray, List.set_cons_zero, List.set_cons_succ]
  refine rg_take (i := 3) (v := (.pointer (some ⟨w.heap.size, 64, none⟩))) (some 21) rfl rfl (by kernel_rfl) (by kernel_rfl) (by kernel_rfl) (fun _ _ _ h => h) (Or.inl ⟨by rfl, fun _ _ => by go_simp⟩) hHeld ?_
  simp only [Act.put, List.setIfInBounds_toArray, List.set_cons_zero, List.set_cons_succ]
  refine rg_take (i := 4) (v := (.int .i64 p.t)) (some 22) rfl rfl (by kernel_rfl) (by kernel_rfl) (by kernel_rfl) (fun _ _ _ h => h) (Or.inl ⟨by rfl, fun w' h => by have h' := KB.cell h (hne0) (HP3.out.turn); go_simp⟩) hHeld ?_
  simp only [Act.put, List.setIfInBounds_toArray, List.set_cons_zero, List.set_cons_succ]
  refine rg_take (i := 6) (some 24) rfl rfl (by kernel_rfl) (by kernel_rfl) (by kernel_rfl) (fun _ _ _ h => h) (take_load_ps (by rfl) _ rfl _ rfl p hpl.out (fun _ h => (HP3.out).kb h (hne0))) hHeld ?_
  simp only [Act.put, List.setIfInBounds_toArray, List.set_cons_zero, List.set_cons_succ]
  refine rg_take (i := 7) (some 25) rfl rfl (by kernel_rfl) (by kernel_rfl) (by kernel_rfl) (fun _ _ _ h => h) (take_load_mv (by rfl) _ rfl _ rfl m (fun _ h => MAt.kb (HM3.out) h (hne1))) hHeld ?_
  simp only [Act.put, List.setIfInBounds_toArray, List.set_cons_zero, List.set_cons_succ]
  refine rg_take (i := 9) (some 27) rfl rfl (by kernel_rfl) (by kernel_rfl) (by kernel_rfl) (fun _ _ _ h => h) (take_load_ps (by rfl) _ rfl _ rfl p hpl.out (fun _ h => (HP3.out).kb h (hne0))) hHeld ?_
  simp only [Act.put, List.setIfInBounds_toArray, List.set_cons_zero, List.set_cons_succ]
  refine rg_take (i := 10) (some 28) rfl rfl (by kernel_rfl) (by kernel_rfl) (by kernel_rfl) (fun _ _ _ h => h) (take_load_mv (by rfl) _ rfl _ rfl m (fun _ h => MAt.kb (HM3.out) h (hne1))) hHeld ?_
  simp only [Act.put, List.setIfInBounds_toArray, List.set_cons_zero, List.set_cons_succ]
  refine wpAnyH_ready (rs := [2]) (by kernel_rfl) (by simp) ?_
  refine AllReadyH.cons rfl (fun K hK => ?_) AllReadyH.nil
  go_simp
  refine (HX1.out _ (HT3.out.kept hKp)).mono ?_
  rintro e x1 ⟨rfl, gx1⟩
  refine hK.out _ _ (hHeld.kept gx1) (fun _ => ?_)
  replace hHeld := hHeld.kept gx1
  replace hKp := hKp.trans gx1
  clear hK K
  refine wpAnyH_ready (rs := [5]) (by kernel_rfl) (by simp) ?_
  refine AllReadyH.cons rfl (fun K hK => ?_) AllReadyH.nil
  go_simp
  refine (HX2.out _).mono ?_
  rintro e x2 ⟨rfl, gx2⟩
  refine hK.out _ _ (hHeld.kept gx2) (fun _ => ?_)
  replace hHeld := hHeld.kept gx2
  replace hKp := hKp.trans gx2
  clear hK K
  refine wpAnyH_ready (rs := [8]) (by kernel_rfl) (by simp) ?_
  refine AllReadyH.cons rfl (fun K hK => ?_) AllReadyH.nil
  go_simp
  refine (HX3.out _ (HT3.out.kept hKp)).mono ?_
  rintro e x3 ⟨rfl, gx3⟩
  refine hK.out _ _ (hHeld.kept gx3) (fun _ => ?_)
  replace hHeld := hHeld.kept gx3
  replace hKp := hKp.trans gx3
  clear hK K
  refine wpAnyH_ready (rs := [11]) (by kernel_rfl) (by simp) ?_
  refine AllReadyH.cons rfl (fun K hK => ?_) AllReadyH.nil
  go_simp
  refine (HX4.out _).mono ?_
  rintro e x4 ⟨rfl, gx4⟩
  refine hK.out _ _ (hHeld.kept gx4) (fun _ => ?_)
  replace hHeld := hHeld.kept gx4
  replace hKp := hKp.trans gx4
  clear hK K
  refine rg_take (i := 12) (some 30) rfl rfl (by kernel_rfl) (by kernel_rfl) (by kernel_rfl) (fun _ _ _ h => h) (take_build_p4 (by rfl) _ _ _ _ rfl (behB p m) (otherI p.t) (rtN p.c m 4) (epI p m) hql.out rfl rfl rfl rfl) hHeld ?_
  simp only [Act.put, List.setIfInBounds_toArray, List.set_cons_zero, List.set_cons_succ]
  refine wpAnyH_ready (rs := [13]) (by kernel_rfl) (by simp) ?_
  refine AllReadyH.cons rfl (fun K hK => ?_) AllReadyH.nil
  rw [if_pos (by rfl)]
  have HR4 := Lib.hid (HR3.out.kept hKp)
  refine wp_store_row 26 _ _ rfl (w.heap.size + 2) (pl (behP p m)).toArray rfl rfl 26 _ HR4.out.at_ (size_pl hql.out) (by rw [pl_size Zp_len, pl_size hql.out]) (pl_one _) ?_
  refine hK.out _ _ (KB.row hHeld _) (fun hHeld => ?_)
  clear hK K
  refine rg_take (i := 14) (v := (.int .i64 0)) (some 5) rfl rfl (by kernel_rfl) (by kernel_rfl) (by kernel_rfl) (fun _ _ _ h => h) (Or.inl ⟨by rfl, fun _ _ => by go_simp⟩) hHeld ?_
  simp only [Act.put, List.setIfInBounds_toArray, List.set_cons_zero, List.set_cons_succ]
  refine wpAnyH_done (by kernel_rfl) ?_ _
  go_wp2
  refine bodyPost_ret (v := .tuple #[.agg (pl (behP p m)).toArray, .int .i64 0]) ?_ rfl ⟨rfl, (HK3.out.trans hKp).setRow (by omega) _⟩
  exact (results_pos_tmp (s := 4) (t := 5) rfl _ rfl (HR4.out.setRow hql.out)).trans rfl
end Go.Proofs.YtgcippicdhaaeaaGreatDoor
namespace Go.Proofs.YtgcippicdhaaeaaGreatDoor
open Go.RowKit
set_option linter.unusedVariables false
set_option linter.unusedSimpArgs false
set_option maxRecDepth 100000

theorem Fm.ne {p : Ps} {m : Mv} {f t : Nat} (h : Fm p m f t) : f ≠ t := by
  intro e
  have := h.own
  rw [e] at this
  exact h.oth this
theorem wTo_between (k : Nat) (hk : k < 4) : wLo k ≤ wTo k ∧ wTo k < wHi k := by
  have : k = 0 ∨ k = 1 ∨ k = 2 ∨ k = 3 := by omega
  rcases this with rfl | rfl | rfl | rfl <;> decide
theorem Cs.no_take {p : Ps} {m : Mv} {f t k : Nat} (c : Cs p m f t k) (h : Fm p m f t) : takeI p m = -1 := by
  have h0 : p.B.getD t 0 = 0 := by
    rw [c.et]
    exact (free_iff p.B k).1 c.free _ (wTo_lt k) (wTo_between k c.k4).1 (wTo_between k c.k4).2
  have e1 : bAt p.B m.t = 0 := by unfold bAt; rw [h.ht, Int.toNat_natCast]; exact h0
  have e2 : pawnB p m = false := by
    unfold pawnB bAt; rw [h.hf, Int.toNat_natCast, c.king]; exact (king_kind k c.k4).1
  unfold takeI epTake
  rw [if_neg (by simpa using e1), e2, Bool.false_and, Bool.false_and, if_neg (by decide)]
end Go.Proofs.YtgcippicdhaaeaaGreatDoor
namespace Go.Proofs.YtgcippicdhaaeaaGreatDoor
open Go.RowKit
set_option linter.unusedVariables false
set_option linter.unusedSimpArgs false
set_option maxRecDepth 100000

/-- How many men stand on the first k squares. -/
def nz (x : Int) : Nat := if x = 0 then 0 else 1
def cN (B : List Int) : Nat → Nat
  | 0 => 0
  | k + 1 => cN B k + nz (B.getD k 0)
theorem cN_set (B : List Int) (i : Nat) (x : Int) (h : i < B.length) : ∀ k, cN (B.set i x) k + (if i < k then nz (B.getD i 0) else 0) = cN B k + (if i < k then nz x else 0)
  | 0 => by simp [cN]
  | k + 1 => by
    have := cN_set B i x h k
    rw [cN, cN, getD_set _ _ _ _ h]
    by_cases e : i = k
    · subst e
      rw [if_neg (by omega), if_neg (by omega)] at this
      rw [if_pos rfl, if_pos (by omega), if_pos (by omega)]
      omega
    · rw [if_neg e]
      by_cases l : i < k
      · rw [if_pos l, if_pos l] at this
        rw [if_pos (by omega), if_pos (by omega)]
        omega
      · rw [if_neg l, if_neg l] at this
        rw [if_neg (by omega), if_neg (by omega)]
        omega
theorem cN_64 {B : List Int} (hl : B.length = 64) {i : Nat} (hi : i < 64) (x : Int) : cN (B.set i x) 64 + nz (B.getD i 0) = cN B 64 + nz x := by
  have := cN_set B i x (by omega) 64
  rwa [if_pos hi, if_pos hi] at this
theorem nz_0 : nz 0 = 0 := rfl
theorem nz_1 {x : Int} (h : x ≠ 0) : nz x = 1 := by unfold nz; rw [if_neg h]
/-- Where something is taken, a man of the other side stands. -/
theorem take_sq {p : Ps} {m : Mv} {f t : Nat} (h : Fm p m f t) (ht : 0 ≤ takeI p m) : (takeI p m).toNat < 64 ∧ p.B.getD (takeI p m).toNat 0 ≠ 0 ∧ (takeI p m).toNat ≠ f ∧ ((takeI p m).toNat = t ∨ p.B.getD t 0 = 0) := by
  have hlt : takeI p m < 64 := by
    have := take_lt (p := p) h.on
    unfold takeS at this
    rw [if_pos ht] at this
    exact this.2
  have hbt : bAt p.B m.t = p.B.getD t 0 := by unfold bAt; rw [h.ht, Int.toNat_natCast]
  by_cases h0 : bAt p.B m.t = 0
  · have hi : takeI p m = (if epTake p m then passI p else -1) := by unfold takeI; rw [if_neg (by simpa using h0)]
    split at hi
    · next he =>
      have hz : p.B.getD t 0 = 0 := by rw [← hbt]; exact h0
      have ho := h.own
      refine ⟨by omega, ?_⟩
      unfold passI at hi
      split at hi
      · next hp =>
        obtain ⟨q0, q1, q2, q3, q4, q5⟩ := hp
        have e5 : p.B.getD (takeI p m).toNat 0 = -1 := by rw [hi]; exact q5
        refine ⟨by rw [e5]; decide, ?_, .inr hz⟩
        intro e
        rw [e] at e5
        rw [e5, q0] at ho
        exact absurd ho (by decide)
      · split at hi
        · next hp =>
          obtain ⟨q0, q1, q2, q3, q4, q5⟩ := hp
          have e5 : p.B.getD (takeI p m).toNat 0 = 1 := by rw [hi]; exact q5
          refine ⟨by rw [e5]; decide, ?_, .inr hz⟩
          intro e
          rw [e] at e5
          rw [e5, q0] at ho
          exact absurd ho (by decide)
        · omega
    · omega
  · have hi : takeI p m = t := by unfold takeI; rw [if_pos h0]; exact h.ht
    rw [hi, Int.toNat_natCast]
    exact ⟨h.t1, by rw [← hbt]; exact h0, fun e => h.ne e.symm, .inl rfl⟩
theorem take_none {p : Ps} {m : Mv} {f t : Nat} (h : Fm p m f t) (ht : ¬ 0 ≤ takeI p m) : p.B.getD t 0 = 0 := by
  have hbt : bAt p.B m.t = p.B.getD t 0 := by unfold bAt; rw [h.ht, Int.toNat_natCast]
  by_cases h0 : bAt p.B m.t = 0
  · rw [← hbt]; exact h0
  · exfalso
    unfold takeI at ht
    rw [if_pos h0] at ht
    exact ht (by have := h.ht; omega)
theorem st1_cnt {p : Ps} {m : Mv} {f t : Nat} (h : Fm p m f t) : cN (st1 p m) 64 + (if takeB p m then 1 else 0) = cN p.B 64 ∧ (st1 p m).getD f 0 = p.B.getD f 0 ∧ (st1 p m).getD t 0 = 0 := by
  have hl := h.brd.1
  by_cases ht : 0 ≤ takeI p m
  · obtain ⟨a1, a2, a3, a4⟩ := take_sq h ht
    have hs : takeS p m = takeI p m := by unfold takeS; rw [if_pos ht]
    have hb : takeB p m = true := by unfold takeB; exact decide_eq_true ht
    have e : st1 p m = p.B.set (takeI p m).toNat 0 := by unfold st1; rw [hb, hs]; rfl
    rw [e, hb]
    have := cN_64 hl a1 0
    rw [nz_1 a2, nz_0] at this
    refine ⟨by simpa using this, ?_, ?_⟩
    · rw [getD_set _ _ _ _ (by omega), if_neg a3]
    · rw [getD_set _ _ _ _ (by omega)]
      rcases a4 with a4 | a4
      · rw [if_pos a4]
      · split
        · rfl
        · exact a4
  · have hb : takeB p m = false := by unfold takeB; exact decide_eq_false ht
    have e : st1 p m = p.B := by unfold st1; rw [hb]; rfl
    rw [e, hb]
    exact ⟨rfl, rfl, take_none h ht⟩
theorem cast_sq (k : Nat) (hk : k < 4) : (hKg k + wTo k) / 2 < 64 ∧ wLo k ≤ (hKg k + wTo k) / 2 ∧ (hKg k + wTo k) / 2 < wHi k ∧ (hKg k + wTo k) / 2 ≠ hRk k ∧ (hKg k + wTo k) / 2 ≠ hKg k ∧ (hKg k + wTo k) / 2 ≠ wTo k ∧ hRk k ≠ hKg k ∧ hRk k ≠ wTo k := by
  have : k = 0 ∨ k = 1 ∨ k = 2 ∨ k = 3 := by omega
  rcases this with rfl | rfl | rfl | rfl <;> decide
theorem st2_cnt {p : Ps} {m : Mv} {f t : Nat} (h : Fm p m f t) : cN (st2 p m (st1 p m)) 64 = cN (st1 p m) 64 ∧ (st2 p m (st1 p m)).getD f 0 = p.B.getD f 0 ∧ (st2 p m (st1 p m)).getD t 0 = 0 := by
  obtain ⟨h1, h2, h3⟩ := st1_cnt h
  by_cases hc : castN p m < 4
  · have c := cast_of h hc rfl
    have s1 : st1 p m = p.B := by unfold st1 takeB; rw [c.no_take h]; rfl
    have hl := h.brd.1
    have e : st2 p m (st1 p m) = (p.B.set (hRk (castN p m)) 0).set ((f + t) / 2) (p.B.getD (hRk (castN p m)) 0) := by
      unfold st2
      rw [if_pos hc, s1, show ((m.f + m.t) / 2).toNat = (f + t) / 2 by rw [h.hf, h.ht]; omega]
    have hr : p.B.getD (hRk (castN p m)) 0 ≠ 0 := by
      rw [c.rook]
      rcases h.t01 with q | q <;> rw [q] <;> decide
    obtain ⟨d1, d2, d3, d4, d5, d6, d7, d8⟩ := cast_sq (castN p m) hc
    have hrl := hRk_lt (castN p m)
    have hmd := (free_iff p.B _).1 c.free _ d1 d2 d3
    rw [← c.ef, ← c.et] at d1 hmd d4 d5 d6
    rw [← c.ef] at d7
    rw [← c.et] at d8
    rw [e, s1]
    rw [s1] at h3
    have l1 : (p.B.set (hRk (castN p m)) 0).length = 64 := by simpa using hl
    have c1 := cN_64 hl hrl 0
    have c2 := cN_64 l1 d1 (p.B.getD (hRk (castN p m)) 0)
    rw [getD_set _ _ _ _ (by omega), if_neg (fun x => d4 x.symm), hmd, nz_0] at c2
    rw [nz_0] at c1
    refine ⟨by omega, ?_, ?_⟩
    · rw [getD_set _ _ _ _ (by omega), if_neg d5, getD_set _ _ _ _ (by omega), if_neg d7]
    · rw [getD_set _ _ _ _ (by omega), if_neg d6, getD_set _ _ _ _ (by omega), if_neg d8]; exact h3
  · have e : st2 p m (st1 p m) = st1 p m := by unfold st2; rw [if_neg hc]
    rw [e]
    exact ⟨rfl, h2, h3⟩
end Go.Proofs.YtgcippicdhaaeaaGreatDoor
namespace Go.Proofs.YtgcippicdhaaeaaGreatDoor
open Go.RowKit
set_option linter.unusedVariables false
set_option linter.unusedSimpArgs false
set_option maxRecDepth 100000

/-- Who stands where behind a formed move. -/
theorem beh_at {p : Ps} {m : Mv} {f t : Nat} (h : Fm p m f t) {j : Nat} (hj : j < 64) :
    (j = t ∧ (behB p m).getD j 0 = if m.p != 0 then mkI m.p p.t else p.B.getD f 0) ∨ (j ≠ t ∧ ((behB p m).getD j 0 = 0 ∨ (castN p m < 4 ∧ (behB p m).getD j 0 = mkI 4 p.t ∧ p.B.getD j 0 = 0) ∨ (j ≠ f ∧ (behB p m).getD j 0 = p.B.getD j 0))) := by
  have hl := h.brd.1
  have l1 : (st1 p m).length = 64 := st1_len hl
  have l2 : (st2 p m (st1 p m)).length = 64 := st2_len l1
  have l3 : (st3 m (st2 p m (st1 p m))).length = 64 := st3_len l2
  obtain ⟨_, s2f, _⟩ := st2_cnt h
  have ef : m.f.toNat = f := by rw [h.hf, Int.toNat_natCast]
  have et : m.t.toNat = t := by rw [h.ht, Int.toNat_natCast]
  have h3 : ∀ i, (st3 m (st2 p m (st1 p m))).getD i 0 = if t = i then p.B.getD f 0 else if f = i then 0 else (st2 p m (st1 p m)).getD i 0 := by
    intro i
    unfold st3
    rw [ef, et, getD_set _ _ _ _ (by rw [List.length_set, l2]; exact h.t1), getD_set _ _ _ _ (by rw [l2]; exact h.f1), s2f]
  have h4 : (behB p m).getD j 0 = if t = j then (if m.p != 0 then mkI m.p p.t else p.B.getD f 0) else if f = j then 0 else (st2 p m (st1 p m)).getD j 0 := by
    unfold behB st4
    by_cases hp : (m.p != 0) = true
    · rw [if_pos hp, if_pos hp, et, getD_set _ _ _ _ (by rw [l3]; exact h.t1), h3]
      split <;> rfl
    · rw [if_neg hp, if_neg hp, h3]
  have h1 : (st1 p m).getD j 0 = 0 ∨ (st1 p m).getD j 0 = p.B.getD j 0 := by
    unfold st1
    split
    · have := take_lt (p := p) (okM_on (show okM p m = true from by
        have hf : formB p m = true := by
          unfold formB turnsB onB
          have em : manA p.B m.f = p.B.getD f 0 := by unfold manA bAt; rw [h.hf, Int.toNat_natCast, if_pos ⟨by omega, by have := h.f1; omega⟩]
          have en : manA p.B m.t = p.B.getD t 0 := by unfold manA bAt; rw [h.ht, Int.toNat_natCast, if_pos ⟨by omega, by have := h.t1; omega⟩]
          rw [em, en, h.ht, h.pro, h.prm, h.own]
          have h6 : (sideI (p.B.getD t 0) == p.t) = false := beq_eq_false_iff_ne.2 h.oth
          have := h.t1
          rw [h6]
          simp
          omega
        unfold okM; rw [h.right, hf]; rfl))
      rw [getD_set _ _ _ _ (by rw [hl]; omega)]
      split
      · exact .inl rfl
      · exact .inr rfl
    · exact .inr rfl
  rw [h4]
  by_cases hjt : t = j
  · left; exact ⟨hjt.symm, by rw [if_pos hjt]⟩
  · right
    refine ⟨fun e => hjt e.symm, ?_⟩
    rw [if_neg hjt]
    by_cases hjf : f = j
    · left; rw [if_pos hjf]
    · rw [if_neg hjf]
      unfold st2
      split
      · next hc =>
        have c := cast_of h hc rfl
        obtain ⟨q1, q2, q3, q4, q5, q6, q7, q8⟩ := cast_sq _ c.k4
        have em : ((m.f + m.t) / 2).toNat = (hKg (castN p m) + wTo (castN p m)) / 2 := by
          rw [h.hf, h.ht, c.ef, c.et]; omega
        rw [em, getD_set _ _ _ _ (by rw [List.length_set, l1]; exact q1)]
        by_cases hm : (hKg (castN p m) + wTo (castN p m)) / 2 = j
        · rw [if_pos hm]
          have hnt := c.no_take h
          have e1 : st1 p m = p.B := by unfold st1 takeB; rw [hnt]; rfl
          rw [e1, c.rook]
          right; left
          exact ⟨hc, rfl, by rw [← hm]; exact (free_iff p.B _).1 c.free _ q1 q2 q3⟩
        · rw [if_neg hm, getD_set _ _ _ _ (by rw [l1]; have := c.k4; have : hRk (castN p m) < 64 := (by unfold hRk; rcases (castN p m) with _ | _ | _ | _ | k <;> simp); exact this)]
          split
          · exact .inl rfl
          · rcases h1 with e | e
            · exact .inl e
            · exact .inr (.inr ⟨fun e => hjf e.symm, e⟩)
      · rcases h1 with e | e
        · exact .inl e
        · exact .inr (.inr ⟨fun e => hjf e.symm, e⟩)
theorem goes_ok {p : Ps} {m : Mv} (hr : pwI p = 0) (h : goesM p m = true) : okM p m = true := by unfold okM; rw [hr, goes_form h]; rfl
theorem mk_kind {n t : Int} (h0 : 2 ≤ n) (h1 : n ≤ 6) : mkI n t ≠ 1 ∧ mkI n t ≠ -1 := by unfold mkI; split <;> omega
/-- No pawn stands on the first or last rank. -/
theorem beh_edge {p : Ps} {m : Mv} (hB : Brd p.B) (hr : pwI p = 0) (hg : goesM p m = true) {j : Nat} (hj : j < 64) (hx : (behB p m).getD j 0 = 1 ∨ (behB p m).getD j 0 = -1) : 8 ≤ j ∧ j ≤ 55 := by
  obtain ⟨f, t, F⟩ := form_of hB (goes_ok hr hg)
  have hw := (right_pos hr).1
  rcases beh_at F hj with ⟨rfl, e⟩ | ⟨hne, e | ⟨_, e, _⟩ | ⟨_, e⟩⟩
  · rw [e] at hx
    by_cases hp : (m.p != 0) = true
    · rw [if_pos hp] at hx
      have h5 := promo_five' F.prm
      have hp' : m.p ≠ 0 := by simpa using hp
      have := mk_kind (n := m.p) (t := p.t) (by omega) (by omega)
      omega
    · rw [if_neg hp] at hx
      have hk : kindI (p.B.getD f 0) = 1 := by rcases hx with h | h <;> rw [h] <;> decide
      have P : Pw p f := ⟨hB, hr, F.f1, F.own, hk⟩
      have hpro := F.pro
      rw [hk] at hpro
      have hp0 : (m.p != 0) = false := by simpa using hp
      rw [hp0] at hpro
      have hlast : ¬ (j : Int) / 8 = lastI p.t := by simpa using hpro
      have hpw : pawnB p m = true := by unfold pawnB bAt; rw [F.hf, Int.toNat_natCast, hk]; rfl
      unfold goesM at hg
      rw [goes_form (by unfold goesM; exact hg), hpw, Bool.true_and, if_pos rfl] at hg
      unfold pgoB at hg
      rw [F.hf, F.ht] at hg
      simp only [Bool.or_eq_true, Bool.and_eq_true, beq_iff_eq] at hg
      have hrk := P.rank
      rcases P.turn with ⟨_, _, u, v, l⟩ | ⟨_, _, u, v, l⟩
      · rw [u, v] at hg
        rw [l] at hlast
        rcases hg with ⟨_, g⟩ | ⟨⟨⟨_, g⟩, g2⟩, _⟩ | ⟨g, _⟩
        · omega
        · omega
        · have := (P.hits g).2.2; rw [u] at this; omega
      · rw [u, v] at hg
        rw [l] at hlast
        rcases hg with ⟨_, g⟩ | ⟨⟨⟨_, g⟩, g2⟩, _⟩ | ⟨g, _⟩
        · omega
        · omega
        · have := (P.hits g).2.2; rw [u] at this; omega
  · rw [e] at hx; omega
  · rw [e] at hx
    have := mk_kind (n := 4) (t := p.t) (by omega) (by omega)
    omega
  · rw [e] at hx
    have hk : kindI (p.B.getD j 0) = 1 := by rcases hx with h | h <;> rw [h] <;> decide
    have := no_edge hw hj hk
    omega
/-- The king of who moves. -/
def kvI (t : Int) : Int := mkI 6 t
theorem one_king {B : List Int} (hw : wrongI B = 0) {s : Int} (hs : s = 0 ∨ s = 1) : ∃ k : Nat, k < 64 ∧ B.getD k 0 = kvI s ∧ ∀ j, j < 64 → B.getD j 0 = kvI s → j = k := by
  obtain ⟨k, hk, _, e⟩ := king_at hw hs
  refine ⟨k, hk, e, fun j hj ej => ?_⟩
  have hone : many B 6 s = 1 := by
    obtain ⟨_, a, b⟩ := king_one hw
    unfold manyI at a b
    rcases hs with rfl | rfl <;> omega
  have hh : ∀ i : Nat, B.getD i 0 = kvI s → hit 6 s (B.getD i 0) = true := by
    intro i ei
    rw [ei]
    rcases hs with rfl | rfl <;> decide
  unfold many cnt at hone
  obtain ⟨a, ha⟩ := List.length_eq_one_iff.1 hone
  have mj : j ∈ sel (fun i => hit 6 s (B.getD i 0)) 64 := by unfold sel; rw [List.mem_filter, List.mem_range]; exact ⟨hj, hh j ej⟩
  have mk : k ∈ sel (fun i => hit 6 s (B.getD i 0)) 64 := by unfold sel; rw [List.mem_filter, List.mem_range]; exact ⟨hk, hh k e⟩
  rw [ha, List.mem_singleton] at mj mk
  omega
theorem side_kv {t : Int} (ht : t = 0 ∨ t = 1) : sideI (kvI t) = t := by rcases ht with rfl | rfl <;> decide
theorem beh_king {p : Ps} {m : Mv} (hB : Brd p.B) (hr : pwI p = 0) (h : okM p m = true) : ∃ k : Nat, k < 64 ∧ ∀ j, j < 64 → ((behB p m).getD j 0 = kvI p.t ↔ j = k) := by
  obtain ⟨f, t, F⟩ := form_of hB h
  obtain ⟨k0, hk0, e0, u0⟩ := one_king (right_pos hr).1 F.t01
  have hkv : kvI p.t ≠ 0 ∧ kvI p.t ≠ mkI 4 p.t := by rcases F.t01 with e | e <;> rw [e] <;> decide
  have hpr : m.p ≠ 0 → mkI m.p p.t ≠ kvI p.t := by
    intro h0
    have := promo_five' F.prm
    unfold kvI mkI
    split <;> omega
  have hkt : k0 ≠ t := fun e => F.oth (by rw [← e, e0, side_kv F.t01])
  by_cases hf : p.B.getD f 0 = kvI p.t
  · have hfk := u0 f F.f1 hf
    refine ⟨t, F.t1, fun j hj => ⟨fun e => ?_, fun e => ?_⟩⟩
    · rcases beh_at F hj with ⟨q, _⟩ | ⟨_, q | ⟨_, q, _⟩ | ⟨q1, q⟩⟩
      · exact q
      · rw [q] at e; exact absurd e.symm hkv.1
      · rw [q] at e; exact absurd e.symm hkv.2
      · rw [q] at e; exact absurd (u0 j hj e) (by omega)
    · subst e
      rcases beh_at F hj with ⟨_, q⟩ | ⟨q, _⟩
      · rw [q]
        have hk : (kindI (p.B.getD f 0) == 1) = false := by rw [hf]; rcases F.t01 with e | e <;> rw [e] <;> decide
        have hp := F.pro
        rw [hk, Bool.false_and] at hp
        rw [← hp, if_neg (by decide)]
        exact hf
      · exact absurd rfl q
  · have hc : ¬ castN p m < 4 := fun hc => by
      have c := cast_of F hc rfl
      apply hf
      rw [c.king, c.side]
      have := c.k4
      generalize castN p m = k at this ⊢
      have : k = 0 ∨ k = 1 ∨ k = 2 ∨ k = 3 := by omega
      rcases this with rfl | rfl | rfl | rfl <;> decide
    refine ⟨k0, hk0, fun j hj => ⟨fun e => ?_, fun e => ?_⟩⟩
    · rcases beh_at F hj with ⟨_, q⟩ | ⟨_, q | ⟨q, _⟩ | ⟨_, q⟩⟩
      · rw [q] at e
        by_cases hp : (m.p != 0) = true
        · rw [if_pos hp] at e; exact absurd e (hpr (by simpa using hp))
        · rw [if_neg hp] at e; exact absurd e hf
      · rw [q] at e; exact absurd e.symm hkv.1
      · exact absurd q hc
      · rw [q] at e; exact u0 j hj e
    · subst e
      have l1 : (st1 p m).length = 64 := st1_len hB.1
      have e4 : castN p m = 4 := by have := castN_le p m; omega
      have kf : f ≠ j := fun e => hf (by rw [e]; exact e0)
      have kt : t ≠ j := fun e => hkt e.symm
      have ef : m.f.toNat = f := by rw [F.hf, Int.toNat_natCast]
      have et : m.t.toNat = t := by rw [F.ht, Int.toNat_natCast]
      have h1 : (st1 p m).getD j 0 = p.B.getD j 0 := by
        unfold st1
        split
        · next hb =>
          have ht : 0 ≤ takeI p m := by simpa [takeB] using hb
          obtain ⟨a1, a2, a3, a4⟩ := take_sq F ht
          have hs : takeS p m = takeI p m := by unfold takeS; rw [if_pos ht]
          rw [hs, getD_set _ _ _ _ (by rw [hB.1]; exact a1), if_neg]
          intro ej
          have hbt : bAt p.B m.t = p.B.getD t 0 := by unfold bAt; rw [F.ht, Int.toNat_natCast]
          by_cases h0 : bAt p.B m.t = 0
          · have hi : takeI p m = (if epTake p m then passI p else -1) := by unfold takeI; rw [if_neg (by simpa using h0)]
            split at hi
            · unfold passI at hi
              split at hi
              · next hp =>
                have e5 : p.B.getD (takeI p m).toNat 0 = -1 := by rw [hi]; exact hp.2.2.2.2.2
                rw [ej, e0] at e5
                rcases F.t01 with e | e <;> rw [e] at e5 <;> exact absurd e5 (by decide)
              · split at hi
                · next hp =>
                  have e5 : p.B.getD (takeI p m).toNat 0 = 1 := by rw [hi]; exact hp.2.2.2.2.2
                  rw [ej, e0] at e5
                  rcases F.t01 with e | e <;> rw [e] at e5 <;> exact absurd e5 (by decide)
                · omega
            · omega
          · have hi : takeI p m = t := by unfold takeI; rw [if_pos h0]; exact F.ht
            rw [hi, Int.toNat_natCast] at ej
            exact kt ej
        · rfl
      have e2 : st2 p m (st1 p m) = st1 p m := by unfold st2; rw [if_neg (by omega)]
      have h3 : (st3 m (st2 p m (st1 p m))).getD j 0 = p.B.getD j 0 := by
        rw [e2]
        unfold st3
        rw [ef, et, getD_set _ _ _ _ (by rw [List.length_set, l1]; exact F.t1), if_neg kt, getD_set _ _ _ _ (by rw [l1]; exact F.f1), if_neg kf, h1]
      unfold behB st4
      split
      · rw [et, getD_set _ _ _ _ (by rw [st3_len (st2_len l1)]; exact F.t1), if_neg kt, h3]; exact e0
      · rw [h3]; exact e0
theorem cnt_one_all : ∀ a : Fin 64, cnt (fun j => j == a.val) 64 = 1 := by decide +kernel
theorem beh_kings {p : Ps} {m : Mv} (hB : Brd p.B) (hr : pwI p = 0) (h : okM p m = true) : cnt (fun j => (behB p m).getD j 0 == kvI p.t) 64 = 1 := by
  obtain ⟨k, hk, hu⟩ := beh_king hB hr h
  rw [← cnt_one_all ⟨k, hk⟩]
  unfold cnt sel
  congr 1
  apply List.filter_congr
  intro j hj
  have := hu j (List.mem_range.1 hj)
  rw [Bool.eq_iff_iff, beq_iff_eq, beq_iff_eq]
  exact this
end Go.Proofs.YtgcippicdhaaeaaGreatDoor
namespace Go.Proofs.YtgcippicdhaaeaaGreatDoor
open Go.RowKit
set_option linter.unusedVariables false
set_option linter.unusedSimpArgs false
set_option maxRecDepth 100000

theorem allR_mem {p : Ps} {m : Mv} (h : m ∈ allR p) : pwI p = 0 ∧ goesM p m = true := by
  unfold allR at h
  split at h
  · next hr => exact ⟨hr, (mem_allN (right_t hr).1).1 h⟩
  · cases h
theorem allR_n (p : Ps) : (allR p).length ≤ 24576 := by
  unfold allR; split
  · exact allN_len p 64
  · simp
set_option maxHeartbeats 8000000 in
theorem genMakes_w (p : Ps) (hB : Brd p.B) (hp : p.t = 0) (w : World) (hT : TabG w) :
    Calls Tryz.prog 5 #[.agg (pl p).toArray] w fun e w' => e = .returned (.bool true) ∧ Kept w w' := by
  have HP := Lib.hid (PAt.new w hB.1)
  have HK0 := Lib.hid ((Kept.refl w).alloc (.cells (pl p).toArray 26))
  have HT := Lib.hid (hT.kept HK0.out)
  have hpl : Hid (p.B.length = 64) := hB.1
  have HAl := Lib.hid (fun g a w hT hE => all_is g a p hB w hT hE)
  have HOk := Lib.hid (fun m (h : m ∈ allR p) => goes_ok (allR_mem h).1 (allR_mem h).2)
  have HMk := Lib.hid (fun m (h : okM p m = true) w hT => make_yes p hB m h w hT)
  have HEdge := Lib.hid (fun m (h : m ∈ allR p) j (hj : j < 64) hx => beh_edge hB (allR_mem h).1 (allR_mem h).2 (j := j) hj hx)
  have hkv : kvI p.t = 6 := by rw [hp]; rfl
  have HKng : Hid (∀ m, m ∈ allR p → cnt (fun j => (behB p m).getD j 0 == 6) 64 = 1) := fun m h => by have := beh_kings hB (allR_mem h).1 (goes_ok (allR_mem h).1 (allR_mem h).2); rw [hkv] at this; exact this
  have HLen : Hid (∀ m, (behP p m).B.length = 64) := fun m => behB_len hB.1
  have HLl := Lib.hid (allR_n p)
  have ht0 := HP.out.turn
  rw [hp] at ht0
  have HTn := Lib.hid ht0
  generalize hL : allR p = L at *
  clear hB hT hp hkv hL ht0
  go_enter Tryz.func5, Tryz.ntmps5
  go_wp2_with fail
  refine (gen_wake _ HT.out).mono ?_
  rintro e w1 ⟨rfl, k1⟩
  have HK1 := Lib.hid k1
  have HP1 := Lib.hid (HP.out.kept k1)
  have HT1 := Lib.hid (HT.out.kept k1)
  clear k1
  go_wp2
  refine wp_region_held_drew (S := Kept _) (by kernel_rfl) (Kept.refl _).drew (fun hHeld => ?_)
  refine rg_take (i := 1) (some 13) rfl rfl (by kernel_rfl) (by kernel_rfl) (by kernel_rfl) (fun _ _ _ h => h) (take_load_ps (by rfl) _ rfl _ rfl p hpl.out (fun _ h => (HP1.out).kept h)) hHeld ?_
  simp only [Act.put, List.setIfInBounds_toArray, List.set_cons_zero, List.set_cons_succ]
  refine rg_take (i := 4) (v := (.int .i64 0)) (some 16) rfl rfl (by kernel_rfl) (by kernel_rfl) (by kernel_rfl) (fun _ _ _ h => h) (Or.inl ⟨by rfl, fun _ _ => by go_simp⟩) hHeld ?_
  simp only [Act.put, List.setIfInBounds_toArray, List.set_cons_zero, List.set_cons_succ]
  refine wpAnyH_ready (rs := [0]) (by kernel_rfl) (by simp) ?_
  refine AllReadyH.cons rfl (fun K hK => ?_) AllReadyH.nil
  go_simp
  refine (gnew_is _).mono ?_
  rintro e w2 ⟨g, a, rfl, hE, k2⟩
  refine hK.out _ _ (hHeld.trans k2) (fun _ => ?_)
  replace hHeld := hHeld.trans k2
  have HE := Lib.hid hE
  clear hK K hE k2
  refine wpAnyH_ready (rs := [2]) (by kernel_rfl) (by simp) ?_
  refine AllReadyH.cons rfl (fun K hK => ?_) AllReadyH.nil
  go_simp
  refine (HAl.out g a _ (HT1.out.kept hHeld) HE.out).mono ?_
  rintro e X ⟨vX, rfl, hoX, gX⟩
  obtain ⟨aX, cX, rfl⟩ := hoX.slice
  have HOX := Lib.hid hoX
  clear hoX
  refine hK.out _ _ (hHeld.trans gX) (fun _ => ?_)
  replace hHeld := hHeld.trans gX
  clear hK K
  refine rg_take (i := 3) (v := (.int .i64 (L.length : Int))) (some 15) rfl rfl (by kernel_rfl) (by kernel_rfl) (by kernel_rfl) (fun _ _ _ h => h) (Or.inl ⟨by rfl, fun _ _ => by go_simp⟩) hHeld ?_
  simp only [Act.put, List.setIfInBounds_toArray, List.set_cons_zero, List.set_cons_succ]
  refine wpAnyH_done (by kernel_rfl) ?_ _
  have HKX := Lib.hid (HK1.out.trans hHeld)
  obtain ⟨gl, hls, _⟩ := HOX.out.ls
  have HLs := Lib.hid hls
  generalize hn : L.length = n at *
  have HN := Lib.hid hn
  clear hHeld gX hls hn
  go_wp2
  go_loopw [16] (fun t16 wr => ∃ k : Nat, k ≤ n ∧ t16 = .int .i64 k ∧ Kept X wr) (fun t16 _ => n - (intOf t16).toNat)
  case atStart => exact ⟨0, Nat.zero_le _, rfl, Kept.refl _⟩
  case round =>
    obtain ⟨k, hk, rfl, hK⟩ := hrel
    have HK := Lib.hid hK
    by_cases hlt : k < n
    · have hlt' : (k : Int) < (n : Int) := by omega
      obtain ⟨x, hx⟩ : ∃ x, L[k]? = some x := ⟨_, List.getElem?_eq_getElem (by have := HN.out; omega)⟩
      have hmx := List.mem_of_getElem? hx
      obtain ⟨off, cap, he, hc1, hc2, h3⟩ := HLs.out.full (by have := HN.out; omega)
      rw [HN.out] at he
      injection he with he1 he2 he3
      subst he1 he3
      rw [HN.out] at hc1
      unfold maxLen at hc2
      have HRx := Lib.hid (range_i (range_kept h3 hK) hx)
      have KB0 := Lib.hid ((Kept.refl wr).alloc (.cells (ml x).toArray 35))
      have HXb := Lib.hid (MAt.new wr x)
      have HPb := Lib.hid (HP.out.kept (HKX.out.trans (hK.trans KB0.out)))
      have HTb := Lib.hid (HT.out.kept (HKX.out.trans (hK.trans KB0.out)))
      have HKb := Lib.hid (hK.trans KB0.out)
      have HMx := Lib.hid (HMk.out x (HOk.out x hmx))
      have HEd : Hid (∀ j, j < 64 → ((behP p x).B.getD j 0 = 1 ∨ (behP p x).B.getD j 0 = -1) → 8 ≤ j ∧ j ≤ 55) := fun j hj h => HEdge.out x hmx j hj h
      have HKn : Hid (cnt (fun j => (behP p x).B.getD j 0 == 6) 64 = 1) := HKng.out x hmx
      have hql := Lib.hid (HLen.out x)
      generalize behP p x = q at *
      clear h3 hx hK hmx
      go_wp2_with (first | (refine wpList_load_mvi (by rfl) _ rfl gl (off + k * 3) rfl x HRx.out ?_) | (with_reducible refine wpList_new_mv rfl rfl ?_) | ((with_reducible refine wpList_store_newmv rfl _ _ rfl Zm x ?_ ?_ ?_); exact rfl; exact rfl) | (refine wpList_load_ps (by rfl) _ rfl _ rfl _ HPb.out ?_) | (refine wpList_load_mv (by rfl) _ rfl _ rfl _ HXb.out ?_))
      refine (HMx.out _ HTb.out.tabm).mono ?_
      rintro e w3 ⟨rfl, k3⟩
      have KA := Lib.hid (k3.alloc (.cells (pl q).toArray 26))
      have HK3 := Lib.hid (HKb.out.trans KA.out)
      have HQ3 := Lib.hid (PAt.new w3 hql.out)
      have hT3 := kept_cell (HKX.out.trans HK3.out) HTn.out
      have HT3 := Lib.hid hT3
      clear k3 hT3
      go_wp2_with (first | (with_reducible refine wpList_new_p rfl rfl ?_) | ((with_reducible refine wpList_store_newp rfl _ _ rfl Zp q Zp_len hql.out ?_ ?_ ?_); exact rfl; exact rfl) | (refine wpList_load_pb (by rfl) _ rfl _ rfl _ HQ3.out ?_))
      generalize w3.alloc (.cells (pl q).toArray 26) = W3 at *
      generalize w3.heap.size = gq at *
      go_loopw [7, 30] (fun t7 t30 wr => ∃ i : Nat, i ≤ 64 ∧ t30 = .int .i64 i ∧ t7 = .int .i64 (cnt (fun j => q.B.getD j 0 == 6) i : Nat) ∧ Kept W3 wr) (fun _ t30 _ => 64 - (intOf t30).toNat)
      case atStart => exact ⟨0, by omega, rfl, rfl, Kept.refl _⟩
      case round =>
        obtain ⟨i, hi, rfl, rfl, hKi⟩ := hrel
        have HKi := Lib.hid hKi
        have hti := kept_cell hKi HT3.out
        have hcl := cnt_le (fun j => q.B.getD j 0 == 6) i
        clear hKi
        by_cases hi : i < 64
        · have hiI : (i : Int) < 64 := by omega
          have hxi := run_index_cl q.B hql.out i hi
          obtain ⟨y, hy⟩ : ∃ y, q.B.getD i 0 = y := ⟨_, rfl⟩
          simp only [hy] at hxi
          have hcn0 : True := trivial
          by_cases h1 : y = 1
          · skip
            have b1 : (y == 1) = true := by rw [h1]; rfl
            have hd : 8 ≤ i ∧ i ≤ 55 := HEd.out i hi (.inl (by rw [hy]; exact h1))
            have hl1 : ¬ (i : Int) < 8 := by omega
            have hl2 : ¬ 55 < (i : Int) := by omega
            have bk : (y == 6) = false := by rw [h1]; rfl
            have hcn : (fun j => q.B.getD j 0 == 6) i = false := by show (q.B.getD i 0 == 6) = false; rw [hy]; exact bk
            subst h1
            clear hy hcn0
            have HC := Lib.hid (cnt_no (p := fun j => q.B.getD j 0 == 6) (n := i) hcn)
            generalize cnt (fun j => q.B.getD j 0 == 6) i = cc at *
            go_wp2
            go_roundw
            case rel => exact ⟨i + 1, by omega, by go_num, by rw [HC.out], HKi.out⟩
            case measure => simp [intOf]; omega
          · by_cases h2 : y = -1
            · skip
              have b1 : (y == 1) = false := by rw [h2]; rfl
              have b2 : (y == -1) = true := by rw [h2]; rfl
              have hd : 8 ≤ i ∧ i ≤ 55 := HEd.out i hi (.inr (by rw [hy]; exact h2))
              have hl1 : ¬ (i : Int) < 8 := by omega
              have hl2 : ¬ 55 < (i : Int) := by omega
              have bk : (y == 6) = false := by rw [h2]; rfl
              have hcn : (fun j => q.B.getD j 0 == 6) i = false := by show (q.B.getD i 0 == 6) = false; rw [hy]; exact bk
              subst h2
              clear hy hcn0
              have HC := Lib.hid (cnt_no (p := fun j => q.B.getD j 0 == 6) (n := i) hcn)
              generalize cnt (fun j => q.B.getD j 0 == 6) i = cc at *
              go_wp2
              go_roundw
              case rel => exact ⟨i + 1, by omega, by go_num, by rw [HC.out], HKi.out⟩
              case measure => simp [intOf]; omega
            · by_cases h3 : y = 6
              · skip
                have b1 : (y == 1) = false := by rw [h3]; rfl
                have b2 : (y == -1) = false := by rw [h3]; rfl
                have bk : (y == 6) = true := by rw [h3]; rfl
                have hcn : (fun j => q.B.getD j 0 == 6) i = true := by show (q.B.getD i 0 == 6) = true; rw [hy]; exact bk
                subst h3
                clear hy hcn0
                have HC := Lib.hid (cnt_yes (p := fun j => q.B.getD j 0 == 6) (n := i) hcn)
                generalize cnt (fun j => q.B.getD j 0 == 6) i = cc at *
                go_wp2
                go_roundw
                case rel => exact ⟨i + 1, by omega, by go_num, by rw [HC.out]; go_num, HKi.out⟩
                case measure => simp [intOf]; omega
              · skip
                have b1 : (y == 1) = false := beq_eq_false_iff_ne.2 h1
                have b2 : (y == -1) = false := beq_eq_false_iff_ne.2 h2
                have bk : (y == 6) = false := beq_eq_false_iff_ne.2 h3
                have hcn : (fun j => q.B.getD j 0 == 6) i = false := by show (q.B.getD i 0 == 6) = false; rw [hy]; exact bk
                clear hy hcn0 h1 h2 h3
                have HC := Lib.hid (cnt_no (p := fun j => q.B.getD j 0 == 6) (n := i) hcn)
                generalize cnt (fun j => q.B.getD j 0 == 6) i = cc at *
                go_wp2
                go_roundw
                case rel => exact ⟨i + 1, by omega, by go_num, by rw [HC.out], HKi.out⟩
                case measure => simp [intOf]; omega
        · obtain rfl : i = 64 := by omega
          rw [HKn.out]
          have HKe := Lib.hid (HK3.out.trans HKi.out)
          clear hcl
          go_wp2
          go_roundw
          case rel => exact ⟨k + 1, by omega, by go_num, HKe.out⟩
          case measure => simp [intOf]; omega
    · obtain rfl : k = n := by omega
      clear hK
      go_wp2
      go_ret
      exact ⟨rfl, HK0.out.trans (HKX.out.trans HK.out)⟩
set_option maxHeartbeats 8000000 in
theorem genMakes_b (p : Ps) (hB : Brd p.B) (hp : p.t = 1) (w : World) (hT : TabG w) :
    Calls Tryz.prog 5 #[.agg (pl p).toArray] w fun e w' => e = .returned (.bool true) ∧ Kept w w' := by
  have HP := Lib.hid (PAt.new w hB.1)
  have HK0 := Lib.hid ((Kept.refl w).alloc (.cells (pl p).toArray 26))
  have HT := Lib.hid (hT.kept HK0.out)
  have hpl : Hid (p.B.length = 64) := hB.1
  have HAl := Lib.hid (fun g a w hT hE => all_is g a p hB w hT hE)
  have HOk := Lib.hid (fun m (h : m ∈ allR p) => goes_ok (allR_mem h).1 (allR_mem h).2)
  have HMk := Lib.hid (fun m (h : okM p m = true) w hT => make_yes p hB m h w hT)
  have HEdge := Lib.hid (fun m (h : m ∈ allR p) j (hj : j < 64) hx => beh_edge hB (allR_mem h).1 (allR_mem h).2 (j := j) hj hx)
  have hkv : kvI p.t = (-6) := by rw [hp]; rfl
  have HKng : Hid (∀ m, m ∈ allR p → cnt (fun j => (behB p m).getD j 0 == (-6)) 64 = 1) := fun m h => by have := beh_kings hB (allR_mem h).1 (goes_ok (allR_mem h).1 (allR_mem h).2); rw [hkv] at this; exact this
  have HLen : Hid (∀ m, (behP p m).B.length = 64) := fun m => behB_len hB.1
  have HLl := Lib.hid (allR_n p)
  have ht0 := HP.out.turn
  rw [hp] at ht0
  have HTn := Lib.hid ht0
  generalize hL : allR p = L at *
  clear hB hT hp hkv hL ht0
  go_enter Tryz.func5, Tryz.ntmps5
  go_wp2_with fail
  refine (gen_wake _ HT.out).mono ?_
  rintro e w1 ⟨rfl, k1⟩
  have HK1 := Lib.hid k1
  have HP1 := Lib.hid (HP.out.kept k1)
  have HT1 := Lib.hid (HT.out.kept k1)
  clear k1
  go_wp2
  refine wp_region_held_drew (S := Kept _) (by kernel_rfl) (Kept.refl _).drew (fun hHeld => ?_)
  refine rg_take (i := 1) (some 13) rfl rfl (by kernel_rfl) (by kernel_rfl) (by kernel_rfl) (fun _ _ _ h => h) (take_load_ps (by rfl) _ rfl _ rfl p hpl.out (fun _ h => (HP1.out).kept h)) hHeld ?_
  simp only [Act.put, List.setIfInBounds_toArray, List.set_cons_zero, List.set_cons_succ]
  refine rg_take (i := 4) (v := (.int .i64 0)) (some 16) rfl rfl (by kernel_rfl) (by kernel_rfl) (by kernel_rfl) (fun _ _ _ h => h) (Or.inl ⟨by rfl, fun _ _ => by go_simp⟩) hHeld ?_
  simp only [Act.put, List.setIfInBounds_toArray, List.set_cons_zero, List.set_cons_succ]
  refine wpAnyH_ready (rs := [0]) (by kernel_rfl) (by simp) ?_
  refine AllReadyH.cons rfl (fun K hK => ?_) AllReadyH.nil
  go_simp
  refine (gnew_is _).mono ?_
  rintro e w2 ⟨g, a, rfl, hE, k2⟩
  refine hK.out _ _ (hHeld.trans k2) (fun _ => ?_)
  replace hHeld := hHeld.trans k2
  have HE := Lib.hid hE
  clear hK K hE k2
  refine wpAnyH_ready (rs := [2]) (by kernel_rfl) (by simp) ?_
  refine AllReadyH.cons rfl (fun K hK => ?_) AllReadyH.nil
  go_simp
  refine (HAl.out g a _ (HT1.out.kept hHeld) HE.out).mono ?_
  rintro e X ⟨vX, rfl, hoX, gX⟩
  obtain ⟨aX, cX, rfl⟩ := hoX.slice
  have HOX := Lib.hid hoX
  clear hoX
  refine hK.out _ _ (hHeld.trans gX) (fun _ => ?_)
  replace hHeld := hHeld.trans gX
  clear hK K
  refine rg_take (i := 3) (v := (.int .i64 (L.length : Int))) (some 15) rfl rfl (by kernel_rfl) (by kernel_rfl) (by kernel_rfl) (fun _ _ _ h => h) (Or.inl ⟨by rfl, fun _ _ => by go_simp⟩) hHeld ?_
  simp only [Act.put, List.setIfInBounds_toArray, List.set_cons_zero, List.set_cons_succ]
  refine wpAnyH_done (by kernel_rfl) ?_ _
  have HKX := Lib.hid (HK1.out.trans hHeld)
  obtain ⟨gl, hls, _⟩ := HOX.out.ls
  have HLs := Lib.hid hls
  generalize hn : L.length = n at *
  have HN := Lib.hid hn
  clear hHeld gX hls hn
  go_wp2
  go_loopw [16] (fun t16 wr => ∃ k : Nat, k ≤ n ∧ t16 = .int .i64 k ∧ Kept X wr) (fun t16 _ => n - (intOf t16).toNat)
  case atStart => exact ⟨0, Nat.zero_le _, rfl, Kept.refl _⟩
  case round =>
    obtain ⟨k, hk, rfl, hK⟩ := hrel
    have HK := Lib.hid hK
    by_cases hlt : k < n
    · have hlt' : (k : Int) < (n : Int) := by omega
      obtain ⟨x, hx⟩ : ∃ x, L[k]? = some x := ⟨_, List.getElem?_eq_getElem (by have := HN.out; omega)⟩
      have hmx := List.mem_of_getElem? hx
      obtain ⟨off, cap, he, hc1, hc2, h3⟩ := HLs.out.full (by have := HN.out; omega)
      rw [HN.out] at he
      injection he with he1 he2 he3
      subst he1 he3
      rw [HN.out] at hc1
      unfold maxLen at hc2
      have HRx := Lib.hid (range_i (range_kept h3 hK) hx)
      have KB0 := Lib.hid ((Kept.refl wr).alloc (.cells (ml x).toArray 35))
      have HXb := Lib.hid (MAt.new wr x)
      have HPb := Lib.hid (HP.out.kept (HKX.out.trans (hK.trans KB0.out)))
      have HTb := Lib.hid (HT.out.kept (HKX.out.trans (hK.trans KB0.out)))
      have HKb := Lib.hid (hK.trans KB0.out)
      have HMx := Lib.hid (HMk.out x (HOk.out x hmx))
      have HEd : Hid (∀ j, j < 64 → ((behP p x).B.getD j 0 = 1 ∨ (behP p x).B.getD j 0 = -1) → 8 ≤ j ∧ j ≤ 55) := fun j hj h => HEdge.out x hmx j hj h
      have HKn : Hid (cnt (fun j => (behP p x).B.getD j 0 == (-6)) 64 = 1) := HKng.out x hmx
      have hql := Lib.hid (HLen.out x)
      generalize behP p x = q at *
      clear h3 hx hK hmx
      go_wp2_with (first | (refine wpList_load_mvi (by rfl) _ rfl gl (off + k * 3) rfl x HRx.out ?_) | (with_reducible refine wpList_new_mv rfl rfl ?_) | ((with_reducible refine wpList_store_newmv rfl _ _ rfl Zm x ?_ ?_ ?_); exact rfl; exact rfl) | (refine wpList_load_ps (by rfl) _ rfl _ rfl _ HPb.out ?_) | (refine wpList_load_mv (by rfl) _ rfl _ rfl _ HXb.out ?_))
      refine (HMx.out _ HTb.out.tabm).mono ?_
      rintro e w3 ⟨rfl, k3⟩
      have KA := Lib.hid (k3.alloc (.cells (pl q).toArray 26))
      have HK3 := Lib.hid (HKb.out.trans KA.out)
      have HQ3 := Lib.hid (PAt.new w3 hql.out)
      have hT3 := kept_cell (HKX.out.trans HK3.out) HTn.out
      have HT3 := Lib.hid hT3
      clear k3 hT3
      go_wp2_with (first | (with_reducible refine wpList_new_p rfl rfl ?_) | ((with_reducible refine wpList_store_newp rfl _ _ rfl Zp q Zp_len hql.out ?_ ?_ ?_); exact rfl; exact rfl) | (refine wpList_load_pb (by rfl) _ rfl _ rfl _ HQ3.out ?_))
      generalize w3.alloc (.cells (pl q).toArray 26) = W3 at *
      generalize w3.heap.size = gq at *
      go_loopw [7, 30] (fun t7 t30 wr => ∃ i : Nat, i ≤ 64 ∧ t30 = .int .i64 i ∧ t7 = .int .i64 (cnt (fun j => q.B.getD j 0 == (-6)) i : Nat) ∧ Kept W3 wr) (fun _ t30 _ => 64 - (intOf t30).toNat)
      case atStart => exact ⟨0, by omega, rfl, rfl, Kept.refl _⟩
      case round =>
        obtain ⟨i, hi, rfl, rfl, hKi⟩ := hrel
        have HKi := Lib.hid hKi
        have hti := kept_cell hKi HT3.out
        have hcl := cnt_le (fun j => q.B.getD j 0 == (-6)) i
        clear hKi
        by_cases hi : i < 64
        · have hiI : (i : Int) < 64 := by omega
          have hxi := run_index_cl q.B hql.out i hi
          obtain ⟨y, hy⟩ : ∃ y, q.B.getD i 0 = y := ⟨_, rfl⟩
          simp only [hy] at hxi
          have hcn0 : True := trivial
          by_cases h1 : y = 1
          · skip
            have b1 : (y == 1) = true := by rw [h1]; rfl
            have hd : 8 ≤ i ∧ i ≤ 55 := HEd.out i hi (.inl (by rw [hy]; exact h1))
            have hl1 : ¬ (i : Int) < 8 := by omega
            have hl2 : ¬ 55 < (i : Int) := by omega
            have bk : (y == (-6)) = false := by rw [h1]; rfl
            have hcn : (fun j => q.B.getD j 0 == (-6)) i = false := by show (q.B.getD i 0 == (-6)) = false; rw [hy]; exact bk
            subst h1
            clear hy hcn0
            have HC := Lib.hid (cnt_no (p := fun j => q.B.getD j 0 == (-6)) (n := i) hcn)
            generalize cnt (fun j => q.B.getD j 0 == (-6)) i = cc at *
            go_wp2
            go_roundw
            case rel => exact ⟨i + 1, by omega, by go_num, by rw [HC.out], HKi.out⟩
            case measure => simp [intOf]; omega
          · by_cases h2 : y = -1
            · skip
              have b1 : (y == 1) = false := by rw [h2]; rfl
              have b2 : (y == -1) = true := by rw [h2]; rfl
              have hd : 8 ≤ i ∧ i ≤ 55 := HEd.out i hi (.inr (by rw [hy]; exact h2))
              have hl1 : ¬ (i : Int) < 8 := by omega
              have hl2 : ¬ 55 < (i : Int) := by omega
              have bk : (y == (-6)) = false := by rw [h2]; rfl
              have hcn : (fun j => q.B.getD j 0 == (-6)) i = false := by show (q.B.getD i 0 == (-6)) = false; rw [hy]; exact bk
              subst h2
              clear hy hcn0
              have HC := Lib.hid (cnt_no (p := fun j => q.B.getD j 0 == (-6)) (n := i) hcn)
              generalize cnt (fun j => q.B.getD j 0 == (-6)) i = cc at *
              go_wp2
              go_roundw
              case rel => exact ⟨i + 1, by omega, by go_num, by rw [HC.out], HKi.out⟩
              case measure => simp [intOf]; omega
            · by_cases h3 : y = (-6)
              · skip
                have b1 : (y == 1) = false := by rw [h3]; rfl
                have b2 : (y == -1) = false := by rw [h3]; rfl
                have bk : (y == (-6)) = true := by rw [h3]; rfl
                have hcn : (fun j => q.B.getD j 0 == (-6)) i = true := by show (q.B.getD i 0 == (-6)) = true; rw [hy]; exact bk
                subst h3
                clear hy hcn0
                have HC := Lib.hid (cnt_yes (p := fun j => q.B.getD j 0 == (-6)) (n := i) hcn)
                generalize cnt (fun j => q.B.getD j 0 == (-6)) i = cc at *
                go_wp2
                go_roundw
                case rel => exact ⟨i + 1, by omega, by go_num, by rw [HC.out]; go_num, HKi.out⟩
                case measure => simp [intOf]; omega
              · skip
                have b1 : (y == 1) = false := beq_eq_false_iff_ne.2 h1
                have b2 : (y == -1) = false := beq_eq_false_iff_ne.2 h2
                have bk : (y == (-6)) = false := beq_eq_false_iff_ne.2 h3
                have hcn : (fun j => q.B.getD j 0 == (-6)) i = false := by show (q.B.getD i 0 == (-6)) = false; rw [hy]; exact bk
                clear hy hcn0 h1 h2 h3
                have HC := Lib.hid (cnt_no (p := fun j => q.B.getD j 0 == (-6)) (n := i) hcn)
                generalize cnt (fun j => q.B.getD j 0 == (-6)) i = cc at *
                go_wp2
                go_roundw
                case rel => exact ⟨i + 1, by omega, by go_num, by rw [HC.out], HKi.out⟩
                case measure => simp [intOf]; omega
        · obtain rfl : i = 64 := by omega
          rw [HKn.out]
          have HKe := Lib.hid (HK3.out.trans HKi.out)
          clear hcl
          go_wp2
          go_roundw
          case rel => exact ⟨k + 1, by omega, by go_num, HKe.out⟩
          case measure => simp [intOf]; omega
    · obtain rfl : k = n := by omega
      clear hK
      go_wp2
      go_ret
      exact ⟨rfl, HK0.out.trans (HKX.out.trans HK.out)⟩
set_option maxHeartbeats 4000000 in
theorem genMakes_no (p : Ps) (hB : Brd p.B) (hr : pwI p ≠ 0) (w : World) (hT : TabG w) :
    Calls Tryz.prog 5 #[.agg (pl p).toArray] w fun e w' => e = .returned (.bool true) ∧ Kept w w' := by
  have HP := Lib.hid (PAt.new w hB.1)
  have HK0 := Lib.hid ((Kept.refl w).alloc (.cells (pl p).toArray 26))
  have HT := Lib.hid (hT.kept HK0.out)
  have hpl : Hid (p.B.length = 64) := hB.1
  have HAl := Lib.hid (fun g w hT => all_wrong g p hB hr w hT)
  clear hB hT hr
  go_enter Tryz.func5, Tryz.ntmps5
  go_wp2_with fail
  refine (gen_wake _ HT.out).mono ?_
  rintro e w1 ⟨rfl, k1⟩
  have HK1 := Lib.hid k1
  have HP1 := Lib.hid (HP.out.kept k1)
  have HT1 := Lib.hid (HT.out.kept k1)
  clear k1
  go_wp2
  refine wp_region_held_drew (S := Kept _) (by kernel_rfl) (Kept.refl _).drew (fun hHeld => ?_)
  refine rg_take (i := 1) (some 13) rfl rfl (by kernel_rfl) (by kernel_rfl) (by kernel_rfl) (fun _ _ _ h => h) (take_load_ps (by rfl) _ rfl _ rfl p hpl.out (fun _ h => (HP1.out).kept h)) hHeld ?_
  simp only [Act.put, List.setIfInBounds_toArray, List.set_cons_zero, List.set_cons_succ]
  refine rg_take (i := 4) (v := (.int .i64 0)) (some 16) rfl rfl (by kernel_rfl) (by kernel_rfl) (by kernel_rfl) (fun _ _ _ h => h) (Or.inl ⟨by rfl, fun _ _ => by go_simp⟩) hHeld ?_
  simp only [Act.put, List.setIfInBounds_toArray, List.set_cons_zero, List.set_cons_succ]
  refine wpAnyH_ready (rs := [0]) (by kernel_rfl) (by simp) ?_
  refine AllReadyH.cons rfl (fun K hK => ?_) AllReadyH.nil
  go_simp
  refine (gnew_is _).mono ?_
  rintro e w2 ⟨g, a, rfl, hE, k2⟩
  refine hK.out _ _ (hHeld.trans k2) (fun _ => ?_)
  replace hHeld := hHeld.trans k2
  clear hK K hE k2
  refine wpAnyH_ready (rs := [2]) (by kernel_rfl) (by simp) ?_
  refine AllReadyH.cons rfl (fun K hK => ?_) AllReadyH.nil
  go_simp
  refine (HAl.out ⟨g, 0, none⟩ _ (HT1.out.kept hHeld)).mono ?_
  rintro e X ⟨vX, rfl, hoX, gX⟩
  obtain ⟨aX, cX, rfl⟩ := hoX.slice
  have HOX := Lib.hid hoX
  clear hoX
  refine hK.out _ _ (hHeld.trans gX) (fun _ => ?_)
  replace hHeld := hHeld.trans gX
  clear hK K
  refine rg_take (i := 3) (v := (.int .i64 0)) (some 15) rfl rfl (by kernel_rfl) (by kernel_rfl) (by kernel_rfl) (fun _ _ _ h => h) (Or.inl ⟨by rfl, fun _ _ => by go_simp⟩) hHeld ?_
  simp only [Act.put, List.setIfInBounds_toArray, List.set_cons_zero, List.set_cons_succ]
  refine wpAnyH_done (by kernel_rfl) ?_ _
  have HKX := Lib.hid (HK1.out.trans hHeld)
  clear hHeld gX HOX
  go_wp2
  go_loopw [16] (fun t16 wr => t16 = .int .i64 0 ∧ wr = X) (fun _ _ => 0)
  case atStart => exact ⟨rfl, rfl⟩
  case round =>
    obtain ⟨rfl, rfl⟩ := hrel
    go_wp2
    go_ret
    exact ⟨rfl, HK0.out.trans HKX.out⟩
theorem walkGenMakes (p : Ps) (hB : Brd p.B) (w : World) (hT : TabG w) :
    Calls Tryz.prog 5 #[.agg (pl p).toArray] w fun e w' => e = .returned (.bool true) ∧ Kept w w' := by
  by_cases hr : pwI p = 0
  · rcases (right_t hr).1 with h | h
    · exact genMakes_w p hB h w hT
    · exact genMakes_b p hB h w hT
  · exact genMakes_no p hB hr w hT
end Go.Proofs.YtgcippicdhaaeaaGreatDoor
