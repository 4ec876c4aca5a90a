/- GeA · GeH · GeI · GeL · GeM: my texts, in their order. -/
import Derived.Test.YtgcippicdhaaeaaGreatDoorPkXFTA0
import Derived.Test.YtgcippicdhaaeaaGreatDoorPkXFTA1
import Derived.Test.YtgcippicdhaaeaaGreatDoorPkXNFM0
import Derived.Test.YtgcippicdhaaeaaGreatDoorPkXFMT0
import Derived.Test.YtgcippicdhaaeaaGreatDoorPkXNFT0
import Derived.Test.YtgcippicdhaaeaaGreatDoorPkXFA0
import Derived.Test.YtgcippicdhaaeaaGreatDoorPkXFA1
import Derived.Test.YtgcippicdhaaeaaGreatDoorPkXFA2
import Derived.Test.YtgcippicdhaaeaaGreatDoorPkXNF0
import Derived.Test.YtgcippicdhaaeaaGreatDoorPkXFT0
import Derived.Test.YtgcippicdhaaeaaGreatDoorPkA
import Derived.Test.YtgcippicdhaaeaaGreatDoorPkB
import Derived.Test.YtgcippicdhaaeaaGreatDoorPkC
import Derived.Test.YtgcippicdhaaeaaGreatDoorPkD
import Derived.Test.YtgcippicdhaaeaaGreatDoorPkE
import Derived.Test.YtgcippicdhaaeaaGreatDoorPkF
import Derived.Test.YtgcippicdhaaeaaGreatDoorPkGa
import Derived.Test.YtgcippicdhaaeaaGreatDoorPkGb
import Derived.Test.YtgcippicdhaaeaaGreatDoorPkGc
import Derived.Test.YtgcippicdhaaeaaGreatDoorPkGd
import Derived.Test.YtgcippicdhaaeaaGreatDoorPkGe
import Derived.Test.YtgcippicdhaaeaaGreatDoorPkGf
import Derived.Test.YtgcippicdhaaeaaGreatDoorPkGg
import Derived.Test.YtgcippicdhaaeaaGreatDoorPkGw
import Derived.Test.YtgcippicdhaaeaaGreatDoorPkH
import Derived.Test.YtgcippicdhaaeaaGreatDoorPkI
import Derived.Test.YtgcippicdhaaeaaGreatDoorPkJ
import Derived.Test.YtgcippicdhaaeaaGreatDoorPkK
import Derived.Test.YtgcippicdhaaeaaGreatDoorPkL
import Derived.Test.YtgcippicdhaaeaaGreatDoorPkM
import Derived.Test.YtgcippicdhaaeaaGreatDoorPkU
namespace Go.Proofs.YtgcippicdhaaeaaGreatDoor
open Go.RowKit
set_option linter.unusedVariables false
set_option linter.unusedSimpArgs false
set_option maxRecDepth 100000

theorem mem_fromI {p : Ps} (t01 : p.t = 0 ∨ p.t = 1) {m : Mv} : m ∈ fromI p m.f ↔ goesM p m = true := by
  unfold fromI
  split
  · next h => rw [mem_fromN]; exact ⟨fun a => a.2, fun a => ⟨by omega, a⟩⟩
  · next h => exact ⟨fun a => by simp at a, fun a => absurd (by have := form_on t01 (goes_form a); exact ⟨this.f0, this.f1⟩) h⟩
theorem filter_none {l : List Mv} {q : Mv → Bool} (h : ∀ m ∈ l, q m = false) : l.filter q = [] := by
  rw [List.filter_eq_nil_iff]; intro m hm; rw [h m hm]; decide
theorem filter_all {l : List Mv} {q : Mv → Bool} (h : ∀ m ∈ l, q m = true) : l.filter q = l := by
  rw [List.filter_eq_self]; exact h
theorem all_from (p : Ps) (s : Int) : ∀ n, (allN p n).filter (fun m => m.f == s) = if 0 ≤ s ∧ s < n then fromN p s.toNat else []
  | 0 => by rw [if_neg (by omega)]; simp [allN]
  | n + 1 => by
    rw [allN_succ, List.filter_append, all_from p s n]
    by_cases h : s = n
    · rw [if_neg (by omega), if_pos (by omega), filter_all (fun m hm => by rw [(mem_fromN.1 hm).1, h]; simp), h, Int.toNat_natCast, List.nil_append]
    · rw [filter_none (l := fromN p n) (fun m hm => by rw [(mem_fromN.1 hm).1, beq_eq_false_iff_ne]; exact fun e => h e.symm), List.append_nil]
      by_cases h2 : 0 ≤ s ∧ s < n
      · rw [if_pos h2, if_pos (by omega)]
      · rw [if_neg h2, if_neg (by omega)]
theorem all_from64 (p : Ps) (s : Int) : (allL p).filter (fun m => m.f == s) = fromI p s := by
  unfold allL fromI; rw [all_from]; rfl
end Go.Proofs.YtgcippicdhaaeaaGreatDoor
namespace Go.Proofs.YtgcippicdhaaeaaGreatDoor
open Go.RowKit
set_option linter.unusedVariables false
set_option linter.unusedSimpArgs false
set_option maxRecDepth 100000

def fromR (p : Ps) (s : Int) : List Mv := if pwI p = 0 then fromI p s else []
theorem fromg_in (g : Nat) (a : Addr) (p : Ps) (hB : Brd p.B) (hr : pwI p = 0) (s : Int) (w : World) (hT : TabG w) (hE : EyeAt w g a) :
    Calls Tryz.prog 14 #[.pointer (some ⟨g, 0, none⟩), .agg (pl p).toArray, .int .i64 s] w (NewM w (fromI p s)) := by
  have HP := Lib.hid (PAt.new w hB.1)
  have HK0 := Lib.hid ((Kept.refl w).alloc (.cells (pl p).toArray 26))
  have HT := Lib.hid (hT.kept HK0.out)
  have HE := Lib.hid (hE.kept HK0.out)
  have HTl : Hid (∀ w, TabG w → Calls Tryz.prog 22 #[.pointer (some ⟨g, 0, none⟩), .agg (pl p).toArray] w fun e w' => e = .returned (.bool true) ∧ Kept w w') := fun w hT => by
    have := tells_is ⟨g, 0, none⟩ p hB w hT; rw [hr] at this; exact this
  have HF := Lib.hid (fun w hT hE => from_is g a p hB hr s w hT hE)
  generalize fromI p s = R at *
  clear hB hr hT hE
  go_enter Tryz.func14, Tryz.ntmps14
  go_wp2_with (first | (refine wpList_load_ps (by rfl) _ rfl _ rfl _ (HP.out) ?_) | (refine wpList_load_pb (by rfl) _ rfl _ rfl _ (HP.out) ?_))
  refine (HTl.out _ HT.out).mono ?_
  rintro e X ⟨rfl, kX⟩
  have HKX := Lib.hid kX
  have HP1 := Lib.hid (HP.out.kept kX)
  have HT1 := Lib.hid (HT.out.kept kX)
  have HE1 := Lib.hid (HE.out.kept kX)
  clear kX
  go_wp2_with (first | (refine wpList_load_ps (by rfl) _ rfl _ rfl _ (HP1.out) ?_) | (refine wpList_load_pb (by rfl) _ rfl _ rfl _ (HP1.out) ?_))
  refine (HF.out _ HT1.out HE1.out).mono ?_
  rintro e w2 ⟨v2, rfl, hO2, k2⟩
  obtain ⟨a2, c2, rfl⟩ := hO2.slice
  have HK2 := Lib.hid (HKX.out.trans k2)
  have HO2 := Lib.hid hO2
  clear hO2 k2
  generalize R.length = r at *
  go_wp2
  go_ret
  exact ⟨_, rfl, HO2.out.low (HK0.out.trans HKX.out).size, HK0.out.trans HK2.out⟩
theorem fromg_wrong (g : Addr) (p : Ps) (hB : Brd p.B) (hr : pwI p ≠ 0) (s : Int) (w : World) (hT : TabG w) :
    Calls Tryz.prog 14 #[.pointer (some g), .agg (pl p).toArray, .int .i64 s] w (NewM w []) := by
  have HP := Lib.hid (PAt.new w hB.1)
  have HK0 := Lib.hid ((Kept.refl w).alloc (.cells (pl p).toArray 26))
  have HT := Lib.hid (hT.kept HK0.out)
  have HTl : Hid (∀ w, TabG w → Calls Tryz.prog 22 #[.pointer (some g), .agg (pl p).toArray] w fun e w' => e = .returned (.bool false) ∧ Kept w w') := fun w hT => by
    have := tells_is g p hB w hT; rw [show (pwI p == 0) = false from beq_eq_false_iff_ne.2 hr] at this; exact this
  clear hB hr hT
  go_enter Tryz.func14, Tryz.ntmps14
  go_wp2_with (first | (refine wpList_load_ps (by rfl) _ rfl _ rfl _ (HP.out) ?_) | (refine wpList_load_pb (by rfl) _ rfl _ rfl _ (HP.out) ?_))
  refine (HTl.out _ HT.out).mono ?_
  rintro e X ⟨rfl, kX⟩
  have HKX := Lib.hid kX
  clear kX
  go_wp2
  go_ret
  exact ⟨_, rfl, OwnM.nil _ _, HK0.out.trans HKX.out⟩
theorem fromg_is (g : Nat) (a : Addr) (p : Ps) (hB : Brd p.B) (s : Int) (w : World) (hT : TabG w) (hE : EyeAt w g a) :
    Calls Tryz.prog 14 #[.pointer (some ⟨g, 0, none⟩), .agg (pl p).toArray, .int .i64 s] w (NewM w (fromR p s)) := by
  unfold fromR
  by_cases h : pwI p = 0
  · rw [if_pos h]; exact fromg_in g a p hB h s w hT hE
  · rw [if_neg h]; exact fromg_wrong _ p hB h s w hT
end Go.Proofs.YtgcippicdhaaeaaGreatDoor
namespace Go.Proofs.YtgcippicdhaaeaaGreatDoor
open Go.RowKit
set_option linter.unusedVariables false
set_option linter.unusedSimpArgs false
set_option maxRecDepth 100000

theorem has_from (p : Ps) (m : Mv) : hasM (fromR p m.f) m = ((pwI p == 0) && goesM p m) := by
  unfold fromR
  by_cases h : pwI p = 0
  · rw [if_pos h, h, Bool.eq_iff_iff, hasM_iff, mem_fromI (right_t h).1]; simp
  · rw [if_neg h, show (pwI p == 0) = false from beq_eq_false_iff_ne.2 h]; rfl
set_option maxHeartbeats 2000000 in
theorem goes_is (g : Nat) (a : Addr) (p : Ps) (hB : Brd p.B) (m : Mv) (w : World) (hT : TabG w) (hE : EyeAt w g a) :
    Calls Tryz.prog 15 #[.pointer (some ⟨g, 0, none⟩), .agg (pl p).toArray, .agg (ml m).toArray] w fun e w' => e = .returned (.bool ((pwI p == 0) && goesM p m)) ∧ Kept w w' := by
  have HP : Hid (PAt _ _ p) := ⟨hB.1, heap_alloc2_old w (.cells (pl p).toArray 26) (.cells (ml m).toArray 35)⟩
  have HM : Hid (MAt _ _ m) := ⟨heap_alloc2_new w (.cells (pl p).toArray 26) (.cells (ml m).toArray 35)⟩
  have HK0 := Lib.hid (((Kept.refl w).alloc (.cells (pl p).toArray 26)).alloc (.cells (ml m).toArray 35))
  have HT := Lib.hid (hT.kept HK0.out)
  have HE := Lib.hid (hE.kept HK0.out)
  have hpl : Hid (p.B.length = 64) := hB.1
  have HF := Lib.hid (fun w hT hE => fromg_is g a p hB m.f w hT hE)
  have HV := Lib.hid (has_from p m)
  generalize fromR p m.f = R at *
  clear hB hT hE
  go_enter Tryz.func15, Tryz.ntmps15
  go_wp2
  refine wp_region_held_drew (S := Kept _) (by kernel_rfl) (Kept.refl _).drew (fun hHeld => ?_)
  refine rg_take (i := 0) (v := (.pointer (some ⟨g, 0, none⟩))) (some 7) rfl rfl (by kernel_rfl) (by kernel_rfl) (by kernel_rfl) (fun _ _ _ h => h) (Or.inl ⟨by rfl, fun _ _ => by go_simp⟩) hHeld ?_
  simp only [Act.put, List.setIfInBounds_toArray, List.set_cons_zero, List.set_cons_succ]
  refine rg_take (i := 1) (some 8) rfl rfl (by kernel_rfl) (by kernel_rfl) (by kernel_rfl) (fun _ _ _ h => h) (take_load_ps (by rfl) _ rfl _ rfl p hpl.out (fun _ h => (HP.out).kept h)) hHeld ?_
  simp only [Act.put, List.setIfInBounds_toArray, List.set_cons_zero, List.set_cons_succ]
  refine rg_take (i := 2) (v := (.pointer (some ⟨w.heap.size + 1, 0, none⟩))) (some 9) rfl rfl (by kernel_rfl) (by kernel_rfl) (by kernel_rfl) (fun _ _ _ h => h) (Or.inl ⟨by rfl, fun _ _ => by go_simp⟩) hHeld ?_
  simp only [Act.put, List.setIfInBounds_toArray, List.set_cons_zero, List.set_cons_succ]
  refine rg_take (i := 3) (v := (.int .i64 m.f)) (some 10) rfl rfl (by kernel_rfl) (by kernel_rfl) (by kernel_rfl) (fun _ _ _ h => h) (Or.inl ⟨by rfl, fun w' h => by have h' := kept_cell h (HM.out.f); go_simp⟩) hHeld ?_
  simp only [Act.put, List.setIfInBounds_toArray, List.set_cons_zero, List.set_cons_succ]
  refine rg_take (i := 5) (some 12) rfl rfl (by kernel_rfl) (by kernel_rfl) (by kernel_rfl) (fun _ _ _ h => h) (take_load_mv (by rfl) _ rfl _ rfl m (fun _ h => MAt.kept (HM.out) h)) hHeld ?_
  simp only [Act.put, List.setIfInBounds_toArray, List.set_cons_zero, List.set_cons_succ]
  refine wpAnyH_ready (rs := [4]) (by kernel_rfl) (by simp) ?_
  refine AllReadyH.cons rfl (fun K hK => ?_) AllReadyH.nil
  go_simp
  refine (HF.out _ (HT.out.kept hHeld) (HE.out.kept hHeld)).mono ?_
  rintro e x1 ⟨vx1, rfl, hox1, gx1⟩
  obtain ⟨ax1, cx1, rfl⟩ := hox1.slice
  have HOx1 := Lib.hid hox1
  clear hox1
  refine hK.out _ _ (hHeld.trans gx1) (fun _ => ?_)
  replace hHeld := hHeld.trans gx1
  clear hK K
  obtain ⟨g1, hl1, _⟩ := HOx1.out.ls
  refine wpAnyH_ready (rs := [6]) (by kernel_rfl) (by simp) ?_
  refine AllReadyH.cons rfl (fun K hK => ?_) AllReadyH.nil
  go_simp
  refine (contains_m g1 _ R m _ hl1).mono ?_
  rintro e x2 ⟨rfl, gx2⟩
  refine hK.out _ _ (hHeld.trans gx2) (fun _ => ?_)
  replace hHeld := hHeld.trans gx2
  clear hK K
  refine rg_take (i := 7) (v := (.bool (hasM R m))) (some 6) rfl rfl (by kernel_rfl) (by kernel_rfl) (by kernel_rfl) (fun _ _ _ h => h) (Or.inl ⟨by rfl, fun _ _ => by go_simp⟩) hHeld ?_
  simp only [Act.put, List.setIfInBounds_toArray, List.set_cons_zero, List.set_cons_succ]
  refine wpAnyH_done (by kernel_rfl) ?_ _
  have HK2 := Lib.hid (HK0.out.trans hHeld)
  clear hHeld gx1 gx2 hl1
  generalize hasM R m = b at *
  go_wp2
  go_ret
  exact ⟨by rw [← HV.out]; rfl, HK2.out⟩
end Go.Proofs.YtgcippicdhaaeaaGreatDoor
namespace Go.Proofs.YtgcippicdhaaeaaGreatDoor
open Go.RowKit
set_option linter.unusedVariables false
set_option linter.unusedSimpArgs false
set_option maxRecDepth 100000

theorem rgoes_is (p : Ps) (hB : Brd p.B) (hr : pwI p = 0) (m : Mv) (w : World) : Calls Tryz.prog 16 #[.agg (pl p).toArray, .agg (ml m).toArray] w fun e w' => e = .returned (.bool (goesM p m)) ∧ Kept w w' := by
  have HP : Hid (PAt _ _ p) := ⟨hB.1, heap_alloc2_old w (.cells (pl p).toArray 26) (.cells (ml m).toArray 35)⟩
  have HM : Hid (MAt _ _ m) := ⟨heap_alloc2_new w (.cells (pl p).toArray 26) (.cells (ml m).toArray 35)⟩
  have HK0 := Lib.hid (((Kept.refl w).alloc (.cells (pl p).toArray 26)).alloc (.cells (ml m).toArray 35))
  have HFo := Lib.hid (fun w => rformed_is p hB (right_t hr).1 m w)
  cases hf : formB p m
  · rw [hf] at HFo
    have HV := Lib.hid (goes_not hf)
    clear hB hr hf
    go_enter Tryz.func16, Tryz.ntmps16
    go_wp2_with (first | (refine wpList_load_ps (by rfl) _ rfl _ rfl _ (HP.out) ?_) | (refine wpList_load_pb (by rfl) _ rfl _ rfl _ (HP.out) ?_) | (refine wpList_load_mv (by rfl) _ rfl _ rfl _ (HM.out) ?_))
    refine (HFo.out _).mono ?_
    rintro e w1 ⟨rfl, k1⟩
    have HK1 := Lib.hid (HK0.out.trans k1)
    clear k1
    go_wp2
    go_ret
    exact ⟨by rw [HV.out]; rfl, HK1.out⟩
  · rw [hf] at HFo
    obtain ⟨f, t, F⟩ := form_of hB (show okM p m = true by unfold okM; rw [hr, hf]; rfl)
    have HPw := Lib.hid (fun w => rpawn_is p.B hB f F.f1 w)
    cases hk : (kindI (p.B.getD f 0) == 1)
    · rw [hk] at HPw
      have HH := Lib.hid (fun w => hits_is p.B hB f F.f1 (t : Int) w)
      have HRt := Lib.hid (fun w => rightR_is p hB (right_t hr).2.1.1 (right_t hr).2.1.2 (right_pos hr).2.2.2.1 m f t F.hf F.ht F.f1 F.t1 w)
      have hgt := right_gt (p := p) (m := m)
      have hV := goes_man hf (by rw [F.pb, hk])
      rw [← hgt, F.hf, F.ht] at hV
      have HV := Lib.hid hV
      have hcf := HM.out.f
      have hct := HM.out.t
      rw [F.hf] at hcf
      rw [F.ht] at hct
      generalize hitB p.B (f : Int) (t : Int) = hb at *
      generalize hR (castN p m) = x at *
      have hcT := Lib.hid hct
      clear hB hr hf hk F hgt hV hct
      cases hb
      · go_enter Tryz.func16, Tryz.ntmps16
        go_wp2_with (first | (refine wpList_load_ps (by rfl) _ rfl _ rfl _ (HP.out) ?_) | (refine wpList_load_pb (by rfl) _ rfl _ rfl _ (HP.out) ?_) | (refine wpList_load_mv (by rfl) _ rfl _ rfl _ (HM.out) ?_))
        refine (HFo.out _).mono ?_
        rintro e w1 ⟨rfl, k1⟩
        have HK1 := Lib.hid (HK0.out.trans k1)
        have HP1 := Lib.hid (HP.out.kept k1)
        have HM1 := Lib.hid (MAt.kept HM.out k1)
        have hcf1 := kept_cell k1 hcf
        have hct1 := kept_cell k1 hcT.out
        clear k1 hcf
        go_wp2_with (first | (refine wpList_load_ps (by rfl) _ rfl _ rfl _ (HP1.out) ?_) | (refine wpList_load_pb (by rfl) _ rfl _ rfl _ (HP1.out) ?_) | (refine wpList_load_mv (by rfl) _ rfl _ rfl _ (HM1.out) ?_))
        refine (HPw.out _).mono ?_
        rintro e w2 ⟨rfl, k2⟩
        have HK2 := Lib.hid (HK1.out.trans k2)
        have HP2 := Lib.hid (HP1.out.kept k2)
        have HM2 := Lib.hid (MAt.kept HM1.out k2)
        have hcf2 := kept_cell k2 hcf1
        have hct2 := kept_cell k2 hct1
        clear k2 hcf1 hct1
        go_wp2_with (first | (refine wpList_load_ps (by rfl) _ rfl _ rfl _ (HP2.out) ?_) | (refine wpList_load_pb (by rfl) _ rfl _ rfl _ (HP2.out) ?_) | (refine wpList_load_mv (by rfl) _ rfl _ rfl _ (HM2.out) ?_))
        refine (HH.out _).mono ?_
        rintro e w3 ⟨rfl, k3⟩
        have HK3 := Lib.hid (HK2.out.trans k3)
        have HP3 := Lib.hid (HP2.out.kept k3)
        have HM3 := Lib.hid (MAt.kept HM2.out k3)
        clear k3 hcf2 hct2
        go_wp2_with (first | (refine wpList_load_ps (by rfl) _ rfl _ rfl _ (HP3.out) ?_) | (refine wpList_load_pb (by rfl) _ rfl _ rfl _ (HP3.out) ?_) | (refine wpList_load_mv (by rfl) _ rfl _ rfl _ (HM3.out) ?_))
        refine (HRt.out _).mono ?_
        rintro e w4 ⟨rfl, k4⟩
        have HK4 := Lib.hid (HK3.out.trans k4)
        clear k4
        go_wp2
        go_ret
        exact ⟨by rw [HV.out]; rfl, HK4.out⟩
      · go_enter Tryz.func16, Tryz.ntmps16
        go_wp2_with (first | (refine wpList_load_ps (by rfl) _ rfl _ rfl _ (HP.out) ?_) | (refine wpList_load_pb (by rfl) _ rfl _ rfl _ (HP.out) ?_) | (refine wpList_load_mv (by rfl) _ rfl _ rfl _ (HM.out) ?_))
        refine (HFo.out _).mono ?_
        rintro e w1 ⟨rfl, k1⟩
        have HK1 := Lib.hid (HK0.out.trans k1)
        have HP1 := Lib.hid (HP.out.kept k1)
        have HM1 := Lib.hid (MAt.kept HM.out k1)
        have hcf1 := kept_cell k1 hcf
        have hct1 := kept_cell k1 hcT.out
        clear k1 hcf
        go_wp2_with (first | (refine wpList_load_ps (by rfl) _ rfl _ rfl _ (HP1.out) ?_) | (refine wpList_load_pb (by rfl) _ rfl _ rfl _ (HP1.out) ?_) | (refine wpList_load_mv (by rfl) _ rfl _ rfl _ (HM1.out) ?_))
        refine (HPw.out _).mono ?_
        rintro e w2 ⟨rfl, k2⟩
        have HK2 := Lib.hid (HK1.out.trans k2)
        have HP2 := Lib.hid (HP1.out.kept k2)
        have HM2 := Lib.hid (MAt.kept HM1.out k2)
        have hcf2 := kept_cell k2 hcf1
        have hct2 := kept_cell k2 hct1
        clear k2 hcf1 hct1
        go_wp2_with (first | (refine wpList_load_ps (by rfl) _ rfl _ rfl _ (HP2.out) ?_) | (refine wpList_load_pb (by rfl) _ rfl _ rfl _ (HP2.out) ?_) | (refine wpList_load_mv (by rfl) _ rfl _ rfl _ (HM2.out) ?_))
        refine (HH.out _).mono ?_
        rintro e w3 ⟨rfl, k3⟩
        have HK3 := Lib.hid (HK2.out.trans k3)
        clear k3 hcf2 hct2
        go_wp2
        go_ret
        exact ⟨by rw [HV.out]; rfl, HK3.out⟩
    · rw [hk] at HPw
      have HG := Lib.hid (fun w => rpgo_is p m f t (F.pf (beq_iff_eq.1 hk)) w)
      have HV := Lib.hid (goes_pawn hf (by rw [F.pb, hk]))
      have hcf := HM.out.f
      rw [F.hf] at hcf
      generalize pgoB p m = b at *
      clear hB hr hf hk F
      go_enter Tryz.func16, Tryz.ntmps16
      go_wp2_with (first | (refine wpList_load_ps (by rfl) _ rfl _ rfl _ (HP.out) ?_) | (refine wpList_load_pb (by rfl) _ rfl _ rfl _ (HP.out) ?_) | (refine wpList_load_mv (by rfl) _ rfl _ rfl _ (HM.out) ?_))
      refine (HFo.out _).mono ?_
      rintro e w1 ⟨rfl, k1⟩
      have HK1 := Lib.hid (HK0.out.trans k1)
      have HP1 := Lib.hid (HP.out.kept k1)
      have HM1 := Lib.hid (MAt.kept HM.out k1)
      have hcf1 := kept_cell k1 hcf
      clear k1 hcf
      go_wp2_with (first | (refine wpList_load_ps (by rfl) _ rfl _ rfl _ (HP1.out) ?_) | (refine wpList_load_pb (by rfl) _ rfl _ rfl _ (HP1.out) ?_) | (refine wpList_load_mv (by rfl) _ rfl _ rfl _ (HM1.out) ?_))
      refine (HPw.out _).mono ?_
      rintro e w2 ⟨rfl, k2⟩
      have HK2 := Lib.hid (HK1.out.trans k2)
      have HP2 := Lib.hid (HP1.out.kept k2)
      have HM2 := Lib.hid (MAt.kept HM1.out k2)
      clear k2 hcf1
      go_wp2_with (first | (refine wpList_load_ps (by rfl) _ rfl _ rfl _ (HP2.out) ?_) | (refine wpList_load_pb (by rfl) _ rfl _ rfl _ (HP2.out) ?_) | (refine wpList_load_mv (by rfl) _ rfl _ rfl _ (HM2.out) ?_))
      refine (HG.out _).mono ?_
      rintro e w3 ⟨rfl, k3⟩
      have HK3 := Lib.hid (HK2.out.trans k3)
      clear k3
      go_wp2
      go_ret
      exact ⟨by rw [HV.out]; rfl, HK3.out⟩
end Go.Proofs.YtgcippicdhaaeaaGreatDoor
namespace Go.Proofs.YtgcippicdhaaeaaGreatDoor
open Go.RowKit
set_option linter.unusedVariables false
set_option linter.unusedSimpArgs false
set_option maxRecDepth 100000

/-- What the law gathers. -/
def wantP (L : List Mv) (s : Int) (k : Nat) : List Mv := (L.take k).filter fun x => x.f == s
theorem wantP_yes {L : List Mv} {s : Int} {k : Nat} {x : Mv} (h : L[k]? = some x) (he : (x.f == s) = true) : wantP L s (k + 1) = wantP L s k ++ [x] := by
  unfold wantP; rw [take_at L k x h]; simp [he]
theorem wantP_no {L : List Mv} {s : Int} {k : Nat} {x : Mv} (h : L[k]? = some x) (he : (x.f == s) = false) : wantP L s (k + 1) = wantP L s k := by
  unfold wantP; rw [take_at L k x h]; simp [he]
theorem allR_from (p : Ps) (s : Int) : wantP (allR p) s (allR p).length = fromR p s := by
  unfold wantP allR fromR
  rw [List.take_length]
  split
  · exact all_from64 p s
  · rfl
theorem allR_has (p : Ps) (m : Mv) : hasM (allR p) m = ((pwI p == 0) && goesM p m) := by
  unfold allR
  by_cases h : pwI p = 0
  · rw [if_pos h, h, Bool.eq_iff_iff, hasM_iff, mem_allN (right_t h).1]; simp
  · rw [if_neg h, show (pwI p == 0) = false from beq_eq_false_iff_ne.2 h]; rfl
theorem allR_len (p : Ps) : (allR p).length ≤ 24576 := by
  unfold allR; split
  · exact allN_len p 64
  · simp
theorem wantP_len (L : List Mv) (s : Int) (k : Nat) : (wantP L s k).length ≤ L.length := by
  unfold wantP
  refine Nat.le_trans (List.length_filter_le _ _) ?_
  rw [List.length_take]; omega
set_option maxHeartbeats 8000000 in
theorem walkGenFrom (p : Ps) (hB : Brd p.B) (s : Int) (ws : (Lit.int .i64 s).wf = true) (m : Mv) (w : World) (hT : TabG w) :
    Calls Tryz.prog 4 #[.agg (pl p).toArray, .int .i64 s, .agg (ml m).toArray] w fun e w' => e = .returned (.bool true) ∧ Kept w w' := by
  have HP : Hid (PAt _ _ p) := ⟨hB.1, heap_alloc2_old w (.cells (pl p).toArray 26) (.cells (ml m).toArray 35)⟩
  have HM : Hid (MAt _ _ m) := ⟨heap_alloc2_new w (.cells (pl p).toArray 26) (.cells (ml m).toArray 35)⟩
  have HK0 := Lib.hid (((Kept.refl w).alloc (.cells (pl p).toArray 26)).alloc (.cells (ml m).toArray 35))
  have HT := Lib.hid (hT.kept HK0.out)
  have HAl := Lib.hid (fun g a w hT hE => all_is g a p hB w hT hE)
  have HFr := Lib.hid (fun g a w hT hE => fromg_is g a p hB s w hT hE)
  have HGo := Lib.hid (fun g a w hT hE => goes_is g a p hB m w hT hE)
  have HRr := Lib.hid (fun w => rrightP_is p hB w)
  have HW := Lib.hid (allR_from p s)
  have hH := (metP_end (allR p) m).trans (allR_has p m)
  have HLl := Lib.hid (allR_len p)
  have HRg : Hid (pwI p = 0 → ∀ w, Calls Tryz.prog 16 #[.agg (pl p).toArray, .agg (ml m).toArray] w fun e w' => e = .returned (.bool (goesM p m)) ∧ Kept w w') := fun hr w => rgoes_is p hB hr m w
  have HPz : Hid ((pwI p == 0) = true → pwI p = 0) := fun h => beq_iff_eq.1 h
  have HH := Lib.hid hH
  generalize hR : allR p = L at *
  generalize fromR p s = R at *
  generalize (pwI p == 0) = pz at *
  generalize goesM p m = gm at *
  clear hB hT ws hR hH
  go_enter Tryz.func4, Tryz.ntmps4
  go_wp2_with fail
  refine (gen_wake _ HT.out).mono ?_
  rintro e w1 ⟨rfl, k1⟩
  have HKa := Lib.hid k1
  clear k1
  go_wp2_with fail
  refine (gnew_is _).mono ?_
  rintro e w2 ⟨g, a, rfl, hE, k2⟩
  have HE2 := Lib.hid hE
  have HKc := Lib.hid (HKa.out.trans k2)
  have HP2 := Lib.hid (HP.out.kept HKc.out)
  have HT2 := Lib.hid (HT.out.kept HKc.out)
  clear hE k2
  go_wp2_with (first | (refine wpList_load_ps (by rfl) _ rfl _ rfl _ (HP2.out) ?_) | (refine wpList_load_pb (by rfl) _ rfl _ rfl _ (HP2.out) ?_))
  refine (HAl.out g a _ HT2.out HE2.out).mono ?_
  rintro e X ⟨vX, rfl, hOX, kX⟩
  obtain ⟨aX, cX, rfl⟩ := hOX.slice
  obtain ⟨gl, hls, _⟩ := hOX.ls
  have HLs := Lib.hid hls
  have HKX0 := Lib.hid (HKc.out.trans kX)
  have HEX := Lib.hid (HE2.out.kept kX)
  generalize hn : L.length = n at *
  have HN := Lib.hid hn
  clear hOX hls kX hn
  go_wp2
  go_loopw [8, 9, 19] (fun t8 t9 t19 wr => ∃ k : Nat, k ≤ n ∧ t19 = .int .i64 k ∧ t9 = .bool (metP L m k) ∧ OwnM wr X.heap.size t8 (wantP L s k) ∧ Kept X wr) (fun _ _ t19 _ => n - (intOf t19).toNat)
  case atStart => exact ⟨0, Nat.zero_le _, rfl, rfl, OwnM.nil _ _, Kept.refl _⟩
  case round =>
    obtain ⟨k, hk, rfl, rfl, hO, hK⟩ := hrel
    obtain ⟨ao, co, rfl⟩ := hO.slice
    have HO := Lib.hid hO
    have HK := Lib.hid hK
    have HWl := Lib.hid (wantP_len L s k)
    generalize hln : (wantP L s k).length = q at *
    have HQ := Lib.hid hln
    clear hO hln
    by_cases hlt : k < n
    · have hlt' : (k : Int) < (n : Int) := by omega
      obtain ⟨x, hx⟩ : ∃ x, L[k]? = some x := ⟨_, List.getElem?_eq_getElem (by have := HN.out; omega)⟩
      obtain ⟨off, cap, he, hc1, hc2, h3⟩ := HLs.out.full (by have := HN.out; omega)
      rw [HN.out] at he
      injection he with he1 he2 he3
      subst he1 he3
      rw [HN.out] at hc1
      unfold maxLen at hc2
      have HRx := Lib.hid (range_i (range_kept h3 hK) hx)
      have HXk := Lib.hid hx
      have HMs := Lib.hid (metP_succ (m := m) hx)
      have KB0 := Lib.hid ((Kept.refl wr).alloc (.cells (ml x).toArray 35))
      have HXb := Lib.hid (MAt.new wr x)
      have hxf := HXb.out.f
      have HKb := Lib.hid (hK.trans KB0.out)
      have HOb := Lib.hid (HO.out.kept KB0.out)
      have HMb := Lib.hid (MAt.kept HM.out (HKX0.out.trans HKb.out))
      have HLit0 := Lib.hid (LsM.lit (wr.alloc (.cells (ml x).toArray 35)) x)
      have HLit := Lib.hid (LsM.lit (wr.alloc (.cells (ml x).toArray 35)) x)
      rw [show (wr.alloc (.cells (ml x).toArray 35)).heap.size = wr.heap.size + 1 by simp] at HLit
      obtain ⟨bx, hbx⟩ : ∃ bx, beqM x m = bx := ⟨_, rfl⟩
      have Hbx := Lib.hid hbx
      rw [hbx] at HMs
      clear h3 hx hK hbx
      cases he : (x.f == s)
      · cases hmt : metP L m k
        · have Hmt := Lib.hid hmt
          clear hmt
          have HS := Lib.hid (wantP_no (L := L) (s := s) HXk.out he)
          go_wp2_with (first | (refine wpList_load_mvi (by rfl) _ rfl gl (off + k * 3) rfl x HRx.out ?_) | (with_reducible refine wpList_new_mv rfl rfl ?_) | ((with_reducible refine wpList_store_newmv rfl _ _ rfl Zm x ?_ ?_ ?_); exact rfl; exact rfl) | (refine wpList_load_mv (by rfl) _ rfl _ rfl _ HXb.out ?_) | (refine wpList_load_mv (by rfl) _ rfl _ rfl _ HMb.out ?_) | (refine wpList_eql_mv (by rfl) _ _ _ rfl x m rfl rfl Hbx.out ?_))
          go_roundw
          case rel => exact ⟨k + 1, by omega, by go_num, by rw [HMs.out, Hmt.out]; rfl, by rw [HS.out]; exact HOb.out, HKb.out⟩
          case measure => simp [intOf]; omega
        · have Hmt := Lib.hid hmt
          clear hmt
          have HS := Lib.hid (wantP_no (L := L) (s := s) HXk.out he)
          go_wp2_with (first | (refine wpList_load_mvi (by rfl) _ rfl gl (off + k * 3) rfl x HRx.out ?_) | (with_reducible refine wpList_new_mv rfl rfl ?_) | ((with_reducible refine wpList_store_newmv rfl _ _ rfl Zm x ?_ ?_ ?_); exact rfl; exact rfl))
          go_roundw
          case rel => exact ⟨k + 1, by omega, by go_num, by rw [HMs.out, Hmt.out]; rfl, by rw [HS.out]; exact HOb.out, HKb.out⟩
          case measure => simp [intOf]; omega
      · cases hmt : metP L m k
        · have Hmt := Lib.hid hmt
          clear hmt
          have HS := Lib.hid (wantP_yes (L := L) (s := s) HXk.out he)
          have KA := Lib.hid ((Kept.refl (wr.alloc (.cells (ml x).toArray 35))).alloc (.cells (ml x).toArray 35))
          go_wp2_with (first | (refine wpList_load_mvi (by rfl) _ rfl gl (off + k * 3) rfl x HRx.out ?_) | (with_reducible refine wpList_new_mv rfl rfl ?_) | ((with_reducible refine wpList_store_newmv rfl _ _ rfl Zm x ?_ ?_ ?_); exact rfl; exact rfl) | (refine wpList_load_mv (by rfl) _ rfl _ rfl _ HXb.out ?_) | (refine wpList_bslice_mv rfl _ rfl x rfl ?_) | (at_builtin; first | (refine wpList_append_m rfl _ _ rfl X.heap.size _ _ _ (wantP L s k) [x] rfl rfl (HOb.out.kept KA.out) HLit0.out ?c1 ?c2 ?_) | (refine wpList_append_m rfl _ _ rfl X.heap.size _ _ _ (wantP L s k) [x] rfl rfl (HOb.out.kept KA.out) HLit.out ?c1 ?c2 ?_)))
          case c1 => have := HWl.out; have := HLl.out; have := HN.out; have := HQ.out; simp; omega
          case c2 => have := Nat.le_trans HKb.out.size KA.out.size; simp at this ⊢; omega
          intro v' w4 hO' hg
          have hK4 := (HOb.out.kept KA.out).grown (HKb.out.trans KA.out) (Nat.le_refl _) hg
          have HX4 : Hid (MAt w4 wr.heap.size x) := ⟨(hg.block wr.heap.size (by simp; omega) (fun e => by
            have := HOb.out
            rcases this.2 with ⟨q, _⟩ | ⟨gm, cm, curm, q1, q2, q3, _⟩
            · rw [q] at e; cases e
            · rw [q1] at e
              have e' : wr.heap.size = gm := by simpa [Value.ownBlock] using e
              have : gm < wr.heap.size := by
                rcases HO.out.2 with ⟨z, _⟩ | ⟨gz, _, _, z1, _, z3, _⟩
                · rw [z] at q1; cases q1
                · rw [z1] at q1; injection q1 with q1; injection q1 with q1; injection q1 with q1; rw [← q1]; exact lt_of_heap z3
              omega)).trans ((KA.out.heap HXb.out.at_))⟩
          have HM4 := Lib.hid (MAt.kept HM.out (HKX0.out.trans hK4))
          rw [← HS.out] at hO'
          obtain ⟨a', cap', rfl⟩ := hO'.slice
          have HO4 := Lib.hid hO'
          have HK4 := Lib.hid hK4
          clear hO' hK4 hg
          generalize (wantP L s (k + 1)).length = q' at *
          go_wp2_with (first | (refine wpList_load_mv (by rfl) _ rfl _ rfl _ HX4.out ?_) | (refine wpList_load_mv (by rfl) _ rfl _ rfl _ HM4.out ?_) | (refine wpList_eql_mv (by rfl) _ _ _ rfl x m rfl rfl Hbx.out ?_))
          go_roundw
          case rel => exact ⟨k + 1, by omega, by go_num, by rw [HMs.out, Hmt.out]; rfl, HO4.out, HK4.out⟩
          case measure => simp [intOf]; omega
        · have Hmt := Lib.hid hmt
          clear hmt
          have HS := Lib.hid (wantP_yes (L := L) (s := s) HXk.out he)
          have KA := Lib.hid ((Kept.refl (wr.alloc (.cells (ml x).toArray 35))).alloc (.cells (ml x).toArray 35))
          go_wp2_with (first | (refine wpList_load_mvi (by rfl) _ rfl gl (off + k * 3) rfl x HRx.out ?_) | (with_reducible refine wpList_new_mv rfl rfl ?_) | ((with_reducible refine wpList_store_newmv rfl _ _ rfl Zm x ?_ ?_ ?_); exact rfl; exact rfl) | (refine wpList_load_mv (by rfl) _ rfl _ rfl _ HXb.out ?_) | (refine wpList_bslice_mv rfl _ rfl x rfl ?_) | (at_builtin; first | (refine wpList_append_m rfl _ _ rfl X.heap.size _ _ _ (wantP L s k) [x] rfl rfl (HOb.out.kept KA.out) HLit0.out ?c1 ?c2 ?_) | (refine wpList_append_m rfl _ _ rfl X.heap.size _ _ _ (wantP L s k) [x] rfl rfl (HOb.out.kept KA.out) HLit.out ?c1 ?c2 ?_)))
          case c1 => have := HWl.out; have := HLl.out; have := HN.out; have := HQ.out; simp; omega
          case c2 => have := Nat.le_trans HKb.out.size KA.out.size; simp at this ⊢; omega
          intro v' w4 hO' hg
          have hK4 := (HOb.out.kept KA.out).grown (HKb.out.trans KA.out) (Nat.le_refl _) hg
          have HX4 : Hid (MAt w4 wr.heap.size x) := ⟨(hg.block wr.heap.size (by simp; omega) (fun e => by
            have := HOb.out
            rcases this.2 with ⟨q, _⟩ | ⟨gm, cm, curm, q1, q2, q3, _⟩
            · rw [q] at e; cases e
            · rw [q1] at e
              have e' : wr.heap.size = gm := by simpa [Value.ownBlock] using e
              have : gm < wr.heap.size := by
                rcases HO.out.2 with ⟨z, _⟩ | ⟨gz, _, _, z1, _, z3, _⟩
                · rw [z] at q1; cases q1
                · rw [z1] at q1; injection q1 with q1; injection q1 with q1; injection q1 with q1; rw [← q1]; exact lt_of_heap z3
              omega)).trans ((KA.out.heap HXb.out.at_))⟩
          have HM4 := Lib.hid (MAt.kept HM.out (HKX0.out.trans hK4))
          rw [← HS.out] at hO'
          obtain ⟨a', cap', rfl⟩ := hO'.slice
          have HO4 := Lib.hid hO'
          have HK4 := Lib.hid hK4
          clear hO' hK4 hg
          generalize (wantP L s (k + 1)).length = q' at *
          go_wp2
          go_roundw
          case rel => exact ⟨k + 1, by omega, by go_num, by rw [HMs.out, Hmt.out]; rfl, HO4.out, HK4.out⟩
          case measure => simp [intOf]; omega
    · obtain rfl : k = n := by omega
      have HP3 := Lib.hid (HP.out.kept (HKX0.out.trans hK))
      have HM3 := Lib.hid (MAt.kept HM.out (HKX0.out.trans hK))
      have HT3 := Lib.hid (HT.out.kept (HKX0.out.trans hK))
      have HE3 := Lib.hid (HEX.out.kept hK)
      rw [HW.out] at HO
      have hmt := HH.out
      generalize metP L m k = mt at *
      clear hK
      go_wp2_with (first | (refine wpList_load_ps (by rfl) _ rfl _ rfl _ (HP3.out) ?_) | (refine wpList_load_pb (by rfl) _ rfl _ rfl _ (HP3.out) ?_))
      refine (HFr.out g a _ HT3.out HE3.out).mono ?_
      rintro e w4 ⟨v4, rfl, hO4, k4⟩
      obtain ⟨a4, c4, rfl⟩ := hO4.slice
      obtain ⟨g4, hl4, _⟩ := hO4.ls
      obtain ⟨g3, hl3, _⟩ := (HO.out.kept k4).ls
      have HL4 := Lib.hid hl4
      have HL3 := Lib.hid hl3
      have HK4 := Lib.hid (HK.out.trans k4)
      have HP4 := Lib.hid (HP3.out.kept k4)
      have HM4 := Lib.hid (MAt.kept HM3.out k4)
      have HT4 := Lib.hid (HT3.out.kept k4)
      have HE4 := Lib.hid (HE3.out.kept k4)
      clear hO4 hl4 hl3 k4
      go_wp2_with fail
      refine (sameM_yes g4 g3 _ _ R _ HL4.out HL3.out).mono ?_
      rintro e w5 ⟨rfl, k5⟩
      have HK5 := Lib.hid (HK4.out.trans k5)
      have HP5 := Lib.hid (HP4.out.kept k5)
      have HM5 := Lib.hid (MAt.kept HM4.out k5)
      have HT5 := Lib.hid (HT4.out.kept k5)
      have HE5 := Lib.hid (HE4.out.kept k5)
      clear k5
      go_wp2_with (first | (refine wpList_load_ps (by rfl) _ rfl _ rfl _ (HP5.out) ?_) | (refine wpList_load_pb (by rfl) _ rfl _ rfl _ (HP5.out) ?_) | (refine wpList_load_mv (by rfl) _ rfl _ rfl _ (HM5.out) ?_))
      refine (HGo.out g a _ HT5.out HE5.out).mono ?_
      rintro e w6 ⟨rfl, k6⟩
      have HK6 := Lib.hid (HK5.out.trans k6)
      have HP6 := Lib.hid (HP5.out.kept k6)
      have HM6 := Lib.hid (MAt.kept HM5.out k6)
      clear k6
      subst hmt
      have hbb : ((pz && gm) == (pz && gm)) = true := by simp
      go_wp2_with (first | (refine wpList_load_ps (by rfl) _ rfl _ rfl _ (HP6.out) ?_) | (refine wpList_load_pb (by rfl) _ rfl _ rfl _ (HP6.out) ?_) | (refine wpList_load_mv (by rfl) _ rfl _ rfl _ (HM6.out) ?_))
      refine (HRr.out _).mono ?_
      rintro e w7 ⟨rfl, k7⟩
      have HK7 := Lib.hid (HK6.out.trans k7)
      have HP7 := Lib.hid (HP6.out.kept k7)
      have HM7 := Lib.hid (MAt.kept HM6.out k7)
      clear k7
      cases pz
      · go_wp2
        go_ret
        exact ⟨rfl, HK0.out.trans (HKX0.out.trans HK7.out)⟩
      · have HRg' := Lib.hid (HRg.out (HPz.out rfl))
        go_wp2_with (first | (refine wpList_load_ps (by rfl) _ rfl _ rfl _ (HP7.out) ?_) | (refine wpList_load_pb (by rfl) _ rfl _ rfl _ (HP7.out) ?_) | (refine wpList_load_mv (by rfl) _ rfl _ rfl _ (HM7.out) ?_))
        refine (HRg'.out _).mono ?_
        rintro e w8 ⟨rfl, k8⟩
        have HK8 := Lib.hid (HK7.out.trans k8)
        clear k8
        have hgg : (gm == gm) = true := by simp
        go_wp2
        go_ret
        exact ⟨rfl, HK0.out.trans (HKX0.out.trans HK8.out)⟩
end Go.Proofs.YtgcippicdhaaeaaGreatDoor
