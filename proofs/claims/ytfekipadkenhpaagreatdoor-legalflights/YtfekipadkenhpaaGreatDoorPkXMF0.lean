/- GeK · GeP · LeJ: my texts, in their order. -/
import Derived.Test.YtfekipadkenhpaaGreatDoorPkXMPRFT0
import Derived.Test.YtfekipadkenhpaaGreatDoorPkXMPRF0
import Derived.Test.YtfekipadkenhpaaGreatDoorPkXMPF0
import Derived.Test.YtfekipadkenhpaaGreatDoorPkXMPF1
import Derived.Test.YtfekipadkenhpaaGreatDoorPkXMPF2
import Derived.Test.YtfekipadkenhpaaGreatDoorPkA
import Derived.Test.YtfekipadkenhpaaGreatDoorPkB
import Derived.Test.YtfekipadkenhpaaGreatDoorPkC
import Derived.Test.YtfekipadkenhpaaGreatDoorPkD
import Derived.Test.YtfekipadkenhpaaGreatDoorPkE
import Derived.Test.YtfekipadkenhpaaGreatDoorPkF
import Derived.Test.YtfekipadkenhpaaGreatDoorPkGa
import Derived.Test.YtfekipadkenhpaaGreatDoorPkGb
import Derived.Test.YtfekipadkenhpaaGreatDoorPkGc
import Derived.Test.YtfekipadkenhpaaGreatDoorPkGd
import Derived.Test.YtfekipadkenhpaaGreatDoorPkGe
import Derived.Test.YtfekipadkenhpaaGreatDoorPkGf
import Derived.Test.YtfekipadkenhpaaGreatDoorPkGg
import Derived.Test.YtfekipadkenhpaaGreatDoorPkGh
import Derived.Test.YtfekipadkenhpaaGreatDoorPkGj
import Derived.Test.YtfekipadkenhpaaGreatDoorPkH
import Derived.Test.YtfekipadkenhpaaGreatDoorPkI
import Derived.Test.YtfekipadkenhpaaGreatDoorPkJ
import Derived.Test.YtfekipadkenhpaaGreatDoorPkK
import Derived.Test.YtfekipadkenhpaaGreatDoorPkL
import Derived.Test.YtfekipadkenhpaaGreatDoorPkLa
import Derived.Test.YtfekipadkenhpaaGreatDoorPkLf
import Derived.Test.YtfekipadkenhpaaGreatDoorPkM
import Derived.Test.YtfekipadkenhpaaGreatDoorPkQ
import Derived.Test.YtfekipadkenhpaaGreatDoorPkR
namespace Go.Proofs.YtfekipadkenhpaaGreatDoor
open Go.RowKit
set_option linter.unusedVariables false
set_option linter.unusedSimpArgs false
set_option maxRecDepth 100000
/-- Which squares are among some. -/
def hitL (D : List Int) : List Value := (List.range 64).map fun (n : Nat) => .bool (D.contains (n : Int))
theorem hitL_len (D : List Int) : (hitL D).length = 64 := by simp [hitL]
theorem hitL_get (D : List Int) {n : Nat} (h : n < 64) : (hitL D)[n]? = some (.bool (D.contains (n : Int))) := by simp [hitL, h]
theorem hitL_set (D : List Int) {y : Nat} (h : y < 64) : (hitL D).set y (.bool true) = hitL (D ++ [(y : Int)]) := by
 refine List.ext_getElem? fun n => ?_
 by_cases hn : n < 64
 ·rw [hitL_get _ hn, List.getElem?_set]
  by_cases e : y = n
  ·subst e
   rw [if_pos rfl, if_pos (by rw [hitL_len]; exact h)]
   simp
  ·rw [if_neg e, hitL_get _ hn]
   have : ((n : Int) == (y : Int)) = false := by rw [beq_eq_false_iff_ne]; omega
   simp [List.contains_eq_mem]
   omega
 ·rw [List.getElem?_eq_none (by rw [List.length_set, hitL_len]; omega), List.getElem?_eq_none (by rw [hitL_len]; omega)]
theorem sizeHt (D : List Int) : (Tryz.prog.info? 79).map (·.size) = some (hitL D).toArray.size := by
 have : (Tryz.prog.info? 79).map (·.size) = some 64 := by kernel_rfl
 rw [this]; simp [hitL_len]
theorem zeroHt : (Tryz.prog.info? 79).map (fun i => (i.zero, i.size)) = some (some (.agg (hitL []).toArray), 64) := by kernel_rfl
theorem run_zero_ht (w : World) : (zeroValue 79).run Tryz.prog w = .ok (.agg (hitL []).toArray) w := (zero_of_info zeroHt).1 w
theorem ht_one (D : List Int) : (hitL D).toArray.all (·.oneCell') = true := by
 rw [Array.all_eq_true_iff_forall_mem]
 intro v hv
 simp only [List.mem_toArray, hitL, List.mem_map] at hv
 obtain ⟨n, _, rfl⟩ := hv
 rfl
theorem wpList_new_ht {ops : Array Oper} {rest : List Oper} {o : Oper} {a : Act} {w : World} {Q : Exit → Act → World → Prop} (hgd : o.guard = none) (ho : o.op = .alloc 79)
  (h : wpList Tryz.prog ops Q rest (a.put o.dst (.pointer (some ⟨w.heap.size, 0, none⟩))) (w.alloc (.cells (hitL []).toArray 79))) : wpList Tryz.prog ops Q (o :: rest) a w := by
 refine wpList_plain hgd fun _ hK => ?_
 unfold Oper.wp execOp
 simp only [ho, Instr.alloc, Sem.run_bind, run_zero_ht, Result.andThen_ok, newVar, newRow, Value.cells]
 exact hK _ _ h
theorem wpList_store_newht {ops : Array Oper} {rest : List Oper} {o : Oper} {a : Act} {w : World} {Q : Exit → Act → World → Prop} (hgd : o.guard = none) (x y : Operand) (ho : o.op = .store 79 x y)
  (D : List Int) (hx : a.eval x = .pointer (some ⟨w.heap.size, 0, none⟩)) (hy : a.eval y = .agg (hitL D).toArray)
  (h : wpList Tryz.prog ops Q rest (a.put o.dst undef) (w.alloc (.cells (hitL D).toArray 79))) : wpList Tryz.prog ops Q (o :: rest) a (w.alloc (.cells (hitL []).toArray 79)) := by
 refine wpList_store_row hgd 79 x y ho w.heap.size (hitL D).toArray hx hy 79 _ (heap_alloc_new w _) (sizeHt D) (by simp [hitL_len]) (ht_one D) ?_
 rw [World.setRow_alloc_new]
 exact h
theorem upto_all {B : List Int} : ∀ {l : List Int}, (∀ (j : Nat) (y : Int), l[j]? = some y → bAt B y = 0) → uptoL B l = l
 | [], _ => rfl
 | x :: l, h => by
  unfold uptoL
  rw [if_pos (h 0 x rfl), upto_all fun j y hy => h (j + 1) y (by simpa using hy)]
theorem upto_cut {B : List Int} : ∀ {l : List Int} {k : Nat} {y : Int}, (∀ j, j < k → ∀ z, l[j]? = some z → bAt B z = 0) → l[k]? = some y → bAt B y ≠ 0 → uptoL B l = l.take (k + 1)
 | [], _, _, _, hy, _ => by simp at hy
 | x :: l, 0, y, _, hy, hn => by
  have : x = y := by simpa using hy
  subst this
  unfold uptoL
  rw [if_neg hn]; rfl
 | x :: l, k + 1, y, h, hy, hn => by
  unfold uptoL
  rw [if_pos (h 0 (by omega) x rfl), upto_cut (l := l) (k := k) (y := y) (fun j hj z hz => h (j + 1) (by omega) z (by simpa using hz)) (by simpa using hy) hn]
  rfl
theorem RowsZ.readB {e : TypeId} {w : World} {base : Nat} {v : Value} {L : List (List Int)} (h : RowsZ e w base v L) (hL : 0 < L.length) :
  ∃ go cap, v = .slice (some ⟨go, 0, none⟩) L.length cap ∧ L.length ≤ cap ∧ cap ≤ maxLen ∧ base ≤ go ∧ ∀ (i : Nat) (l : List Int), L[i]? = some l → ∃ u g, w.cell? ⟨go, i, none⟩ = some u ∧ LsZ w g u l ∧ (0 < l.length → base ≤ g ∧ g < w.heap.size) := by
 obtain ⟨go, cap, e1, e2, e3, e4⟩ := h.read hL
 refine ⟨go, cap, e1, e2, e3, ?_, e4⟩
 obtain ⟨vs, gs, h⟩ := h
 rcases h.own.2 with ⟨ev, h0⟩ | ⟨go', cap', cur, ev, hb, _⟩
 ·have := h.len; omega
 ·rw [e1] at ev
  injection ev with e _ _
  injection e with e
  injection e with e _ _
  omega
theorem take_snoc2 {l : List Int} {k : Nat} {y : Int} (h : l[k]? = some y) : l.take (k + 1) = l.take k ++ [y] := by rw [List.take_add_one, h]; rfl
theorem flat_snoc {B : List Int} {L : List (List Int)} {i : Nat} {l : List Int} (h : L[i]? = some l) : (L.take (i + 1)).flatMap (uptoL B) = (L.take i).flatMap (uptoL B) ++ uptoL B l := by
 rw [List.take_add_one, h]; simp
set_option maxHeartbeats 4000000 in
theorem struckR_is (B : List Int) (hB : Brd B) (s : Nat) (hs : s < 64) (w : World) :
  Calls Tryz.prog 76 #[.agg (cl B).toArray, .int .i64 (s : Int)] w fun e w' => e = .returned (.agg (hitL (strikeL B (s : Int))).toArray) ∧ Kept w w' := by
 have hbl := heap_alloc_new w (.cells (cl B).toArray 24)
 have K2 := ((Kept.refl (w.alloc (.cells (cl B).toArray 24))).alloc (.cells (hitL []).toArray 79)).alloc (.cells (hitL []).toArray 79)
 have hc0 := kept_cell K2 (board_cell hB hbl s hs)
 have HBl := Lib.hid (K2.heap hbl)
 have HK2 := Lib.hid (((Kept.refl w).alloc (.cells (cl B).toArray 24)).trans K2)
 have hs1 : (w.alloc (.cells (cl B).toArray 24)).heap.size = w.heap.size + 1 := by simp
 have HR1 : Hid (RAt (((w.alloc (.cells (cl B).toArray 24)).alloc (.cells (hitL []).toArray 79)).alloc (.cells (hitL []).toArray 79)) (w.heap.size + 1) (hitL []) 79) := by
  have h := heap_alloc2_old (w.alloc (.cells (cl B).toArray 24)) (.cells (hitL []).toArray 79) (.cells (hitL []).toArray 79)
  rw [hs1] at h
  exact ⟨h⟩
 have HR2 : Hid (RAt (((w.alloc (.cells (cl B).toArray 24)).alloc (.cells (hitL []).toArray 79)).alloc (.cells (hitL []).toArray 79)) (w.heap.size + 2) (hitL []) 79) := by
  have h := heap_alloc2_new (w.alloc (.cells (cl B).toArray 24)) (.cells (hitL []).toArray 79) (.cells (hitL []).toArray 79)
  rw [hs1] at h
  exact ⟨h⟩
 clear hs1
 obtain ⟨hb1, hb2⟩ := hB.2 s hs
 have HB := Lib.hid hB
 have hx : bAt B (s : Int) = B.getD s 0 := rfl
 have HMem := Lib.hid (fun (l : List Int) (h : l ∈ ofL (bAt B (s : Int)) (s : Int)) (x : Int) (hx : x ∈ l) => ofL_mem h hx)
 have HPos := Lib.hid (fun l (hl : l ∈ ofL (bAt B (s : Int)) (s : Int)) => (ofL_pos hl).1)
 have HV : Hid (strikeL B (s : Int) = ((ofL (B.getD s 0) (s : Int)).take (ofL (B.getD s 0) (s : Int)).length).flatMap (uptoL B)) := by show _ = _; rw [List.take_length]; rfl
 rw [hx] at HMem HPos
 have hOf := Lib.hid (rof_is (B.getD s 0) (s : Int))
 generalize strikeL B (s : Int) = SL at *
 generalize ofL (B.getD s 0) (s : Int) = L at *
 generalize B.getD s 0 = x at *
 clear hB hbl hx K2
 have hsI : (s : Int) < 64 := by omega
 go_enter Tryz.func76, Tryz.ntmps76
 go_wp2_with (with_reducible refine wpList_new_ht rfl rfl ?_)
 refine (hOf.out _).mono ?_
 rintro e W ⟨v, rfl, hR, hK⟩
 have hsz : (((w.alloc (.cells (cl B).toArray 24)).alloc (.cells (hitL []).toArray 79)).alloc (.cells (hitL []).toArray 79)).heap.size = w.heap.size + 3 := by simp
 rw [hsz] at hR
 have HKW := Lib.hid (HK2.out.trans hK)
 have HBW := Lib.hid (hK.heap HBl.out)
 have HR1W := Lib.hid (HR1.out.kept hK)
 have HR2W := Lib.hid (HR2.out.kept hK)
 have HsW : Hid (w.heap.size + 3 ≤ W.heap.size) := by show _ ≤ _; have := hK.size; omega
 clear hK hsz hc0
 by_cases hL : 0 < L.length
 ·obtain ⟨g7, c7, rfl, hn1, hn2, hg7, hrow⟩ := hR.readB hL
  unfold maxLen at hn2
  have HRow := Lib.hid hrow
  have Hg7 := Lib.hid hg7
  generalize hN : L.length = N at *
  have HNN := Lib.hid hN
  clear hR hrow hN hg7
  go_wp2
  go_loopw [7] (fun t7 wr => ∃ i : Nat, i ≤ N ∧ t7 = .int .i64 i ∧ RAt wr (w.heap.size + 2) (hitL ((L.take i).flatMap (uptoL B))) 79 ∧ KB W (w.heap.size + 2) wr) (fun t7 _ => N - (intOf t7).toNat)
  case atStart => exact ⟨0, by omega, rfl, HR2W.out, KB.refl _ _⟩
  case round =>
   obtain ⟨i, hi, rfl, hA, hKB⟩ := hrel
   have HA := Lib.hid hA
   have HKB := Lib.hid hKB
   clear hA hKB
   by_cases hlt : i < N
   ·have hlt' : (i : Int) < (N : Int) := by omega
    obtain ⟨l, hl⟩ : ∃ l, L[i]? = some l := ⟨_, List.getElem?_eq_getElem (by have := HNN.out; omega)⟩
    obtain ⟨u, g, hcu, hls, hgb⟩ := HRow.out i l hl
    have hpos := HPos.out l (List.mem_of_getElem? hl)
    have HMl := Lib.hid (HMem.out l (List.mem_of_getElem? hl))
    obtain ⟨off, cu, rfl, hk1, hk2, hcell⟩ := hls.full hpos
    have hgb' := hgb hpos
    have HS := Lib.hid (flat_snoc (B := B) hl)
    generalize (L.take i).flatMap (uptoL B) = D at *
    have Hl := Lib.hid hl
    have HCu := Lib.hid hcu
    have HCell := Lib.hid hcell
    have Hgb := Lib.hid hgb'
    have hbm : l.length ≤ 9223372036854775807 := by unfold maxLen at hk2; omega
    generalize hM : l.length = M at *
    have HMM := Lib.hid hM
    clear hl hcu hls hgb hcell hgb' hk2 hM
    go_wp2
    go_loopw [8] (fun t8 wr => ∃ k : Nat, k ≤ M ∧ t8 = .int .i64 k ∧ (∀ j, j < k → ∀ z, l[j]? = some z → bAt B z = 0) ∧ RAt wr (w.heap.size + 2) (hitL (D ++ l.take k)) 79 ∧ KB W (w.heap.size + 2) wr) (fun t8 _ => M - (intOf t8).toNat)
    case atStart => exact ⟨0, by omega, rfl, fun j hj => by omega, by rw [List.take_zero, List.append_nil]; exact HA.out, HKB.out⟩
    case round =>
     obtain ⟨k, hk, rfl, hin, hA2, hKB2⟩ := hrel
     have HIn := Lib.hid hin
     have HA2 := Lib.hid hA2
     have HKB2 := Lib.hid hKB2
     have d0 := hKB2.cell (by have := Hg7.out; show g7 ≠ _; omega) HCu.out
     clear hin hA2 hKB2
     by_cases hkl : k < M
     ·have hkl' : (k : Int) < (M : Int) := by omega
      obtain ⟨y, hy⟩ : ∃ y, l[k]? = some y := ⟨_, List.getElem?_eq_getElem (by have := HMM.out; omega)⟩
      obtain ⟨y0, y1⟩ := HMl.out y (List.mem_of_getElem? hy)
      obtain ⟨yn, rfl⟩ := Int.eq_ofNat_of_zero_le y0
      have hyn : yn < 64 := by omega
      have d1 := HKB2.out.cell (by have := Hgb.out; show g ≠ _; omega) (HCell.out k _ hy)
      have c1 := HA2.out.cellK yn
      rw [hitL_get _ hyn] at c1
      have f1 := HA2.out.frozen yn
      have HKB3 := Lib.hid (HKB2.out.set yn (.bool true))
      have e0 := HKB3.out.cell (by have := Hg7.out; show g7 ≠ _; omega) HCu.out
      have e1 := HKB3.out.cell (by have := Hgb.out; show g ≠ _; omega) (HCell.out k _ hy)
      have e2 := HKB3.out.cell (a := ⟨w.heap.size, yn, none⟩) (by show w.heap.size ≠ _; omega) (board_cell HB.out HBW.out yn hyn)
      have HA3 : Hid (RAt (_ : World) (w.heap.size + 2) (hitL (D ++ l.take (k + 1))) 79) := ⟨by
       rw [heap_setCell_same _ _ yn _ _ _ HA2.out.at_, List.setIfInBounds_toArray, hitL_set _ hyn, take_snoc2 hy, List.append_assoc]⟩
      have HY := Lib.hid hy
      have hbz : bAt B (yn : Int) = B.getD yn 0 := rfl
      generalize (D ++ l.take k).contains (yn : Int) = cb at *
      generalize B.getD yn 0 = z at *
      clear hy
      by_cases h0 : z = 0
      ·have b1 : (z != 0) = false := by simpa using h0
       have HZ := Lib.hid (hbz.trans h0)
       clear h0 hbz
       go_wp2
       go_roundw
       case rel => exact ⟨k + 1, by omega, by go_num, fun j hj y hy' => by
        by_cases hji : j < k
        ·exact HIn.out j hji y hy'
        ·obtain rfl : j = k := by omega
         rw [HY.out] at hy'
         rw [← Option.some.inj hy']; exact HZ.out, HA3.out, HKB3.out⟩
       case measure => simp [intOf]; omega
      ·have b1 : (z != 0) = true := by simpa using h0
       have HU := Lib.hid (upto_cut HIn.out HY.out (by rw [hbz]; exact h0))
       clear h0 hbz
       go_wp2
       go_roundw
       case rel => exact ⟨i + 1, by omega, by go_num, by rw [HS.out, HU.out]; exact HA3.out, HKB3.out⟩
       case measure => simp [intOf]; omega
     ·have hkl' : ¬ (k : Int) < (M : Int) := by omega
      obtain rfl : k = M := by omega
      have HU : Hid (uptoL B l = l.take k) := by
       show _ = _
       rw [List.take_of_length_le (by have := HMM.out; omega)]
       exact upto_all fun j y hy => HIn.out j (by have := (List.getElem?_eq_some_iff.1 hy).1; have := HMM.out; omega) y hy
      go_wp2
      go_roundw
      case rel => exact ⟨i + 1, by omega, by go_num, by rw [HS.out, HU.out]; exact HA2.out, HKB2.out⟩
      case measure => simp [intOf]; omega
   ·obtain rfl : i = N := by omega
    have hlt' : ¬ (i : Int) < (i : Int) := by omega
    rw [← HV.out] at HA
    have H1 := Lib.hid (HR1W.out.kb HKB.out (by omega))
    go_wp2_with (first | (refine wpList_load_mid rfl 79 _ rfl (w.heap.size + 2) 0 rfl (hitL SL) _ HA.out.range Tryz.underlying79 rfl (by rw [sizeHt SL]; simp) ?_) | (refine wpList_store_row rfl 79 _ _ rfl (w.heap.size + 1) (hitL SL).toArray rfl rfl 79 _ H1.out.at_ (sizeHt SL) (by simp [hitL_len]) (ht_one _) ?_))
    refine bodyPost_ret (v := .agg (hitL SL).toArray) ?_ rfl ⟨rfl, ?_⟩
    ·exact results_cell_row rfl _ _ (w.heap.size + 1) 79 _ (0, 0) _ rfl (setRow_heap _ _ _ _ _ _ H1.out.at_) Tryz.underlying79 rfl (sizeHt SL)
    ·exact (HKB.out.below HKW.out (by omega)).setRow (by omega) _
 ·have h0 : L = [] := List.eq_nil_of_length_eq_zero (by omega)
  subst h0
  obtain ⟨a7, c7, rfl⟩ := hR.slice
  have HV' : Hid (SL = []) := HV.out
  rw [← HV'.out] at HR2W
  clear hR HV
  go_wp2
  go_loopw [7] (fun t7 wr => t7 = .int .i64 0 ∧ wr = W) (fun _ _ => 0)
  case atStart => exact ⟨rfl, rfl⟩
  case round =>
   obtain ⟨rfl, rfl⟩ := hrel
   go_wp2_with (first | (refine wpList_load_mid rfl 79 _ rfl (w.heap.size + 2) 0 rfl (hitL SL) _ HR2W.out.range Tryz.underlying79 rfl (by rw [sizeHt SL]; simp) ?_) | (refine wpList_store_row rfl 79 _ _ rfl (w.heap.size + 1) (hitL SL).toArray rfl rfl 79 _ HR1W.out.at_ (sizeHt SL) (by simp [hitL_len]) (ht_one _) ?_))
   refine bodyPost_ret (v := .agg (hitL SL).toArray) ?_ rfl ⟨rfl, ?_⟩
   ·exact results_cell_row rfl _ _ (w.heap.size + 1) 79 _ (0, 0) _ rfl (setRow_heap _ _ _ _ _ _ HR1W.out.at_) Tryz.underlying79 rfl (sizeHt SL)
   ·exact HKW.out.setRow (by omega) _
theorem wpList_load_mvu {ops : Array Oper} {rest : List Oper} {op : Oper} {a : Act} {w : World} {Q : Exit → Act → World → Prop} (hgd : op.guard = none) (x : Operand) (ho : op.op = .load 36 x)
  (g : Nat) (hx : a.eval x = .pointer (some ⟨g, 0, none⟩)) (m : Mv) (hg : MAt w g m)
  (h : wpList Tryz.prog ops Q rest (a.put op.dst (.agg (ml m).toArray)) w) : wpList Tryz.prog ops Q (op :: rest) a w :=
 wpList_plain hgd fun _ hK => wp_load_mid 36 x ho g 0 hx (ml m) _ (RAt.range hg) Tryz.underlying36 rfl sizeM (hK _ _ h)
def toQ (p : Ps) (f n : Nat) : List Mv := (List.range n).flatMap (toN p f)
theorem toQ_succ (p : Ps) (f n : Nat) : toQ p f (n + 1) = toQ p f n ++ toN p f n := by simp [toQ, List.range_succ]
theorem toQ_len (p : Ps) (f n : Nat) : (toQ p f n).length ≤ 6 * n := by
 have := flatM_len (toN p f) 6 (toN_len p f) (List.range n)
 rw [List.length_range] at this
 exact this
def toP (p : Ps) (f t j : Nat) : List Mv := ((prK.take j).map fun k => (⟨(f : Int), (t : Int), k⟩ : Mv)).filter (goesM p)
theorem toP_end (p : Ps) (f t : Nat) : toP p f t 6 = toN p f t := rfl
theorem prK_at {j : Nat} (h : j < 6) : prK[j]? = some (5 - (j : Int)) := by
 have : j = 0 ∨ j = 1 ∨ j = 2 ∨ j = 3 ∨ j = 4 ∨ j = 5 := by omega
 rcases this with rfl | rfl | rfl | rfl | rfl | rfl <;> rfl
theorem toP_yes {p : Ps} {f t j : Nat} {q : Int} (hj : j < 6) (hq : q = 5 - (j : Int)) (h : goesM p ⟨f, t, q⟩ = true) : toP p f t (j + 1) = toP p f t j ++ [⟨f, t, q⟩] := by
 unfold toP
 rw [List.take_add_one, prK_at hj, ← hq]
 simp [h]
theorem toP_no {p : Ps} {f t j : Nat} {q : Int} (hj : j < 6) (hq : q = 5 - (j : Int)) (h : goesM p ⟨f, t, q⟩ = false) : toP p f t (j + 1) = toP p f t j := by
 unfold toP
 rw [List.take_add_one, prK_at hj, ← hq]
 simp [h]
theorem toP_len (p : Ps) (f t j : Nat) : (toP p f t j).length ≤ 6 := by
 unfold toP
 refine Nat.le_trans (List.length_filter_le _ _) ?_
 rw [List.length_map, List.length_take]
 exact Nat.min_le_right _ _
set_option maxHeartbeats 8000000 in
theorem rall_is (p : Ps) (hB : Brd p.B) (hr : pwI p = 0) (w : World) : Calls Tryz.prog 38 #[.agg (pl p).toArray] w (NewM w (allL p)) := by
 have HP := Lib.hid (PAt.new w hB.1)
 have HK0 := Lib.hid ((Kept.refl w).alloc (.cells (pl p).toArray 26))
 obtain ⟨W, eW⟩ : ∃ W, W = w.alloc (.cells (pl p).toArray 26) := ⟨_, rfl⟩
 have HW := Lib.hid eW
 rw [← eW] at HP HK0
 have HFo := Lib.hid (fun m w => rformed_is p hB (right_t hr).1 m w)
 have HB := Lib.hid hB
 have HRi := Lib.hid hr
 have HV : Hid (allL p = allN p 64) := by rfl
 have t01 := Lib.hid (right_t hr).1
 clear hB hr eW
 go_enter Tryz.func38, Tryz.ntmps38
 go_wp2
 rw [← HW.out]
 go_loopw [3, 4] (fun t3 t4 wr => ∃ f : Nat, f ≤ 64 ∧ t4 = .int .i64 f ∧ OwnM wr W.heap.size t3 (allN p f) ∧ Kept W wr) (fun _ t4 _ => 64 - (intOf t4).toNat)
 case atStart => exact ⟨0, by omega, rfl, OwnM.nil _ _, Kept.refl _⟩
 case round =>
  obtain ⟨f, hf, rfl, hO, hK⟩ := hrel
  obtain ⟨ao, co, rfl⟩ := hO.slice
  have HO0 := Lib.hid hO
  have HK00 := Lib.hid hK
  have HPr := Lib.hid (HP.out.kept hK)
  generalize hln : (allN p f).length = q0 at *
  have HQ0 := Lib.hid hln
  clear hO hK hln
  by_cases hlt : f < 64
  ·have hlt' : (f : Int) < 64 := by omega
   have hsq := HPr.out.sq f hlt
   by_cases h0 : p.B.getD f 0 = 0
   ·rw [h0] at hsq
    have HNo : Hid (allN p (f + 1) = allN p f) := by
     show _ = _
     rw [allN_succ, from_none (by unfold manA bAt; rw [if_pos (by omega), Int.toNat_natCast, h0, side_zero]; have := t01.out; omega), List.append_nil]
    clear h0
    go_wp2
    go_roundw
    case rel => exact ⟨f + 1, by omega, by go_num, by rw [HNo.out]; exact HO0.out, HK00.out⟩
    case measure => simp [intOf]; omega
   ·have hb0 : (p.B.getD f 0 == 0) = false := beq_eq_false_iff_ne.2 h0
    have HSt := Lib.hid (fun w => struckR_is p.B HB.out f hlt w)
    have HPw := Lib.hid (fun w => rpawn_is p.B HB.out f hlt w)
    have HS := Lib.hid (allN_succ p f)
    have HAl := Lib.hid (allN_len p f)
    have Hkk : Hid (∃ kk, (kindI (p.B.getD f 0) == 1) = kk) := ⟨_, rfl⟩
    generalize hA : allN p f = A at *
    clear h0 hA
    generalize hxx : p.B.getD f 0 = xx at hsq hb0
    clear hxx
    go_wp2_with (refine wpList_load_pb (by rfl) _ rfl _ rfl _ HPr.out ?_)
    refine (HSt.out _).mono ?_
    rintro e w1 ⟨rfl, k1⟩
    have HKa := Lib.hid ((HK00.out.trans k1).alloc (.cells (hitL (strikeL p.B (f : Int))).toArray 79))
    have HOa := Lib.hid ((HO0.out.kept k1).kept ((Kept.refl w1).alloc (.cells (hitL (strikeL p.B (f : Int))).toArray 79)))
    have HAa : Hid (RAt (w1.alloc (.cells (hitL (strikeL p.B (f : Int))).toArray 79)) w1.heap.size (hitL (strikeL p.B (f : Int))) 79) := ⟨heap_alloc_new w1 _⟩
    clear k1 hsq
    go_wp2_with (first | (with_reducible refine wpList_new_ht rfl rfl ?_) | ((with_reducible refine wpList_store_newht rfl _ _ rfl (strikeL p.B (f : Int)) ?_ ?_ ?_); exact rfl; exact rfl))
    go_loopw [3, 6] (fun t3 t6 wr => ∃ t : Nat, t ≤ 64 ∧ t6 = .int .i64 t ∧ OwnM wr W.heap.size t3 (A ++ toQ p f t) ∧ Kept W wr ∧ RAt wr w1.heap.size (hitL (strikeL p.B (f : Int))) 79) (fun _ t6 _ => 64 - (intOf t6).toNat)
    case atStart => exact ⟨0, by omega, rfl, by rw [show toQ p f 0 = [] from rfl, List.append_nil]; exact HOa.out, HKa.out, HAa.out⟩
    case round =>
     obtain ⟨t, ht, rfl, hO, hK, hAr⟩ := hrel
     obtain ⟨ao, co, rfl⟩ := hO.slice
     have HO1 := Lib.hid hO
     have HK1 := Lib.hid hK
     have HA1 := Lib.hid hAr
     have HQl := Lib.hid (toQ_len p f t)
     generalize hln : (A ++ toQ p f t).length = q1 at *
     have HQ1 := Lib.hid hln
     clear hO hK hAr hln
     by_cases htl : t < 64
     ·have htl' : (t : Int) < 64 := by omega
      have HSq := Lib.hid (toQ_succ p f t)
      go_wp2
      go_loopw [3, 7] (fun t3 t7 wr => ∃ (j : Nat) (q : Int), q = 5 - (j : Int) ∧ j ≤ 6 ∧ t7 = .int .i64 q ∧ OwnM wr W.heap.size t3 (A ++ toQ p f t ++ toP p f t j) ∧ Kept W wr ∧ RAt wr w1.heap.size (hitL (strikeL p.B (f : Int))) 79) (fun _ t7 _ => (intOf t7 + 1).toNat)
      case atStart => exact ⟨0, 5, by omega, by omega, rfl, by rw [show toP p f t 0 = [] from rfl, List.append_nil]; exact HO1.out, HK1.out, HA1.out⟩
      case round =>
       obtain ⟨j, q, hq, hj, rfl, hO, hK, hAr⟩ := hrel
       obtain ⟨ao, co, rfl⟩ := hO.slice
       have HQ := Lib.hid hq
       have HLn : Hid (f ≤ 64 ∧ t ≤ 64) := ⟨hf, ht⟩
       by_cases hjl : 0 ≤ q
       ·have hj6 := Lib.hid (show j < 6 by omega)
        have hqb : q ≤ 5 := by omega
        have KB0 := Lib.hid ((Kept.refl wr).alloc (.cells (ml ⟨(f : Int), (t : Int), q⟩).toArray 36))
        have HP2 := Lib.hid (HP.out.kept (hK.trans KB0.out))
        have HM2 : Hid (MAt _ _ _) := MAt.new wr ⟨(f : Int), (t : Int), q⟩
        have HK2 := Lib.hid (hK.trans KB0.out)
        have HO2 := Lib.hid (hO.kept KB0.out)
        have HA2 := Lib.hid (hAr.kept KB0.out)
        have HFm := Lib.hid (HFo.out ⟨(f : Int), (t : Int), q⟩)
        generalize hln : (A ++ toQ p f t ++ toP p f t j).length = q2 at *
        clear hO hK hAr hln hq
        cases hfo : formB p ⟨(f : Int), (t : Int), q⟩
        ·rw [hfo] at HFm
         have HG := Lib.hid (goes_not hfo)
         clear hfo
         go_wp2_with (first | (refine wpList_bt_mv3 rfl _ _ _ rfl (f : Int) (t : Int) q rfl rfl rfl ?_) | (with_reducible refine wpList_new_mv rfl rfl ?_) | ((with_reducible refine wpList_store_newmv rfl _ _ rfl Zm ⟨(f : Int), (t : Int), q⟩ ?_ ?_ ?_); exact rfl; exact rfl) | (refine wpList_load_ps (by rfl) _ rfl _ rfl _ HP2.out ?_) | (refine wpList_load_pb (by rfl) _ rfl _ rfl _ HP2.out ?_) | (refine wpList_load_mv (by rfl) _ rfl _ rfl _ HM2.out ?_))
         refine (HFm.out _).mono ?_
         rintro e w3 ⟨rfl, k3⟩
         have HP3 := Lib.hid (HP2.out.kept k3)
         have HM3 := Lib.hid (MAt.kept HM2.out k3)
         have HK3 := Lib.hid (HK2.out.trans k3)
         have HO3 := Lib.hid (HO2.out.kept k3)
         have HA3 := Lib.hid (HA2.out.kept k3)
         clear k3
         go_wp2
         go_roundw
         case rel => exact ⟨j + 1, q - 1, by have := HQ.out; omega, by have := hj6.out; omega, by go_num, by rw [toP_no hj6.out HQ.out HG.out]; exact HO3.out, HK3.out, HA3.out⟩
         case measure => simp [intOf]; omega
        ·rw [hfo] at HFm
         have hok : okM p ⟨(f : Int), (t : Int), q⟩ = true := by unfold okM; rw [HRi.out, hfo]; rfl
         obtain ⟨f', t', F⟩ := form_of HB.out hok
         obtain rfl : f' = f := by have := F.hf; dsimp only at this; omega
         obtain rfl : t' = t := by have := F.ht; dsimp only at this; omega
         cases hk : (kindI (p.B.getD f' 0) == 1)
         ·have HPn := Lib.hid HPw.out
          rw [hk] at HPn
          have HRt := Lib.hid (fun w => rightR_is p HB.out (right_t HRi.out).2.1.1 (right_t HRi.out).2.1.2 (right_pos HRi.out).2.2.2.1 ⟨(f' : Int), (t' : Int), q⟩ f' t' rfl rfl hlt htl w)
          have hgt := right_gt (p := p) (m := ⟨(f' : Int), (t' : Int), q⟩)
          have hG := goes_man hfo (by rw [F.pb, hk])
          rw [← hgt] at hG
          have hh2 : _ = some (Value.bool (hitB p.B (f' : Int) (t' : Int))) := (HA2.out.cellK t').trans (hitL_get _ htl)
          clear hgt hk hfo hok F
          cases hhb : hitB p.B (f' : Int) (t' : Int)
          ·rw [hhb] at hG hh2
           generalize hR (castN p ⟨(f' : Int), (t' : Int), q⟩) = x at *
           rw [Bool.false_or] at hG
           cases hx : decide (0 < x)
           ·rw [hx] at hG
            have HG := Lib.hid hG
            have hx' : ¬ 0 < x := by simpa using hx
            clear hG hx
            go_wp2_with (first | (refine wpList_bt_mv3 rfl _ _ _ rfl (f' : Int) (t' : Int) q rfl rfl rfl ?_) | (with_reducible refine wpList_new_mv rfl rfl ?_) | ((with_reducible refine wpList_store_newmv rfl _ _ rfl Zm ⟨(f' : Int), (t' : Int), q⟩ ?_ ?_ ?_); exact rfl; exact rfl) | (refine wpList_load_ps (by rfl) _ rfl _ rfl _ HP2.out ?_) | (refine wpList_load_pb (by rfl) _ rfl _ rfl _ HP2.out ?_) | (refine wpList_load_mv (by rfl) _ rfl _ rfl _ HM2.out ?_))
            refine (HFm.out _).mono ?_
            rintro e w3 ⟨rfl, k3⟩
            have HP3 := Lib.hid (HP2.out.kept k3)
            have HM3 := Lib.hid (MAt.kept HM2.out k3)
            have HK3 := Lib.hid (HK2.out.trans k3)
            have HO3 := Lib.hid (HO2.out.kept k3)
            have HA3 := Lib.hid (HA2.out.kept k3)
            have hh3 := kept_cell k3 hh2
            clear k3 hh2
            go_wp2_with (first | (refine wpList_bt_mv3 rfl _ _ _ rfl (f' : Int) (t' : Int) q rfl rfl rfl ?_) | (with_reducible refine wpList_new_mv rfl rfl ?_) | ((with_reducible refine wpList_store_newmv rfl _ _ rfl Zm ⟨(f' : Int), (t' : Int), q⟩ ?_ ?_ ?_); exact rfl; exact rfl) | (refine wpList_load_ps (by rfl) _ rfl _ rfl _ HP3.out ?_) | (refine wpList_load_pb (by rfl) _ rfl _ rfl _ HP3.out ?_) | (refine wpList_load_mv (by rfl) _ rfl _ rfl _ HM3.out ?_))
            refine (HPn.out _).mono ?_
            rintro e w4 ⟨rfl, k4⟩
            have HP4 := Lib.hid (HP3.out.kept k4)
            have HM4 := Lib.hid (MAt.kept HM3.out k4)
            have HK4 := Lib.hid (HK3.out.trans k4)
            have HO4 := Lib.hid (HO3.out.kept k4)
            have HA4 := Lib.hid (HA3.out.kept k4)
            have hh4 := kept_cell k4 hh3
            clear k4 hh3
            go_wp2_with (first | (refine wpList_bt_mv3 rfl _ _ _ rfl (f' : Int) (t' : Int) q rfl rfl rfl ?_) | (with_reducible refine wpList_new_mv rfl rfl ?_) | ((with_reducible refine wpList_store_newmv rfl _ _ rfl Zm ⟨(f' : Int), (t' : Int), q⟩ ?_ ?_ ?_); exact rfl; exact rfl) | (refine wpList_load_ps (by rfl) _ rfl _ rfl _ HP4.out ?_) | (refine wpList_load_pb (by rfl) _ rfl _ rfl _ HP4.out ?_) | (refine wpList_load_mv (by rfl) _ rfl _ rfl _ HM4.out ?_))
            refine (HPn.out _).mono ?_
            rintro e w5 ⟨rfl, k5⟩
            have HP5 := Lib.hid (HP4.out.kept k5)
            have HM5 := Lib.hid (MAt.kept HM4.out k5)
            have HK5 := Lib.hid (HK4.out.trans k5)
            have HO5 := Lib.hid (HO4.out.kept k5)
            have HA5 := Lib.hid (HA4.out.kept k5)
            have hh5 := kept_cell k5 hh4
            clear k5 hh4
            go_wp2_with (first | (refine wpList_bt_mv3 rfl _ _ _ rfl (f' : Int) (t' : Int) q rfl rfl rfl ?_) | (with_reducible refine wpList_new_mv rfl rfl ?_) | ((with_reducible refine wpList_store_newmv rfl _ _ rfl Zm ⟨(f' : Int), (t' : Int), q⟩ ?_ ?_ ?_); exact rfl; exact rfl) | (refine wpList_load_ps (by rfl) _ rfl _ rfl _ HP5.out ?_) | (refine wpList_load_pb (by rfl) _ rfl _ rfl _ HP5.out ?_) | (refine wpList_load_mv (by rfl) _ rfl _ rfl _ HM5.out ?_))
            refine (HRt.out _).mono ?_
            rintro e w6 ⟨rfl, k6⟩
            have HP6 := Lib.hid (HP5.out.kept k6)
            have HM6 := Lib.hid (MAt.kept HM5.out k6)
            have HK6 := Lib.hid (HK5.out.trans k6)
            have HO6 := Lib.hid (HO5.out.kept k6)
            have HA6 := Lib.hid (HA5.out.kept k6)
            clear k6
            go_wp2
            go_roundw
            case rel => exact ⟨j + 1, q - 1, by have := HQ.out; omega, by have := hj6.out; omega, by go_num, by rw [toP_no hj6.out HQ.out HG.out]; exact HO6.out, HK6.out, HA6.out⟩
            case measure => simp [intOf]; omega
           ·rw [hx] at hG
            have HG := Lib.hid hG
            have hx' : 0 < x := by simpa using hx
            clear hG hx
            go_wp2_with (first | (refine wpList_bt_mv3 rfl _ _ _ rfl (f' : Int) (t' : Int) q rfl rfl rfl ?_) | (with_reducible refine wpList_new_mv rfl rfl ?_) | ((with_reducible refine wpList_store_newmv rfl _ _ rfl Zm ⟨(f' : Int), (t' : Int), q⟩ ?_ ?_ ?_); exact rfl; exact rfl) | (refine wpList_load_ps (by rfl) _ rfl _ rfl _ HP2.out ?_) | (refine wpList_load_pb (by rfl) _ rfl _ rfl _ HP2.out ?_) | (refine wpList_load_mv (by rfl) _ rfl _ rfl _ HM2.out ?_))
            refine (HFm.out _).mono ?_
            rintro e w3 ⟨rfl, k3⟩
            have HP3 := Lib.hid (HP2.out.kept k3)
            have HM3 := Lib.hid (MAt.kept HM2.out k3)
            have HK3 := Lib.hid (HK2.out.trans k3)
            have HO3 := Lib.hid (HO2.out.kept k3)
            have HA3 := Lib.hid (HA2.out.kept k3)
            have hh3 := kept_cell k3 hh2
            clear k3 hh2
            go_wp2_with (first | (refine wpList_bt_mv3 rfl _ _ _ rfl (f' : Int) (t' : Int) q rfl rfl rfl ?_) | (with_reducible refine wpList_new_mv rfl rfl ?_) | ((with_reducible refine wpList_store_newmv rfl _ _ rfl Zm ⟨(f' : Int), (t' : Int), q⟩ ?_ ?_ ?_); exact rfl; exact rfl) | (refine wpList_load_ps (by rfl) _ rfl _ rfl _ HP3.out ?_) | (refine wpList_load_pb (by rfl) _ rfl _ rfl _ HP3.out ?_) | (refine wpList_load_mv (by rfl) _ rfl _ rfl _ HM3.out ?_))
            refine (HPn.out _).mono ?_
            rintro e w4 ⟨rfl, k4⟩
            have HP4 := Lib.hid (HP3.out.kept k4)
            have HM4 := Lib.hid (MAt.kept HM3.out k4)
            have HK4 := Lib.hid (HK3.out.trans k4)
            have HO4 := Lib.hid (HO3.out.kept k4)
            have HA4 := Lib.hid (HA3.out.kept k4)
            have hh4 := kept_cell k4 hh3
            clear k4 hh3
            go_wp2_with (first | (refine wpList_bt_mv3 rfl _ _ _ rfl (f' : Int) (t' : Int) q rfl rfl rfl ?_) | (with_reducible refine wpList_new_mv rfl rfl ?_) | ((with_reducible refine wpList_store_newmv rfl _ _ rfl Zm ⟨(f' : Int), (t' : Int), q⟩ ?_ ?_ ?_); exact rfl; exact rfl) | (refine wpList_load_ps (by rfl) _ rfl _ rfl _ HP4.out ?_) | (refine wpList_load_pb (by rfl) _ rfl _ rfl _ HP4.out ?_) | (refine wpList_load_mv (by rfl) _ rfl _ rfl _ HM4.out ?_))
            refine (HPn.out _).mono ?_
            rintro e w5 ⟨rfl, k5⟩
            have HP5 := Lib.hid (HP4.out.kept k5)
            have HM5 := Lib.hid (MAt.kept HM4.out k5)
            have HK5 := Lib.hid (HK4.out.trans k5)
            have HO5 := Lib.hid (HO4.out.kept k5)
            have HA5 := Lib.hid (HA4.out.kept k5)
            have hh5 := kept_cell k5 hh4
            clear k5 hh4
            go_wp2_with (first | (refine wpList_bt_mv3 rfl _ _ _ rfl (f' : Int) (t' : Int) q rfl rfl rfl ?_) | (with_reducible refine wpList_new_mv rfl rfl ?_) | ((with_reducible refine wpList_store_newmv rfl _ _ rfl Zm ⟨(f' : Int), (t' : Int), q⟩ ?_ ?_ ?_); exact rfl; exact rfl) | (refine wpList_load_ps (by rfl) _ rfl _ rfl _ HP5.out ?_) | (refine wpList_load_pb (by rfl) _ rfl _ rfl _ HP5.out ?_) | (refine wpList_load_mv (by rfl) _ rfl _ rfl _ HM5.out ?_))
            refine (HRt.out _).mono ?_
            rintro e w6 ⟨rfl, k6⟩
            have HP6 := Lib.hid (HP5.out.kept k6)
            have HM6 := Lib.hid (MAt.kept HM5.out k6)
            have HK6 := Lib.hid (HK5.out.trans k6)
            have HO6 := Lib.hid (HO5.out.kept k6)
            have HA6 := Lib.hid (HA5.out.kept k6)
            clear k6
            have KA := Lib.hid ((Kept.refl w6).alloc (.cells (ml ⟨(f' : Int), (t' : Int), q⟩).toArray 36))
            go_wp2_with (first | ((with_reducible refine wpList_load_mvu rfl _ rfl _ ?_ _ HM6.out ?_); exact rfl) | ((with_reducible refine wpList_bslice_mv rfl _ rfl ⟨(f' : Int), (t' : Int), q⟩ ?_ ?_); exact rfl) | (at_builtin; refine wpList_append_m rfl _ _ rfl W.heap.size w6.heap.size _ _ (A ++ toQ p f' t' ++ toP p f' t' j) [⟨(f' : Int), (t' : Int), q⟩] rfl rfl (HO6.out.kept KA.out) (LsM.lit _ _) ?c1 ?c2 ?_))
            case c1 => have := HLn.out; have := toP_len p f' t' j; have := HAl.out; have := HQl.out; simp only [List.length_append, List.length_singleton]; omega
            case c2 => have := HK6.out.size; simp; omega
            intro v' w9 hO' hg
            have hK9 := (HO6.out.kept KA.out).grown (HK6.out.trans KA.out) (Nat.le_refl _) hg
            have HA9 := Lib.hid ((HA6.out.kept KA.out).beside (by decide) (HO6.out.kept KA.out) hg)
            replace hO' : OwnM w9 W.heap.size v' (A ++ toQ p f' t' ++ toP p f' t' (j + 1)) := by rw [toP_yes hj6.out HQ.out HG.out]; simpa only [List.append_assoc] using hO'
            obtain ⟨a', cap', rfl⟩ := hO'.slice
            have HO9 := Lib.hid hO'
            have HK9 := Lib.hid hK9
            clear hO' hK9 hg
            generalize (A ++ toQ p f' t' ++ toP p f' t' (j + 1)).length = q' at *
            go_wp2
            go_roundw
            case rel => exact ⟨j + 1, q - 1, by have := HQ.out; omega, by have := hj6.out; omega, by go_num, HO9.out, HK9.out, HA9.out⟩
            case measure => simp [intOf]; omega
          ·rw [hhb] at hG hh2
           rw [Bool.true_or] at hG
           have HG := Lib.hid hG
           clear hG
           go_wp2_with (first | (refine wpList_bt_mv3 rfl _ _ _ rfl (f' : Int) (t' : Int) q rfl rfl rfl ?_) | (with_reducible refine wpList_new_mv rfl rfl ?_) | ((with_reducible refine wpList_store_newmv rfl _ _ rfl Zm ⟨(f' : Int), (t' : Int), q⟩ ?_ ?_ ?_); exact rfl; exact rfl) | (refine wpList_load_ps (by rfl) _ rfl _ rfl _ HP2.out ?_) | (refine wpList_load_pb (by rfl) _ rfl _ rfl _ HP2.out ?_) | (refine wpList_load_mv (by rfl) _ rfl _ rfl _ HM2.out ?_))
           refine (HFm.out _).mono ?_
           rintro e w3 ⟨rfl, k3⟩
           have HP3 := Lib.hid (HP2.out.kept k3)
           have HM3 := Lib.hid (MAt.kept HM2.out k3)
           have HK3 := Lib.hid (HK2.out.trans k3)
           have HO3 := Lib.hid (HO2.out.kept k3)
           have HA3 := Lib.hid (HA2.out.kept k3)
           have hh3 := kept_cell k3 hh2
           clear k3 hh2
           go_wp2_with (first | (refine wpList_bt_mv3 rfl _ _ _ rfl (f' : Int) (t' : Int) q rfl rfl rfl ?_) | (with_reducible refine wpList_new_mv rfl rfl ?_) | ((with_reducible refine wpList_store_newmv rfl _ _ rfl Zm ⟨(f' : Int), (t' : Int), q⟩ ?_ ?_ ?_); exact rfl; exact rfl) | (refine wpList_load_ps (by rfl) _ rfl _ rfl _ HP3.out ?_) | (refine wpList_load_pb (by rfl) _ rfl _ rfl _ HP3.out ?_) | (refine wpList_load_mv (by rfl) _ rfl _ rfl _ HM3.out ?_))
           refine (HPn.out _).mono ?_
           rintro e w4 ⟨rfl, k4⟩
           have HP4 := Lib.hid (HP3.out.kept k4)
           have HM4 := Lib.hid (MAt.kept HM3.out k4)
           have HK4 := Lib.hid (HK3.out.trans k4)
           have HO4 := Lib.hid (HO3.out.kept k4)
           have HA4 := Lib.hid (HA3.out.kept k4)
           have hh4 := kept_cell k4 hh3
           clear k4 hh3
           go_wp2_with (first | (refine wpList_bt_mv3 rfl _ _ _ rfl (f' : Int) (t' : Int) q rfl rfl rfl ?_) | (with_reducible refine wpList_new_mv rfl rfl ?_) | ((with_reducible refine wpList_store_newmv rfl _ _ rfl Zm ⟨(f' : Int), (t' : Int), q⟩ ?_ ?_ ?_); exact rfl; exact rfl) | (refine wpList_load_ps (by rfl) _ rfl _ rfl _ HP4.out ?_) | (refine wpList_load_pb (by rfl) _ rfl _ rfl _ HP4.out ?_) | (refine wpList_load_mv (by rfl) _ rfl _ rfl _ HM4.out ?_))
           refine (HPn.out _).mono ?_
           rintro e w5 ⟨rfl, k5⟩
           have HP5 := Lib.hid (HP4.out.kept k5)
           have HM5 := Lib.hid (MAt.kept HM4.out k5)
           have HK5 := Lib.hid (HK4.out.trans k5)
           have HO5 := Lib.hid (HO4.out.kept k5)
           have HA5 := Lib.hid (HA4.out.kept k5)
           have hh5 := kept_cell k5 hh4
           clear k5 hh4
           have KA := Lib.hid ((Kept.refl w5).alloc (.cells (ml ⟨(f' : Int), (t' : Int), q⟩).toArray 36))
           go_wp2_with (first | ((with_reducible refine wpList_load_mvu rfl _ rfl _ ?_ _ HM5.out ?_); exact rfl) | ((with_reducible refine wpList_bslice_mv rfl _ rfl ⟨(f' : Int), (t' : Int), q⟩ ?_ ?_); exact rfl) | (at_builtin; refine wpList_append_m rfl _ _ rfl W.heap.size w5.heap.size _ _ (A ++ toQ p f' t' ++ toP p f' t' j) [⟨(f' : Int), (t' : Int), q⟩] rfl rfl (HO5.out.kept KA.out) (LsM.lit _ _) ?c1 ?c2 ?_))
           case c1 => have := HLn.out; have := toP_len p f' t' j; have := HAl.out; have := HQl.out; simp only [List.length_append, List.length_singleton]; omega
           case c2 => have := HK5.out.size; simp; omega
           intro v' w9 hO' hg
           have hK9 := (HO5.out.kept KA.out).grown (HK5.out.trans KA.out) (Nat.le_refl _) hg
           have HA9 := Lib.hid ((HA5.out.kept KA.out).beside (by decide) (HO5.out.kept KA.out) hg)
           replace hO' : OwnM w9 W.heap.size v' (A ++ toQ p f' t' ++ toP p f' t' (j + 1)) := by rw [toP_yes hj6.out HQ.out HG.out]; simpa only [List.append_assoc] using hO'
           obtain ⟨a', cap', rfl⟩ := hO'.slice
           have HO9 := Lib.hid hO'
           have HK9 := Lib.hid hK9
           clear hO' hK9 hg
           generalize (A ++ toQ p f' t' ++ toP p f' t' (j + 1)).length = q' at *
           go_wp2
           go_roundw
           case rel => exact ⟨j + 1, q - 1, by have := HQ.out; omega, by have := hj6.out; omega, by go_num, HO9.out, HK9.out, HA9.out⟩
           case measure => simp [intOf]; omega
         ·have HPn := Lib.hid HPw.out
          rw [hk] at HPn
          have HPg := Lib.hid (fun w => rpgo_is p ⟨(f' : Int), (t' : Int), q⟩ f' t' (F.pf (beq_iff_eq.1 hk)) w)
          have hG := goes_pawn hfo (by rw [F.pb, hk])
          clear hk hfo hok F
          cases hpg : pgoB p ⟨(f' : Int), (t' : Int), q⟩
          ·rw [hpg] at hG HPg
           have HG := Lib.hid hG
           clear hG hpg
           go_wp2_with (first | (refine wpList_bt_mv3 rfl _ _ _ rfl (f' : Int) (t' : Int) q rfl rfl rfl ?_) | (with_reducible refine wpList_new_mv rfl rfl ?_) | ((with_reducible refine wpList_store_newmv rfl _ _ rfl Zm ⟨(f' : Int), (t' : Int), q⟩ ?_ ?_ ?_); exact rfl; exact rfl) | (refine wpList_load_ps (by rfl) _ rfl _ rfl _ HP2.out ?_) | (refine wpList_load_pb (by rfl) _ rfl _ rfl _ HP2.out ?_) | (refine wpList_load_mv (by rfl) _ rfl _ rfl _ HM2.out ?_))
           refine (HFm.out _).mono ?_
           rintro e w3 ⟨rfl, k3⟩
           have HP3 := Lib.hid (HP2.out.kept k3)
           have HM3 := Lib.hid (MAt.kept HM2.out k3)
           have HK3 := Lib.hid (HK2.out.trans k3)
           have HO3 := Lib.hid (HO2.out.kept k3)
           have HA3 := Lib.hid (HA2.out.kept k3)
           clear k3
           go_wp2_with (first | (refine wpList_bt_mv3 rfl _ _ _ rfl (f' : Int) (t' : Int) q rfl rfl rfl ?_) | (with_reducible refine wpList_new_mv rfl rfl ?_) | ((with_reducible refine wpList_store_newmv rfl _ _ rfl Zm ⟨(f' : Int), (t' : Int), q⟩ ?_ ?_ ?_); exact rfl; exact rfl) | (refine wpList_load_ps (by rfl) _ rfl _ rfl _ HP3.out ?_) | (refine wpList_load_pb (by rfl) _ rfl _ rfl _ HP3.out ?_) | (refine wpList_load_mv (by rfl) _ rfl _ rfl _ HM3.out ?_))
           refine (HPn.out _).mono ?_
           rintro e w4 ⟨rfl, k4⟩
           have HP4 := Lib.hid (HP3.out.kept k4)
           have HM4 := Lib.hid (MAt.kept HM3.out k4)
           have HK4 := Lib.hid (HK3.out.trans k4)
           have HO4 := Lib.hid (HO3.out.kept k4)
           have HA4 := Lib.hid (HA3.out.kept k4)
           clear k4
           go_wp2_with (first | (refine wpList_bt_mv3 rfl _ _ _ rfl (f' : Int) (t' : Int) q rfl rfl rfl ?_) | (with_reducible refine wpList_new_mv rfl rfl ?_) | ((with_reducible refine wpList_store_newmv rfl _ _ rfl Zm ⟨(f' : Int), (t' : Int), q⟩ ?_ ?_ ?_); exact rfl; exact rfl) | (refine wpList_load_ps (by rfl) _ rfl _ rfl _ HP4.out ?_) | (refine wpList_load_pb (by rfl) _ rfl _ rfl _ HP4.out ?_) | (refine wpList_load_mv (by rfl) _ rfl _ rfl _ HM4.out ?_))
           refine (HPg.out _).mono ?_
           rintro e w5 ⟨rfl, k5⟩
           have HP5 := Lib.hid (HP4.out.kept k5)
           have HM5 := Lib.hid (MAt.kept HM4.out k5)
           have HK5 := Lib.hid (HK4.out.trans k5)
           have HO5 := Lib.hid (HO4.out.kept k5)
           have HA5 := Lib.hid (HA4.out.kept k5)
           clear k5
           go_wp2_with (first | (refine wpList_bt_mv3 rfl _ _ _ rfl (f' : Int) (t' : Int) q rfl rfl rfl ?_) | (with_reducible refine wpList_new_mv rfl rfl ?_) | ((with_reducible refine wpList_store_newmv rfl _ _ rfl Zm ⟨(f' : Int), (t' : Int), q⟩ ?_ ?_ ?_); exact rfl; exact rfl) | (refine wpList_load_ps (by rfl) _ rfl _ rfl _ HP5.out ?_) | (refine wpList_load_pb (by rfl) _ rfl _ rfl _ HP5.out ?_) | (refine wpList_load_mv (by rfl) _ rfl _ rfl _ HM5.out ?_))
           refine (HPn.out _).mono ?_
           rintro e w6 ⟨rfl, k6⟩
           have HP6 := Lib.hid (HP5.out.kept k6)
           have HM6 := Lib.hid (MAt.kept HM5.out k6)
           have HK6 := Lib.hid (HK5.out.trans k6)
           have HO6 := Lib.hid (HO5.out.kept k6)
           have HA6 := Lib.hid (HA5.out.kept k6)
           clear k6
           go_wp2
           go_roundw
           case rel => exact ⟨j + 1, q - 1, by have := HQ.out; omega, by have := hj6.out; omega, by go_num, by rw [toP_no hj6.out HQ.out HG.out]; exact HO6.out, HK6.out, HA6.out⟩
           case measure => simp [intOf]; omega
          ·rw [hpg] at hG HPg
           have HG := Lib.hid hG
           clear hG hpg
           go_wp2_with (first | (refine wpList_bt_mv3 rfl _ _ _ rfl (f' : Int) (t' : Int) q rfl rfl rfl ?_) | (with_reducible refine wpList_new_mv rfl rfl ?_) | ((with_reducible refine wpList_store_newmv rfl _ _ rfl Zm ⟨(f' : Int), (t' : Int), q⟩ ?_ ?_ ?_); exact rfl; exact rfl) | (refine wpList_load_ps (by rfl) _ rfl _ rfl _ HP2.out ?_) | (refine wpList_load_pb (by rfl) _ rfl _ rfl _ HP2.out ?_) | (refine wpList_load_mv (by rfl) _ rfl _ rfl _ HM2.out ?_))
           refine (HFm.out _).mono ?_
           rintro e w3 ⟨rfl, k3⟩
           have HP3 := Lib.hid (HP2.out.kept k3)
           have HM3 := Lib.hid (MAt.kept HM2.out k3)
           have HK3 := Lib.hid (HK2.out.trans k3)
           have HO3 := Lib.hid (HO2.out.kept k3)
           have HA3 := Lib.hid (HA2.out.kept k3)
           clear k3
           go_wp2_with (first | (refine wpList_bt_mv3 rfl _ _ _ rfl (f' : Int) (t' : Int) q rfl rfl rfl ?_) | (with_reducible refine wpList_new_mv rfl rfl ?_) | ((with_reducible refine wpList_store_newmv rfl _ _ rfl Zm ⟨(f' : Int), (t' : Int), q⟩ ?_ ?_ ?_); exact rfl; exact rfl) | (refine wpList_load_ps (by rfl) _ rfl _ rfl _ HP3.out ?_) | (refine wpList_load_pb (by rfl) _ rfl _ rfl _ HP3.out ?_) | (refine wpList_load_mv (by rfl) _ rfl _ rfl _ HM3.out ?_))
           refine (HPn.out _).mono ?_
           rintro e w4 ⟨rfl, k4⟩
           have HP4 := Lib.hid (HP3.out.kept k4)
           have HM4 := Lib.hid (MAt.kept HM3.out k4)
           have HK4 := Lib.hid (HK3.out.trans k4)
           have HO4 := Lib.hid (HO3.out.kept k4)
           have HA4 := Lib.hid (HA3.out.kept k4)
           clear k4
           go_wp2_with (first | (refine wpList_bt_mv3 rfl _ _ _ rfl (f' : Int) (t' : Int) q rfl rfl rfl ?_) | (with_reducible refine wpList_new_mv rfl rfl ?_) | ((with_reducible refine wpList_store_newmv rfl _ _ rfl Zm ⟨(f' : Int), (t' : Int), q⟩ ?_ ?_ ?_); exact rfl; exact rfl) | (refine wpList_load_ps (by rfl) _ rfl _ rfl _ HP4.out ?_) | (refine wpList_load_pb (by rfl) _ rfl _ rfl _ HP4.out ?_) | (refine wpList_load_mv (by rfl) _ rfl _ rfl _ HM4.out ?_))
           refine (HPg.out _).mono ?_
           rintro e w5 ⟨rfl, k5⟩
           have HP5 := Lib.hid (HP4.out.kept k5)
           have HM5 := Lib.hid (MAt.kept HM4.out k5)
           have HK5 := Lib.hid (HK4.out.trans k5)
           have HO5 := Lib.hid (HO4.out.kept k5)
           have HA5 := Lib.hid (HA4.out.kept k5)
           clear k5
           have KA := Lib.hid ((Kept.refl w5).alloc (.cells (ml ⟨(f' : Int), (t' : Int), q⟩).toArray 36))
           go_wp2_with (first | ((with_reducible refine wpList_load_mvu rfl _ rfl _ ?_ _ HM5.out ?_); exact rfl) | ((with_reducible refine wpList_bslice_mv rfl _ rfl ⟨(f' : Int), (t' : Int), q⟩ ?_ ?_); exact rfl) | (at_builtin; refine wpList_append_m rfl _ _ rfl W.heap.size w5.heap.size _ _ (A ++ toQ p f' t' ++ toP p f' t' j) [⟨(f' : Int), (t' : Int), q⟩] rfl rfl (HO5.out.kept KA.out) (LsM.lit _ _) ?c1 ?c2 ?_))
           case c1 => have := HLn.out; have := toP_len p f' t' j; have := HAl.out; have := HQl.out; simp only [List.length_append, List.length_singleton]; omega
           case c2 => have := HK5.out.size; simp; omega
           intro v' w9 hO' hg
           have hK9 := (HO5.out.kept KA.out).grown (HK5.out.trans KA.out) (Nat.le_refl _) hg
           have HA9 := Lib.hid ((HA5.out.kept KA.out).beside (by decide) (HO5.out.kept KA.out) hg)
           replace hO' : OwnM w9 W.heap.size v' (A ++ toQ p f' t' ++ toP p f' t' (j + 1)) := by rw [toP_yes hj6.out HQ.out HG.out]; simpa only [List.append_assoc] using hO'
           obtain ⟨a', cap', rfl⟩ := hO'.slice
           have HO9 := Lib.hid hO'
           have HK9 := Lib.hid hK9
           clear hO' hK9 hg
           generalize (A ++ toQ p f' t' ++ toP p f' t' (j + 1)).length = q' at *
           go_wp2
           go_roundw
           case rel => exact ⟨j + 1, q - 1, by have := HQ.out; omega, by have := hj6.out; omega, by go_num, HO9.out, HK9.out, HA9.out⟩
           case measure => simp [intOf]; omega
       ·obtain rfl : j = 6 := by omega
        have HO2 := Lib.hid hO
        have HK2 := Lib.hid hK
        have HA2 := Lib.hid hAr
        generalize hln : (A ++ toQ p f t ++ toP p f t 6).length = q2 at *
        clear hO hK hAr hln hq
        go_wp2
        go_roundw
        case rel => exact ⟨t + 1, by omega, by go_num, by rw [HSq.out, ← toP_end, ← List.append_assoc]; exact HO2.out, HK2.out, HA2.out⟩
        case measure => simp [intOf]; omega
     ·obtain rfl : t = 64 := by omega
      go_wp2
      go_roundw
      case rel => exact ⟨f + 1, by omega, by go_num, by rw [HS.out]; exact HO1.out, HK1.out⟩
      case measure => simp [intOf]; omega
  ·obtain rfl : f = 64 := by omega
   go_wp2
   go_ret
   exact ⟨_, rfl, by rw [HV.out]; exact HO0.out.low HK0.out.size, HK0.out.trans HK00.out⟩
def stayP (p : Ps) (L : List Mv) (k : Nat) : List Mv := (L.take k).filter (stayB p)
theorem stayP_yes {p : Ps} {L : List Mv} {k : Nat} {x : Mv} (h : L[k]? = some x) (hb : stayB p x = true) : stayP p L (k + 1) = stayP p L k ++ [x] := by
 unfold stayP; rw [take_one h]; simp [hb]
theorem stayP_no {p : Ps} {L : List Mv} {k : Nat} {x : Mv} (h : L[k]? = some x) (hb : stayB p x = false) : stayP p L (k + 1) = stayP p L k := by
 unfold stayP; rw [take_one h]; simp [hb]
theorem stayP_long (p : Ps) (L : List Mv) (k : Nat) : (stayP p L k).length ≤ L.length := by
 unfold stayP
 refine Nat.le_trans (List.length_filter_le _ _) ?_
 rw [List.length_take]; omega
theorem stayP_end (p : Ps) : stayP p (allL p) (allL p).length = legL p := by unfold stayP legL; rw [List.take_length]
set_option maxHeartbeats 4000000 in
theorem rmoves_is (p : Ps) (hB : Brd p.B) (hr : pwI p = 0) (w : World) : Calls Tryz.prog 17 #[.agg (pl p).toArray] w (NewM w (legL p)) := by
 have HP := Lib.hid (PAt.new w hB.1)
 have HK0 := Lib.hid ((Kept.refl w).alloc (.cells (pl p).toArray 26))
 have hpl : Hid (p.B.length = 64) := hB.1
 have HAl := Lib.hid (fun w => rall_is p hB hr w)
 have HS := Lib.hid (fun m (h : m ∈ allL p) w => rstays_is p hB hr m ((mem_allN (right_t hr).1).1 h) w)
 have HEnd := Lib.hid (stayP_end p)
 have HLl : Hid ((allL p).length ≤ 24576) := allN_len p 64
 generalize allL p = L at *
 clear hB hr
 go_enter Tryz.func17, Tryz.ntmps17
 go_wp2_with (first | (refine wpList_load_ps (by rfl) _ rfl _ rfl _ (HP.out) ?_) | (refine wpList_load_pb (by rfl) _ rfl _ rfl _ (HP.out) ?_))
 refine (HAl.out _).mono ?_
 rintro e X ⟨v, rfl, hOX, kX⟩
 obtain ⟨gl, hls, _⟩ := hOX.ls
 obtain ⟨a0, c0, rfl⟩ := hOX.slice
 have HLs := Lib.hid hls
 have HKX := Lib.hid (HK0.out.trans kX)
 have HPX := Lib.hid (HP.out.kept kX)
 generalize hn : L.length = n at *
 have HN := Lib.hid hn
 clear hOX kX hls hn
 go_wp2
 go_loopw [3, 5] (fun t3 t5 wr => ∃ k : Nat, k ≤ n ∧ t5 = .int .i64 k ∧ OwnM wr X.heap.size t3 (stayP p L k) ∧ Kept X wr) (fun _ t5 _ => n - (intOf t5).toNat)
 case atStart => exact ⟨0, Nat.zero_le _, rfl, OwnM.nil _ _, Kept.refl _⟩
 case round =>
  obtain ⟨k, hk, rfl, hown, hK⟩ := hrel
  obtain ⟨a3, c3, rfl⟩ := hown.slice
  have HK := Lib.hid hK
  have HO := Lib.hid hown
  have HLn := Lib.hid (stayP_long p L k)
  clear hown
  by_cases hlt : k < n
  ·have hlt' : (k : Int) < (n : Int) := by omega
   obtain ⟨x, hx⟩ : ∃ x, L[k]? = some x := ⟨_, List.getElem?_eq_getElem (by have := HN.out; omega)⟩
   have hmx := List.mem_of_getElem? hx
   obtain ⟨off, cap, he, hc1, hc2, h3⟩ := HLs.out.full (by have := HN.out; omega)
   rw [HN.out] at he
   injection he with he1 he2 he3
   subst he1 he3
   rw [HN.out] at hc1
   unfold maxLen at hc2
   have HX := Lib.hid hx
   have HRx := Lib.hid (range_i (range_kept h3 hK) hx)
   have HPk := Lib.hid (HPX.out.kept hK)
   have HSx := Lib.hid (HS.out x hmx)
   clear h3 hx hK hmx
   cases hb : stayB p x
   ·rw [hb] at HSx
    have HY := Lib.hid (stayP_no HX.out hb)
    clear hb
    generalize (stayP p L k).length = N at *
    go_wp2
    refine wp_region_held_drew (S := Kept _) (by kernel_rfl) (Kept.refl _).drew (fun hHeld => ?_)
    refine rY 0 14 rfl rfl (take_load_ps (by rfl) _ rfl _ rfl p hpl.out (fun _ h => (HPk.out).kept h)) hHeld ?_
    simp only [Act.put, sA, sZ, sU]
    refine rT 1 15 (.slice (some ⟨gl, off, none⟩) n c0) rfl rfl hHeld ?_
    simp only [pA, pN, sZ, sU]
    refine rT 2 16 (.int .i64 (k : Int)) rfl rfl hHeld ?_
    simp only [pA, pN, sZ, sU]
    refine rT 3 17 (.pointer (some ⟨gl, off + k * 3, none⟩)) rfl rfl hHeld ?_
    simp only [pA, pN, sZ, sU]
    refine rY 4 18 rfl rfl (take_load_mvi (by rfl) _ rfl gl (off + k * 3) rfl x (fun _ h => range_kept (HRx.out) h)) hHeld ?_
    simp only [pA, pN, sZ, sU]
    refine rR 5 rfl (fun K hK => ?_)
    go_simp
    refine (HSx.out _).mono ?_
    rintro e x1 ⟨rfl, gx1⟩
    refine hK.out _ _ (hHeld.trans gx1) (fun _ => ?_)
    replace hHeld := hHeld.trans gx1
    clear hK K
    refine wpAnyH_done (by kernel_rfl) ?_ _
    have HK1 := Lib.hid (HK.out.trans hHeld)
    have HO1 := Lib.hid (HO.out.kept hHeld)
    clear hHeld gx1
    go_wp2
    go_roundw
    case rel => exact ⟨k + 1, by omega, by go_num, by rw [HY.out]; exact HO1.out, HK1.out⟩
    case measure => simp [intOf]; omega
   ·rw [hb] at HSx
    have HY := Lib.hid (stayP_yes HX.out hb)
    clear hb
    generalize hNn : (stayP p L k).length = N at *
    go_wp2
    refine wp_region_held_drew (S := Kept _) (by kernel_rfl) (Kept.refl _).drew (fun hHeld => ?_)
    refine rY 0 14 rfl rfl (take_load_ps (by rfl) _ rfl _ rfl p hpl.out (fun _ h => (HPk.out).kept h)) hHeld ?_
    simp only [pA, pN, sZ, sU]
    refine rT 1 15 (.slice (some ⟨gl, off, none⟩) n c0) rfl rfl hHeld ?_
    simp only [pA, pN, sZ, sU]
    refine rT 2 16 (.int .i64 (k : Int)) rfl rfl hHeld ?_
    simp only [pA, pN, sZ, sU]
    refine rT 3 17 (.pointer (some ⟨gl, off + k * 3, none⟩)) rfl rfl hHeld ?_
    simp only [pA, pN, sZ, sU]
    refine rY 4 18 rfl rfl (take_load_mvi (by rfl) _ rfl gl (off + k * 3) rfl x (fun _ h => range_kept (HRx.out) h)) hHeld ?_
    simp only [pA, pN, sZ, sU]
    refine rR 5 rfl (fun K hK => ?_)
    go_simp
    refine (HSx.out _).mono ?_
    rintro e x1 ⟨rfl, gx1⟩
    refine hK.out _ _ (hHeld.trans gx1) (fun _ => ?_)
    replace hHeld := hHeld.trans gx1
    clear hK K
    refine wpAnyH_done (by kernel_rfl) ?_ _
    have HK1 := Lib.hid (HK.out.trans hHeld)
    have HRy := Lib.hid (range_kept HRx.out hHeld)
    have KA := Lib.hid ((Kept.refl x1).alloc (.cells (ml x).toArray 36))
    have HOA := Lib.hid ((HO.out.kept hHeld).kept KA.out)
    have HLe : Hid ((stayP p L k).length = N) := hNn
    clear hHeld gx1 hNn
    go_wp2_with (first | ((with_reducible refine wpList_load_mvo rfl _ rfl gl (off + k * 3) ?_ x HRy.out ?_); exact rfl) | ((with_reducible refine wpList_bslice_mv rfl _ rfl x ?_ ?_); exact rfl) | (at_builtin; refine wpList_append_m rfl _ _ rfl X.heap.size x1.heap.size _ _ (stayP p L k) [x] rfl rfl HOA.out (LsM.lit _ _) ?c1 ?c2 ?_))
    case c1 => have := HLl.out; have := HN.out; have := HLn.out; have := HLe.out; simp only [List.length_singleton]; omega
    case c2 => have := HK1.out.size; simp; omega
    intro v' w9 hO' hg
    have HK9 := Lib.hid (HOA.out.grown (HK1.out.trans KA.out) (Nat.le_refl _) hg)
    rw [← HY.out] at hO'
    obtain ⟨a', cap', rfl⟩ := hO'.slice
    have HO9 := Lib.hid hO'
    clear hO' hg
    generalize (stayP p L (k + 1)).length = N2 at *
    go_wp2
    go_roundw
    case rel => exact ⟨k + 1, by omega, by go_num, HO9.out, HK9.out⟩
    case measure => simp [intOf]; omega
  ·clear hK
   obtain rfl : k = n := by omega
   generalize (stayP p L k).length = N at *
   go_wp2
   go_ret
   exact ⟨_, rfl, by rw [← HEnd.out]; exact HO.out.low HKX.out.size, HKX.out.trans HK.out⟩
end Go.Proofs.YtfekipadkenhpaaGreatDoor
