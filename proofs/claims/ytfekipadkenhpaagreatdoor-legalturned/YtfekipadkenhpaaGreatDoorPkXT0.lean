/- SqA · BoP · BoQ · PoJ · PoK · MvP · MvQ · GeA · GeT · LeT · LeQ: my texts, in their order. -/
import Derived.Test.YtfekipadkenhpaaGreatDoorPkXMPRFT0
import Derived.Test.YtfekipadkenhpaaGreatDoorPkXMPFT0
import Derived.Test.YtfekipadkenhpaaGreatDoorPkXMFT0
import Derived.Test.YtfekipadkenhpaaGreatDoorPkXMRT0
import Derived.Test.YtfekipadkenhpaaGreatDoorPkA
import Derived.Test.YtfekipadkenhpaaGreatDoorPkB
import Derived.Test.YtfekipadkenhpaaGreatDoorPkC
import Derived.Test.YtfekipadkenhpaaGreatDoorPkD
import Derived.Test.YtfekipadkenhpaaGreatDoorPkE
import Derived.Test.YtfekipadkenhpaaGreatDoorPkF
import Derived.Test.YtfekipadkenhpaaGreatDoorPkGa
import Derived.Test.YtfekipadkenhpaaGreatDoorPkGb
import Derived.Test.YtfekipadkenhpaaGreatDoorPkGc
import Derived.Test.YtfekipadkenhpaaGreatDoorPkGd
import Derived.Test.YtfekipadkenhpaaGreatDoorPkGe
import Derived.Test.YtfekipadkenhpaaGreatDoorPkGf
import Derived.Test.YtfekipadkenhpaaGreatDoorPkGg
import Derived.Test.YtfekipadkenhpaaGreatDoorPkGh
import Derived.Test.YtfekipadkenhpaaGreatDoorPkGj
import Derived.Test.YtfekipadkenhpaaGreatDoorPkH
import Derived.Test.YtfekipadkenhpaaGreatDoorPkI
import Derived.Test.YtfekipadkenhpaaGreatDoorPkJ
import Derived.Test.YtfekipadkenhpaaGreatDoorPkK
import Derived.Test.YtfekipadkenhpaaGreatDoorPkL
import Derived.Test.YtfekipadkenhpaaGreatDoorPkLa
import Derived.Test.YtfekipadkenhpaaGreatDoorPkLd
import Derived.Test.YtfekipadkenhpaaGreatDoorPkLe
import Derived.Test.YtfekipadkenhpaaGreatDoorPkLf
import Derived.Test.YtfekipadkenhpaaGreatDoorPkLg
import Derived.Test.YtfekipadkenhpaaGreatDoorPkLh
import Derived.Test.YtfekipadkenhpaaGreatDoorPkLk
import Derived.Test.YtfekipadkenhpaaGreatDoorPkLw
import Derived.Test.YtfekipadkenhpaaGreatDoorPkM
import Derived.Test.YtfekipadkenhpaaGreatDoorPkQ
import Derived.Test.YtfekipadkenhpaaGreatDoorPkR
namespace Go.Proofs.YtfekipadkenhpaaGreatDoor
open Go.RowKit
set_option linter.unusedVariables false
theorem flip_yes (s : Int) (w : World) (h0 : 0 ≤ s) (h1 : s < 64) :
  Calls Tryz.prog 62 #[.int .i64 s] w fun e w' => e = .returned (.int .i64 ((7 - s / 8) * 8 + s % 8)) ∧ w = w' := by
 go_enter Tryz.func62, Tryz.ntmps62
 go_wp2_with (first | (go_at_call 92; refine (right_yes _ _ (by omega) (by omega)).mono ?_; rintro e w' ⟨rfl, rfl⟩) | (go_at_call 98; refine (file_yes _ _ (by omega) (by omega)).mono ?_; rintro e w' ⟨rfl, rfl⟩) | (go_at_call 97; refine (rank_yes _ _ (by omega) (by omega)).mono ?_; rintro e w' ⟨rfl, rfl⟩))
 go_ret
 exact ⟨rfl, rfl⟩
theorem flip_no (s : Int) (w : World) (h : s < 0 ∨ 64 ≤ s) :
  Calls Tryz.prog 62 #[.int .i64 s] w fun e w' => e = .returned (.int .i64 (-1)) ∧ w = w' := by
 go_enter Tryz.func62, Tryz.ntmps62
 go_wp2_with (go_at_call 92; refine (right_no _ _ h).mono ?_; rintro e w' ⟨rfl, rfl⟩)
 go_ret
 exact ⟨rfl, rfl⟩
set_option linter.unusedSimpArgs false
set_option maxRecDepth 100000
theorem tk_zero (B : List Int) : tab (tk B 0) = Zb := by
 refine Eq.trans (tab_ext (g := fun i => Zb.getD i 0) fun i hi => ?_) (tab_of Zb Zb_brd.1)
 have : Zb.getD i 0 = 0 := by unfold Zb; rw [List.getD, List.getElem?_replicate]; split <;> rfl
 rw [this]; unfold tk; rw [if_neg (by omega)]
theorem tk_set {B : List Int} {k : Nat} (hk : k < 64) : (tab (tk B k)).set (flipN k) (negI (B.getD k 0)) = tab (tk B (k + 1)) := by
 rw [tab_set]
 refine tab_ext fun i hi => ?_
 unfold tk
 by_cases e : i = flipN k
 ·subst e
  rw [if_pos rfl, flipN_flip hk, if_pos (by omega)]
 ·have e' : flipN i ≠ k := fun h => e (by rw [← h, flipN_flip hi])
  rw [if_neg e]
  by_cases l : flipN i < k
  ·rw [if_pos l, if_pos (by omega)]
  ·rw [if_neg l, if_neg (by omega)]
theorem tk_end (B : List Int) (k : Nat) (h : ¬ k < 64) : tab (tk B k) = turnL B :=
 tab_ext fun i hi => by have := flipN_lt hi; unfold tk; rw [if_pos (by omega)]
theorem flip_n (k : Nat) (hk : k < 64) (w : World) :
  Calls Tryz.prog 62 #[.int .i64 k] w fun e w' => e = .returned (.int .i64 (flipN k : Nat)) ∧ w = w' := by
 have := flip_yes (k : Int) w (by omega) (by omega)
 rwa [← flipN_int hk] at this
theorem heap3 (w : World) (A B C : Obj) : (((w.alloc A).alloc B).alloc C).heap[w.heap.size]? = some A ∧ (((w.alloc A).alloc B).alloc C).heap[w.heap.size + 1]? = some B ∧ (((w.alloc A).alloc B).alloc C).heap[w.heap.size + 2]? = some C := by
 have e1 : (w.alloc A).heap.size = w.heap.size + 1 := by simp
 have e2 : ((w.alloc A).alloc B).heap.size = w.heap.size + 2 := by simp
 refine ⟨?_, ?_, ?_⟩
 ·rw [Below.heap_alloc _ C _ (by omega)]; exact heap_alloc2_old w A B
 ·rw [Below.heap_alloc _ C _ (by omega)]; exact heap_alloc2_new w A B
 ·rw [← e2]; exact heap_alloc_new _ C
theorem turned_is (B : List Int) (hB : Brd B) (w : World) :
  Calls Tryz.prog 60 #[.agg (cl B).toArray] w (RetB w (turnL B)) := by
 obtain ⟨i0, i1, i2⟩ := heap3 w (.cells (cl B).toArray 24) (.cells (cl Zb).toArray 24) (.cells (cl Zb).toArray 24)
 have h00 := Lib.hid i0
 have h01 := Lib.hid i1
 have h02 := Lib.hid i2
 have H := Lib.hid hB
 have hz := Lib.hid (size_cl hB.1)
 clear hB i0 i1 i2
 go_enter Tryz.func60, Tryz.ntmps60
 go_wp2_with (first | (with_reducible refine wpList_new_b rfl rfl ?_) | (with_reducible refine wpList_load_row rfl 24 _ rfl _ rfl _ _ _ _ h00.out Tryz.underlying24 rfl hz.out ?_))
 go_loopw [7] (fun i wr => ∃ k : Nat, k ≤ 64 ∧ i = .int .i64 k ∧ Hid (wr.heap[w.heap.size + 2]? = some (.cells (cl (tab (tk B k))).toArray 24 (0, 0))) ∧ Hid (wr.heap[w.heap.size + 1]? = some (.cells (cl Zb).toArray 24 (0, 0))) ∧ Kept w wr) (fun i _ => 64 - (intOf i).toNat)
 case atStart => exact ⟨0, by omega, rfl, by rw [tk_zero]; exact h02, h01, (((Kept.refl _).alloc _).alloc _).alloc _⟩
 case round =>
  obtain ⟨k, hk, rfl, g0, g1, hK⟩ := hrel
  by_cases hlt : k < 64
  ·have hx := run_index_cl B H.out.1 k hlt
   obtain ⟨hb1, hb2⟩ := H.out.2 k hlt
   obtain ⟨x, ex⟩ : ∃ x, x = B.getD k 0 := ⟨_, rfl⟩
   rw [← ex] at hx hb1 hb2
   have hj := flipN_lt hlt
   have hcall := Lib.hid (flip_n k hlt)
   obtain ⟨j, ej⟩ : ∃ j, j = flipN k := ⟨_, rfl⟩
   rw [← ej] at hj hcall
   have hset : Hid ((tab (tk B k)).set j (negI x) = tab (tk B (k + 1))) := by rw [ex, ej]; exact tk_set hlt
   clear ex ej
   have hc := cell_cl (tab_length _) g0.out j hj
   have hf := frozen_of_row wr (w.heap.size + 2) j _ _ g0.out
   have hg : Hid _ := heap_set_cl (k := j) (negI x) g0.out
   have hg' : Hid _ := (heap_setCell_other wr ⟨w.heap.size + 2, j, none⟩ (w.heap.size + 1) (.int .i8 (negI x)) (by simp)).trans g1.out
   have hK' := hK.setCell (p := ⟨w.heap.size + 2, j, none⟩) (by show w.heap.size ≤ w.heap.size + 2; omega) (.int .i8 (negI x))
   have hneg : IntKind.i8.wrap (-x) = negI x := rfl
   generalize (tab (tk B k)).getD j 0 = y at hc
   go_wp2_with fail
   refine (hcall.out _).mono ?_
   rintro e w' ⟨rfl, rfl⟩
   go_wp2
   go_roundw
   case rel => exact ⟨k + 1, by omega, by go_num, by rw [← hset.out]; exact hg, hg', hK'⟩
   case measure => simp [intOf]; omega
  ·have hz' := Lib.hid (size_cl (tab_length (tk B k)))
   go_wp2_with (first
    | (with_reducible refine wpList_load_row rfl 24 _ rfl _ rfl _ _ _ _ g0.out Tryz.underlying24 rfl hz'.out ?_)
    | (refine wpList_store_row rfl 24 _ _ rfl (w.heap.size + 1) (cl (tab (tk B k))).toArray rfl rfl 24 _ g1.out hz'.out (by rw [cl_size _ Zb_brd.1, cl_size _ (tab_length _)]) (cl_one _) ?_))
   refine bodyPost_ret (v := .agg (cl (tab (tk B k))).toArray) ?_ rfl ⟨?_, ?_⟩
   ·exact results_cell_row rfl _ _ (w.heap.size + 1) 24 _ (0, 0) _ rfl (setRow_heap _ _ _ _ _ _ g1.out) Tryz.underlying24 rfl hz'.out
   ·rw [tk_end _ _ hlt]
   ·exact hK.setRow (by omega) _
theorem turnP_turn {p : Ps} (hB : Brd p.B) (h : pwI p = 0) : turnP (turnP p) = p := by
 obtain ⟨a0, a1, a2, a3, a4⟩ := right_pos h
 obtain ⟨ht, ⟨c0, c1⟩, e0, e1⟩ := (within_iff p).1 a1
 have o1 : otherI p.t = 1 - p.t := by unfold otherI; split <;> first | omega | (split <;> omega)
 have o2 : otherI (1 - p.t) = p.t := by unfold otherI; split <;> first | omega | (split <;> omega)
 obtain ⟨B, t, c, e⟩ := p
 unfold turnP
 dsimp only at *
 rw [turn_turn hB, o1, o2, (ex_at c0 c1).2.2.1]
 congr 1
 by_cases he : 0 ≤ e
 ·exact (flI_on he (by omega)).2.2.2.2.1
 ·have : e = -1 := by omega
  subst this; rfl
theorem flip_any (s : Int) (w : World) : Calls Tryz.prog 62 #[.int .i64 s] w fun e w' => e = .returned (.int .i64 (flI s)) ∧ Kept w w' := by
 unfold flI
 by_cases h : 0 ≤ s ∧ s < 64
 ·rw [if_pos h]; exact (flip_yes s w h.1 h.2).mono fun _ _ ⟨a, b⟩ => ⟨a, b ▸ Kept.refl _⟩
 ·rw [if_neg h]; exact (flip_no s w (by omega)).mono fun _ _ ⟨a, b⟩ => ⟨a, b ▸ Kept.refl _⟩
theorem ex_bits_all : ∀ c : Fin 16, bits .or .i64 (IntKind.i64.wrap (bits .and .i64 ((c : Nat) : Int) 3 * 4)) (bits .and .i64 ((c : Nat) : Int) 12 / 4) = exI ((c : Nat) : Int) := by decide +kernel
theorem ex_bits {c : Int} (h0 : 0 ≤ c) (h1 : c ≤ 15) : bits .or .i64 (IntKind.i64.wrap (bits .and .i64 c 3 * 4)) (bits .and .i64 c 12 / 4) = exI c := by
 have := ex_bits_all ⟨c.toNat, by omega⟩
 simp only [show ((c.toNat : Nat) : Int) = c by omega] at this
 exact this
set_option maxRecDepth 100000 in
set_option maxHeartbeats 2000000 in
theorem pturned_is (p : Ps) (hB : Brd p.B) (h0 : 0 ≤ p.c) (h1 : p.c ≤ 15) (w : World) : Calls Tryz.prog 28 #[.agg (pl p).toArray] w (RetP w (turnP p)) := by
 have HP : Hid (PAt _ _ p) := ⟨hB.1, heap_alloc2_old w (.cells (pl p).toArray 26) (.cells (pl Zp).toArray 26)⟩
 have HR : Hid (PAt _ _ Zp) := ⟨Zp_len, heap_alloc2_new w (.cells (pl p).toArray 26) (.cells (pl Zp).toArray 26)⟩
 have HK := Lib.hid (((Kept.refl w).alloc (.cells (pl p).toArray 26)).alloc (.cells (pl Zp).toArray 26))
 have hpl : Hid (p.B.length = 64) := hB.1
 have htl : Hid ((turnP p).B.length = 64) := tab_length _
 have HC1 := Lib.hid (turned_is p.B hB)
 have HC2 := Lib.hid (other_any p.t)
 have HC3 := Lib.hid (flip_any p.e)
 have hex := ex_bits h0 h1
 clear hB h0 h1
 go_enter Tryz.func28, Tryz.ntmps28
 go_wp2_with (with_reducible refine wpList_new_p rfl rfl ?_)
 generalize (w.alloc (.cells (pl p).toArray 26)).alloc (.cells (pl Zp).toArray 26) = W at *
 have hne : w.heap.size ≠ w.heap.size + 1 := by omega
 refine wp_region_held_drew (S := KB (W) (w.heap.size + 1)) (by kernel_rfl) ((KB.refl _ _).kept (Kept.refl _).drew) (fun hHeld => ?_)
 have hKp := (Kept.refl (W)).drew
 refine rT 0 3 (.pointer (some ⟨w.heap.size, 0, none⟩)) rfl rfl hHeld ?_
 simp only [pA, pN, sZ, sU]
 refine rY 1 4 rfl rfl (take_load_pb (by rfl) _ rfl _ rfl p hpl.out (fun _ h => (HP.out).kb h (hne))) hHeld ?_
 simp only [pA, pN, sZ, sU]
 refine rT 3 6 (.pointer (some ⟨w.heap.size, 64, none⟩)) rfl rfl hHeld ?_
 simp only [pA, pN, sZ, sU]
 refine rC 4 7 (.int .i64 p.t) rfl rfl (fun _ h => KB.cell h (hne) (HP.out.turn)) hHeld ?_
 simp only [pA, pN, sZ, sU]
 refine rT 6 9 (.pointer (some ⟨w.heap.size, 65, none⟩)) rfl rfl hHeld ?_
 simp only [pA, pN, sZ, sU]
 refine rC 7 10 (.int .i64 p.c) rfl rfl (fun _ h => KB.cell h (hne) (HP.out.cas)) hHeld ?_
 simp only [pA, pN, sZ, sU]
 refine rT 8 11 (.int .i64 (bits .and .i64 p.c 3)) rfl rfl hHeld ?_
 simp only [pA, pN, sZ, sU]
 refine rT 9 12 (.int .i64 (IntKind.i64.wrap (bits .and .i64 p.c 3 * 4))) rfl rfl hHeld ?_
 simp only [pA, pN, sZ, sU]
 refine rT 10 13 (.pointer (some ⟨w.heap.size, 65, none⟩)) rfl rfl hHeld ?_
 simp only [pA, pN, sZ, sU]
 refine rC 11 14 (.int .i64 p.c) rfl rfl (fun _ h => KB.cell h (hne) (HP.out.cas)) hHeld ?_
 simp only [pA, pN, sZ, sU]
 refine rT 12 15 (.int .i64 (bits .and .i64 p.c 12)) rfl rfl hHeld ?_
 simp only [pA, pN, sZ, sU]
 refine rT 13 16 (.int .i64 (bits .and .i64 p.c 12 / 4)) rfl rfl hHeld ?_
 simp only [pA, pN, sZ, sU]
 refine rT 14 17 (.int .i64 (exI p.c)) rfl rfl hHeld ?_
 simp only [pA, pN, sZ, sU]
 refine rT 15 18 (.pointer (some ⟨w.heap.size, 66, none⟩)) rfl rfl hHeld ?_
 simp only [pA, pN, sZ, sU]
 refine rC 16 19 (.int .i64 p.e) rfl rfl (fun _ h => KB.cell h (hne) (HP.out.ep)) hHeld ?_
 simp only [pA, pN, sZ, sU]
 refine rR 2 rfl (fun K hK => ?_)
 go_simp
 refine (HC1.out _).mono ?_
 rintro e x1 ⟨rfl, gx1⟩
 refine hK.out _ _ (hHeld.kept gx1) (fun _ => ?_)
 replace hHeld := hHeld.kept gx1
 replace hKp := hKp.trans gx1
 clear hK K
 refine rR 5 rfl (fun K hK => ?_)
 go_simp
 refine (HC2.out _).mono ?_
 rintro e x2 ⟨rfl, gx2⟩
 refine hK.out _ _ (hHeld.kept gx2) (fun _ => ?_)
 replace hHeld := hHeld.kept gx2
 replace hKp := hKp.trans gx2
 clear hK K
 refine rR 17 rfl (fun K hK => ?_)
 go_simp
 refine (HC3.out _).mono ?_
 rintro e x3 ⟨rfl, gx3⟩
 refine hK.out _ _ (hHeld.kept gx3) (fun _ => ?_)
 replace hHeld := hHeld.kept gx3
 replace hKp := hKp.trans gx3
 clear hK K
 refine rY 18 21 rfl rfl (take_build_p4 (by rfl) _ _ _ _ rfl (turnL p.B) (otherI p.t) (exI p.c) (flI p.e) htl.out rfl rfl rfl rfl) hHeld ?_
 simp only [pA, pN, sZ, sU]
 refine rR 19 rfl (fun K hK => ?_)
 rw [if_pos (by rfl)]
 have HR3 := Lib.hid (HR.out.kept hKp)
 refine wp_store_row 26 _ _ rfl (w.heap.size + 1) (pl (turnP p)).toArray rfl rfl 26 _ HR3.out.at_ (size_pl htl.out) (by rw [pl_size Zp_len, pl_size htl.out]) (pl_one _) ?_
 refine hK.out _ _ (KB.row hHeld _) (fun _ => ?_)
 clear hK K
 refine wpAnyH_done (by kernel_rfl) ?_ _
 go_wp2
 refine bodyPost_ret (v := .agg (pl (turnP p)).toArray) ?_ rfl ⟨rfl, (HK.out.trans hKp).setRow (by omega) _⟩
 exact results_p rfl _ rfl (HR3.out.setRow htl.out)
def swK (k : Nat) : Nat := [2, 3, 0, 1].getD k 4
theorem flN_lt {k : Nat} (h : k < 64) : flipN k < 64 := flipN_lt h
theorem turn_len64 (B : List Int) : (turnL B).length = 64 := tab_length _
theorem turn_set {B : List Int} (h : OkL B) {i : Nat} (hi : i < 64) {x : Int} (h0 : -6 ≤ x) (h1 : x ≤ 6) : turnL (B.set i x) = (turnL B).set (flipN i) (-x) := by
 have hl := turn_len64 B
 refine ext_getD (turn_len64 _) (by simpa using hl) fun j hj => ?_
 rw [(h.set hi h0 h1).turn hj, getD_set _ _ _ _ (by rw [h.1]; omega), getD_set _ _ _ _ (by rw [hl]; exact flipN_lt hi), h.turn hj]
 by_cases e : i = flipN j
 ·rw [if_pos e, if_pos (by rw [e]; exact flipN_flip hj)]
 ·rw [if_neg e, if_neg (fun x => e (by rw [← x]; exact (flipN_flip hi).symm))]
/-- What is taken. -/
theorem pass_val {q : Ps} (h : 0 ≤ passI q) : (q.t = 0 ∧ 40 ≤ q.e ∧ q.e < 48 ∧ passI q = q.e - 8) ∨ (q.t = 1 ∧ 16 ≤ q.e ∧ q.e < 24 ∧ passI q = q.e + 8) := by
 unfold passI at h ⊢
 split at h
 ·next hc => left; rw [if_pos hc]; exact ⟨hc.1, hc.2.1, hc.2.2.1, rfl⟩
 ·next hn =>
  split at h
  ·next hc => right; rw [if_neg hn, if_pos hc]; exact ⟨hc.1, hc.2.1, hc.2.2.1, rfl⟩
  ·omega
theorem pass_turnI {p : Ps} (hB : Brd p.B) (hr : pwI p = 0) (h : 0 ≤ passI p) : passI (turnP p) = flI (passI p) := by
 obtain ⟨a0, a1, _⟩ := right_pos hr
 obtain ⟨ht, _, _⟩ := (within_iff p).1 a1
 obtain ⟨hrb, _⟩ := king_one a0
 have h2 := pass_turn hB hrb ht h
 have et := turnP_t ht
 have ee : (turnP p).e = flI p.e := rfl
 rcases pass_val h with ⟨b1, b2, b3, b4⟩ | ⟨b1, b2, b3, b4⟩
 ·rcases pass_val h2 with ⟨d1, d2, d3, d4⟩ | ⟨d1, d2, d3, d4⟩
  ·omega
  ·rw [d4, ee, b4]
   obtain ⟨_, _, _, _, _, g5⟩ := flI_on (s := p.e) (by omega) (by omega)
   obtain ⟨_, _, _, _, _, k5⟩ := flI_on (s := p.e - 8) (by omega) (by omega)
   omega
 ·rcases pass_val h2 with ⟨d1, d2, d3, d4⟩ | ⟨d1, d2, d3, d4⟩
  ·rw [d4, ee, b4]
   obtain ⟨_, _, _, _, _, g5⟩ := flI_on (s := p.e) (by omega) (by omega)
   obtain ⟨_, _, _, _, _, k5⟩ := flI_on (s := p.e + 8) (by omega) (by omega)
   omega
  ·omega
theorem Fm.right_e {p : Ps} {m : Mv} {f t : Nat} (h : Fm p m f t) : -1 ≤ p.e ∧ p.e ≤ 63 := (right_t h.right).2.2
theorem bAt_f {p : Ps} {m : Mv} {f t : Nat} (h : Fm p m f t) : bAt p.B m.f = p.B.getD f 0 := by unfold bAt; rw [h.hf, Int.toNat_natCast]
theorem bAt_t {p : Ps} {m : Mv} {f t : Nat} (h : Fm p m f t) : bAt p.B m.t = p.B.getD t 0 := by unfold bAt; rw [h.ht, Int.toNat_natCast]
theorem sq_turn {p : Ps} (ok : OkL p.B) {k : Nat} (hk : k < 64) : (turnP p).B.getD (flipN k) 0 = - p.B.getD k 0 := by
 show (turnL p.B).getD (flipN k) 0 = _
 rw [ok.turn (flipN_lt hk), flipN_flip hk]
theorem pawn_turn {p : Ps} {m : Mv} {f t : Nat} (h : Fm p m f t) : pawnB (turnP p) (turnM m) = pawnB p m := by
 unfold pawnB
 rw [bAt_f h.turn, bAt_f h, sq_turn h.okL h.f1, kind_mi]
theorem file_turn {p : Ps} {m : Mv} {f t : Nat} (h : Fm p m f t) : (turnM m).f % 8 = m.f % 8 ∧ (turnM m).t % 8 = m.t % 8 := by
 have h1 := h.turn.hf
 have h2 := h.turn.ht
 have := flipN_div h.f1
 have := flipN_div h.t1
 have := h.hf
 have := h.ht
 omega
theorem ep_turn {p : Ps} {m : Mv} {f t : Nat} (h : Fm p m f t) : epTake (turnP p) (turnM m) = epTake p m := by
 unfold epTake
 have he : ((turnM m).t == (turnP p).e) = (m.t == p.e) := by
  rw [Bool.eq_iff_iff, beq_iff_eq, beq_iff_eq]
  show flI m.t = flI p.e ↔ _
  have hb := h.right_e
  have h2 := h.ht
  have h3 := h.t1
  obtain ⟨_, _, _, _, g4, _⟩ := flI_on (s := m.t) (by omega) (by omega)
  constructor
  ·intro e
   by_cases hn : 0 ≤ p.e
   ·obtain ⟨_, _, _, _, k4, _⟩ := flI_on (s := p.e) hn (by omega)
    rw [← g4, e, k4]
   ·have : flI p.e = -1 := by unfold flI; rw [if_neg (by omega)]
    obtain ⟨g0, _⟩ := flI_on (s := m.t) (by omega) (by omega)
    omega
  ·intro e; rw [e]
 rw [pawn_turn h, he, (file_turn h).1, (file_turn h).2]
theorem take_turn {p : Ps} {m : Mv} {f t : Nat} (h : Fm p m f t) : takeI (turnP p) (turnM m) = (if 0 ≤ takeI p m then flI (takeI p m) else -1) := by
 have e1 : bAt (turnP p).B (turnM m).t = - bAt p.B m.t := by rw [bAt_t h.turn, bAt_t h, sq_turn h.okL h.t1]
 by_cases h0 : bAt p.B m.t = 0
 ·have a : takeI p m = (if epTake p m then passI p else -1) := by unfold takeI; rw [if_neg (by simpa using h0)]
  have b : takeI (turnP p) (turnM m) = (if epTake p m then passI (turnP p) else -1) := by unfold takeI; rw [if_neg (by rw [e1, h0]; decide), ep_turn h]
  rw [a, b]
  cases he : epTake p m
  ·rfl
  ·simp only [if_true]
   have hee : m.t = p.e := by unfold epTake at he; simp only [Bool.and_eq_true, beq_iff_eq] at he; exact he.1.2
   have hp : 0 ≤ passI p := by
    have := (right_pos h.right).2.2.2.2
    unfold epB passB at this
    rw [Bool.or_eq_true, decide_eq_true_eq, beq_iff_eq] at this
    rcases this with x | x
    ·exact x
    ·have := h.ht; omega
   rw [if_pos hp]
   exact pass_turnI h.brd h.right hp
 ·have a : takeI p m = m.t := by unfold takeI; rw [if_pos h0]
  have b : takeI (turnP p) (turnM m) = (turnM m).t := by unfold takeI; rw [if_pos (by rw [e1]; omega)]
  rw [a, b, if_pos (by have := h.ht; omega)]
  rfl
/-- Castling. -/
theorem free_turn_all : ∀ k : Fin 4, swK k < 4 ∧ hKg (swK k) = flipN (hKg k) ∧ hRk (swK k) = flipN (hRk k) ∧ wTo (swK k) = flipN (wTo k) ∧ swK (swK k) = k := by decide +kernel
theorem sw_at {k : Nat} (hk : k < 4) : swK k < 4 ∧ hKg (swK k) = flipN (hKg k) ∧ hRk (swK k) = flipN (hRk k) ∧ wTo (swK k) = flipN (wTo k) ∧ swK (swK k) = k := free_turn_all ⟨k, hk⟩
theorem btw_turn_all : ∀ k : Fin 4, ∀ s : Fin 64, (wLo (swK k) ≤ flipN s ∧ flipN s < wHi (swK k)) ↔ (wLo k ≤ s ∧ (s : Nat) < wHi k) := by decide +kernel
theorem free_turn {p : Ps} (ok : OkL p.B) {k : Nat} (hk : k < 4) : freeB (turnP p).B (swK k) = freeB p.B k := by
 rw [Bool.eq_iff_iff, free_iff, free_iff]
 constructor
 ·intro h s hs h1 h2
  have hb := (btw_turn_all ⟨k, hk⟩ ⟨s, hs⟩).2 ⟨h1, h2⟩
  have := h (flipN s) (flipN_lt hs) hb.1 hb.2
  rw [sq_turn ok hs] at this
  omega
 ·intro h s hs h1 h2
  have hb := (btw_turn_all ⟨k, hk⟩ ⟨flipN s, flipN_lt hs⟩).1 ⟨by simp only [flipN_flip hs]; exact h1, by simp only [flipN_flip hs]; exact h2⟩
  have := h (flipN s) (flipN_lt hs) hb.1 hb.2
  have q := sq_turn ok (flipN_lt hs)
  rw [flipN_flip hs, this] at q
  simpa using q
theorem castB_turn {p : Ps} {m : Mv} {f t : Nat} (h : Fm p m f t) {k : Nat} (hk : k < 4) : castB (turnP p) (turnM m) (swK k) = castB p m k := by
 obtain ⟨s1, s2, s3, s4, s5⟩ := sw_at hk
 obtain ⟨_, ⟨c0, c1⟩, _⟩ := right_t h.right
 obtain ⟨_, _, _, r1, r2, r4, r8⟩ := ex_at c0 c1
 unfold castB
 have hr : rgtB (turnP p).c (hR (swK k)) = rgtB p.c (hR k) := by
  show rgtB (exI p.c) _ = _
  have : k = 0 ∨ k = 1 ∨ k = 2 ∨ k = 3 := by omega
  rcases this with rfl | rfl | rfl | rfl
  ·exact r4
  ·exact r8
  ·exact r1
  ·exact r2
 have hf : ((turnM m).f == ((hKg (swK k) : Nat) : Int)) = (m.f == ((hKg k : Nat) : Int)) := by
  rw [Bool.eq_iff_iff, beq_iff_eq, beq_iff_eq, h.turn.hf, h.hf, s2]
  have a := flipN_flip h.f1
  have b := flipN_flip (hKg_lt k)
  constructor
  ·intro e
   have e' : flipN f = flipN (hKg k) := by omega
   rw [e'] at a
   omega
  ·intro e
   have e' : f = hKg k := by omega
   rw [e']
 have ht : ((turnM m).t == ((wTo (swK k) : Nat) : Int)) = (m.t == ((wTo k : Nat) : Int)) := by
  rw [Bool.eq_iff_iff, beq_iff_eq, beq_iff_eq, h.turn.ht, h.ht, s4]
  have a := flipN_flip h.t1
  have b := flipN_flip (wTo_lt k)
  constructor
  ·intro e
   have e' : flipN t = flipN (wTo k) := by omega
   rw [e'] at a
   omega
  ·intro e
   have e' : t = wTo k := by omega
   rw [e']
 rw [hr, hf, ht, free_turn h.okL hk]
theorem cast_uniq {p : Ps} {m : Mv} {j k : Nat} (hj : j < 4) (hk : k < 4) (h1 : castB p m j = true) (h2 : castB p m k = true) : j = k := by
 unfold castB at h1 h2
 simp only [Bool.and_eq_true, beq_iff_eq] at h1 h2
 have e1 : wTo j = wTo k := by have := h1.1.2; have := h2.1.2; omega
 have : ∀ a b : Fin 4, wTo a = wTo b → a = b := by decide +kernel
 exact congrArg Fin.val (this ⟨j, hj⟩ ⟨k, hk⟩ e1)
theorem cast_some {p : Ps} {m : Mv} {k : Nat} (h : castB p m k = true) (hk : k < 4) : castN p m < 4 := by
 by_cases hc : castN p m < 4
 ·exact hc
 ·exfalso
  have hn : castN p m = 4 := by have := castN_le p m; omega
  unfold castN at hn
  have : k = 0 ∨ k = 1 ∨ k = 2 ∨ k = 3 := by omega
  rcases this with rfl | rfl | rfl | rfl
  ·rw [if_pos h] at hn; omega
  ·split at hn
   ·omega
   ·omega
  ·split at hn
   ·omega
   ·split at hn
    ·omega
    ·omega
  ·split at hn
   ·omega
   ·split at hn
    ·omega
    ·split at hn
     ·omega
     ·omega
theorem castN_turn {p : Ps} {m : Mv} {f t : Nat} (h : Fm p m f t) : castN (turnP p) (turnM m) = (if castN p m < 4 then swK (castN p m) else 4) := by
 by_cases hc : castN p m < 4
 ·rw [if_pos hc]
  have hb := cast_is hc rfl
  rw [← castB_turn h hc] at hb
  have hs := (sw_at hc).1
  refine cast_at hs hb fun j hj => ?_
  rw [Bool.eq_false_iff]
  intro hx
  have := cast_uniq (by omega) hs hx hb
  omega
 ·rw [if_neg hc]
  refine cast_none fun j hj => ?_
  obtain ⟨s1, _, _, _, s5⟩ := sw_at hj
  rw [← s5, castB_turn h s1, Bool.eq_false_iff]
  intro hx
  have := cast_some hx s1
  omega
theorem st1_turn {p : Ps} {m : Mv} {f t : Nat} (h : Fm p m f t) : st1 (turnP p) (turnM m) = turnL (st1 p m) := by
 have e := take_turn h
 by_cases ht : 0 ≤ takeI p m
 ·rw [if_pos ht] at e
  have a := take_on (p := p) (m := m) rfl ht
  have hl : takeI p m < 64 := by have := (take_lt (p := p) h.on).2; rw [a.1] at this; exact this
  obtain ⟨k, hk⟩ := Int.eq_ofNat_of_zero_le ht
  have hk64 : k < 64 := by omega
  have ef : flI (takeI p m) = (flipN k : Nat) := by rw [hk]; exact flI_cast hk64
  have b := take_on (p := turnP p) (m := turnM m) (e.trans ef) (by omega)
  have l : st1 p m = p.B.set k 0 := by unfold st1; rw [a.1, a.2, hk, Int.toNat_natCast]; rfl
  have r : st1 (turnP p) (turnM m) = (turnP p).B.set (flipN k) 0 := by unfold st1; rw [b.1, b.2, Int.toNat_natCast]; rfl
  rw [l, r, turn_set h.okL hk64 (by omega) (by omega)]
  rfl
 ·rw [if_neg ht] at e
  have b := take_off e
  have l : st1 p m = p.B := by unfold st1 takeB; rw [decide_eq_false ht]; rfl
  have r : st1 (turnP p) (turnM m) = (turnP p).B := by unfold st1; rw [b.2]; rfl
  rw [l, r]
  rfl
theorem md_all : ∀ k : Fin 4, (flipN (hKg k) + flipN (wTo k)) / 2 = flipN ((hKg k + wTo k) / 2) := by decide +kernel
theorem st2_turn {p : Ps} {m : Mv} {f t : Nat} (h : Fm p m f t) {B : List Int} (ok : OkL B) : st2 (turnP p) (turnM m) (turnL B) = turnL (st2 p m B) := by
 have e := castN_turn h
 by_cases hc : castN p m < 4
 ·rw [if_pos hc] at e
  obtain ⟨s1, s2, s3, s4, s5⟩ := sw_at hc
  have c := cast_of h hc rfl
  have hr := hRk_lt (castN p m)
  have hb := ok.2 _ hr
  have hmd : ((m.f + m.t) / 2).toNat = (f + t) / 2 := by rw [h.hf, h.ht]; omega
  have hmd' : (((turnM m).f + (turnM m).t) / 2).toNat = flipN ((f + t) / 2) := by
   rw [h.turn.hf, h.turn.ht]
   have := md_all ⟨castN p m, hc⟩
   simp only at this
   rw [← c.ef, ← c.et] at this
   omega
  have hm64 : (f + t) / 2 < 64 := by have := h.f1; have := h.t1; omega
  unfold st2
  rw [e, if_pos s1, if_pos hc, hmd, hmd', s3]
  rw [turn_set (ok.set hr (by omega) (by omega)) hm64 hb.1 hb.2, turn_set ok hr (by omega) (by omega), ok.turn (flipN_lt hr), flipN_flip hr]
  rfl
 ·rw [if_neg hc] at e
  unfold st2
  rw [e, if_neg hc, if_neg (by omega)]
theorem st3_turn {p : Ps} {m : Mv} {f t : Nat} (h : Fm p m f t) {B : List Int} (ok : OkL B) : st3 (turnM m) (turnL B) = turnL (st3 m B) := by
 unfold st3
 have ff : m.f.toNat = f := by rw [h.hf, Int.toNat_natCast]
 have tt : m.t.toNat = t := by rw [h.ht, Int.toNat_natCast]
 have ff' : (turnM m).f.toNat = flipN f := by rw [h.turn.hf, Int.toNat_natCast]
 have tt' : (turnM m).t.toNat = flipN t := by rw [h.turn.ht, Int.toNat_natCast]
 have hb := ok.2 f h.f1
 rw [ff, tt, ff', tt', turn_set (ok.set h.f1 (by omega) (by omega)) h.t1 hb.1 hb.2, turn_set ok h.f1 (by omega) (by omega), ok.turn (flipN_lt h.f1), flipN_flip h.f1]
 rfl
theorem mk_turn {n t : Int} (ht : t = 0 ∨ t = 1) : mkI n (1 - t) = - mkI n t := by
 unfold mkI
 rcases ht with rfl | rfl
 ·simp
 ·simp
theorem st4_turn {p : Ps} {m : Mv} {f t : Nat} (h : Fm p m f t) {B : List Int} (ok : OkL B) : st4 (turnP p) (turnM m) (turnL B) = turnL (st4 p m B) := by
 have tt : m.t.toNat = t := by rw [h.ht, Int.toNat_natCast]
 have tt' : (turnM m).t.toNat = flipN t := by rw [h.turn.ht, Int.toNat_natCast]
 have ep : (turnM m).p = m.p := rfl
 unfold st4
 rw [ep]
 split
 ·rw [tt, tt', turn_set ok h.t1 (mk_bd h).1 (mk_bd h).2, turnP_t h.t01, mk_turn h.t01]
 ·rfl
theorem behB_turn {p : Ps} {m : Mv} {f t : Nat} (h : Fm p m f t) : behB (turnP p) (turnM m) = turnL (behB p m) := by
 have o1 := st1_ok h
 have o2 := st2_ok h o1
 have o3 := st3_ok h o2
 unfold behB
 rw [st1_turn h, st2_turn h o1, st3_turn h o2, st4_turn h o3]
theorem allN_sorted (p : Ps) (n : Nat) : (allN p n).Pairwise fun a b => lessB a b = true := by
 unfold allN
 rw [List.pairwise_flatMap]
 refine ⟨fun f _ => fromN_sorted p f, List.pairwise_lt_range.imp fun {a b} hab x hx y hy => ?_⟩
 have x1 := (mem_fromN.1 hx).1
 have y1 := (mem_fromN.1 hy).1
 exact (less_iff _ _).2 (.inl (by omega))
theorem turn_empty {p : Ps} (hB : Brd p.B) (hr : pwI p = 0) {x : Int} (h0 : 0 ≤ x) (h1 : x < 64) (h : bAt p.B x = 0) : bAt (turnP p).B (flI x) = 0 := by
 have := bAt_turn hB (king_one (right_pos hr).1).1 h0 h1
 show bAt (turnL p.B) (flI x) = 0
 rw [this, h]; rfl
theorem up_turn {t : Int} (h : t = 0 ∨ t = 1) : upI (1 - t) = - upI t ∧ secI (1 - t) = 7 - secI t := by rcases h with rfl | rfl <;> decide
theorem up_two {t : Int} : upI t = 8 ∨ upI t = -8 := by unfold upI; split <;> simp
theorem fl_up {x u : Int} (h0 : 0 ≤ x) (h1 : x < 64) (hu : u = 8 ∨ u = -8 ∨ u = 16 ∨ u = -16) (h2 : 0 ≤ x + u) (h3 : x + u < 64) : flI (x + u) = flI x + -u := by
 have a := (flI_on h0 h1).2.2.2.2.2
 have b := (flI_on h2 h3).2.2.2.2.2
 rw [a, b]
 rcases hu with rfl | rfl | rfl | rfl <;> omega
theorem goes_turn {p : Ps} {m : Mv} (hB : Brd p.B) (hr : pwI p = 0) (h : goesM p m = true) : goesM (turnP p) (turnM m) = true := by
 have hok : okM p m = true := by unfold okM; rw [hr, goes_form h]; rfl
 obtain ⟨f, t, F⟩ := form_of hB hok
 have FT := F.turn
 have hform := (okM_right FT.ok).2
 have hright := (king_one (right_pos hr).1).1
 have hpt := pawn_turn F
 have tt : (turnP p).t = 1 - p.t := turnP_t F.t01
 have f0 : (0 : Int) ≤ (f : Int) ∧ (f : Int) < 64 := by have := F.f1; omega
 have t0 : (0 : Int) ≤ (t : Int) ∧ (t : Int) < 64 := by have := F.t1; omega
 have ef : (turnM m).f = flI (f : Int) := by show flI m.f = _; rw [F.hf]
 have et : (turnM m).t = flI (t : Int) := by show flI m.t = _; rw [F.ht]
 cases hp : pawnB p m
 ·have hpt' : pawnB (turnP p) (turnM m) = false := by rw [hpt, hp]
  unfold goesM at h ⊢
  rw [hform, hpt', Bool.true_and, if_neg (by decide), Bool.or_eq_true, decide_eq_true_eq]
  rw [goes_form (by unfold goesM; exact h), hp, Bool.true_and, if_neg (by decide), Bool.or_eq_true, decide_eq_true_eq] at h
  rcases h with h | h
  ·left
   rw [hitB_iff] at h ⊢
   rw [ef, et]
   rw [F.hf, F.ht] at h
   exact strike_turn hB hright f0.1 f0.2 h
  ·right
   rw [castN_turn F, if_pos h]
   exact (sw_at h).1
 ·have hpt' : pawnB (turnP p) (turnM m) = true := by rw [hpt, hp]
  have hk : kindI (p.B.getD f 0) = 1 := by unfold pawnB bAt at hp; rw [F.hf, Int.toNat_natCast] at hp; exact beq_iff_eq.1 hp
  have P : Pw p f := ⟨hB, hr, F.f1, F.own, hk⟩
  have hrk := P.rank
  unfold goesM at h ⊢
  rw [hform, hpt', Bool.true_and, if_pos rfl]
  rw [goes_form (by unfold goesM; exact h), hp, Bool.true_and, if_pos rfl] at h
  unfold pgoB at h ⊢
  rw [F.hf, F.ht] at h
  rw [ef, et, tt, (up_turn F.t01).1, (up_turn F.t01).2]
  simp only [Bool.or_eq_true, Bool.and_eq_true, beq_iff_eq] at h ⊢
  rcases h with ⟨h1, h2⟩ | ⟨⟨⟨h1, h2⟩, h3⟩, h4⟩ | ⟨h1, h2⟩
  ·left
   refine ⟨turn_empty hB hr t0.1 t0.2 h1, ?_⟩
   have := fl_up (u := upI p.t) f0.1 f0.2 (by rcases up_two (t := p.t) with e | e <;> simp [e]) (by omega) (by omega)
   rw [h2, this]
  ·right; left
   rcases P.turn with ⟨q1, q2, q3, q4, q5⟩ | ⟨q1, q2, q3, q4, q5⟩
   ·rw [q3] at h2 h4 ⊢
    rw [q4] at h3 ⊢
    have e1 := fl_up (u := 16) f0.1 f0.2 (by simp) (by omega) (by omega)
    have e2 := fl_up (u := 8) f0.1 f0.2 (by simp) (by omega) (by omega)
    refine ⟨⟨⟨turn_empty hB hr t0.1 t0.2 h1, ?_⟩, ?_⟩, ?_⟩
    ·rw [h2, show (2 : Int) * 8 = 16 from rfl, e1]; rfl
    ·have := (flI_on f0.1 f0.2).2.2.2.1; omega
    ·rw [← e2]; exact turn_empty hB hr (by omega) (by omega) h4
   ·rw [q3] at h2 h4 ⊢
    rw [q4] at h3 ⊢
    have e1 := fl_up (u := -16) f0.1 f0.2 (by simp) (by omega) (by omega)
    have e2 := fl_up (u := -8) f0.1 f0.2 (by simp) (by omega) (by omega)
    refine ⟨⟨⟨turn_empty hB hr t0.1 t0.2 h1, ?_⟩, ?_⟩, ?_⟩
    ·rw [h2, show (2 : Int) * -8 = -16 from rfl, e1]; rfl
    ·have := (flI_on f0.1 f0.2).2.2.2.1; omega
    ·rw [← e2]; exact turn_empty hB hr (by omega) (by omega) h4
  ·right; right
   refine ⟨?_, ?_⟩
   ·rw [hitB_iff] at h1 ⊢
    exact strike_turn hB hright f0.1 f0.2 h1
   ·unfold takeB at h2 ⊢
    rw [decide_eq_true_eq] at h2 ⊢
    rw [take_turn F, if_pos h2]
    have hlt := (take_lt (p := p) (okM_on hok)).2
    have hs : takeS p m = takeI p m := by unfold takeS; rw [if_pos h2]
    exact (flI_on h2 (by omega)).1
theorem turnM_turn {m : Mv} (h : On m) : turnM (turnM m) = m := by
 obtain ⟨f, t, q⟩ := m
 unfold turnM
 dsimp only
 rw [(flI_on h.f0 h.f1).2.2.2.2.1, (flI_on h.t0 h.t1).2.2.2.2.1]
theorem brd_turn {p : Ps} (hB : Brd p.B) (hr : pwI p = 0) : Brd (turnP p).B := by
 have hok := okL_of hB hr
 refine ⟨turn_len64 _, fun i hi => ?_⟩
 show -128 ≤ (turnL p.B).getD i 0 ∧ (turnL p.B).getD i 0 ≤ 127
 rw [hok.turn hi]
 have := hok.2 (flipN i) (flN_lt hi)
 omega
theorem all_turn {p : Ps} (hB : Brd p.B) (hr : pwI p = 0) : ((allL p).map turnM).Perm (allL (turnP p)) := by
 have hr' := turnP_right hB hr
 have hB' := brd_turn hB hr
 have t01 := (right_t hr).1
 have t01' := (right_t hr').1
 have hon : ∀ m, m ∈ allL p → On m := fun m hm => form_on t01 (goes_form ((mem_allN t01).1 hm))
 have hnd : (allL (turnP p)).Nodup := sorted_nodup (allN_sorted (turnP p) 64)
 have hnm : ((allL p).map turnM).Nodup := by
  unfold List.Nodup
  rw [List.pairwise_map]
  refine List.Pairwise.imp_of_mem (R := fun a b => a ≠ b) (fun {a b} ha hb hne e => hne ?_) (show (allL p).Nodup from sorted_nodup (allN_sorted p 64))
  rw [← turnM_turn (hon a ha), ← turnM_turn (hon b hb), e]
 refine (List.perm_ext_iff_of_nodup hnm hnd).2 fun x => ?_
 rw [List.mem_map]
 constructor
 ·rintro ⟨m, hm, rfl⟩
  exact (mem_allN t01').2 (goes_turn hB hr ((mem_allN t01).1 hm))
 ·intro hx
  have hx' := (mem_allN t01').1 hx
  have h2 := goes_turn hB' hr' hx'
  rw [turnP_turn hB hr] at h2
  exact ⟨turnM x, (mem_allN t01).2 h2, turnM_turn (form_on t01' (goes_form hx'))⟩
theorem check_turnP {p : Ps} (hB : Brd p.B) (hr : pwI p = 0) : checkB (turnP p).B (turnP p).t = checkB p.B p.t := by
 rw [turnP_t (right_t hr).1]
 exact check_turn hB (right_pos hr).1 (right_t hr).1
theorem stay_turn {p : Ps} {m : Mv} (hB : Brd p.B) (hr : pwI p = 0) (hg : goesM p m = true) : stayB (turnP p) (turnM m) = stayB p m := by
 obtain ⟨f, t, F⟩ := form_of hB (goes_ok hr hg)
 have hw := (right_pos hr).1
 have hR := (king_one hw).1
 have t01 := F.t01
 have e1 := castN_turn F
 have e2 : checkB (behB (turnP p) (turnM m)) (turnP p).t = checkB (behB p m) p.t := by
  rw [behB_turn F, turnP_t t01]
  exact check_turn (behB_ok F).brd (beh_wrong F hg) t01
 unfold stayB
 rw [e1, e2]
 congr 1
 by_cases hc : castN p m < 4
 ·rw [if_pos hc]
  obtain ⟨s1, _⟩ := sw_at hc
  rw [decide_eq_true hc, decide_eq_true s1]
  congr 1
  unfold castOk
  rw [check_turnP hB hr]
  congr 2
  have c := cast_of F hc rfl
  have hm : (m.f + m.t) / 2 = (((f + t) / 2 : Nat) : Int) := by rw [F.hf, F.ht]; omega
  have hm' : ((turnM m).f + (turnM m).t) / 2 = flI (((f + t) / 2 : Nat) : Int) := by
   have hm64 : (f + t) / 2 < 64 := by have := F.f1; have := F.t1; omega
   rw [flI_cast hm64, F.turn.hf, F.turn.ht]
   have := md_all ⟨castN p m, hc⟩
   simp only at this
   rw [← c.ef, ← c.et] at this
   omega
  rw [hm, hm', turnP_t t01]
  exact struck_turn hB hR (s := (((f + t) / 2 : Nat) : Int)) (side := 1 - p.t) (by omega) (by have := F.f1; have := F.t1; omega) (by omega)
 ·rw [if_neg hc, decide_eq_false hc]
  rfl
theorem leg_turn {p : Ps} (hB : Brd p.B) (hr : pwI p = 0) : (legL (turnP p)).length = (legL p).length := by
 have h := (all_turn hB hr).filter (stayB (turnP p))
 have hl := h.length_eq
 unfold legL
 rw [← hl, List.filter_map, List.length_map]
 congr 1
 apply List.filter_congr
 intro m hm
 exact stay_turn hB hr ((mem_allN (right_t hr).1).1 hm)
set_option maxHeartbeats 4000000 in
theorem lturned_not (p : Ps) (hB : Brd p.B) (hr : pwI p ≠ 0) (w : World) (hT : TabG w) :
  Calls Tryz.prog 7 #[.agg (pl p).toArray] w fun e w' => e = .returned (.bool true) ∧ Kept w w' := by
 have HP := Lib.hid (PAt.new w hB.1)
 have HK0 := Lib.hid ((Kept.refl w).alloc (.cells (pl p).toArray 26))
 have HT := Lib.hid (hT.kept HK0.out)
 have HRr := Lib.hid (fun w => rrightP_is p hB w)
 rw [show (pwI p == 0) = false from beq_eq_false_iff_ne.2 hr] at HRr
 clear hB hT hr
 go_enter Tryz.func7, Tryz.ntmps7
 go_wp2_with fail
 refine (legal_wake _ HT.out).mono ?_
 rintro e w1 ⟨rfl, k1⟩
 have HK1 := Lib.hid (HK0.out.trans k1)
 have HP1 := Lib.hid (HP.out.kept k1)
 have HT1 := Lib.hid (HT.out.kept k1)
 clear k1
 go_wp2_with (first | (refine wpList_load_ps (by rfl) _ rfl _ rfl _ (HP1.out) ?_) | (refine wpList_load_pb (by rfl) _ rfl _ rfl _ (HP1.out) ?_))
 refine (HRr.out _).mono ?_
 rintro e w2 ⟨rfl, k2⟩
 have HK2 := Lib.hid (HK1.out.trans k2)
 clear k2
 go_wp2
 go_ret
 exact ⟨rfl, HK2.out⟩
set_option maxHeartbeats 8000000 in
theorem lturned_in (p : Ps) (hB : Brd p.B) (hr : pwI p = 0) (w : World) (hT : TabG w) :
  Calls Tryz.prog 7 #[.agg (pl p).toArray] w fun e w' => e = .returned (.bool true) ∧ Kept w w' := by
 have hB' := brd_turn hB hr
 have hr' := turnP_right hB hr
 obtain ⟨t01, ⟨c0, c1⟩, _⟩ := right_t hr
 have HP := Lib.hid (PAt.new w hB.1)
 have HK0 := Lib.hid ((Kept.refl w).alloc (.cells (pl p).toArray 26))
 have HT := Lib.hid (hT.kept HK0.out)
 have hpl : Hid (p.B.length = 64) := hB.1
 have hql : Hid ((turnP p).B.length = 64) := hB'.1
 have HRr := Lib.hid (fun w => rrightP_is p hB w)
 rw [show (pwI p == 0) = true from beq_iff_eq.2 hr] at HRr
 have HTu := Lib.hid (fun w => pturned_is p hB c0 c1 w)
 have HM1 := Lib.hid (fun r g a b w hT hR => mate_is r g a b p hB w hT hR)
 have HM2 := Lib.hid (fun r g a b w hT hR => mate_is r g a b (turnP p) hB' w hT hR)
 have HS1 := Lib.hid (fun r g a b w hT hR => stale_is r g a b p hB w hT hR)
 have HS2 := Lib.hid (fun r g a b w hT hR => stale_is r g a b (turnP p) hB' w hT hR)
 have HC1 := Lib.hid (fun r g a b w hS hR => rchk_is r g a b p hB w hS hR)
 have HC2 := Lib.hid (fun r g a b w hS hR => rchk_is r g a b (turnP p) hB' w hS hR)
 have HL1 := Lib.hid (fun r g a b w hT hR => moves_is r g a b p hB w hT hR)
 have HL2 := Lib.hid (fun r g a b w hT hR => moves_is r g a b (turnP p) hB' w hT hR)
 have hlen := leg_turn hB hr
 have hsk : stuckB (turnP p) = stuckB p := by rw [stuck_len _ hr', stuck_len _ hr, hlen]
 rw [check_turnP hB hr, hsk] at HM2 HS2
 rw [check_turnP hB hr] at HC2
 have e1 : legR p = legL p := by unfold legR; rw [if_pos hr]
 have e2 : legR (turnP p) = legL (turnP p) := by unfold legR; rw [if_pos hr']
 rw [e1] at HL1
 rw [e2] at HL2
 generalize (checkB p.B p.t && stuckB p) = mb at *
 generalize (!checkB p.B p.t && stuckB p) = sb at *
 generalize checkB p.B p.t = cb at *
 generalize legL (turnP p) = L2 at *
 generalize legL p = L1 at *
 obtain ⟨N, hN⟩ : ∃ n, L1.length = n := ⟨_, rfl⟩
 rw [hN] at hlen
 have HN1 := Lib.hid hN
 have HN2 := Lib.hid hlen
 generalize turnP p = q at *
 clear hB hT hr hB' hr' t01 c0 c1 hlen hsk e1 e2 hN
 go_enter Tryz.func7, Tryz.ntmps7
 go_wp2_with fail
 refine (legal_wake _ HT.out).mono ?_
 rintro e w1 ⟨rfl, k1⟩
 have HK1 := Lib.hid (HK0.out.trans k1)
 have HP1 := Lib.hid (HP.out.kept k1)
 have HT1 := Lib.hid (HT.out.kept k1)
 clear k1
 go_wp2_with (first | (refine wpList_load_ps (by rfl) _ rfl _ rfl _ (HP1.out) ?_) | (refine wpList_load_pb (by rfl) _ rfl _ rfl _ (HP1.out) ?_))
 refine (HRr.out _).mono ?_
 rintro e w2 ⟨rfl, k2⟩
 have HK2 := Lib.hid (HK1.out.trans k2)
 have HP2 := Lib.hid (HP1.out.kept k2)
 have HT2 := Lib.hid (HT1.out.kept k2)
 clear k2
 go_wp2_with fail
 refine (rnew_is _).mono ?_
 rintro e w3 ⟨r, g, a, b, rfl, hR, k1⟩
 have HK3 := Lib.hid (HK2.out.trans k1)
 have HP3 := Lib.hid (HP2.out.kept k1)
 have HT3 := Lib.hid (HT2.out.kept k1)
 have HR3 := Lib.hid hR
 clear k1 hR
 go_wp2_with (first | (refine wpList_load_ps (by rfl) _ rfl _ rfl _ (HP3.out) ?_) | (refine wpList_load_pb (by rfl) _ rfl _ rfl _ (HP3.out) ?_))
 refine (HTu.out _).mono ?_
 rintro e w4 ⟨rfl, k4⟩
 have KA := Lib.hid (k4.alloc (.cells (pl q).toArray 26))
 have HK4 := Lib.hid (HK3.out.trans KA.out)
 have HP4 := Lib.hid (HP3.out.kept KA.out)
 have HT4 := Lib.hid (HT3.out.kept KA.out)
 have HR4 := Lib.hid (HR3.out.kept KA.out)
 have HQ4 := Lib.hid (PAt.new w4 hql.out)
 clear k4 KA
 go_wp2_with (first | (with_reducible refine wpList_new_p rfl rfl ?_) | ((with_reducible refine wpList_store_newp rfl _ _ rfl Zp q Zp_len hql.out ?_ ?_ ?_); exact rfl; exact rfl))
 generalize w4.alloc (.cells (pl q).toArray 26) = W4 at *
 generalize w4.heap.size = gq at *
 refine wp_region_held_drew (S := Kept _) (by kernel_rfl) (Kept.refl _).drew (fun hHeld => ?_)
 refine rT 0 13 (.pointer (some ⟨r, 0, none⟩)) rfl rfl hHeld ?_
 simp only [Act.put, sA, sZ, sU]
 refine rY 1 14 rfl rfl (take_load_ps (by rfl) _ rfl _ rfl p hpl.out (fun _ h => (HP4.out).kept h)) hHeld ?_
 simp only [pA, pN, sZ, sU]
 refine rT 3 16 (.pointer (some ⟨r, 0, none⟩)) rfl rfl hHeld ?_
 simp only [pA, pN, sZ, sU]
 refine rY 4 17 rfl rfl (take_load_ps (by rfl) _ rfl _ rfl q hql.out (fun _ h => (HQ4.out).kept h)) hHeld ?_
 simp only [pA, pN, sZ, sU]
 refine rR 2 rfl (fun K hK => ?_)
 rw [if_pos (by rfl)]
 go_simp
 refine (HM1.out r g a b _ (HT4.out.kept hHeld) (HR4.out.kept hHeld)).mono ?_
 rintro e x1 ⟨rfl, gx1⟩
 refine hK.out _ _ (hHeld.trans gx1) (fun _ => ?_)
 replace hHeld := hHeld.trans gx1
 clear hK K
 refine rR 5 rfl (fun K hK => ?_)
 rw [if_pos (by rfl)]
 go_simp
 refine (HM2.out r g a b _ (HT4.out.kept hHeld) (HR4.out.kept hHeld)).mono ?_
 rintro e x2 ⟨rfl, gx2⟩
 refine hK.out _ _ (hHeld.trans gx2) (fun _ => ?_)
 replace hHeld := hHeld.trans gx2
 clear hK K
 refine rT 6 19 (.bool true) rfl rfl hHeld ?_
 simp only [pA, pN, sZ, sU]
 refine rT 7 20 (.bool true) rfl rfl hHeld ?_
 simp only [pA, pN, sZ, sU]
 refine rT 8 21 (.pointer (some ⟨r, 0, none⟩)) rfl rfl hHeld ?_
 simp only [pA, pN, sZ, sU]
 refine rY 9 22 rfl rfl (take_load_ps (by rfl) _ rfl _ rfl p hpl.out (fun _ h => (HP4.out).kept h)) hHeld ?_
 simp only [pA, pN, sZ, sU]
 refine rT 11 24 (.pointer (some ⟨r, 0, none⟩)) rfl rfl hHeld ?_
 simp only [pA, pN, sZ, sU]
 refine rY 12 25 rfl rfl (take_load_ps (by rfl) _ rfl _ rfl q hql.out (fun _ h => (HQ4.out).kept h)) hHeld ?_
 simp only [pA, pN, sZ, sU]
 refine rR 10 rfl (fun K hK => ?_)
 rw [if_pos (by rfl)]
 go_simp
 refine (HS1.out r g a b _ (HT4.out.kept hHeld) (HR4.out.kept hHeld)).mono ?_
 rintro e x3 ⟨rfl, gx3⟩
 refine hK.out _ _ (hHeld.trans gx3) (fun _ => ?_)
 replace hHeld := hHeld.trans gx3
 clear hK K
 refine rR 13 rfl (fun K hK => ?_)
 rw [if_pos (by rfl)]
 go_simp
 refine (HS2.out r g a b _ (HT4.out.kept hHeld) (HR4.out.kept hHeld)).mono ?_
 rintro e x4 ⟨rfl, gx4⟩
 refine hK.out _ _ (hHeld.trans gx4) (fun _ => ?_)
 replace hHeld := hHeld.trans gx4
 clear hK K
 refine rT 14 27 (.bool true) rfl rfl hHeld ?_
 simp only [pA, pN, sZ, sU]
 refine rT 15 28 (.bool true) rfl rfl hHeld ?_
 simp only [pA, pN, sZ, sU]
 refine rT 16 29 (.bool true) rfl rfl hHeld ?_
 simp only [pA, pN, sZ, sU]
 refine rT 17 30 (.pointer (some ⟨r, 0, none⟩)) rfl rfl hHeld ?_
 simp only [pA, pN, sZ, sU]
 refine rY 18 31 rfl rfl (take_load_ps (by rfl) _ rfl _ rfl p hpl.out (fun _ h => (HP4.out).kept h)) hHeld ?_
 simp only [pA, pN, sZ, sU]
 refine rT 20 33 (.pointer (some ⟨r, 0, none⟩)) rfl rfl hHeld ?_
 simp only [pA, pN, sZ, sU]
 refine rY 21 34 rfl rfl (take_load_ps (by rfl) _ rfl _ rfl q hql.out (fun _ h => (HQ4.out).kept h)) hHeld ?_
 simp only [pA, pN, sZ, sU]
 refine rR 19 rfl (fun K hK => ?_)
 rw [if_pos (by rfl)]
 go_simp
 refine (HC1.out r g a b _ (HT4.out.tabm.tabs.steps.kept hHeld) (HR4.out.kept hHeld)).mono ?_
 rintro e x5 ⟨rfl, gx5⟩
 refine hK.out _ _ (hHeld.trans gx5) (fun _ => ?_)
 replace hHeld := hHeld.trans gx5
 clear hK K
 refine rR 22 rfl (fun K hK => ?_)
 rw [if_pos (by rfl)]
 go_simp
 refine (HC2.out r g a b _ (HT4.out.tabm.tabs.steps.kept hHeld) (HR4.out.kept hHeld)).mono ?_
 rintro e x6 ⟨rfl, gx6⟩
 refine hK.out _ _ (hHeld.trans gx6) (fun _ => ?_)
 replace hHeld := hHeld.trans gx6
 clear hK K
 refine rT 23 36 (.bool true) rfl rfl hHeld ?_
 simp only [pA, pN, sZ, sU]
 refine rT 24 37 (.bool true) rfl rfl hHeld ?_
 simp only [pA, pN, sZ, sU]
 refine rT 25 38 (.bool true) rfl rfl hHeld ?_
 simp only [pA, pN, sZ, sU]
 refine rT 26 39 (.pointer (some ⟨r, 0, none⟩)) rfl rfl hHeld ?_
 simp only [pA, pN, sZ, sU]
 refine rY 27 40 rfl rfl (take_load_ps (by rfl) _ rfl _ rfl p hpl.out (fun _ h => (HP4.out).kept h)) hHeld ?_
 simp only [pA, pN, sZ, sU]
 refine rT 30 43 (.pointer (some ⟨r, 0, none⟩)) rfl rfl hHeld ?_
 simp only [pA, pN, sZ, sU]
 refine rY 31 44 rfl rfl (take_load_ps (by rfl) _ rfl _ rfl q hql.out (fun _ h => (HQ4.out).kept h)) hHeld ?_
 simp only [pA, pN, sZ, sU]
 refine rR 28 rfl (fun K hK => ?_)
 rw [if_pos (by rfl)]
 go_simp
 refine (HL1.out r g a b _ (HT4.out.kept hHeld) (HR4.out.kept hHeld)).mono ?_
 rintro e y1 ⟨vy1, gy1, rfl, hly1, ky1⟩
 obtain ⟨ay1, cy1, rfl⟩ := hly1.slice
 rw [HN1.out]
 refine hK.out _ _ (hHeld.trans ky1) (fun _ => ?_)
 replace hHeld := hHeld.trans ky1
 clear hK K hly1 ky1
 refine rT 29 42 (.int .i64 (N : Int)) rfl rfl hHeld ?_
 simp only [pA, pN, sZ, sU]
 refine rR 32 rfl (fun K hK => ?_)
 rw [if_pos (by rfl)]
 go_simp
 refine (HL2.out r g a b _ (HT4.out.kept hHeld) (HR4.out.kept hHeld)).mono ?_
 rintro e y2 ⟨vy2, gy2, rfl, hly2, ky2⟩
 obtain ⟨ay2, cy2, rfl⟩ := hly2.slice
 rw [HN2.out]
 refine hK.out _ _ (hHeld.trans ky2) (fun _ => ?_)
 replace hHeld := hHeld.trans ky2
 clear hK K hly2 ky2
 refine rT 33 46 (.int .i64 (N : Int)) rfl rfl hHeld ?_
 simp only [pA, pN, sZ, sU]
 refine rT 34 47 (.bool true) rfl rfl hHeld ?_
 simp only [pA, pN, sZ, sU]
 refine rT 35 48 (.bool true) rfl rfl hHeld ?_
 simp only [pA, pN, sZ, sU]
 refine rT 36 2 (.bool true) rfl rfl hHeld ?_
 simp only [pA, pN, sZ, sU]
 refine wpAnyH_done (by kernel_rfl) ?_ _
 have HKe := Lib.hid (HK4.out.trans hHeld)
 clear hHeld
 go_wp2
 go_ret
 exact ⟨rfl, HKe.out⟩
theorem walkLegalTurned (p : Ps) (hB : Brd p.B) (w : World) (hT : TabG w) :
  Calls Tryz.prog 7 #[.agg (pl p).toArray] w fun e w' => e = .returned (.bool true) ∧ Kept w w' := by
 by_cases h : pwI p = 0
 ·exact lturned_in p hB h w hT
 ·exact lturned_not p hB h w hT
end Go.Proofs.YtfekipadkenhpaaGreatDoor
