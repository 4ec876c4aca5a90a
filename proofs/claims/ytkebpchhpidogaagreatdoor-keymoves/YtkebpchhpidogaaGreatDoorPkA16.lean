/- Turned: the program's and the document's. The walk of PosTurns · boardBehind; Make. (Written by wip/mkmvf.py.) · Of; the walk of PosOf · Make; the example. -/
import Derived.Test.YtkebpchhpidogaaGreatDoorPkA06
import Derived.Test.YtkebpchhpidogaaGreatDoorPkA14
import Derived.Test.YtkebpchhpidogaaGreatDoorPkA15
import Derived.Deep.Cut
namespace Go.Proofs.YtkebpchhpidogaaGreatDoor
open Go.RowKit
set_option linter.unusedVariables false
set_option maxRecDepth 100000
set_option linter.unusedSimpArgs false

theorem turn_len {p : Ps} (h : p.B.length = 64) : (turnP p).B.length = 64 := tab_length _
theorem ex_bits_all : ∀ c : Fin 16, bits .or .i64 (IntKind.i64.wrap (bits .and .i64 ((c : Nat) : Int) 3 * 4)) (bits .and .i64 ((c : Nat) : Int) 12 / 4) = exI ((c : Nat) : Int) := by decide +kernel
theorem ex_bits {c : Int} (h0 : 0 ≤ c) (h1 : c ≤ 15) : bits .or .i64 (IntKind.i64.wrap (bits .and .i64 c 3 * 4)) (bits .and .i64 c 12 / 4) = exI c := by
  have := ex_bits_all ⟨c.toNat, by omega⟩
  simp only [show ((c.toNat : Nat) : Int) = c by omega] at this
  exact this
theorem PAt.kb {W w : World} {g k : Nat} {p : Ps} (h : PAt W k p) (hk : KB W g w) (hne : k ≠ g) : PAt w k p := ⟨h.len, hk.heap hne h.at_⟩
theorem KB.row {W w : World} {g : Nat} (h : KB W g w) (c : Array Value) : KB W g (w.setRow g c) :=
  ⟨h.os, h.output, by simpa using h.size, fun k hk hne => (setRow_other w g k c hne).trans (h.block k hk hne)⟩
theorem KB.set {W w : World} {g : Nat} (h : KB W g w) (k : Nat) (u : Value) : KB W g (w.setCell ⟨g, k, none⟩ u) :=
  ⟨h.os, h.output, by simpa [World.setCell] using h.size, fun i hi hne => (Below.heap_setCell w ⟨g, k, none⟩ u i (by exact fun e => hne e)).trans (h.block i hi hne)⟩
theorem take_build_p4 {ops : Array Oper} {S : World → Prop} {op : Oper} {a : Act} (hw : Region.wanted op (yielded ops a.tmps) = true) (x0 x1 x2 x3 : Operand) (ho : op.op = .build 26 #[(0, x0), (1, x1), (2, x2), (3, x3)])
    (B : List Int) (t c e : Int) (hB : B.length = 64) (h0 : a.eval x0 = .agg (cl B).toArray) (h1 : a.eval x1 = .int .i64 t) (h2 : a.eval x2 = .int .i64 c) (h3 : a.eval x3 = .int .i64 e) : YieldsIf Tryz.prog ops S op (.agg (pl ⟨B, t, c, e⟩).toArray) a :=
  .inl ⟨hw, fun w _ => by
    have hp : ((#[(0, x0), (1, x1), (2, x2), (3, x3)] : Array (Nat × Operand)).map fun (i, x) => (i, a.eval x)).toList = [(0, .agg (cl B).toArray), (1, .int .i64 t), (2, .int .i64 c), (3, .int .i64 e)] := by simp [h0, h1, h2, h3]
    have hf := built_pos4 B hB t c e
    have hr : (Instr.build 26 ((#[(0, x0), (1, x1), (2, x2), (3, x3)] : Array (Nat × Operand)).map fun (i, x) => (i, a.eval x))).run Tryz.prog w = .ok (.agg (pl ⟨B, t, c, e⟩).toArray) w := by
      exact run_build w 26 _ _ (by rw [hp]; exact hf)
    unfold execOp
    simp only [ho, Sem.run_bind, hr, Result.andThen_ok, Sem.run_pure]⟩
end Go.Proofs.YtkebpchhpidogaaGreatDoor
namespace Go.Proofs.YtkebpchhpidogaaGreatDoor
open Go.RowKit
set_option linter.unusedVariables false
set_option linter.unusedSimpArgs false
set_option maxRecDepth 100000

/-- How the memory stands while a board is made: the position, the move, where the answer will be, the board. -/
structure Bb (w0 : World) (p : Ps) (m : Mv) (f t : Nat) (W : World) (B : List Int) : Prop where
  hp : PAt W w0.heap.size p
  hm : MAt W (w0.heap.size + 1) m
  ef : m.f = f
  et : m.t = t
  hr : W.heap[w0.heap.size + 2]? = some (.cells (cl Zb).toArray 24 (0, 0))
  hb : W.heap[w0.heap.size + 3]? = some (.cells (cl B).toArray 24 (0, 0))
  len : B.length = 64
  hk : Kept w0 W
theorem Bb.kept {w0 W W' : World} {p : Ps} {m : Mv} {f t : Nat} {B : List Int} (h : Bb w0 p m f t W B) (k : Kept W W') : Bb w0 p m f t W' B :=
  ⟨h.hp.kept k, h.hm.kept k, h.ef, h.et, k.heap h.hr, k.heap h.hb, h.len, h.hk.trans k⟩
theorem Bb.cf {w0 W : World} {p : Ps} {m : Mv} {f t : Nat} {B : List Int} (h : Bb w0 p m f t W B) : W.cell? ⟨w0.heap.size + 1, 0, none⟩ = some (.int .i64 (f : Int)) := by rw [← h.ef]; exact h.hm.f
theorem Bb.ct {w0 W : World} {p : Ps} {m : Mv} {f t : Nat} {B : List Int} (h : Bb w0 p m f t W B) : W.cell? ⟨w0.heap.size + 1, 1, none⟩ = some (.int .i64 (t : Int)) := by rw [← h.et]; exact h.hm.t
theorem Bb.cell {w0 W : World} {p : Ps} {m : Mv} {f t : Nat} {B : List Int} (h : Bb w0 p m f t W B) (k : Nat) (hk : k < 64) : W.cell? ⟨w0.heap.size + 3, k, none⟩ = some (.int .i8 (B.getD k 0)) := cell_cl h.len h.hb k hk
theorem Bb.frozen {w0 W : World} {p : Ps} {m : Mv} {f t : Nat} {B : List Int} (h : Bb w0 p m f t W B) (k : Nat) : W.frozen? ⟨w0.heap.size + 3, k, none⟩ = false := frozen_of_row W _ k _ _ h.hb
theorem Bb.set {w0 W : World} {p : Ps} {m : Mv} {f t : Nat} {B : List Int} (h : Bb w0 p m f t W B) (k : Nat) (x : Int) : Bb w0 p m f t (W.setCell ⟨w0.heap.size + 3, k, none⟩ (.int .i8 x)) (B.set k x) := by
  have hn : ∀ j, j < w0.heap.size + 3 → (W.setCell ⟨w0.heap.size + 3, k, none⟩ (.int .i8 x)).heap[j]? = W.heap[j]? := fun j hj => heap_setCell_other W ⟨w0.heap.size + 3, k, none⟩ j (.int .i8 x) (by show j ≠ w0.heap.size + 3; omega)
  exact ⟨⟨h.hp.len, (hn _ (by omega)).trans h.hp.at_⟩, ⟨(hn _ (by omega)).trans h.hm.at_⟩, h.ef, h.et, (hn _ (by omega)).trans h.hr, heap_set_cl (k := k) x h.hb, by simpa using h.len, h.hk.setCell (p := ⟨w0.heap.size + 3, k, none⟩) (by show w0.heap.size ≤ w0.heap.size + 3; omega) _⟩
/-- The board behind a move, step by step. -/
def st1 (p : Ps) (m : Mv) : List Int := if takeB p m then p.B.set (takeS p m).toNat 0 else p.B
def st2 (p : Ps) (m : Mv) (B : List Int) : List Int := if castN p m < 4 then (B.set (hRk (castN p m)) 0).set ((m.f + m.t) / 2).toNat (B.getD (hRk (castN p m)) 0) else B
def st3 (m : Mv) (B : List Int) : List Int := (B.set m.f.toNat 0).set m.t.toNat (B.getD m.f.toNat 0)
def st4 (p : Ps) (m : Mv) (B : List Int) : List Int := if m.p != 0 then B.set m.t.toNat (mkI m.p p.t) else B
def behB (p : Ps) (m : Mv) : List Int := st4 p m (st3 m (st2 p m (st1 p m)))
theorem st1_len {p : Ps} {m : Mv} (h : p.B.length = 64) : (st1 p m).length = 64 := by unfold st1; split <;> simp [h]
theorem st2_len {p : Ps} {m : Mv} {B : List Int} (h : B.length = 64) : (st2 p m B).length = 64 := by unfold st2; split <;> simp [h]
theorem st3_len {m : Mv} {B : List Int} (h : B.length = 64) : (st3 m B).length = 64 := by unfold st3; simp [h]
theorem st4_len {p : Ps} {m : Mv} {B : List Int} (h : B.length = 64) : (st4 p m B).length = 64 := by unfold st4; split <;> simp [h]
theorem behB_len {p : Ps} {m : Mv} (h : p.B.length = 64) : (behB p m).length = 64 := st4_len (st3_len (st2_len (st1_len h)))
theorem mk_i8 {k t : Int} (h2 : 2 ≤ k) (h5 : k ≤ 5) : IntKind.i8.wrap (mkI k t) = mkI k t := by
  have : k = 2 ∨ k = 3 ∨ k = 4 ∨ k = 5 := by omega
  unfold mkI
  split <;> rcases this with rfl | rfl | rfl | rfl <;> decide
theorem pass_lt {p : Ps} : passI p < 64 := by
  unfold passI
  split
  · omega
  · split <;> omega
theorem take_lt {p : Ps} {m : Mv} (ho : On m) : 0 ≤ takeS p m ∧ takeS p m < 64 := by
  have := ho.t1
  have := ho.t0
  have := @pass_lt p
  have h : takeI p m < 64 := by
    unfold takeI
    split
    · omega
    · split <;> omega
  unfold takeS
  split <;> omega
set_option maxHeartbeats 4000000 in
theorem board_is (p : Ps) (hB : Brd p.B) (t01 : p.t = 0 ∨ p.t = 1) (c0 : 0 ≤ p.c) (c1 : p.c ≤ 15) (m : Mv) (ho : On m) (hpr : promoB m.p = true) (w : World) (hT : TabM w) :
    Calls Tryz.prog 22 #[.agg (pl p).toArray, .agg (ml m).toArray] w (RetB w (behB p m)) := by
  have HP : Hid (PAt _ _ p) := ⟨hB.1, heap_alloc2_old w (.cells (pl p).toArray 26) (.cells (ml m).toArray 35)⟩
  have HM : Hid (MAt _ _ m) := ⟨heap_alloc2_new w (.cells (pl p).toArray 26) (.cells (ml m).toArray 35)⟩
  have HK0 := Lib.hid (((Kept.refl w).alloc (.cells (pl p).toArray 26)).alloc (.cells (ml m).toArray 35))
  obtain ⟨f, hf⟩ := Int.eq_ofNat_of_zero_le ho.f0
  obtain ⟨t, ht⟩ := Int.eq_ofNat_of_zero_le ho.t0
  have hf64 : f < 64 := by have := ho.f1; omega
  have ht64 : t < 64 := by have := ho.t1; omega
  have HB0 : Hid (Bb w p m f t ((((w.alloc (.cells (pl p).toArray 26)).alloc (.cells (ml m).toArray 35)).alloc (.cells (cl Zb).toArray 24)).alloc (.cells (cl p.B).toArray 24)) p.B) := by
    have k2 := (((Kept.refl ((w.alloc (.cells (pl p).toArray 26)).alloc (.cells (ml m).toArray 35))).alloc (.cells (cl Zb).toArray 24)).alloc (.cells (cl p.B).toArray 24))
    have a2 := heap_alloc2_old ((w.alloc (.cells (pl p).toArray 26)).alloc (.cells (ml m).toArray 35)) (.cells (cl Zb).toArray 24) (.cells (cl p.B).toArray 24)
    have a3 := heap_alloc2_new ((w.alloc (.cells (pl p).toArray 26)).alloc (.cells (ml m).toArray 35)) (.cells (cl Zb).toArray 24) (.cells (cl p.B).toArray 24)
    have hsz : ((w.alloc (.cells (pl p).toArray 26)).alloc (.cells (ml m).toArray 35)).heap.size = w.heap.size + 2 := by simp
    rw [hsz] at a2 a3
    exact ⟨HP.out.kept k2, MAt.kept HM.out k2, hf, ht, a2, a3, hB.1, HK0.out.trans k2⟩
  have HP3 := Lib.hid (HP.out.kept ((Kept.refl _).alloc (.cells (cl Zb).toArray 24)))
  have HB := Lib.hid hB
  have HT := Lib.hid hT
  have hpl : Hid (p.B.length = 64) := hB.1
  have HTk := Lib.hid (fun w hw => taken_is p hB m ho w hw)
  have HCs := Lib.hid (fun w hw => castling_is p hB c0 c1 m w hw)
  have HMd := Lib.hid (fun w => mid_is m ho w)
  have HTl := Lib.hid (take_lt (p := p) ho)
  have HFt : Hid (m.f = f ∧ m.t = t) := ⟨hf, ht⟩
  have HPr := Lib.hid hpr
  have HT01 := Lib.hid t01
  have HS1 : Hid (st1 p m = if takeB p m then p.B.set (takeS p m).toNat 0 else p.B) := rfl
  have HS2 : Hid (∀ B, st2 p m B = if castN p m < 4 then (B.set (hRk (castN p m)) 0).set ((m.f + m.t) / 2).toNat (B.getD (hRk (castN p m)) 0) else B) := fun _ => rfl
  have HFin : Hid (behB p m = st4 p m (st3 m (st2 p m (st1 p m)))) := rfl
  clear hB hT c0 c1 ho hf ht hpr t01 HP HM HK0
  go_enter Tryz.func22, Tryz.ntmps22
  go_wp2_with (first
    | (with_reducible refine wpList_new_b rfl rfl ?_)
    | ((with_reducible refine wpList_store_new rfl _ _ rfl Zb p.B Zb_len hpl.out ?_ ?_ ?_); exact rfl; exact rfl)
    | (refine wpList_load_pb (by rfl) _ rfl _ rfl _ HP3.out ?_)
    | (refine wpList_load_ps (by rfl) _ rfl _ rfl _ HB0.out.hp ?_)
    | (refine wpList_load_mv (by rfl) _ rfl _ rfl _ HB0.out.hm ?_))
  refine (HTk.out _ (HT.out.kept HB0.out.hk)).mono ?_
  rintro e w1 ⟨rfl, k1⟩
  have H1 := Lib.hid (HB0.out.kept k1)
  clear k1 HB0 HP3
  go_upto_if 18 with fail
  go_cut [] from 6 (fun wc => Bb w p m f t wc (st1 p m))
  case first =>
    obtain ⟨k, hk⟩ := Int.eq_ofNat_of_zero_le HTl.out.1
    have hk64 : k < 64 := by have := HTl.out.2; omega
    rw [hk] at HS1
    have hkn : ((k : Int)).toNat = k := by simp
    rw [hkn] at HS1
    rw [hk]
    clear hk hkn
    cases hb : takeB p m
    · rw [hb] at HS1
      have HE : Hid (st1 p m = p.B) := HS1.out
      go_wp2
      go_meet
      case rel => rw [HE.out]; exact H1.out
    · rw [hb] at HS1
      have HE : Hid (st1 p m = p.B.set k 0) := HS1.out
      have x1 := H1.out.cell k hk64
      have x2 := H1.out.frozen k
      have H2 := Lib.hid (H1.out.set k 0)
      generalize p.B.getD k 0 = y at *
      go_wp2
      go_meet
      case rel => rw [HE.out]; exact H2.out
  case rest =>
  have H2 := Lib.hid hcut
  clear hcut H1 HS1 HTl HTk
  generalize st1 p m = B1 at *
  go_wp2_with (first
    | (refine wpList_load_ps (by rfl) _ rfl _ rfl _ H2.out.hp ?_)
    | (refine wpList_load_mv (by rfl) _ rfl _ rfl _ H2.out.hm ?_))
  refine (HCs.out _ (HT.out.kept H2.out.hk)).mono ?_
  rintro e w3 ⟨rfl, k3⟩
  have H3 := Lib.hid ((H2.out.kept k3).kept ((Kept.refl w3).alloc (.cells (wl (castN p m)).toArray 73)))
  have HW3 : Hid (RAt _ _ (wl (castN p m)) 73) := ⟨heap_alloc_new w3 (.cells (wl (castN p m)).toArray 73)⟩
  have hgw : Hid (w.heap.size + 3 < w3.heap.size) := lt_of_heap (H2.out.kept k3).hb
  clear k3
  go_upto_if 27 with (first | (with_reducible refine wpList_new_wi rfl rfl ?_) | ((with_reducible refine wpList_store_newwi rfl _ _ rfl 4 (castN p m) ?_ ?_ ?_); exact rfl; exact rfl))
  generalize w3.alloc (.cells (wl (castN p m)).toArray 73) = W3 at *
  generalize w3.heap.size = gw at *
  go_cut [] from 6 (fun wc => Bb w p m f t wc (st2 p m B1))
  case first =>
    by_cases hc : castN p m < 4
    · have HE := Lib.hid (HS2.out B1)
      rw [if_pos hc] at HE
      have HRk := Lib.hid (hRk_lt (castN p m))
      have y2 : Hid (_ = some (Value.int .i64 (hRk (castN p m)))) := HW3.out.cellK 2
      have hmd : Hid (((f : Int) + t) / 2 = (((f + t) / 2 : Nat) : Int)) := by show _ = _; omega
      have hmd64 : (f + t) / 2 < 64 := by omega
      rw [HFt.out.1, HFt.out.2, hmd.out] at HMd HE
      have hnn : ((((f + t) / 2 : Nat) : Int)).toNat = (f + t) / 2 := Int.toNat_natCast _
      rw [hnn] at HE
      clear hnn
      generalize hRk (castN p m) = rk at *
      generalize (f + t) / 2 = md at *
      obtain ⟨x, hx⟩ : ∃ x, B1.getD rk 0 = x := ⟨_, rfl⟩
      rw [hx] at HE
      have HX := Lib.hid hx
      clear hx
      rw [decide_eq_true hc]
      have hrk64 : rk < 64 := HRk.out
      have hrkI : (rk : Int) < 64 := by omega
      have hmdI : (md : Int) < 64 := by omega
      have hne1 : w.heap.size + 1 ≠ w.heap.size + 3 := by omega
      have hne2 : gw ≠ w.heap.size + 3 := by have := hgw.out; omega
      clear hc
      go_wp2
      refine wp_region_held_drew (S := KB (W3) (w.heap.size + 3)) (by kernel_rfl) ((KB.refl _ _).kept (Kept.refl _).drew) (fun hHeld => ?_)
      have hKp := (Kept.refl (W3)).drew
      refine rT 0 28 (.pointer (some ⟨gw, 2, none⟩)) rfl rfl hHeld ?_
      simp only [Act.put, sA, sZ, sU]
      refine rC 1 29 (.int .i64 ↑rk) rfl rfl (fun _ h => KB.cell h (hne2) (y2.out)) hHeld ?_
      simp only [pA, pN, sZ, sU]
      refine rY 2 30 rfl rfl (take_load_mv (by rfl) _ rfl _ rfl m (fun _ h => MAt.kb (H3.out.hm) h (hne1))) hHeld ?_
      simp only [pA, pN, sZ, sU]
      refine rT 4 32 (.pointer (some ⟨gw, 2, none⟩)) rfl rfl hHeld ?_
      simp only [pA, pN, sZ, sU]
      refine rC 5 33 (.int .i64 ↑rk) rfl rfl (fun _ h => KB.cell h (hne2) (y2.out)) hHeld ?_
      simp only [pA, pN, sZ, sU]
      refine rT 6 34 (.pointer (some ⟨w.heap.size + 3, rk, none⟩)) rfl rfl hHeld ?_
      simp only [pA, pN, sZ, sU]
      refine wpAnyH_ready (rs := [3, 7]) (by kernel_rfl) (by simp) ?_
      refine AllReadyH.cons rfl (fun K hK => ?_) (AllReadyH.cons rfl (fun K hK => ?_) AllReadyH.nil)
      · go_simp
        refine (HMd.out _).mono ?_
        rintro e w4 ⟨rfl, k4⟩
        refine hK.out _ _ (hHeld.kept k4) (fun _ => ?_)
        replace hHeld := hHeld.kept k4
        replace hKp := hKp.trans k4
        clear hK K k4
        have a7 := (H3.out.kept hKp).cell rk hrk64
        rw [HX.out] at a7
        refine rR 7 rfl (fun K hK => ?_)
        go_simp
        refine hK.out _ _ hHeld (fun _ => ?_)
        clear hK K a7
        refine rT 8 36 (.pointer (some ⟨w.heap.size + 3, rk, none⟩)) rfl rfl hHeld ?_
        simp only [pA, pN, sZ, sU]
        have H5 := Lib.hid (H3.out.kept hKp)
        have a9 := H5.out.cell rk hrk64
        have f9 := H5.out.frozen rk
        refine rR 9 rfl (fun K hK => ?_)
        go_simp
        have H6 := Lib.hid (H5.out.set rk 0)
        refine hK.out _ _ (KB.set hHeld rk (.int .i8 0)) (fun hHeld => ?_)
        clear hK K a9 f9
        generalize w4.setCell ⟨w.heap.size + 3, rk, none⟩ (.int .i8 0) = y6 at *
        refine rT 10 37 (.pointer (some ⟨w.heap.size + 3, md, none⟩)) rfl rfl hHeld ?_
        simp only [pA, pN, sZ, sU]
        have a9 := H6.out.cell md hmd64
        have f9 := H6.out.frozen md
        refine rR 11 rfl (fun K hK => ?_)
        go_simp
        have H7 := Lib.hid (H6.out.set md x)
        refine hK.out _ _ (KB.set hHeld md (.int .i8 x)) (fun hHeld => ?_)
        clear hK K a9 f9
        generalize y6.setCell ⟨w.heap.size + 3, md, none⟩ (.int .i8 x) = y7 at *
        refine wpAnyH_done (by kernel_rfl) ?_ _
        go_wp2
        go_meet
        case rel => rw [HE.out]; exact H7.out
      · have a7 := (H3.out.kept hKp).cell rk hrk64
        rw [HX.out] at a7
        go_simp
        refine hK.out _ _ hHeld (fun _ => ?_)
        clear hK K a7
        refine rT 8 36 (.pointer (some ⟨w.heap.size + 3, rk, none⟩)) rfl rfl hHeld ?_
        simp only [pA, pN, sZ, sU]
        refine rR 3 rfl (fun K hK => ?_)
        go_simp
        refine (HMd.out _).mono ?_
        rintro e w4 ⟨rfl, k4⟩
        refine hK.out _ _ (hHeld.kept k4) (fun _ => ?_)
        replace hHeld := hHeld.kept k4
        replace hKp := hKp.trans k4
        clear hK K k4
        have H5 := Lib.hid (H3.out.kept hKp)
        have a9 := H5.out.cell rk hrk64
        have f9 := H5.out.frozen rk
        refine rR 9 rfl (fun K hK => ?_)
        go_simp
        have H6 := Lib.hid (H5.out.set rk 0)
        refine hK.out _ _ (KB.set hHeld rk (.int .i8 0)) (fun hHeld => ?_)
        clear hK K a9 f9
        generalize w4.setCell ⟨w.heap.size + 3, rk, none⟩ (.int .i8 0) = y6 at *
        refine rT 10 37 (.pointer (some ⟨w.heap.size + 3, md, none⟩)) rfl rfl hHeld ?_
        simp only [pA, pN, sZ, sU]
        have a9 := H6.out.cell md hmd64
        have f9 := H6.out.frozen md
        refine rR 11 rfl (fun K hK => ?_)
        go_simp
        have H7 := Lib.hid (H6.out.set md x)
        refine hK.out _ _ (KB.set hHeld md (.int .i8 x)) (fun hHeld => ?_)
        clear hK K a9 f9
        generalize y6.setCell ⟨w.heap.size + 3, md, none⟩ (.int .i8 x) = y7 at *
        refine wpAnyH_done (by kernel_rfl) ?_ _
        go_wp2
        go_meet
        case rel => rw [HE.out]; exact H7.out
    · have HE := Lib.hid (HS2.out B1)
      rw [if_neg hc] at HE
      rw [decide_eq_false hc]
      clear hc
      go_wp2
      go_meet
      case rel => rw [HE.out]; exact H3.out
  case rest =>
  have H4 := Lib.hid hcut
  clear hcut H2 H3 HS2 HCs HW3 hgw
  generalize st2 p m B1 = B2 at *
  have HE3 : Hid (st3 m B2 = (B2.set f 0).set t (B2.getD f 0)) := by show _ = _; unfold st3; rw [HFt.out.1, HFt.out.2, Int.toNat_natCast, Int.toNat_natCast]
  obtain ⟨x, hx⟩ : ∃ x, B2.getD f 0 = x := ⟨_, rfl⟩
  rw [hx] at HE3
  have HX := Lib.hid hx
  have hfI : (f : Int) < 64 := by omega
  have htI : (t : Int) < 64 := by omega
  have hne1 : w.heap.size + 1 ≠ w.heap.size + 3 := by omega
  have hne0 : w.heap.size ≠ w.heap.size + 3 := by omega
  clear hx
  go_wp2
  refine wp_region_held_drew (S := KB (wc) (w.heap.size + 3)) (by kernel_rfl) ((KB.refl _ _).kept (Kept.refl _).drew) (fun hHeld => ?_)
  have hKp := (Kept.refl (wc)).drew
  generalize wc.drew = w8 at *
  refine rT 0 38 (.pointer (some ⟨w.heap.size + 1, 0, none⟩)) rfl rfl hHeld ?_
  simp only [pA, pN, sZ, sU]
  refine rC 1 39 (.int .i64 ↑f) rfl rfl (fun _ h => KB.cell h (hne1) (H4.out.cf)) hHeld ?_
  simp only [pA, pN, sZ, sU]
  refine rT 4 42 (.pointer (some ⟨w.heap.size + 1, 0, none⟩)) rfl rfl hHeld ?_
  simp only [pA, pN, sZ, sU]
  refine rC 5 43 (.int .i64 ↑f) rfl rfl (fun _ h => KB.cell h (hne1) (H4.out.cf)) hHeld ?_
  simp only [pA, pN, sZ, sU]
  refine rT 2 40 (.pointer (some ⟨w.heap.size + 1, 1, none⟩)) rfl rfl hHeld ?_
  simp only [pA, pN, sZ, sU]
  refine rC 3 41 (.int .i64 ↑t) rfl rfl (fun _ h => KB.cell h (hne1) (H4.out.ct)) hHeld ?_
  simp only [pA, pN, sZ, sU]
  refine rT 6 44 (.pointer (some ⟨w.heap.size + 3, f, none⟩)) rfl rfl hHeld ?_
  simp only [pA, pN, sZ, sU]
  have H4' := Lib.hid (H4.out.kept hKp)
  have a7 := H4'.out.cell f hf64
  rw [HX.out] at a7
  refine rR 7 rfl (fun K hK => ?_)
  go_simp
  refine hK.out _ _ hHeld (fun _ => ?_)
  clear hK K a7
  refine rT 8 46 (.pointer (some ⟨w.heap.size + 3, f, none⟩)) rfl rfl hHeld ?_
  simp only [pA, pN, sZ, sU]
  have a9 := H4'.out.cell f hf64
  have f9 := H4'.out.frozen f
  refine rR 9 rfl (fun K hK => ?_)
  go_simp
  have H5 := Lib.hid (H4'.out.set f 0)
  refine hK.out _ _ (KB.set hHeld f (.int .i8 0)) (fun hHeld => ?_)
  clear hK K a9 f9
  generalize w8.setCell ⟨w.heap.size + 3, f, none⟩ (.int .i8 0) = y6 at *
  refine rT 10 47 (.pointer (some ⟨w.heap.size + 3, t, none⟩)) rfl rfl hHeld ?_
  simp only [pA, pN, sZ, sU]
  have a9 := H5.out.cell t ht64
  have f9 := H5.out.frozen t
  refine rR 11 rfl (fun K hK => ?_)
  go_simp
  have H6 := Lib.hid (H5.out.set t x)
  rw [← HE3.out] at H6
  refine hK.out _ _ (KB.set hHeld t (.int .i8 x)) (fun hHeld => ?_)
  clear hK K a9 f9
  generalize y6.setCell ⟨w.heap.size + 3, t, none⟩ (.int .i8 x) = y7 at *
  refine wpAnyH_done (by kernel_rfl) ?_ _
  have HL3 := Lib.hid (st3_len (m := m) H4.out.len)
  have HE4 : Hid (∀ B, st4 p m B = if m.p != 0 then B.set t (mkI m.p p.t) else B) := fun B => by unfold st4; rw [HFt.out.2, Int.toNat_natCast]
  clear H4 H4' H5 hHeld hKp HX HE3
  generalize st3 m B2 = B3 at *
  have cp := H6.out.hm.p
  go_upto_if 50 with fail
  clear cp
  go_cut [] from 6 (fun wd => Bb w p m f t wd (st4 p m B3))
  case first =>
    cases hp0 : (m.p != 0)
    · have HE := Lib.hid (HE4.out B3)
      rw [hp0] at HE
      have HE' : Hid (st4 p m B3 = B3) := HE.out
      go_wp2
      go_meet
      case rel => rw [HE'.out]; exact H6.out
    · have HE := Lib.hid (HE4.out B3)
      rw [hp0] at HE
      have HE' : Hid (st4 p m B3 = B3.set t (mkI m.p p.t)) := HE.out
      have hp25 : Hid (2 ≤ m.p ∧ m.p ≤ 5) := by
        have h1 := HPr.out
        have h2 := bne_iff_ne.1 hp0
        unfold promoB at h1
        simp only [Bool.or_eq_true, Bool.and_eq_true, beq_iff_eq, decide_eq_true_eq] at h1
        exact h1.resolve_left h2
      have HMk := Lib.hid (fun w => mmake_is m.p p.t w (by have := hp25.out; omega) (by have := hp25.out; omega) HT01.out)
      have hi8 := mk_i8 (t := p.t) hp25.out.1 hp25.out.2
      generalize mkI m.p p.t = x at *
      go_wp2
      refine wp_region_held_drew (S := KB (y7) (w.heap.size + 3)) (by kernel_rfl) ((KB.refl _ _).kept (Kept.refl _).drew) (fun hHeld => ?_)
      have hKp := (Kept.refl (y7)).drew
      refine rT 0 51 (.pointer (some ⟨w.heap.size + 1, 1, none⟩)) rfl rfl hHeld ?_
      simp only [pA, pN, sZ, sU]
      refine rC 1 52 (.int .i64 ↑t) rfl rfl (fun _ h => KB.cell h (hne1) (H6.out.ct)) hHeld ?_
      simp only [pA, pN, sZ, sU]
      refine rT 2 53 (.pointer (some ⟨w.heap.size + 1, 2, none⟩)) rfl rfl hHeld ?_
      simp only [pA, pN, sZ, sU]
      refine rC 3 54 (.int .i64 m.p) rfl rfl (fun _ h => KB.cell h (hne1) (H6.out.hm.p)) hHeld ?_
      simp only [pA, pN, sZ, sU]
      refine rT 4 55 (.pointer (some ⟨w.heap.size, 64, none⟩)) rfl rfl hHeld ?_
      simp only [pA, pN, sZ, sU]
      refine rC 5 56 (.int .i64 p.t) rfl rfl (fun _ h => KB.cell h (hne0) (H6.out.hp.turn)) hHeld ?_
      simp only [pA, pN, sZ, sU]
      refine rR 6 rfl (fun K hK => ?_)
      go_simp
      refine (HMk.out _).mono ?_
      rintro e w9 ⟨rfl, gw9⟩
      refine hK.out _ _ (hHeld.kept gw9) (fun _ => ?_)
      replace hHeld := hHeld.kept gw9
      replace hKp := hKp.trans gw9
      clear hK K
      refine rT 7 58 (.int .i8 x) rfl rfl hHeld ?_
      simp only [pA, pN, sZ, sU]
      refine rT 8 59 (.pointer (some ⟨w.heap.size + 3, t, none⟩)) rfl rfl hHeld ?_
      simp only [pA, pN, sZ, sU]
      have H7 := Lib.hid (H6.out.kept hKp)
      have a9 := H7.out.cell t ht64
      have f9 := H7.out.frozen t
      refine rR 9 rfl (fun K hK => ?_)
      go_simp
      have H8 := Lib.hid (H7.out.set t x)
      refine hK.out _ _ (KB.set hHeld t (.int .i8 x)) (fun hHeld => ?_)
      clear hK K a9 f9
      generalize w9.setCell ⟨w.heap.size + 3, t, none⟩ (.int .i8 x) = y8 at *
      refine wpAnyH_done (by kernel_rfl) ?_ _
      go_wp2
      go_meet
      case rel => rw [HE'.out]; exact H8.out
  case rest =>
  have H7 := Lib.hid hcut
  clear hcut H6 HE4
  have HL4 := Lib.hid (st4_len (p := p) (m := m) HL3.out)
  have hz := Lib.hid (size_cl HL4.out)
  generalize st4 p m B3 = B4 at *
  go_wp2_with (first | (refine wpList_load_w (by rfl) _ rfl _ rfl _ H7.out.hb hz.out ?_) | (refine wpList_store_row rfl 24 _ _ rfl (w.heap.size + 2) (cl B4).toArray rfl rfl 24 _ H7.out.hr hz.out (by rw [cl_size _ Zb_brd.1, cl_size _ HL4.out]) (cl_one _) ?_))
  refine bodyPost_ret (v := .agg (cl B4).toArray) ?_ rfl ⟨?_, ?_⟩
  · exact results_cell_row rfl _ _ (w.heap.size + 2) 24 _ (0, 0) _ rfl (setRow_heap _ _ _ _ _ _ H7.out.hr) Tryz.underlying24 rfl hz.out
  · rw [HFin.out]
  · exact H7.out.hk.setRow (by omega) _
end Go.Proofs.YtkebpchhpidogaaGreatDoor
namespace Go.Proofs.YtkebpchhpidogaaGreatDoor
open Go.RowKit
set_option linter.unusedVariables false
set_option maxRecDepth 100000
set_option linter.unusedSimpArgs false

/-- A board and who is to move. -/
def ofQ (B : List Int) (t : Int) : Ps := ⟨B, t, 0, -1⟩
def ofP (q : Ps) : Ps := if pwI q = 0 then q else Zp
theorem results_pos_tmp {fn : Func} {s t : Tmp} (h : fn.results = #[.cell s 26, .tmp t]) (tmps : Array Value) {w : World} {g : Nat} {p : Ps}
    (hp : tmps.getD s undef = .pointer (some ⟨g, 0, none⟩)) (hg : PAt w g p) : (results fn tmps).run Tryz.prog w = .ok (.tuple #[.agg (pl p).toArray, tmps.getD t undef]) w := by
  have hp' : tmps[s]?.getD undef = .pointer (some ⟨g, 0, none⟩) := by simpa using hp
  have hl : (loadVar 26 ⟨g, 0, none⟩).run Tryz.prog w = .ok (.agg (pl p).toArray) w := run_loadVar_row w g _ _ (pl p).toArray (0, 0) _ hg.at_ Tryz.underlying26 rfl (size_pl hg.len)
  simp [results, h, hp', asAddr, hl]
end Go.Proofs.YtkebpchhpidogaaGreatDoor
namespace Go.Proofs.YtkebpchhpidogaaGreatDoor
open Go.RowKit
set_option linter.unusedVariables false
set_option linter.unusedSimpArgs false
set_option maxRecDepth 100000

/-- The position behind a move. -/
def behP (p : Ps) (m : Mv) : Ps := ⟨behB p m, otherI p.t, rtN p.c m 4, epI p m⟩
def RetPE (w : World) (q : Ps) (x : Int) (e : Ending) (w' : World) : Prop := e = .returned (.tuple #[.agg (pl q).toArray, .int .i64 x]) ∧ Kept w w'
set_option maxHeartbeats 2000000 in
theorem make_wrong (p : Ps) (hB : Brd p.B) (m : Mv) (h : pwI p ≠ 0) (w : World) (hT : TabM w) :
    Calls Tryz.prog 8 #[.agg (pl p).toArray, .agg (ml m).toArray] w (RetPE w Zp (pwI p)) := by
  have HP : Hid (PAt _ _ p) := ⟨hB.1, heap_alloc2_old w (.cells (pl p).toArray 26) (.cells (ml m).toArray 35)⟩
  have HM : Hid (MAt _ _ m) := ⟨heap_alloc2_new w (.cells (pl p).toArray 26) (.cells (ml m).toArray 35)⟩
  have HK0 := Lib.hid (((Kept.refl w).alloc (.cells (pl p).toArray 26)).alloc (.cells (ml m).toArray 35))
  have HK1 := Lib.hid (HK0.out.alloc (.cells (pl Zp).toArray 26))
  have HP1 := Lib.hid (HP.out.kept ((Kept.refl _).alloc (.cells (pl Zp).toArray 26)))
  have HR1 : Hid (PAt _ _ Zp) := PAt.new ((w.alloc (.cells (pl p).toArray 26)).alloc (.cells (ml m).toArray 35)) Zp_len
  have hsz : ((w.alloc (.cells (pl p).toArray 26)).alloc (.cells (ml m).toArray 35)).heap.size = w.heap.size + 2 := by simp
  rw [hsz] at HR1
  have HT := Lib.hid (hT.kept HK1.out)
  have HC := Lib.hid (fun w h => pwrong_is p hB w h)
  have hv' : (pwI p != 0) = true := bne_iff_ne.2 h
  generalize pwI p = v at *
  clear hB hT h HP HM HK0 hsz
  go_enter Tryz.func8, Tryz.ntmps8
  go_wp2_with (first | (with_reducible refine wpList_new_p rfl rfl ?_) | (refine wpList_load_ps (by rfl) _ rfl _ rfl _ HP1.out ?_))
  refine (HC.out _ HT.out.tabs).mono ?_
  rintro e w1 ⟨rfl, k1⟩
  have HK2 := Lib.hid (HK1.out.trans k1)
  have HR2 := Lib.hid (HR1.out.kept k1)
  clear k1
  go_wp2_with (first | (refine wpList_built_p0 (by rfl) rfl ?_) | (refine wpList_store_ps rfl _ _ rfl (w.heap.size + 2) Zp Zp HR2.out Zp_len rfl rfl ?_))
  refine bodyPost_ret (v := .tuple #[.agg (pl Zp).toArray, .int .i64 v]) ?_ rfl ⟨rfl, HK2.out.setRow (by omega) _⟩
  exact (results_pos_tmp (s := 4) (t := 5) rfl _ rfl (HR2.out.setRow Zp_len)).trans rfl
set_option maxHeartbeats 2000000 in
theorem make_unformed (p : Ps) (hB : Brd p.B) (m : Mv) (h : pwI p = 0) (hf : formB p m = false) (w : World) (hT : TabM w) :
    Calls Tryz.prog 8 #[.agg (pl p).toArray, .agg (ml m).toArray] w (RetPE w Zp 5) := by
  have HP : Hid (PAt _ _ p) := ⟨hB.1, heap_alloc2_old w (.cells (pl p).toArray 26) (.cells (ml m).toArray 35)⟩
  have HM : Hid (MAt _ _ m) := ⟨heap_alloc2_new w (.cells (pl p).toArray 26) (.cells (ml m).toArray 35)⟩
  have HK0 := Lib.hid (((Kept.refl w).alloc (.cells (pl p).toArray 26)).alloc (.cells (ml m).toArray 35))
  have HK1 := Lib.hid (HK0.out.alloc (.cells (pl Zp).toArray 26))
  have HP1 := Lib.hid (HP.out.kept ((Kept.refl _).alloc (.cells (pl Zp).toArray 26)))
  have HM1 := Lib.hid (MAt.kept HM.out ((Kept.refl _).alloc (.cells (pl Zp).toArray 26)))
  have HR1 : Hid (PAt _ _ Zp) := PAt.new ((w.alloc (.cells (pl p).toArray 26)).alloc (.cells (ml m).toArray 35)) Zp_len
  have hsz : ((w.alloc (.cells (pl p).toArray 26)).alloc (.cells (ml m).toArray 35)).heap.size = w.heap.size + 2 := by simp
  rw [hsz] at HR1
  have HT := Lib.hid (hT.kept HK1.out)
  have HC := Lib.hid (fun w h => pwrong_is p hB w h)
  have HF := Lib.hid (fun w hw => formed_is p hB (right_t h).1 m w hw)
  rw [h] at HC
  rw [hf] at HF
  clear hB hT h HP HM HK0 hsz hf
  go_enter Tryz.func8, Tryz.ntmps8
  go_wp2_with (first | (with_reducible refine wpList_new_p rfl rfl ?_) | (refine wpList_load_ps (by rfl) _ rfl _ rfl _ HP1.out ?_))
  refine (HC.out _ HT.out.tabs).mono ?_
  rintro e w1 ⟨rfl, k1⟩
  have HK2 := Lib.hid (HK1.out.trans k1)
  have HR2 := Lib.hid (HR1.out.kept k1)
  have HP2 := Lib.hid (HP1.out.kept k1)
  have HM2 := Lib.hid (MAt.kept HM1.out k1)
  have HT2 := Lib.hid (HT.out.kept k1)
  clear k1
  go_wp2_with (first | (refine wpList_load_ps (by rfl) _ rfl _ rfl _ (HP2.out) ?_) | (refine wpList_load_pb (by rfl) _ rfl _ rfl _ (HP2.out) ?_) | (refine wpList_load_mv (by rfl) _ rfl _ rfl _ (HM2.out) ?_))
  refine (HF.out _ HT2.out).mono ?_
  rintro e w2 ⟨rfl, k2⟩
  have HK3 := Lib.hid (HK2.out.trans k2)
  have HR3 := Lib.hid (HR2.out.kept k2)
  clear k2
  go_wp2_with (first | (refine wpList_built_p0 (by rfl) rfl ?_) | (refine wpList_store_ps rfl _ _ rfl (w.heap.size + 2) Zp Zp HR3.out Zp_len rfl rfl ?_))
  refine bodyPost_ret (v := .tuple #[.agg (pl Zp).toArray, .int .i64 5]) ?_ rfl ⟨rfl, HK3.out.setRow (by omega) _⟩
  exact (results_pos_tmp (s := 4) (t := 5) rfl _ rfl (HR3.out.setRow Zp_len)).trans rfl
theorem form_promo {p : Ps} {m : Mv} (h : formB p m = true) : promoB m.p = true := by
  unfold formB at h
  rw [Bool.and_eq_true] at h
  exact h.2
set_option maxHeartbeats 2000000 in
theorem make_yes (p : Ps) (hB : Brd p.B) (m : Mv) (h : okM p m = true) (w : World) (hT : TabM w) :
    Calls Tryz.prog 8 #[.agg (pl p).toArray, .agg (ml m).toArray] w (RetPE w (behP p m) 0) := by
  obtain ⟨hw, hf⟩ := okM_right h
  obtain ⟨t01, ⟨c0, c1⟩, e0, e1⟩ := right_t hw
  have HP : Hid (PAt _ _ p) := ⟨hB.1, heap_alloc2_old w (.cells (pl p).toArray 26) (.cells (ml m).toArray 35)⟩
  have HM : Hid (MAt _ _ m) := ⟨heap_alloc2_new w (.cells (pl p).toArray 26) (.cells (ml m).toArray 35)⟩
  have HK0 := Lib.hid (((Kept.refl w).alloc (.cells (pl p).toArray 26)).alloc (.cells (ml m).toArray 35))
  have HK1 := Lib.hid (HK0.out.alloc (.cells (pl Zp).toArray 26))
  have HP1 := Lib.hid (HP.out.kept ((Kept.refl _).alloc (.cells (pl Zp).toArray 26)))
  have HM1 := Lib.hid (MAt.kept HM.out ((Kept.refl _).alloc (.cells (pl Zp).toArray 26)))
  have HR1 : Hid (PAt _ _ Zp) := PAt.new ((w.alloc (.cells (pl p).toArray 26)).alloc (.cells (ml m).toArray 35)) Zp_len
  have hsz : ((w.alloc (.cells (pl p).toArray 26)).alloc (.cells (ml m).toArray 35)).heap.size = w.heap.size + 2 := by simp
  rw [hsz] at HR1
  have HT := Lib.hid (hT.kept HK1.out)
  have HC := Lib.hid (fun w h => pwrong_is p hB w h)
  have HF := Lib.hid (fun w hw => formed_is p hB t01 m w hw)
  have HX1 := Lib.hid (fun w hw => board_is p hB t01 c0 c1 m (okM_on h) (form_promo hf) w hw)
  have HX2 := Lib.hid (other_any p.t)
  have HX3 := Lib.hid (fun w hw => rights_is p hB m w hw)
  have HX4 := Lib.hid (fun w => epb_is p hB m (okM_on h) w)
  have hpl : Hid (p.B.length = 64) := hB.1
  have hql : Hid ((behP p m).B.length = 64) := behB_len hB.1
  rw [hw] at HC
  rw [hf] at HF
  clear hB hT h HP HM HK0 hsz hf hw t01 c0 c1 e0 e1
  go_enter Tryz.func8, Tryz.ntmps8
  go_wp2_with (first | (with_reducible refine wpList_new_p rfl rfl ?_) | (refine wpList_load_ps (by rfl) _ rfl _ rfl _ HP1.out ?_))
  refine (HC.out _ HT.out.tabs).mono ?_
  rintro e w1 ⟨rfl, k1⟩
  have HK2 := Lib.hid (HK1.out.trans k1)
  have HR2 := Lib.hid (HR1.out.kept k1)
  have HP2 := Lib.hid (HP1.out.kept k1)
  have HM2 := Lib.hid (MAt.kept HM1.out k1)
  have HT2 := Lib.hid (HT.out.kept k1)
  clear k1
  go_wp2_with (first | (refine wpList_load_ps (by rfl) _ rfl _ rfl _ (HP2.out) ?_) | (refine wpList_load_pb (by rfl) _ rfl _ rfl _ (HP2.out) ?_) | (refine wpList_load_mv (by rfl) _ rfl _ rfl _ (HM2.out) ?_))
  refine (HF.out _ HT2.out).mono ?_
  rintro e w2 ⟨rfl, k2⟩
  have HK3 := Lib.hid (HK2.out.trans k2)
  have HR3 := Lib.hid (HR2.out.kept k2)
  have HP3 := Lib.hid (HP2.out.kept k2)
  have HM3 := Lib.hid (MAt.kept HM2.out k2)
  have HT3 := Lib.hid (HT2.out.kept k2)
  clear k2
  have hne0 : w.heap.size ≠ w.heap.size + 2 := by omega
  have hne1 : w.heap.size + 1 ≠ w.heap.size + 2 := by omega
  go_wp2
  refine wp_region_held_drew (S := KB (w2) (w.heap.size + 2)) (by kernel_rfl) ((KB.refl _ _).kept (Kept.refl _).drew) (fun hHeld => ?_)
  have hKp := (Kept.refl (w2)).drew
  refine rY 0 18 rfl rfl (take_load_ps (by rfl) _ rfl _ rfl p hpl.out (fun _ h => (HP3.out).kb h (hne0))) hHeld ?_
  simp only [Act.put, sA, sZ, sU]
  refine rY 1 19 rfl rfl (take_load_mv (by rfl) _ rfl _ rfl m (fun _ h => MAt.kb (HM3.out) h (hne1))) hHeld ?_
  simp only [pA, pN, sZ, sU]
  refine rT 3 21 (.pointer (some ⟨w.heap.size, 64, none⟩)) rfl rfl hHeld ?_
  simp only [pA, pN, sZ, sU]
  refine rC 4 22 (.int .i64 p.t) rfl rfl (fun _ h => KB.cell h (hne0) (HP3.out.turn)) hHeld ?_
  simp only [pA, pN, sZ, sU]
  refine rY 6 24 rfl rfl (take_load_ps (by rfl) _ rfl _ rfl p hpl.out (fun _ h => (HP3.out).kb h (hne0))) hHeld ?_
  simp only [pA, pN, sZ, sU]
  refine rY 7 25 rfl rfl (take_load_mv (by rfl) _ rfl _ rfl m (fun _ h => MAt.kb (HM3.out) h (hne1))) hHeld ?_
  simp only [pA, pN, sZ, sU]
  refine rY 9 27 rfl rfl (take_load_ps (by rfl) _ rfl _ rfl p hpl.out (fun _ h => (HP3.out).kb h (hne0))) hHeld ?_
  simp only [pA, pN, sZ, sU]
  refine rY 10 28 rfl rfl (take_load_mv (by rfl) _ rfl _ rfl m (fun _ h => MAt.kb (HM3.out) h (hne1))) hHeld ?_
  simp only [pA, pN, sZ, sU]
  refine rR 2 rfl (fun K hK => ?_)
  go_simp
  refine (HX1.out _ (HT3.out.kept hKp)).mono ?_
  rintro e x1 ⟨rfl, gx1⟩
  refine hK.out _ _ (hHeld.kept gx1) (fun _ => ?_)
  replace hHeld := hHeld.kept gx1
  replace hKp := hKp.trans gx1
  clear hK K
  refine rR 5 rfl (fun K hK => ?_)
  go_simp
  refine (HX2.out _).mono ?_
  rintro e x2 ⟨rfl, gx2⟩
  refine hK.out _ _ (hHeld.kept gx2) (fun _ => ?_)
  replace hHeld := hHeld.kept gx2
  replace hKp := hKp.trans gx2
  clear hK K
  refine rR 8 rfl (fun K hK => ?_)
  go_simp
  refine (HX3.out _ (HT3.out.kept hKp)).mono ?_
  rintro e x3 ⟨rfl, gx3⟩
  refine hK.out _ _ (hHeld.kept gx3) (fun _ => ?_)
  replace hHeld := hHeld.kept gx3
  replace hKp := hKp.trans gx3
  clear hK K
  refine rR 11 rfl (fun K hK => ?_)
  go_simp
  refine (HX4.out _).mono ?_
  rintro e x4 ⟨rfl, gx4⟩
  refine hK.out _ _ (hHeld.kept gx4) (fun _ => ?_)
  replace hHeld := hHeld.kept gx4
  replace hKp := hKp.trans gx4
  clear hK K
  refine rY 12 30 rfl rfl (take_build_p4 (by rfl) _ _ _ _ rfl (behB p m) (otherI p.t) (rtN p.c m 4) (epI p m) hql.out rfl rfl rfl rfl) hHeld ?_
  simp only [pA, pN, sZ, sU]
  refine rR 13 rfl (fun K hK => ?_)
  rw [if_pos (by rfl)]
  have HR4 := Lib.hid (HR3.out.kept hKp)
  refine wp_store_row 26 _ _ rfl (w.heap.size + 2) (pl (behP p m)).toArray rfl rfl 26 _ HR4.out.at_ (size_pl hql.out) (by rw [pl_size Zp_len, pl_size hql.out]) (pl_one _) ?_
  refine hK.out _ _ (KB.row hHeld _) (fun hHeld => ?_)
  clear hK K
  refine rT 14 5 (.int .i64 0) rfl rfl hHeld ?_
  simp only [Act.put, sA, sZ, sU]
  refine wpAnyH_done (by kernel_rfl) ?_ _
  go_wp2
  refine bodyPost_ret (v := .tuple #[.agg (pl (behP p m)).toArray, .int .i64 0]) ?_ rfl ⟨rfl, (HK3.out.trans hKp).setRow (by omega) _⟩
  exact (results_pos_tmp (s := 4) (t := 5) rfl _ rfl (HR4.out.setRow hql.out)).trans rfl
end Go.Proofs.YtkebpchhpidogaaGreatDoor
