/- MvY · GeI: my texts, in their order. -/
import Derived.Test.YtgcippicdhaaeaaGreatDoorPkXNFTA0
import Derived.Test.YtgcippicdhaaeaaGreatDoorPkXNFA0
import Derived.Test.YtgcippicdhaaeaaGreatDoorPkXNFM0
import Derived.Test.YtgcippicdhaaeaaGreatDoorPkXNFT0
import Derived.Test.YtgcippicdhaaeaaGreatDoorPkA
import Derived.Test.YtgcippicdhaaeaaGreatDoorPkB
import Derived.Test.YtgcippicdhaaeaaGreatDoorPkC
import Derived.Test.YtgcippicdhaaeaaGreatDoorPkD
import Derived.Test.YtgcippicdhaaeaaGreatDoorPkE
import Derived.Test.YtgcippicdhaaeaaGreatDoorPkF
import Derived.Test.YtgcippicdhaaeaaGreatDoorPkGa
import Derived.Test.YtgcippicdhaaeaaGreatDoorPkGb
import Derived.Test.YtgcippicdhaaeaaGreatDoorPkGc
import Derived.Test.YtgcippicdhaaeaaGreatDoorPkGd
import Derived.Test.YtgcippicdhaaeaaGreatDoorPkGe
import Derived.Test.YtgcippicdhaaeaaGreatDoorPkGw
import Derived.Test.YtgcippicdhaaeaaGreatDoorPkH
import Derived.Test.YtgcippicdhaaeaaGreatDoorPkI
import Derived.Test.YtgcippicdhaaeaaGreatDoorPkJ
import Derived.Test.YtgcippicdhaaeaaGreatDoorPkK
import Derived.Test.YtgcippicdhaaeaaGreatDoorPkL
import Derived.Test.YtgcippicdhaaeaaGreatDoorPkM
import Derived.Test.YtgcippicdhaaeaaGreatDoorPkU
import Derived.Test.YtgcippicdhaaeaaGreatDoorPkY
import Derived.Deep.Strs
namespace Go.Proofs.YtgcippicdhaaeaaGreatDoor
open Go.ChangeShapes Go.WideShapes Go.ChangeAt Go.RowKit
open Go.Joins Go.Deep
set_option linter.unusedVariables false
set_option linter.unusedSimpArgs false
set_option maxRecDepth 100000

section
variable {H : Type} {enc : TypeId × Value → H}
def dM (H : Type) (m : Mv) : DataW H := .agg [.lit (.int .i64 m.f), .lit (.int .i64 m.t), .lit (.int .i64 m.p)]
structure MvW (m : Mv) : Prop where
  f : (Lit.int .i64 m.f).wf = true
  t : (Lit.int .i64 m.t).wf = true
  p : (Lit.int .i64 m.p).wf = true
theorem cells28 : Tryz.prog.cellsOf 35 = 3 := by kernel_rfl
theorem open_move {W : World} {base : Nat} {r : Reach} {b0 : Nat} {sp : Nat → Bool} {hd : Bool} {v : Value} {d : DataW H} {q : List MemPlace}
    (hv : Value.okWide Tryz.prog W r b0 35 v) (h : DataW.Trod enc Tryz.prog W base sp hd 35 v d q) :
    ∃ m, MvW m ∧ v = .agg (ml m).toArray ∧ d = dM H m ∧ q = [] := by
  obtain ⟨cs, rfl, hsz, _⟩ : ∃ cs, v = .agg cs ∧ cs.size = Tryz.prog.cellsOf 35 ∧ Row.okWide Tryz.prog W r b0 35 cs := by
    simpa [Value.okWide, Tryz.underlying35] using hv
  obtain ⟨l⟩ := cs
  have hl : l.length = 3 := by simpa [cells28] using hsz
  obtain ⟨fuel, hf⟩ := h
  obtain ⟨y0, y1, y2, n, hx, hlen, h0, h1, h2⟩ := trod_struct3 Tryz.underlying35 hf
  rw [cellsInt] at h0 h1 h2
  have hc : (Value.agg ⟨l⟩).cells.toList = l := rfl
  rw [hc] at h0 h1 h2
  obtain ⟨f, e0, rfl, w0⟩ := DataW.trod_int Tryz.underlying3 h0
  obtain ⟨t, e1, rfl, w1⟩ := DataW.trod_int Tryz.underlying3 h1
  obtain ⟨p, e2, rfl, w2⟩ := DataW.trod_int Tryz.underlying3 h2
  refine ⟨⟨f, t, p⟩, ⟨w0, w1, w2⟩, ?_, ?_, ?_⟩
  · match l, hl with
    | [a, b, c], _ =>
      have q0 : a = .int .i64 f := by simpa using e0
      have q1 : b = .int .i64 t := by simpa using e1
      have q2 : c = .int .i64 p := by simpa using e2
      rw [q0, q1, q2]; rfl
  · simp only [Prod.mk.injEq] at hx
    rw [hx.1]; rfl
  · simp only [Prod.mk.injEq] at hx
    rw [hx.2]; rfl
theorem shut_move {W : World} {base : Nat} {sp : Nat → Bool} {hd : Bool} (m : Mv) (h : MvW m) : DataW.Trod enc Tryz.prog W base sp hd 35 (.agg (ml m).toArray) (dM H m) [] := by
  refine ⟨3, ?_⟩
  have hc : (Value.agg (ml m).toArray).cells.toList = ml m := rfl
  rw [hc]
  have := trod_struct3_mk (enc := enc) (w := W) (base := base) (spare := sp) (held := hd) (n := 2) (cs := ml m) (y0 := (.lit (.int .i64 m.f), [])) (y1 := (.lit (.int .i64 m.t), [])) (y2 := (.lit (.int .i64 m.p), []))
    Tryz.underlying35 (by rw [cells28]; rfl) (by rw [cellsInt]; show DataW.trod enc Tryz.prog W base sp hd 2 3 [.int .i64 m.f] = _; exact trod_int_mk h.f)
    (by rw [cellsInt]; show DataW.trod enc Tryz.prog W base sp hd 2 3 [.int .i64 m.t] = _; exact trod_int_mk h.t) (by rw [cellsInt]; show DataW.trod enc Tryz.prog W base sp hd 2 3 [.int .i64 m.p] = _; exact trod_int_mk h.p)
  exact this
end
end Go.Proofs.YtgcippicdhaaeaaGreatDoor
namespace Go.Proofs.YtgcippicdhaaeaaGreatDoor
open Go.RowKit
set_option linter.unusedVariables false
set_option linter.unusedSimpArgs false
set_option maxRecDepth 100000

theorem take_eql_mv {ops : Array Oper} {S : World → Prop} {op : Oper} {ac : Act} {b : Bool} (hw : Region.wanted op (yielded ops ac.tmps) = true) (x y : Operand) (ty : TypeId) (ho : op.op = .binOp .eql 35 x y ty)
    (p q : Mv) (hx : ac.eval x = .agg (ml p).toArray) (hy : ac.eval y = .agg (ml q).toArray) (h : beqM p q = b) : YieldsIf Tryz.prog ops S op (.bool b) ac :=
  .inl ⟨hw, fun w _ => by
    unfold execOp
    simp only [ho, hx, hy, Sem.run_bind, run_eqGuard_agg w _ _ _ _ _ _ eqGuardM, run_eql_mv, Result.andThen_ok, Sem.run_pure, h]⟩
theorem hasM_no {L : List Mv} {m : Mv} (h : ∀ i, i < L.length → L[i]? ≠ some m) : hasM L m = false := by
  rw [Bool.eq_false_iff]
  intro hc
  obtain ⟨i, hi, e⟩ := List.mem_iff_getElem.1 (hasM_iff.1 hc)
  exact h i hi (by rw [List.getElem?_eq_getElem hi, e])
set_option maxHeartbeats 2000000 in
theorem indexM_is (g : Nat) (v : Value) (L : List Mv) (m : Mv) (w : World) (h : LsM w g v L) :
    Calls Tryz.prog 64 #[v, .agg (ml m).toArray] w fun e w' => ∃ i : Int, e = .returned (.int .i64 i) ∧ decide (0 ≤ i) = hasM L m ∧ Kept w w' := by
  have HM := Lib.hid (MAt.new w m)
  have HK0 := Lib.hid ((Kept.refl w).alloc (.cells (ml m).toArray 35))
  by_cases hl : 0 < L.length
  · obtain ⟨off, cap, rfl, h1, h2, h3⟩ := h.full hl
    have H3 := Lib.hid (range_kept h3 HK0.out)
    generalize hn : L.length = n at *
    have HN := Lib.hid hn
    have hm : n ≤ maxLen := by omega
    unfold maxLen at hm
    clear h h3 hn h2
    go_enter Tryz.func64, Tryz.ntmps64
    go_wp2
    go_loopw [8] (fun t8 wr => ∃ k : Nat, k ≤ n ∧ t8 = .int .i64 k ∧ (∀ j, j < k → L[j]? ≠ some m) ∧ Kept (w.alloc (.cells (ml m).toArray 35)) wr) (fun t8 _ => n - (intOf t8).toNat)
    case atStart => exact ⟨0, Nat.zero_le _, rfl, fun j hj => by omega, Kept.refl _⟩
    case round =>
      obtain ⟨k, hk, rfl, hno, hK⟩ := hrel
      have HO := Lib.hid hno
      have HK := Lib.hid hK
      have HMr := Lib.hid (MAt.kept HM.out hK)
      clear hno
      by_cases hlt : k < n
      · have hlt' : (k : Int) < (n : Int) := by omega
        obtain ⟨x, hx⟩ : ∃ x, L[k]? = some x := ⟨_, List.getElem?_eq_getElem (by have := HN.out; omega)⟩
        have HR := Lib.hid (range_i (range_kept H3.out hK) hx)
        have HX := Lib.hid hx
        clear hx hK
        cases hb : beqM m x
        · have Hne : Hid (x ≠ m) := fun e => by rw [e, beqM_refl] at hb; cases hb
          have Hb := Lib.hid hb
          clear hb
          go_wp2
          refine wp_region_held_drew (S := Kept _) (by kernel_rfl) (Kept.refl _).drew (fun hHeld => ?_)
          refine rg_take (i := 0) (some 11) rfl rfl (by kernel_rfl) (by kernel_rfl) (by kernel_rfl) (fun _ _ _ h => h) (take_load_mv (by rfl) _ rfl _ rfl m (fun _ h => MAt.kept (HMr.out) h)) hHeld ?_
          simp only [Act.put, List.setIfInBounds_toArray, List.set_cons_zero, List.set_cons_succ]
          refine rg_take (i := 1) (v := (.slice (some ⟨g, off, none⟩) n cap)) (some 12) rfl rfl (by kernel_rfl) (by kernel_rfl) (by kernel_rfl) (fun _ _ _ h => h) (Or.inl ⟨by rfl, fun _ _ => by go_simp⟩) hHeld ?_
          simp only [Act.put, List.setIfInBounds_toArray, List.set_cons_zero, List.set_cons_succ]
          refine rg_take (i := 2) (v := (.int .i64 (k : Int))) (some 13) rfl rfl (by kernel_rfl) (by kernel_rfl) (by kernel_rfl) (fun _ _ _ h => h) (Or.inl ⟨by rfl, fun _ _ => by go_simp⟩) hHeld ?_
          simp only [Act.put, List.setIfInBounds_toArray, List.set_cons_zero, List.set_cons_succ]
          refine rg_take (i := 3) (v := (.pointer (some ⟨g, off + k * 3, none⟩))) (some 14) rfl rfl (by kernel_rfl) (by kernel_rfl) (by kernel_rfl) (fun _ _ _ h => h) (Or.inl ⟨by rfl, fun _ _ => by go_simp⟩) hHeld ?_
          simp only [Act.put, List.setIfInBounds_toArray, List.set_cons_zero, List.set_cons_succ]
          refine rg_take (i := 4) (some 15) rfl rfl (by kernel_rfl) (by kernel_rfl) (by kernel_rfl) (fun _ _ _ h => h) (take_load_mvi (by rfl) _ rfl g (off + k * 3) rfl x (fun _ h => range_kept (HR.out) h)) hHeld ?_
          simp only [Act.put, List.setIfInBounds_toArray, List.set_cons_zero, List.set_cons_succ]
          refine rg_take (i := 5) (some 16) rfl rfl (by kernel_rfl) (by kernel_rfl) (by kernel_rfl) (fun _ _ _ h => h) (take_eql_mv (by rfl) _ _ _ rfl m x rfl rfl (Hb.out)) hHeld ?_
          simp only [Act.put, List.setIfInBounds_toArray, List.set_cons_zero, List.set_cons_succ]
          refine wpAnyH_done (by kernel_rfl) ?_ _
          have HK2 := Lib.hid (HK.out.trans hHeld)
          clear hHeld
          go_wp2
          go_roundw
          case rel => exact ⟨k + 1, by omega, by go_num, fun j hj => by
            by_cases hji : j < k
            · exact HO.out j hji
            · obtain rfl : j = k := by omega
              rw [HX.out]
              exact fun e => Hne.out (Option.some.inj e), HK2.out⟩
          case measure => simp [intOf]; omega
        · have Hy : Hid (hasM L m = true) := by show _ = _; rw [hasM_iff, (beqM_iff m x).1 hb]; exact List.mem_of_getElem? HX.out
          have Hb := Lib.hid hb
          clear hb
          go_wp2
          refine wp_region_held_drew (S := Kept _) (by kernel_rfl) (Kept.refl _).drew (fun hHeld => ?_)
          refine rg_take (i := 0) (some 11) rfl rfl (by kernel_rfl) (by kernel_rfl) (by kernel_rfl) (fun _ _ _ h => h) (take_load_mv (by rfl) _ rfl _ rfl m (fun _ h => MAt.kept (HMr.out) h)) hHeld ?_
          simp only [Act.put, List.setIfInBounds_toArray, List.set_cons_zero, List.set_cons_succ]
          refine rg_take (i := 1) (v := (.slice (some ⟨g, off, none⟩) n cap)) (some 12) rfl rfl (by kernel_rfl) (by kernel_rfl) (by kernel_rfl) (fun _ _ _ h => h) (Or.inl ⟨by rfl, fun _ _ => by go_simp⟩) hHeld ?_
          simp only [Act.put, List.setIfInBounds_toArray, List.set_cons_zero, List.set_cons_succ]
          refine rg_take (i := 2) (v := (.int .i64 (k : Int))) (some 13) rfl rfl (by kernel_rfl) (by kernel_rfl) (by kernel_rfl) (fun _ _ _ h => h) (Or.inl ⟨by rfl, fun _ _ => by go_simp⟩) hHeld ?_
          simp only [Act.put, List.setIfInBounds_toArray, List.set_cons_zero, List.set_cons_succ]
          refine rg_take (i := 3) (v := (.pointer (some ⟨g, off + k * 3, none⟩))) (some 14) rfl rfl (by kernel_rfl) (by kernel_rfl) (by kernel_rfl) (fun _ _ _ h => h) (Or.inl ⟨by rfl, fun _ _ => by go_simp⟩) hHeld ?_
          simp only [Act.put, List.setIfInBounds_toArray, List.set_cons_zero, List.set_cons_succ]
          refine rg_take (i := 4) (some 15) rfl rfl (by kernel_rfl) (by kernel_rfl) (by kernel_rfl) (fun _ _ _ h => h) (take_load_mvi (by rfl) _ rfl g (off + k * 3) rfl x (fun _ h => range_kept (HR.out) h)) hHeld ?_
          simp only [Act.put, List.setIfInBounds_toArray, List.set_cons_zero, List.set_cons_succ]
          refine rg_take (i := 5) (some 16) rfl rfl (by kernel_rfl) (by kernel_rfl) (by kernel_rfl) (fun _ _ _ h => h) (take_eql_mv (by rfl) _ _ _ rfl m x rfl rfl (Hb.out)) hHeld ?_
          simp only [Act.put, List.setIfInBounds_toArray, List.set_cons_zero, List.set_cons_succ]
          refine wpAnyH_done (by kernel_rfl) ?_ _
          have HK2 := Lib.hid (HK.out.trans hHeld)
          clear hHeld
          go_wp2
          go_ret
          exact ⟨(k : Int), rfl, by rw [Hy.out]; simp, HK0.out.trans HK2.out⟩
      · have Hn := Lib.hid (hasM_no (L := L) (m := m) (fun j hj => HO.out j (by have := HN.out; omega)))
        clear hK
        go_wp2
        go_ret
        exact ⟨-1, rfl, by rw [Hn.out]; decide, HK0.out.trans HK.out⟩
  · have h0 : L = [] := List.eq_nil_of_length_eq_zero (by omega)
    subst h0
    obtain ⟨a1, c1, rfl⟩ := h.slice
    go_enter Tryz.func64, Tryz.ntmps64
    go_wp2
    go_loopw [8] (fun t8 wr => t8 = .int .i64 0 ∧ wr = w.alloc (.cells (ml m).toArray 35)) (fun _ _ => 0)
    case atStart => exact ⟨rfl, rfl⟩
    case round =>
      obtain ⟨rfl, rfl⟩ := hrel
      go_wp2
      go_ret
      exact ⟨-1, rfl, by rfl, HK0.out⟩
theorem contains_m (g : Nat) (v : Value) (L : List Mv) (m : Mv) (w : World) (h : LsM w g v L) :
    Calls Tryz.prog 30 #[v, .agg (ml m).toArray] w fun e w' => e = .returned (.bool (hasM L m)) ∧ Kept w w' := by
  have HM := Lib.hid (MAt.new w m)
  have HK0 := Lib.hid ((Kept.refl w).alloc (.cells (ml m).toArray 35))
  have HI := Lib.hid (indexM_is g v L m _ (h.kept HK0.out))
  clear h
  go_enter Tryz.func30, Tryz.ntmps30
  go_wp2_with (refine wpList_load_mv (by rfl) _ rfl _ rfl _ HM.out ?_)
  refine HI.out.mono ?_
  rintro e w1 ⟨i, rfl, hi, k1⟩
  have HD := Lib.hid hi
  have HK1 := Lib.hid (HK0.out.trans k1)
  clear hi k1
  go_wp2
  go_ret
  exact ⟨by rw [← HD.out]; rfl, HK1.out⟩
end Go.Proofs.YtgcippicdhaaeaaGreatDoor
