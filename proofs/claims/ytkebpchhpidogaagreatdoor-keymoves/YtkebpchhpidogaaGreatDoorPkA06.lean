/- The contracts of the small functions of keys: a number turned about; what a man, a side, a right, a square behind a pawn adds · The contracts of keys: rights; a position's key; what it becomes; the document's · A store into a list of cells, as a list · The contracts of keys: what a key becomes by what is unlike; the document's key. -/
import Derived.Test.YtkebpchhpidogaaGreatDoorPkA01
import Derived.Test.YtkebpchhpidogaaGreatDoorPkA05
import Derived.Deep.Cut
namespace Go.Proofs.YtkebpchhpidogaaGreatDoor
open Go.RowKit
set_option linter.unusedVariables false
set_option linter.unusedSimpArgs false

theorem kmix_is (n : Int) (hn : U n) (w : World) : Calls Tryz.prog 12 #[.int .u64 n] w fun e w' => e = .returned (.int .u64 (mixI n)) ∧ w = w' := by
  go_enter Tryz.func12, Tryz.ntmps12
  go_wp2
  go_ret
  exact ⟨rfl, rfl⟩
theorem tdiv_u {a : Int} (h : U a) (k : Nat) (hk : 0 < k) : IntKind.u64.wrap (a.tdiv (k : Int)) = a / (k : Int) := by
  rw [Int.tdiv_eq_ediv_of_nonneg h.1]
  refine U.wrap ⟨Int.ediv_nonneg h.1 (by omega), Int.lt_of_le_of_lt ?_ h.2⟩
  exact Int.ediv_le_self _ h.1
theorem rmix_is (n : Int) (hn : U n) (w : World) : Calls Tryz.prog 26 #[.int .u64 n] w fun e w' => e = .returned (.int .u64 (mixI n)) ∧ w = w' := by
  have e1 := mxa_ref n
  have u1 := mxa_u n
  have d1 : IntKind.u64.wrap ((mxa n).tdiv 1073741824) = mxa n / 1073741824 := tdiv_u u1 1073741824 (by omega)
  have e2 : IntKind.u64.wrap (xr (mxa n) (mxa n / 1073741824) * 13787848793156543929) = mxb (mxa n) := rfl
  have u2 := mxb_u (mxa n)
  have d2 : IntKind.u64.wrap ((mxb (mxa n)).tdiv 134217728) = mxb (mxa n) / 134217728 := tdiv_u u2 134217728 (by omega)
  have e3 : IntKind.u64.wrap (xr (mxb (mxa n)) (mxb (mxa n) / 134217728) * 10723151780598845931) = mxc (mxb (mxa n)) := rfl
  have u3 := mxc_u (mxb (mxa n))
  have d3 : IntKind.u64.wrap ((mxc (mxb (mxa n))).tdiv 2147483648) = mxc (mxb (mxa n)) / 2147483648 := tdiv_u u3 2147483648 (by omega)
  have e4 : xr (mxc (mxb (mxa n))) (mxc (mxb (mxa n)) / 2147483648) = mixI n := rfl
  clear u1 u2 u3
  go_enter Tryz.func26, Tryz.ntmps26
  go_wp2
  go_ret
  exact ⟨rfl, rfl⟩
/-- Two whole numbers, added round. -/
theorem kmixed_is (a b : Int) (w : World) : Calls Tryz.prog 28 #[.int .i64 a, .int .i64 b] w fun e w' => e = .returned (.int .u64 (mixI (IntKind.u64.wrap (a + b)))) ∧ w = w' := by
  have e1 : IntKind.u64.wrap (IntKind.u64.wrap a + IntKind.u64.wrap b) = IntKind.u64.wrap (a + b) := by simp only [IntKind.wrap_u64]; omega
  have HM := Lib.hid (kmix_is (IntKind.u64.wrap (a + b)) (wrap_u _))
  go_enter Tryz.func28, Tryz.ntmps28
  go_wp2_with fail
  refine (HM.out _).mono ?_
  rintro e w1 ⟨rfl, rfl⟩
  go_wp2
  go_ret
  exact ⟨rfl, rfl⟩
theorem kman_is (s : Nat) (hs : s < 64) (m : Int) (h1 : -128 ≤ m) (h2 : m ≤ 127) (w : World) : Calls Tryz.prog 16 #[.int .i64 s, .int .i8 m] w fun e w' => e = .returned (.int .u64 (manK s m)) ∧ w = w' := by
  by_cases h : m = 0
  · subst h
    go_enter Tryz.func16, Tryz.ntmps16
    go_wp2
    go_ret
    exact ⟨rfl, rfl⟩
  · have hb : (m == 0) = false := beq_eq_false_iff_ne.2 h
    have e1 : manK s m = mixI (IntKind.u64.wrap (16 * (s : Int) + 8 + m)) := by unfold manK; rw [if_neg h]
    have HM := Lib.hid (kmixed_is (16 * (s : Int) + 8) m)
    rw [← e1] at HM
    have E := Lib.hid e1
    clear e1
    generalize manK s m = r at *
    go_enter Tryz.func16, Tryz.ntmps16
    go_wp2_with fail
    refine (HM.out _).mono ?_
    rintro e w1 ⟨rfl, rfl⟩
    go_wp2
    go_ret
    exact ⟨rfl, rfl⟩
theorem kside_is (t : Int) (w : World) : Calls Tryz.prog 13 #[.int .i64 t] w fun e w' => e = .returned (.int .u64 (sideK t)) ∧ w = w' := by
  by_cases h : t = 1
  · subst h
    have HM := Lib.hid (kmix_is 1024 ⟨by decide, by decide⟩)
    rw [show sideK 1 = mixI 1024 from rfl]
    generalize mixI 1024 = r at *
    go_enter Tryz.func13, Tryz.ntmps13
    go_wp2_with fail
    refine (HM.out _).mono ?_
    rintro e w1 ⟨rfl, rfl⟩
    go_wp2
    go_ret
    exact ⟨rfl, rfl⟩
  · have hb : (t == 1) = false := beq_eq_false_iff_ne.2 h
    rw [show sideK t = 0 by unfold sideK; rw [if_neg h]]
    go_enter Tryz.func13, Tryz.ntmps13
    go_wp2
    go_ret
    exact ⟨rfl, rfl⟩
theorem kpassed_is (t : Int) (w : World) : Calls Tryz.prog 15 #[.int .i64 t] w fun e w' => e = .returned (.int .u64 (pasK t)) ∧ w = w' := by
  by_cases h : t < 0
  · have hb : decide (t < 0) = true := decide_eq_true h
    rw [show pasK t = 0 by unfold pasK; rw [if_pos h]]
    go_enter Tryz.func15, Tryz.ntmps15
    go_wp2
    go_ret
    exact ⟨rfl, rfl⟩
  · have hb : decide (t < 0) = false := decide_eq_false h
    have HM := Lib.hid (kmixed_is 1056 t)
    rw [show pasK t = mixI (IntKind.u64.wrap (1056 + t)) by unfold pasK; rw [if_neg h]]
    generalize mixI (IntKind.u64.wrap (1056 + t)) = r at *
    go_enter Tryz.func15, Tryz.ntmps15
    go_wp2_with fail
    refine (HM.out _).mono ?_
    rintro e w1 ⟨rfl, rfl⟩
    go_wp2
    go_ret
    exact ⟨rfl, rfl⟩
end Go.Proofs.YtkebpchhpidogaaGreatDoor
namespace Go.Proofs.YtkebpchhpidogaaGreatDoor
open Go.RowKit
set_option linter.unusedVariables false
set_option linter.unusedSimpArgs false

theorem calls_kept {P : Program} {f : FuncId} {args : Array Value} {w : World} {v : Ending} (h : Calls P f args w fun e w' => e = v ∧ w = w') : Calls P f args w fun e w' => e = v ∧ Kept w w' :=
  h.mono fun _ _ ⟨a, b⟩ => ⟨a, b ▸ Kept.refl _⟩
theorem pow_4 {n : Nat} (h : n < 4) : 1 ≤ ((2 ^ n : Nat) : Int) ∧ ((2 ^ n : Nat) : Int) ≤ 8 := by
  have : n = 0 ∨ n = 1 ∨ n = 2 ∨ n = 3 := by omega
  rcases this with rfl | rfl | rfl | rfl <;> decide
theorem krights_is (c : Int) (w : World) : Calls Tryz.prog 14 #[.int .i64 c] w fun e w' => e = .returned (.int .u64 (rgsK c)) ∧ w = w' := by
  go_enter Tryz.func14, Tryz.ntmps14
  go_wp2
  go_loopw [3, 4] (fun t3 t4 wr => ∃ n : Nat, n ≤ 4 ∧ t3 = .int .u64 (rgtN c n) ∧ t4 = .int .i64 ((2 ^ n : Nat) : Int) ∧ w = wr) (fun _ t4 _ => (16 - intOf t4).toNat)
  case atStart => exact ⟨0, by omega, rfl, rfl, rfl⟩
  case round =>
    obtain ⟨n, hn, rfl, rfl, rfl⟩ := hrel
    by_cases hlt : n < 4
    · obtain ⟨r1, r8⟩ := pow_4 hlt
      have HS : Hid (((2 ^ (n + 1) : Nat) : Int) = ((2 ^ n : Nat) : Int) * 2) := by show ((2 ^ (n + 1) : Nat) : Int) = _; rw [Nat.pow_succ]; omega
      have HU := Lib.hid (rgtN_u c n)
      have HN : Hid (rgtN c (n + 1) = xr (rgtN c n) (rgtK c (2 ^ n : Nat))) := by show _ = _; rfl
      generalize rgtN c n = k at *
      generalize ((2 ^ n : Nat) : Int) = r at *
      by_cases hb : bits .and .i64 c r = 0
      · have hb' : (bits .and .i64 c r == 0) = true := by rw [hb]; rfl
        have HE : Hid (rgtN c (n + 1) = k) := by show _ = _; rw [HN.out]; unfold rgtK; rw [if_pos hb, xr_zero HU.out]
        clear hb HN
        go_wp2
        go_roundw
        case rel => exact ⟨n + 1, by omega, by rw [HE.out], by rw [HS.out], trivial⟩
        case measure => simp [intOf]; omega
      · have hb' : (bits .and .i64 c r == 0) = false := beq_eq_false_iff_ne.2 hb
        have HM := Lib.hid (kmixed_is 1032 r)
        have HE : Hid (rgtN c (n + 1) = xr k (mixI (IntKind.u64.wrap (1032 + r)))) := by show _ = _; rw [HN.out]; unfold rgtK; rw [if_neg hb, U.wrap ⟨by omega, by omega⟩]
        generalize mixI (IntKind.u64.wrap (1032 + r)) = q at *
        clear hb HN
        go_wp2_with fail
        refine (HM.out _).mono ?_
        rintro e w1 ⟨rfl, rfl⟩
        go_wp2
        go_roundw
        case rel => exact ⟨n + 1, by omega, by rw [HE.out], by rw [HS.out], trivial⟩
        case measure => simp [intOf]; omega
    · obtain rfl : n = 4 := by omega
      go_wp2
      go_ret
      exact ⟨rfl, rfl⟩
set_option maxHeartbeats 1000000 in
theorem kof_is (p : Ps) (hB : Brd p.B) (w : World) : Calls Tryz.prog 5 #[.agg (pl p).toArray] w fun e w' => e = .returned (.int .u64 (keyP p)) ∧ Kept w w' := by
  have HP := Lib.hid (PAt.new w hB.1)
  have HK0 := Lib.hid ((Kept.refl w).alloc (.cells (pl p).toArray 26))
  have hpl : Hid (p.B.length = 64) := hB.1
  have HC1 := Lib.hid (fun w => calls_kept (kside_is p.t w))
  have HC2 := Lib.hid (fun w => calls_kept (krights_is p.c w))
  have HC3 := Lib.hid (fun w => calls_kept (kpassed_is p.e w))
  have HMn := Lib.hid (fun i (hi : i < 64) w => kman_is i hi (p.B.getD i 0) (hB.2 i hi).1 (hB.2 i hi).2 w)
  have HBs : Hid (baseK p = xr (xr (sideK p.t) (rgsK p.c)) (pasK p.e)) := by show _ = _; rfl
  have HE : Hid (keyP p = xr (baseK p) (menN p.B 64)) := by show _ = _; rfl
  have HSt : Hid (∀ i, xr (xr (baseK p) (menN p.B i)) (manK i (p.B.getD i 0)) = xr (baseK p) (menN p.B (i + 1))) := fun i => xr_assoc _ _ _
  have H0 : Hid (xr (baseK p) (menN p.B 0) = baseK p) := xr_zero (base_u p)
  generalize sideK p.t = a1 at *
  generalize rgsK p.c = a2 at *
  generalize pasK p.e = a3 at *
  generalize baseK p = b at *
  clear hB
  go_enter Tryz.func5, Tryz.ntmps5
  go_wp2
  refine wp_region_held_drew (S := Kept _) (by kernel_rfl) (Kept.refl _).drew (fun hHeld => ?_)
  refine rT 0 6 (.pointer (some ⟨w.heap.size, 64, none⟩)) rfl rfl hHeld ?_
  simp only [pA, pN, sZ, sU]
  refine rC 1 7 (.int .i64 p.t) rfl rfl (fun _ h => kept_cell h (HP.out.turn)) hHeld ?_
  simp only [pA, pN, sZ, sU]
  refine rT 3 9 (.pointer (some ⟨w.heap.size, 65, none⟩)) rfl rfl hHeld ?_
  simp only [pA, pN, sZ, sU]
  refine rC 4 10 (.int .i64 p.c) rfl rfl (fun _ h => kept_cell h (HP.out.cas)) hHeld ?_
  simp only [pA, pN, sZ, sU]
  refine rT 7 13 (.pointer (some ⟨w.heap.size, 66, none⟩)) rfl rfl hHeld ?_
  simp only [pA, pN, sZ, sU]
  refine rC 8 14 (.int .i64 p.e) rfl rfl (fun _ h => kept_cell h (HP.out.ep)) hHeld ?_
  simp only [pA, pN, sZ, sU]
  refine rR 2 rfl (fun K hK => ?_)
  go_simp
  refine (HC1.out _).mono ?_
  rintro e x1 ⟨rfl, gx1⟩
  refine hK.out _ _ (hHeld.trans gx1) (fun _ => ?_)
  replace hHeld := hHeld.trans gx1
  clear hK K
  refine rR 5 rfl (fun K hK => ?_)
  go_simp
  refine (HC2.out _).mono ?_
  rintro e x2 ⟨rfl, gx2⟩
  refine hK.out _ _ (hHeld.trans gx2) (fun _ => ?_)
  replace hHeld := hHeld.trans gx2
  clear hK K
  refine rT 6 12 (.int .u64 (xr a1 a2)) rfl rfl hHeld ?_
  simp only [pA, pN, sZ, sU]
  refine rR 9 rfl (fun K hK => ?_)
  go_simp
  refine (HC3.out _).mono ?_
  rintro e x3 ⟨rfl, gx3⟩
  refine hK.out _ _ (hHeld.trans gx3) (fun _ => ?_)
  replace hHeld := hHeld.trans gx3
  clear hK K
  refine rT 10 16 (.int .u64 (xr (xr a1 a2) a3)) rfl rfl hHeld ?_
  simp only [pA, pN, sZ, sU]
  refine rT 11 3 (.int .u64 (xr (xr a1 a2) a3)) rfl rfl hHeld ?_
  simp only [pA, pN, sZ, sU]
  refine wpAnyH_done (by kernel_rfl) ?_ _
  rw [← HBs.out]
  have HKX := Lib.hid (HK0.out.trans hHeld)
  have HPX := Lib.hid (HP.out.kept hHeld)
  clear hHeld gx1 gx2 gx3
  go_wp2_with (refine wpList_load_pb (by rfl) _ rfl _ rfl _ HPX.out ?_)
  go_loopw [3, 19] (fun t3 t19 wr => ∃ i : Nat, i ≤ 64 ∧ t19 = .int .i64 i ∧ t3 = .int .u64 (xr b (menN p.B i)) ∧ x3 = wr) (fun _ t19 _ => 64 - (intOf t19).toNat)
  case atStart => exact ⟨0, by omega, rfl, by rw [H0.out], rfl⟩
  case round =>
    obtain ⟨i, hi, rfl, rfl, rfl⟩ := hrel
    by_cases hi : i < 64
    · have hiI : (i : Int) < 64 := by omega
      have hxi := run_index_cl p.B hpl.out i hi
      have HMi := Lib.hid (HMn.out i hi)
      have HSi := Lib.hid (HSt.out i)
      generalize xr b (menN p.B i) = y at *
      generalize manK i (p.B.getD i 0) = u at *
      generalize p.B.getD i 0 = m at *
      go_wp2_with fail
      refine (HMi.out _).mono ?_
      rintro e w1 ⟨rfl, rfl⟩
      go_wp2
      go_roundw
      case rel => exact ⟨i + 1, by omega, by go_num, congrArg (Value.int .u64) HSi.out, trivial⟩
      case measure => simp [intOf]; omega
    · obtain rfl : i = 64 := by omega
      rw [← HE.out]
      go_wp2
      go_ret
      exact ⟨rfl, HKX.out⟩
end Go.Proofs.YtkebpchhpidogaaGreatDoor
namespace Go.Proofs.YtkebpchhpidogaaGreatDoor
theorem sA (l : List Value) (i : Nat) (v : Value) : l.toArray.setIfInBounds i v = (l.set i v).toArray := by simp
end Go.Proofs.YtkebpchhpidogaaGreatDoor
namespace Go.Proofs.YtkebpchhpidogaaGreatDoor
open Go.RowKit
set_option linter.unusedVariables false
set_option linter.unusedSimpArgs false

set_option maxHeartbeats 2000000 in
theorem kbehind_is (k : Int) (hk : U k) (p q : Ps) (hB : Brd p.B) (hQ : Brd q.B) (w : World) :
    Calls Tryz.prog 9 #[.int .u64 k, .agg (pl p).toArray, .agg (pl q).toArray] w fun e w' => e = .returned (.int .u64 (behK k p q)) ∧ Kept w w' := by
  have HP : Hid (PAt _ _ p) := ⟨hB.1, heap_alloc2_old w (.cells (pl p).toArray 26) (.cells (pl q).toArray 26)⟩
  have HQ : Hid (PAt _ _ q) := ⟨hQ.1, heap_alloc2_new w (.cells (pl p).toArray 26) (.cells (pl q).toArray 26)⟩
  have HK0 := Lib.hid (((Kept.refl w).alloc (.cells (pl p).toArray 26)).alloc (.cells (pl q).toArray 26))
  have hpl : Hid (p.B.length = 64) := hB.1
  have HC1 := Lib.hid (fun w => calls_kept (kside_is p.t w))
  have HC2 := Lib.hid (fun w => calls_kept (kside_is q.t w))
  have HC3 := Lib.hid (fun w => calls_kept (kpassed_is p.e w))
  have HC4 := Lib.hid (fun w => calls_kept (kpassed_is q.e w))
  have HR := Lib.hid (krights_is (bits .xor .i64 p.c q.c))
  have HMp := Lib.hid (fun i (hi : i < 64) w => kman_is i hi (p.B.getD i 0) (hB.2 i hi).1 (hB.2 i hi).2 w)
  have HMq := Lib.hid (fun i (hi : i < 64) w => kman_is i hi (q.B.getD i 0) (hQ.2 i hi).1 (hQ.2 i hi).2 w)
  have HE : Hid (behK k p q = xr (xr (xr (xr (xr (xr k (difN p q 64)) (rgsK (bits .xor .i64 p.c q.c))) (sideK p.t)) (sideK q.t)) (pasK p.e)) (pasK q.e)) := by show _ = _; rfl
  have HSt := Lib.hid (fun i => difN_step p q i k)
  have HSm := Lib.hid (fun i (h : p.B.getD i 0 = q.B.getD i 0) => difN_same h k)
  have H0 : Hid (xr k (difN p q 0) = k) := by show _ = _; rw [show difN p q 0 = 0 from xr_self 0, xr_zero hk]
  generalize sideK p.t = a1 at *
  generalize sideK q.t = a2 at *
  generalize pasK p.e = a3 at *
  generalize pasK q.e = a4 at *
  generalize behK k p q = z at *
  clear hB hQ hk
  go_enter Tryz.func9, Tryz.ntmps9
  go_wp2_with (refine wpList_load_pb (by rfl) _ rfl _ rfl _ HP.out ?_)
  generalize (w.alloc (.cells (pl p).toArray 26)).alloc (.cells (pl q).toArray 26) = X at *
  go_loopw [0, 12] (fun t0 t12 wr => ∃ i : Nat, i ≤ 64 ∧ t12 = .int .i64 i ∧ t0 = .int .u64 (xr k (difN p q i)) ∧ X = wr) (fun _ t12 _ => 64 - (intOf t12).toNat)
  case atStart => exact ⟨0, by omega, rfl, by rw [H0.out], rfl⟩
  case round =>
    obtain ⟨i, hi, rfl, rfl, rfl⟩ := hrel
    by_cases hi : i < 64
    · have hiI : (i : Int) < 64 := by omega
      have hxi := run_index_cl p.B hpl.out i hi
      have hq := HQ.out.sq i hi
      have HMi := Lib.hid (HMp.out i hi)
      have HNi := Lib.hid (HMq.out i hi)
      have HSi := Lib.hid (HSt.out i)
      by_cases hm : p.B.getD i 0 = q.B.getD i 0
      · have HSs := Lib.hid (HSm.out i hm)
        rw [← hm] at hq
        clear hm HMi HNi HSi
        generalize p.B.getD i 0 = m at *
        go_wp2
        go_roundw
        case rel => exact ⟨i + 1, by omega, by go_num, congrArg (Value.int .u64) HSs.out, trivial⟩
        case measure => simp [intOf]; omega
      · have hb : (p.B.getD i 0 == q.B.getD i 0) = false := beq_eq_false_iff_ne.2 hm
        clear hm
        generalize manK i (p.B.getD i 0) = u at *
        generalize manK i (q.B.getD i 0) = v at *
        generalize p.B.getD i 0 = m at *
        generalize q.B.getD i 0 = n at *
        generalize xr k (difN p q i) = y at *
        go_wp2_with fail
        refine (HMi.out _).mono ?_
        rintro e w1 ⟨rfl, rfl⟩
        go_wp2_with fail
        refine (HNi.out _).mono ?_
        rintro e w1 ⟨rfl, rfl⟩
        go_wp2
        go_roundw
        case rel => exact ⟨i + 1, by omega, by go_num, congrArg (Value.int .u64) HSi.out, trivial⟩
        case measure => simp [intOf]; omega
    · obtain rfl : i = 64 := by omega
      have c1 := HP.out.cas
      have c2 := HQ.out.cas
      generalize rgsK (bits .xor .i64 p.c q.c) = r at *
      generalize xr k (difN p q 64) = y at *
      go_wp2_with fail
      refine (HR.out _).mono ?_
      rintro e w1 ⟨rfl, rfl⟩
      clear c1 c2
      go_wp2
      refine wp_region_held_drew (S := Kept _) (by kernel_rfl) (Kept.refl _).drew (fun hHeld => ?_)
      refine rT 0 41 (.int .u64 (xr y r)) rfl rfl hHeld ?_
      simp only [Act.put, sA, sZ, sU]
      refine rT 1 42 (.pointer (some ⟨w.heap.size, 64, none⟩)) rfl rfl hHeld ?_
      simp only [pA, pN, sZ, sU]
      refine rC 2 43 (.int .i64 p.t) rfl rfl (fun _ h => kept_cell h (HP.out.turn)) hHeld ?_
      simp only [pA, pN, sZ, sU]
      refine rT 5 46 (.pointer (some ⟨w.heap.size + 1, 64, none⟩)) rfl rfl hHeld ?_
      simp only [pA, pN, sZ, sU]
      refine rC 6 47 (.int .i64 q.t) rfl rfl (fun _ h => kept_cell h (HQ.out.turn)) hHeld ?_
      simp only [pA, pN, sZ, sU]
      refine rT 9 50 (.pointer (some ⟨w.heap.size, 66, none⟩)) rfl rfl hHeld ?_
      simp only [pA, pN, sZ, sU]
      refine rC 10 51 (.int .i64 p.e) rfl rfl (fun _ h => kept_cell h (HP.out.ep)) hHeld ?_
      simp only [pA, pN, sZ, sU]
      refine rT 13 54 (.pointer (some ⟨w.heap.size + 1, 66, none⟩)) rfl rfl hHeld ?_
      simp only [pA, pN, sZ, sU]
      refine rC 14 55 (.int .i64 q.e) rfl rfl (fun _ h => kept_cell h (HQ.out.ep)) hHeld ?_
      simp only [pA, pN, sZ, sU]
      refine rR 3 rfl (fun K hK => ?_)
      go_simp
      refine (HC1.out _).mono ?_
      rintro e x1 ⟨rfl, gx1⟩
      refine hK.out _ _ (hHeld.trans gx1) (fun _ => ?_)
      replace hHeld := hHeld.trans gx1
      clear hK K
      refine rT 4 45 (.int .u64 (xr (xr y r) a1)) rfl rfl hHeld ?_
      simp only [pA, pN, sZ, sU]
      refine rR 7 rfl (fun K hK => ?_)
      go_simp
      refine (HC2.out _).mono ?_
      rintro e x2 ⟨rfl, gx2⟩
      refine hK.out _ _ (hHeld.trans gx2) (fun _ => ?_)
      replace hHeld := hHeld.trans gx2
      clear hK K
      refine rT 8 49 (.int .u64 (xr (xr (xr y r) a1) a2)) rfl rfl hHeld ?_
      simp only [pA, pN, sZ, sU]
      refine rR 11 rfl (fun K hK => ?_)
      go_simp
      refine (HC3.out _).mono ?_
      rintro e x3 ⟨rfl, gx3⟩
      refine hK.out _ _ (hHeld.trans gx3) (fun _ => ?_)
      replace hHeld := hHeld.trans gx3
      clear hK K
      refine rT 12 53 (.int .u64 (xr (xr (xr (xr y r) a1) a2) a3)) rfl rfl hHeld ?_
      simp only [pA, pN, sZ, sU]
      refine rR 15 rfl (fun K hK => ?_)
      go_simp
      refine (HC4.out _).mono ?_
      rintro e x4 ⟨rfl, gx4⟩
      refine hK.out _ _ (hHeld.trans gx4) (fun _ => ?_)
      replace hHeld := hHeld.trans gx4
      clear hK K
      refine rT 16 57 (.int .u64 (xr (xr (xr (xr (xr y r) a1) a2) a3) a4)) rfl rfl hHeld ?_
      simp only [pA, pN, sZ, sU]
      refine rT 17 6 (.int .u64 (xr (xr (xr (xr (xr y r) a1) a2) a3) a4)) rfl rfl hHeld ?_
      simp only [pA, pN, sZ, sU]
      refine wpAnyH_done (by kernel_rfl) ?_ _
      go_wp2
      go_ret
      exact ⟨congrArg (fun x => Ending.returned (Value.int .u64 x)) HE.out.symm, HK0.out.trans hHeld⟩
set_option maxHeartbeats 2000000 in
theorem krof_is (p : Ps) (hB : Brd p.B) (w : World) : Calls Tryz.prog 10 #[.agg (pl p).toArray] w fun e w' => e = .returned (.int .u64 (keyP p)) ∧ Kept w w' := by
  have HP := Lib.hid (PAt.new w hB.1)
  have HK0 := Lib.hid ((Kept.refl w).alloc (.cells (pl p).toArray 26))
  have HBd := Lib.hid hB
  have HE := Lib.hid (key_ref p)
  have HU := Lib.hid (menN_u p.B)
  have HUr := Lib.hid (rgtN_u p.c)
  generalize keyP p = z at *
  clear hB
  go_enter Tryz.func10, Tryz.ntmps10
  go_wp2
  generalize w.alloc (.cells (pl p).toArray 26) = X at *
  go_loopw [3, 4] (fun t3 t4 wr => ∃ i : Nat, i ≤ 64 ∧ t4 = .int .i64 i ∧ t3 = .int .u64 (menN p.B i) ∧ X = wr) (fun _ t4 _ => 64 - (intOf t4).toNat)
  case atStart => exact ⟨0, by omega, rfl, rfl, rfl⟩
  case round =>
    obtain ⟨i, hi, rfl, rfl, rfl⟩ := hrel
    by_cases hi : i < 64
    · have hiI : (i : Int) < 64 := by omega
      have hq := HP.out.sq i hi
      obtain ⟨b1, b2⟩ := HBd.out.2 i hi
      have HN : Hid (menN p.B (i + 1) = xr (menN p.B i) (manK i (p.B.getD i 0))) := by show _ = _; rfl
      have HUi := Lib.hid (HU.out i)
      generalize menN p.B i = y at *
      generalize p.B.getD i 0 = m at *
      by_cases hm : m = 0
      · subst hm
        have HSs : Hid (menN p.B (i + 1) = y) := by show _ = _; rw [HN.out]; exact xr_zero HUi.out
        clear HN
        go_wp2
        go_roundw
        case rel => exact ⟨i + 1, by omega, by go_num, congrArg (Value.int .u64) HSs.out.symm, trivial⟩
        case measure => simp [intOf]; omega
      · have hb : (m == 0) = false := beq_eq_false_iff_ne.2 hm
        have HSs : Hid (menN p.B (i + 1) = xr y (mixI (IntKind.u64.wrap (16 * i + m + 8)))) := by show _ = _; rw [HN.out]; unfold manK; rw [if_neg hm, show (16 * (i : Int) + 8 + m) = 16 * i + m + 8 by omega]
        clear HN hm
        go_wp2_with fail
        refine (rmix_is _ (wrap_u _) _).mono ?_
        rintro e w1 ⟨rfl, rfl⟩
        go_wp2
        go_roundw
        case rel => exact ⟨i + 1, by omega, by go_num, congrArg (Value.int .u64) HSs.out.symm, trivial⟩
        case measure => simp [intOf]; omega
    · obtain rfl : i = 64 := by omega
      have ct := HP.out.turn
      obtain ⟨y, hy⟩ : ∃ y, xr (menN p.B 64) (sideK p.t) = y := ⟨_, rfl⟩
      have hyu : U y := hy ▸ xr_u _ _
      rw [hy] at HE
      have HYU : Hid (xr y (rgtN p.c 0) = y) := xr_zero hyu
      clear hyu
      go_upto_if 30 with fail
      go_cut [3] from 6 (fun t3 wc => t3 = .int .u64 y ∧ X = wc)
      case first =>
        by_cases ht : p.t = 1
        · have hs : sideK p.t = mixI 1024 := by rw [ht]; rfl
          have hb : (p.t == 1) = true := by rw [ht]; rfl
          have HY : Hid (xr (menN p.B 64) (mixI 1024) = y) := by show _ = _; rw [← hs]; exact hy
          have HM := Lib.hid (rmix_is 1024 ⟨by decide, by decide⟩)
          clear hs ht hy HE HYU
          generalize mixI 1024 = q at *
          generalize menN p.B 64 = m at *
          go_wp2_with fail
          refine (HM.out _).mono ?_
          rintro e w1 ⟨rfl, rfl⟩
          go_wp2
          go_meet
          case rel => exact ⟨congrArg (Value.int .u64) HY.out, rfl⟩
        · have hs : sideK p.t = 0 := by unfold sideK; rw [if_neg ht]
          have hb : (p.t == 1) = false := beq_eq_false_iff_ne.2 ht
          have HY : Hid (menN p.B 64 = y) := by show _ = _; rw [← hy, hs, xr_zero (HU.out 64)]
          clear hs ht hy HE HYU
          go_wp2
          go_meet
          case rel => exact ⟨congrArg (Value.int .u64) HY.out, rfl⟩
      case rest =>
        obtain ⟨rfl, rfl⟩ := hcut
        clear hy ct HBd HU
        rw [show ((64 : Nat) : Int) = 64 from rfl]
        go_wp2
        go_loopw [3, 5] (fun t3 t5 wr => ∃ n : Nat, n ≤ 4 ∧ t3 = .int .u64 (xr y (rgtN p.c n)) ∧ t5 = .int .i64 ((2 ^ n : Nat) : Int) ∧ X = wr) (fun _ t5 _ => (16 - intOf t5).toNat)
        case atStart => exact ⟨0, by omega, congrArg (Value.int .u64) HYU.out.symm, rfl, rfl⟩
        case round =>
          obtain ⟨n, hn, rfl, rfl, rfl⟩ := hrel
          have cc := HP.out.cas
          by_cases hlt : n < 4
          · obtain ⟨r1, r8⟩ := pow_4 hlt
            have HS : Hid (((2 ^ (n + 1) : Nat) : Int) = 2 * ((2 ^ n : Nat) : Int)) := by show ((2 ^ (n + 1) : Nat) : Int) = _; rw [Nat.pow_succ]; omega
            have HN : Hid (rgtN p.c (n + 1) = xr (rgtN p.c n) (rgtK p.c (2 ^ n : Nat))) := by show _ = _; rfl
            have HUn := Lib.hid (HUr.out n)
            generalize hk : rgtN p.c n = k at *
            generalize ((2 ^ n : Nat) : Int) = r at *
            by_cases hb : bits .and .i64 p.c r = 0
            · have hb' : (bits .and .i64 p.c r == 0) = true := by rw [hb]; rfl
              have HQ : Hid (rgtN p.c (n + 1) = k) := by show _ = _; rw [HN.out]; unfold rgtK; rw [if_pos hb, xr_zero HUn.out]
              clear hb HN hk
              go_wp2
              go_roundw
              case rel => exact ⟨n + 1, by omega, by rw [HQ.out], by rw [HS.out], trivial⟩
              case measure => simp [intOf]; omega
            · have hb' : (bits .and .i64 p.c r == 0) = false := beq_eq_false_iff_ne.2 hb
              have HQ : Hid (xr (xr y k) (mixI (1032 + r)) = xr y (rgtN p.c (n + 1))) := by show _ = _; rw [HN.out, xr_assoc]; unfold rgtK; rw [if_neg hb]
              clear hb HN hk
              generalize xr y k = y' at *
              go_wp2_with fail
              refine (rmix_is (1032 + r) ⟨by omega, by omega⟩ _).mono ?_
              rintro e w1 ⟨rfl, rfl⟩
              go_wp2
              go_roundw
              case rel => exact ⟨n + 1, by omega, congrArg (Value.int .u64) HQ.out, by rw [HS.out], trivial⟩
              case measure => simp [intOf]; omega
          · obtain rfl : n = 4 := by omega
            have ce := HP.out.ep
            have HZ : Hid (xr (xr y (rgtN p.c 4)) (pasK p.e) = z) := HE.out
            have HYr : Hid (U (xr y (rgtN p.c 4))) := xr_u _ _
            generalize xr y (rgtN p.c 4) = x at *
            clear cc
            by_cases he : p.e < 0
            · have hz : x = z := by rw [← HZ.out]; unfold pasK; rw [if_pos he, xr_zero HYr.out]
              clear HZ
              subst hz
              have hb : ¬ 0 ≤ p.e := by omega
              go_wp2
              go_ret
              exact ⟨rfl, HK0.out⟩
            · have HZ2 : Hid (xr x (mixI (IntKind.u64.wrap (1056 + IntKind.u64.wrap p.e))) = z) := by
                show _ = _
                rw [← HZ.out]; unfold pasK; rw [if_neg he, show IntKind.u64.wrap (1056 + IntKind.u64.wrap p.e) = IntKind.u64.wrap (1056 + p.e) by simp only [IntKind.wrap_u64]; omega]
              clear HZ
              have hb : 0 ≤ p.e := by omega
              generalize p.e = e at *
              go_wp2_with fail
              refine (rmix_is _ (wrap_u _) _).mono ?_
              rintro e w1 ⟨rfl, rfl⟩
              go_wp2
              go_ret
              exact ⟨congrArg (fun x => Ending.returned (Value.int .u64 x)) HZ2.out, HK0.out⟩
end Go.Proofs.YtkebpchhpidogaaGreatDoor
