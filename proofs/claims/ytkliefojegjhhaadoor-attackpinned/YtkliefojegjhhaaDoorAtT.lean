/- The document's Pinned. -/
import Derived.Test.YtkliefojegjhhaaDoorAtR
namespace Go.Proofs.YtkliefojegjhhaaDoor
open Go.RowKit
set_option linter.unusedVariables false
set_option linter.unusedSimpArgs false

theorem Zb_len64 : Zb.length = 64 := Zb_brd.1
/-- A whole board into the variable that was laid last. -/
theorem wpList_store_fresh {ops : Array Oper} {rest : List Oper} {o : Oper} {a : Act} {w : World} {Q : Exit → Act → World → Prop} (hgd : o.guard = none) (x y : Operand) (ho : o.op = .store 40 x y)
    (A B : List Int) (hA : A.length = 64) (hB : B.length = 64) (hx : a.eval x = .pointer (some ⟨w.heap.size, 0, none⟩)) (hy : a.eval y = .agg (cl B).toArray)
    (h : wpList Tryd.prog ops Q rest (a.put o.dst undef) (w.alloc (.cells (cl B).toArray 40))) : wpList Tryd.prog ops Q (o :: rest) a (w.alloc (.cells (cl A).toArray 40)) := by
  refine wpList_store_row hgd 40 x y ho w.heap.size (cl B).toArray hx hy 40 _ (heap_alloc_new w _) (size_cl hB) (by rw [cl_size _ hA, cl_size _ hB]) (cl_one _) ?_
  rw [World.setRow_alloc_new]
  exact h
theorem has_take_step {l : List Int} {j : Nat} {y x : Int} (h : l[j]? = some y) : hasB (l.take (j + 1)) x = (hasB (l.take j) x || y == x) := by
  rw [take_snoc_at l j y h]
  unfold hasB
  rw [Bool.eq_iff_iff]
  simp only [List.contains_iff_mem, List.mem_append, List.mem_singleton, Bool.or_eq_true, beq_iff_eq]
  constructor
  · rintro (h | h)
    · exact .inl h
    · exact .inr h.symm
  · rintro (h | h)
    · exact .inl h
    · exact .inr h.symm
theorem pinOne_len (B : List Int) (k sd x : Int) : (pinOne B k sd x).length ≤ 64 := by
  unfold pinOne
  split
  · simp
  · exact zn_len _ 64
theorem flat_len_le {α : Type} (g : α → List Int) (hg : ∀ x, (g x).length ≤ 64) : ∀ L : List α, (L.flatMap g).length ≤ 64 * L.length
  | [] => by simp
  | x :: L => by
    have h1 := hg x
    have h2 := flat_len_le g hg L
    rw [List.flatMap_cons, List.length_append, List.length_cons]
    omega
theorem flat_snoc {g : Int → List Int} {T : List Int} {i : Nat} {x : Int} (h : T[i]? = some x) : (T.take (i + 1)).flatMap g = (T.take i).flatMap g ++ g x := by
  rw [take_snoc_at T i x h, List.flatMap_append]; simp
set_option maxRecDepth 100000 in
set_option maxHeartbeats 8000000 in
theorem rpinned_is (B : List Int) (hB : Brd B) (s : Int) (w : World) :
    Calls Tryd.prog 32 #[.agg (cl B).toArray, .int .i64 s] w (NewZ w (pinnedL B s)) := by
  have hz := Lib.hid (size_cl hB.1)
  have hbl := Lib.hid (heap_alloc_new w (.cells (cl B).toArray 40))
  have HB := Lib.hid hB
  have hRt := Lib.hid (rright_is B hB)
  by_cases hs : s < 0 ∨ 64 ≤ s
  · have HE := Lib.hid (pinned_none (B := B) (s := s) (.inl (okS_no hs)))
    clear hB
    rcases hs with hs | hs
    · go_enter Tryd.func32, Tryd.ntmps32
      go_wp2
      go_ret
      exact ⟨_, rfl, by rw [HE.out]; exact OwnZ.nil _ _, (Kept.refl _).alloc _⟩
    · have hs' : ¬ s < 0 := by omega
      have hs2 : 63 < s := by omega
      go_enter Tryd.func32, Tryd.ntmps32
      go_wp2
      go_ret
      exact ⟨_, rfl, by rw [HE.out]; exact OwnZ.nil _ _, (Kept.refl _).alloc _⟩
  · obtain ⟨n, rfl⟩ := Int.eq_ofNat_of_zero_le (show 0 ≤ s by omega)
    have hn : n < 64 := by omega
    have hs' : ¬ (n : Int) < 0 := by omega
    have hs2 : ¬ 63 < (n : Int) := by omega
    cases hr : rightB B
    · rw [hr] at hRt
      have HE := Lib.hid (pinned_none (B := B) (s := (n : Int)) (.inr (.inl hr)))
      clear hr hs hB
      go_enter Tryd.func32, Tryd.ntmps32
      go_wp2_with (refine wpList_load_w (by rfl) _ rfl _ rfl _ (hbl.out) hz.out ?_)
      refine (hRt.out _).mono ?_
      rintro e w1 ⟨rfl, k1⟩
      have HK := Lib.hid (((Kept.refl w).alloc _).trans k1)
      clear k1
      go_wp2
      go_ret
      exact ⟨_, rfl, by rw [HE.out]; exact OwnZ.nil _ _, HK.out⟩
    · rw [hr] at hRt
      obtain ⟨hb1, hb2⟩ := hB.2 n hn
      obtain ⟨x, hxx⟩ : ∃ x, B.getD n 0 = x := ⟨_, rfl⟩
      have hbx : bAt B (n : Int) = x := hxx
      rw [hxx] at hb1 hb2
      have HX := Lib.hid hxx
      clear hxx
      have hcase : x = 0 ∨ x = 6 ∨ x = -6 ∨ (x ≠ 0 ∧ x ≠ 6 ∧ x ≠ -6) := by omega
      rcases hcase with h0 | h6 | h6' | ⟨h0, h6, h6'⟩
      · have HE := Lib.hid (pinned_none (B := B) (s := (n : Int)) (.inr (.inr (.inl (hbx.trans h0)))))
        have hq0 : (x == 0) = true := by simpa using h0
        clear hr hs hB hbx h0
        go_enter Tryd.func32, Tryd.ntmps32
        go_wp2_with (refine wpList_load_w (by rfl) _ rfl _ rfl _ (hbl.out) hz.out ?_)
        refine (hRt.out _).mono ?_
        rintro e w1 ⟨rfl, k1⟩
        have hcb := board_cell HB.out (k1.heap hbl.out) n hn
        rw [HX.out] at hcb
        have HK := Lib.hid (((Kept.refl w).alloc _).trans k1)
        clear k1
        go_wp2
        go_ret
        exact ⟨_, rfl, by rw [HE.out]; exact OwnZ.nil _ _, HK.out⟩
      · have HE := Lib.hid (pinned_none (B := B) (s := (n : Int)) (.inr (.inr (.inr (.inl (hbx.trans h6))))))
        have hq0 : (x == 0) = false := by rw [beq_eq_false_iff_ne]; omega
        have hq6 : (x == 6) = true := by simpa using h6
        clear hr hs hB hbx h6
        go_enter Tryd.func32, Tryd.ntmps32
        go_wp2_with (refine wpList_load_w (by rfl) _ rfl _ rfl _ (hbl.out) hz.out ?_)
        refine (hRt.out _).mono ?_
        rintro e w1 ⟨rfl, k1⟩
        have hcb := board_cell HB.out (k1.heap hbl.out) n hn
        rw [HX.out] at hcb
        have HK := Lib.hid (((Kept.refl w).alloc _).trans k1)
        clear k1
        go_wp2
        go_ret
        exact ⟨_, rfl, by rw [HE.out]; exact OwnZ.nil _ _, HK.out⟩
      · have HE := Lib.hid (pinned_none (B := B) (s := (n : Int)) (.inr (.inr (.inr (.inr (.inl (hbx.trans h6')))))))
        have hq0 : (x == 0) = false := by rw [beq_eq_false_iff_ne]; omega
        have hq6 : (x == 6) = false := by rw [beq_eq_false_iff_ne]; omega
        have hq7 : (x == -6) = true := by simpa using h6'
        clear hr hs hB hbx h6'
        go_enter Tryd.func32, Tryd.ntmps32
        go_wp2_with (refine wpList_load_w (by rfl) _ rfl _ rfl _ (hbl.out) hz.out ?_)
        refine (hRt.out _).mono ?_
        rintro e w1 ⟨rfl, k1⟩
        have hcb := board_cell HB.out (k1.heap hbl.out) n hn
        rw [HX.out] at hcb
        have HK := Lib.hid (((Kept.refl w).alloc _).trans k1)
        clear k1
        go_wp2
        go_ret
        exact ⟨_, rfl, by rw [HE.out]; exact OwnZ.nil _ _, HK.out⟩
      · have hq0 : (x == 0) = false := by rw [beq_eq_false_iff_ne]; exact h0
        have hq6 : (x == 6) = false := by rw [beq_eq_false_iff_ne]; exact h6
        have hq7 : (x == -6) = false := by rw [beq_eq_false_iff_ne]; exact h6'
        have hpn := pinned_none (B := B) (s := (n : Int))
        have hps := pinned_some hB hn hr
        rw [hbx] at hpn hps
        have HKg := Lib.hid (rking_is B hB (sideI x))
        have hman : manB x = true := by
          have := (rightB_iff B hB.1).1 hr n hn
          rw [HX.out] at this
          unfold okB at this
          rw [Bool.or_eq_true, beq_iff_eq] at this
          rcases this with h | h
          · exact absurd h h0
          · exact h
        have hsd := sideI_is x hman
        have hSd := Lib.hid (rside_any x)
        obtain ⟨kb1, kb2⟩ := kingI_bd B (sideI x)
        have HBy := Lib.hid (fun (k sd : Int) (w : World) => rby_is B hB k sd w)
        have HBy0 := Lib.hid (fun (k sd : Int) (w : World) => rby_is (B.set n 0) (set_brd hB hn) k sd w)
        have hr0 := set_right hB hn hr
        rw [hr] at HBy
        rw [hr0] at HBy0
        have HB0 := Lib.hid (set_brd hB hn)
        have hz0 := Lib.hid (size_cl (set_brd hB hn).1)
        generalize sideI x = sd at *
        generalize kingI B sd = k at *
        by_cases hk : k < 0
        · have HE := Lib.hid (hpn (.inr (.inr (.inr (.inr (.inr hk))))))
          clear hr hs hB hpn hps hr0 hman hbx h0 h6 h6'
          go_enter Tryd.func32, Tryd.ntmps32
          go_wp2_with (refine wpList_load_w (by rfl) _ rfl _ rfl _ (hbl.out) hz.out ?_)
          refine (hRt.out _).mono ?_
          rintro e w1 ⟨rfl, k1⟩
          have hbw1 := Lib.hid (k1.heap hbl.out)
          have hcb := board_cell HB.out hbw1.out n hn
          rw [HX.out] at hcb
          have HK := Lib.hid (((Kept.refl w).alloc _).trans k1)
          clear k1
          go_wp2_with fail
          refine (hSd.out _).mono ?_
          rintro e w' ⟨rfl, rfl⟩
          go_wp2_with (refine wpList_load_w (by rfl) _ rfl _ rfl _ (hbw1.out) hz.out ?_)
          refine (HKg.out _).mono ?_
          rintro e w2 ⟨rfl, k2⟩
          have HK2 := Lib.hid (HK.out.trans k2)
          clear k2
          go_wp2
          go_ret
          exact ⟨_, rfl, by rw [HE.out]; exact OwnZ.nil _ _, HK2.out⟩
        · have HE := Lib.hid (hps h0 h6 h6' (by omega))
          have hk' : ¬ k < 0 := hk
          have hokk : okS k = true := okS_yes (by omega) kb2
          have HNow := Lib.hid (HBy.out k (1 - sd))
          have HThen := Lib.hid (HBy0.out k (1 - sd))
          rw [hokk] at HNow HThen
          simp only [Bool.true_and, if_true] at HNow HThen
          have hln := zn_len (fun m => (sideI (B.getD m 0) == 1 - sd) && hitB B (m : Int) k) 64
          have hlt := zn_len (fun m => (sideI ((B.set n 0).getD m 0) == 1 - sd) && hitB (B.set n 0) (m : Int) k) 64
          have HOneLen := Lib.hid (pinOne_len B k (1 - sd))
          have HOneYes := Lib.hid (show ∀ y, hasB (zn (byN B k (1 - sd))) y = true → pinOne B k (1 - sd) y = [] from fun y h => by unfold pinOne; rw [if_pos h])
          have HOneNo := Lib.hid (show ∀ y, hasB (zn (byN B k (1 - sd))) y = false → pinOne B k (1 - sd) y = zn (sel (fun t => hasB (lineL k y) (t : Int) || ((t : Int) == y)) 64) from fun y h => by unfold pinOne; rw [if_neg (by rw [h]; simp)])
          have HLine := Lib.hid (fun y w => rline_is k y w)
          replace hln : (zn (byN B k (1 - sd))).length ≤ 64 := hln
          replace hlt : (zn (byN (B.set n 0) k (1 - sd))).length ≤ 64 := hlt
          have HE2 := Lib.hid (show pinnedL B (n : Int) = (zn (byN (B.set n 0) k (1 - sd))).flatMap (pinOne B k (1 - sd)) from HE.out)
          have hcl := cl_set B n 0
          clear hr hs hB hpn hps hr0 hman hbx h0 h6 h6' HE HBy HBy0 hokk hk
          generalize zn (byN B k (1 - sd)) = NW at *
          generalize zn (byN (B.set n 0) k (1 - sd)) = TH at *
          generalize pinOne B k (1 - sd) = P1 at *
          go_enter Tryd.func32, Tryd.ntmps32
          go_wp2_with (refine wpList_load_w (by rfl) _ rfl _ rfl _ (hbl.out) hz.out ?_)
          refine (hRt.out _).mono ?_
          rintro e w1 ⟨rfl, k1⟩
          have hbw1 := Lib.hid (k1.heap hbl.out)
          have hcb := board_cell HB.out hbw1.out n hn
          rw [HX.out] at hcb
          have HK := Lib.hid (((Kept.refl w).alloc _).trans k1)
          clear k1
          go_wp2_with fail
          refine (hSd.out _).mono ?_
          rintro e w' ⟨rfl, rfl⟩
          go_wp2_with (refine wpList_load_w (by rfl) _ rfl _ rfl _ (hbw1.out) hz.out ?_)
          refine (HKg.out _).mono ?_
          rintro e w2 ⟨rfl, k2⟩
          have hbw2 := Lib.hid (k2.heap hbw1.out)
          have HK2 := Lib.hid (HK.out.trans k2)
          have hcb2 := board_cell HB.out (heap_alloc_new w2 (.cells (cl B).toArray 40)) n hn
          rw [HX.out] at hcb2
          have KA := Lib.hid ((Kept.refl w2).alloc (.cells (cl (B.set n 0)).toArray 40))
          have hbA := Lib.hid (KA.out.heap hbw2.out)
          have hbA0 := Lib.hid (heap_alloc_new w2 (.cells (cl (B.set n 0)).toArray 40))
          have hBl : Hid (B.length = 64) := Lib.hid HB.out.1
          clear k2 hcb
          go_wp2_with (first | (refine wpList_load_w (by rfl) _ rfl _ rfl _ hbw2.out hz.out ?_) | (with_reducible refine wpList_new_b rfl rfl ?_) | ((with_reducible refine wpList_store_fresh rfl _ _ rfl Zb B Zb_len64 hBl.out ?_ ?_ ?_); exact rfl; exact rfl) | (refine wpList_load_w (by rfl) _ rfl _ rfl _ hbA.out hz.out ?_))
          refine (HNow.out _).mono ?_
          rintro e w3 ⟨v9, rfl, ho9, k3⟩
          obtain ⟨a9, c9, rfl⟩ := ho9.slice
          have hb3 := Lib.hid (k3.heap hbA0.out)
          have HO9 := Lib.hid ho9
          have HK3 := Lib.hid (HK2.out.trans (KA.out.trans k3))
          clear k3 ho9 hcb2
          go_wp2_with (refine wpList_load_w (by rfl) _ rfl _ rfl _ hb3.out hz0.out ?_)
          refine (HThen.out _).mono ?_
          rintro e W ⟨v10, rfl, ho10, k4⟩
          obtain ⟨a10, c10, rfl⟩ := ho10.slice
          obtain ⟨g10, hl10, _⟩ := ho10.ls
          obtain ⟨g9, hl9, _⟩ := (HO9.out.kept k4).ls
          have HL10 := Lib.hid hl10
          have HL9 := Lib.hid hl9
          have HKW := Lib.hid (HK3.out.trans k4)
          clear ho10 hl10 hl9 k4
          generalize hNT : TH.length = NT at *
          generalize hNN : NW.length = NN at *
          have HNT := Lib.hid hNT
          have HNN := Lib.hid hNN
          clear hNT hNN
          go_wp2
          go_loopw [5, 11] (fun t5 t11 wr => ∃ i : Nat, i ≤ NT ∧ t11 = .int .i64 i ∧ OwnZ wr W.heap.size t5 ((TH.take i).flatMap P1) ∧ Kept W wr) (fun _ t11 _ => NT - (intOf t11).toNat)
          case atStart => exact ⟨0, by omega, rfl, by simpa using OwnZ.nil _ _, Kept.refl _⟩
          case round =>
            obtain ⟨i, hi, rfl, ho5, hK5⟩ := hrel
            obtain ⟨a5, c5, rfl⟩ := ho5.slice
            have HO5 := Lib.hid ho5
            have HK5 := Lib.hid hK5
            have HFL := Lib.hid (show ((TH.take i).flatMap P1).length ≤ 4096 by
              have h1 := flat_len_le P1 HOneLen.out (TH.take i)
              rw [List.length_take] at h1
              omega)
            clear ho5 hK5
            generalize hN5 : ((TH.take i).flatMap P1).length = N5 at *
            by_cases hlt5 : i < NT
            · have hlt' : (i : Int) < (NT : Int) := by omega
              obtain ⟨y, hy⟩ : ∃ y, TH[i]? = some y := ⟨_, List.getElem?_eq_getElem (by have := HNT.out; omega)⟩
              obtain ⟨off10, c10', e10, _, hm10, hcell10⟩ := HL10.out.full (by have := HNT.out; omega)
              injection e10 with e101 e102 e103
              subst e101 e103
              have d10 := kept_cell HK5.out (hcell10 i y hy)
              have HFS := Lib.hid (flat_snoc (g := P1) hy)
              clear hy hcell10 e102 hm10
              go_wp2
              go_loop [13, 14] (fun t13 t14 => ∃ (j : Nat) (b : Bool), j ≤ NN ∧ t14 = .int .i64 j ∧ t13 = .bool b ∧ hasB (NW.take j) y = b) (fun _ t14 => NN - (intOf t14).toNat)
              case atStart => exact ⟨0, false, by omega, rfl, rfl, rfl⟩
              case round =>
                obtain ⟨j, b, hj, rfl, rfl, hb⟩ := hrel
                have HBb := Lib.hid hb
                clear hb
                by_cases hjl : j < NN
                · have hjl' : (j : Int) < (NN : Int) := by omega
                  obtain ⟨z, hz1⟩ : ∃ z, NW[j]? = some z := ⟨_, List.getElem?_eq_getElem (by have := HNN.out; omega)⟩
                  have HSt := Lib.hid (has_take_step (x := y) hz1)
                  cases b
                  · obtain ⟨off9, c9', e9, _, hm9, hcell9⟩ := HL9.out.full (by have := HNN.out; omega)
                    injection e9 with e91 e92 e93
                    subst e91 e93
                    have d9 := kept_cell HK5.out (hcell9 j z hz1)
                    clear hz1 hcell9 e92 hm9
                    by_cases hzy : z = y
                    · have b0 : (z == y) = true := by simpa using hzy
                      have HN := Lib.hid (show hasB (NW.take (j + 1)) y = true by rw [HSt.out, b0]; simp)
                      clear hzy
                      go_wp2
                      go_round
                      case rel => exact ⟨j + 1, true, by omega, by go_num, rfl, HN.out⟩
                      case measure => simp [intOf]; omega
                    · have b0 : (z == y) = false := by simpa using hzy
                      have HN := Lib.hid (show hasB (NW.take (j + 1)) y = false by rw [HSt.out, b0, HBb.out]; rfl)
                      clear hzy
                      go_wp2
                      go_round
                      case rel => exact ⟨j + 1, false, by omega, by go_num, rfl, HN.out⟩
                      case measure => simp [intOf]; omega
                  · have HN := Lib.hid (show hasB (NW.take (j + 1)) y = true by rw [HSt.out, HBb.out]; rfl)
                    clear hz1
                    go_wp2
                    go_round
                    case rel => exact ⟨j + 1, true, by omega, by go_num, rfl, HN.out⟩
                    case measure => simp [intOf]; omega
                · have hjl' : ¬ (j : Int) < (NN : Int) := by omega
                  have hall : hasB NW y = b := by
                    rw [← HBb.out, List.take_of_length_le (by have := HNN.out; omega)]
                  cases b
                  · have HP1 := Lib.hid (HOneNo.out y hall)
                    obtain ⟨q, hq⟩ : ∃ q : Nat → Bool, q = fun (t : Nat) => hasB (lineL k y) (t : Int) || ((t : Int) == y) := ⟨_, rfl⟩
                    have HQ := Lib.hid (fun t => congrFun hq t)
                    rw [← hq] at HP1
                    have HLn := Lib.hid (HLine.out y)
                    clear hall hq
                    generalize lineL k y = LL at *
                    go_wp2
                    go_loopw [5, 15] (fun t5 t15 wr => ∃ m : Nat, m ≤ 64 ∧ t15 = .int .i64 m ∧ OwnZ wr W.heap.size t5 ((TH.take i).flatMap P1 ++ zn (sel q m)) ∧ Kept W wr) (fun _ t15 _ => 64 - (intOf t15).toNat)
                    case atStart => exact ⟨0, by omega, rfl, by rw [show zn (sel q 0) = [] from rfl, List.append_nil]; exact HO5.out, HK5.out⟩
                    case round =>
                      rename_i wq
                      obtain ⟨m, hm, rfl, ho6, hK6⟩ := hrel
                      obtain ⟨a6, c6, rfl⟩ := ho6.slice
                      have HO6 := Lib.hid ho6
                      have HK6 := Lib.hid hK6
                      have HLen3 := Lib.hid (show ((TH.take i).flatMap P1 ++ zn (sel q m)).length ≤ 4160 by
                        have h1 := zn_len q m
                        rw [List.length_append]
                        have := HFL.out
                        omega)
                      clear ho6 hK6
                      by_cases hml : m < 64
                      · have hml' : (m : Int) < 64 := by omega
                        have hqm := HQ.out m
                        generalize hZ6 : (TH.take i).flatMap P1 ++ zn (sel q m) = Z6 at *
                        have HZ6 := Lib.hid hZ6
                        clear hZ6
                        generalize hN6 : Z6.length = N6 at *
                        have HN6 := Lib.hid hN6
                        go_wp2_with fail
                        refine (HLn.out _).mono ?_
                        rintro e w6 ⟨vL, gL, rfl, hlL, _, k6⟩
                        obtain ⟨aL, cL, rfl⟩ := hlL.slice
                        have HLL := Lib.hid hlL
                        have HO6b := Lib.hid (HO6.out.kept k6)
                        have HK6b := Lib.hid (HK6.out.trans k6)
                        have HA := Lib.hid ((HK6.out.trans k6).alloc (.cells #[.int .i64 (m : Int)] 3))
                        have HOA := Lib.hid (HO6.out.kept (k6.alloc (.cells #[.int .i64 (m : Int)] 3)))
                        clear hlL k6
                        generalize hNL : LL.length = NL at *
                        have HNL := Lib.hid hNL
                        clear hNL
                        go_wp2
                        go_loop [16, 18] (fun t16 t18 => ∃ (j : Nat) (b : Bool), j ≤ NL ∧ t18 = .int .i64 j ∧ t16 = .bool b ∧ hasB (LL.take j) (m : Int) = b) (fun _ t18 => NL - (intOf t18).toNat)
                        case atStart => exact ⟨0, false, by omega, rfl, rfl, rfl⟩
                        case round =>
                          obtain ⟨j2, b, hj2, rfl, rfl, hb2'⟩ := hrel
                          have HBb2 := Lib.hid hb2'
                          clear hb2'
                          by_cases hjl2 : j2 < NL
                          · have hjl2' : (j2 : Int) < (NL : Int) := by omega
                            obtain ⟨z, hz1⟩ : ∃ z, LL[j2]? = some z := ⟨_, List.getElem?_eq_getElem (by have := HNL.out; omega)⟩
                            have HSt := Lib.hid (has_take_step (x := (m : Int)) hz1)
                            obtain ⟨offL, cL', eL, _, hmL, hcellL⟩ := HLL.out.full (by have := HNL.out; omega)
                            have hbnd : NL ≤ 9223372036854775807 := by unfold maxLen at hmL; have := HNL.out; omega
                            injection eL with eL1 eL2 eL3
                            subst eL1 eL3
                            cases b
                            · have dL := hcellL j2 z hz1
                              clear hz1 hcellL eL2 hmL
                              by_cases hzy : z = (m : Int)
                              · have b0 : (z == (m : Int)) = true := by simpa using hzy
                                have HN := Lib.hid (show hasB (LL.take (j2 + 1)) (m : Int) = true by rw [HSt.out, b0]; simp)
                                clear hzy
                                go_wp2
                                go_round
                                case rel => exact ⟨j2 + 1, true, by omega, by go_num, rfl, HN.out⟩
                                case measure => simp [intOf]; omega
                              · have b0 : (z == (m : Int)) = false := by simpa using hzy
                                have HN := Lib.hid (show hasB (LL.take (j2 + 1)) (m : Int) = false by rw [HSt.out, b0, HBb2.out]; rfl)
                                clear hzy
                                go_wp2
                                go_round
                                case rel => exact ⟨j2 + 1, false, by omega, by go_num, rfl, HN.out⟩
                                case measure => simp [intOf]; omega
                            · have HN := Lib.hid (show hasB (LL.take (j2 + 1)) (m : Int) = true by rw [HSt.out, HBb2.out]; rfl)
                              clear hz1 hcellL eL2 hmL
                              go_wp2
                              go_round
                              case rel => exact ⟨j2 + 1, true, by omega, by go_num, rfl, HN.out⟩
                              case measure => simp [intOf]; omega
                          · have hjl2' : ¬ (j2 : Int) < (NL : Int) := by omega
                            have hall2 : hasB LL (m : Int) = b := by
                              rw [← HBb2.out, List.take_of_length_le (by have := HNL.out; omega)]
                            rw [hall2] at hqm
                            cases b
                            · rw [Bool.false_or] at hqm
                              by_cases hmy : (m : Int) = y
                              · have b0 : ((m : Int) == y) = true := by simpa using hmy
                                rw [b0] at hqm
                                have HY1 := Lib.hid (zn_yes hqm)
                                clear hqm hall2 hmy hN6
                                go_wp2_with (at_builtin; refine wpList_append_z rfl _ _ rfl W.heap.size w6.heap.size _ _ _ [(m : Int)] rfl rfl HOA.out (LsZ.lit _ [(m : Int)] (by simp)) ?c1 ?c2 ?_)
                                case c1 => have := HLen3.out; have := HN6.out; simp; omega
                                case c2 => have := HA.out.size; simpa using this
                                intro v7 w7 ho7 hg7
                                have HK7 := Lib.hid (HOA.out.grown HA.out (Nat.le_refl _) hg7)
                                obtain ⟨a7, c7, rfl⟩ := ho7.slice
                                have HO7 := Lib.hid (show OwnZ w7 W.heap.size _ ((TH.take i).flatMap P1 ++ zn (sel q (m + 1))) by rw [HY1.out, ← List.append_assoc, HZ6.out]; exact ho7)
                                clear ho7 hg7
                                generalize (Z6 ++ [(m : Int)]).length = N7 at *
                                go_wp2
                                go_roundw
                                case rel => exact ⟨m + 1, by omega, by go_num, HO7.out, HK7.out⟩
                                case measure => simp [intOf]; omega
                              · have b0 : ((m : Int) == y) = false := by simpa using hmy
                                rw [b0] at hqm
                                have HY0 := Lib.hid (zn_no hqm)
                                have HO7 := Lib.hid (show OwnZ w6 W.heap.size (.slice a6 N6 c6) ((TH.take i).flatMap P1 ++ zn (sel q (m + 1))) by rw [HY0.out, HZ6.out]; exact HO6b.out)
                                clear hqm hall2 hmy hN6
                                go_wp2
                                go_roundw
                                case rel => exact ⟨m + 1, by omega, by go_num, HO7.out, HK6b.out⟩
                                case measure => simp [intOf]; omega
                            · rw [Bool.true_or] at hqm
                              have HY1 := Lib.hid (zn_yes hqm)
                              clear hqm hall2 hN6
                              go_wp2_with (at_builtin; refine wpList_append_z rfl _ _ rfl W.heap.size w6.heap.size _ _ _ [(m : Int)] rfl rfl HOA.out (LsZ.lit _ [(m : Int)] (by simp)) ?c1 ?c2 ?_)
                              case c1 => have := HLen3.out; have := HN6.out; simp; omega
                              case c2 => have := HA.out.size; simpa using this
                              intro v7 w7 ho7 hg7
                              have HK7 := Lib.hid (HOA.out.grown HA.out (Nat.le_refl _) hg7)
                              obtain ⟨a7, c7, rfl⟩ := ho7.slice
                              have HO7 := Lib.hid (show OwnZ w7 W.heap.size _ ((TH.take i).flatMap P1 ++ zn (sel q (m + 1))) by rw [HY1.out, ← List.append_assoc, HZ6.out]; exact ho7)
                              clear ho7 hg7
                              generalize (Z6 ++ [(m : Int)]).length = N7 at *
                              go_wp2
                              go_roundw
                              case rel => exact ⟨m + 1, by omega, by go_num, HO7.out, HK7.out⟩
                              case measure => simp [intOf]; omega
                      · have hml' : ¬ (m : Int) < 64 := by omega
                        have HO7 := Lib.hid (show OwnZ wr W.heap.size (.slice a6 ((TH.take i).flatMap P1 ++ zn (sel q m)).length c6) ((TH.take (i + 1)).flatMap P1) by rw [HFS.out, HP1.out, show 64 = m by omega]; exact HO6.out)
                        generalize ((TH.take i).flatMap P1 ++ zn (sel q m)).length = N6 at *
                        go_wp2
                        go_roundw
                        case rel => exact ⟨i + 1, by omega, by go_num, HO7.out, HK6.out⟩
                        case measure => simp [intOf]; omega
                  · have HP1 := Lib.hid (HOneYes.out y hall)
                    have HO6 := Lib.hid (show OwnZ wr W.heap.size (.slice a5 N5 c5) ((TH.take (i + 1)).flatMap P1) by rw [HFS.out, HP1.out, List.append_nil]; exact HO5.out)
                    clear hall
                    go_wp2
                    go_roundw
                    case rel => exact ⟨i + 1, by omega, by go_num, HO6.out, HK5.out⟩
                    case measure => simp [intOf]; omega
            · have hlt' : ¬ (i : Int) < (NT : Int) := by omega
              have HFin := Lib.hid (show pinnedL B (n : Int) = (TH.take i).flatMap P1 by rw [HE2.out, List.take_of_length_le (by have := HNT.out; omega)])
              go_wp2
              go_ret
              exact ⟨_, rfl, by rw [HFin.out]; exact HO5.out.low HKW.out.size, HKW.out.trans HK5.out⟩
end Go.Proofs.YtkliefojegjhhaaDoor
