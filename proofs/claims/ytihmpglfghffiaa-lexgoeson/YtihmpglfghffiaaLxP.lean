/- The law of what goes on. -/
import Derived.Test.YtihmpglfghffiaaLxO
namespace Go.Proofs.Ytihmpglfghffiaa
open Go.RowKit
set_option linter.unusedVariables false
set_option linter.unusedSimpArgs false
set_option maxRecDepth 100000
set_option maxHeartbeats 4000000

theorem SAt.err {w : World} {g : Nat} {x : Sp} (h : SAt w g x) : w.cell? ⟨g, 2, none⟩ = some (.int .i64 x.e) := by
  rw [cell_of_row _ _ 2 _ _ (0, 0) h.at_]; rfl
theorem run_field_sp (x : Sp) (w : World) : (Instr.field 26 (sv x) 2).run Try.prog w = .ok (.int .i64 x.e) w := by
  rw [sv_sl]
  simp only [Instr.field, Sem.run_bind, run_underlying Try.underlying26, Result.andThen_ok]
  simp [asAgg, part, isAgg, run_underlying Try.underlying24, sl]
theorem walkLexGoesOn (t : ByteArray) (w0 : t.size ≤ maxLen) (more : ByteArray) (w1 : more.size ≤ maxLen) (v : Value) (ws : List ByteArray) (w : World) (hv : LsT w v ws) :
    Calls Try.prog 6 #[.string t, .string more, v] w fun e w' => e = .returned (.bool true) ∧ Kept w w' := by
  unfold maxLen at w0 w1
  obtain ⟨a, cap, rfl⟩ := hv.slice
  have HV := Lib.hid hv
  clear hv
  by_cases hl : 100 < t.size
  · have hl' : (100 : Int) < t.size := by omega
    go_enter Try.func6, Try.ntmps6
    go_wp2_with fail
    refine (lex_wakes _).mono ?_
    rintro e w1 ⟨rfl, k1⟩
    have K1 := Lib.hid k1
    clear k1
    go_wp2
    go_ret
    exact ⟨rfl, K1.out⟩
  · have hl' : ¬ (100 : Int) < t.size := by omega
    by_cases hm : 100 < more.size
    · have hm' : (100 : Int) < more.size := by omega
      go_enter Try.func6, Try.ntmps6
      go_wp2_with fail
      refine (lex_wakes _).mono ?_
      rintro e w1 ⟨rfl, k1⟩
      have K1 := Lib.hid k1
      clear k1
      go_wp2
      go_ret
      exact ⟨rfl, K1.out⟩
    · have hm' : ¬ (100 : Int) < more.size := by omega
      by_cases hn : 20 < ws.length
      · have hn' : (20 : Int) < ws.length := by omega
        go_enter Try.func6, Try.ntmps6
        go_wp2_with fail
        refine (lex_wakes _).mono ?_
        rintro e w1 ⟨rfl, k1⟩
        have K1 := Lib.hid k1
        clear k1
        go_wp2
        go_ret
        exact ⟨rfl, K1.out⟩
      · have hn' : ¬ (20 : Int) < ws.length := by omega
        have HA : Hid (∀ w1, Kept w w1 → Calls Try.prog 18 #[.slice a ws.length cap] w1 fun e w' => e = .returned (.bool (apB ws)) ∧ Kept w1 w') := fun w1 k => rapart_is ws _ w1 (HV.out.kept k) (by omega)
        cases hb : apB ws with
        | false =>
          rw [hb] at HA
          clear hb
          go_enter Try.func6, Try.ntmps6
          go_wp2_with fail
          refine (lex_wakes _).mono ?_
          rintro e w1 ⟨rfl, k1⟩
          have K1 := Lib.hid k1
          clear k1
          go_wp2_with fail
          refine (HA.out _ K1.out).mono ?_
          rintro e w2 ⟨rfl, k2⟩
          have K2 := Lib.hid (K1.out.trans k2)
          clear k2
          go_wp2
          go_ret
          exact ⟨rfl, K2.out⟩
        | true =>
          rw [hb] at HA
          have HAp := Lib.hid ((apB_iff ws).1 hb)
          clear hb
          go_enter Try.func6, Try.ntmps6
          go_wp2_with fail
          refine (lex_wakes _).mono ?_
          rintro e w1 ⟨rfl, k1⟩
          have K1 := Lib.hid k1
          clear k1
          go_wp2_with fail
          refine (HA.out _ K1.out).mono ?_
          rintro e w2 ⟨rfl, k2⟩
          have K2 := Lib.hid (K1.out.trans k2)
          clear k2
          go_wp2
          go_loopw [33] (fun t33 wr => ∃ k : Nat, t33 = .int .i64 k ∧ k ≤ ws.length ∧ (∀ j x, j < k → ws[j]? = some x → x.size ≤ 50) ∧ Kept w wr) (fun t33 _ => 20 - (intOf t33).toNat)
          case atStart => exact ⟨0, rfl, by omega, fun j x hj => by omega, K2.out⟩
          case round =>
            obtain ⟨k, rfl, hk, hsz, hK⟩ := hrel
            have HSZ := Lib.hid hsz
            have HK := Lib.hid hK
            clear hsz hK
            have HWr := Lib.hid (HV.out.kept HK.out)
            by_cases hlt : k < ws.length
            · obtain ⟨g, off, cap', ea, hg, hcap, hcell⟩ := HWr.out.at_ (by omega)
              obtain ⟨rfl, rfl⟩ : a = some ⟨g, off, none⟩ ∧ cap = cap' := by simpa using ea
              obtain ⟨x, hx⟩ : ∃ x, ws[k]? = some x := ⟨_, List.getElem?_eq_getElem hlt⟩
              have hcx := hcell k x hx
              have HX := Lib.hid hx
              clear ea hcell hx
              by_cases hs : 50 < x.size
              · have hs' : (50 : Int) < x.size := by omega
                go_wp2
                go_ret
                exact ⟨rfl, HK.out⟩
              · have hs' : ¬ (50 : Int) < x.size := by omega
                have HSZ2 : Hid (∀ j y, j < k + 1 → ws[j]? = some y → y.size ≤ 50) := by
                  intro j y hj hy
                  rcases Nat.lt_succ_iff_lt_or_eq.1 hj with h | h
                  · exact HSZ.out j y h hy
                  · subst h
                    rw [HX.out] at hy
                    obtain rfl := Option.some.inj hy
                    omega
                go_wp2
                go_roundw
                case rel => exact ⟨k + 1, by go_num, by omega, HSZ2.out, HK.out⟩
                case measure => simp [intOf]; omega
            · have HSA : Hid (∀ (j : Nat) (x : ByteArray), ws[j]? = some x → x.size ≤ 50) := by
                intro j x hx
                have h1 := (List.getElem?_eq_some_iff.1 hx).1
                exact HSZ.out j x (by omega) hx
              have HO : Hid (∀ (s : ByteArray), s.size ≤ 1000 → ∀ w1, Kept w w1 → Calls Try.prog 10 #[.string s, .int .i64 0, .slice a ws.length cap] w1 fun e w' => e = .returned (sv (oneP s ws 0)) ∧ Kept w1 w') := fun s hs w1 k1 =>
                oneOf_is s 0 ws _ w1 (HV.out.kept k1) hs (by omega) (fun j x hx => by have := HSA.out j x hx; omega)
              have HO1 := Lib.hid (HO.out t (by omega) wr HK.out)
              have sz : ¬ 9223372036854775807 < t.size + more.size := by omega
              have HO2 := Lib.hid (HO.out (t ++ more) (by rw [ByteArray.size_append]; omega))
              have hge : (ws.length : Int) ≤ k := by omega
              clear hk
              rcases goes (t := t) (more := more) HAp.out with ⟨p, n, e1, e2⟩ | ⟨p, e1, e2⟩ | ⟨p, e1, hex⟩
              · rw [e1] at HO1
                rw [e2] at HO2
                clear e1 e2
                go_wp2_with fail
                refine (HO1.out).mono ?_
                rintro e w3 ⟨rfl, k3⟩
                have K3 := Lib.hid (HK.out.trans k3)
                have K4 := Lib.hid (K3.out.alloc (.cells (sl ⟨p, n, 0⟩).toArray 26))
                have HS := Lib.hid (SAt.new w3 ⟨p, n, 0⟩)
                have c2 := HS.out.err
                clear k3
                go_wp2_with (first | (with_reducible refine wpList_new_sp rfl rfl ?_) | (refine wpList_store_newsp rfl _ _ rfl Zs ⟨p, n, 0⟩ rfl rfl ?_))
                refine wp_region_held_drew (S := Kept _) (by kernel_rfl) (Kept.refl _).drew (fun hHeld => ?_)
                refine rT 0 84 (.pointer (some ⟨w3.heap.size, 2, none⟩)) rfl rfl hHeld ?_
                simp only [pA, pN, sZ, sU]
                refine rC 1 85 (.int .i64 0) rfl rfl (fun _ h => kept_cell h ((c2))) hHeld ?_
                simp only [pA, pN, sZ, sU]
                refine rT 2 86 (.bool true) rfl rfl hHeld ?_
                simp only [pA, pN, sZ, sU]
                refine rT 3 87 (.bool true) rfl rfl hHeld ?_
                simp only [pA, pN, sZ, sU]
                refine rT 4 88 (.string t) rfl rfl hHeld ?_
                simp only [pA, pN, sZ, sU]
                refine rT 5 89 (.string more) rfl rfl hHeld ?_
                simp only [pA, pN, sZ, sU]
                refine rT 6 90 (.string (t ++ more)) rfl rfl hHeld ?_
                simp only [pA, pN, sZ, sU]
                refine rT 7 91 (.slice a ws.length cap) rfl rfl hHeld ?_
                simp only [pA, pN, sZ, sU]
                refine rY 9 93 rfl rfl (take_load_sp (by rfl) _ rfl w3.heap.size 0 rfl (⟨p, n, 0⟩) (fun _ h => SAt.range (SAt.kept (HS.out) h))) hHeld ?_
                simp only [pA, pN, sZ, sU]
                refine rR 8 rfl (fun K hK => ?_)
                rw [if_pos (by rfl)]
                go_simp
                refine (HO2.out _ (K4.out.trans hHeld)).mono ?_
                rintro e w4 ⟨rfl, gw4⟩
                refine hK.out _ _ (hHeld.trans gw4) (fun _ => ?_)
                replace hHeld := hHeld.trans gw4
                clear hK K
                refine rY 10 94 rfl rfl (take_eql_sp (by rfl) _ _ _ rfl (⟨p, n, 0⟩) (⟨p, n, 0⟩) rfl rfl (rfl)) hHeld ?_
                simp only [pA, pN, sZ, sU]
                refine rT 11 95 (.bool true) rfl rfl hHeld ?_
                simp only [pA, pN, sZ, sU]
                refine rT 12 6 (.bool true) rfl rfl hHeld ?_
                simp only [pA, pN, sZ, sU]
                refine wpAnyH_done (by kernel_rfl) ?_ _
                have K5 := Lib.hid (K4.out.trans hHeld)
                go_wp2
                go_ret
                exact ⟨rfl, K5.out⟩
              · rw [e1] at HO1
                rw [e2] at HO2
                clear e1 e2
                go_wp2_with fail
                refine (HO1.out).mono ?_
                rintro e w3 ⟨rfl, k3⟩
                have K3 := Lib.hid (HK.out.trans k3)
                have K4 := Lib.hid (K3.out.alloc (.cells (sl ⟨p, 0, 2⟩).toArray 26))
                have HS := Lib.hid (SAt.new w3 ⟨p, 0, 2⟩)
                have c2 := HS.out.err
                clear k3
                go_wp2_with (first | (with_reducible refine wpList_new_sp rfl rfl ?_) | (refine wpList_store_newsp rfl _ _ rfl Zs ⟨p, 0, 2⟩ rfl rfl ?_))
                refine wp_region_held_drew (S := Kept _) (by kernel_rfl) (Kept.refl _).drew (fun hHeld => ?_)
                refine rT 0 50 (.string t) rfl rfl hHeld ?_
                simp only [pA, pN, sZ, sU]
                refine rT 1 51 (.string more) rfl rfl hHeld ?_
                simp only [pA, pN, sZ, sU]
                refine rT 2 52 (.string (t ++ more)) rfl rfl hHeld ?_
                simp only [pA, pN, sZ, sU]
                refine rT 3 53 (.slice a ws.length cap) rfl rfl hHeld ?_
                simp only [pA, pN, sZ, sU]
                refine rY 5 55 rfl rfl (take_load_sp (by rfl) _ rfl w3.heap.size 0 rfl (⟨p, 0, 2⟩) (fun _ h => SAt.range (SAt.kept (HS.out) h))) hHeld ?_
                simp only [pA, pN, sZ, sU]
                refine rR 4 rfl (fun K hK => ?_)
                go_simp
                refine (HO2.out _ (K4.out.trans hHeld)).mono ?_
                rintro e w4 ⟨rfl, gw4⟩
                refine hK.out _ _ (hHeld.trans gw4) (fun _ => ?_)
                replace hHeld := hHeld.trans gw4
                clear hK K
                refine rY 6 56 rfl rfl (take_eql_sp (by rfl) _ _ _ rfl (⟨p, 0, 2⟩) (⟨p, 0, 2⟩) rfl rfl (rfl)) hHeld ?_
                simp only [pA, pN, sZ, sU]
                refine rT 7 6 (.bool true) rfl rfl hHeld ?_
                simp only [pA, pN, sZ, sU]
                refine wpAnyH_done (by kernel_rfl) ?_ _
                have K5 := Lib.hid (K4.out.trans hHeld)
                go_wp2
                go_ret
                exact ⟨rfl, K5.out⟩
              · rw [e1] at HO1
                have HEx := Lib.hid hex
                clear e1 hex HO2
                go_wp2_with fail
                refine (HO1.out).mono ?_
                rintro e w3 ⟨rfl, k3⟩
                have K3 := Lib.hid (HK.out.trans k3)
                have K4 := Lib.hid (K3.out.alloc (.cells (sl ⟨p, 0, 1⟩).toArray 26))
                have HS := Lib.hid (SAt.new w3 ⟨p, 0, 1⟩)
                have c2 := HS.out.err
                clear k3
                go_wp2_with (first | (with_reducible refine wpList_new_sp rfl rfl ?_) | (refine wpList_store_newsp rfl _ _ rfl Zs ⟨p, 0, 1⟩ rfl rfl ?_))
                generalize wr = W at *
                go_loopw [61] (fun t61 wr => ∃ k : Nat, t61 = .int .i64 k ∧ k ≤ ws.length ∧ (∀ j x, j < k → ws[j]? = some x → ¬ (t.size < x.size ∧ bs t <+: bs x)) ∧ Kept w wr) (fun t61 _ => 20 - (intOf t61).toNat)
                case atStart => exact ⟨0, rfl, by omega, fun j x hj => by omega, K4.out⟩
                case round =>
                  obtain ⟨k, rfl, hk, hno, hK⟩ := hrel
                  have HNo := Lib.hid hno
                  have HKr := Lib.hid hK
                  clear hno hK
                  have HWr := Lib.hid (HV.out.kept HKr.out)
                  by_cases hlt : k < ws.length
                  · obtain ⟨g, off, cap', ea, hg, hcap, hcell⟩ := HWr.out.at_ (by omega)
                    obtain ⟨rfl, rfl⟩ : a = some ⟨g, off, none⟩ ∧ cap = cap' := by simpa using ea
                    obtain ⟨x, hx⟩ : ∃ x, ws[k]? = some x := ⟨_, List.getElem?_eq_getElem hlt⟩
                    have hcx := hcell k x hx
                    have hxs := HSA.out k x hx
                    have HX := Lib.hid hx
                    clear ea hcell hx
                    have HNx : Hid (¬ (t.size < x.size ∧ bs t <+: bs x) → ∀ j y, j < k + 1 → ws[j]? = some y → ¬ (t.size < y.size ∧ bs t <+: bs y)) := by
                      intro hn j y hj hy
                      rcases Nat.lt_succ_iff_lt_or_eq.1 hj with h | h
                      · exact HNo.out j y h hy
                      · subst h
                        rw [HX.out] at hy
                        obtain rfl := Option.some.inj hy
                        exact hn
                    by_cases hz : t.size < x.size
                    · have hz' : (t.size : Int) < x.size := by omega
                      obtain ⟨c, hc⟩ : ∃ c, x.extract 0 t.size = c := ⟨_, rfl⟩
                      have hsl := run_head x t.size (by omega) c hc
                      have hpc := pf_cut t x (by omega)
                      rw [hc] at hpc
                      clear hc
                      cases hp : pf t x with
                      | true =>
                        rw [hp] at hpc
                        obtain ⟨p2, n2, e2⟩ := self_ok HAp.out (List.mem_of_getElem? HX.out)
                        have HO3 := HO.out x (by omega)
                        rw [e2] at HO3
                        have HO4 := Lib.hid (HO3 wr HKr.out)
                        clear HO3 e2 hp
                        go_wp2_with fail
                        refine (HO4.out).mono ?_
                        rintro e w5 ⟨rfl, k5⟩
                        have K5 := Lib.hid (HKr.out.trans k5)
                        clear k5
                        have hfe : ∀ w, (Instr.field 26 (sv ⟨p2, n2, 0⟩) 2).run Try.prog w = .ok (.int .i64 0) w := fun w => run_field_sp ⟨p2, n2, 0⟩ w
                        generalize (sv ⟨p2, n2, 0⟩) = vv at *
                        go_wp2
                        go_ret
                        exact ⟨rfl, K5.out⟩
                      | false =>
                        rw [hp] at hpc
                        have HN2 := Lib.hid (HNx.out (fun h => (pf_no _ _).1 hp h.2))
                        clear hp
                        go_wp2
                        go_roundw
                        case rel => exact ⟨k + 1, by go_num, by omega, HN2.out, HKr.out⟩
                        case measure => simp [intOf]; omega
                    · have hz' : ¬ (t.size : Int) < x.size := by omega
                      have HN2 := Lib.hid (HNx.out (fun h => hz h.1))
                      go_wp2
                      go_roundw
                      case rel => exact ⟨k + 1, by go_num, by omega, HN2.out, HKr.out⟩
                      case measure => simp [intOf]; omega
                  · exfalso
                    obtain ⟨x, hx, h1, h2⟩ := HEx.out
                    obtain ⟨j, hj, rfl⟩ := List.getElem_of_mem hx
                    exact HNo.out j _ (by omega) (List.getElem?_eq_getElem hj) ⟨h1, h2⟩
end Go.Proofs.Ytihmpglfghffiaa
