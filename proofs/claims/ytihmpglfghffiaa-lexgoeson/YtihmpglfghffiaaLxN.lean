/- The laws of squares and lines, and of words. -/
import Derived.Test.YtihmpglfghffiaaLxM
namespace Go.Proofs.Ytihmpglfghffiaa
open Go.RowKit
set_option linter.unusedVariables false
set_option linter.unusedSimpArgs false
set_option maxRecDepth 100000
set_option maxHeartbeats 4000000

theorem wpList_store_newsp {ops : Array Oper} {rest : List Oper} {o : Oper} {a : Act} {w : World} {Q : Exit → Act → World → Prop} (hgd : o.guard = none) (x y : Operand) (ho : o.op = .store 26 x y)
    (j k : Sp) (hx : a.eval x = .pointer (some ⟨w.heap.size, 0, none⟩)) (hy : a.eval y = sv k)
    (h : wpList Try.prog ops Q rest (a.put o.dst undef) (w.alloc (.cells (sl k).toArray 26))) : wpList Try.prog ops Q (o :: rest) a (w.alloc (.cells (sl j).toArray 26)) := by
  refine wpList_store_row hgd 26 x y ho w.heap.size (sl k).toArray hx hy 26 _ (heap_alloc_new w _) (sl_sz k) rfl (sl_one _) ?_
  rw [World.setRow_alloc_new]
  exact h
theorem wpList_store_newln {ops : Array Oper} {rest : List Oper} {o : Oper} {a : Act} {w : World} {Q : Exit → Act → World → Prop} (hgd : o.guard = none) (x y : Operand) (ho : o.op = .store 36 x y)
    (b0 : ByteArray) (j : Sp) (b : ByteArray) (k : Sp) (hx : a.eval x = .pointer (some ⟨w.heap.size, 0, none⟩)) (hy : a.eval y = .agg (ll b k).toArray)
    (h : wpList Try.prog ops Q rest (a.put o.dst undef) (w.alloc (.cells (ll b k).toArray 36))) : wpList Try.prog ops Q (o :: rest) a (w.alloc (.cells (ll b0 j).toArray 36)) := by
  refine wpList_store_row hgd 36 x y ho w.heap.size (ll b k).toArray hx hy 36 _ (heap_alloc_new w _) (ll_sz b k) rfl (ll_one _ _) ?_
  rw [World.setRow_alloc_new]
  exact h
theorem wpList_load_sp {ops : Array Oper} {rest : List Oper} {op : Oper} {a : Act} {w : World} {Q : Exit → Act → World → Prop} (hw : Region.wanted op (yielded ops a.tmps) = true) (x : Operand) (ho : op.op = .load 26 x)
    (g off : Nat) (hx : a.eval x = .pointer (some ⟨g, off, none⟩)) (y : Sp) (hc : w.rangeAt g off (sl y))
    (h : wpList Try.prog ops Q rest (a.put op.dst (sv y)) w) : wpList Try.prog ops Q (op :: rest) a w :=
  wpList_step fun _ hK => by
    rw [if_pos hw]
    exact wp_load_mid 26 x ho g off hx (sl y) _ hc Try.underlying26 rfl sizeS (hK _ _ h)
theorem take_load_sp {ops : Array Oper} {S : World → Prop} {op : Oper} {a : Act} (hw : Region.wanted op (yielded ops a.tmps) = true) (x : Operand) (ho : op.op = .load 26 x)
    (g off : Nat) (hx : a.eval x = .pointer (some ⟨g, off, none⟩)) (y : Sp) (hS : ∀ w, S w → w.rangeAt g off (sl y)) : YieldsIf Try.prog ops S op (sv y) a :=
  yieldsIf_load_mid hw 26 x ho g off hx (sl y) _ hS Try.underlying26 rfl sizeS
theorem SAt.range {w : World} {g : Nat} {x : Sp} (h : SAt w g x) : w.rangeAt g 0 (sl x) := by
  intro j v hv
  rw [Nat.zero_add, cell_of_row _ _ j _ _ (0, 0) h.at_]
  simpa using hv
theorem LAt.range {w : World} {g : Nat} {b : ByteArray} {x : Sp} (h : LAt w g b x) : w.rangeAt g 1 (sl x) := by
  intro j v hv
  rw [cell_of_row _ _ (1 + j) _ _ (0, 0) h.at_, Nat.add_comm]
  simpa [ll, sl] using hv
theorem LAt.text {w : World} {g : Nat} {b : ByteArray} {x : Sp} (h : LAt w g b x) : w.cell? ⟨g, 0, none⟩ = some (.string b) := by
  rw [cell_of_row _ _ 0 _ _ (0, 0) h.at_]; rfl
theorem walkLexSquares (t : ByteArray) (w0 : t.size ≤ maxLen) (i : Int) (wi : (Lit.int .i64 i).wf = true) (w : World) :
    Calls Try.prog 5 #[.string t, .int .i64 i] w fun e w' => e = .returned (.bool true) ∧ Kept w w' := by
  unfold maxLen at w0
  clear wi
  by_cases hl : 200 < t.size
  · have hl' : (200 : Int) < t.size := by omega
    go_enter Try.func5, Try.ntmps5
    go_wp2_with fail
    refine (lex_wakes _).mono ?_
    rintro e w1 ⟨rfl, k1⟩
    have K1 := Lib.hid k1
    clear k1
    go_wp2
    go_ret
    exact ⟨rfl, K1.out⟩
  · have hl' : ¬ (200 : Int) < t.size := by omega
    have HP := Lib.hid (square_is t i (by omega))
    have HR := Lib.hid (rsquare_is t i (by omega))
    have HPL := Lib.hid (line_is t i (by omega))
    have HRL := Lib.hid (rline_is t i (by omega))
    generalize sqP t i = G at *
    generalize lnT t i = T at *
    generalize lnS t i = X at *
    go_enter Try.func5, Try.ntmps5
    go_wp2_with fail
    refine (lex_wakes _).mono ?_
    rintro e w1 ⟨rfl, k1⟩
    have K1 := Lib.hid k1
    clear k1
    go_wp2_with fail
    refine (HPL.out _).mono ?_
    rintro e w2 ⟨rfl, k2⟩
    have K2 := Lib.hid (K1.out.trans k2)
    have HA := Lib.hid (SAt.new w2 X)
    clear k2
    go_wp2_with (first | (with_reducible refine wpList_new_sp rfl rfl ?_) | (refine wpList_store_newsp rfl _ _ rfl Zs X rfl rfl ?_))
    refine (HRL.out _).mono ?_
    rintro e w3 ⟨rfl, k3⟩
    have K3 := Lib.hid ((K2.out.alloc _).trans k3)
    have HA3 := Lib.hid (HA.out.kept k3)
    have HB := Lib.hid (LAt.new w3 T X)
    have hA4 := (Kept.refl w3).alloc (.cells (ll T X).toArray 36)
    have HA4 := Lib.hid (HA3.out.kept hA4)
    clear k3 hA4
    go_wp2_with (first | (with_reducible refine wpList_new_ln rfl rfl ?_) | (refine wpList_store_newln rfl _ _ rfl _ Zs T X rfl rfl ?_))
    refine (HP.out _).mono ?_
    rintro e w4 ⟨rfl, k4⟩
    have K4 := Lib.hid ((K3.out.alloc _).trans k4)
    have HA5 := Lib.hid (HA4.out.kept k4)
    have HB5 := Lib.hid (HB.out.kept k4)
    clear k4
    go_wp2_with fail
    refine (HR.out _).mono ?_
    rintro e w5 ⟨rfl, k5⟩
    have K5 := Lib.hid (K4.out.trans k5)
    have HA6 := Lib.hid (HA5.out.kept k5)
    have HB6 := Lib.hid (HB5.out.kept k5)
    have c0 := HB6.out.text
    clear k5
    go_wp2_with (first | (refine wpList_eql_sp (by rfl) _ _ _ rfl G rfl rfl ?_) | (refine wpList_load_sp (by rfl) _ rfl w2.heap.size 0 rfl X HA6.out.range ?_) | (refine wpList_load_sp (by rfl) _ rfl w3.heap.size 1 rfl X HB6.out.range ?_) | (refine wpList_eql_sp (by rfl) _ _ _ rfl X rfl rfl ?_))
    go_ret
    exact ⟨rfl, K5.out⟩
theorem walkLexWords (t : ByteArray) (w0 : t.size ≤ maxLen) (i : Int) (wi : (Lit.int .i64 i).wf = true) (v : Value) (ws : List ByteArray) (w : World) (hv : LsT w v ws) :
    Calls Try.prog 3 #[.string t, .int .i64 i, v] w fun e w' => e = .returned (.bool true) ∧ Kept w w' := by
  unfold maxLen at w0
  clear wi
  obtain ⟨a, cap, rfl⟩ := hv.slice
  have HV := Lib.hid hv
  clear hv
  by_cases hl : 200 < t.size
  · have hl' : (200 : Int) < t.size := by omega
    go_enter Try.func3, Try.ntmps3
    go_wp2_with fail
    refine (lex_wakes _).mono ?_
    rintro e w1 ⟨rfl, k1⟩
    have K1 := Lib.hid k1
    clear k1
    go_wp2
    go_ret
    exact ⟨rfl, K1.out⟩
  · have hl' : ¬ (200 : Int) < t.size := by omega
    by_cases hn : 20 < ws.length
    · have hn' : (20 : Int) < ws.length := by omega
      go_enter Try.func3, Try.ntmps3
      go_wp2_with fail
      refine (lex_wakes _).mono ?_
      rintro e w1 ⟨rfl, k1⟩
      have K1 := Lib.hid k1
      clear k1
      go_wp2
      go_ret
      exact ⟨rfl, K1.out⟩
    · have hn' : ¬ (20 : Int) < ws.length := by omega
      go_enter Try.func3, Try.ntmps3
      go_wp2_with fail
      refine (lex_wakes _).mono ?_
      rintro e w1 ⟨rfl, k1⟩
      have K1 := Lib.hid k1
      clear k1
      go_wp2
      go_loopw [20] (fun t20 wr => ∃ k : Nat, t20 = .int .i64 k ∧ k ≤ ws.length ∧ (∀ j x, j < k → ws[j]? = some x → x.size ≤ 50) ∧ Kept w wr) (fun t20 _ => 20 - (intOf t20).toNat)
      case atStart => exact ⟨0, rfl, by omega, fun j x hj => by omega, K1.out⟩
      case round =>
        obtain ⟨k, rfl, hk, hsz, hK⟩ := hrel
        have HSZ := Lib.hid hsz
        have HK := Lib.hid hK
        clear hsz hK
        have HWr := Lib.hid (HV.out.kept HK.out)
        by_cases hlt : k < ws.length
        · obtain ⟨g, off, cap', ea, hg, hcap, hcell⟩ := HWr.out.at_ (by omega)
          obtain ⟨rfl, rfl⟩ : a = some ⟨g, off, none⟩ ∧ cap = cap' := by simpa using ea
          obtain ⟨x, hx⟩ : ∃ x, ws[k]? = some x := ⟨_, List.getElem?_eq_getElem hlt⟩
          have hcx := hcell k x hx
          have HX := Lib.hid hx
          clear ea hcell hx
          by_cases hs : 50 < x.size
          · have hs' : (50 : Int) < x.size := by omega
            go_wp2
            go_ret
            exact ⟨rfl, HK.out⟩
          · have hs' : ¬ (50 : Int) < x.size := by omega
            have HP := Lib.hid (word_is t x i (by omega) (by omega))
            have HR := Lib.hid (rword_is t x i (by omega) (by omega))
            have HSZ2 : Hid (∀ j y, j < k + 1 → ws[j]? = some y → y.size ≤ 50) := by
              intro j y hj hy
              rcases Nat.lt_succ_iff_lt_or_eq.1 hj with h | h
              · exact HSZ.out j y h hy
              · subst h
                rw [HX.out] at hy
                obtain rfl := Option.some.inj hy
                omega
            generalize wordP t x i = G at *
            go_wp2_with fail
            refine wp_region_held_drew (S := Kept _) (by kernel_rfl) (Kept.refl _).drew (fun hHeld => ?_)
            refine rT 0 29 (.string t) rfl rfl hHeld ?_
            simp only [pA, pN, sZ, sU]
            refine rT 1 30 (.int .i64 i) rfl rfl hHeld ?_
            simp only [pA, pN, sZ, sU]
            refine rT 2 31 (.slice (some ⟨g, off, none⟩) ws.length cap) rfl rfl hHeld ?_
            simp only [pA, pN, sZ, sU]
            refine rT 3 32 (.int .i64 k) rfl rfl hHeld ?_
            simp only [pA, pN, sZ, sU]
            refine rT 4 33 (.pointer (some ⟨g, off + k, none⟩)) rfl rfl hHeld ?_
            simp only [pA, pN, sZ, sU]
            refine rC 5 34 (.string x) rfl rfl (fun _ h => kept_cell h ((hcx))) hHeld ?_
            simp only [pA, pN, sZ, sU]
            refine rT 7 36 (.string t) rfl rfl hHeld ?_
            simp only [pA, pN, sZ, sU]
            refine rT 8 37 (.int .i64 i) rfl rfl hHeld ?_
            simp only [pA, pN, sZ, sU]
            refine rT 9 38 (.slice (some ⟨g, off, none⟩) ws.length cap) rfl rfl hHeld ?_
            simp only [pA, pN, sZ, sU]
            refine rT 10 39 (.int .i64 k) rfl rfl hHeld ?_
            simp only [pA, pN, sZ, sU]
            refine rT 11 40 (.pointer (some ⟨g, off + k, none⟩)) rfl rfl hHeld ?_
            simp only [pA, pN, sZ, sU]
            refine rC 12 41 (.string x) rfl rfl (fun _ h => kept_cell h ((hcx))) hHeld ?_
            simp only [pA, pN, sZ, sU]
            refine rR 6 rfl (fun K hK => ?_)
            go_simp
            refine (HP.out _).mono ?_
            rintro e w2 ⟨rfl, gw2⟩
            refine hK.out _ _ (hHeld.trans gw2) (fun _ => ?_)
            replace hHeld := hHeld.trans gw2
            clear hK K
            refine rR 13 rfl (fun K hK => ?_)
            go_simp
            refine (HR.out _).mono ?_
            rintro e w3 ⟨rfl, gw3⟩
            refine hK.out _ _ (hHeld.trans gw3) (fun _ => ?_)
            replace hHeld := hHeld.trans gw3
            clear hK K
            refine rY 14 43 rfl rfl (take_neq_sp (by rfl) _ _ _ rfl (G) (G) rfl rfl (rfl)) hHeld ?_
            simp only [pA, pN, sZ, sU]
            refine wpAnyH_done (by kernel_rfl) ?_ _
            have HK3 := Lib.hid (HK.out.trans hHeld)
            go_wp2
            go_roundw
            case rel => exact ⟨k + 1, by go_num, by omega, HSZ2.out, HK3.out⟩
            case measure => simp [intOf]; omega
        · have HP := Lib.hid (oneOf_is t i ws _ wr HWr.out (by omega) (by omega) (fun j x hx => by
            have h1 := (List.getElem?_eq_some_iff.1 hx).1
            have := HSZ.out j x (by omega) hx
            omega))
          have HR := Lib.hid (fun w1 (k1 : Kept wr w1) => roneOf_is t i ws _ w1 (HWr.out.kept k1) (by omega) (by omega) (fun j x hx => by
            have h1 := (List.getElem?_eq_some_iff.1 hx).1
            have := HSZ.out j x (by omega) hx
            omega))
          generalize oneP t ws i = G at *
          go_wp2_with fail
          refine (HP.out).mono ?_
          rintro e w2 ⟨rfl, k2⟩
          have HR2 := Lib.hid (HR.out w2 k2)
          have K2 := Lib.hid (HK.out.trans k2)
          clear k2
          go_wp2_with fail
          refine (HR2.out).mono ?_
          rintro e w3 ⟨rfl, k3⟩
          have K3 := Lib.hid (K2.out.trans k3)
          clear k3
          go_wp2_with (refine wpList_eql_sp (by rfl) _ _ _ rfl G rfl rfl ?_)
          go_ret
          exact ⟨rfl, K3.out⟩
end Go.Proofs.Ytihmpglfghffiaa
