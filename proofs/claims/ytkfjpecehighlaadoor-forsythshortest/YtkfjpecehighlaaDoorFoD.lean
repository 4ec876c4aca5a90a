/- The reader takes any sign; Read. -/
import Derived.Test.YtkfjpecehighlaaDoorFoC
namespace Go.Proofs.YtkfjpecehighlaaDoor
open Go.RowKit
set_option linter.unusedVariables false
set_option linter.unusedSimpArgs false

theorem take_slash (w : World) (g : Nat) (b : Bool) (R : World → Prop) (h : Calls Tryd.prog 26 #[.pointer (some ⟨g, 0, none⟩)] w fun e w' => e = .returned (.bool b) ∧ R w') :
    Calls Tryd.prog 15 #[.pointer (some ⟨g, 0, none⟩), .int .i32 47] w fun e w' => e = .returned (.bool b) ∧ R w' := by
  go_enter Tryd.func15, Tryd.ntmps15
  go_wp2_with fail
  refine h.mono ?_
  rintro e w1 ⟨rfl, hR⟩
  go_wp2
  go_ret
  exact ⟨rfl, hR⟩
theorem take_digit (w : World) (g : Nat) (b : Bool) (R : World → Prop) (q : Int) (h0 : 49 ≤ q) (h1 : q ≤ 56) (h : Calls Tryd.prog 27 #[.pointer (some ⟨g, 0, none⟩), .int .i64 (q - 48)] w fun e w' => e = .returned (.bool b) ∧ R w') :
    Calls Tryd.prog 15 #[.pointer (some ⟨g, 0, none⟩), .int .i32 q] w fun e w' => e = .returned (.bool b) ∧ R w' := by
  have b0 : (q == 47) = false := beq_eq_false_iff_ne.2 (by omega)
  have e1 : IntKind.i32.wrap (q - 48) = q - 48 := by
    have : q = 49 ∨ q = 50 ∨ q = 51 ∨ q = 52 ∨ q = 53 ∨ q = 54 ∨ q = 55 ∨ q = 56 := by omega
    rcases this with rfl | rfl | rfl | rfl | rfl | rfl | rfl | rfl <;> decide
  have e2 : IntKind.i64.wrap (q - 48) = q - 48 := by
    have : q = 49 ∨ q = 50 ∨ q = 51 ∨ q = 52 ∨ q = 53 ∨ q = 54 ∨ q = 55 ∨ q = 56 := by omega
    rcases this with rfl | rfl | rfl | rfl | rfl | rfl | rfl | rfl <;> decide
  go_enter Tryd.func15, Tryd.ntmps15
  go_wp2_with fail
  refine h.mono ?_
  rintro e w1 ⟨rfl, hR⟩
  go_wp2
  go_ret
  exact ⟨rfl, hR⟩
theorem take_other (w : World) (g : Nat) (b : Bool) (R : World → Prop) (q : Int) (h47 : q ≠ 47) (hn : q < 49 ∨ 56 < q) (h : Calls Tryd.prog 28 #[.pointer (some ⟨g, 0, none⟩), .int .i32 q] w fun e w' => e = .returned (.bool b) ∧ R w') :
    Calls Tryd.prog 15 #[.pointer (some ⟨g, 0, none⟩), .int .i32 q] w fun e w' => e = .returned (.bool b) ∧ R w' := by
  have b0 : (q == 47) = false := beq_eq_false_iff_ne.2 h47
  clear h47
  by_cases h0 : q < 49
  · have b1 : ¬ 49 ≤ q := by omega
    clear hn h0
    go_enter Tryd.func15, Tryd.ntmps15
    go_wp2_with fail
    refine h.mono ?_
    rintro e w1 ⟨rfl, hR⟩
    go_wp2
    go_ret
    exact ⟨rfl, hR⟩
  · have b1 : 49 ≤ q := by omega
    have b2 : ¬ q ≤ 56 := by omega
    clear hn h0
    go_enter Tryd.func15, Tryd.ntmps15
    go_wp2_with fail
    refine h.mono ?_
    rintro e w1 ⟨rfl, hR⟩
    go_wp2
    go_ret
    exact ⟨rfl, hR⟩
/-- The reader where a beginning says s. -/
def RdS (w : World) (g : Nat) (s : St) : Prop := Rd w g (bd s.1) (s.2.2 : Int) (7 - (s.2.1 : Int))
theorem take_yes (w : World) (g : Nat) (s s' : St) (hi : Inv s) (h : RdS w g s) (c : UInt8) (hs : stp c s = some s') :
    Calls Tryd.prog 15 #[.pointer (some ⟨g, 0, none⟩), .int .i32 (c.toNat : Nat)] w fun e w' => e = .returned (.bool true) ∧ (RdS w' g s' ∧ KeptB g w w') := by
  obtain ⟨i1, i2, i3, i4⟩ := hi
  unfold stp at hs
  by_cases h47 : c.toNat = 47
  · rw [if_pos h47] at hs
    split at hs
    · rename_i hh
      cases hs
      rw [h47]
      refine take_slash w g true _ ((down_yes w g _ _ _ h (by omega) (by omega) (by omega)).mono ?_)
      rintro e w' ⟨rfl, a, b⟩
      refine ⟨rfl, ?_, b⟩
      unfold RdS
      have : (7 : Int) - ((s.2.1 + 1 : Nat) : Int) = 7 - (s.2.1 : Int) - 1 := by omega
      simp only [this]
      exact a
    · cases hs
  · rw [if_neg h47] at hs
    by_cases hd : 49 ≤ c.toNat ∧ c.toNat ≤ 56
    · rw [if_pos hd] at hs
      split at hs
      · rename_i hh
        cases hs
        refine take_digit w g true _ _ (by omega) (by omega) ((skip_yes w g _ _ _ _ h (by omega) (by omega) (by omega) (by omega) (by omega)).mono ?_)
        rintro e w' ⟨rfl, a, b⟩
        refine ⟨rfl, ?_, b⟩
        unfold RdS
        rw [bd_zeros]
        have : ((s.2.2 + (c.toNat - 48) : Nat) : Int) = (s.2.2 : Int) + ((c.toNat : Int) - 48) := by omega
        simp only [this]
        exact a
      · cases hs
    · rw [if_neg hd] at hs
      split at hs
      · cases hs
      · rename_i hm
        split at hs
        · rename_i hr
          cases hs
          obtain ⟨n, hn, e1, e2⟩ := manOf_man c hm
          have hlow : c.toNat < 128 := by
            refine Classical.byContradiction fun hh => hm (manOf_high c (by omega))
          refine take_other w g true _ _ (by omega) (by omega) ((stand_yes w g _ (bd_brd _ i4) _ _ h (by omega) (by omega) (by omega) (by omega) c.toNat n hn (by rw [enc_low c hlow, e1])).mono ?_)
          rintro e w' ⟨rfl, a, b⟩
          refine ⟨rfl, ?_, b⟩
          unfold RdS
          have e3 : ((7 - (s.2.1 : Int)) * 8 + (s.2.2 : Int)).toNat = 8 * (7 - s.2.1) + s.2.2 := by omega
          rw [e3, ← e2, ← bd_man s.1 s.2.1 s.2.2 (manOf c) i1 hr i3] at a
          exact a
        · cases hs
theorem take_no (w : World) (g : Nat) (s : St) (hi : Inv s) (h : RdS w g s) (c : UInt8) (hc : c.toNat < 128) (hs : stp c s = none) :
    Calls Tryd.prog 15 #[.pointer (some ⟨g, 0, none⟩), .int .i32 (c.toNat : Nat)] w fun e w' => e = .returned (.bool false) ∧ Kept w w' := by
  obtain ⟨i1, i2, i3, i4⟩ := hi
  unfold stp at hs
  by_cases h47 : c.toNat = 47
  · rw [if_pos h47] at hs
    split at hs
    · cases hs
    · rw [h47]
      refine take_slash w g false _ ((down_no w g _ _ _ h (by omega)).mono ?_)
      rintro e w' ⟨rfl, rfl⟩
      exact ⟨rfl, Kept.refl _⟩
  · rw [if_neg h47] at hs
    by_cases hd : 49 ≤ c.toNat ∧ c.toNat ≤ 56
    · rw [if_pos hd] at hs
      split at hs
      · cases hs
      · refine take_digit w g false _ _ (by omega) (by omega) ((skip_no w g _ _ _ _ h (by omega) (by omega) (by omega) (by omega) (by omega)).mono ?_)
        rintro e w' ⟨rfl, rfl⟩
        exact ⟨rfl, Kept.refl _⟩
    · rw [if_neg hd] at hs
      split at hs
      · rename_i hm
        exact take_other w g false _ _ (by omega) (by omega) (stand_no_of w g c.toNat (by rw [enc_low c hc]; exact hm))
      · rename_i hm
        split at hs
        · cases hs
        · obtain ⟨n, hn, e1, e2⟩ := manOf_man c hm
          exact take_other w g false _ _ (by omega) (by omega) (stand_no_full w g _ _ _ h (by omega) c.toNat n hn (by rw [enc_low c hc, e1]))
theorem take_high (w : World) (g : Nat) (q : Nat) (hq : 128 ≤ q) :
    Calls Tryd.prog 15 #[.pointer (some ⟨g, 0, none⟩), .int .i32 (q : Nat)] w fun e w' => e = .returned (.bool false) ∧ Kept w w' := by
  refine take_other w g false _ _ (by omega) (by omega) ?_
  by_cases h : ofT (Utf8.encode (q : Int)) = 0
  · exact stand_no_of w g q h
  · obtain ⟨n, hn, hx⟩ := ofT_inv _ h
    rcases hx with hx | hx
    · have := enc_high q hq
      rw [hx] at this
      simp [lettN, ByteArray.size] at this
    · exact stand_no_sign w g q n hn hx
/-- A new reader. -/
theorem info_rd : (Tryd.prog.info? 42).map (fun i => (i.zero, i.size)) = some (some (.agg (rc Zb 0 0).toArray), 66) := by kernel_rfl
theorem rc_size (B : List Int) (h : B.length = 64) (f r : Int) : (rc B f r).toArray.size = 66 := by simp [rc, cl_length, h]
theorem rc_one (B : List Int) (f r : Int) : (rc B f r).toArray.all (·.oneCell') = true := by
  refine all_oneCell_toArray fun v hv => ?_
  unfold rc at hv
  rcases List.mem_append.1 hv with hv | hv
  · unfold cl at hv
    obtain ⟨x, _, rfl⟩ := List.mem_map.1 hv
    rfl
  · simp at hv
    rcases hv with rfl | rfl <;> rfl
theorem wpList_build_rd {ops : Array Oper} {rest : List Oper} {o : Oper} {a : Act} {w : World} {Q : Exit → Act → World → Prop} (hw : Region.wanted o (yielded ops a.tmps) = true) (x : Operand) (ho : o.op = .build 42 #[(2, x)]) (hx : a.eval x = .int .i64 7)
    (h : wpList Tryd.prog ops Q rest (a.put o.dst (.agg (rc Zb 0 7).toArray)) w) : wpList Tryd.prog ops Q (o :: rest) a w :=
  wpList_step fun _ hK => by
    rw [if_pos hw]
    have hf' : Tryd.prog.built 42 [(2, .int .i64 7)] = some (rc Zb 0 7).toArray := by kernel_rfl
    have hf : Tryd.prog.built 42 ((#[(2, x)] : Array (Nat × Operand)).map fun (i, x) => (i, a.eval x)).toList = some (rc Zb 0 7).toArray := by
      rw [← hf']; simp [hx]
    exact wp_build _ _ ho (by rw [hf]; rfl) (by rw [hf]; exact hK _ _ h)
theorem wpList_new_rd {ops : Array Oper} {rest : List Oper} {o : Oper} {a : Act} {w : World} {Q : Exit → Act → World → Prop} (hgd : o.guard = none) (ho : o.op = .alloc 42)
    (h : wpList Tryd.prog ops Q rest (a.put o.dst (.pointer (some ⟨w.heap.size, 0, none⟩))) (w.alloc (.cells (rc Zb 0 0).toArray 42))) : wpList Tryd.prog ops Q (o :: rest) a w := by
  refine wpList_plain hgd fun _ hK => ?_
  unfold Oper.wp execOp
  simp only [ho, Instr.alloc, Sem.run_bind, (zero_of_info info_rd).1, Result.andThen_ok, newVar, newRow, Value.cells]
  exact hK _ _ h
theorem wpList_store_rd {ops : Array Oper} {rest : List Oper} {o : Oper} {a : Act} {w : World} {Q : Exit → Act → World → Prop} (hgd : o.guard = none) (x y : Operand) (ho : o.op = .store 42 x y)
    (hx : a.eval x = .pointer (some ⟨w.heap.size, 0, none⟩)) (hy : a.eval y = .agg (rc Zb 0 7).toArray)
    (h : wpList Tryd.prog ops Q rest (a.put o.dst undef) (w.alloc (.cells (rc Zb 0 7).toArray 42))) : wpList Tryd.prog ops Q (o :: rest) a (w.alloc (.cells (rc Zb 0 0).toArray 42)) := by
  refine wpList_store_row hgd 42 x y ho w.heap.size (rc Zb 0 7).toArray hx hy 42 _ (heap_alloc_new w _) (by rw [rc_size _ Zb_brd.1]; kernel_rfl) (by rw [rc_size _ Zb_brd.1, rc_size _ Zb_brd.1]) (rc_one _ _ _) ?_
  rw [World.setRow_alloc_new]
  exact h
end Go.Proofs.YtkfjpecehighlaaDoor
