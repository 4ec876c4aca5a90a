/- The walk of ForsythCut. -/
import Derived.Test.YtkfjpecehighlaaDoorFoO
namespace Go.Proofs.YtkfjpecehighlaaDoor
open Go.RowKit
set_option linter.unusedVariables false
set_option linter.unusedSimpArgs false

theorem writeT_pos (B : List Int) : 1 ≤ (writeT B).length := by
  simp [writeT, txt]; omega
theorem conv_one (c : UInt8) (x : Int) (hx : x = (c.toNat : Int)) (w : World) :
    (convert 35 9 (.slice (some ⟨w.heap.size, 0, none⟩) 1 1)).run Tryd.prog (w.alloc (.cells #[.int .u8 x] 5)) = .ok (.string ⟨#[c]⟩) (w.alloc (.cells #[.int .u8 x] 5)) := by
  subst hx
  have h3 := run_convert_bytes_back (P := Tryd.prog) (w.alloc (.cells #[.int .u8 (c.toNat : Int)] 5)) 35 9 5 ⟨w.heap.size, 0, none⟩ 1 [c] Tryd.underlying35 Tryd.underlying5 Tryd.underlying9 ?_
  · exact h3
  · intro j hj
    match j, hj with
    | 0, _ => simp [Addr.add, go_sem]
theorem read_more (B : List Int) (hB : Brd B) (hR : rightB B = true) (c : UInt8) (w : World) :
    Calls Tryd.prog 9 #[.string ((⟨(writeT B).toArray⟩ : ByteArray) ++ ⟨#[c]⟩)] w fun e w' => e = .returned (.tuple #[.agg (cl Zb).toArray, .int .i64 (writeT B).length, .int .i64 2]) ∧ Kept w w' := by
  have h := more_reads (writeT_says ((rightB_iff B hB.1).1 hR)) c
  have e : ((⟨(writeT B).toArray⟩ : ByteArray) ++ ⟨#[c]⟩).data.toList = writeT B ++ [c] := by rw [bs_app]
  have hl := writeT_len B
  refine read_eq _ ?_ Zb _ 2 (by rw [e]; exact h) w
  have := len_size ((⟨(writeT B).toArray⟩ : ByteArray) ++ ⟨#[c]⟩)
  rw [e] at this
  simp only [List.length_append, List.length_cons, List.length_nil] at this
  omega
theorem walkForsythCut (B : List Int) (hB : Brd B) (n : Int) (wn : (Lit.int .u8 n).wf = true) (b : Int) (wb : (Lit.int .u8 b).wf = true) (w : World) :
    Calls Tryd.prog 5 #[.agg (cl B).toArray, .int .u8 n, .int .u8 b] w fun e w' => e = .returned (.bool true) ∧ Kept w w' := by
  have hbl := Lib.hid (heap_alloc_new w (.cells (cl B).toArray 24))
  have hk0 := Lib.hid ((Kept.refl w).alloc (.cells (cl B).toArray 24))
  have hz := Lib.hid (size_cl hB.1)
  have hzz := Lib.hid (size_cl Zb_brd.1)
  have H := Lib.hid hB
  have hmin : IntKind.u8.min = 0 := by decide
  have hmax : IntKind.u8.max = 255 := by decide
  have hn0 : 0 ≤ n ∧ n ≤ 255 := by simpa [Lit.wf, hmin, hmax] using wn
  have hb0 : 0 ≤ b ∧ b ≤ 255 := by simpa [Lit.wf, hmin, hmax] using wb
  clear hmin hmax
  clear hB wn wb
  cases hR : rightB B with
  | false =>
    go_enter Tryd.func5, Tryd.ntmps5
    go_wp2_with fail
    refine (fwakes _).mono ?_
    rintro e w1 ⟨rfl, g1⟩
    go_wp2_with (refine wpList_load_w (by rfl) _ rfl _ rfl _ (g1.heap hbl.out) hz.out ?_)
    refine (write_no B H.out hR _).mono ?_
    rintro e w2 ⟨rfl, g2⟩
    go_wp2
    go_ret
    exact ⟨rfl, hk0.out.trans (g1.trans g2)⟩
  | true =>
    obtain ⟨L, hL⟩ : ∃ L, (writeT B).length = L := ⟨_, rfl⟩
    have hL1 : 1 ≤ L := by rw [← hL]; exact writeT_pos B
    have hL2 : L ≤ 200 := by rw [← hL]; exact writeT_len B
    obtain ⟨k, hk⟩ : ∃ k, n.toNat % L = k := ⟨_, rfl⟩
    have hkL : k < L := by rw [← hk]; exact Nat.mod_lt _ (by omega)
    have e1 : n % (L : Int) = (k : Int) := by rw [← hk, Int.natCast_emod, Int.toNat_of_nonneg hn0.1]
    have e2 : n.tmod (L : Int) = (k : Int) := by rw [Int.tmod_eq_emod_of_nonneg hn0.1]; exact e1
    have e3 : ((L : Int) == 0) = false := beq_eq_false_iff_ne.2 (by omega)
    clear hk
    go_enter Tryd.func5, Tryd.ntmps5
    go_wp2_with fail
    refine (fwakes _).mono ?_
    rintro e w1 ⟨rfl, g1⟩
    go_wp2_with (refine wpList_load_w (by rfl) _ rfl _ rfl _ (g1.heap hbl.out) hz.out ?_)
    refine (write_yes B H.out hR _).mono ?_
    rintro e w2 ⟨rfl, g2⟩
    go_wp2_with fail
    have hsay := Lib.hid (writeT_says ((rightB_iff B H.out.1).1 hR))
    have hcut := Lib.hid (cut_reads hsay.out k (by rw [hL]; exact hkL))
    refine (read_eq ((⟨(writeT B).toArray⟩ : ByteArray).extract 0 k) (by have := writeT_len B; simp; omega) Zb k 1 (by have := hcut.out; simpa using this) _).mono ?_
    rintro e w3 ⟨rfl, g3⟩
    obtain ⟨c, hc⟩ : ∃ c : UInt8, b = (c.toNat : Int) := ⟨UInt8.ofNat b.toNat, by simp; omega⟩
    have hcv := conv_one c b hc (w3.alloc (.cells (cl Zb).toArray 24))
    rw [two_size] at hcv
    have HC := Lib.hid hc
    have hrc := Lib.hid (read_more B H.out hR c)
    rw [hL] at hrc
    have s1 : ¬ 9223372036854775807 < (writeT B).length + 1 := by omega
    have s2 : ¬ 9223372036854775807 < L + 1 := by omega
    clear hc
    go_wp2_with (first | (with_reducible refine wpList_new_b rfl rfl ?_) | ((with_reducible refine wpList_store_new rfl _ _ rfl Zb Zb Zb_len Zb_len ?_ ?_ ?_); exact rfl; exact rfl))
    refine (hrc.out _).mono ?_
    rintro e w4 ⟨rfl, g4⟩
    have HK := Lib.hid (((((hk0.out.trans ((g1.trans g2).trans g3)).alloc (.cells (cl Zb).toArray 24)).alloc (.cells #[.int .u8 b] 5)).trans g4).alloc (.cells (cl Zb).toArray 24))
    clear g1 g2 g3 g4 hcv
    go_wp2_with (first | (with_reducible refine wpList_new_b rfl rfl ?_) | ((with_reducible refine wpList_store_new rfl _ _ rfl Zb Zb Zb_len Zb_len ?_ ?_ ?_); exact rfl; exact rfl))
    go_ret
    exact ⟨rfl, HK.out⟩
end Go.Proofs.YtkfjpecehighlaaDoor
