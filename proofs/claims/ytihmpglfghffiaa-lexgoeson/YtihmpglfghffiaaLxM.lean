/- The examples; the laws of numbers, squares and words. -/
import Derived.Test.YtihmpglfghffiaaLxL
import Derived.Great.BuildSlice
namespace Go.Proofs.Ytihmpglfghffiaa
open Go.RowKit
set_option linter.unusedVariables false
set_option linter.unusedSimpArgs false
set_option maxRecDepth 100000
set_option maxHeartbeats 4000000

def tCat : ByteArray := ⟨#[99, 97, 116]⟩
def tCow : ByteArray := ⟨#[99, 111, 119]⟩
def tCar : ByteArray := ⟨#[99, 97, 114]⟩
def t65 : ByteArray := ⟨#[54, 53]⟩
theorem ap_cc : apB [tCat, tCow] = true := by
  rw [apB_iff]
  refine ⟨by simp, ?_, ?_⟩
  · intro x hx
    simp only [List.mem_cons, List.not_mem_nil, or_false] at hx
    rcases hx with rfl | rfl <;> simp [bs, tCat, tCow]
  · simp [bs, tCat, tCow, List.cons_prefix_cons]
theorem one_car : oneP tCar [tCat, tCow] 0 = ⟨2, 0, 2⟩ := by
  unfold oneP
  rw [if_pos ⟨by decide +kernel, ap_cc⟩]
  kernel_rfl
theorem num_65 : numP t65 0 1 64 = ⟨1, 0, 2⟩ := by kernel_rfl
theorem info_str : ∃ ie, Try.prog.info? 9 = some ie ∧ ie.zero = some (.string ⟨#[]⟩) ∧ ie.size = 1 := by
  have h : (Try.prog.info? 9).map (fun i => (i.zero, i.size)) = some (some (.string ⟨#[]⟩), 1) := by kernel_rfl
  cases hq : Try.prog.info? 9 with
  | none => simp [hq] at h
  | some i => simp [hq] at h; exact ⟨i, rfl, h.1, h.2⟩
theorem fill_cc : Instr.fill (fun i => some (i * 1, 1)) ((Array.range (2 * 1)).map ((Value.string ⟨#[]⟩).cells[· % (Value.string ⟨#[]⟩).cells.size]!)) [(0, .string tCat), (1, .string tCow)] = some #[.string tCat, .string tCow] := by kernel_rfl
theorem wpList_bslice_cc {ops : Array Oper} {rest : List Oper} {o : Oper} {a : Act} {w : World} {Q : Exit → Act → World → Prop} (hg : o.guard = none)
    (ho : o.op = .buildSlice 22 2 #[(0, .const (.string tCat)), (1, .const (.string tCow))])
    (h : wpList Try.prog ops Q rest (a.put o.dst (.slice (some ⟨w.heap.size, 0, none⟩) 2 2)) (w.alloc (.cells #[.string tCat, .string tCow] 9))) : wpList Try.prog ops Q (o :: rest) a w := by
  obtain ⟨ie, h1, h2, h3⟩ := info_str
  refine wpList_buildSlice hg 22 9 2 _ ho #[.string tCat, .string tCow] ie (.string ⟨#[]⟩) Try.underlying22 h1 h2 (by rw [h3]; decide) (by rw [h3]; decide) ?_ h
  rw [h3]
  have : ((#[(0, Operand.const (.string tCat)), (1, .const (.string tCow))] : Array (Nat × Operand)).map fun (i, x) => (i, a.eval x)).toList = [(0, .string tCat), (1, .string tCow)] := by simp [Act.eval]
  rw [this]
  exact fill_cc
theorem ccT (w : World) : LsT (w.alloc (.cells #[.string tCat, .string tCow] 9)) (.slice (some ⟨w.heap.size, 0, none⟩) 2 2) [tCat, tCow] := by
  refine .inr ⟨w.heap.size, 0, 2, rfl, by show _ < (w.heap.push _).size; simp, by simp, fun j x hx => ?_⟩
  rw [cell_of_row _ _ (0 + j) _ _ (0, 0) (heap_alloc_new w _)]
  match j, hx with
  | 0, hx => simpa using hx
  | 1, hx => simpa using hx
theorem lex_wakes (w : World) : Calls Try.prog 7 #[] w fun e w' => e = .returned (.bool true) ∧ Kept w w' := by
  have HN := Lib.hid (number_is t65 0 1 64 (by decide))
  rw [num_65] at HN
  have HO := Lib.hid (fun w v (h : LsT w v [tCat, tCow]) => oneOf_is tCar 0 [tCat, tCow] v w h (by decide) (by decide) (fun j x hx => by
    match j, hx with
    | 0, hx => have : x = tCat := by simpa using hx.symm
               rw [this]; decide
    | 1, hx => have : x = tCow := by simpa using hx.symm
               rw [this]; decide))
  rw [one_car] at HO
  go_enter Try.func7, Try.ntmps7
  go_wp2_with fail
  refine (HN.out _).mono ?_
  rintro e w1 ⟨rfl, k1⟩
  have K1 := Lib.hid k1
  have HT := Lib.hid (ccT w1)
  clear k1
  go_wp2_with (first | (refine wpList_bt_sew (by rfl) _ _ rfl 1 2 rfl rfl ?_) | (refine wpList_eql_sp (by rfl) _ _ _ rfl ⟨1, 0, 2⟩ rfl rfl ?_) | (refine wpList_bslice_cc rfl rfl ?_))
  refine (HO.out _ _ HT.out).mono ?_
  rintro e w2 ⟨rfl, k2⟩
  have K2 := Lib.hid ((K1.out.alloc _).trans k2)
  clear k2
  go_wp2_with (first | (refine wpList_bt_sew (by rfl) _ _ rfl 2 2 rfl rfl ?_) | (refine wpList_eql_sp (by rfl) _ _ _ rfl ⟨2, 0, 2⟩ rfl rfl ?_))
  go_ret
  exact ⟨rfl, K2.out⟩
theorem walkLexNumbers (t : ByteArray) (w0 : t.size ≤ maxLen) (i : Int) (wi : (Lit.int .i64 i).wf = true) (x y : Int) (wxy : (Lit.int .i64 x).wf = true ∧ (Lit.int .i64 y).wf = true) (w : World) :
    Calls Try.prog 4 #[.string t, .int .i64 i, .agg #[.int .i64 x, .int .i64 y]] w fun e w' => e = .returned (.bool true) ∧ Kept w w' := by
  unfold maxLen at w0
  clear wi wxy
  by_cases hl : 200 < t.size
  · have hl' : (200 : Int) < t.size := by omega
    go_enter Try.func4, Try.ntmps4
    go_wp2_with fail
    refine (lex_wakes _).mono ?_
    rintro e w1 ⟨rfl, k1⟩
    have K1 := Lib.hid (((Kept.refl w).alloc _).trans k1)
    clear k1
    go_wp2
    go_ret
    exact ⟨rfl, K1.out⟩
  · have hl' : ¬ (200 : Int) < t.size := by omega
    have HP := Lib.hid (number_is t i x y (by omega))
    have HR := Lib.hid (rnumber_is t i x y (by omega))
    generalize numP t i x y = G at *
    go_enter Try.func4, Try.ntmps4
    go_wp2_with fail
    refine (lex_wakes _).mono ?_
    rintro e w1 ⟨rfl, k1⟩
    have hbx : w1.heap[w.heap.size]? = some (.cells #[.int .i64 x, .int .i64 y] 30 (0, 0)) := k1.heap (heap_alloc_new w _)
    have c0 : w1.cell? ⟨w.heap.size, 0, none⟩ = some (.int .i64 x) := by rw [cell_of_row _ _ 0 _ _ (0, 0) hbx]; rfl
    have c1 : w1.cell? ⟨w.heap.size, 1, none⟩ = some (.int .i64 y) := by rw [cell_of_row _ _ 1 _ _ (0, 0) hbx]; rfl
    have K1 := Lib.hid (((Kept.refl w).alloc _).trans k1)
    clear k1 hbx
    go_wp2_with fail
    refine wp_region_held_drew (S := Kept _) (by kernel_rfl) (Kept.refl _).drew (fun hHeld => ?_)
    refine rT 0 12 (.string t) rfl rfl hHeld ?_
    simp only [pA, pN, sZ, sU]
    refine rT 1 13 (.int .i64 i) rfl rfl hHeld ?_
    simp only [pA, pN, sZ, sU]
    refine rT 2 14 (.pointer (some ⟨w.heap.size, 0, none⟩)) rfl rfl hHeld ?_
    simp only [pA, pN, sZ, sU]
    refine rC 3 15 (.int .i64 x) rfl rfl (fun _ h => kept_cell h ((c0))) hHeld ?_
    simp only [pA, pN, sZ, sU]
    refine rT 4 16 (.pointer (some ⟨w.heap.size, 1, none⟩)) rfl rfl hHeld ?_
    simp only [pA, pN, sZ, sU]
    refine rC 5 17 (.int .i64 y) rfl rfl (fun _ h => kept_cell h ((c1))) hHeld ?_
    simp only [pA, pN, sZ, sU]
    refine rT 7 19 (.string t) rfl rfl hHeld ?_
    simp only [pA, pN, sZ, sU]
    refine rT 8 20 (.int .i64 i) rfl rfl hHeld ?_
    simp only [pA, pN, sZ, sU]
    refine rT 9 21 (.pointer (some ⟨w.heap.size, 0, none⟩)) rfl rfl hHeld ?_
    simp only [pA, pN, sZ, sU]
    refine rC 10 22 (.int .i64 x) rfl rfl (fun _ h => kept_cell h ((c0))) hHeld ?_
    simp only [pA, pN, sZ, sU]
    refine rT 11 23 (.pointer (some ⟨w.heap.size, 1, none⟩)) rfl rfl hHeld ?_
    simp only [pA, pN, sZ, sU]
    refine rC 12 24 (.int .i64 y) rfl rfl (fun _ h => kept_cell h ((c1))) hHeld ?_
    simp only [pA, pN, sZ, sU]
    refine rR 6 rfl (fun K hK => ?_)
    go_simp
    refine (HP.out _).mono ?_
    rintro e w2 ⟨rfl, gw2⟩
    refine hK.out _ _ (hHeld.trans gw2) (fun _ => ?_)
    replace hHeld := hHeld.trans gw2
    clear hK K
    refine rR 13 rfl (fun K hK => ?_)
    go_simp
    refine (HR.out _).mono ?_
    rintro e w3 ⟨rfl, gw3⟩
    refine hK.out _ _ (hHeld.trans gw3) (fun _ => ?_)
    replace hHeld := hHeld.trans gw3
    clear hK K
    refine rY 14 26 rfl rfl (take_eql_sp (by rfl) _ _ _ rfl (G) (G) rfl rfl (rfl)) hHeld ?_
    simp only [pA, pN, sZ, sU]
    refine rT 15 6 (.bool true) rfl rfl hHeld ?_
    simp only [pA, pN, sZ, sU]
    refine wpAnyH_done (by kernel_rfl) ?_ _
    have K3 := Lib.hid (K1.out.trans hHeld)
    go_wp2
    go_ret
    exact ⟨rfl, K3.out⟩
end Go.Proofs.Ytihmpglfghffiaa
