/- Steps in memory; the small functions: within, There, refused, stuck, common, fits. -/
import Derived.Test.YtnlgjakohoimhaaDoorLxA
import Derived.Test.YtnlgjakohoimhaaDoorKp
import Derived.Laws.Strings3
import Derived.Deep.QuietTactic
import Derived.Deep.WholeRow
import Derived.Laws.Tables
namespace Go.Proofs.YtnlgjakohoimhaaDoor
open Go.RowKit
set_option linter.unusedVariables false
set_option linter.unusedSimpArgs false
set_option maxRecDepth 100000

theorem Kept.setRow {a w : World} (h : Kept a w) {g : Nat} (hg : a.heap.size ≤ g) (c : Array Value) : Kept a (w.setRow g c) :=
  ⟨h.os, h.output, by simpa using h.size, fun k hk => (setRow_other w g k c (by omega)).trans (h.block k hk)⟩
theorem wpList_built {P : Program} {ops : Array Oper} {rest : List Oper} {o : Oper} {a : Act} {w : World} {Q : Exit → Act → World → Prop} (hg : o.guard = none) (t : TypeId) (parts : Array (Nat × Operand)) (ho : o.op = .build t parts)
    (cells : Array Value) (hf : P.built t (parts.map fun (i, x) => (i, a.eval x)).toList = some cells)
    (h : wpList P ops Q rest (a.put o.dst (.agg cells)) w) : wpList P ops Q (o :: rest) a w :=
  wpList_build hg t parts ho (by rw [hf]; rfl) (by rw [hf]; exact h)
def Zs : Sp := ⟨0, 0, 0⟩
/-- A block that holds a step. -/
structure SAt (w : World) (g : Nat) (x : Sp) : Prop where
  at_ : w.heap[g]? = some (.cells (sl x).toArray 27 (0, 0))
theorem SAt.kept {w w' : World} {g : Nat} {x : Sp} (h : SAt w g x) (k : Kept w w') : SAt w' g x := ⟨k.heap h.at_⟩
theorem SAt.new (w : World) (x : Sp) : SAt (w.alloc (.cells (sl x).toArray 27)) w.heap.size x := ⟨heap_alloc_new w _⟩
theorem SAt.row {w : World} {g : Nat} {x : Sp} (h : SAt w g x) (y : Sp) : SAt (w.setRow g (sl y).toArray) g y := ⟨setRow_heap _ _ _ _ _ _ h.at_⟩
theorem sizeS : (Tryd.prog.info? 27).map (·.size) = some 3 := by kernel_rfl
theorem sl_sz (x : Sp) : (Tryd.prog.info? 27).map (·.size) = some (sl x).toArray.size := by rw [sizeS]; rfl
theorem sl_one (x : Sp) : (sl x).toArray.all (·.oneCell') = true := by
  rw [Array.all_eq_true_iff_forall_mem]
  intro v hv
  simp only [List.mem_toArray, sl, List.mem_cons, List.not_mem_nil, or_false] at hv
  rcases hv with rfl | rfl | rfl <;> rfl
theorem sv_sl (x : Sp) : sv x = .agg (sl x).toArray := rfl
theorem zeroSp : (Tryd.prog.info? 27).map (fun i => (i.zero, i.size)) = some (some (.agg (sl Zs).toArray), 3) := by kernel_rfl
theorem run_zero_sp (w : World) : (zeroValue 27).run Tryd.prog w = .ok (.agg (sl Zs).toArray) w := (zero_of_info zeroSp).1 w
theorem wpList_new_sp {ops : Array Oper} {rest : List Oper} {o : Oper} {a : Act} {w : World} {Q : Exit → Act → World → Prop} (hgd : o.guard = none) (ho : o.op = .alloc 27)
    (h : wpList Tryd.prog ops Q rest (a.put o.dst (.pointer (some ⟨w.heap.size, 0, none⟩))) (w.alloc (.cells (sl Zs).toArray 27))) : wpList Tryd.prog ops Q (o :: rest) a w := by
  refine wpList_plain hgd fun _ hK => ?_
  unfold Oper.wp execOp
  simp only [ho, Instr.alloc, Sem.run_bind, run_zero_sp, Result.andThen_ok, newVar, newRow, Value.cells]
  exact hK _ _ h
theorem wpList_store_sp {ops : Array Oper} {rest : List Oper} {o : Oper} {a : Act} {w : World} {Q : Exit → Act → World → Prop} (hgd : o.guard = none) (x y : Operand) (ho : o.op = .store 27 x y)
    (g : Nat) (j m : Sp) (hg : SAt w g j) (hx : a.eval x = .pointer (some ⟨g, 0, none⟩)) (hy : a.eval y = sv m)
    (h : wpList Tryd.prog ops Q rest (a.put o.dst undef) (w.setRow g (sl m).toArray)) : wpList Tryd.prog ops Q (o :: rest) a w :=
  wpList_store_row hgd 27 x y ho g (sl m).toArray hx hy 27 _ hg.at_ (sl_sz m) rfl (sl_one _) h
theorem bt_sa (a : Int) : Tryd.prog.built 27 [(0, .int .i64 a)] = some (sl ⟨a, 0, 0⟩).toArray := by kernel_rfl
theorem bt_sn (a n : Int) : Tryd.prog.built 27 [(0, .int .i64 a), (1, .int .i64 n)] = some (sl ⟨a, n, 0⟩).toArray := by kernel_rfl
theorem bt_se (a e : Int) : Tryd.prog.built 27 [(0, .int .i64 a), (2, .int .i64 e)] = some (sl ⟨a, 0, e⟩).toArray := by kernel_rfl
theorem bt_s5 (e : Int) : Tryd.prog.built 27 [(2, .int .i64 e)] = some (sl ⟨0, 0, e⟩).toArray := by kernel_rfl
section
variable {ops : Array Oper} {rest : List Oper} {o : Oper} {a : Act} {w : World} {Q : Exit → Act → World → Prop}
theorem wpList_bt_sa (hg : o.guard = none) (x0 : Operand) (ho : o.op = .build 27 #[(0, x0)]) (i : Int) (h0 : a.eval x0 = .int .i64 i)
    (h : wpList Tryd.prog ops Q rest (a.put o.dst (sv ⟨i, 0, 0⟩)) w) : wpList Tryd.prog ops Q (o :: rest) a w :=
  wpList_built hg _ _ ho _ (by
    have : ((#[(0, x0)] : Array (Nat × Operand)).map fun (i, x) => (i, a.eval x)).toList = [(0, .int .i64 i)] := by simp [h0]
    rw [this]; exact bt_sa i) h
theorem wpList_bt_sn (hg : o.guard = none) (x0 x1 : Operand) (ho : o.op = .build 27 #[(0, x0), (1, x1)]) (i n : Int) (h0 : a.eval x0 = .int .i64 i) (h1 : a.eval x1 = .int .i64 n)
    (h : wpList Tryd.prog ops Q rest (a.put o.dst (sv ⟨i, n, 0⟩)) w) : wpList Tryd.prog ops Q (o :: rest) a w :=
  wpList_built hg _ _ ho _ (by
    have : ((#[(0, x0), (1, x1)] : Array (Nat × Operand)).map fun (i, x) => (i, a.eval x)).toList = [(0, .int .i64 i), (1, .int .i64 n)] := by simp [h0, h1]
    rw [this]; exact bt_sn i n) h
theorem wpList_bt_se (hg : o.guard = none) (x0 x1 : Operand) (ho : o.op = .build 27 #[(0, x0), (2, x1)]) (i n : Int) (h0 : a.eval x0 = .int .i64 i) (h1 : a.eval x1 = .int .i64 n)
    (h : wpList Tryd.prog ops Q rest (a.put o.dst (sv ⟨i, 0, n⟩)) w) : wpList Tryd.prog ops Q (o :: rest) a w :=
  wpList_built hg _ _ ho _ (by
    have : ((#[(0, x0), (2, x1)] : Array (Nat × Operand)).map fun (i, x) => (i, a.eval x)).toList = [(0, .int .i64 i), (2, .int .i64 n)] := by simp [h0, h1]
    rw [this]; exact bt_se i n) h
theorem wpList_bt_s5 (hg : o.guard = none) (x0 : Operand) (ho : o.op = .build 27 #[(2, x0)]) (i : Int) (h0 : a.eval x0 = .int .i64 i)
    (h : wpList Tryd.prog ops Q rest (a.put o.dst (sv ⟨0, 0, i⟩)) w) : wpList Tryd.prog ops Q (o :: rest) a w :=
  wpList_built hg _ _ ho _ (by
    have : ((#[(2, x0)] : Array (Nat × Operand)).map fun (i, x) => (i, a.eval x)).toList = [(2, .int .i64 i)] := by simp [h0]
    rw [this]; exact bt_s5 i) h
end
theorem results_sp {fn : Func} {s : Tmp} (h : fn.results = #[.cell s 27]) (tmps : Array Value) {w : World} {g : Nat} {m : Sp}
    (hp : tmps.getD s undef = .pointer (some ⟨g, 0, none⟩)) (hg : SAt w g m) : (results fn tmps).run Tryd.prog w = .ok (sv m) w := by
  have hp' : tmps[s]?.getD undef = .pointer (some ⟨g, 0, none⟩) := by simpa using hp
  have hl : (loadVar 27 ⟨g, 0, none⟩).run Tryd.prog w = .ok (sv m) w := run_loadVar_row w g _ _ (sl m).toArray (0, 0) _ hg.at_ Tryd.underlying27 rfl (sl_sz m)
  simp [results, h, hp', asAddr, hl]
/-- Where a body ends in a store of a step. -/
theorem ret_sp {fn : Func} {s : Tmp} (h : fn.results = #[.cell s 27]) {tmps : Array Value} {w : World} {g : Nat} {j m : Sp} (hg : SAt w g j)
    (hp : tmps.getD s undef = .pointer (some ⟨g, 0, none⟩)) : (results fn tmps).run Tryd.prog (w.setRow g (sl m).toArray) = .ok (sv m) (w.setRow g (sl m).toArray) := results_sp h tmps hp (hg.row m)
theorem run_idx (s : ByteArray) (n : Int) (i : Nat) (hn : n = i) (c : UInt8) (hc : (bs s)[i]? = some c) (w : World) :
    (Instr.index 9 (.string s) (.int .i64 n)).run Tryd.prog w = .ok (.int .u8 (c.toNat : Nat)) w := by
  subst hn
  obtain ⟨⟨l⟩⟩ := s
  obtain ⟨h1, h2⟩ := List.getElem?_eq_some_iff.1 hc
  have h1' : i < (ByteArray.mk ⟨l⟩).size := h1
  rw [run_index_string (h := Tryd.underlying9), dif_pos ⟨by omega, by omega⟩]
  have e : (ByteArray.mk ⟨l⟩)[((i : Nat) : Int).toNat]'(by omega) = c := h2
  rw [e]
theorem within_is (t : ByteArray) (i : Int) (w : World) : Calls Tryd.prog 35 #[.string t, .int .i64 i] w fun e w' => e = .returned (.bool (inB t i)) ∧ w = w' := by
  by_cases h0 : 0 ≤ i
  · by_cases h1 : i ≤ (t.size : Int)
    · have HE := Lib.hid (show inB t i = true by simp [inB, h0, h1])
      go_enter Tryd.func35, Tryd.ntmps35
      go_wp2
      go_ret
      exact ⟨by rw [HE.out]; first | done | rfl, rfl⟩
    · have HE := Lib.hid (show inB t i = false by simp [inB, h1])
      go_enter Tryd.func35, Tryd.ntmps35
      go_wp2
      go_ret
      exact ⟨by rw [HE.out]; first | done | rfl, rfl⟩
  · have HE := Lib.hid (show inB t i = false by simp [inB, h0])
    go_enter Tryd.func35, Tryd.ntmps35
    go_wp2
    go_ret
    exact ⟨by rw [HE.out]; first | done | rfl, rfl⟩
theorem there_is (t : ByteArray) (i : Int) (w : World) : Calls Tryd.prog 25 #[.string t, .int .i64 i] w fun e w' => e = .returned (.bool (inB t i)) ∧ w = w' := by
  by_cases h0 : 0 ≤ i
  · by_cases h1 : i ≤ (t.size : Int)
    · have HE := Lib.hid (show inB t i = true by simp [inB, h0, h1])
      go_enter Tryd.func25, Tryd.ntmps25
      go_wp2
      go_ret
      exact ⟨by rw [HE.out]; first | done | rfl, rfl⟩
    · have HE := Lib.hid (show inB t i = false by simp [inB, h1])
      go_enter Tryd.func25, Tryd.ntmps25
      go_wp2
      go_ret
      exact ⟨by rw [HE.out]; first | done | rfl, rfl⟩
  · have HE := Lib.hid (show inB t i = false by simp [inB, h0])
    go_enter Tryd.func25, Tryd.ntmps25
    go_wp2
    go_ret
    exact ⟨by rw [HE.out]; first | done | rfl, rfl⟩
theorem refused_is (w : World) : Calls Tryd.prog 37 #[] w fun e w' => e = .returned (sv argS) ∧ Kept w w' := by
  have HS := Lib.hid (SAt.new w Zs)
  go_enter Tryd.func37, Tryd.ntmps37
  go_wp2_with (first | (with_reducible refine wpList_new_sp rfl rfl ?_) | (refine wpList_bt_s5 rfl _ rfl 5 rfl ?_) | (refine wpList_store_sp rfl _ _ rfl w.heap.size Zs argS HS.out rfl rfl ?_))
  refine bodyPost_ret (v := sv argS) ?_ rfl ⟨rfl, ((Kept.refl w).alloc _).setRow (by omega) _⟩
  exact (ret_sp rfl HS.out rfl).trans rfl
theorem stuck_is (t : ByteArray) (i : Int) (w : World) : Calls Tryd.prog 39 #[.string t, .int .i64 i] w fun e w' => e = .returned (sv (stk t.size i)) ∧ Kept w w' := by
  have HS := Lib.hid (SAt.new w Zs)
  by_cases h : i = (t.size : Int)
  · have hb : (i == (t.size : Int)) = true := beq_iff_eq.2 h
    have HE := Lib.hid (show stk t.size i = ⟨i, 0, 1⟩ by unfold stk; rw [if_pos h])
    clear h
    go_enter Tryd.func39, Tryd.ntmps39
    go_wp2_with (first | (with_reducible refine wpList_new_sp rfl rfl ?_) | (refine wpList_bt_se rfl _ _ rfl i 1 rfl rfl ?_) | (refine wpList_store_sp rfl _ _ rfl w.heap.size Zs ⟨i, 0, 1⟩ HS.out rfl rfl ?_))
    refine bodyPost_ret (v := sv ⟨i, 0, 1⟩) ?_ rfl ⟨by rw [HE.out]; first | done | rfl, ((Kept.refl w).alloc _).setRow (by omega) _⟩
    exact (ret_sp rfl HS.out rfl).trans rfl
  · have hb : (i == (t.size : Int)) = false := beq_eq_false_iff_ne.2 h
    have HE := Lib.hid (show stk t.size i = ⟨i, 0, 2⟩ by unfold stk; rw [if_neg h])
    clear h
    go_enter Tryd.func39, Tryd.ntmps39
    go_wp2_with (first | (with_reducible refine wpList_new_sp rfl rfl ?_) | (refine wpList_bt_se rfl _ _ rfl i 2 rfl rfl ?_) | (refine wpList_store_sp rfl _ _ rfl w.heap.size Zs ⟨i, 0, 2⟩ HS.out rfl rfl ?_))
    refine bodyPost_ret (v := sv ⟨i, 0, 2⟩) ?_ rfl ⟨by rw [HE.out]; first | done | rfl, ((Kept.refl w).alloc _).setRow (by omega) _⟩
    exact (ret_sp rfl HS.out rfl).trans rfl
theorem common_is (a b : ByteArray) (ha : a.size ≤ 1000) (hb : b.size ≤ 1000) (w : World) : Calls Tryd.prog 38 #[.string a, .string b] w fun e w' => e = .returned (.int .i64 (cmn (bs a) (bs b) : Nat)) ∧ Kept w w' := by
  have ea := bs_len a
  have eb := bs_len b
  rcases (Int.lt_or_le (b.size : Int) (a.size : Int)) with hm | hm
  · go_enter Tryd.func38, Tryd.ntmps38
    go_wp2
    go_loopw [13] (fun t wr => ∃ k : Nat, t = .int .i64 k ∧ k ≤ a.size ∧ k ≤ b.size ∧ cmn (bs a) (bs b) = k + cmn ((bs a).drop k) ((bs b).drop k) ∧ Kept w wr) (fun t _ => 1000 - (intOf t).toNat)
    case atStart => exact ⟨0, rfl, by omega, by omega, by simp, Kept.refl _⟩
    case round =>
      obtain ⟨k, rfl, hka, hkb, hc, hK⟩ := hrel
      have HC := Lib.hid hc
      have HK := Lib.hid hK
      clear hc hK
      by_cases hlt : k < a.size ∧ k < b.size
      · obtain ⟨l1, l2⟩ := hlt
        obtain ⟨x, hx⟩ : ∃ x, (bs a)[k]? = some x := ⟨_, bs_getq a k l1⟩
        obtain ⟨y, hy⟩ : ∃ y, (bs b)[k]? = some y := ⟨_, bs_getq b k l2⟩
        have ia := run_idx a k k rfl x hx
        have ib := run_idx b k k rfl y hy
        by_cases he : x = y
        · have H := Lib.hid (cmn_same (bs a) (bs b) k x hx (by rw [he]; exact hy))
          have hne : (((x.toNat : Nat) : Int) != ((y.toNat : Nat) : Int)) = false := by rw [he]; simp
          clear hx hy he
          go_wp2_with fail
          go_quiet (fail)
          go_wp2
          go_roundw
          case rel => exact ⟨k + 1, by go_num, by omega, by omega, by rw [HC.out, H.out]; omega, by first | exact HK.out.drewN _ | exact HK.out.drew | exact HK.out⟩
          case measure => simp [intOf]; omega
        · have H := Lib.hid (cmn_diff (bs a) (bs b) k x y hx hy he)
          have hne : (((x.toNat : Nat) : Int) != ((y.toNat : Nat) : Int)) = true := by
            rw [bne_iff_ne]; intro e; exact he (UInt8.toNat.inj (by omega))
          clear hx hy he
          go_wp2_with fail
          go_quiet (fail)
          go_wp2
          go_ret
          exact ⟨by rw [HC.out, H.out]; rfl, by first | exact HK.out.drewN _ | exact HK.out.drew | exact HK.out⟩
      · have H := Lib.hid (cmn_end (bs a) (bs b) k (by rw [ea, eb]; exact hlt))
        have hk' : (k : Int) = a.size ∨ (k : Int) = b.size := by omega
        go_wp2
        go_ret
        exact ⟨by rw [HC.out, H.out]; first | (simp; omega) | rfl, HK.out⟩
  · go_enter Tryd.func38, Tryd.ntmps38
    go_wp2
    go_loopw [13] (fun t wr => ∃ k : Nat, t = .int .i64 k ∧ k ≤ a.size ∧ k ≤ b.size ∧ cmn (bs a) (bs b) = k + cmn ((bs a).drop k) ((bs b).drop k) ∧ Kept w wr) (fun t _ => 1000 - (intOf t).toNat)
    case atStart => exact ⟨0, rfl, by omega, by omega, by simp, Kept.refl _⟩
    case round =>
      obtain ⟨k, rfl, hka, hkb, hc, hK⟩ := hrel
      have HC := Lib.hid hc
      have HK := Lib.hid hK
      clear hc hK
      by_cases hlt : k < a.size ∧ k < b.size
      · obtain ⟨l1, l2⟩ := hlt
        obtain ⟨x, hx⟩ : ∃ x, (bs a)[k]? = some x := ⟨_, bs_getq a k l1⟩
        obtain ⟨y, hy⟩ : ∃ y, (bs b)[k]? = some y := ⟨_, bs_getq b k l2⟩
        have ia := run_idx a k k rfl x hx
        have ib := run_idx b k k rfl y hy
        by_cases he : x = y
        · have H := Lib.hid (cmn_same (bs a) (bs b) k x hx (by rw [he]; exact hy))
          have hne : (((x.toNat : Nat) : Int) != ((y.toNat : Nat) : Int)) = false := by rw [he]; simp
          clear hx hy he
          go_wp2_with fail
          go_quiet (fail)
          go_wp2
          go_roundw
          case rel => exact ⟨k + 1, by go_num, by omega, by omega, by rw [HC.out, H.out]; omega, by first | exact HK.out.drewN _ | exact HK.out.drew | exact HK.out⟩
          case measure => simp [intOf]; omega
        · have H := Lib.hid (cmn_diff (bs a) (bs b) k x y hx hy he)
          have hne : (((x.toNat : Nat) : Int) != ((y.toNat : Nat) : Int)) = true := by
            rw [bne_iff_ne]; intro e; exact he (UInt8.toNat.inj (by omega))
          clear hx hy he
          go_wp2_with fail
          go_quiet (fail)
          go_wp2
          go_ret
          exact ⟨by rw [HC.out, H.out]; rfl, by first | exact HK.out.drewN _ | exact HK.out.drew | exact HK.out⟩
      · have H := Lib.hid (cmn_end (bs a) (bs b) k (by rw [ea, eb]; exact hlt))
        have hk' : (k : Int) = a.size ∨ (k : Int) = b.size := by omega
        go_wp2
        go_ret
        exact ⟨by rw [HC.out, H.out]; first | (simp; omega) | rfl, HK.out⟩
end Go.Proofs.YtnlgjakohoimhaaDoor
