/- Line, and the document's. -/
import Derived.Test.YtihmpglfghffiaaLxE
import Derived.Test.YtihmpglfghffiaaShelf
import Derived.Laws.Strings2
namespace Go.Proofs.Ytihmpglfghffiaa
open Go.RowKit
set_option linter.unusedVariables false
set_option linter.unusedSimpArgs false
set_option maxRecDepth 100000
set_option maxHeartbeats 4000000

theorem Below.toKept {w w' : World} (h : Below w.heap.size w w') : Kept w w' := ⟨h.os, h.output, h.size, h.block⟩
theorem sclone_is (s : ByteArray) (hs : s.size ≤ 1000) (w : World) : Calls Try.prog 26 #[.string s] w fun e w' => e = .returned (.string s) ∧ Kept w w' := by
  go_enter Try.func26, Try.ntmps26
  go_wp2_with fail
  refine (Try.stringslite_Clone s _ (by omega)).mono ?_
  rintro e w' ⟨rfl, hb⟩
  have HB := Lib.hid hb
  clear hb
  go_wp2
  go_ret
  exact ⟨rfl, Below.toKept HB.out⟩
theorem run_cut (t : ByteArray) (m n : Nat) (i j : Int) (hi : i = m) (hj : j = n) (hmn : m ≤ n) (hn : n ≤ t.size) (s : ByteArray) (hs : t.extract m n = s) (w : World) :
    (Instr.slice 9 (.string t) (some (.int .i64 i)) (some (.int .i64 j)) none).run Try.prog w = .ok (.string s) w := by
  subst hi hj
  have := run_slice_string (P := Try.prog) (w := w) 9 t .i64 .i64 (m : Int) (n : Int) Try.underlying9 (by omega) (by omega) (by omega)
  rw [this, ← hs]
  rfl
theorem results_str_sp {fn : Func} {u s : Tmp} (h : fn.results = #[.tmp u, .cell s 26]) (tmps : Array Value) {w : World} {g : Nat} {m : Sp}
    (hp : tmps.getD s undef = .pointer (some ⟨g, 0, none⟩)) (hg : SAt w g m) : (results fn tmps).run Try.prog w = .ok (.tuple #[tmps.getD u undef, sv m]) w := by
  have hp' : tmps[s]?.getD undef = .pointer (some ⟨g, 0, none⟩) := by simpa using hp
  have hl : (loadVar 26 ⟨g, 0, none⟩).run Try.prog w = .ok (sv m) w := run_loadVar_row w g _ _ (sl m).toArray (0, 0) _ hg.at_ Try.underlying26 rfl (sl_sz m)
  simp [results, h, hp', asAddr, hl]
theorem ret_str {fn : Func} {u s : Tmp} (h : fn.results = #[.tmp u, .cell s 26]) {tmps : Array Value} {w : World} {g : Nat} {j m : Sp} (hg : SAt w g j)
    (hp : tmps.getD s undef = .pointer (some ⟨g, 0, none⟩)) : (results fn tmps).run Try.prog (w.setRow g (sl m).toArray) = .ok (.tuple #[tmps.getD u undef, sv m]) (w.setRow g (sl m).toArray) := results_str_sp h tmps hp (hg.row m)
/-- What Line answers. -/
theorem ln_at {t s : ByteArray} {m p : Nat} {b : UInt8} (hm : m ≤ t.size) (hbs : bs s = (bs t).drop m) (h : (bs s)[p]? = some b) (hb : b = 10) (ha : ∀ k, k < p → (bs s)[k]? ≠ some 10) :
    lnT t m = t.extract m (m + p) ∧ lnS t m = ⟨(m : Int) + p + 1, 0, 0⟩ := by
  have hin : inB t (m : Int) = true := by simp [inB]; omega
  have hf := lnF_at h hb ha
  have hl := (List.getElem?_eq_some_iff.1 h).1
  unfold lnT lnS
  rw [if_pos hin, if_pos hin]
  simp only [Int.toNat_natCast]
  rw [← hbs, hf, if_pos hl]
  exact ⟨rfl, rfl⟩
theorem ln_none {t s : ByteArray} {m : Nat} (hm : m ≤ t.size) (hbs : bs s = (bs t).drop m) (ha : ∀ k, k < s.size → (bs s)[k]? ≠ some 10) :
    lnT t m = t.extract m t.size ∧ lnS t m = ⟨t.size, 0, 1⟩ := by
  have hin : inB t (m : Int) = true := by simp [inB]; omega
  have hz : s.size = t.size - m := by rw [← bs_len, hbs, List.length_drop, bs_len]
  have hf := lnF_none (M := bs s) (by rw [bs_len]; exact ha)
  unfold lnT lnS
  rw [if_pos hin, if_pos hin]
  simp only [Int.toNat_natCast]
  rw [← hbs, hf, if_neg (by omega), bs_len, hz, show m + (t.size - m) = t.size by omega]
  exact ⟨rfl, rfl⟩
theorem line_is (t : ByteArray) (i : Int) (ht : t.size ≤ 1000) (w : World) :
    Calls Try.prog 14 #[.string t, .int .i64 i] w fun e w' => e = .returned (.tuple #[.string (lnT t i), sv (lnS t i)]) ∧ Kept w w' := by
  have HS := Lib.hid (SAt.new w Zs)
  have HI := Lib.hid (within_is t i)
  cases hb : inB t i with
  | false =>
    rw [hb] at HI
    have HE := Lib.hid (show lnT t i = ⟨#[]⟩ ∧ lnS t i = argS by unfold lnT lnS; rw [if_neg (by rw [hb]; decide), if_neg (by rw [hb]; decide)]; exact ⟨rfl, rfl⟩)
    clear hb
    go_enter Try.func14, Try.ntmps14
    go_wp2_with (with_reducible refine wpList_new_sp rfl rfl ?_)
    refine (HI.out _).mono ?_
    rintro e w1 ⟨rfl, rfl⟩
    go_wp2_with fail
    refine (refused_is _).mono ?_
    rintro e w2 ⟨rfl, k2⟩
    have H2 := Lib.hid (HS.out.kept k2)
    have K2 := Lib.hid (((Kept.refl w).alloc _).trans k2)
    clear k2
    go_wp2_with (refine wpList_store_sp rfl _ _ rfl w.heap.size Zs argS H2.out rfl rfl ?_)
    refine bodyPost_ret (v := .tuple #[.string ⟨#[]⟩, sv argS]) ?_ rfl ⟨by rw [HE.out.1, HE.out.2], K2.out.setRow (by omega) _⟩
    exact (ret_str rfl H2.out rfl).trans rfl
  | true =>
    rw [hb] at HI
    obtain ⟨m, rfl, hm⟩ := inB_yes hb
    clear hb
    obtain ⟨s, hs⟩ : ∃ s, t.extract m t.size = s := ⟨_, rfl⟩
    obtain ⟨hz, hbs⟩ := rest_facts hm hs
    have hsl := run_rest t m hm s hs
    have HBS := Lib.hid hbs
    have HSS := Lib.hid hs
    have HQ := Lib.hid (stuck_is t)
    clear hs hbs
    go_enter Try.func14, Try.ntmps14
    go_wp2_with (with_reducible refine wpList_new_sp rfl rfl ?_)
    refine (HI.out _).mono ?_
    rintro e w1 ⟨rfl, rfl⟩
    go_wp2
    go_loopw [6] (fun _ wr => ∃ p : Nat, It w wr s p ∧ ∀ k, k < p → (bs s)[k]? ≠ some 10) (fun _ wr => s.size - wr.iterPos (w.heap.size + 1))
    case atStart => exact ⟨0, It.start w s, fun k hk => by omega⟩
    case round =>
      obtain ⟨p, hIt, hno⟩ := hrel
      have HIt := Lib.hid hIt
      have HNo := Lib.hid hno
      clear hIt hno
      by_cases hp : p < s.size
      · obtain ⟨q, k, b, hd, hb, hk, hq, hqb, hin⟩ := sign_at s p hp
        have hnx := fun ty => next_at (P := Try.prog) wr (w.heap.size + 1) s p ty HIt.out.iter hp
        simp only [hd] at hnx
        clear hd
        by_cases hr : q = 10
        · have hb10 : b = 10 := UInt8.toNat.inj (by rcases hqb with h | h; exact h.2.1.symm.trans hr; omega)
          have HE := Lib.hid (ln_at hm HBS.out hb hb10 HNo.out)
          obtain ⟨c, hc⟩ : ∃ c, t.extract m (m + p) = c := ⟨_, rfl⟩
          have hcs : c.size ≤ 1000 := by rw [← hc, ByteArray.size_extract]; omega
          have hsl2 := run_cut t m (m + p) m ((m : Int) + p) rfl (by omega) (by omega) (by omega) c hc
          have HC := Lib.hid hc
          have HN := Lib.hid (HIt.out.next (p + k))
          have b1 : ((q : Int) == 10) = true := beq_iff_eq.2 (by omega)
          clear hb hqb hin hc hb10
          go_wp2_with fail
          refine (sclone_is c hcs _).mono ?_
          rintro e w3 ⟨rfl, k3⟩
          have H3 := Lib.hid (HN.out.cell.kept k3)
          have K3 := Lib.hid (HN.out.kept.trans k3)
          clear k3
          go_wp2_with (first | (refine wpList_bt_sa rfl _ rfl ((m : Int) + p + 1) rfl ?_) | (refine wpList_store_sp rfl _ _ rfl w.heap.size Zs ⟨(m : Int) + p + 1, 0, 0⟩ H3.out rfl rfl ?_))
          refine bodyPost_ret (v := .tuple #[.string c, sv ⟨(m : Int) + p + 1, 0, 0⟩]) ?_ rfl ⟨by rw [HE.out.1, HE.out.2, HC.out], K3.out.setRow (by omega) _⟩
          exact (ret_str rfl H3.out rfl).trans rfl
        · have b1 : ((q : Int) == 10) = false := beq_eq_false_iff_ne.2 (by omega)
          have HN := Lib.hid (HIt.out.next (p + k))
          have HM : Hid (∀ j, j < p + k → (bs s)[j]? ≠ some 10) := by
            intro j hj
            rcases Nat.lt_trichotomy j p with h | h | h
            · exact HNo.out j h
            · subst h; rw [hb]; intro e
              have e' : b = 10 := by simpa using e
              subst e'
              rcases hqb with h | h
              · exact hr h.2.1
              · have : ¬ 128 ≤ (10 : UInt8).toNat := by decide
                exact this h.2
            · obtain ⟨c, h1, h2⟩ := hin j h hj
              rw [h1]; intro e
              have e' : c = 10 := by simpa using e
              subst e'
              have : ¬ 128 ≤ (10 : UInt8).toNat := by decide
              exact this h2
          clear hb hqb hin hr
          go_wp2
          go_roundw
          case rel => exact ⟨p + k, HN.out, HM.out⟩
          case measure => simp [World.iterPos, HN.out.iter, HIt.out.iter]; omega
      · have hnx := fun ty => next_at_end (P := Try.prog) wr (w.heap.size + 1) s p ty HIt.out.iter hp
        have HE := Lib.hid (ln_none hm HBS.out (fun k hk => HNo.out k (by omega)))
        have HV := Lib.hid (show stk t.size t.size = ⟨t.size, 0, 1⟩ from if_pos rfl)
        have hcs : s.size ≤ 1000 := by omega
        go_wp2_with fail
        refine (sclone_is s hcs _).mono ?_
        rintro e w2 ⟨rfl, k2⟩
        have H2 := Lib.hid (HIt.out.cell.kept k2)
        have K2 := Lib.hid (HIt.out.kept.trans k2)
        clear k2
        go_wp2_with fail
        refine (HQ.out _ _).mono ?_
        rintro e w3 ⟨rfl, k3⟩
        have H3 := Lib.hid (H2.out.kept k3)
        have K3 := Lib.hid (K2.out.trans k3)
        clear k3
        go_wp2_with (refine wpList_store_sp rfl _ _ rfl w.heap.size Zs _ H3.out rfl rfl ?_)
        refine bodyPost_ret (v := .tuple #[.string s, sv (stk t.size t.size)]) ?_ rfl ⟨by rw [HE.out.1, HE.out.2, HV.out, HSS.out], K3.out.setRow (by omega) _⟩
        exact (ret_str rfl H3.out rfl).trans rfl

/-! ### the document's -/
def ll (x : ByteArray) (y : Sp) : List Value := [.string x, .int .i64 y.a, .int .i64 y.n, .int .i64 y.e]
structure LAt (w : World) (g : Nat) (x : ByteArray) (y : Sp) : Prop where
  at_ : w.heap[g]? = some (.cells (ll x y).toArray 36 (0, 0))
theorem LAt.kept {w w' : World} {g : Nat} {x : ByteArray} {y : Sp} (h : LAt w g x y) (k : Kept w w') : LAt w' g x y := ⟨k.heap h.at_⟩
theorem LAt.new (w : World) (x : ByteArray) (y : Sp) : LAt (w.alloc (.cells (ll x y).toArray 36)) w.heap.size x y := ⟨heap_alloc_new w _⟩
theorem sizeL : (Try.prog.info? 36).map (·.size) = some 4 := by kernel_rfl
theorem ll_sz (x : ByteArray) (y : Sp) : (Try.prog.info? 36).map (·.size) = some (ll x y).toArray.size := by rw [sizeL]; rfl
theorem ll_one (x : ByteArray) (y : Sp) : (ll x y).toArray.all (·.oneCell') = true := by
  rw [Array.all_eq_true_iff_forall_mem]
  intro v hv
  simp only [List.mem_toArray, ll, List.mem_cons, List.not_mem_nil, or_false] at hv
  rcases hv with rfl | rfl | rfl | rfl <;> rfl
theorem zeroLn : (Try.prog.info? 36).map (fun i => (i.zero, i.size)) = some (some (.agg (ll ⟨#[]⟩ Zs).toArray), 4) := by kernel_rfl
theorem run_zero_ln (w : World) : (zeroValue 36).run Try.prog w = .ok (.agg (ll ⟨#[]⟩ Zs).toArray) w := (zero_of_info zeroLn).1 w
theorem wpList_new_ln {ops : Array Oper} {rest : List Oper} {o : Oper} {a : Act} {w : World} {Q : Exit → Act → World → Prop} (hgd : o.guard = none) (ho : o.op = .alloc 36)
    (h : wpList Try.prog ops Q rest (a.put o.dst (.pointer (some ⟨w.heap.size, 0, none⟩))) (w.alloc (.cells (ll ⟨#[]⟩ Zs).toArray 36))) : wpList Try.prog ops Q (o :: rest) a w := by
  refine wpList_plain hgd fun _ hK => ?_
  unfold Oper.wp execOp
  simp only [ho, Instr.alloc, Sem.run_bind, run_zero_ln, Result.andThen_ok, newVar, newRow, Value.cells]
  exact hK _ _ h
theorem wpList_store_ln {ops : Array Oper} {rest : List Oper} {o : Oper} {a : Act} {w : World} {Q : Exit → Act → World → Prop} (hgd : o.guard = none) (x y : Operand) (ho : o.op = .store 36 x y)
    (g : Nat) (b0 : ByteArray) (j : Sp) (b : ByteArray) (m : Sp) (hg : LAt w g b0 j) (hx : a.eval x = .pointer (some ⟨g, 0, none⟩)) (hy : a.eval y = .agg (ll b m).toArray)
    (h : wpList Try.prog ops Q rest (a.put o.dst undef) (w.setRow g (ll b m).toArray)) : wpList Try.prog ops Q (o :: rest) a w :=
  wpList_store_row hgd 36 x y ho g (ll b m).toArray hx hy 36 _ hg.at_ (ll_sz b m) rfl (ll_one _ _) h
theorem bt_l1 (y : Sp) : Try.prog.built 36 [(1, sv y)] = some (ll ⟨#[]⟩ y).toArray := by obtain ⟨a, n, e⟩ := y; kernel_rfl
theorem bt_l2 (x : ByteArray) (y : Sp) : Try.prog.built 36 [(0, .string x), (1, sv y)] = some (ll x y).toArray := by obtain ⟨a, n, e⟩ := y; kernel_rfl
theorem wpList_bt_l1 {ops : Array Oper} {rest : List Oper} {o : Oper} {a : Act} {w : World} {Q : Exit → Act → World → Prop} (hg : o.guard = none) (x0 : Operand) (ho : o.op = .build 36 #[(1, x0)]) (y : Sp) (h0 : a.eval x0 = sv y)
    (h : wpList Try.prog ops Q rest (a.put o.dst (.agg (ll ⟨#[]⟩ y).toArray)) w) : wpList Try.prog ops Q (o :: rest) a w :=
  wpList_built hg _ _ ho _ (by
    have : ((#[(1, x0)] : Array (Nat × Operand)).map fun (i, x) => (i, a.eval x)).toList = [(1, sv y)] := by simp [h0]
    rw [this]; exact bt_l1 y) h
theorem wpList_bt_l2 {ops : Array Oper} {rest : List Oper} {o : Oper} {a : Act} {w : World} {Q : Exit → Act → World → Prop} (hg : o.guard = none) (x0 x1 : Operand) (ho : o.op = .build 36 #[(0, x0), (1, x1)]) (x : ByteArray) (y : Sp) (h0 : a.eval x0 = .string x) (h1 : a.eval x1 = sv y)
    (h : wpList Try.prog ops Q rest (a.put o.dst (.agg (ll x y).toArray)) w) : wpList Try.prog ops Q (o :: rest) a w :=
  wpList_built hg _ _ ho _ (by
    have : ((#[(0, x0), (1, x1)] : Array (Nat × Operand)).map fun (i, x) => (i, a.eval x)).toList = [(0, .string x), (1, sv y)] := by simp [h0, h1]
    rw [this]; exact bt_l2 x y) h
theorem ret_ln {fn : Func} {s : Tmp} (h : fn.results = #[.cell s 36]) {tmps : Array Value} {w : World} {g : Nat} {b0 : ByteArray} {j : Sp} {b : ByteArray} {m : Sp} (hg : LAt w g b0 j)
    (hp : tmps.getD s undef = .pointer (some ⟨g, 0, none⟩)) : (results fn tmps).run Try.prog (w.setRow g (ll b m).toArray) = .ok (.agg (ll b m).toArray) (w.setRow g (ll b m).toArray) := by
  have hp' : tmps[s]?.getD undef = .pointer (some ⟨g, 0, none⟩) := by simpa using hp
  have hg' : (w.setRow g (ll b m).toArray).heap[g]? = some (.cells (ll b m).toArray 36 (0, 0)) := setRow_heap _ _ _ _ _ _ hg.at_
  have hl : (loadVar 36 ⟨g, 0, none⟩).run Try.prog (w.setRow g (ll b m).toArray) = .ok (.agg (ll b m).toArray) (w.setRow g (ll b m).toArray) := run_loadVar_row _ g _ _ (ll b m).toArray (0, 0) _ hg' Try.underlying36 rfl (ll_sz b m)
  simp [results, h, hp', asAddr, hl]
theorem rline_is (t : ByteArray) (i : Int) (ht : t.size ≤ 1000) (w : World) :
    Calls Try.prog 15 #[.string t, .int .i64 i] w fun e w' => e = .returned (.agg (ll (lnT t i) (lnS t i)).toArray) ∧ Kept w w' := by
  have HS := Lib.hid (LAt.new w ⟨#[]⟩ Zs)
  have HI := Lib.hid (there_is t i)
  cases hb : inB t i with
  | false =>
    rw [hb] at HI
    have HE := Lib.hid (show lnT t i = ⟨#[]⟩ ∧ lnS t i = argS by unfold lnT lnS; rw [if_neg (by rw [hb]; decide), if_neg (by rw [hb]; decide)]; exact ⟨rfl, rfl⟩)
    clear hb
    go_enter Try.func15, Try.ntmps15
    go_wp2_with (with_reducible refine wpList_new_ln rfl rfl ?_)
    refine (HI.out _).mono ?_
    rintro e w1 ⟨rfl, rfl⟩
    go_wp2_with (first | (refine wpList_bt_s5 rfl _ rfl 5 rfl ?_) | (refine wpList_bt_l1 rfl _ rfl argS rfl ?_) | (refine wpList_store_ln rfl _ _ rfl w.heap.size _ _ ⟨#[]⟩ argS HS.out rfl rfl ?_))
    refine bodyPost_ret (v := .agg (ll ⟨#[]⟩ argS).toArray) ?_ rfl ⟨by rw [HE.out.1, HE.out.2], ((Kept.refl w).alloc _).setRow (by omega) _⟩
    exact (ret_ln rfl HS.out rfl).trans rfl
  | true =>
    rw [hb] at HI
    obtain ⟨m, rfl, hm⟩ := inB_yes hb
    clear hb
    obtain ⟨s, hs⟩ : ∃ s, t.extract m t.size = s := ⟨_, rfl⟩
    obtain ⟨hz, hbs⟩ := rest_facts hm hs
    have hsl := run_rest t m hm s hs
    have HBS := Lib.hid hbs
    have HSS := Lib.hid hs
    have HB := Lib.hid (show ∀ p, (bs t)[m + p]? = (bs s)[p]? from fun p => by rw [hbs, List.getElem?_drop])
    clear hs hbs
    go_enter Try.func15, Try.ntmps15
    go_wp2_with (with_reducible refine wpList_new_ln rfl rfl ?_)
    refine (HI.out _).mono ?_
    rintro e w1 ⟨rfl, rfl⟩
    go_wp2
    go_loopw [5] (fun t5 wr => ∃ p : Nat, t5 = .int .i64 ((m : Int) + p) ∧ p ≤ s.size ∧ (LAt wr w.heap.size ⟨#[]⟩ Zs ∧ Kept w wr) ∧ ∀ k, k < p → (bs s)[k]? ≠ some 10) (fun t5 _ => t.size - (intOf t5).toNat)
    case atStart => exact ⟨0, by simp, by omega, ⟨HS.out, (Kept.refl w).alloc _⟩, fun k hk => by omega⟩
    case round =>
      obtain ⟨p, rfl, hps, hL, hno⟩ := hrel
      have HL := Lib.hid hL
      have HNo := Lib.hid hno
      clear hL hno
      by_cases hp : p < s.size
      · obtain ⟨b, hb⟩ : ∃ b, (bs s)[p]? = some b := ⟨_, bs_getq s p hp⟩
        have hix := run_idx t ((m : Int) + p) (m + p) (by omega) b ((HB.out p).trans hb)
        have hlt : (m : Int) + p < t.size := by omega
        by_cases hr : b = 10
        · have HE := Lib.hid (ln_at hm HBS.out hb hr HNo.out)
          obtain ⟨c, hc⟩ : ∃ c, t.extract m (m + p) = c := ⟨_, rfl⟩
          have hsl2 := run_cut t m (m + p) m ((m : Int) + p) rfl (by omega) (by omega) (by omega) c hc
          have HC := Lib.hid hc
          have b1 : ((b.toNat : Int) == 10) = true := by rw [hr]; rfl
          clear hb hc hr
          go_wp2_with (first | (refine wpList_bt_sa rfl _ rfl ((m : Int) + p + 1) rfl ?_) | (refine wpList_bt_l2 rfl _ _ rfl c ⟨(m : Int) + p + 1, 0, 0⟩ rfl rfl ?_) | (refine wpList_store_ln rfl _ _ rfl w.heap.size _ _ c ⟨(m : Int) + p + 1, 0, 0⟩ HL.out.1 rfl rfl ?_))
          refine bodyPost_ret (v := .agg (ll c ⟨(m : Int) + p + 1, 0, 0⟩).toArray) ?_ rfl ⟨by rw [HE.out.1, HE.out.2, HC.out], HL.out.2.setRow (by omega) _⟩
          exact (ret_ln rfl HL.out.1 rfl).trans rfl
        · have b1 : ((b.toNat : Int) == 10) = false := beq_eq_false_iff_ne.2 (fun e => hr (UInt8.toNat.inj (by have : (10 : UInt8).toNat = 10 := rfl; omega)))
          have HM : Hid (∀ j, j < p + 1 → (bs s)[j]? ≠ some 10) := by
            intro j hj
            rcases Nat.lt_succ_iff_lt_or_eq.1 hj with h | h
            · exact HNo.out j h
            · subst h; rw [hb]; intro e; exact hr (by simpa using e)
          clear hb hr
          go_wp2
          go_roundw
          case rel => exact ⟨p + 1, by go_num, by omega, HL.out, HM.out⟩
          case measure => simp [intOf]; omega
      · have hge : ¬ (m : Int) + p < t.size := by omega
        have HE := Lib.hid (ln_none hm HBS.out (fun k hk => HNo.out k (by omega)))
        go_wp2_with (first | (refine wpList_bt_se rfl _ _ rfl t.size 1 rfl rfl ?_) | (refine wpList_bt_l2 rfl _ _ rfl s ⟨t.size, 0, 1⟩ rfl rfl ?_) | (refine wpList_store_ln rfl _ _ rfl w.heap.size _ _ s ⟨t.size, 0, 1⟩ HL.out.1 rfl rfl ?_))
        refine bodyPost_ret (v := .agg (ll s ⟨t.size, 0, 1⟩).toArray) ?_ rfl ⟨by rw [HE.out.1, HE.out.2, HSS.out], HL.out.2.setRow (by omega) _⟩
        exact (ret_ln rfl HL.out.1 rfl).trans rfl
end Go.Proofs.Ytihmpglfghffiaa
