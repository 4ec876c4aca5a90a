/- Read. -/
import Derived.Test.YtkfjpecehighlaaDoorFoD
namespace Go.Proofs.YtkfjpecehighlaaDoor
open Go.RowKit
set_option linter.unusedVariables false
set_option linter.unusedSimpArgs false

theorem iterAt_other {w : World} {i j : Nat} (s : ByteArray) (p : Nat) (h : j ≠ i) : (iterAt w i s p).heap[j]? = w.heap[j]? := by
  show (w.heap.setIfInBounds i _)[j]? = _
  rw [Array.getElem?_setIfInBounds_ne (by omega)]
theorem Kept.iterAt {a w : World} (h : Kept a w) {i : Nat} (hi : a.heap.size ≤ i) (s : ByteArray) (p : Nat) : Kept a (iterAt w i s p) := by
  refine ⟨h.os, h.output, ?_, fun k hk => ?_⟩
  · show a.heap.size ≤ (w.heap.setIfInBounds i _).size
    simpa using h.size
  · rw [iterAt_other s p (by omega)]; exact h.block k hk
theorem results_board_tmp2 {fn : Func} {p t u : Tmp} (h : fn.results = #[.cell p 24, .tmp t, .tmp u]) (tmps : Array Value) (w : World) (g : Nat) (B : List Int) (hB : B.length = 64)
    (hp : tmps.getD p undef = .pointer (some ⟨g, 0, none⟩)) (hg : w.heap[g]? = some (.cells (cl B).toArray 24 (0, 0))) :
    (results fn tmps).run Tryd.prog w = .ok (.tuple #[.agg (cl B).toArray, tmps.getD t undef, tmps.getD u undef]) w := by
  have hp' : tmps[p]?.getD undef = .pointer (some ⟨g, 0, none⟩) := by simpa using hp
  simp [results, h, hp', asAddr, run_load_cl hB hg]
/-- What stands where Read has come to place 'pos' of t. -/
structure Mid (t : ByteArray) (w wr : World) (pos : Nat) (s : St) : Prop where
  le : pos ≤ t.size
  says : says (t.data.toList.take pos) = some s
  iter : wr.heap[w.heap.size + 1 + 1]? = some (.stringIter t pos)
  rd : RdS wr (w.heap.size + 1) s
  res : wr.heap[w.heap.size]? = some (.cells (cl Zb).toArray 24 (0, 0))
  kept : Kept w wr
theorem Mid.start (t : ByteArray) (w : World) : Mid t w (((w.alloc (.cells (cl Zb).toArray 24)).alloc (.cells (rc Zb 0 7).toArray 42)).iter t 0) 0 ([], 0, 0) := by
  have k := Kept.of_grown (grown_iter ((w.alloc (.cells (cl Zb).toArray 24)).alloc (.cells (rc Zb 0 7).toArray 42)) t 0)
  refine ⟨by omega, rfl, ?_, ⟨bd_length _, ?_⟩, ?_, ?_⟩
  · simpa using World.iter_heap ((w.alloc (.cells (cl Zb).toArray 24)).alloc (.cells (rc Zb 0 7).toArray 42)) t 0
  · rw [bd_nil]
    exact k.heap (heap_alloc2_new _ _ _)
  · exact k.heap (heap_alloc2_old _ _ _)
  · exact (((Kept.refl w).alloc _).alloc _).trans k
theorem Mid.inv {t : ByteArray} {w wr : World} {pos : Nat} {s : St} (h : Mid t w wr pos s) : Inv s := says_inv h.says
theorem Mid.next {t : ByteArray} {w wr : World} {pos : Nat} {s : St} (h : Mid t w wr pos s) (p : Nat) : RdS (iterAt wr (w.heap.size + 1 + 1) t p) (w.heap.size + 1) s :=
  ⟨h.rd.len, (iterAt_other t p (by omega)).trans h.rd.at_⟩
theorem Mid.keptN {t : ByteArray} {w wr : World} {pos : Nat} {s : St} (h : Mid t w wr pos s) (p : Nat) : Kept w (iterAt wr (w.heap.size + 1 + 1) t p) := h.kept.iterAt (by omega) t p
theorem Mid.resN {t : ByteArray} {w wr : World} {pos : Nat} {s : St} (h : Mid t w wr pos s) (p : Nat) : (iterAt wr (w.heap.size + 1 + 1) t p).heap[w.heap.size]? = some (.cells (cl Zb).toArray 24 (0, 0)) :=
  (iterAt_other t p (by omega)).trans h.res
theorem len_size (t : ByteArray) : t.data.toList.length = t.size := Array.length_toList
theorem at_size (t : ByteArray) (pos : Nat) (h : pos < t.size) : t.data.toList[pos]'(by rw [len_size]; exact h) = t[pos]'h := by simp; rfl
theorem Mid.step {t : ByteArray} {w wr w2 : World} {pos : Nat} {s s' : St} (h : Mid t w wr pos s) (hp : pos < t.size) (hs : stp (t[pos]'hp) s = some s')
    (hr : RdS w2 (w.heap.size + 1) s') (hk : KeptB (w.heap.size + 1) (iterAt wr (w.heap.size + 1 + 1) t (pos + 1)) w2) : Mid t w w2 (pos + 1) s' := by
  refine ⟨by omega, ?_, hk.heap (by omega) (iterAt_heap h.iter t (pos + 1)), hr, hk.heap (by omega) (h.resN _), hk.kept (h.keptN _) (by omega)⟩
  rw [says_take _ _ (by rw [len_size]; exact hp), h.says, at_size t pos hp]
  exact hs
theorem Mid.stop {t : ByteArray} {w wr : World} {pos : Nat} {s : St} (h : Mid t w wr pos s) (hp : pos < t.size) (hs : stp (t[pos]'hp) s = none) : Reads t.data.toList Zb pos 2 := by
  refine .inl ⟨by rw [len_size]; exact hp, ⟨s, h.says⟩, ?_, rfl, rfl⟩
  rw [says_take _ _ (by rw [len_size]; exact hp), h.says, at_size t pos hp]
  exact hs
theorem Mid.all {t : ByteArray} {w wr : World} {pos : Nat} {s : St} (h : Mid t w wr pos s) (hp : ¬ pos < t.size) : Go.Proofs.YtkfjpecehighlaaDoor.says t.data.toList = some s ∧ pos = t.size := by
  have e : pos = t.size := by have := h.le; omega
  refine ⟨?_, e⟩
  have := h.says
  rwa [e, ← len_size, List.take_length] at this
theorem read_is (t : ByteArray) (hm : t.size ≤ 1000) (w : World) :
    Calls Tryd.prog 9 #[.string t] w fun e w' => ∃ (B : List Int) (n : Nat) (x : Int), e = .returned (.tuple #[.agg (cl B).toArray, .int .i64 n, .int .i64 x]) ∧ Reads t.data.toList B n x ∧ Kept w w' := by
  have hz := Lib.hid (size_cl Zb_brd.1)
  go_enter Tryd.func9, Tryd.ntmps9
  go_wp2_with (first | (with_reducible refine wpList_new_b rfl rfl ?_) | (refine wpList_build_rd (by rfl) _ rfl rfl ?_) | (with_reducible refine wpList_new_rd rfl rfl ?_) | ((with_reducible refine wpList_store_rd rfl _ _ rfl ?_ ?_ ?_); exact rfl; exact rfl))
  go_loopw [6] (fun _ wr => ∃ (pos : Nat) (s : St), Mid t w wr pos s) (fun _ wr => t.size - wr.iterPos (w.heap.size + 1 + 1))
  case atStart => exact ⟨0, _, Mid.start t w⟩
  case round =>
    obtain ⟨pos, s, hM⟩ := hrel
    have HM := Lib.hid hM
    have hI := Lib.hid hM.inv
    clear hM
    by_cases hp : pos < t.size
    · by_cases hc : (t[pos]'hp).toNat < 128
      · have hd := decode_ascii t pos hp hc
        have hnx : ∀ ty, (Instr.next (.pointer (some ⟨w.heap.size + 1 + 1, 0, none⟩)) true ty).run Tryd.prog _ = _ := fun ty => next_at _ (w.heap.size + 1 + 1) t pos ty HM.out.iter hp
        rw [hd] at hnx
        clear hd
        cases hs : stp (t[pos]'hp) s with
        | some s' =>
          have HS := Lib.hid hs
          clear hs
          generalize hcc : t[pos]'hp = c at *
          have HC := Lib.hid hcc
          clear hcc
          go_wp2_with fail
          refine (take_yes _ _ s s' hI.out (HM.out.next _) c HS.out).mono ?_
          rintro e w2 ⟨rfl, hr, hk⟩
          have HN := Lib.hid (HM.out.step hp (by rw [HC.out]; exact HS.out) hr hk)
          clear hr hk
          go_wp2
          go_roundw
          case rel => exact ⟨pos + 1, s', HN.out⟩
          case measure => simp [World.iterPos, HN.out.iter, HM.out.iter]; omega
        | none =>
          have HS := Lib.hid (HM.out.stop hp hs)
          have HS' := Lib.hid hs
          clear hs
          generalize hcc : t[pos]'hp = c at *
          clear hcc
          go_wp2_with fail
          refine (take_no _ _ s hI.out (HM.out.next _) c hc HS'.out).mono ?_
          rintro e w2 ⟨rfl, g2⟩
          have h01 := Lib.hid (g2.heap (HM.out.resN (pos + 1)))
          have K2 := Lib.hid ((HM.out.keptN (pos + 1)).trans g2)
          clear g2
          go_wp2_with (first | (refine wpList_zero_w (by rfl) rfl ?_) | (refine wpList_store_row rfl 24 _ _ rfl w.heap.size (cl Zb).toArray rfl rfl 24 _ h01.out hz.out rfl (cl_one _) ?_))
          refine bodyPost_ret (v := .tuple #[.agg (cl Zb).toArray, .int .i64 pos, .int .i64 2]) ?_ rfl ⟨Zb, pos, 2, rfl, HS.out, K2.out.setRow (by omega) _⟩
          exact (results_board_tmp2 (p := 2) (t := 3) (u := 4) rfl _ _ w.heap.size Zb Zb_brd.1 rfl (setRow_heap _ _ _ _ _ _ h01.out)).trans rfl
      · have hq := (decode_high t pos hp (by omega)).1
        have HS := Lib.hid (HM.out.stop hp (stp_high _ s (by omega)))
        have hnx : ∀ ty, (Instr.next (.pointer (some ⟨w.heap.size + 1 + 1, 0, none⟩)) true ty).run Tryd.prog _ = _ := fun ty => next_at _ (w.heap.size + 1 + 1) t pos ty HM.out.iter hp
        generalize (Utf8.decode t pos).1 = q at *
        generalize (Utf8.decode t pos).2 = k at *
        clear hc
        go_wp2_with fail
        refine (take_high _ _ q hq).mono ?_
        rintro e w2 ⟨rfl, g2⟩
        have h01 := Lib.hid (g2.heap (HM.out.resN (pos + k)))
        have K2 := Lib.hid ((HM.out.keptN (pos + k)).trans g2)
        clear g2
        go_wp2_with (first | (refine wpList_zero_w (by rfl) rfl ?_) | (refine wpList_store_row rfl 24 _ _ rfl w.heap.size (cl Zb).toArray rfl rfl 24 _ h01.out hz.out rfl (cl_one _) ?_))
        refine bodyPost_ret (v := .tuple #[.agg (cl Zb).toArray, .int .i64 pos, .int .i64 2]) ?_ rfl ⟨Zb, pos, 2, rfl, HS.out, K2.out.setRow (by omega) _⟩
        exact (results_board_tmp2 (p := 2) (t := 3) (u := 4) rfl _ _ w.heap.size Zb Zb_brd.1 rfl (setRow_heap _ _ _ _ _ _ h01.out)).trans rfl
    · have hnx : ∀ ty, (Instr.next (.pointer (some ⟨w.heap.size + 1 + 1, 0, none⟩)) true ty).run Tryd.prog _ = _ := fun ty => next_at_end _ (w.heap.size + 1 + 1) t pos ty HM.out.iter hp
      have HA := Lib.hid (HM.out.all hp)
      obtain ⟨i1, i2, i3, i4⟩ := hI.out
      have HB := Lib.hid i4
      have HL := Lib.hid i1
      clear i1 i4
      have h01 := Lib.hid HM.out.res
      have hR := Lib.hid HM.out.rd
      have hK := Lib.hid HM.out.kept
      go_wp2_with fail
      refine (whole_is _ _ _ _ _ hR.out (by omega) (by omega) (by omega) (by omega)).mono ?_
      by_cases hw : s.2.2 = 8 ∧ s.2.1 = 7
      · have hwb : (((s.2.2 : Int) == 8) && ((7 - (s.2.1 : Int)) == 0)) = true := by
          rw [Bool.and_eq_true, beq_iff_eq, beq_iff_eq]; omega
        rw [hwb]
        rintro e w' ⟨rfl, rfl⟩
        have HE : Hid (Reads t.data.toList (bd s.1) t.size 0) := by
          refine .inr ⟨s, HA.out.1, (len_size t).symm, .inr ⟨?_, rfl, rfl⟩⟩
          have := HL.out; omega
        have hlen := Lib.hid (bd_length s.1)
        clear hwb hw hnx
        go_wp2_with (first | (refine wpList_load_mid rfl 24 _ rfl (w.heap.size + 1) 0 rfl (cl (bd s.1)) _ hR.out.range Tryd.underlying24 rfl (by rw [size24, cl_length, hlen.out]) ?_) | (refine wpList_store_row rfl 24 _ _ rfl w.heap.size (cl (bd s.1)).toArray rfl rfl 24 _ h01.out (by rw [size24, cl_size _ hlen.out]) (by rw [cl_size _ hlen.out]; rfl) (cl_one _) ?_))
        refine bodyPost_ret (v := .tuple #[.agg (cl (bd s.1)).toArray, .int .i64 t.size, .int .i64 0]) ?_ rfl ⟨bd s.1, t.size, 0, rfl, HE.out, hK.out.setRow (by omega) _⟩
        exact (results_board_tmp2 (p := 2) (t := 3) (u := 4) rfl _ _ w.heap.size _ hlen.out rfl (setRow_heap _ _ _ _ _ _ h01.out)).trans rfl
      · have hwb : (((s.2.2 : Int) == 8) && ((7 - (s.2.1 : Int)) == 0)) = false := by
          rw [← Bool.not_eq_true, Bool.and_eq_true, beq_iff_eq, beq_iff_eq]; omega
        rw [hwb]
        rintro e w' ⟨rfl, rfl⟩
        have HE : Hid (Reads t.data.toList Zb t.size 1) := by
          refine .inr ⟨s, HA.out.1, (len_size t).symm, .inl ⟨?_, rfl, rfl⟩⟩
          have := HL.out; omega
        clear hwb hw hnx
        go_wp2_with (first | (refine wpList_zero_w (by rfl) rfl ?_) | (refine wpList_store_row rfl 24 _ _ rfl w.heap.size (cl Zb).toArray rfl rfl 24 _ h01.out hz.out rfl (cl_one _) ?_))
        refine bodyPost_ret (v := .tuple #[.agg (cl Zb).toArray, .int .i64 t.size, .int .i64 1]) ?_ rfl ⟨Zb, t.size, 1, rfl, HE.out, hK.out.setRow (by omega) _⟩
        exact (results_board_tmp2 (p := 2) (t := 3) (u := 4) rfl _ _ w.heap.size Zb Zb_brd.1 rfl (setRow_heap _ _ _ _ _ _ h01.out)).trans rfl
end Go.Proofs.YtkfjpecehighlaaDoor
