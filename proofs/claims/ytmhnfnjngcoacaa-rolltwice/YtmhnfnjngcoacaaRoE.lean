/- Any sign of a roll; Read. -/
import Derived.Test.YtmhnfnjngcoacaaRoD
namespace Go.Proofs.Ytmhnfnjngcoacaa
open Go.RowKit
set_option linter.unusedVariables false
set_option linter.unusedSimpArgs false

theorem capK_rune (c : UInt8) (h : capK c ≠ 0) : (c.toNat : Nat) = runeL (6 - capK c) := by
  unfold capK at *
  repeat' split
  all_goals first
    | (rename_i hh; rw [hh]; rfl)
    | skip
  all_goals simp_all
theorem reads_sign (w : World) (g : Nat) (r r' : RS) (hi : RInv r) (h : Rr w g r) (c : UInt8) (hs : rst c r = some r') :
    Calls Try.prog (nf r.next) #[.pointer (some ⟨g, 0, none⟩), .int .i32 (c.toNat : Nat)] w fun e w' => e = .returned (.bool true) ∧ Rr w' g r' ∧ KeptB g w w' := by
  unfold rst at hs
  split at hs
  · rename_i hn
    rw [hn]
    split at hs
    · cases hs
    · rename_i d rest hl
      split at hs
      · rename_i hc
        subst hc
        have hlen := hi.len
        rw [hl] at hlen
        split at hs
        · rename_i hr
          cases hs
          subst hr
          exact inWord_end w g r h c hl
        · rename_i hr
          cases hs
          exact inWord_mid w g r h c rest hl hr (by simp at hlen; omega)
      · cases hs
  · rename_i hn
    rw [hn]
    split at hs
    · rename_i hc
      cases hs
      subst hc
      exact behind_yes w g r h
    · cases hs
  · rename_i hn
    rw [hn]
    split at hs
    · rename_i hc
      cases hs
      obtain ⟨h0, rfl⟩ := hc
      exact item_black w g r h h0
    · split at hs
      · cases hs
      · rename_i hk
        cases hs
        have := capK_le c
        have h1 := item_man w g r h hi.side (6 - capK c) (by omega)
        rw [← capK_rune c hk, show 6 - (6 - capK c) = capK c by omega] at h1
        exact h1
  · rename_i hn
    rw [hn]
    split at hs
    · rename_i hc
      cases hs
      exact inFile_yes w g r h c.toNat hc.1 hc.2
    · cases hs
  · rename_i hn
    rw [hn]
    split at hs
    · rename_i hc
      cases hs
      have hf := hi.file hn
      exact inRank_yes w g r h hi.brd hi.man hf.1 hf.2 c hc.1 hc.2.1 hc.2.2
    · cases hs
  · cases hs
theorem reads_twice (w : World) (g : Nat) (r : RS) (hi : RInv r) (h : Rr w g r) (c : UInt8) (hs : rtwice c r) :
    Calls Try.prog (nf r.next) #[.pointer (some ⟨g, 0, none⟩), .int .i32 (c.toNat : Nat)] w fun e w' => e = .returned (.bool false) ∧ Kept w w' := by
  obtain ⟨hn, h0, h1, h2⟩ := hs
  have hf := hi.file hn
  rw [hn]
  exact inRank_twice w g r h hi.brd hf.1 hf.2 c h0 h1 h2
theorem call_enters {f : FuncId} {fn : Func} {c : Code} (hf : Try.prog.funcs[f]? = some fn) (hname : (fn.name == "runtime.NumGoroutine") = false) (hb : fn.body = some c) (args : Array Value) (w : World) :
    (callFunc f args).run Try.prog w = .ok (.enter f args) w := by
  have h1 : fn.name ≠ "runtime.NumGoroutine" := by simpa using hname
  simp [callFunc, hf, h1, hb]
theorem nf_enters (n : Nat) (args : Array Value) (w : World) : (callFunc (nf n) args).run Try.prog w = .ok (.enter (nf n) args) w := by
  unfold nf
  split
  · exact call_enters Try.func16 (by kernel_rfl) rfl args w
  · exact call_enters Try.func37 (by kernel_rfl) rfl args w
  · exact call_enters Try.func41 (by kernel_rfl) rfl args w
  · exact call_enters Try.func45 (by kernel_rfl) rfl args w
  · exact call_enters Try.func47 (by kernel_rfl) rfl args w
/-- A new reader. -/
def rz : List Value := cl Zb ++ [.int .i64 0, .string ⟨#[]⟩, .int .i64 0, .int .i32 0, .nilFunc, .bool false]
def ri : List Value := cl Zb ++ rtl r0
theorem info_rr : (Try.prog.info? 45).map (fun i => (i.zero, i.size)) = some (some (.agg rz.toArray), 70) := by kernel_rfl
theorem ri_size : ri.toArray.size = 70 := by decide +kernel
theorem rz_size : rz.toArray.size = 70 := by decide +kernel
theorem ri_one : ri.toArray.all (·.oneCell') = true := by decide +kernel
theorem wpList_build_rr {ops : Array Oper} {rest : List Oper} {o : Oper} {a : Act} {w : World} {Q : Exit → Act → World → Prop} (hw : Region.wanted o (yielded ops a.tmps) = true) (x y z : Operand) (ho : o.op = .build 45 #[(1, x), (2, y), (5, z)]) (hx : a.eval x = .int .i64 0)
    (hy : a.eval y = .string ⟨#[119, 104, 105, 116, 101]⟩) (hz : a.eval z = .func (.func 16) #[] #[])
    (h : wpList Try.prog ops Q rest (a.put o.dst (.agg ri.toArray)) w) : wpList Try.prog ops Q (o :: rest) a w :=
  wpList_step fun _ hK => by
    rw [if_pos hw]
    have hf' : Try.prog.built 45 [(1, .int .i64 0), (2, .string ⟨#[119, 104, 105, 116, 101]⟩), (5, .func (.func 16) #[] #[])] = some ri.toArray := by kernel_rfl
    have hf : Try.prog.built 45 ((#[(1, x), (2, y), (5, z)] : Array (Nat × Operand)).map fun (i, x) => (i, a.eval x)).toList = some ri.toArray := by
      rw [← hf']; simp [hx, hy, hz]
    exact wp_build _ _ ho (by rw [hf]; rfl) (by rw [hf]; exact hK _ _ h)
theorem wpList_new_rr {ops : Array Oper} {rest : List Oper} {o : Oper} {a : Act} {w : World} {Q : Exit → Act → World → Prop} (hgd : o.guard = none) (ho : o.op = .alloc 45)
    (h : wpList Try.prog ops Q rest (a.put o.dst (.pointer (some ⟨w.heap.size, 0, none⟩))) (w.alloc (.cells rz.toArray 45))) : wpList Try.prog ops Q (o :: rest) a w := by
  refine wpList_plain hgd fun _ hK => ?_
  unfold Oper.wp execOp
  simp only [ho, Instr.alloc, Sem.run_bind, (zero_of_info info_rr).1, Result.andThen_ok, newVar, newRow, Value.cells]
  exact hK _ _ h
theorem wpList_store_rr {ops : Array Oper} {rest : List Oper} {o : Oper} {a : Act} {w : World} {Q : Exit → Act → World → Prop} (hgd : o.guard = none) (x y : Operand) (ho : o.op = .store 45 x y)
    (hx : a.eval x = .pointer (some ⟨w.heap.size, 0, none⟩)) (hy : a.eval y = .agg ri.toArray)
    (h : wpList Try.prog ops Q rest (a.put o.dst undef) (w.alloc (.cells ri.toArray 45))) : wpList Try.prog ops Q (o :: rest) a (w.alloc (.cells rz.toArray 45)) := by
  refine wpList_store_row hgd 45 x y ho w.heap.size ri.toArray hx hy 45 _ (heap_alloc_new w _) (by rw [ri_size]; kernel_rfl) (by rw [ri_size, rz_size]) ri_one ?_
  rw [World.setRow_alloc_new]
  exact h
/-- What stands where Read has come to place 'pos' of t. -/
structure RMid (t : ByteArray) (w wr : World) (pos : Nat) (r : RS) : Prop where
  le : pos ≤ t.size
  fed : rfeed r0 (t.data.toList.take pos) = some r
  iter : wr.heap[w.heap.size + 1 + 1]? = some (.stringIter t pos)
  rd : Rr wr (w.heap.size + 1) r
  res : wr.heap[w.heap.size]? = some (.cells (cl Zb).toArray 24 (0, 0))
  kept : Kept w wr
theorem RMid.start (t : ByteArray) (w : World) : RMid t w (((w.alloc (.cells (cl Zb).toArray 24)).alloc (.cells ri.toArray 45)).iter t 0) 0 r0 := by
  have k := Kept.of_grown (grown_iter ((w.alloc (.cells (cl Zb).toArray 24)).alloc (.cells ri.toArray 45)) t 0)
  refine ⟨by omega, rfl, ?_, ⟨Zb_brd.1, ?_⟩, ?_, ?_⟩
  · simpa using World.iter_heap ((w.alloc (.cells (cl Zb).toArray 24)).alloc (.cells ri.toArray 45)) t 0
  · exact k.heap (heap_alloc2_new _ _ _)
  · exact k.heap (heap_alloc2_old _ _ _)
  · exact (((Kept.refl w).alloc _).alloc _).trans k
theorem RMid.inv {t : ByteArray} {w wr : World} {pos : Nat} {r : RS} (h : RMid t w wr pos r) : RInv r := rfeed_inv r0_inv h.fed
theorem RMid.next {t : ByteArray} {w wr : World} {pos : Nat} {r : RS} (h : RMid t w wr pos r) (p : Nat) : Rr (iterAt wr (w.heap.size + 1 + 1) t p) (w.heap.size + 1) r :=
  ⟨h.rd.len, (iterAt_other t p (by omega)).trans h.rd.at_⟩
theorem RMid.keptN {t : ByteArray} {w wr : World} {pos : Nat} {r : RS} (h : RMid t w wr pos r) (p : Nat) : Kept w (iterAt wr (w.heap.size + 1 + 1) t p) := h.kept.iterAt (by omega) t p
theorem RMid.resN {t : ByteArray} {w wr : World} {pos : Nat} {r : RS} (h : RMid t w wr pos r) (p : Nat) : (iterAt wr (w.heap.size + 1 + 1) t p).heap[w.heap.size]? = some (.cells (cl Zb).toArray 24 (0, 0)) :=
  (iterAt_other t p (by omega)).trans h.res
theorem RMid.step {t : ByteArray} {w wr w2 : World} {pos : Nat} {r r' : RS} (h : RMid t w wr pos r) (hp : pos < t.size) (hs : rst (t[pos]'hp) r = some r')
    (hr : Rr w2 (w.heap.size + 1) r') (hk : KeptB (w.heap.size + 1) (iterAt wr (w.heap.size + 1 + 1) t (pos + 1)) w2) : RMid t w w2 (pos + 1) r' := by
  refine ⟨by omega, ?_, hk.heap (by omega) (iterAt_heap h.iter t (pos + 1)), hr, hk.heap (by omega) (h.resN _), hk.kept (h.keptN _) (by omega)⟩
  rw [rfeed_take _ _ _ (by rw [len_size]; exact hp), h.fed, at_size t pos hp]
  exact hs
/-- Where reading has come to, of a text that is read so: one more sign, or it is named twice. -/
theorem RReads.at {t : ByteArray} {B : List Int} {n : Nat} {x : Int} (h : RReads t.data.toList B n x) {pos : Nat} {r : RS} (hf : rfeed r0 (t.data.toList.take pos) = some r) (hn : pos ≤ n) (hp : pos < t.size) :
    (pos < n ∧ ∃ r', rst (t[pos]'hp) r = some r') ∨ (pos = n ∧ rtwice (t[pos]'hp) r ∧ B = Zb ∧ x = 2) := by
  have hl : pos < t.data.toList.length := by rw [len_size]; exact hp
  have hstep : ∀ {m : Nat} {y : RS}, pos < m → rfeed r0 (t.data.toList.take m) = some y → ∃ r', rst (t[pos]'hp) r = some r' := fun {m y} hm hy => by
    obtain ⟨z, hz⟩ := rfeed_some hy (show pos + 1 ≤ m from hm)
    rw [rfeed_take _ _ _ hl, hf, at_size t pos hp] at hz
    exact ⟨z, hz⟩
  rcases h with ⟨hlt, r1, h1, h2, h3, h4⟩ | ⟨r1, h1, h2, h3⟩
  · by_cases he : pos = n
    · subst he
      rw [h1] at hf
      cases hf
      refine .inr ⟨rfl, ?_, h3, h4⟩
      rwa [at_size t pos hp] at h2
    · exact .inl ⟨by omega, hstep (show pos < n by omega) h1⟩
  · refine .inl ⟨by rw [h2, len_size]; exact hp, hstep (y := r1) hl ?_⟩
    rw [List.take_length]; exact h1
theorem RReads.end {t : ByteArray} {B : List Int} {n : Nat} {x : Int} (h : RReads t.data.toList B n x) {pos : Nat} {r : RS} (hf : rfeed r0 (t.data.toList.take pos) = some r) (hn : pos ≤ n) (hp : ¬ pos < t.size) :
    n = t.size ∧ ((r.ends = false ∧ B = Zb ∧ x = 1) ∨ (r.ends = true ∧ B = r.B ∧ x = 0)) := by
  rcases h with ⟨hlt, _⟩ | ⟨r1, h1, h2, h3⟩
  · rw [len_size] at hlt; omega
  · rw [List.take_of_length_le (by rw [len_size]; omega), h1] at hf
    cases hf
    exact ⟨by rw [h2, len_size], h3⟩
theorem rollread_is (t : ByteArray) (hm : t.size ≤ 1000000) (B : List Int) (n : Nat) (x : Int) (hR : RReads t.data.toList B n x) (w : World) :
    Calls Try.prog 8 #[.string t] w fun e w' => e = .returned (.tuple #[.agg (cl B).toArray, .int .i64 n, .int .i64 x]) ∧ Kept w w' := by
  have hz := Lib.hid (size_cl Zb_brd.1)
  have HR := Lib.hid hR
  clear hR
  go_enter Try.func8, Try.ntmps8
  go_wp2_with (first | (with_reducible refine wpList_new_b rfl rfl ?_) | (refine wpList_build_rr (by rfl) _ _ _ rfl rfl rfl rfl ?_) | (with_reducible refine wpList_new_rr rfl rfl ?_) | ((with_reducible refine wpList_store_rr rfl _ _ rfl ?_ ?_ ?_); exact rfl; exact rfl))
  go_loopw [6] (fun _ wr => ∃ (pos : Nat) (r : RS), pos ≤ n ∧ RMid t w wr pos r) (fun _ wr => t.size - wr.iterPos (w.heap.size + 1 + 1))
  case atStart => exact ⟨0, _, by omega, RMid.start t w⟩
  case round =>
    obtain ⟨pos, r, hpn, hM⟩ := hrel
    have HM := Lib.hid hM
    have hI := Lib.hid hM.inv
    clear hM
    by_cases hp : pos < t.size
    · have HA := HR.out.at HM.out.fed hpn hp
      have c4 := (HM.out.next (pos + 1)).cell 4 rfl
      obtain ⟨fi, hfi⟩ : ∃ fi, nf r.next = fi := ⟨_, rfl⟩
      simp only [nv, hfi] at c4
      have hent := nf_enters r.next
      rw [hfi] at hent
      rcases HA with ⟨hlt, r', hs⟩ | ⟨rfl, hs, rfl, rfl⟩
      · have HC := Lib.hid (rst_low hs hI.out)
        have hd := decode_ascii t pos hp HC.out
        have hnx : ∀ ty, (Instr.next (.pointer (some ⟨w.heap.size + 1 + 1, 0, none⟩)) true ty).run Try.prog _ = _ := fun ty => next_at _ (w.heap.size + 1 + 1) t pos ty HM.out.iter hp
        rw [hd] at hnx
        clear hd
        have HS := Lib.hid hs
        have hcall := Lib.hid (fun w0 => reads_sign w0 (w.heap.size + 1) r r' hI.out)
        rw [hfi] at hcall
        clear hs hfi
        generalize hcc : t[pos]'hp = c at *
        have HCC := Lib.hid hcc
        clear hcc
        go_wp2_with fail
        refine (hcall.out _ (HM.out.next _) c HS.out).mono ?_
        rintro e w2 ⟨rfl, hr, hk⟩
        have HN := Lib.hid (HM.out.step hp (by rw [HCC.out]; exact HS.out) hr hk)
        clear hr hk c4
        go_wp2
        go_roundw
        case rel => exact ⟨pos + 1, r', by omega, HN.out⟩
        case measure => simp [World.iterPos, HN.out.iter, HM.out.iter]; omega
      · have HC := Lib.hid (show (t[pos]'hp).toNat < 128 by have := hs.2.2.1; omega)
        have hd := decode_ascii t pos hp HC.out
        have hnx : ∀ ty, (Instr.next (.pointer (some ⟨w.heap.size + 1 + 1, 0, none⟩)) true ty).run Try.prog _ = _ := fun ty => next_at _ (w.heap.size + 1 + 1) t pos ty HM.out.iter hp
        rw [hd] at hnx
        clear hd
        have HS := Lib.hid hs
        have hcall := Lib.hid (fun w0 => reads_twice w0 (w.heap.size + 1) r hI.out)
        rw [hfi] at hcall
        clear hs hfi
        generalize hcc : t[pos]'hp = c at *
        clear hcc
        go_wp2_with fail
        refine (hcall.out _ (HM.out.next _) c HS.out).mono ?_
        rintro e w2 ⟨rfl, g2⟩
        have h01 := Lib.hid (g2.heap (HM.out.resN (pos + 1)))
        have K2 := Lib.hid ((HM.out.keptN (pos + 1)).trans g2)
        clear g2 c4
        go_wp2_with (first | (refine wpList_zero_w (by rfl) rfl ?_) | (refine wpList_store_row rfl 24 _ _ rfl w.heap.size (cl Zb).toArray rfl rfl 24 _ h01.out hz.out rfl (cl_one _) ?_))
        refine bodyPost_ret (v := .tuple #[.agg (cl Zb).toArray, .int .i64 pos, .int .i64 2]) ?_ rfl ⟨rfl, K2.out.setRow (by omega) _⟩
        exact (results_board_tmp2 (p := 2) (t := 3) (u := 4) rfl _ _ w.heap.size Zb Zb_brd.1 rfl (setRow_heap _ _ _ _ _ _ h01.out)).trans rfl
    · have hnx : ∀ ty, (Instr.next (.pointer (some ⟨w.heap.size + 1 + 1, 0, none⟩)) true ty).run Try.prog _ = _ := fun ty => next_at_end _ (w.heap.size + 1 + 1) t pos ty HM.out.iter hp
      obtain ⟨hn, HE⟩ := HR.out.end HM.out.fed hpn hp
      subst hn
      have h01 := Lib.hid HM.out.res
      have hR := Lib.hid HM.out.rd
      have hK := Lib.hid HM.out.kept
      have c5 := HM.out.rd.cell 5 rfl
      have hlen := Lib.hid HM.out.rd.len
      rcases HE with ⟨he, rfl, rfl⟩ | ⟨he, rfl, rfl⟩
      · rw [he] at c5
        go_wp2_with (first | (refine wpList_zero_w (by rfl) rfl ?_) | (refine wpList_store_row rfl 24 _ _ rfl w.heap.size (cl Zb).toArray rfl rfl 24 _ h01.out hz.out rfl (cl_one _) ?_))
        refine bodyPost_ret (v := .tuple #[.agg (cl Zb).toArray, .int .i64 t.size, .int .i64 1]) ?_ rfl ⟨rfl, hK.out.setRow (by omega) _⟩
        exact (results_board_tmp2 (p := 2) (t := 3) (u := 4) rfl _ _ w.heap.size Zb Zb_brd.1 rfl (setRow_heap _ _ _ _ _ _ h01.out)).trans rfl
      · rw [he] at c5
        go_wp2_with (first | (refine wpList_load_mid rfl 24 _ rfl (w.heap.size + 1) 0 rfl (cl r.B) _ hR.out.range Try.underlying24 rfl (by rw [size24, cl_length, hlen.out]) ?_) | (refine wpList_store_row rfl 24 _ _ rfl w.heap.size (cl r.B).toArray rfl rfl 24 _ h01.out (by rw [size24, cl_size _ hlen.out]) (by rw [cl_size _ hlen.out]; rfl) (cl_one _) ?_))
        refine bodyPost_ret (v := .tuple #[.agg (cl r.B).toArray, .int .i64 t.size, .int .i64 0]) ?_ rfl ⟨rfl, hK.out.setRow (by omega) _⟩
        exact (results_board_tmp2 (p := 2) (t := 3) (u := 4) rfl _ _ w.heap.size _ hlen.out rfl (setRow_heap _ _ _ _ _ _ h01.out)).trans rfl
end Go.Proofs.Ytmhnfnjngcoacaa
