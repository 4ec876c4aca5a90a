/- Stipulations: the document's Read. -/
import Derived.Test.YtnlgjakohoimhaaDoorSiW
namespace Go.Proofs.YtnlgjakohoimhaaDoor
open Go.RowKit
set_option linter.unusedVariables false
set_option linter.unusedSimpArgs false
set_option maxRecDepth 100000
set_option maxHeartbeats 4000000

/-- What the document tells: a stipulation and a step. -/
def gl (q : Stp) (y : Sp) : List Value := [.int .i64 q.k, .int .i64 q.g, .int .i64 q.n, .bool q.h, .int .i64 y.a, .int .i64 y.n, .int .i64 y.e]
structure GAt (w : World) (g : Nat) (q : Stp) (y : Sp) : Prop where
  at_ : w.heap[g]? = some (.cells (gl q y).toArray 31 (0, 0))
theorem GAt.kept {w w' : World} {g : Nat} {q : Stp} {y : Sp} (h : GAt w g q y) (k : Kept w w') : GAt w' g q y := ⟨k.heap h.at_⟩
theorem GAt.new (w : World) (q : Stp) (y : Sp) : GAt (w.alloc (.cells (gl q y).toArray 31)) w.heap.size q y := ⟨heap_alloc_new w _⟩
theorem GAt.row {w : World} {g : Nat} {q : Stp} {y : Sp} (h : GAt w g q y) (q' : Stp) (y' : Sp) : GAt (w.setRow g (gl q' y').toArray) g q' y' := ⟨setRow_heap _ _ _ _ _ _ h.at_⟩
theorem GAt.rowOther {w : World} {g k : Nat} {q : Stp} {y : Sp} (h : GAt w g q y) (hk : g ≠ k) (c : Array Value) : GAt (w.setRow k c) g q y := ⟨(setRow_other w k g c hk).trans h.at_⟩
theorem sizeG : (Tryd.prog.info? 31).map (·.size) = some 7 := by kernel_rfl
theorem gl_sz (q : Stp) (y : Sp) : (Tryd.prog.info? 31).map (·.size) = some (gl q y).toArray.size := by rw [sizeG]; rfl
theorem gl_one (q : Stp) (y : Sp) : (gl q y).toArray.all (·.oneCell') = true := by
  rw [Array.all_eq_true_iff_forall_mem]
  intro v hv
  simp only [List.mem_toArray, gl, List.mem_cons, List.not_mem_nil, or_false] at hv
  rcases hv with rfl | rfl | rfl | rfl | rfl | rfl | rfl <;> rfl
def gv (q : Stp) (y : Sp) : Value := .agg (gl q y).toArray
theorem zeroG : (Tryd.prog.info? 31).map (fun i => (i.zero, i.size)) = some (some (.agg (gl Zt Zs).toArray), 7) := by kernel_rfl
theorem run_zero_g (w : World) : (zeroValue 31).run Tryd.prog w = .ok (.agg (gl Zt Zs).toArray) w := (zero_of_info zeroG).1 w
theorem bt_g0 : Tryd.prog.built 31 [] = some (gl Zt Zs).toArray := by kernel_rfl
theorem bt_g1 (y : Sp) : Tryd.prog.built 31 [(1, sv y)] = some (gl Zt y).toArray := by obtain ⟨a, n, e⟩ := y; kernel_rfl
theorem bt_g2 (q : Stp) (y : Sp) : Tryd.prog.built 31 [(0, qv q), (1, sv y)] = some (gl q y).toArray := by obtain ⟨a, n, e⟩ := y; obtain ⟨k, g, m, h⟩ := q; kernel_rfl
section
variable {ops : Array Oper} {rest : List Oper} {o : Oper} {a : Act} {w : World} {Q : Exit → Act → World → Prop}
theorem wpList_new_g (hgd : o.guard = none) (ho : o.op = .alloc 31)
    (h : wpList Tryd.prog ops Q rest (a.put o.dst (.pointer (some ⟨w.heap.size, 0, none⟩))) (w.alloc (.cells (gl Zt Zs).toArray 31))) : wpList Tryd.prog ops Q (o :: rest) a w := by
  refine wpList_plain hgd fun _ hK => ?_
  unfold Oper.wp execOp
  simp only [ho, Instr.alloc, Sem.run_bind, run_zero_g, Result.andThen_ok, newVar, newRow, Value.cells]
  exact hK _ _ h
theorem wpList_store_g (hgd : o.guard = none) (x y : Operand) (ho : o.op = .store 31 x y)
    (g : Nat) (q0 : Stp) (y0 : Sp) (q : Stp) (z : Sp) (hg : GAt w g q0 y0) (hx : a.eval x = .pointer (some ⟨g, 0, none⟩)) (hy : a.eval y = gv q z)
    (h : wpList Tryd.prog ops Q rest (a.put o.dst undef) (w.setRow g (gl q z).toArray)) : wpList Tryd.prog ops Q (o :: rest) a w :=
  wpList_store_row hgd 31 x y ho g (gl q z).toArray hx hy 31 _ hg.at_ (gl_sz _ _) rfl (gl_one _ _) h
theorem wpList_load_g (hw : Region.wanted o (yielded ops a.tmps) = true) (x : Operand) (ho : o.op = .load 31 x)
    (g : Nat) (hx : a.eval x = .pointer (some ⟨g, 0, none⟩)) (q : Stp) (y : Sp) (hg : GAt w g q y)
    (h : wpList Tryd.prog ops Q rest (a.put o.dst (gv q y)) w) : wpList Tryd.prog ops Q (o :: rest) a w :=
  wpList_step fun _ hK => by
    rw [if_pos hw]
    exact wp_load_mid 31 x ho g 0 hx (gl q y) _ (fun j v hv => by rw [Nat.zero_add, cell_of_row _ _ j _ _ (0, 0) hg.at_]; simpa using hv) Tryd.underlying31 rfl sizeG (hK _ _ h)
theorem wpList_bt_g0 (hg : o.guard = none) (ho : o.op = .build 31 #[]) (h : wpList Tryd.prog ops Q rest (a.put o.dst (gv Zt Zs)) w) : wpList Tryd.prog ops Q (o :: rest) a w :=
  wpList_built hg _ _ ho _ (by
    have : ((#[] : Array (Nat × Operand)).map fun (i, x) => (i, a.eval x)).toList = [] := by simp
    rw [this]; exact bt_g0) h
theorem wpList_bt_g1 (hg : o.guard = none) (x0 : Operand) (ho : o.op = .build 31 #[(1, x0)]) (y : Sp) (h0 : a.eval x0 = sv y)
    (h : wpList Tryd.prog ops Q rest (a.put o.dst (gv Zt y)) w) : wpList Tryd.prog ops Q (o :: rest) a w :=
  wpList_built hg _ _ ho _ (by
    have : ((#[(1, x0)] : Array (Nat × Operand)).map fun (i, x) => (i, a.eval x)).toList = [(1, sv y)] := by simp [h0]
    rw [this]; exact bt_g1 y) h
theorem wpList_bt_g2 (hg : o.guard = none) (x0 x1 : Operand) (ho : o.op = .build 31 #[(0, x0), (1, x1)]) (q : Stp) (y : Sp) (h0 : a.eval x0 = qv q) (h1 : a.eval x1 = sv y)
    (h : wpList Tryd.prog ops Q rest (a.put o.dst (gv q y)) w) : wpList Tryd.prog ops Q (o :: rest) a w :=
  wpList_built hg _ _ ho _ (by
    have : ((#[(0, x0), (1, x1)] : Array (Nat × Operand)).map fun (i, x) => (i, a.eval x)).toList = [(0, qv q), (1, sv y)] := by simp [h0, h1]
    rw [this]; exact bt_g2 q y) h
end
theorem ret_g {fn : Func} {s : Tmp} (h : fn.results = #[.cell s 31]) {tmps : Array Value} {w : World} {g : Nat} {q : Stp} {y : Sp} (hg : GAt w g q y)
    (hp : tmps.getD s undef = .pointer (some ⟨g, 0, none⟩)) : (results fn tmps).run Tryd.prog w = .ok (gv q y) w := by
  have hp' : tmps[s]?.getD undef = .pointer (some ⟨g, 0, none⟩) := by simpa using hp
  have hl : (loadVar 31 ⟨g, 0, none⟩).run Tryd.prog w = .ok (gv q y) w := run_loadVar_row _ g _ _ (gl q y).toArray (0, 0) _ hg.at_ Tryd.underlying31 rfl (gl_sz q y)
  simp [results, h, hp', asAddr, hl]
theorem LsQ.rowOther {w : World} {g k : Nat} {v : Value} {l : List Stp} (h : LsQ w g v l) (hne : g ≠ k) (c : Array Value) : LsQ (w.setRow k c) g v l := by
  obtain ⟨off, cap, e, h1, h2, h3⟩ := h
  exact ⟨off, cap, e, h1, h2, fun i x hx => (World.cell?_of_block (setRow_other w k g c hne)).trans (h3 i x hx)⟩
/-- The step that stands beside the best. -/
def besS (i m : Int) : Sp := if m = -1 then Zs else ⟨i + m, 0, 0⟩
theorem cmn_drop_len (t : ByteArray) (A : Nat) (b : List UInt8) : cmn ((bs t).drop A) b ≤ t.size := by
  have := cmn_l ((bs t).drop A) b
  rw [List.length_drop, bs_len] at this
  omega
theorem rf_next {M : List UInt8} {j : Nat} {s : Stp} {x : Stp × Int × Nat} (h : allS[j]? = some s) : rfGo M (allS.drop j) x = rfGo M (allS.drop (j + 1)) (stpGo M s x) := by
  obtain ⟨h1, h2⟩ := List.getElem?_eq_some_iff.1 h
  rw [List.drop_eq_getElem_cons h1, h2]; rfl
theorem range_of_ls {w : World} {g off : Nat} {n cap : Nat} (h : LsQ w g (.slice (some ⟨g, off, none⟩) n cap) allS) {j : Nat} {s : Stp} (hs : allS[j]? = some s) : w.rangeAt g (off + j * 4) (ql s) := by
  obtain ⟨off', cap', e, _, _, h3⟩ := h
  simp only [Value.slice.injEq, Option.some.injEq, Addr.mk.injEq] at e
  obtain ⟨⟨_, e1, _⟩, _, _⟩ := e
  rw [Nat.mul_comm, e1]
  exact range_q h3 hs
theorem rread_no (t : ByteArray) (i : Int) (hi : inB t i = false) (w : World) :
    Calls Tryd.prog 9 #[.string t, .int .i64 i] w fun e w' => e = .returned (gv Zt argS) ∧ Kept w w' := by
  have HTh := Lib.hid (there_is t i)
  rw [hi] at HTh
  have HG := Lib.hid (GAt.new w Zt Zs)
  have HK := Lib.hid ((Kept.refl w).alloc (.cells (gl Zt Zs).toArray 31))
  clear hi
  go_enter Tryd.func9, Tryd.ntmps9
  go_wp2_with (with_reducible refine wpList_new_g rfl rfl ?_)
  refine (HTh.out _).mono ?_
  rintro e w1 ⟨rfl, rfl⟩
  go_wp2_with (first | (refine wpList_bt_s5 rfl _ rfl 5 rfl ?_) | (refine wpList_bt_g1 rfl _ rfl argS rfl ?_) | (refine wpList_store_g rfl _ _ rfl w.heap.size Zt Zs Zt argS HG.out rfl rfl ?_))
  refine bodyPost_ret (v := gv Zt argS) ?_ rfl ⟨rfl, HK.out.setRow (by omega) _⟩
  exact ret_g rfl (HG.out.row Zt argS) rfl
theorem rread_yes (t : ByteArray) (A : Nat) (hA : A ≤ t.size) (ht : t.size ≤ 1000) (w : World) :
    Calls Tryd.prog 9 #[.string t, .int .i64 A] w fun e w' => e = .returned (gv (refE t A (rfGo ((bs t).drop A) allS (Zt, -1, 0))).1 (refE t A (rfGo ((bs t).drop A) allS (Zt, -1, 0))).2) ∧ Kept w w' := by
  have HTh := Lib.hid (there_is t A)
  rw [show inB t A = true by unfold inB; simp; omega] at HTh
  have HG := Lib.hid (GAt.new w Zt Zs)
  have HK := Lib.hid ((Kept.refl w).alloc (.cells (gl Zt Zs).toArray 31))
  have et := bs_len t
  obtain ⟨X0, hX0⟩ : ∃ X0, rfGo ((bs t).drop A) allS (Zt, -1, 0) = X0 := ⟨_, rfl⟩
  have HX0 := Lib.hid hX0
  rw [hX0]
  have hLen : allS.length ≤ 4000 := by
    have := allK_len 8
    unfold allS; omega
  obtain ⟨L, hL⟩ : ∃ L, allS.length = L := ⟨_, rfl⟩
  rw [hL] at hLen
  have HL := Lib.hid hL
  have hL0 : 0 < allS.length := List.length_pos_iff.2 (by intro e; have : (⟨1, 1, 1, false⟩ : Stp) ∈ allS := (mem_allS _).2 (by decide); rw [e] at this; simp at this)
  have HL0 := Lib.hid hL0
  clear hX0 hL hL0
  go_enter Tryd.func9, Tryd.ntmps9
  go_wp2_with (with_reducible refine wpList_new_g rfl rfl ?_)
  refine (HTh.out _).mono ?_
  rintro e w1 ⟨rfl, rfl⟩
  go_wp2_with fail
  refine (all_is _).mono ?_
  rintro e w1 ⟨v, rfl, ho, k1⟩
  obtain ⟨gl0, hl, hgl⟩ := ho.ls HL0.out
  have HG4a := Lib.hid (HG.out.kept k1)
  have HKa := Lib.hid (HK.out.trans k1)
  have hl' := hl
  obtain ⟨off, cap, rfl, hc1, hc2, _⟩ := hl'
  rw [HL.out] at hl hc1 ⊢
  have HLs0 := Lib.hid (hl.kept ((Kept.refl w1).alloc (.cells (gl Zt Zs).toArray 31)))
  have HG4b := Lib.hid (HG4a.out.kept ((Kept.refl w1).alloc (.cells (gl Zt Zs).toArray 31)))
  have HG6a := Lib.hid (GAt.new w1 Zt Zs)
  have HKb := Lib.hid (HKa.out.alloc (.cells (gl Zt Zs).toArray 31))
  have H46 : Hid (w.heap.size ≠ w1.heap.size) := Lib.hid (by have := lt_of_heap HG4a.out.at_; omega)
  have Hl6 : Hid (gl0 ≠ w1.heap.size) := Lib.hid (by omega)
  have H6w : Hid (w.heap.size ≤ w1.heap.size) := Lib.hid HKa.out.size
  have HG6b := Lib.hid (HG6a.out.row Zt Zs)
  have HG4c := Lib.hid (HG4b.out.rowOther H46.out (gl Zt Zs).toArray)
  have HLs1 := Lib.hid (HLs0.out.rowOther Hl6.out (gl Zt Zs).toArray)
  have HKc0 := Lib.hid (HKb.out.setRow H6w.out (gl Zt Zs).toArray)
  clear ho k1 hl hgl HLs0 HG4b HKb HG4a HKa
  go_wp2_with (first | (refine wpList_bt_g0 rfl rfl ?_) | (with_reducible refine wpList_new_g rfl rfl ?_) | ((with_reducible refine wpList_store_g rfl _ _ rfl w1.heap.size Zt Zs Zt Zs HG6a.out ?_ ?_ ?_); exact rfl; exact rfl))
  generalize (w1.alloc (.cells (gl Zt Zs).toArray 31)).setRow w1.heap.size (gl Zt Zs).toArray = Y at *
  generalize w1.heap.size = g6 at *
  clear HG6a
  go_loopw [7, 8, 9] (fun t7 t8 t9 wr => ∃ (j : Nat) (b : Stp) (m : Int) (f : Nat), t9 = .int .i64 j ∧ t7 = .int .i64 m ∧ t8 = .int .i64 f ∧ j ≤ L ∧ -1 ≤ m ∧ m ≤ 1000 ∧ f ≤ 1000 ∧
    rfGo ((bs t).drop A) (allS.drop j) (b, m, f) = X0 ∧ GAt wr g6 b (besS A m) ∧ GAt wr w.heap.size Zt Zs ∧ LsQ wr gl0 (.slice (some ⟨gl0, off, none⟩) L cap) allS ∧ Kept w wr) (fun _ _ t9 _ => L - (intOf t9).toNat)
  case atStart => exact ⟨0, Zt, -1, 0, rfl, rfl, rfl, by omega, by omega, by omega, by omega, HX0.out, HG6b.out, HG4c.out, HLs1.out, HKc0.out⟩
  case round =>
    obtain ⟨j, b, m, f, rfl, rfl, rfl, hj, hm0, hm1, hf1, hgo, hg6, hg4, hls, hK⟩ := hrel
    have HGo0 := Lib.hid hgo
    have HG6r := Lib.hid hg6
    have HG4r := Lib.hid hg4
    have HLsr := Lib.hid hls
    have HKr := Lib.hid hK
    clear hgo hg6 hg4 hls hK HG6b HG4c HLs1 HKc0
    by_cases hjL : j < L
    · have hjL' : (j : Int) < L := by omega
      obtain ⟨s, hs⟩ : ∃ s, allS[j]? = some s := ⟨_, List.getElem?_eq_getElem (by rw [HL.out]; exact hjL)⟩
      have hok : okS s = true := (mem_allS s).1 (List.mem_of_getElem? hs)
      have HGo : Hid (rfGo ((bs t).drop A) (allS.drop (j + 1)) (stpGo ((bs t).drop A) s (b, m, f)) = X0) := Lib.hid ((rf_next hs).symm.trans HGo0.out)
      have HRj0 := Lib.hid (range_of_ls HLsr.out hs)
      have HTx := Lib.hid (rtext_is s hok)
      have hsm := (txT_small hok).1
      have HTl : Hid ((txL s).length = (txT s).size) := Lib.hid (by rw [← bs_txT, bs_len])
      have HBt := Lib.hid (bs_txT s)
      generalize txT s = T at *
      have HSj := Lib.hid hs
      clear hok hs HGo0
      have ev := bs_len T
      go_wp2_with ((with_reducible refine wpList_load_q rfl _ rfl gl0 (off + j * 4) ?_ s HRj0.out ?_); exact rfl)
      refine (HTx.out _).mono ?_
      rintro e x1 ⟨rfl, kx⟩
      have HG6x := Lib.hid (HG6r.out.kept kx)
      have HG4x := Lib.hid (HG4r.out.kept kx)
      have HLsx := Lib.hid (HLsr.out.kept kx)
      have HKx := Lib.hid (HKr.out.trans kx)
      clear kx HG6r HG4r HLsr HKr HRj0
      go_wp2
      go_loopw [11] (fun t11 wr => ∃ k : Nat, t11 = .int .i64 k ∧ A + k ≤ t.size ∧ k ≤ T.size ∧ cmn ((bs t).drop A) (txL s) = k + cmn (((bs t).drop A).drop k) ((bs T).drop k) ∧ Kept x1 wr) (fun t11 _ => 1000 - (intOf t11).toNat)
      case atStart => exact ⟨0, rfl, by omega, by omega, by rw [← HBt.out]; simp, Kept.refl _⟩
      case round =>
        obtain ⟨k, rfl, hka, hkb, hc, hKi⟩ := hrel
        have HC := Lib.hid hc
        have HKi := Lib.hid hKi
        clear hc hKi
        have ew : IntKind.i64.wrap ((A : Int) + k) = (A : Int) + k := IntWalk.i64_in _ (by omega)
        by_cases l2 : k < T.size
        · have lb : decide ((k : Int) < (T.size : Int)) = true := decide_eq_true (by omega)
          by_cases l1 : A + k < t.size
          · have cb2 : decide ((A : Int) + (k : Int) < (t.size : Int)) = true := decide_eq_true (by omega)
            have cb : decide (IntKind.i64.wrap ((A : Int) + k) < (t.size : Int)) = true := by rw [ew]; exact decide_eq_true (by omega)
            obtain ⟨x, hx⟩ : ∃ x, (bs t)[A + k]? = some x := ⟨_, bs_getq t _ l1⟩
            obtain ⟨y, hy⟩ : ∃ y, (bs T)[k]? = some y := ⟨_, bs_getq T k l2⟩
            have ia := run_idx t ((A : Int) + k) (A + k) (by omega) x hx
            have ic := run_idx t (IntKind.i64.wrap ((A : Int) + k)) (A + k) (by rw [ew]; omega) x hx
            have ib := run_idx T k k rfl y hy
            have hx' : ((bs t).drop A)[k]? = some x := by rw [List.getElem?_drop]; exact hx
            by_cases he : x = y
            · have Hs := Lib.hid (cmn_same _ (bs T) k x hx' (by rw [he]; exact hy))
              have hne : (((x.toNat : Nat) : Int) == ((y.toNat : Nat) : Int)) = true := by rw [he]; simp
              clear hx hy hx' he
              go_wp2_with fail
              refine wp_region_held_drew (S := Kept _) (by kernel_rfl) (Kept.refl _).drew (fun hHeld => ?_)
              refine rT 0 31 (.int .i64 k) rfl rfl hHeld ?_
              simp only [pA, pN, sZ, sU]
              refine rT 1 32 (.string T) rfl rfl hHeld ?_
              simp only [pA, pN, sZ, sU]
              refine rT 2 33 (.int .i64 T.size) rfl rfl hHeld ?_
              simp only [pA, pN, sZ, sU]
              refine rT 3 34 (.bool true) rfl rfl hHeld ?_
              simp only [pA, pN, sZ, sU]
              refine rT 4 35 (.bool true) rfl rfl hHeld ?_
              simp only [pA, pN, sZ, sU]
              refine rT 5 36 (.int .i64 A) rfl rfl hHeld ?_
              simp only [pA, pN, sZ, sU]
              refine rT 6 37 (.int .i64 k) rfl rfl hHeld ?_
              simp only [pA, pN, sZ, sU]
              refine rT 7 38 (.int .i64 ((A : Int) + k)) rfl rfl hHeld ?_
              simp only [pA, pN, sZ, sU]
              refine rT 8 39 (.string t) rfl rfl hHeld ?_
              simp only [pA, pN, sZ, sU]
              refine rT 9 40 (.int .i64 t.size) rfl rfl hHeld ?_
              simp only [pA, pN, sZ, sU]
              refine rT 10 41 (.bool true) rfl rfl hHeld ?_
              simp only [pA, pN, sZ, sU]
              refine rT 11 42 (.bool true) rfl rfl hHeld ?_
              simp only [pA, pN, sZ, sU]
              refine rT 12 43 (.bool true) rfl rfl hHeld ?_
              simp only [pA, pN, sZ, sU]
              refine rT 13 44 (.string t) rfl rfl hHeld ?_
              simp only [pA, pN, sZ, sU]
              refine rT 14 45 (.int .i64 A) rfl rfl hHeld ?_
              simp only [pA, pN, sZ, sU]
              refine rT 15 46 (.int .i64 k) rfl rfl hHeld ?_
              simp only [pA, pN, sZ, sU]
              refine rT 16 47 (.int .i64 ((A : Int) + k)) rfl rfl hHeld ?_
              simp only [pA, pN, sZ, sU]
              refine rT 17 48 (.int .u8 x.toNat) rfl rfl hHeld ?_
              simp only [pA, pN, sZ, sU]
              refine rT 18 49 (.string T) rfl rfl hHeld ?_
              simp only [pA, pN, sZ, sU]
              refine rT 19 50 (.int .i64 k) rfl rfl hHeld ?_
              simp only [pA, pN, sZ, sU]
              refine rT 20 51 (.int .u8 y.toNat) rfl rfl hHeld ?_
              simp only [pA, pN, sZ, sU]
              refine rT 21 52 (.bool true) rfl rfl hHeld ?_
              simp only [pA, pN, sZ, sU]
              refine rT 22 53 (.bool true) rfl rfl hHeld ?_
              simp only [pA, pN, sZ, sU]
              refine wpAnyH_done (by kernel_rfl) ?_ _
              go_wp2
              go_roundw
              case rel => exact ⟨k + 1, by go_num, by omega, by omega, by rw [HC.out, Hs.out]; omega, HKi.out.trans hHeld⟩
              case measure => simp [intOf]; omega
            · have Hs := Lib.hid (cmn_diff _ (bs T) k x y hx' hy he)
              have hnxy : (((x.toNat : Nat) : Int) == ((y.toNat : Nat) : Int)) = false := by
                rw [beq_eq_false_iff_ne]; intro e; exact he (UInt8.toNat.inj (by omega))
              clear hx hy hx' he
              go_wp2_with fail
              refine wp_region_held_drew (S := Kept _) (by kernel_rfl) (Kept.refl _).drew (fun hHeld => ?_)
              refine rT 0 31 (.int .i64 k) rfl rfl hHeld ?_
              simp only [pA, pN, sZ, sU]
              refine rT 1 32 (.string T) rfl rfl hHeld ?_
              simp only [pA, pN, sZ, sU]
              refine rT 2 33 (.int .i64 T.size) rfl rfl hHeld ?_
              simp only [pA, pN, sZ, sU]
              refine rT 3 34 (.bool true) rfl rfl hHeld ?_
              simp only [pA, pN, sZ, sU]
              refine rT 4 35 (.bool true) rfl rfl hHeld ?_
              simp only [pA, pN, sZ, sU]
              refine rT 5 36 (.int .i64 A) rfl rfl hHeld ?_
              simp only [pA, pN, sZ, sU]
              refine rT 6 37 (.int .i64 k) rfl rfl hHeld ?_
              simp only [pA, pN, sZ, sU]
              refine rT 7 38 (.int .i64 ((A : Int) + k)) rfl rfl hHeld ?_
              simp only [pA, pN, sZ, sU]
              refine rT 8 39 (.string t) rfl rfl hHeld ?_
              simp only [pA, pN, sZ, sU]
              refine rT 9 40 (.int .i64 t.size) rfl rfl hHeld ?_
              simp only [pA, pN, sZ, sU]
              refine rT 10 41 (.bool true) rfl rfl hHeld ?_
              simp only [pA, pN, sZ, sU]
              refine rT 11 42 (.bool true) rfl rfl hHeld ?_
              simp only [pA, pN, sZ, sU]
              refine rT 12 43 (.bool true) rfl rfl hHeld ?_
              simp only [pA, pN, sZ, sU]
              refine rT 13 44 (.string t) rfl rfl hHeld ?_
              simp only [pA, pN, sZ, sU]
              refine rT 14 45 (.int .i64 A) rfl rfl hHeld ?_
              simp only [pA, pN, sZ, sU]
              refine rT 15 46 (.int .i64 k) rfl rfl hHeld ?_
              simp only [pA, pN, sZ, sU]
              refine rT 16 47 (.int .i64 ((A : Int) + k)) rfl rfl hHeld ?_
              simp only [pA, pN, sZ, sU]
              refine rT 17 48 (.int .u8 x.toNat) rfl rfl hHeld ?_
              simp only [pA, pN, sZ, sU]
              refine rT 18 49 (.string T) rfl rfl hHeld ?_
              simp only [pA, pN, sZ, sU]
              refine rT 19 50 (.int .i64 k) rfl rfl hHeld ?_
              simp only [pA, pN, sZ, sU]
              refine rT 20 51 (.int .u8 y.toNat) rfl rfl hHeld ?_
              simp only [pA, pN, sZ, sU]
              refine rT 21 52 (.bool false) rfl rfl hHeld ?_
              simp only [pA, pN, sZ, sU]
              refine rT 22 53 (.bool false) rfl rfl hHeld ?_
              simp only [pA, pN, sZ, sU]
              refine wpAnyH_done (by kernel_rfl) ?_ _
              have HCm : Hid (cmn ((bs t).drop A) (txL s) = k) := Lib.hid (by rw [HC.out, Hs.out]; rfl)
              have HG6 := Lib.hid (HG6x.out.kept (HKi.out.trans hHeld))
              have HG4 := Lib.hid (HG4x.out.kept (HKi.out.trans hHeld))
              have HLs := Lib.hid (HLsx.out.kept (HKi.out.trans hHeld))
              have HKc := Lib.hid (HKx.out.trans (HKi.out.trans hHeld))
              clear hHeld
              have hne : ((k : Int) == (T.size : Int)) = false := beq_eq_false_iff_ne.2 (by omega)
              have HCw : Hid (¬ (k = (txL s).length ∧ m < (k : Int))) := Lib.hid (fun h => by have := HTl.out; omega)
              rcases Nat.lt_or_ge f k with hf | hf
              · have hf' : (f : Int) < k := by omega
                have HN : Hid (stpGo ((bs t).drop A) s (b, m, f) = (b, m, k)) := Lib.hid (by unfold stpGo; rw [HCm.out]; rw [if_neg HCw.out, if_neg HCw.out]; rw [if_pos hf])
                go_wp2
                go_roundw
                case rel => exact ⟨j + 1, b, m, k, by go_num, rfl, rfl, by omega, by omega, by omega, by omega, by rw [← HN.out]; exact HGo.out, HG6.out, HG4.out, HLs.out, HKc.out⟩
                case measure => simp [intOf]; omega
              · have hf' : ¬ (f : Int) < k := by omega
                have hf2 : ¬ f < k := by omega
                have HN : Hid (stpGo ((bs t).drop A) s (b, m, f) = (b, m, f)) := Lib.hid (by unfold stpGo; rw [HCm.out]; rw [if_neg HCw.out, if_neg HCw.out]; rw [if_neg hf2])
                go_wp2
                go_roundw
                case rel => exact ⟨j + 1, b, m, f, by go_num, rfl, rfl, by omega, by omega, by omega, by omega, by rw [← HN.out]; exact HGo.out, HG6.out, HG4.out, HLs.out, HKc.out⟩
                case measure => simp [intOf]; omega
          · have cb2 : decide ((A : Int) + (k : Int) < (t.size : Int)) = false := decide_eq_false (by omega)
            have cb : decide (IntKind.i64.wrap ((A : Int) + k) < (t.size : Int)) = false := by rw [ew]; exact decide_eq_false (by omega)
            have Hs := Lib.hid (cmn_end ((bs t).drop A) (bs T) k (by rw [List.length_drop, et]; omega))
            go_wp2_with fail
            refine wp_region_held_drew (S := Kept _) (by kernel_rfl) (Kept.refl _).drew (fun hHeld => ?_)
            refine rT 0 31 (.int .i64 k) rfl rfl hHeld ?_
            simp only [pA, pN, sZ, sU]
            refine rT 1 32 (.string T) rfl rfl hHeld ?_
            simp only [pA, pN, sZ, sU]
            refine rT 2 33 (.int .i64 T.size) rfl rfl hHeld ?_
            simp only [pA, pN, sZ, sU]
            refine rT 3 34 (.bool true) rfl rfl hHeld ?_
            simp only [pA, pN, sZ, sU]
            refine rT 4 35 (.bool true) rfl rfl hHeld ?_
            simp only [pA, pN, sZ, sU]
            refine rT 5 36 (.int .i64 A) rfl rfl hHeld ?_
            simp only [pA, pN, sZ, sU]
            refine rT 6 37 (.int .i64 k) rfl rfl hHeld ?_
            simp only [pA, pN, sZ, sU]
            refine rT 7 38 (.int .i64 ((A : Int) + k)) rfl rfl hHeld ?_
            simp only [pA, pN, sZ, sU]
            refine rT 8 39 (.string t) rfl rfl hHeld ?_
            simp only [pA, pN, sZ, sU]
            refine rT 9 40 (.int .i64 t.size) rfl rfl hHeld ?_
            simp only [pA, pN, sZ, sU]
            refine rT 10 41 (.bool false) rfl rfl hHeld ?_
            simp only [pA, pN, sZ, sU]
            refine rT 11 42 (.bool false) rfl rfl hHeld ?_
            simp only [pA, pN, sZ, sU]
            refine rT 12 43 (.bool false) rfl rfl hHeld ?_
            simp only [pA, pN, sZ, sU]
            refine rN 13 44 rfl rfl hHeld ?_
            simp only [pA, pN, sZ, sU]
            refine rN 14 45 rfl rfl hHeld ?_
            simp only [pA, pN, sZ, sU]
            refine rN 15 46 rfl rfl hHeld ?_
            simp only [pA, pN, sZ, sU]
            refine rN 16 47 rfl rfl hHeld ?_
            simp only [pA, pN, sZ, sU]
            refine rN 17 48 rfl rfl hHeld ?_
            simp only [pA, pN, sZ, sU]
            refine rN 18 49 rfl rfl hHeld ?_
            simp only [pA, pN, sZ, sU]
            refine rN 19 50 rfl rfl hHeld ?_
            simp only [pA, pN, sZ, sU]
            refine rN 20 51 rfl rfl hHeld ?_
            simp only [pA, pN, sZ, sU]
            refine rN 21 52 rfl rfl hHeld ?_
            simp only [pA, pN, sZ, sU]
            refine rT 22 53 (.bool false) rfl rfl hHeld ?_
            simp only [pA, pN, sZ, sU]
            refine wpAnyH_done (by kernel_rfl) ?_ _
            have HCm : Hid (cmn ((bs t).drop A) (txL s) = k) := Lib.hid (by rw [HC.out, Hs.out]; rfl)
            have HG6 := Lib.hid (HG6x.out.kept (HKi.out.trans hHeld))
            have HG4 := Lib.hid (HG4x.out.kept (HKi.out.trans hHeld))
            have HLs := Lib.hid (HLsx.out.kept (HKi.out.trans hHeld))
            have HKc := Lib.hid (HKx.out.trans (HKi.out.trans hHeld))
            clear hHeld
            have hne : ((k : Int) == (T.size : Int)) = false := beq_eq_false_iff_ne.2 (by omega)
            have HCw : Hid (¬ (k = (txL s).length ∧ m < (k : Int))) := Lib.hid (fun h => by have := HTl.out; omega)
            rcases Nat.lt_or_ge f k with hf | hf
            · have hf' : (f : Int) < k := by omega
              have HN : Hid (stpGo ((bs t).drop A) s (b, m, f) = (b, m, k)) := Lib.hid (by unfold stpGo; rw [HCm.out]; rw [if_neg HCw.out, if_neg HCw.out]; rw [if_pos hf])
              go_wp2
              go_roundw
              case rel => exact ⟨j + 1, b, m, k, by go_num, rfl, rfl, by omega, by omega, by omega, by omega, by rw [← HN.out]; exact HGo.out, HG6.out, HG4.out, HLs.out, HKc.out⟩
              case measure => simp [intOf]; omega
            · have hf' : ¬ (f : Int) < k := by omega
              have hf2 : ¬ f < k := by omega
              have HN : Hid (stpGo ((bs t).drop A) s (b, m, f) = (b, m, f)) := Lib.hid (by unfold stpGo; rw [HCm.out]; rw [if_neg HCw.out, if_neg HCw.out]; rw [if_neg hf2])
              go_wp2
              go_roundw
              case rel => exact ⟨j + 1, b, m, f, by go_num, rfl, rfl, by omega, by omega, by omega, by omega, by rw [← HN.out]; exact HGo.out, HG6.out, HG4.out, HLs.out, HKc.out⟩
              case measure => simp [intOf]; omega
        · have lb : decide ((k : Int) < (T.size : Int)) = false := decide_eq_false (by omega)
          have Hs := Lib.hid (cmn_end ((bs t).drop A) (bs T) k (by rw [ev]; omega))
          have hs := HSj.out
          go_wp2_with fail
          refine wp_region_held_drew (S := Kept _) (by kernel_rfl) (Kept.refl _).drew (fun hHeld => ?_)
          refine rT 0 31 (.int .i64 k) rfl rfl hHeld ?_
          simp only [pA, pN, sZ, sU]
          refine rT 1 32 (.string T) rfl rfl hHeld ?_
          simp only [pA, pN, sZ, sU]
          refine rT 2 33 (.int .i64 T.size) rfl rfl hHeld ?_
          simp only [pA, pN, sZ, sU]
          refine rT 3 34 (.bool false) rfl rfl hHeld ?_
          simp only [pA, pN, sZ, sU]
          refine rT 4 35 (.bool false) rfl rfl hHeld ?_
          simp only [pA, pN, sZ, sU]
          refine rN 5 36 rfl rfl hHeld ?_
          simp only [pA, pN, sZ, sU]
          refine rN 6 37 rfl rfl hHeld ?_
          simp only [pA, pN, sZ, sU]
          refine rN 7 38 rfl rfl hHeld ?_
          simp only [pA, pN, sZ, sU]
          refine rN 8 39 rfl rfl hHeld ?_
          simp only [pA, pN, sZ, sU]
          refine rN 9 40 rfl rfl hHeld ?_
          simp only [pA, pN, sZ, sU]
          refine rN 10 41 rfl rfl hHeld ?_
          simp only [pA, pN, sZ, sU]
          refine rT 11 42 (.bool false) rfl rfl hHeld ?_
          simp only [pA, pN, sZ, sU]
          refine rT 12 43 (.bool false) rfl rfl hHeld ?_
          simp only [pA, pN, sZ, sU]
          refine rN 13 44 rfl rfl hHeld ?_
          simp only [pA, pN, sZ, sU]
          refine rN 14 45 rfl rfl hHeld ?_
          simp only [pA, pN, sZ, sU]
          refine rN 15 46 rfl rfl hHeld ?_
          simp only [pA, pN, sZ, sU]
          refine rN 16 47 rfl rfl hHeld ?_
          simp only [pA, pN, sZ, sU]
          refine rN 17 48 rfl rfl hHeld ?_
          simp only [pA, pN, sZ, sU]
          refine rN 18 49 rfl rfl hHeld ?_
          simp only [pA, pN, sZ, sU]
          refine rN 19 50 rfl rfl hHeld ?_
          simp only [pA, pN, sZ, sU]
          refine rN 20 51 rfl rfl hHeld ?_
          simp only [pA, pN, sZ, sU]
          refine rN 21 52 rfl rfl hHeld ?_
          simp only [pA, pN, sZ, sU]
          refine rT 22 53 (.bool false) rfl rfl hHeld ?_
          simp only [pA, pN, sZ, sU]
          refine wpAnyH_done (by kernel_rfl) ?_ _
          have HCm : Hid (cmn ((bs t).drop A) (txL s) = k) := Lib.hid (by rw [HC.out, Hs.out]; rfl)
          have HG6 := Lib.hid (HG6x.out.kept (HKi.out.trans hHeld))
          have HG4 := Lib.hid (HG4x.out.kept (HKi.out.trans hHeld))
          have HLs := Lib.hid (HLsx.out.kept (HKi.out.trans hHeld))
          have HKc := Lib.hid (HKx.out.trans (HKi.out.trans hHeld))
          clear hHeld
          obtain rfl : k = T.size := by omega
          clear hkb l2 lb ew
          by_cases hm : m < (T.size : Int)
          · have HCw : Hid (T.size = (txL s).length ∧ m < (T.size : Int)) := Lib.hid ⟨by have := HTl.out; omega, hm⟩
            have HG6n := Lib.hid (HG6.out.row s ⟨(A : Int) + T.size, 0, 0⟩)
            have HG4n := Lib.hid (HG4.out.rowOther H46.out (gl s ⟨(A : Int) + T.size, 0, 0⟩).toArray)
            have HLsn := Lib.hid (HLs.out.rowOther Hl6.out (gl s ⟨(A : Int) + T.size, 0, 0⟩).toArray)
            have HKn := Lib.hid (HKc.out.setRow H6w.out (gl s ⟨(A : Int) + T.size, 0, 0⟩).toArray)
            have HBs : Hid (besS A (T.size : Nat) = ⟨(A : Int) + T.size, 0, 0⟩) := Lib.hid (by unfold besS; rw [if_neg (by omega)])
            have HRj := Lib.hid (range_of_ls HLs.out hs)
            have eA : IntKind.i64.wrap ((A : Int) + T.size) = (A : Int) + T.size := IntWalk.i64_in _ (by omega)
            rcases Nat.lt_or_ge f T.size with hf | hf
            · have hf' : (f : Int) < T.size := by omega
              have HN : Hid (stpGo ((bs t).drop A) s (b, m, f) = (s, ((T.size : Nat) : Int), T.size)) := Lib.hid (by unfold stpGo; rw [HCm.out]; rw [if_pos HCw.out, if_pos HCw.out]; rw [if_pos hf])
              go_wp2_with (first | ((with_reducible refine wpList_load_q rfl _ rfl gl0 (off + j * 4) ?_ s HRj.out ?_); exact rfl) | ((with_reducible refine wpList_bt_sa rfl _ rfl ((A : Int) + T.size) ?_ ?_); exact rfl) | ((with_reducible refine wpList_bt_g2 rfl _ _ rfl s ⟨(A : Int) + T.size, 0, 0⟩ ?_ ?_ ?_); exact rfl; exact rfl) | ((with_reducible refine wpList_store_g rfl _ _ rfl g6 b (besS A m) s ⟨(A : Int) + T.size, 0, 0⟩ HG6.out ?_ ?_ ?_); exact rfl; exact rfl))
              go_roundw
              case rel => exact ⟨j + 1, s, ((T.size : Nat) : Int), T.size, by go_num, rfl, rfl, by omega, by omega, by omega, by omega, by rw [← HN.out]; exact HGo.out, by rw [HBs.out]; exact HG6n.out, HG4n.out, HLsn.out, HKn.out⟩
              case measure => simp [intOf]; omega
            · have hf' : ¬ (f : Int) < T.size := by omega
              have hf2 : ¬ f < T.size := by omega
              have HN : Hid (stpGo ((bs t).drop A) s (b, m, f) = (s, ((T.size : Nat) : Int), f)) := Lib.hid (by unfold stpGo; rw [HCm.out]; rw [if_pos HCw.out, if_pos HCw.out]; rw [if_neg hf2])
              go_wp2_with (first | ((with_reducible refine wpList_load_q rfl _ rfl gl0 (off + j * 4) ?_ s HRj.out ?_); exact rfl) | ((with_reducible refine wpList_bt_sa rfl _ rfl ((A : Int) + T.size) ?_ ?_); exact rfl) | ((with_reducible refine wpList_bt_g2 rfl _ _ rfl s ⟨(A : Int) + T.size, 0, 0⟩ ?_ ?_ ?_); exact rfl; exact rfl) | ((with_reducible refine wpList_store_g rfl _ _ rfl g6 b (besS A m) s ⟨(A : Int) + T.size, 0, 0⟩ HG6.out ?_ ?_ ?_); exact rfl; exact rfl))
              go_roundw
              case rel => exact ⟨j + 1, s, ((T.size : Nat) : Int), f, by go_num, rfl, rfl, by omega, by omega, by omega, by omega, by rw [← HN.out]; exact HGo.out, by rw [HBs.out]; exact HG6n.out, HG4n.out, HLsn.out, HKn.out⟩
              case measure => simp [intOf]; omega
          · have HCw : Hid (¬ (T.size = (txL s).length ∧ m < (T.size : Int))) := Lib.hid (fun h => hm h.2)
            rcases Nat.lt_or_ge f T.size with hf | hf
            · have hf' : (f : Int) < T.size := by omega
              have HN : Hid (stpGo ((bs t).drop A) s (b, m, f) = (b, m, T.size)) := Lib.hid (by unfold stpGo; rw [HCm.out]; rw [if_neg HCw.out, if_neg HCw.out]; rw [if_pos hf])
              go_wp2
              go_roundw
              case rel => exact ⟨j + 1, b, m, T.size, by go_num, rfl, rfl, by omega, by omega, by omega, by omega, by rw [← HN.out]; exact HGo.out, HG6.out, HG4.out, HLs.out, HKc.out⟩
              case measure => simp [intOf]; omega
            · have hf' : ¬ (f : Int) < T.size := by omega
              have hf2 : ¬ f < T.size := by omega
              have HN : Hid (stpGo ((bs t).drop A) s (b, m, f) = (b, m, f)) := Lib.hid (by unfold stpGo; rw [HCm.out]; rw [if_neg HCw.out, if_neg HCw.out]; rw [if_neg hf2])
              go_wp2
              go_roundw
              case rel => exact ⟨j + 1, b, m, f, by go_num, rfl, rfl, by omega, by omega, by omega, by omega, by rw [← HN.out]; exact HGo.out, HG6.out, HG4.out, HLs.out, HKc.out⟩
              case measure => simp [intOf]; omega
    · have ej : j = L := by omega
      have hXe : (b, m, f) = X0 := by
        have := HGo0.out
        have hd : allS.drop L = [] := List.drop_eq_nil_of_le (by rw [HL.out]; exact Nat.le_refl _)
        rw [ej, hd] at this
        exact this
      subst hXe
      have hjL' : ¬ (j : Int) < L := by omega
      clear HGo0 HX0 ej hjL
      have HDg : Hid (∀ w, Calls Tryd.prog 27 #[.string t, .int .i64 ((A : Int) + f)] w fun e w' => e = .returned (.bool (digB t ((A : Int) + f))) ∧ Kept w w') := Lib.hid (fun w => by
        have := digit_is t (A + f) ht w
        rwa [Int.natCast_add] at this)
      have HRE : Hid (refE t A (b, m, f) = if 0 ≤ m ∧ (f : Int) = m ∧ digB t ((A : Int) + f) = false then (b, ⟨(A : Int) + m, 0, 0⟩) else if (A : Int) + f = t.size ∧ m < f then (Zt, ⟨(A : Int) + f, 0, 1⟩) else (Zt, ⟨(A : Int) + f, 0, 2⟩)) := Lib.hid rfl
      have HG4 := HG4r
      by_cases h0 : 0 ≤ m
      · have d0 : decide (0 ≤ m) = true := decide_eq_true h0
        by_cases hfm : (f : Int) = m
        · have bfm : ((f : Int) == m) = true := beq_iff_eq.2 hfm
          obtain ⟨dg, hdg⟩ : ∃ dg, digB t ((A : Int) + f) = dg := ⟨_, rfl⟩
          rw [hdg] at HDg HRE
          cases dg
          · have HE := Lib.hid (HRE.out.trans (if_pos ⟨h0, hfm, rfl⟩))
            have HBs : Hid (besS A m = ⟨(A : Int) + m, 0, 0⟩) := Lib.hid (by unfold besS; rw [if_neg (by omega)])
            rw [HBs.out] at HG6r
            clear hdg hfm
            go_wp2_with fail
            refine (HDg.out _).mono ?_
            rintro e w5 ⟨rfl, k5⟩
            have HG6k := Lib.hid (HG6r.out.kept k5)
            have HG4k := Lib.hid (HG4.out.kept k5)
            have HKk := Lib.hid (HKr.out.trans k5)
            clear k5
            go_wp2_with (first | ((with_reducible refine wpList_load_g rfl _ rfl g6 ?_ b ⟨(A : Int) + m, 0, 0⟩ HG6k.out ?_); exact rfl) | ((with_reducible refine wpList_store_g rfl _ _ rfl w.heap.size Zt Zs b ⟨(A : Int) + m, 0, 0⟩ HG4k.out ?_ ?_ ?_); exact rfl; exact rfl))
            refine bodyPost_ret (v := gv b ⟨(A : Int) + m, 0, 0⟩) ?_ rfl ⟨by rw [HE.out], HKk.out.setRow (by omega) _⟩
            exact ret_g rfl (HG4k.out.row _ _) rfl
          · have HE := Lib.hid (HRE.out.trans ((if_neg (by rintro ⟨_, _, y⟩; simp at y)).trans (if_neg (by rintro ⟨_, y⟩; omega))))
            have dm : decide (m < (f : Int)) = false := decide_eq_false (by omega)
            clear hdg hfm
            go_wp2_with fail
            refine (HDg.out _).mono ?_
            rintro e w5 ⟨rfl, k5⟩
            have HG4k := Lib.hid (HG4.out.kept k5)
            have HKk := Lib.hid (HKr.out.trans k5)
            clear k5
            obtain ⟨be, hbe⟩ : ∃ be, ((A : Int) + f == (t.size : Int)) = be := ⟨_, rfl⟩
            cases be
            · skip
              go_upto_region 24 with fail
              try simp only [Act.put, List.setIfInBounds_toArray, List.set_cons_zero, List.set_cons_succ]
              go_wp2_with (first | ((with_reducible refine wpList_bt_se rfl _ _ rfl ((A : Int) + f) 2 ?_ ?_ ?_); exact rfl; exact rfl) | ((with_reducible refine wpList_bt_g1 rfl _ rfl ⟨(A : Int) + f, 0, 2⟩ ?_ ?_); exact rfl) | ((with_reducible refine wpList_store_g rfl _ _ rfl w.heap.size Zt Zs Zt ⟨(A : Int) + f, 0, 2⟩ HG4k.out ?_ ?_ ?_); exact rfl; exact rfl))
              refine bodyPost_ret (v := gv Zt ⟨(A : Int) + f, 0, 2⟩) ?_ rfl ⟨by rw [HE.out], HKk.out.setRow (by omega) _⟩
              exact ret_g rfl (HG4k.out.row _ _) rfl
            · skip
              go_upto_region 24 with fail
              try simp only [Act.put, List.setIfInBounds_toArray, List.set_cons_zero, List.set_cons_succ]
              go_wp2_with (first | ((with_reducible refine wpList_bt_se rfl _ _ rfl ((A : Int) + f) 2 ?_ ?_ ?_); exact rfl; exact rfl) | ((with_reducible refine wpList_bt_g1 rfl _ rfl ⟨(A : Int) + f, 0, 2⟩ ?_ ?_); exact rfl) | ((with_reducible refine wpList_store_g rfl _ _ rfl w.heap.size Zt Zs Zt ⟨(A : Int) + f, 0, 2⟩ HG4k.out ?_ ?_ ?_); exact rfl; exact rfl))
              refine bodyPost_ret (v := gv Zt ⟨(A : Int) + f, 0, 2⟩) ?_ rfl ⟨by rw [HE.out], HKk.out.setRow (by omega) _⟩
              exact ret_g rfl (HG4k.out.row _ _) rfl
        · have bfm : ((f : Int) == m) = false := beq_eq_false_iff_ne.2 hfm
          have HE0 := Lib.hid (HRE.out.trans (if_neg (fun y => hfm y.2.1)))
          by_cases he : (A : Int) + f = t.size
          · have hbe : ((A : Int) + f == (t.size : Int)) = true := beq_iff_eq.2 he
            by_cases hm : m < (f : Int)
            · have HE := Lib.hid (HE0.out.trans (if_pos ⟨he, hm⟩))
              have dm : decide (m < (f : Int)) = true := decide_eq_true hm
              clear hfm he
              go_upto_region 22 with fail
              try simp only [Act.put, List.setIfInBounds_toArray, List.set_cons_zero, List.set_cons_succ]
              go_wp2_with (first | ((with_reducible refine wpList_bt_se rfl _ _ rfl ((A : Int) + f) 1 ?_ ?_ ?_); exact rfl; exact rfl) | ((with_reducible refine wpList_bt_g1 rfl _ rfl ⟨(A : Int) + f, 0, 1⟩ ?_ ?_); exact rfl) | ((with_reducible refine wpList_store_g rfl _ _ rfl w.heap.size Zt Zs Zt ⟨(A : Int) + f, 0, 1⟩ HG4.out ?_ ?_ ?_); exact rfl; exact rfl))
              refine bodyPost_ret (v := gv Zt ⟨(A : Int) + f, 0, 1⟩) ?_ rfl ⟨by rw [HE.out], HKr.out.setRow (by omega) _⟩
              exact ret_g rfl (HG4.out.row _ _) rfl
            · have HE := Lib.hid (HE0.out.trans (if_neg (fun y => hm y.2)))
              have dm : decide (m < (f : Int)) = false := decide_eq_false hm
              clear hfm he
              go_upto_region 25 with fail
              try simp only [Act.put, List.setIfInBounds_toArray, List.set_cons_zero, List.set_cons_succ]
              go_wp2_with (first | ((with_reducible refine wpList_bt_se rfl _ _ rfl ((A : Int) + f) 2 ?_ ?_ ?_); exact rfl; exact rfl) | ((with_reducible refine wpList_bt_g1 rfl _ rfl ⟨(A : Int) + f, 0, 2⟩ ?_ ?_); exact rfl) | ((with_reducible refine wpList_store_g rfl _ _ rfl w.heap.size Zt Zs Zt ⟨(A : Int) + f, 0, 2⟩ HG4.out ?_ ?_ ?_); exact rfl; exact rfl))
              refine bodyPost_ret (v := gv Zt ⟨(A : Int) + f, 0, 2⟩) ?_ rfl ⟨by rw [HE.out], HKr.out.setRow (by omega) _⟩
              exact ret_g rfl (HG4.out.row _ _) rfl
          · have hbe : ((A : Int) + f == (t.size : Int)) = false := beq_eq_false_iff_ne.2 he
            have HE := Lib.hid (HE0.out.trans (if_neg (fun y => he y.1)))
            clear hfm he
            go_upto_region 25 with fail
            try simp only [Act.put, List.setIfInBounds_toArray, List.set_cons_zero, List.set_cons_succ]
            go_wp2_with (first | ((with_reducible refine wpList_bt_se rfl _ _ rfl ((A : Int) + f) 2 ?_ ?_ ?_); exact rfl; exact rfl) | ((with_reducible refine wpList_bt_g1 rfl _ rfl ⟨(A : Int) + f, 0, 2⟩ ?_ ?_); exact rfl) | ((with_reducible refine wpList_store_g rfl _ _ rfl w.heap.size Zt Zs Zt ⟨(A : Int) + f, 0, 2⟩ HG4.out ?_ ?_ ?_); exact rfl; exact rfl))
            refine bodyPost_ret (v := gv Zt ⟨(A : Int) + f, 0, 2⟩) ?_ rfl ⟨by rw [HE.out], HKr.out.setRow (by omega) _⟩
            exact ret_g rfl (HG4.out.row _ _) rfl
      · have d0 : decide (0 ≤ m) = false := decide_eq_false h0
        have HE0 := Lib.hid (HRE.out.trans (if_neg (fun y => h0 y.1)))
        by_cases he : (A : Int) + f = t.size
        · have hbe : ((A : Int) + f == (t.size : Int)) = true := beq_iff_eq.2 he
          have dm : decide (m < (f : Int)) = true := decide_eq_true (by omega)
          have HE := Lib.hid (HE0.out.trans (if_pos ⟨he, by omega⟩))
          clear he
          go_upto_region 22 with fail
          try simp only [Act.put, List.setIfInBounds_toArray, List.set_cons_zero, List.set_cons_succ]
          go_wp2_with (first | ((with_reducible refine wpList_bt_se rfl _ _ rfl ((A : Int) + f) 1 ?_ ?_ ?_); exact rfl; exact rfl) | ((with_reducible refine wpList_bt_g1 rfl _ rfl ⟨(A : Int) + f, 0, 1⟩ ?_ ?_); exact rfl) | ((with_reducible refine wpList_store_g rfl _ _ rfl w.heap.size Zt Zs Zt ⟨(A : Int) + f, 0, 1⟩ HG4.out ?_ ?_ ?_); exact rfl; exact rfl))
          refine bodyPost_ret (v := gv Zt ⟨(A : Int) + f, 0, 1⟩) ?_ rfl ⟨by rw [HE.out], HKr.out.setRow (by omega) _⟩
          exact ret_g rfl (HG4.out.row _ _) rfl
        · have hbe : ((A : Int) + f == (t.size : Int)) = false := beq_eq_false_iff_ne.2 he
          have HE := Lib.hid (HE0.out.trans (if_neg (fun y => he y.1)))
          clear he
          go_upto_region 25 with fail
          try simp only [Act.put, List.setIfInBounds_toArray, List.set_cons_zero, List.set_cons_succ]
          go_wp2_with (first | ((with_reducible refine wpList_bt_se rfl _ _ rfl ((A : Int) + f) 2 ?_ ?_ ?_); exact rfl; exact rfl) | ((with_reducible refine wpList_bt_g1 rfl _ rfl ⟨(A : Int) + f, 0, 2⟩ ?_ ?_); exact rfl) | ((with_reducible refine wpList_store_g rfl _ _ rfl w.heap.size Zt Zs Zt ⟨(A : Int) + f, 0, 2⟩ HG4.out ?_ ?_ ?_); exact rfl; exact rfl))
          refine bodyPost_ret (v := gv Zt ⟨(A : Int) + f, 0, 2⟩) ?_ rfl ⟨by rw [HE.out], HKr.out.setRow (by omega) _⟩
          exact ret_g rfl (HG4.out.row _ _) rfl
end Go.Proofs.YtnlgjakohoimhaaDoor
