/- Write · The walk of TaskCut · The document's Write of a roll · A task's text with its board as a roll: by numbers alone. -/
import Derived.Test.YtlbipjmmlobofaaGreatDoorPkA14
import Derived.Test.YtlbipjmmlobofaaGreatDoorPkA21
import Derived.Test.YtlbipjmmlobofaaGreatDoorPkB01
import Derived.Test.YtlbipjmmlobofaaGreatDoorPkB02
import Derived.Laws.IdiomStrings
namespace Go.Proofs.YtlbipjmmlobofaaGreatDoor
open Go.RowKit
set_option linter.unusedVariables false
set_option linter.unusedSimpArgs false
set_option maxRecDepth 100000
set_option maxHeartbeats 16000000

def okK (K : Tk) : Bool := rightB K.B && (okSt K.s && okW K)
theorem okK_T {K : Tk} (h : okK K = true) : OkT K := by
  unfold okK at h
  simp only [Bool.and_eq_true] at h
  obtain ⟨h1, h2, h3⟩ := h
  obtain ⟨a, b, c, d, e⟩ := (okW_iff K).1 h3
  exact ⟨a, b, by omega, h2, d, e⟩
/-- A task's tidy text. -/
def txK (K : Tk) : ByteArray := ⟨(txR 0 (writeT K.B) K).toArray⟩
theorem txK_bs (K : Tk) : bs (txK K) = txR 0 (writeT K.B) K := rfl
theorem writeT_10 {B : List Int} (h : ∀ i, i < 64 → okB (B.getD i 0) = true) : (10 : UInt8) ∉ writeT B := by
  intro hm
  obtain ⟨a, b, e⟩ := List.append_of_mem hm
  have h1 := writeT_says h
  rw [e] at h1
  obtain ⟨s, hs⟩ := says_some (a := a ++ [10]) (b := b) (by rw [List.append_assoc]; exact h1)
  rw [says_snoc] at hs
  cases ha : says a with
  | none => rw [ha] at hs; cases hs
  | some s' =>
    rw [ha] at hs
    have h0 : manOf 10 = 0 := by decide +kernel
    simp [stp, h0] at hs
theorem right_all {B : List Int} (hB : B.length = 64) (h : rightB B = true) : ∀ i, i < 64 → okB (B.getD i 0) = true := (rightB_iff B hB).1 h
theorem sep_lines (L : List ByteArray) : Lib.joinTail [10] (L.map fun x => x.data.toList) = L.flatMap fun x => 10 :: bs x := by
  unfold Lib.joinTail
  rw [List.map_map, ← List.flatMap_def]
  rfl
theorem tail_lines (K : Tk) : ((opL7 K).map fun i => lineT i (toldV K i)).flatMap (fun x => 10 :: bs x) ++ [10] = 10 :: txO K := by
  unfold txO
  generalize opL7 K = L
  have : ∀ L : List Nat, (L.map fun i => lineT i (toldV K i)).flatMap (fun x => 10 :: bs x) ++ [10] = 10 :: L.flatMap fun i => olL i (toldV K i) := by
    intro L
    induction L with
    | nil => rfl
    | cons i L ih =>
      simp only [List.map_cons, List.flatMap_cons, List.append_assoc, List.cons_append]
      rw [ih]
      unfold olL
      rw [lineT_bs]
      simp
  exact this L
theorem tdL_7 (K : Tk) : tdL K 7 = (opL7 K).map fun i => lineT i (toldV K i) := rfl
theorem write_bytes (K : Tk) (b d : ByteArray) (hb : bs b = writeT K.B) (hd : d = txT K.s) :
    begL ++ (Lib.join (([fsT ++ b, amT ++ d] ++ tdL K 7).map fun x => x.data.toList) [10] ++ ([10] ++ endL)) = txR 0 (writeT K.B) K := by
  rw [List.map_append, List.map_cons, List.map_cons, List.map_nil, List.cons_append, Lib.join_cons, List.cons_append, List.nil_append]
  have e1 : Lib.joinTail [10] ((amT ++ d).data.toList :: (tdL K 7).map fun x => x.data.toList) = (10 :: bs (amT ++ d)) ++ Lib.joinTail [10] ((tdL K 7).map fun x => x.data.toList) := rfl
  rw [e1, sep_lines, tdL_7]
  have e2 := tail_lines K
  show begL ++ ((bs (fsT ++ b) ++ ((10 :: bs (amT ++ d)) ++ _)) ++ ([10] ++ endL)) = _
  unfold txR txA
  rw [bs_append, bs_append, hb, hd]
  simp only [List.append_assoc, List.cons_append]
  have e3 : ((opL7 K).map fun i => lineT i (toldV K i)).flatMap (fun x => 10 :: bs x) ++ ([10] ++ endL) = 10 :: (txO K ++ endL) := by
    rw [← List.append_assoc, e2]; rfl
  simp only [List.append_assoc, List.cons_append, List.nil_append] at e3 ⊢
  rw [e3]
  rfl
theorem fill_2 (x y : ByteArray) : Instr.fill (fun i => some (i * 1, 1)) ((Array.range (2 * 1)).map ((Value.string ⟨#[]⟩).cells[· % (Value.string ⟨#[]⟩).cells.size]!)) [(0, .string x), (1, .string y)] = some #[.string x, .string y] := by kernel_rfl
theorem wpList_bslice_2v {ops : Array Oper} {rest : List Oper} {o : Oper} {a : Act} {w : World} {Q : Exit → Act → World → Prop} (hg : o.guard = none) (x0 x1 : Operand) (x y : ByteArray)
    (ho : o.op = .buildSlice 50 2 #[(0, x0), (1, x1)]) (h0 : a.eval x0 = .string x) (h1 : a.eval x1 = .string y)
    (h : wpList Tryz.prog ops Q rest (a.put o.dst (.slice (some ⟨w.heap.size, 0, none⟩) 2 2)) (w.alloc (.cells #[.string x, .string y] 9))) : wpList Tryz.prog ops Q (o :: rest) a w := by
  obtain ⟨ie, e1, e2, e3⟩ := info_txt
  refine wpList_buildSlice hg 50 9 2 _ ho #[.string x, .string y] ie (.string ⟨#[]⟩) Tryz.underlying50 e1 e2 (by rw [e3]; decide) (by rw [e3]; decide) ?_ h
  rw [e3]
  have : ((#[(0, x0), (1, x1)] : Array (Nat × Operand)).map fun (i, x) => (i, a.eval x)).toList = [(0, .string x), (1, .string y)] := by simp [h0, h1]
  rw [this]
  exact fill_2 x y
theorem own_two (w : World) (x y : ByteArray) : OwnsT (w.alloc (.cells #[.string x, .string y] 9)) w.heap.size (.slice (some ⟨w.heap.size, 0, none⟩) 2 2) [x, y] :=
  World.ownsRow_lit w #[.string x, .string y] 2 (Nat.le_refl _) (by decide) rfl
theorem txO_len (K : Tk) (h : OkT K) : ∀ x ∈ tdL K 7, (bs x).length ≤ 30 := by
  intro x hx
  rw [tdL_7] at hx
  obtain ⟨i, hi, rfl⟩ := List.mem_map.1 hx
  have hv := told_ok h i hi
  rw [lineT_bs, List.length_append]
  have h1 := ow_small i
  have h2 : (opW i).length ≤ 14 := h1
  have h3 : (vaL i (toldV K i)).length ≤ 10 := by
    have hi7 : i < 7 := op7_lt i (List.mem_filter.1 hi).1
    have : i = 0 ∨ i = 1 ∨ i = 2 ∨ i = 3 ∨ i = 4 ∨ i = 5 ∨ i = 6 := by omega
    rcases this with rfl | rfl | rfl | rfl | rfl | rfl | rfl
    · simp [vaL]
    · simp [vaL]
    · show (sdW _).length ≤ 10
      unfold sdW; split <;> decide
    · have hv : 1 ≤ toldV K 3 ∧ toldV K 3 ≤ 1000 := hv
      have := dT_small (toldV K 3) (by omega) (by omega)
      exact this
    · have hv : 1 ≤ toldV K 4 ∧ toldV K 4 ≤ 15 := hv
      have := caU_len (toldV K 4).toNat 4
      rw [caU_4] at this
      show (caL _).length ≤ 10
      omega
    · show (2 : Nat) ≤ 10; omega
    · have hv : 0 ≤ toldV K 6 ∧ toldV K 6 ≤ 4 := hv
      have := dT_small (toldV K 6) (by omega) (by omega)
      exact this
  omega
theorem txT_small {s : Stp} (hs : okSt s = true) : (txT s).size ≤ 100 := by
  rw [txT_size]
  have h1 := hdL_last (okS_hd hs)
  have hv := okS_M hs
  obtain ⟨N, hN⟩ : ∃ N : Nat, s.n = N := ⟨s.n.toNat, by have := hv.1; omega⟩
  have hN64 : N ≤ 64 := by
    have := hv.2.1
    rw [hN] at this
    simpa using this
  rw [hN, nm_len N (by omega)]
  have h2 : (nmN N s.h).length ≤ 4 := by
    unfold nmN
    split <;> split <;> simp
  omega
def tabsW (w : World) : Prop := TabS w ∧ PowT w
theorem tabsW.kept {w w' : World} (h : tabsW w) (k : Kept w w') : tabsW w' := ⟨h.1.kept k, h.2.kept k⟩
def wrT2 (K : Tk) : ByteArray := if okK K = true then txK K else ⟨#[]⟩
def wrE (K : Tk) : Int := if okK K = true then 0 else 5
theorem kflat_len {α : Type} (f : α → List UInt8) (n : Nat) : ∀ L : List α, (∀ x ∈ L, (f x).length ≤ n) → (L.flatMap f).length ≤ n * L.length
  | [], _ => by simp
  | x :: L, h => by
    have h1 := h x (by simp)
    have h2 := kflat_len f n L (fun y hy => h y (by simp [hy]))
    rw [List.flatMap_cons, List.length_append, List.length_cons, Nat.mul_succ]
    omega
theorem txR_len (K : Tk) (h : OkT K) (hs : okSt K.s = true) : (txR 0 (writeT K.B) K).length ≤ 600 := by
  have h1 := congrArg List.length (tail_lines K)
  have h2 := kflat_len (fun x => 10 :: bs x) 31 (tdL K 7) (fun x hx => by have := txO_len K h x hx; simp; omega)
  rw [← tdL_7, List.length_append] at h1
  have h3 := tdL_len K 7
  have h4 := writeT_len K.B
  have h5 := txT_small hs
  rw [← bs_len] at h5
  unfold txR txA begL aimL endL rowW
  simp only [List.length_append, List.length_cons, List.length_nil] at *
  omega
theorem kwrite_no (K : Tk) (hB : Brd K.B) (h : okK K = false) (w : World) (hT : tabsW w) :
    Calls Tryz.prog 8 #[kv K] w fun e w' => e = .returned (.tuple #[.string ⟨#[]⟩, .int .i64 5]) ∧ Kept w w' := by
  have H1 := Lib.hid (KAt.new w hB.1)
  have K1 := Lib.hid ((Kept.refl w).alloc (.cells (kcl K).toArray 30))
  have HT := Lib.hid hT
  have HBR := Lib.hid hB
  have hlen := Lib.hid hB.1
  have HST := Lib.hid (fun w hT => write_is K.s w hT)
  clear hT
  cases hb : rightB K.B
  · have HF := Lib.hid (fun w => write_no K.B hB hb w)
    clear hb h hB
    go_enter Tryz.func8, Tryz.ntmps8
    go_upto_region 1 with (refine wpList_box_k rfl _ rfl K rfl ?_)
    generalize w.alloc (.cells (kcl K).toArray 30) = W1 at *
    generalize w.heap.size = g at *
    go_wp2_with (refine wpList_load_midw (by rfl) 24 _ rfl g 0 rfl (cl K.B) _ H1.out.boardR Tryz.underlying24 rfl (by rw [size24, cl_length, hlen.out]) ?_)
    refine (HF.out _).mono ?_
    rintro e w2 ⟨rfl, k2⟩
    have H2 := Lib.hid (H1.out.heap k2)
    have K2 := Lib.hid (K1.out.trans k2)
    clear k2
    go_wp2_with ((with_reducible refine wpList_load_q rfl _ rfl g 67 ?_ K.s H2.out.stip ?_); exact rfl)
    refine (HST.out _ (HT.out.kept K2.out).1).mono ?_
    rintro e w3 ⟨rfl, k3⟩
    have K3 := Lib.hid (K2.out.trans k3)
    clear k3
    go_wp2
    go_ret2
    exact ⟨rfl, K3.out⟩
  · have HF := Lib.hid (fun w => write_yes K.B hB hb w)
    cases hs : okSt K.s
    · rw [hs] at HST
      clear hb h hB hs
      go_enter Tryz.func8, Tryz.ntmps8
      go_upto_region 1 with (refine wpList_box_k rfl _ rfl K rfl ?_)
      generalize w.alloc (.cells (kcl K).toArray 30) = W1 at *
      generalize w.heap.size = g at *
      go_wp2_with (refine wpList_load_midw (by rfl) 24 _ rfl g 0 rfl (cl K.B) _ H1.out.boardR Tryz.underlying24 rfl (by rw [size24, cl_length, hlen.out]) ?_)
      refine (HF.out _).mono ?_
      rintro e w2 ⟨rfl, k2⟩
      have H2 := Lib.hid (H1.out.heap k2)
      have K2 := Lib.hid (K1.out.trans k2)
      clear k2
      go_wp2_with ((with_reducible refine wpList_load_q rfl _ rfl g 67 ?_ K.s H2.out.stip ?_); exact rfl)
      refine (HST.out _ (HT.out.kept K2.out).1).mono ?_
      rintro e w3 ⟨rfl, k3⟩
      have K3 := Lib.hid (K2.out.trans k3)
      clear k3
      go_wp2
      go_ret2
      exact ⟨rfl, K3.out⟩
    · have hw : okW K = false := by
        unfold okK at h
        rw [hb, hs] at h
        simpa using h
      have HWi := Lib.hid (fun w => within_k K hB.1 w)
      rw [hw] at HWi
      rw [hs] at HST
      clear hb h hB hs hw
      go_enter Tryz.func8, Tryz.ntmps8
      go_upto_region 1 with (refine wpList_box_k rfl _ rfl K rfl ?_)
      generalize w.alloc (.cells (kcl K).toArray 30) = W1 at *
      generalize w.heap.size = g at *
      go_wp2_with (refine wpList_load_midw (by rfl) 24 _ rfl g 0 rfl (cl K.B) _ H1.out.boardR Tryz.underlying24 rfl (by rw [size24, cl_length, hlen.out]) ?_)
      refine (HF.out _).mono ?_
      rintro e w2 ⟨rfl, k2⟩
      have H2 := Lib.hid (H1.out.heap k2)
      have K2 := Lib.hid (K1.out.trans k2)
      clear k2
      go_wp2_with ((with_reducible refine wpList_load_q rfl _ rfl g 67 ?_ K.s H2.out.stip ?_); exact rfl)
      refine (HST.out _ (HT.out.kept K2.out).1).mono ?_
      rintro e w3 ⟨rfl, k3⟩
      have K3 := Lib.hid (K2.out.trans k3)
      have H3 := Lib.hid (H2.out.heap k3)
      clear k3
      go_wp2_with (refine wpList_load_k (by rfl) _ rfl g rfl K H3.out ?_)
      refine (HWi.out _).mono ?_
      rintro e w4 ⟨rfl, k4⟩
      have K4 := Lib.hid (K3.out.trans k4)
      clear k4
      go_wp2
      go_ret2
      exact ⟨rfl, K4.out⟩
theorem kwrite_yes (K : Tk) (hB : Brd K.B) (h : okK K = true) (w : World) (hT : tabsW w) :
    Calls Tryz.prog 8 #[kv K] w fun e w' => e = .returned (.tuple #[.string (txK K), .int .i64 0]) ∧ Kept w w' := by
  have H1 := Lib.hid (KAt.new w hB.1)
  have K1 := Lib.hid ((Kept.refl w).alloc (.cells (kcl K).toArray 30))
  have HT := Lib.hid hT
  have hlen := Lib.hid hB.1
  have HOT := okK_T h
  have h' := h
  unfold okK at h'
  simp only [Bool.and_eq_true] at h'
  obtain ⟨hb, hs, hw⟩ := h'
  have HST := Lib.hid (fun w hT => write_is K.s w hT)
  rw [hs] at HST
  rw [show wrT K.s = txT K.s by unfold wrT; rw [if_pos hs]] at HST
  have HF := Lib.hid (fun w => write_yes K.B hB hb w)
  have HWi := Lib.hid (fun w => within_k K hB.1 w)
  rw [hw] at HWi
  have HTo := Lib.hid (fun w hP => told_is K hB.1 HOT w hP)
  have hbsz : (⟨(writeT K.B).toArray⟩ : ByteArray).size ≤ 200 := writeT_len K.B
  have hdsz : (txT K.s).size ≤ 100 := txT_small hs
  have HBY := Lib.hid (write_bytes K ⟨(writeT K.B).toArray⟩ (txT K.s) rfl rfl)
  have hLEN := Lib.hid (txR_len K HOT hs)
  generalize (⟨(writeT K.B).toArray⟩ : ByteArray) = b at *
  generalize txT K.s = d at *
  clear hb h hB hs hw hT HOT
  have hs1 : 8 + b.size ≤ 9223372036854775807 := by omega
  have hs2 : 5 + d.size ≤ 9223372036854775807 := by omega
  go_enter Tryz.func8, Tryz.ntmps8
  go_upto_region 1 with (refine wpList_box_k rfl _ rfl K rfl ?_)
  generalize w.alloc (.cells (kcl K).toArray 30) = W1 at *
  generalize hg : w.heap.size = g at *
  have HG := Lib.hid hg
  clear hg
  go_wp2_with (refine wpList_load_midw (by rfl) 24 _ rfl g 0 rfl (cl K.B) _ H1.out.boardR Tryz.underlying24 rfl (by rw [size24, cl_length, hlen.out]) ?_)
  refine (HF.out _).mono ?_
  rintro e w2 ⟨rfl, k2⟩
  have H2 := Lib.hid (H1.out.heap k2)
  have K2 := Lib.hid (K1.out.trans k2)
  clear k2
  go_wp2_with ((with_reducible refine wpList_load_q rfl _ rfl g 67 ?_ K.s H2.out.stip ?_); exact rfl)
  refine (HST.out _ (HT.out.kept K2.out).1).mono ?_
  rintro e w3 ⟨rfl, k3⟩
  have K3 := Lib.hid (K2.out.trans k3)
  have H3 := Lib.hid (H2.out.heap k3)
  clear k3
  go_wp2_with (refine wpList_load_k (by rfl) _ rfl g rfl K H3.out ?_)
  refine (HWi.out _).mono ?_
  rintro e w4 ⟨rfl, k4⟩
  have K4 := Lib.hid (K3.out.trans k4)
  have H4 := Lib.hid (H3.out.heap k4)
  clear k4
  have HO4 := Lib.hid (own_two w4 (fsT ++ b) (amT ++ d))
  have K5 := Lib.hid (K4.out.alloc (.cells #[.string (fsT ++ b), .string (amT ++ d)] 9))
  have H5 := Lib.hid (H4.out.heap ((Kept.refl w4).alloc (.cells #[.string (fsT ++ b), .string (amT ++ d)] 9)))
  go_upto_region 6 with (refine wpList_bslice_2v rfl _ _ (fsT ++ b) (amT ++ d) rfl rfl rfl ?_)
  have hw4 := Lib.hid (K4.out.size)
  generalize w4.alloc (.cells #[.string (fsT ++ b), .string (amT ++ d)] 9) = W5 at *
  generalize w4.heap.size = g5 at *
  go_wp2_with (refine wpList_load_k (by rfl) _ rfl g rfl K H5.out ?_)
  refine (HTo.out _ (HT.out.kept K5.out).2).mono ?_
  rintro e w6 ⟨v, rfl, ho, k6⟩
  have HV : Hid (OwnsT w6 W5.heap.size v (tdL K 7)) := Lib.hid ho
  have HO6 := Lib.hid (HO4.out.kept k6)
  have K6 := Lib.hid (K5.out.trans k6)
  clear ho k6
  go_wp2_with (at_builtin; refine wpList_append_texts rfl _ _ rfl g5 _ _ _ _ _ rfl rfl HO6.out HV.out ?c1 ?c2 ?_)
  case c1 => have := tdL_len K 7; simp; omega
  case c2 => exact Nat.le_of_lt (World.ownsRow.lt HO6.out g5 rfl).2
  intro v7 w7 ho7 hg7
  have HO7 : Hid (OwnsT w7 g5 v7 ([fsT ++ b, amT ++ d] ++ tdL K 7)) := Lib.hid ho7
  have K7 := Lib.hid (K6.out.grownBy hg7 (fun k hk => by have := (World.ownsRow.lt HO6.out k hk).1; have := hw4.out; omega))
  clear ho7 hg7
  obtain ⟨gx, capx, rfl, hcx, hgx, hcell⟩ := HO7.out.all (by simp)
  have hx9 : ([fsT ++ b, amT ++ d] ++ tdL K 7).length ≤ 9 := by have := tdL_len K 7; simp; omega
  obtain ⟨xs, hxs⟩ : ∃ xs, xs = [fsT ++ b, amT ++ d] ++ tdL K 7 := ⟨_, rfl⟩
  rw [← hxs] at hcx hcell hx9
  rw [← hxs]
  have HJ := Lib.hid (by
    have := HBY.out
    rw [← hxs] at this
    exact this)
  have hjl : Hid ((Lib.join (xs.map fun x => x.data.toList) [10]).length ≤ 600) := Lib.hid (by
    have h1 := congrArg List.length HJ.out
    have h2 := hLEN.out
    rw [List.length_append, List.length_append] at h1
    omega)
  have hcell7 := Lib.hid hcell
  have hgx7 := Lib.hid hgx
  have hcx7 := Lib.hid hcx
  have hx9' := Lib.hid hx9
  generalize hm : xs.length = m at *
  clear hcell hgx hcx hx9 hxs hs1 hs2 hbsz hdsz
  go_wp2_with fail
  rw [← hm]
  refine (Tryz.strings_Join gx 0 capx xs ⟨#[10]⟩ _ hcell7.out hgx7.out (by have := hx9'.out; omega) (by have := hcx7.out; omega) (by have := hjl.out; exact Nat.le_trans this (by decide))).mono ?_
  rintro e w8 ⟨rfl, k8⟩
  have K8 := Lib.hid (K7.out.trans (Below.toKept k8))
  have hJ : (⟨(Lib.join (xs.map fun x => x.data.toList) [10]).toArray⟩ : ByteArray).size ≤ 600 := by
    show (Lib.join (xs.map fun x => x.data.toList) [10]).toArray.size ≤ 600
    have := hjl.out
    simpa using this
  have HE : Hid (((⟨#[98, 101, 103, 105, 110, 10]⟩ ++ (⟨(Lib.join (xs.map fun x => x.data.toList) [10]).toArray⟩ : ByteArray)) ++ ⟨#[10]⟩) ++ ⟨#[101, 110, 100, 10]⟩ = txK K) := Lib.hid (by
    apply bs_inj
    rw [txK_bs, ← HJ.out, bs_append, bs_append, bs_append, List.append_assoc, List.append_assoc]
    rfl)
  have e10 : (⟨#[10]⟩ : ByteArray).data.toList = [10] := rfl
  rw [e10]
  generalize (⟨(Lib.join (xs.map fun x => x.data.toList) [10]).toArray⟩ : ByteArray) = J at *
  have hj1 : 6 + J.size ≤ 9223372036854775807 := by omega
  have hj2 : 6 + J.size + 1 ≤ 9223372036854775807 := by omega
  have hj3 : 6 + J.size + 1 + 4 ≤ 9223372036854775807 := by omega
  clear k8 hm
  go_wp2
  go_ret2
  exact ⟨by rw [← HE.out]; rfl, K8.out⟩
end Go.Proofs.YtlbipjmmlobofaaGreatDoor
namespace Go.Proofs.YtlbipjmmlobofaaGreatDoor
open Go.RowKit
set_option linter.unusedVariables false
set_option linter.unusedSimpArgs false
set_option maxRecDepth 100000
set_option maxHeartbeats 16000000

theorem kconv_byte (c : UInt8) (x : Int) (hx : x = (c.toNat : Int)) (w : World) :
    (convert 44 9 (.slice (some ⟨w.heap.size, 0, none⟩) 1 1)).run Tryz.prog (w.alloc (.cells #[.int .u8 x] 5)) = .ok (.string ⟨#[c]⟩) (w.alloc (.cells #[.int .u8 x] 5)) := by
  subst hx
  have h3 := run_convert_bytes_back (P := Tryz.prog) (w.alloc (.cells #[.int .u8 (c.toNat : Int)] 5)) 44 9 5 ⟨w.heap.size, 0, none⟩ 1 [c] Tryz.underlying44 Tryz.underlying5 Tryz.underlying9 ?_
  · exact h3
  · intro j hj
    match j, hj with
    | 0, _ => simp [Addr.add, go_sem]
/-- What is written is read. -/
theorem txK_rd {K : Tk} (hB : Brd K.B) (h : okK K = true) : rdz fsL rlL (bs (txK K)) = ((txK K).size, 0) ∧ rdK (txK K) = K := by
  have h' := h
  unfold okK at h'
  simp only [Bool.and_eq_true] at h'
  obtain ⟨hb, hs, hw⟩ := h'
  refine rd_all ?_
  rw [txK_bs]
  exact tk_rd fsL rlL 0 (by omega) (writeT K.B) K (writeT_10 (right_all hB.1 hb)) (fsF_is (writeT_reads hB.1 hb)) (okK_T h) (sp_rd hs)
theorem txK_size (K : Tk) : (txK K).size = (txR 0 (writeT K.B) K).length := by rw [← txK_bs, bs_len]
theorem txK_pos (K : Tk) : 0 < (txK K).size := by
  rw [txK_size]; unfold txR txA begL; simp
theorem txK_small {K : Tk} (h : okK K = true) : (txK K).size ≤ 600 := by
  rw [txK_size]
  refine txR_len K (okK_T h) ?_
  unfold okK at h
  simp only [Bool.and_eq_true] at h
  exact h.2.1
theorem kcut_no (K : Tk) (hB : Brd K.B) (h : okK K = false) (n b : Int) (w : World) (hT : tabsW w) :
    Calls Tryz.prog 5 #[kv K, .int .u16 n, .int .u8 b] w fun e w' => e = .returned (.bool true) ∧ Kept w w' := by
  have H1 := Lib.hid (KAt.new w hB.1)
  have K1 := Lib.hid ((Kept.refl w).alloc (.cells (kcl K).toArray 30))
  have HT := Lib.hid hT
  have HWk := Lib.hid (fun w hT => task_wakes w hT)
  have HWr := Lib.hid (fun w hT => kwrite_no K hB h w hT)
  clear hT h hB
  go_enter Tryz.func5, Tryz.ntmps5
  go_upto_region 1 with (refine wpList_box_k rfl _ rfl K rfl ?_)
  generalize w.alloc (.cells (kcl K).toArray 30) = W1 at *
  generalize w.heap.size = g at *
  go_wp2_with fail
  refine (HWk.out _ (HT.out.kept K1.out).1).mono ?_
  rintro e w2 ⟨rfl, k2⟩
  have H2 := Lib.hid (H1.out.heap k2)
  have K2 := Lib.hid (K1.out.trans k2)
  clear k2
  go_wp2_with (refine wpList_load_k (by rfl) _ rfl g rfl K H2.out ?_)
  refine (HWr.out _ (HT.out.kept K2.out)).mono ?_
  rintro e w3 ⟨rfl, k3⟩
  have K3 := Lib.hid (K2.out.trans k3)
  clear k3
  go_wp2
  go_ret
  exact ⟨rfl, K3.out⟩
theorem kcut_yes (K : Tk) (hB : Brd K.B) (h : okK K = true) (n : Int) (wn : (Lit.int .u16 n).wf = true) (b : Int) (wb : (Lit.int .u8 b).wf = true) (w : World) (hT : tabsW w) :
    Calls Tryz.prog 5 #[kv K, .int .u16 n, .int .u8 b] w fun e w' => e = .returned (.bool true) ∧ Kept w w' := by
  have H1 := Lib.hid (KAt.new w hB.1)
  have K1 := Lib.hid ((Kept.refl w).alloc (.cells (kcl K).toArray 30))
  have HT := Lib.hid hT
  have HWk := Lib.hid (fun w hT => task_wakes w hT)
  have HWr := Lib.hid (fun w hT => kwrite_yes K hB h w hT)
  have hmin : IntKind.u8.min = 0 := by decide
  have hmax : IntKind.u8.max = 255 := by decide
  have hmin6 : IntKind.u16.min = 0 := by decide
  have hmax6 : IntKind.u16.max = 65535 := by decide
  have hn0 : 0 ≤ n ∧ n ≤ 65535 := by simpa [Lit.wf, hmin6, hmax6] using wn
  have hb0 : 0 ≤ b ∧ b ≤ 255 := by simpa [Lit.wf, hmin, hmax] using wb
  clear hmin hmax wn wb hT hmin6 hmax6
  obtain ⟨n0, n1⟩ := hn0
  obtain ⟨b0, b1⟩ := hb0
  have z0 := txK_pos K
  have z1 := txK_small h
  have hrd := txK_rd hB h
  obtain ⟨c, hc⟩ : ∃ c : UInt8, b = (c.toNat : Int) := ⟨UInt8.ofNat b.toNat, by simp; omega⟩
  generalize txK K = T at *
  obtain ⟨N, rfl⟩ : ∃ N : Nat, n = N := ⟨n.toNat, by omega⟩
  obtain ⟨k, hKe⟩ : ∃ k, N % T.size = k := ⟨_, rfl⟩
  have hKL : k < T.size := by rw [← hKe]; exact Nat.mod_lt _ (by omega)
  have e1 : (N : Int) % (T.size : Int) = (k : Int) := by rw [← hKe, Int.natCast_emod]
  have e2 : (N : Int).tmod (T.size : Int) = (k : Int) := by rw [Int.tmod_eq_emod_of_nonneg (by omega)]; exact e1
  have e3 : ((T.size : Int) == 0) = false := beq_eq_false_iff_ne.2 (by omega)
  have hsl := lrun_head T k (by omega) (T.extract 0 k) rfl
  have hT1 : (T.extract 0 k).size ≤ 1000 := by rw [← bs_len, bs_extract, List.drop_zero, List.length_take]; have := bs_len T; omega
  have hT2 : (T ++ ⟨#[c]⟩).size ≤ 1000 := by rw [ByteArray.size_append]; show T.size + 1 ≤ 1000; omega
  have hs1 : ¬ 9223372036854775807 < T.size + 1 := by omega
  have h0 : (rdz fsL rlL (bs T)).2 = 0 := by rw [hrd.1]
  have hc1 := cut_1 fsL rlL (bs T) h0 k (by rw [bs_len]; exact hKL)
  have hc2 := wrong_0 fsL rlL (bs T) [c] h0 (by simp)
  have b1' : bs (T.extract 0 k) = (bs T).take k := by rw [bs_extract, List.drop_zero]
  have b2' : bs (T ++ ⟨#[c]⟩) = bs T ++ [c] := by rw [bs_append]; rfl
  have HR1 := Lib.hid (fun w hT => taskread_is (T.extract 0 k) hT1 w hT)
  have HR2 := Lib.hid (fun w hT => taskread_is (T ++ ⟨#[c]⟩) hT2 w hT)
  unfold KRet at HR1 HR2
  rw [b1', hc1.1, hc1.2] at HR1
  rw [b2', hc2.2.1, hc2.2.2, bs_len] at HR2
  generalize rdK (T.extract 0 k) = Ka at *
  generalize rdK (T ++ ⟨#[c]⟩) = Kb at *
  generalize T.extract 0 k = T1 at *
  have HC := Lib.hid hc
  clear h hB hrd hc h0 hc1 hc2 b1' b2' hT1 hT2 hKe
  go_enter Tryz.func5, Tryz.ntmps5
  go_upto_region 1 with (refine wpList_box_k rfl _ rfl K rfl ?_)
  generalize w.alloc (.cells (kcl K).toArray 30) = W1 at *
  generalize w.heap.size = g at *
  go_wp2_with fail
  refine (HWk.out _ (HT.out.kept K1.out).1).mono ?_
  rintro e w2 ⟨rfl, k2⟩
  have H2 := Lib.hid (H1.out.heap k2)
  have K2 := Lib.hid (K1.out.trans k2)
  clear k2
  go_wp2_with (refine wpList_load_k (by rfl) _ rfl g rfl K H2.out ?_)
  refine (HWr.out _ (HT.out.kept K2.out)).mono ?_
  rintro e w3 ⟨rfl, k3⟩
  have K3 := Lib.hid (K2.out.trans k3)
  clear k3
  go_wp2_with fail
  refine (HR1.out _ (HT.out.kept K3.out).1).mono ?_
  rintro e w4 ⟨rfl, hl1, k4⟩
  have K4 := Lib.hid (K3.out.trans (k4.alloc (.cells (kcl Ka).toArray 30)))
  have HL1 := Lib.hid hl1
  clear k4 hl1
  have hcv := kconv_byte c b HC.out (w4.alloc (.cells (kcl Ka).toArray 30))
  rw [World.size_alloc] at hcv
  go_upto_region 7 with (first | (with_reducible refine wpList_new_k rfl rfl ?_) | (refine wpList_store_newk rfl _ _ rfl Z75 Ka Z75_len HL1.out rfl rfl ?_))
  generalize w4.alloc (.cells (kcl Ka).toArray 30) = X at *
  generalize w4.heap.size = ga at *
  have HTX := Lib.hid (HT.out.kept (K4.out.alloc (.cells #[.int .u8 b] 5)))
  go_wp2_with fail
  refine (HR2.out _ HTX.out.1).mono ?_
  rintro e w5 ⟨rfl, hl2, k5⟩
  have K5 := Lib.hid (((K4.out.alloc (.cells #[.int .u8 b] 5)).trans k5).alloc (.cells (kcl Kb).toArray 30))
  have HL2 := Lib.hid hl2
  clear k5 hl2 hcv
  go_upto_region 8 with (first | (with_reducible refine wpList_new_k rfl rfl ?_) | (refine wpList_store_newk rfl _ _ rfl Z75 Kb Z75_len HL2.out rfl rfl ?_))
  generalize w5.alloc (.cells (kcl Kb).toArray 30) = Y at *
  generalize w5.heap.size = gb at *
  go_wp2
  go_ret
  exact ⟨rfl, K5.out⟩
theorem walkTaskCut (K : Tk) (hB : Brd K.B) (n : Int) (wn : (Lit.int .u16 n).wf = true) (b : Int) (wb : (Lit.int .u8 b).wf = true) (w : World) (hT : tabsW w) :
    Calls Tryz.prog 5 #[kv K, .int .u16 n, .int .u8 b] w fun e w' => e = .returned (.bool true) ∧ Kept w w' := by
  cases h : okK K
  · exact kcut_no K hB h n b w hT
  · exact kcut_yes K hB h n wn b wb w hT
end Go.Proofs.YtlbipjmmlobofaaGreatDoor
namespace Go.Proofs.YtlbipjmmlobofaaGreatDoor
open Go.RowKit
set_option linter.unusedVariables false
set_option maxRecDepth 100000
set_option linter.unusedSimpArgs false

theorem rollrwrite_no (B : List Int) (hB : Brd B) (hR : rightB B = false) (w : World) :
    Calls Tryz.prog 13 #[.agg (cl B).toArray] w fun e w' => e = .returned (.tuple #[.string ⟨#[]⟩, .int .i64 5]) ∧ Kept w w' := by
  have hbl := heap_alloc_new w (.cells (cl B).toArray 24)
  have hz := Lib.hid (size_cl hB.1)
  have H := Lib.hid hB
  clear hB
  go_enter Tryz.func13, Tryz.ntmps13
  go_wp2_with (refine wpList_load_w (by rfl) _ rfl _ rfl _ (hbl) hz.out ?_)
  refine (rright_is B H.out _).mono ?_
  rw [hR]
  rintro e w1 ⟨rfl, g1⟩
  go_wp2
  go_ret2
  exact ⟨rfl, ((Kept.refl w).alloc _).trans g1⟩
theorem rlett_k (k j : Nat) (hkj : k + j = 6) (h1 : 1 ≤ k) (w : World) :
    Calls Tryz.prog 40 #[.int .i64 (k : Int)] w fun e w' => e = .returned (.string (lettN j)) ∧ w = w' := by
  have := rletter_yes j (by omega) w
  rwa [show inOrd j = (k : Int) by unfold inOrd; rw [if_pos (by omega)]; omega] at this
/-- The text where a side's men begin, and behind them. -/
def preT (B : List Int) (n0 : Nat) : List UInt8 := if n0 = 0 then whiteT else whiteT ++ menT B 0 6 ++ (32 :: blackT)
def endT (B : List Int) (s : Nat) : List UInt8 := if s = 0 then whiteT else if s = 1 then whiteT ++ menT B 0 6 else rollT B
theorem preT_len (B : List Int) (n0 : Nat) : (preT B n0).length ≤ 2000 := by
  have := menT_len B 0 6
  unfold preT
  split
  · simp [whiteT]
  · simp [whiteT, blackT]; omega
theorem endT_len (B : List Int) (s : Nat) : (endT B s).length ≤ 4000 := by
  have := menT_len B 0 6
  have := rollT_len B
  unfold endT
  split
  · simp [whiteT]
  · split
    · simp [whiteT]; omega
    · omega
theorem itemsT_take {l : List Nat} {p : Nat} (h : p < l.length) (n : Nat) : itemsT n (l.take (p + 1)) = itemsT n (l.take p) ++ (32 :: itemT n (l.getD p 0)) := by
  rw [List.take_succ_eq_append_getElem h, itemsT_snoc]
  simp [List.getD, h]
theorem quiet_name (s : Nat) (hs : s < 64) (w : World) (n : Nat) : Calls Tryz.prog 25 #[.int .i64 (s : Int)] (w.drewN n) fun e w'' => e = .returned (.string (nameOf (s : Nat))) ∧ ∃ m, w'' = w.drewN m :=
  Calls.quiet_of (rname_yes (s : Int) (w.drewN n) (by omega) (by omega))
set_option maxHeartbeats 2000000 in
theorem rollrwrite_yes (B : List Int) (hB : Brd B) (hR : rightB B = true) (w : World) :
    Calls Tryz.prog 13 #[.agg (cl B).toArray] w fun e w' => e = .returned (.tuple #[.string ⟨(rollT B).toArray⟩, .int .i64 0]) ∧ Kept w w' := by
  have hbl := Lib.hid (heap_alloc_new w (.cells (cl B).toArray 24))
  have hz := Lib.hid (size_cl hB.1)
  have H := Lib.hid hB
  have HR := Lib.hid hR
  obtain ⟨W, eW⟩ : ∃ W, W = w.alloc (.cells (cl B).toArray 24) := ⟨_, rfl⟩
  have hkW := Lib.hid (show Kept w W by rw [eW]; exact (Kept.refl w).alloc _)
  have hbW := Lib.hid (show W.heap[w.heap.size]? = some (.cells (cl B).toArray 24 (0, 0)) by rw [eW]; exact hbl.out)
  have HW := Lib.hid eW
  clear hB hR eW
  go_enter Tryz.func13, Tryz.ntmps13
  go_wp2_with (refine wpList_load_w (by rfl) _ rfl _ rfl _ (hbl.out) hz.out ?_)
  refine (rright_is B H.out _).mono ?_
  rw [HR.out]
  rintro e w1 ⟨rfl, g1⟩
  have HK1 := Lib.hid (show Kept W w1 by rw [HW.out]; exact g1)
  clear g1
  go_wp2
  go_loopw [4, 5] (fun t4 t5 wr => ∃ (s : Nat) (tx : ByteArray), s ≤ 2 ∧ t5 = .int .i64 s ∧ t4 = .string tx ∧ tx.data.toList = endT B s ∧ Kept W wr) (fun _ t5 _ => 2 - (intOf t5).toNat)
  case atStart => exact ⟨0, _, by omega, rfl, rfl, rfl, HK1.out⟩
  case round =>
    obtain ⟨s, tx, hs, rfl, rfl, ht, hK⟩ := hrel
    have HT := Lib.hid ht
    have HK := Lib.hid hK
    have HX : Hid (tx.size ≤ 4000) := by
      have := endT_len B s
      rw [← ht, len_size] at this
      exact this
    clear ht hK
    by_cases h0 : s = 0
    · have b1 : ((s : Int) == 1) = false := beq_eq_false_iff_ne.2 (by omega)
      have b2 : (s : Int) < 2 := by omega
      have HS0 := Lib.hid h0
      clear h0
      have hpre : Hid (tx.data.toList = preT B 0 ++ menT B 0 0) := Lib.hid (by rw [HT.out, HS0.out]; rfl)
      go_wp2
      go_loopw [4, 6] (fun t4 t6 wr => ∃ (k j : Nat) (ty : ByteArray), k + j = 6 ∧ t6 = .int .i64 k ∧ t4 = .string ty ∧ ty.data.toList = preT B 0 ++ menT B 0 j ∧ Kept W wr) (fun _ t6 _ => (intOf t6).toNat)
      case atStart => exact ⟨6, 0, _, by omega, rfl, rfl, hpre.out, HK.out⟩
      case round =>
        obtain ⟨k, j, ty, hkj, rfl, rfl, hy, hKy⟩ := hrel
        have HY := Lib.hid hy
        have HKy := Lib.hid hKy
        clear hy hKy
        by_cases hk : 1 ≤ k
        · have hk' : (1 : Int) ≤ (k : Int) := by omega
          have hm : inOrd (0 + j) = (k : Int) := by unfold inOrd; rw [if_pos (by omega)]; omega
          have hb := HKy.out.heap hbW.out
          have HWh := Lib.hid (rwhere_is B H.out (inOrd (0 + j)))
          have HKD := Lib.hid (show kindT B (0 + j) = itemsT (0 + j) (whereL B (inOrd (0 + j))) from rfl)
          have hll := show (whereL B (inOrd (0 + j))).length ≤ 64 from sel_le _ 64
          have hlt := Lib.hid (fun p (hp : p < (whereL B (inOrd (0 + j))).length) => where_lt hp)
          have HTK := Lib.hid (fun p (hp : p < (whereL B (inOrd (0 + j))).length) => itemsT_take hp (0 + j))
          have hlen := Lib.hid (menT_len B 0 j)
          have hlen2 := Lib.hid (preT_len B 0)
          generalize hl : whereL B (inOrd (0 + j)) = l at *
          rw [hm] at HWh
          have hitem : ∀ s : Nat, itemT (0 + j) s = (lettN j).data.toList ++ (nameOf (s : Nat)).data.toList := fun s => by
            unfold itemT; rw [show (0 + j) % 6 = j by omega]
          have HIT := Lib.hid hitem
          clear hitem hl
          go_wp2_with (refine wpList_load_w (by rfl) _ rfl w.heap.size rfl B hb hz.out ?_)
          refine (HWh.out _).mono ?_
          rintro e w2 ⟨v, rfl, hown, g2⟩
          obtain ⟨a, cap, rfl⟩ := hown.slice
          have HO2 := Lib.hid (hown.low (Nat.zero_le _))
          have HK2 := Lib.hid (HKy.out.trans g2)
          clear hown g2 hb hm
          go_wp2
          go_loopw [4, 9] (fun t4 t9 wr => ∃ (p : Nat) (tz : ByteArray), p ≤ l.length ∧ t9 = .int .i64 p ∧ t4 = .string tz ∧ tz.data.toList = preT B 0 ++ menT B 0 j ++ itemsT (0 + j) (l.take p) ∧ Owns wr 0 (.slice a l.length cap) l ∧ Kept W wr) (fun _ t9 _ => l.length - (intOf t9).toNat)
          case atStart => exact ⟨0, ty, by omega, rfl, rfl, by rw [HY.out]; simp [itemsT], HO2.out, HK2.out⟩
          case round =>
            obtain ⟨p, tz, hp, rfl, rfl, hz', hsq, hKz⟩ := hrel
            have HZ := Lib.hid hz'
            have HQ := Lib.hid hsq
            have HKz := Lib.hid hKz
            have hzs : tz.size ≤ 100000 := by
              rw [← len_size, hz', List.length_append, List.length_append, itemsT_len, List.length_take]
              have := hlen.out
              have := hlen2.out
              omega
            clear hz' hsq hKz
            by_cases hpl : p < l.length
            · have hpl' : (p : Int) < (l.length : Int) := by omega
              have hp0 : (0 : Int) ≤ (p : Int) := by omega
              obtain ⟨gs, rfl, hc⟩ := HQ.out.at_ p hpl
              have hs64 := hlt.out p hpl
              have HTM := Lib.hid (HTK.out p hpl)
              generalize l.getD p 0 = q at *
              have z1 : (lettN j).size = 1 := rfl
              have z2 : (nameOf (q : Nat)).size = 2 := rfl
              have z3 : ¬ 9223372036854775807 < 1 + (lettN j).size := by omega
              have z4 : ¬ 9223372036854775807 < 1 + (lettN j).size + (nameOf (q : Nat)).size := by omega
              have z5 : ¬ 9223372036854775807 < tz.size + (1 + (lettN j).size + (nameOf (q : Nat)).size) := by omega
              go_wp2
              go_quiet (first | (go_at_call 40; exact quiet_same (rlett_k k j hkj hk _)) | (go_at_call 25; exact quiet_name q hs64 _ _))
              go_wp2
              go_roundw
              case rel => exact ⟨p + 1, _, by omega, by go_num, rfl, by rw [HTM.out, ← List.append_assoc, ← HZ.out, HIT.out, bs_app, bs_app, bs_app]; rfl, HQ.out.kept ((Kept.refl _).drewN _), HKz.out.drewN _⟩
              case measure => simp [intOf]; omega
            · have ep : p = l.length := by omega
              subst ep
              go_wp2
              go_roundw
              case rel => exact ⟨k - 1, j + 1, tz, by omega, by go_num, rfl, by rw [HZ.out, List.take_length, ← HKD.out, menT_succ, List.append_assoc], HKz.out⟩
              case measure => simp [intOf]; omega
        · have ek : k = 0 := by omega
          subst ek
          have ej : j = 6 := by omega
          subst ej
          go_wp2
          go_roundw
          case rel => exact ⟨s + 1, ty, by omega, by go_num, rfl, by rw [HY.out, HS0.out]; rfl, HKy.out⟩
          case measure => simp [intOf]; omega
    · by_cases h1 : s = 1
      · have b1 : ((s : Int) == 1) = true := by rw [beq_iff_eq]; omega
        have b2 : (s : Int) < 2 := by omega
        have HS0 := Lib.hid h1
        clear h0 h1
        have hpre : Hid ((tx ++ ⟨#[32, 98, 108, 97, 99, 107]⟩).data.toList = preT B 6 ++ menT B 6 0) := Lib.hid (by rw [bs_app, HT.out, HS0.out]; simp [preT, menT, endT, blackT])
        have z0 : ¬ 9223372036854775807 < tx.size + 6 := by have := HX.out; omega
        go_wp2
        go_loopw [4, 6] (fun t4 t6 wr => ∃ (k j : Nat) (ty : ByteArray), k + j = 6 ∧ t6 = .int .i64 k ∧ t4 = .string ty ∧ ty.data.toList = preT B 6 ++ menT B 6 j ∧ Kept W wr) (fun _ t6 _ => (intOf t6).toNat)
        case atStart => exact ⟨6, 0, _, by omega, rfl, rfl, hpre.out, HK.out⟩
        case round =>
          obtain ⟨k, j, ty, hkj, rfl, rfl, hy, hKy⟩ := hrel
          have HY := Lib.hid hy
          have HKy := Lib.hid hKy
          clear hy hKy
          by_cases hk : 1 ≤ k
          · have hk' : (1 : Int) ≤ (k : Int) := by omega
            have hm : inOrd (6 + j) = -(k : Int) := by unfold inOrd; rw [if_neg (by omega)]; omega
            have hb := HKy.out.heap hbW.out
            have HWh := Lib.hid (rwhere_is B H.out (inOrd (6 + j)))
            have HKD := Lib.hid (show kindT B (6 + j) = itemsT (6 + j) (whereL B (inOrd (6 + j))) from rfl)
            have hll := show (whereL B (inOrd (6 + j))).length ≤ 64 from sel_le _ 64
            have hlt := Lib.hid (fun p (hp : p < (whereL B (inOrd (6 + j))).length) => where_lt hp)
            have HTK := Lib.hid (fun p (hp : p < (whereL B (inOrd (6 + j))).length) => itemsT_take hp (6 + j))
            have hlen := Lib.hid (menT_len B 6 j)
            have hlen2 := Lib.hid (preT_len B 6)
            generalize hl : whereL B (inOrd (6 + j)) = l at *
            rw [hm] at HWh
            have hitem : ∀ s : Nat, itemT (6 + j) s = (lettN j).data.toList ++ (nameOf (s : Nat)).data.toList := fun s => by
              unfold itemT; rw [show (6 + j) % 6 = j by omega]
            have HIT := Lib.hid hitem
            clear hitem hl
            go_wp2_with (refine wpList_load_w (by rfl) _ rfl w.heap.size rfl B hb hz.out ?_)
            refine (HWh.out _).mono ?_
            rintro e w2 ⟨v, rfl, hown, g2⟩
            obtain ⟨a, cap, rfl⟩ := hown.slice
            have HO2 := Lib.hid (hown.low (Nat.zero_le _))
            have HK2 := Lib.hid (HKy.out.trans g2)
            clear hown g2 hb hm
            go_wp2
            go_loopw [4, 9] (fun t4 t9 wr => ∃ (p : Nat) (tz : ByteArray), p ≤ l.length ∧ t9 = .int .i64 p ∧ t4 = .string tz ∧ tz.data.toList = preT B 6 ++ menT B 6 j ++ itemsT (6 + j) (l.take p) ∧ Owns wr 0 (.slice a l.length cap) l ∧ Kept W wr) (fun _ t9 _ => l.length - (intOf t9).toNat)
            case atStart => exact ⟨0, ty, by omega, rfl, rfl, by rw [HY.out]; simp [itemsT], HO2.out, HK2.out⟩
            case round =>
              obtain ⟨p, tz, hp, rfl, rfl, hz', hsq, hKz⟩ := hrel
              have HZ := Lib.hid hz'
              have HQ := Lib.hid hsq
              have HKz := Lib.hid hKz
              have hzs : tz.size ≤ 100000 := by
                rw [← len_size, hz', List.length_append, List.length_append, itemsT_len, List.length_take]
                have := hlen.out
                have := hlen2.out
                omega
              clear hz' hsq hKz
              by_cases hpl : p < l.length
              · have hpl' : (p : Int) < (l.length : Int) := by omega
                have hp0 : (0 : Int) ≤ (p : Int) := by omega
                obtain ⟨gs, rfl, hc⟩ := HQ.out.at_ p hpl
                have hs64 := hlt.out p hpl
                have HTM := Lib.hid (HTK.out p hpl)
                generalize l.getD p 0 = q at *
                have z1 : (lettN j).size = 1 := rfl
                have z2 : (nameOf (q : Nat)).size = 2 := rfl
                have z3 : ¬ 9223372036854775807 < 1 + (lettN j).size := by omega
                have z4 : ¬ 9223372036854775807 < 1 + (lettN j).size + (nameOf (q : Nat)).size := by omega
                have z5 : ¬ 9223372036854775807 < tz.size + (1 + (lettN j).size + (nameOf (q : Nat)).size) := by omega
                go_wp2
                go_quiet (first | (go_at_call 40; exact quiet_same (rlett_k k j hkj hk _)) | (go_at_call 25; exact quiet_name q hs64 _ _))
                go_wp2
                go_roundw
                case rel => exact ⟨p + 1, _, by omega, by go_num, rfl, by rw [HTM.out, ← List.append_assoc, ← HZ.out, HIT.out, bs_app, bs_app, bs_app]; rfl, HQ.out.kept ((Kept.refl _).drewN _), HKz.out.drewN _⟩
                case measure => simp [intOf]; omega
              · have ep : p = l.length := by omega
                subst ep
                go_wp2
                go_roundw
                case rel => exact ⟨k - 1, j + 1, tz, by omega, by go_num, rfl, by rw [HZ.out, List.take_length, ← HKD.out, menT_succ, List.append_assoc], HKz.out⟩
                case measure => simp [intOf]; omega
          · have ek : k = 0 := by omega
            subst ek
            have ej : j = 6 := by omega
            subst ej
            go_wp2
            go_roundw
            case rel => exact ⟨s + 1, ty, by omega, by go_num, rfl, by rw [HY.out, HS0.out]; rfl, HKy.out⟩
            case measure => simp [intOf]; omega
      · have e2 : s = 2 := by omega
        subst e2
        have HE := Lib.hid (bs_eq (show tx.data.toList = rollT B from HT.out))
        clear HT h0 h1
        go_wp2
        go_ret2
        exact ⟨by rw [HE.out]; rfl, hkW.out.trans HK.out⟩
end Go.Proofs.YtlbipjmmlobofaaGreatDoor
namespace Go.Proofs.YtlbipjmmlobofaaGreatDoor
open Go.RowKit
set_option linter.unusedVariables false
set_option linter.unusedSimpArgs false
set_option maxRecDepth 100000
set_option maxHeartbeats 4000000

theorem one_of (x : Int) : ∀ vs : List Int, vs.Nodup → (vs.map fun v => if x == v then 1 else 0).sum ≤ 1
  | [], _ => by simp
  | v :: vs, h => by
    rw [List.map_cons, List.sum_cons]
    have h1 := List.nodup_cons.1 h
    have h2 := one_of x vs h1.2
    by_cases hx : x = v
    · have : (vs.map fun v => if x == v then 1 else 0).sum = 0 := by
        have : ∀ L : List Int, x ∉ L → (L.map fun v => if x == v then 1 else 0).sum = 0 := by
          intro L
          induction L with
          | nil => simp
          | cons u L ih =>
            intro hL
            rw [List.mem_cons, not_or] at hL
            rw [List.map_cons, List.sum_cons, ih hL.2, beq_eq_false_iff_ne.2 hL.1]
            rfl
        exact this vs (by rw [hx]; exact h1.1)
      rw [this]; split <;> omega
    · rw [beq_eq_false_iff_ne.2 hx]; simp only [Bool.false_eq_true, if_false]; omega
theorem sum_two {α : Type} (f g : α → Nat) : ∀ L : List α, (L.map fun v => f v + g v).sum = (L.map f).sum + (L.map g).sum
  | [] => rfl
  | v :: L => by
    have := sum_two f g L
    simp only [List.map_cons, List.sum_cons] at this ⊢
    omega
theorem all_of (B : List Int) (vs : List Int) (h : vs.Nodup) : ∀ k, (vs.map fun v => (sel (fun i => B.getD i 0 == v) k).length).sum ≤ k
  | 0 => by
    have : ∀ L : List Int, (L.map fun v => (sel (fun i => B.getD i 0 == v) 0).length).sum = 0 := by
      intro L
      induction L with
      | nil => rfl
      | cons u L ih => rw [List.map_cons, List.sum_cons, ih]; simp [sel]
    rw [this]; omega
  | k + 1 => by
    have h1 := all_of B vs h k
    have h2 := one_of (B.getD k 0) vs h
    have h3 := sum_two (fun v => (sel (fun i => B.getD i 0 == v) k).length) (fun v => if B.getD k 0 == v then 1 else 0) vs
    have h4 : (fun v => (sel (fun i => B.getD i 0 == v) (k + 1)).length) = fun v => (sel (fun i => B.getD i 0 == v) k).length + (if B.getD k 0 == v then 1 else 0) := by
      funext v
      cases hq : (B.getD k 0 == v)
      · rw [sel_no (p := fun i => B.getD i 0 == v) hq]; rfl
      · rw [sel_yes (p := fun i => B.getD i 0 == v) hq, List.length_append]; rfl
    rw [h4, h3]
    omega
theorem rollT_small (B : List Int) : (rollT B).length ≤ 270 := by
  have h := all_of B [inOrd 0, inOrd 1, inOrd 2, inOrd 3, inOrd 4, inOrd 5, inOrd 6, inOrd 7, inOrd 8, inOrd 9, inOrd 10, inOrd 11] (by decide) 64
  have e : ∀ n, (kindT B n).length = 4 * (sel (fun i => B.getD i 0 == inOrd n) 64).length := fun n => itemsT_len n _
  simp only [List.map_cons, List.map_nil, List.sum_cons, List.sum_nil] at h
  have m0 : ∀ n0, menT B n0 0 = [] := fun _ => rfl
  unfold rollT
  simp only [menT_succ, m0, List.length_append, List.length_cons, List.length_nil, e, whiteT, blackT, Nat.zero_add, Nat.reduceAdd]
  omega
theorem item_10 (n s : Nat) (hs : s < 64) : (10 : UInt8) ∉ itemT n s := by
  obtain ⟨a, b, e, ha, hb⟩ := name_bytes s hs
  have hl : ∀ m, m < 6 → (10 : UInt8) ∉ (lettN m).data.toList := by decide
  unfold itemT
  rw [List.mem_append, e]
  intro h
  rcases h with h | h
  · exact hl _ (by omega) h
  · rw [List.mem_cons, List.mem_cons] at h
    rcases h with h | h | h
    · rw [← h] at ha; simp at ha; omega
    · rw [← h] at hb; simp at hb; omega
    · cases h
theorem menT_10 (B : List Int) (n0 j : Nat) : (10 : UInt8) ∉ menT B n0 j := by
  unfold menT kindT itemsT
  intro h
  obtain ⟨i, _, h⟩ := List.mem_flatMap.1 h
  obtain ⟨s, hs, h⟩ := List.mem_flatMap.1 h
  rw [List.mem_cons] at h
  rcases h with h | h
  · exact absurd h (by decide)
  · refine item_10 _ s ?_ h
    unfold whereL sel at hs
    exact List.mem_range.1 (List.mem_filter.1 hs).1
theorem rollT_10 (B : List Int) : (10 : UInt8) ∉ rollT B := by
  unfold rollT
  intro h
  rw [List.mem_append, List.mem_append, List.mem_append, List.mem_cons] at h
  rcases h with ((h | h) | h | h) | h
  · exact absurd h (by decide)
  · exact menT_10 _ _ _ h
  · exact absurd h (by decide)
  · exact absurd h (by decide)
  · exact menT_10 _ _ _ h
theorem roll_all {B : List Int} (hB : B.length = 64) (h : rightB B = true) : RAll (rollT B) B (rollT B).length 0 := by
  rcases roll_reads hB h with ⟨_, _, _, _, _, h0⟩ | h
  · exact absurd h0 (by decide)
  · exact .inr h
/-- The same text, its board as a roll. -/
def txP (K : Tk) : ByteArray := ⟨(txR 1 (rollT K.B) K).toArray⟩
theorem txP_bs (K : Tk) : bs (txP K) = txR 1 (rollT K.B) K := rfl
theorem txP_rd {K : Tk} (hB : Brd K.B) (h : okK K = true) : rdz fsL rlL (bs (txP K)) = ((txP K).size, 0) ∧ rdK (txP K) = K := by
  have h' := h
  unfold okK at h'
  simp only [Bool.and_eq_true] at h'
  obtain ⟨hb, hs, hw⟩ := h'
  refine rd_all ?_
  rw [txP_bs]
  exact tk_rd fsL rlL 1 (by omega) (rollT K.B) K (rollT_10 K.B) (rlF_is (roll_all hB.1 hb)) (okK_T h) (sp_rd hs)
/-- Where the board's line ends. -/
def lnP (K : Tk) : Nat := 14 + (writeT K.B).length
theorem txK_parts (K : Tk) : bs (txK K) = begL ++ (([102, 111, 114, 115, 121, 116, 104, 32] ++ writeT K.B) ++ txA K) := by
  rw [txK_bs]; unfold txR
  rw [List.append_assoc]; rfl
theorem txP_parts (K : Tk) : bs (txP K) = begL ++ (([112, 105, 101, 99, 101, 115, 32] ++ rollT K.B) ++ txA K) := by
  rw [txP_bs]; unfold txR
  rw [List.append_assoc]; rfl
theorem lnP_at {K : Tk} (hB : Brd K.B) (h : rightB K.B = true) : (∀ j, 6 ≤ j → j < lnP K → (bs (txK K))[j]? ≠ some 10) ∧ (bs (txK K))[lnP K]? = some 10 ∧ lnP K < (txK K).size ∧ (bs (txK K)).take 6 = begL ∧ (bs (txK K)).drop (lnP K) = txA K := by
  have hl6 : begL.length = 6 := rfl
  have hll : ([102, 111, 114, 115, 121, 116, 104, 32] ++ writeT K.B).length = 8 + (writeT K.B).length := by rw [List.length_append]; rfl
  have ht : txA K = 10 :: (aimL ++ (bs (txT K.s) ++ 10 :: (txO K ++ endL))) := rfl
  have hd : (bs (txK K)).drop (lnP K) = txA K := by
    rw [txK_parts, List.drop_append, List.drop_eq_nil_of_le (by unfold lnP; omega), List.nil_append, hl6, List.drop_append, List.drop_eq_nil_of_le (by unfold lnP; omega), List.nil_append, hll, show lnP K - 6 - (8 + (writeT K.B).length) = 0 by unfold lnP; omega, List.drop_zero]
  have h10 : (bs (txK K))[lnP K]? = some 10 := by
    have : ((bs (txK K)).drop (lnP K))[0]? = some 10 := by rw [hd, ht]; rfl
    rwa [List.getElem?_drop, Nat.add_zero] at this
  refine ⟨?_, h10, ?_, ?_, hd⟩
  · intro j h6 hj e
    rw [txK_parts, List.getElem?_append_right (by omega), hl6, List.getElem?_append_left (by rw [hll]; unfold lnP at hj; omega)] at e
    have hm := List.mem_of_getElem? e
    rw [List.mem_append] at hm
    rcases hm with hm | hm
    · exact absurd hm (by decide)
    · exact writeT_10 (right_all hB.1 h) hm
  · obtain ⟨hlt, _⟩ := List.getElem?_eq_some_iff.1 h10
    rwa [bs_len] at hlt
  · rw [txK_parts, List.take_append_of_le_length (by omega)]; rfl
end Go.Proofs.YtlbipjmmlobofaaGreatDoor
