/- Slices of texts of a call's own · Write · The men of a side, as texts: tidy · A roll's Write. -/
import Derived.Test.YtlbipjmmlobofaaGreatDoorPkA01
import Derived.Test.YtlbipjmmlobofaaGreatDoorPkA13
import Derived.Test.YtlbipjmmlobofaaGreatDoorPkA14
import Derived.Test.YtlbipjmmlobofaaGreatDoorPkB01
import Derived.Lib.Join
import Derived.OwnWalk
import Derived.Laws.AppendOwnNone
namespace Go.Proofs.YtlbipjmmlobofaaGreatDoor
open Go.RowKit
set_option linter.unusedVariables false
set_option maxRecDepth 100000
set_option linter.unusedSimpArgs false

/-- Texts as the cells of a slice. -/
def tl (l : List ByteArray) : List Value := l.map Value.string
theorem tl_snoc (l : List ByteArray) (k : ByteArray) : tl (l ++ [k]) = tl l ++ [.string k] := by simp [tl]
theorem infoStr : (Tryz.prog.info? 9).map (fun i => (i.zero, i.size, i.bytes)) = some (some (.string ⟨#[]⟩), 1, 16) := by kernel_rfl
theorem info_parts3 {P : Program} {t : TypeId} {z : Value} {n b : Nat} (h : (P.info? t).map (fun i => (i.zero, i.size, i.bytes)) = some (some z, n, b)) :
    ∃ i, P.info? t = some i ∧ i.zero = some z ∧ i.size = n ∧ i.bytes = b := by
  cases hq : P.info? t with
  | none => simp [hq] at h
  | some i => simp [hq] at h; exact ⟨i, rfl, h.1, h.2.1, h.2.2⟩
/-- A slice of texts of the call's own. -/
def OwnsT (w : World) (base : Nat) (v : Value) (l : List ByteArray) : Prop := w.ownsRow base 9 1 v l.length (tl l)
theorem OwnsT.kept {w w' : World} {base : Nat} {v : Value} {l : List ByteArray} (h : OwnsT w base v l) (k : Kept w w') : OwnsT w' base v l := by
  obtain ⟨h1, h2⟩ := h
  refine ⟨h1, ?_⟩
  rcases h2 with h2 | ⟨b, cap, cur, e1, e2, e3, e4⟩
  · exact .inl h2
  · exact .inr ⟨b, cap, cur, e1, e2, k.heap e3, e4⟩
theorem OwnsT.all {w : World} {base : Nat} {v : Value} {l : List ByteArray} (h : OwnsT w base v l) (hl : 0 < l.length) :
    ∃ g cap, v = .slice (some ⟨g, 0, none⟩) l.length cap ∧ l.length ≤ cap ∧ g < w.heap.size ∧ ∀ (j : Nat) x, l[j]? = some x → w.cell? ⟨g, 0 + j, none⟩ = some (.string x) := by
  rcases h.2 with ⟨e, h0⟩ | ⟨g, cap', cur, e, hb, hh, hnc, _, hcs, ht⟩
  · omega
  · refine ⟨g, cap', e, hnc, lt_of_heap hh, fun j x hx => ?_⟩
    have hj : j < l.length := by
      obtain ⟨hj, _⟩ := List.getElem?_eq_some_iff.1 hx
      exact hj
    rw [Nat.zero_add, cell_of_row w g j cur _ (0, 0) hh]
    have h2 : (cur.toList.take (l.length * 1))[j]? = (tl l)[j]? := by rw [ht]
    rw [List.getElem?_take, if_pos (by omega)] at h2
    simp only [Array.getElem?_toList] at h2
    rw [h2]
    simp [tl, hx]
end Go.Proofs.YtlbipjmmlobofaaGreatDoor
namespace Go.Proofs.YtlbipjmmlobofaaGreatDoor
open Go.RowKit
set_option linter.unusedVariables false
set_option maxRecDepth 100000
set_option linter.unusedSimpArgs false

def rowsT (B : List Int) (k : Nat) : List ByteArray := (List.range k).map fun i => ⟨(rowT B (7 - i)).toArray⟩
theorem rowsT_len (B : List Int) (k : Nat) : (rowsT B k).length = k := by simp [rowsT]
theorem rowsT_succ (B : List Int) (k : Nat) : rowsT B (k + 1) = rowsT B k ++ [⟨(rowT B (7 - k)).toArray⟩] := by simp [rowsT, List.range_succ]
theorem rowsT_join (B : List Int) : Lib.join ((rowsT B 8).map (·.data.toList)) [47] = writeT B := by
  rw [← writeT_join]
  congr 1
theorem row_int (B : List Int) (hB : Brd B) (hR : rightB B = true) (k : Nat) (hk : k < 8) (w : World) :
    Calls Tryz.prog 42 #[.agg (cl B).toArray, .int .i64 (7 - (k : Int))] w fun e w' => e = .returned (.string ⟨(rowT B (7 - k)).toArray⟩) ∧ Kept w w' := by
  have := row_is B hB hR (7 - k) (by omega) w
  rwa [show ((7 - k : Nat) : Int) = 7 - (k : Int) by omega] at this
theorem write_no (B : List Int) (hB : Brd B) (hR : rightB B = false) (w : World) :
    Calls Tryz.prog 14 #[.agg (cl B).toArray] w fun e w' => e = .returned (.tuple #[.string ⟨#[]⟩, .int .i64 5]) ∧ Kept w w' := by
  have hbl := heap_alloc_new w (.cells (cl B).toArray 24)
  have hz := Lib.hid (size_cl hB.1)
  have H := Lib.hid hB
  clear hB
  go_enter Tryz.func14, Tryz.ntmps14
  go_wp2_with (refine wpList_load_w (by rfl) _ rfl _ rfl _ (hbl) hz.out ?_)
  refine (bright_is B H.out _).mono ?_
  rw [hR]
  rintro e w1 ⟨rfl, g1⟩
  go_wp2
  go_ret2
  exact ⟨rfl, ((Kept.refl w).alloc _).trans g1⟩
theorem write_yes (B : List Int) (hB : Brd B) (hR : rightB B = true) (w : World) :
    Calls Tryz.prog 14 #[.agg (cl B).toArray] w fun e w' => e = .returned (.tuple #[.string ⟨(writeT B).toArray⟩, .int .i64 0]) ∧ Kept w w' := by
  have hbl := Lib.hid (heap_alloc_new w (.cells (cl B).toArray 24))
  have hz := Lib.hid (size_cl hB.1)
  have H := Lib.hid hB
  have HR := Lib.hid hR
  obtain ⟨i0, hi0, hz0, hz1, hz2⟩ := info_parts3 infoStr
  obtain ⟨W, eW⟩ : ∃ W, W = w.alloc (.cells (cl B).toArray 24) := ⟨_, rfl⟩
  have hkW := Lib.hid (show Kept w W by rw [eW]; exact (Kept.refl w).alloc _)
  have hbW := Lib.hid (show W.heap[w.heap.size]? = some (.cells (cl B).toArray 24 (0, 0)) by rw [eW]; exact hbl.out)
  have hsz := Lib.hid (show W.heap.size = w.heap.size + 1 by rw [eW]; simp)
  have HW := Lib.hid eW
  clear hB hR eW
  go_enter Tryz.func14, Tryz.ntmps14
  go_wp2_with (refine wpList_load_w (by rfl) _ rfl _ rfl _ (hbl.out) hz.out ?_)
  refine (bright_is B H.out _).mono ?_
  rw [HR.out]
  rintro e w1 ⟨rfl, g1⟩
  have HK1 := Lib.hid (show Kept W w1 by rw [HW.out]; exact g1)
  clear g1
  go_wp2
  go_loopw [4, 5] (fun t4 t5 wr => ∃ (k : Nat), k ≤ 8 ∧ t5 = .int .i64 (7 - (k : Int)) ∧ OwnsT wr (w.heap.size + 1) t4 (rowsT B k) ∧ Kept W wr) (fun _ t5 _ => (intOf t5 + 1).toNat)
  case atStart => exact ⟨0, by omega, rfl, World.ownsRow_nil _ _ _ _, HK1.out⟩
  case round =>
    obtain ⟨k, hk, rfl, hown, hK⟩ := hrel
    have HO := Lib.hid hown
    have HK := Lib.hid hK
    clear hown hK
    by_cases hl : k < 8
    · have hl' : (0 : Int) ≤ 7 - (k : Int) := by omega
      have hbr := HK.out.heap hbW.out
      go_wp2_with (refine wpList_load_w (by rfl) _ rfl _ rfl _ hbr hz.out ?_)
      refine (row_int B H.out HR.out k hl _).mono ?_
      rintro e w2 ⟨rfl, g2⟩
      have HO2 := Lib.hid (HO.out.kept g2)
      have HK2 := Lib.hid (HK.out.trans g2)
      have hrl := Lib.hid (rowsT_len B k)
      clear g2 hbr
      go_wp2_with (at_builtin; refine wpList_append_own _ rfl _ _ 50 rfl (w.heap.size + 1) 9 i0 (.string ⟨#[]⟩) 1 16 Tryz.underlying50 hi0 hz0 hz1 hz2 rfl (by decide) _ _ _ rfl (World.ownsRow.alloc HO2.out _) ⟨w2.heap.size, 0, none⟩ 1 1 [.string ⟨(rowT B (7 - k)).toArray⟩] rfl rfl ?c1 ?c2 ?c3 ?c4 ?c5 ?_)
      case c1 =>
        intro j u hj
        match j, hj with
        | 0, hj => simp at hj; subst hj; simp [Addr.add]
      case c2 => intro u hu; simp at hu; subst hu; rfl
      case c3 => unfold maxLen; have := hrl.out; omega
      case c4 => have := hrl.out; omega
      case c5 => have := HK2.out.size; have := hsz.out; simp; omega
      intro v' w3 hown' hgrow _
      have HO3 : Hid (OwnsT w3 (w.heap.size + 1) v' (rowsT B (k + 1))) := by
        refine Lib.hid ?_
        unfold OwnsT
        rw [rowsT_succ, tl_snoc]
        simpa [rowsT_len] using hown'
      have HK3 : Hid (Kept W w3) := (HK2.out.alloc _).grownBy hgrow (fun g hgv => by have := (World.ownsRow.lt HO2.out g hgv).1; have := hsz.out; omega)
      clear hown' hgrow
      go_wp2
      go_roundw
      case rel => exact ⟨k + 1, by omega, by go_num, HO3.out, HK3.out⟩
      case measure => simp [intOf]; omega
    · have e8 : k = 8 := by omega
      subst e8
      obtain ⟨g, cap, ev, hcap, hg, hcells⟩ := OwnsT.all HO.out (by rw [rowsT_len]; omega)
      rw [rowsT_len] at ev hcap
      subst ev
      have HC := Lib.hid hcells
      clear hcells hl
      have hj := Tryz.strings_Join g 0 cap (rowsT B 8) ⟨#[47]⟩ wr HC.out hg (by rw [rowsT_len]; omega) (by rw [rowsT_len]; exact hcap) (by have := writeT_len B; rw [show (⟨#[47]⟩ : ByteArray).data.toList = [47] from rfl, rowsT_join]; omega)
      rw [rowsT_len, show (⟨#[47]⟩ : ByteArray).data.toList = [47] from rfl, rowsT_join] at hj
      have HJ := Lib.hid hj
      clear hj
      go_wp2_with fail
      refine (HJ.out).mono ?_
      rintro e w2 ⟨rfl, g2⟩
      have HK2 := Lib.hid ((hkW.out.trans HK.out).trans (Below.toKept g2))
      clear g2
      go_wp2
      go_ret2
      exact ⟨rfl, HK2.out⟩
end Go.Proofs.YtlbipjmmlobofaaGreatDoor
namespace Go.Proofs.YtlbipjmmlobofaaGreatDoor
open Go.RowKit
set_option linter.unusedVariables false
set_option maxRecDepth 100000
set_option linter.unusedSimpArgs false

def itemB (n s : Nat) : ByteArray := lettN (n % 6) ++ nameOf (s : Nat)
theorem itemB_is (n s : Nat) : (itemB n s).data.toList = itemT n s := bs_app _ _
def kindIt (B : List Int) (n : Nat) : List ByteArray := (whereL B (inOrd n)).map (itemB n)
def tidyI (B : List Int) (n0 j : Nat) : List ByteArray := (List.range j).flatMap fun i => kindIt B (n0 + i)
theorem tidyI_succ (B : List Int) (n0 j : Nat) : tidyI B n0 (j + 1) = tidyI B n0 j ++ kindIt B (n0 + j) := by simp [tidyI, List.range_succ]
theorem kindIt_len (B : List Int) (n : Nat) : (kindIt B n).length ≤ 64 := by
  unfold kindIt whereL
  rw [List.length_map]
  exact sel_le _ 64
theorem tidyI_len (B : List Int) (n0 : Nat) : ∀ j, (tidyI B n0 j).length ≤ 64 * j
  | 0 => by simp [tidyI]
  | j + 1 => by
    have h1 := tidyI_len B n0 j
    have h2 := kindIt_len B (n0 + j)
    rw [tidyI_succ, List.length_append]
    omega
/-- A slice of squares stays as it is where a text is put behind a slice of texts. -/
theorem Owns.append {w w' : World} {b b' : Nat} {v vt : Value} {l : List Nat} {L : List ByteArray} (h : Owns w b v l) (ht : OwnsT w b' vt L) (hg : w.grownBy w' vt.ownBlock) : Owns w' b v l := by
  obtain ⟨h1, h2⟩ := h
  refine ⟨h1, ?_⟩
  rcases h2 with h2 | ⟨g, cap, cur, e1, e2, e3, e4⟩
  · exact .inl h2
  · refine .inr ⟨g, cap, cur, e1, e2, ?_, e4⟩
    rw [hg.block g (lt_of_heap e3) ?_]
    · exact e3
    · intro hb
      rcases ht.2 with ⟨et, _⟩ | ⟨g', cap', cur', et, _, e3', _⟩
      · rw [et] at hb; simp [Value.ownBlock] at hb
      · rw [et] at hb
        simp [Value.ownBlock] at hb
        subst hb
        rw [e3] at e3'
        simp at e3'
theorem OwnsT.low {w : World} {base b : Nat} {v : Value} {l : List ByteArray} (h : OwnsT w base v l) (hb : b ≤ base) : OwnsT w b v l := by
  obtain ⟨h1, h2⟩ := h
  refine ⟨h1, ?_⟩
  rcases h2 with h2 | ⟨g, cap, cur, e1, e2, e3⟩
  · exact .inl h2
  · exact .inr ⟨g, cap, cur, e1, by omega, e3⟩
theorem make_o (n0 j k : Nat) (sd : Int) (h : (n0 = 0 ∧ sd = 0) ∨ (n0 = 6 ∧ sd = 1)) (hk : k + j = 6) (h1 : 1 ≤ k) (w : World) :
    Calls Tryz.prog 136 #[.int .i64 (k : Int), .int .i64 sd] w fun e w' => e = .returned (.int .i64 (inOrd (n0 + j))) ∧ w = w' := by
  rcases h with ⟨rfl, rfl⟩ | ⟨rfl, rfl⟩
  · have := make_w (k : Int) w (by omega) (by omega)
    rwa [show inOrd (0 + j) = (k : Int) by unfold inOrd; rw [if_pos (by omega)]; omega]
  · have := make_b (k : Int) w (by omega) (by omega)
    rwa [show inOrd (6 + j) = -(k : Int) by unfold inOrd; rw [if_neg (by omega)]; omega]
theorem make_ok (n0 j k : Nat) (sd : Int) (h : (n0 = 0 ∧ sd = 0) ∨ (n0 = 6 ∧ sd = 1)) (hk : k + j = 6) (h1 : 1 ≤ k) (w : World) :
    Calls Tryz.prog 136 #[.int .i64 (k : Int), .int .i64 sd] w fun e w' => e = .returned (.int .i64 (inOrd (n0 + j))) ∧ Kept w w' :=
  (make_o n0 j k sd h hk h1 w).mono fun _ _ ⟨he, hw⟩ => ⟨he, hw ▸ Kept.refl _⟩
theorem name_any (s : Nat) (hs : s < 64) (w : World) :
    Calls Tryz.prog 51 #[.int .i64 (s : Int)] w fun e w' => e = .returned (.string (nameOf (s : Nat))) ∧ Kept w w' :=
  (name_grown (s : Int) w (by omega) (by omega)).mono fun _ _ ⟨he, hw⟩ => ⟨he, Kept.of_grown hw⟩
theorem where_lt {B : List Int} {m : Int} {p : Nat} (h : p < (whereL B m).length) : (whereL B m).getD p 0 < 64 := by
  have hm : (whereL B m).getD p 0 ∈ whereL B m := by rw [List.getD_eq_getElem?_getD, List.getElem?_eq_getElem h]; exact List.getElem_mem h
  have hr : ∀ x ∈ whereL B m, x < 64 := fun x hx => List.mem_range.1 (List.mem_filter.1 hx).1
  exact hr _ hm
theorem take_more {l : List Nat} {p : Nat} (h : p < l.length) (n : Nat) : (l.take (p + 1)).map (itemB n) = (l.take p).map (itemB n) ++ [itemB n (l.getD p 0)] := by
  rw [List.take_succ_eq_append_getElem h, List.map_append]
  simp [List.getD, h]
end Go.Proofs.YtlbipjmmlobofaaGreatDoor
namespace Go.Proofs.YtlbipjmmlobofaaGreatDoor
open Go.RowKit
set_option linter.unusedVariables false
set_option maxRecDepth 100000
set_option linter.unusedSimpArgs false

/-- Texts put behind texts: 'append(v, vx...)'. -/
theorem wpList_append_texts {ops : Array Oper} {rest : List Oper} {o : Oper} {a : Act} {w : World} {Q : Exit → Act → World → Prop} (hgd : o.guard = none) (s x : Operand)
    (ho : o.op = .call { callee := .builtin .append, args := #[s, x], argTypes := #[50, 50] })
    (base b2 : Nat) (v vx : Value) (l L : List ByteArray) (hs : a.eval s = v) (hx : a.eval x = vx) (hown : OwnsT w base v l) (hL : OwnsT w b2 vx L) (hlen : l.length + L.length ≤ 100000) (hbase : base ≤ w.heap.size)
    (h : ∀ v' w', OwnsT w' base v' (l ++ L) → w.grownBy w' v.ownBlock → wpList Tryz.prog ops Q rest (a.put o.dst v') w') : wpList Tryz.prog ops Q (o :: rest) a w := by
  obtain ⟨i0, hi0, hz0, hz1, hz2⟩ := info_parts3 infoStr
  rcases hL.2 with ⟨e, h0⟩ | ⟨g, cap, cur, e, hb, hh, hnc, _, hcs, ht⟩
  · have hL0 : L = [] := List.eq_nil_of_length_eq_zero h0
    subst hL0
    rw [e] at hx
    refine wpList_append_own_none hgd s x 50 ho base 9 i0 1 Tryz.underlying50 hi0 v _ _ hs hown hx ?_
    exact h v w (by simpa using hown) ⟨rfl, rfl, rfl, Nat.le_refl _, fun _ _ _ => rfl⟩
  · rw [e] at hx
    refine wpList_append_own w hgd s x 50 ho base 9 i0 (.string ⟨#[]⟩) 1 16 Tryz.underlying50 hi0 hz0 hz1 hz2 rfl (by decide) v _ _ hs hown ⟨g, 0, none⟩ L.length cap (tl L) hx (by simp [tl]) ?_ ?_ ?_ ?_ hbase ?_
    · intro j u hu
      have hj : j < L.length := by
        obtain ⟨hj, _⟩ := List.getElem?_eq_some_iff.1 hu
        simpa [tl] using hj
      rw [show (⟨g, 0, none⟩ : Addr).add j = ⟨g, j, none⟩ by simp [Addr.add]; omega, cell_of_row w g j cur _ (0, 0) hh, ← hu, ← ht, List.getElem?_take, if_pos (by omega)]
      simp
    · intro u hu
      unfold tl at hu
      obtain ⟨y, _, rfl⟩ := List.mem_map.1 hu
      rfl
    · unfold maxLen; omega
    · omega
    · intro v' w' h1 h2 _
      refine h v' w' ?_ h2
      unfold OwnsT
      have e2 : tl (l ++ L) = tl l ++ tl L := by simp [tl]
      rw [e2, List.length_append]
      exact h1
theorem kindIt_join (B : List Int) (n : Nat) : ((kindIt B n).map fun x => [32] ++ x.data.toList).flatten = kindT B n := by
  unfold kindIt kindT itemsT
  rw [List.map_map]
  generalize whereL B (inOrd n) = l
  induction l with
  | nil => rfl
  | cons a l ih =>
    rw [List.map_cons, List.flatten_cons, ih, List.flatMap_cons]
    simp [itemB_is]
theorem tidyI_join (B : List Int) (n0 : Nat) : ∀ j, ((tidyI B n0 j).map fun x => [32] ++ x.data.toList).flatten = menT B n0 j
  | 0 => rfl
  | j + 1 => by rw [tidyI_succ, menT_succ, List.map_append, List.flatten_append, tidyI_join B n0 j, kindIt_join]
def allI (B : List Int) : List ByteArray := [⟨whiteT.toArray⟩] ++ tidyI B 0 6 ++ [⟨blackT.toArray⟩] ++ tidyI B 6 6
theorem allI_join (B : List Int) : Lib.join ((allI B).map (·.data.toList)) [32] = rollT B := by
  have e : (allI B).map (fun x : ByteArray => x.data.toList) = whiteT :: ((tidyI B 0 6 ++ [(⟨blackT.toArray⟩ : ByteArray)] ++ tidyI B 6 6).map (fun x : ByteArray => x.data.toList)) := by simp [allI]
  rw [e, Lib.join_cons]
  unfold Lib.joinTail
  have e2 : (((tidyI B 0 6 ++ [(⟨blackT.toArray⟩ : ByteArray)] ++ tidyI B 6 6).map (fun x : ByteArray => x.data.toList)).map ([32] ++ ·)).flatten = ((tidyI B 0 6 ++ [(⟨blackT.toArray⟩ : ByteArray)] ++ tidyI B 6 6).map fun x : ByteArray => [32] ++ x.data.toList).flatten := by
    rw [List.map_map]; rfl
  rw [e2, List.map_append, List.map_append, List.flatten_append, List.flatten_append, tidyI_join, tidyI_join]
  simp [rollT, blackT]
theorem allI_len (B : List Int) : (allI B).length ≤ 1000 := by
  have h1 := tidyI_len B 0 6
  have h2 := tidyI_len B 6 6
  simp [allI]
  omega
end Go.Proofs.YtlbipjmmlobofaaGreatDoor
