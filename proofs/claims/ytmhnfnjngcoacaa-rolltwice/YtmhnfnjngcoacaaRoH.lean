/- A roll's Write. -/
import Derived.Test.YtmhnfnjngcoacaaRoG
namespace Go.Proofs.Ytmhnfnjngcoacaa
open Go.RowKit
set_option linter.unusedVariables false
set_option linter.unusedSimpArgs false

/-- Texts put behind texts: 'append(v, vx...)'. -/
theorem wpList_append_texts {ops : Array Oper} {rest : List Oper} {o : Oper} {a : Act} {w : World} {Q : Exit → Act → World → Prop} (hgd : o.guard = none) (s x : Operand)
    (ho : o.op = .call { callee := .builtin .append, args := #[s, x], argTypes := #[36, 36] })
    (base b2 : Nat) (v vx : Value) (l L : List ByteArray) (hs : a.eval s = v) (hx : a.eval x = vx) (hown : OwnsT w base v l) (hL : OwnsT w b2 vx L) (hlen : l.length + L.length ≤ 100000) (hbase : base ≤ w.heap.size)
    (h : ∀ v' w', OwnsT w' base v' (l ++ L) → w.grownBy w' v.ownBlock → wpList Try.prog ops Q rest (a.put o.dst v') w') : wpList Try.prog ops Q (o :: rest) a w := by
  obtain ⟨i0, hi0, hz0, hz1, hz2⟩ := info_parts3 infoStr
  rcases hL.2 with ⟨e, h0⟩ | ⟨g, cap, cur, e, hb, hh, hnc, _, hcs, ht⟩
  · have hL0 : L = [] := List.eq_nil_of_length_eq_zero h0
    subst hL0
    rw [e] at hx
    refine wpList_append_own_none hgd s x 36 ho base 9 i0 1 Try.underlying36 hi0 v _ _ hs hown hx ?_
    exact h v w (by simpa using hown) ⟨rfl, rfl, rfl, Nat.le_refl _, fun _ _ _ => rfl⟩
  · rw [e] at hx
    refine wpList_append_own w hgd s x 36 ho base 9 i0 (.string ⟨#[]⟩) 1 16 Try.underlying36 hi0 hz0 hz1 hz2 rfl (by decide) v _ _ hs hown ⟨g, 0, none⟩ L.length cap (tl L) hx (by simp [tl]) ?_ ?_ ?_ ?_ hbase ?_
    · intro j u hu
      have hj : j < L.length := by
        obtain ⟨hj, _⟩ := List.getElem?_eq_some_iff.1 hu
        simpa [tl] using hj
      rw [show (⟨g, 0, none⟩ : Addr).add j = ⟨g, j, none⟩ by simp [Addr.add]; omega, cell_of_row w g j cur _ (0, 0) hh, ← hu, ← ht, List.getElem?_take, if_pos (by omega)]
      simp
    · intro u hu
      unfold tl at hu
      obtain ⟨y, _, rfl⟩ := List.mem_map.1 hu
      rfl
    · unfold maxLen; omega
    · omega
    · intro v' w' h1 h2 _
      refine h v' w' ?_ h2
      unfold OwnsT
      have e2 : tl (l ++ L) = tl l ++ tl L := by simp [tl]
      rw [e2, List.length_append]
      exact h1
theorem kindIt_join (B : List Int) (n : Nat) : ((kindIt B n).map fun x => [32] ++ x.data.toList).flatten = kindT B n := by
  unfold kindIt kindT itemsT
  rw [List.map_map]
  generalize whereL B (inOrd n) = l
  induction l with
  | nil => rfl
  | cons a l ih =>
    rw [List.map_cons, List.flatten_cons, ih, List.flatMap_cons]
    simp [itemB_is]
theorem tidyI_join (B : List Int) (n0 : Nat) : ∀ j, ((tidyI B n0 j).map fun x => [32] ++ x.data.toList).flatten = menT B n0 j
  | 0 => rfl
  | j + 1 => by rw [tidyI_succ, menT_succ, List.map_append, List.flatten_append, tidyI_join B n0 j, kindIt_join]
def allI (B : List Int) : List ByteArray := [⟨whiteT.toArray⟩] ++ tidyI B 0 6 ++ [⟨blackT.toArray⟩] ++ tidyI B 6 6
theorem allI_join (B : List Int) : Lib.join ((allI B).map (·.data.toList)) [32] = rollT B := by
  have e : (allI B).map (fun x : ByteArray => x.data.toList) = whiteT :: ((tidyI B 0 6 ++ [(⟨blackT.toArray⟩ : ByteArray)] ++ tidyI B 6 6).map (fun x : ByteArray => x.data.toList)) := by simp [allI]
  rw [e, Lib.join_cons]
  unfold Lib.joinTail
  have e2 : (((tidyI B 0 6 ++ [(⟨blackT.toArray⟩ : ByteArray)] ++ tidyI B 6 6).map (fun x : ByteArray => x.data.toList)).map ([32] ++ ·)).flatten = ((tidyI B 0 6 ++ [(⟨blackT.toArray⟩ : ByteArray)] ++ tidyI B 6 6).map fun x : ByteArray => [32] ++ x.data.toList).flatten := by
    rw [List.map_map]; rfl
  rw [e2, List.map_append, List.map_append, List.flatten_append, List.flatten_append, tidyI_join, tidyI_join]
  simp [rollT, blackT]
theorem allI_len (B : List Int) : (allI B).length ≤ 1000 := by
  have h1 := tidyI_len B 0 6
  have h2 := tidyI_len B 6 6
  simp [allI]
  omega
theorem rollwrite_no (B : List Int) (hB : Brd B) (hR : rightB B = false) (w : World) :
    Calls Try.prog 6 #[.agg (cl B).toArray] w fun e w' => e = .returned (.tuple #[.string ⟨#[]⟩, .int .i64 5]) ∧ Kept w w' := by
  have hbl := heap_alloc_new w (.cells (cl B).toArray 24)
  have hz := Lib.hid (size_cl hB.1)
  have H := Lib.hid hB
  clear hB
  go_enter Try.func6, Try.ntmps6
  go_wp2_with (refine wpList_load_w (by rfl) _ rfl _ rfl _ (hbl) hz.out ?_)
  refine (bright_is B H.out _).mono ?_
  rw [hR]
  rintro e w1 ⟨rfl, g1⟩
  go_wp2
  go_ret2
  exact ⟨rfl, ((Kept.refl w).alloc _).trans g1⟩
theorem rollwrite_yes (B : List Int) (hB : Brd B) (hR : rightB B = true) (w : World) :
    Calls Try.prog 6 #[.agg (cl B).toArray] w fun e w' => e = .returned (.tuple #[.string ⟨(rollT B).toArray⟩, .int .i64 0]) ∧ Kept w w' := by
  have hbl := Lib.hid (heap_alloc_new w (.cells (cl B).toArray 24))
  have hz := Lib.hid (size_cl hB.1)
  have H := Lib.hid hB
  have HR := Lib.hid hR
  obtain ⟨W, eW⟩ : ∃ W, W = w.alloc (.cells (cl B).toArray 24) := ⟨_, rfl⟩
  have hkW := Lib.hid (show Kept w W by rw [eW]; exact (Kept.refl w).alloc _)
  have hbW := Lib.hid (show W.heap[w.heap.size]? = some (.cells (cl B).toArray 24 (0, 0)) by rw [eW]; exact hbl.out)
  have hsz := Lib.hid (show W.heap.size = w.heap.size + 1 by rw [eW]; simp)
  have HW := Lib.hid eW
  have hl1 := Lib.hid (tidyI_len B 0 6)
  have hl2 := Lib.hid (tidyI_len B 6 6)
  clear hB hR eW
  go_enter Try.func6, Try.ntmps6
  go_wp2_with (refine wpList_load_w (by rfl) _ rfl _ rfl _ (hbl.out) hz.out ?_)
  refine (bright_is B H.out _).mono ?_
  rw [HR.out]
  rintro e w1 ⟨rfl, g1⟩
  have HK1 := Lib.hid (show Kept W w1 by rw [HW.out]; exact g1)
  clear g1
  obtain ⟨W1, eW1⟩ : ∃ W1, W1 = w1.alloc (.cells #[.string ⟨#[119, 104, 105, 116, 101]⟩] 9) := ⟨_, rfl⟩
  have HO1 : Hid (OwnsT W1 (w.heap.size + 1) (.slice (some ⟨w1.heap.size, 0, none⟩) 1 1) [⟨whiteT.toArray⟩]) := by
    have := HK1.out.size
    have := hsz.out
    refine Lib.hid ?_
    rw [eW1]
    exact World.ownsRow_lit w1 #[.string ⟨#[119, 104, 105, 116, 101]⟩] 1 (by omega) (by unfold maxLen; omega) rfl
  have HKW1 := Lib.hid (show Kept W W1 by rw [eW1]; exact HK1.out.alloc _)
  have hb1 := Lib.hid (HKW1.out.heap hbW.out)
  have HEW := Lib.hid eW1
  clear eW1
  go_wp2_with (refine wpList_load_w (by rfl) _ rfl w.heap.size rfl B (by rw [← HEW.out]; exact hb1.out) hz.out ?_)
  rw [← HEW.out]
  refine (tidy_is B H.out 0 0 (.inl ⟨rfl, rfl⟩) _).mono ?_
  rintro e w2 ⟨v2, rfl, hown2, g2⟩
  have HO2 := Lib.hid (HO1.out.kept g2)
  have HX2 := Lib.hid hown2
  have HK2 := Lib.hid (HKW1.out.trans g2)
  clear hown2 g2
  go_wp2_with (at_builtin; refine wpList_append_texts rfl _ _ rfl (w.heap.size + 1) _ _ _ _ _ rfl rfl HO2.out HX2.out ?c1 ?c2 ?_)
  case c1 => have := hl1.out; simp; omega
  case c2 => have := HK2.out.size; have := hsz.out; omega
  intro v3 w3 hown3 hg3
  have HO3 := Lib.hid hown3
  have HK3 : Hid (Kept W w3) := HK2.out.grownBy hg3 (fun g hgv => by have := (World.ownsRow.lt HO2.out g hgv).1; have := hsz.out; omega)
  clear hown3 hg3
  obtain ⟨W3, eW3⟩ : ∃ W3, W3 = w3.alloc (.cells #[.string ⟨#[98, 108, 97, 99, 107]⟩] 9) := ⟨_, rfl⟩
  have HO4 : Hid (OwnsT W3 (w.heap.size + 1) v3 ([⟨whiteT.toArray⟩] ++ tidyI B 0 6)) := by rw [eW3]; exact HO3.out.kept ((Kept.refl _).alloc _)
  have HX4 : Hid (OwnsT W3 0 (.slice (some ⟨w3.heap.size, 0, none⟩) 1 1) [⟨blackT.toArray⟩]) := by
    refine Lib.hid ?_
    rw [eW3]
    exact World.ownsRow_lit w3 #[.string ⟨#[98, 108, 97, 99, 107]⟩] 1 (by omega) (by unfold maxLen; omega) rfl
  have HK4 := Lib.hid (show Kept W W3 by rw [eW3]; exact HK3.out.alloc _)
  have HEW3 := Lib.hid eW3
  clear eW3
  go_wp2_with (at_builtin; rw [← HEW3.out]; refine wpList_append_texts rfl _ _ rfl (w.heap.size + 1) _ _ _ _ _ rfl rfl HO4.out HX4.out ?c1 ?c2 ?_)
  case c1 => have := hl1.out; simp; omega
  case c2 => have := HK4.out.size; have := hsz.out; omega
  intro v5 w5 hown5 hg5
  have HO5 := Lib.hid hown5
  have HK5 : Hid (Kept W w5) := HK4.out.grownBy hg5 (fun g hgv => by have := (World.ownsRow.lt HO4.out g hgv).1; have := hsz.out; omega)
  have hb5 := Lib.hid (HK5.out.heap hbW.out)
  clear hown5 hg5
  go_wp2_with (refine wpList_load_w (by rfl) _ rfl w.heap.size rfl B hb5.out hz.out ?_)
  refine (tidy_is B H.out 6 1 (.inr ⟨rfl, rfl⟩) _).mono ?_
  rintro e w6 ⟨v6, rfl, hown6, g6⟩
  have HO6 := Lib.hid (HO5.out.kept g6)
  have HX6 := Lib.hid hown6
  have HK6 := Lib.hid (HK5.out.trans g6)
  clear hown6 g6
  go_wp2_with (at_builtin; refine wpList_append_texts rfl _ _ rfl (w.heap.size + 1) _ _ _ _ _ rfl rfl HO6.out HX6.out ?c1 ?c2 ?_)
  case c1 => have := hl1.out; have := hl2.out; simp; omega
  case c2 => have := HK6.out.size; have := hsz.out; omega
  intro v7 w7 hown7 hg7
  have hown7' : OwnsT w7 (w.heap.size + 1) v7 (allI B) := by
    have e : allI B = (⟨whiteT.toArray⟩ : ByteArray) :: (tidyI B 0 6 ++ (⟨blackT.toArray⟩ : ByteArray) :: tidyI B 6 6) := by simp [allI]
    rw [e]; exact hown7
  have hK7 : Hid (Kept W w7) := HK6.out.grownBy hg7 (fun g hgv => by have := (World.ownsRow.lt HO6.out g hgv).1; have := hsz.out; omega)
  obtain ⟨g, cap, ev, hcap, hg, hcells⟩ := OwnsT.all hown7' (by simp [allI])
  subst ev
  have HC := Lib.hid hcells
  have hN := allI_len B
  have hj := Try.strings_Join g 0 cap (allI B) ⟨#[32]⟩ w7 HC.out hg (by omega) hcap (by have := rollT_len B; rw [show (⟨#[32]⟩ : ByteArray).data.toList = [32] from rfl, allI_join]; omega)
  rw [show (⟨#[32]⟩ : ByteArray).data.toList = [32] from rfl, allI_join] at hj
  have HJ := Lib.hid hj
  clear hj hcells hown7 hown7' hg7 HC
  generalize (allI B).length = N at *
  go_wp2_with fail
  refine (HJ.out).mono ?_
  rintro e w8 ⟨rfl, g8⟩
  have HK8 := Lib.hid ((hkW.out.trans hK7.out).trans (Below.toKept g8))
  clear g8
  go_wp2
  go_ret2
  exact ⟨rfl, HK8.out⟩
end Go.Proofs.Ytmhnfnjngcoacaa
