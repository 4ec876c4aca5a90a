/- The men of a side, as texts: tidy. -/
import Derived.Test.YtmhnfnjngcoacaaRoF
import Derived.Test.YtmhnfnjngcoacaaRoB
import Derived.Test.YtmhnfnjngcoacaaFoM
import Derived.Laws.AppendOwnNone
namespace Go.Proofs.Ytmhnfnjngcoacaa
open Go.RowKit
set_option linter.unusedVariables false
set_option linter.unusedSimpArgs false

def itemB (n s : Nat) : ByteArray := lettN (n % 6) ++ nameOf (s : Nat)
theorem itemB_is (n s : Nat) : (itemB n s).data.toList = itemT n s := bs_app _ _
def kindIt (B : List Int) (n : Nat) : List ByteArray := (whereL B (inOrd n)).map (itemB n)
def tidyI (B : List Int) (n0 j : Nat) : List ByteArray := (List.range j).flatMap fun i => kindIt B (n0 + i)
theorem tidyI_succ (B : List Int) (n0 j : Nat) : tidyI B n0 (j + 1) = tidyI B n0 j ++ kindIt B (n0 + j) := by simp [tidyI, List.range_succ]
theorem kindIt_len (B : List Int) (n : Nat) : (kindIt B n).length ≤ 64 := by
  unfold kindIt whereL
  rw [List.length_map]
  exact sel_le _ 64
theorem tidyI_len (B : List Int) (n0 : Nat) : ∀ j, (tidyI B n0 j).length ≤ 64 * j
  | 0 => by simp [tidyI]
  | j + 1 => by
    have h1 := tidyI_len B n0 j
    have h2 := kindIt_len B (n0 + j)
    rw [tidyI_succ, List.length_append]
    omega
/-- A slice of squares stays as it is where a text is put behind a slice of texts. -/
theorem Owns.append {w w' : World} {b b' : Nat} {v vt : Value} {l : List Nat} {L : List ByteArray} (h : Owns w b v l) (ht : OwnsT w b' vt L) (hg : w.grownBy w' vt.ownBlock) : Owns w' b v l := by
  obtain ⟨h1, h2⟩ := h
  refine ⟨h1, ?_⟩
  rcases h2 with h2 | ⟨g, cap, cur, e1, e2, e3, e4⟩
  · exact .inl h2
  · refine .inr ⟨g, cap, cur, e1, e2, ?_, e4⟩
    rw [hg.block g (lt_of_heap e3) ?_]
    · exact e3
    · intro hb
      rcases ht.2 with ⟨et, _⟩ | ⟨g', cap', cur', et, _, e3', _⟩
      · rw [et] at hb; simp [Value.ownBlock] at hb
      · rw [et] at hb
        simp [Value.ownBlock] at hb
        subst hb
        rw [e3] at e3'
        simp at e3'
theorem OwnsT.low {w : World} {base b : Nat} {v : Value} {l : List ByteArray} (h : OwnsT w base v l) (hb : b ≤ base) : OwnsT w b v l := by
  obtain ⟨h1, h2⟩ := h
  refine ⟨h1, ?_⟩
  rcases h2 with h2 | ⟨g, cap, cur, e1, e2, e3⟩
  · exact .inl h2
  · exact .inr ⟨g, cap, cur, e1, by omega, e3⟩
theorem make_o (n0 j k : Nat) (sd : Int) (h : (n0 = 0 ∧ sd = 0) ∨ (n0 = 6 ∧ sd = 1)) (hk : k + j = 6) (h1 : 1 ≤ k) (w : World) :
    Calls Try.prog 19 #[.int .i64 (k : Int), .int .i64 sd] w fun e w' => e = .returned (.int .i64 (inOrd (n0 + j))) ∧ w = w' := by
  rcases h with ⟨rfl, rfl⟩ | ⟨rfl, rfl⟩
  · have := make_w (k : Int) w (by omega) (by omega)
    rwa [show inOrd (0 + j) = (k : Int) by unfold inOrd; rw [if_pos (by omega)]; omega]
  · have := make_b (k : Int) w (by omega) (by omega)
    rwa [show inOrd (6 + j) = -(k : Int) by unfold inOrd; rw [if_neg (by omega)]; omega]
theorem make_ok (n0 j k : Nat) (sd : Int) (h : (n0 = 0 ∧ sd = 0) ∨ (n0 = 6 ∧ sd = 1)) (hk : k + j = 6) (h1 : 1 ≤ k) (w : World) :
    Calls Try.prog 19 #[.int .i64 (k : Int), .int .i64 sd] w fun e w' => e = .returned (.int .i64 (inOrd (n0 + j))) ∧ Kept w w' :=
  (make_o n0 j k sd h hk h1 w).mono fun _ _ ⟨he, hw⟩ => ⟨he, hw ▸ Kept.refl _⟩
theorem name_any (s : Nat) (hs : s < 64) (w : World) :
    Calls Try.prog 21 #[.int .i64 (s : Int)] w fun e w' => e = .returned (.string (nameOf (s : Nat))) ∧ Kept w w' :=
  (name_grown (s : Int) w (by omega) (by omega)).mono fun _ _ ⟨he, hw⟩ => ⟨he, Kept.of_grown hw⟩
theorem where_lt {B : List Int} {m : Int} {p : Nat} (h : p < (whereL B m).length) : (whereL B m).getD p 0 < 64 := by
  have hm : (whereL B m).getD p 0 ∈ whereL B m := by rw [List.getD_eq_getElem?_getD, List.getElem?_eq_getElem h]; exact List.getElem_mem h
  have hr : ∀ x ∈ whereL B m, x < 64 := fun x hx => List.mem_range.1 (List.mem_filter.1 hx).1
  exact hr _ hm
theorem take_more {l : List Nat} {p : Nat} (h : p < l.length) (n : Nat) : (l.take (p + 1)).map (itemB n) = (l.take p).map (itemB n) ++ [itemB n (l.getD p 0)] := by
  rw [List.take_succ_eq_append_getElem h, List.map_append]
  simp [List.getD, h]
set_option maxHeartbeats 1000000 in
theorem tidy_is (B : List Int) (hB : Brd B) (n0 : Nat) (sd : Int) (h : (n0 = 0 ∧ sd = 0) ∨ (n0 = 6 ∧ sd = 1)) (w : World) :
    Calls Try.prog 10 #[.agg (cl B).toArray, .int .i64 sd] w fun e w' => ∃ v, e = .returned v ∧ OwnsT w' w.heap.size v (tidyI B n0 6) ∧ Kept w w' := by
  have hbl := Lib.hid (heap_alloc_new w (.cells (cl B).toArray 24))
  have HB := Lib.hid hB
  have HS := Lib.hid h
  obtain ⟨i0, hi0, hz0, hz1, hz2⟩ := info_parts3 infoStr
  obtain ⟨W, eW⟩ : ∃ W, W = w.alloc (.cells (cl B).toArray 24) := ⟨_, rfl⟩
  have hkW := Lib.hid (show Kept w W by rw [eW]; exact (Kept.refl w).alloc _)
  have hbW := Lib.hid (show W.heap[w.heap.size]? = some (.cells (cl B).toArray 24 (0, 0)) by rw [eW]; exact hbl.out)
  have hsz := Lib.hid (show W.heap.size = w.heap.size + 1 by rw [eW]; simp)
  have HW := Lib.hid eW
  clear hB eW h
  go_enter Try.func10, Try.ntmps10
  go_wp2
  go_loopw [5, 6] (fun t5 t6 wr => ∃ (k j : Nat), k + j = 6 ∧ t6 = .int .i64 k ∧ OwnsT wr (w.heap.size + 1) t5 (tidyI B n0 j) ∧ Kept W wr) (fun _ t6 _ => (intOf t6).toNat)
  case atStart => exact ⟨6, 0, by omega, rfl, World.ownsRow_nil _ _ _ _, by rw [HW.out]; exact Kept.refl _⟩
  case round =>
    obtain ⟨k, j, hkj, rfl, hown, hK⟩ := hrel
    have HO := Lib.hid hown
    have HK := Lib.hid hK
    have HLJ := Lib.hid (tidyI_len B n0 j)
    clear hown hK
    by_cases hl : 1 ≤ k
    · have hl' : (1 : Int) ≤ (k : Int) := by omega
      go_wp2_with fail
      refine (make_o 0 j k 0 (.inl ⟨rfl, rfl⟩) hkj hl _).mono ?_
      rintro e w' ⟨rfl, rfl⟩
      rw [Nat.zero_add]
      go_wp2_with fail
      refine (letter_yes j (by omega) _).mono ?_
      rintro e w1 ⟨rfl, gw1⟩
      have HO1 := Lib.hid (HO.out.kept (Kept.of_grown gw1))
      have HK1 := Lib.hid (HK.out.trans (Kept.of_grown gw1))
      have hbr := HK1.out.heap hbW.out
      clear gw1
      go_wp2
      refine wp_region_held_drew (S := Kept _) (by kernel_rfl) (Kept.refl _).drew (fun hHeld => ?_)
      refine rg_take (i := 0) (some 17) rfl rfl (by kernel_rfl) (by kernel_rfl) (by kernel_rfl) (fun _ _ _ h => h) (take_load (by rfl) _ rfl _ rfl B HB.out.1 (fun _ h => h.heap (hbr))) hHeld ?_
      simp only [Act.put, List.setIfInBounds_toArray, List.set_cons_zero, List.set_cons_succ]
      refine rg_take (i := 1) (v := (.int .i64 (k : Int))) (some 18) rfl rfl (by kernel_rfl) (by kernel_rfl) (by kernel_rfl) (fun _ _ _ h => h) (Or.inl ⟨by rfl, fun _ _ => by go_simp⟩) hHeld ?_
      simp only [Act.put, List.setIfInBounds_toArray, List.set_cons_zero, List.set_cons_succ]
      refine rg_take (i := 2) (v := (.int .i64 sd)) (some 19) rfl rfl (by kernel_rfl) (by kernel_rfl) (by kernel_rfl) (fun _ _ _ h => h) (Or.inl ⟨by rfl, fun _ _ => by go_simp⟩) hHeld ?_
      simp only [Act.put, List.setIfInBounds_toArray, List.set_cons_zero, List.set_cons_succ]
      refine rg_take (i := 6) (v := (.int .i64 0)) (some 23) rfl rfl (by kernel_rfl) (by kernel_rfl) (by kernel_rfl) (fun _ _ _ h => h) (Or.inl ⟨by rfl, fun _ _ => by go_simp⟩) hHeld ?_
      simp only [Act.put, List.setIfInBounds_toArray, List.set_cons_zero, List.set_cons_succ]
      refine wpAnyH_ready (rs := [3]) (by kernel_rfl) (by simp) ?_
      refine AllReadyH.cons rfl (fun K hK => ?_) AllReadyH.nil
      go_simp
      refine (make_ok n0 j k sd HS.out hkj hl _).mono ?_
      rintro e w2 ⟨rfl, gw2⟩
      refine hK.out _ _ (hHeld.trans gw2) (fun _ => ?_)
      replace hHeld := hHeld.trans gw2
      clear hK K
      refine wpAnyH_ready (rs := [4]) (by kernel_rfl) (by simp) ?_
      refine AllReadyH.cons rfl (fun K hK => ?_) AllReadyH.nil
      go_simp
      refine (where_is B HB.out (inOrd (n0 + j)) _).mono ?_
      rintro e w3 ⟨v, rfl, hown3, g3⟩
      obtain ⟨a, cap, rfl⟩ := hown3.slice
      refine hK.out _ _ (hHeld.trans g3) (fun _ => ?_)
      replace hHeld := hHeld.trans g3
      clear hK K g3
      have HO3 := Lib.hid (HO1.out.kept hHeld)
      have HK3 := Lib.hid (HK1.out.trans hHeld)
      have HQ3 := Lib.hid (hown3.low (Nat.zero_le _))
      have hll := Lib.hid (show (whereL B (inOrd (n0 + j))).length ≤ 64 from sel_le _ 64)
      have hlt := Lib.hid (fun p (hp : p < (whereL B (inOrd (n0 + j))).length) => where_lt hp)
      have htm := Lib.hid (fun p (hp : p < (whereL B (inOrd (n0 + j))).length) => take_more hp (n0 + j))
      have hki := Lib.hid (show kindIt B (n0 + j) = (whereL B (inOrd (n0 + j))).map (itemB (n0 + j)) from rfl)
      have hmod : Hid ((n0 + j) % 6 = j) := by
        have := HS.out
        refine Lib.hid ?_
        omega
      clear hown3 hbr
      generalize whereL B (inOrd (n0 + j)) = l at *
      refine rg_take (i := 5) (v := (.int .i64 (l.length : Int))) (some 22) rfl rfl (by kernel_rfl) (by kernel_rfl) (by kernel_rfl) (fun _ _ _ h => h) (Or.inl ⟨by rfl, fun _ _ => by go_simp⟩) hHeld ?_
      simp only [Act.put, List.setIfInBounds_toArray, List.set_cons_zero, List.set_cons_succ]
      refine wpAnyH_done (by kernel_rfl) ?_ _
      clear hHeld
      go_wp2
      go_loopw [5, 23] (fun t5 t23 wr => ∃ (p : Nat), p ≤ l.length ∧ t23 = .int .i64 p ∧ OwnsT wr (w.heap.size + 1) t5 (tidyI B n0 j ++ (l.take p).map (itemB (n0 + j))) ∧ Owns wr 0 (.slice a l.length cap) l ∧ Kept W wr) (fun _ t23 _ => l.length - (intOf t23).toNat)
      case atStart => exact ⟨0, by omega, rfl, by simpa using HO3.out, HQ3.out, HK3.out⟩
      case round =>
        obtain ⟨p, hp, rfl, hown, hsq, hK⟩ := hrel
        have HOp := Lib.hid hown
        have HQp := Lib.hid hsq
        have HKp := Lib.hid hK
        clear hown hsq hK
        by_cases hpl : p < l.length
        · have hpl' : (p : Int) < (l.length : Int) := by omega
          have hp64 : l.length ≤ 64 := hll.out
          obtain ⟨gs, rfl, hc⟩ := HQp.out.at_ p hpl
          have hs64 := hlt.out p hpl
          have HTM := Lib.hid (htm.out p hpl)
          generalize l.getD p 0 = s at *
          have hLl : Hid ((tidyI B n0 j ++ (l.take p).map (itemB (n0 + j))).length ≤ 1000) := by
            have h1 := HLJ.out
            have h2 := hll.out
            refine Lib.hid ?_
            rw [List.length_append, List.length_map, List.length_take]
            omega
          generalize hX : tidyI B n0 j ++ (l.take p).map (itemB (n0 + j)) = X at HOp hLl
          have HX := Lib.hid hX
          clear hX
          go_wp2_with fail
          refine (name_any s hs64 _).mono ?_
          rintro e w5 ⟨rfl, g5⟩
          have HO5 := Lib.hid (HOp.out.kept g5)
          have HQ5 := Lib.hid (HQp.out.kept g5)
          have HK5 := Lib.hid (HKp.out.trans g5)
          have z1 : (lettN j).size = 1 := rfl
          have z2 : (nameOf (s : Nat)).size = 2 := rfl
          have z3 : ¬ 9223372036854775807 < (lettN j).size + (nameOf (s : Nat)).size := by omega
          clear g5 hc
          go_wp2_with (at_builtin; refine wpList_append_own _ rfl _ _ 36 rfl (w.heap.size + 1) 9 i0 (.string ⟨#[]⟩) 1 16 Try.underlying36 hi0 hz0 hz1 hz2 rfl (by decide) _ _ _ rfl (World.ownsRow.alloc HO5.out _) ⟨w5.heap.size, 0, none⟩ 1 1 [.string (lettN j ++ nameOf (s : Nat))] rfl rfl ?c1 ?c2 ?c3 ?c4 ?c5 ?_)
          case c1 =>
            intro i u hi
            match i, hi with
            | 0, hi => simp at hi; subst hi; simp [Addr.add]
          case c2 => intro u hu; simp at hu; subst hu; rfl
          case c3 => unfold maxLen; have := hLl.out; omega
          case c4 => have := hLl.out; omega
          case c5 => have := HK5.out.size; have := hsz.out; simp; omega
          intro v' w6 hown' hgrow _
          have HO6 : Hid (OwnsT w6 (w.heap.size + 1) v' (tidyI B n0 j ++ (l.take (p + 1)).map (itemB (n0 + j)))) := by
            refine Lib.hid ?_
            rw [HTM.out, ← List.append_assoc, HX.out]
            unfold OwnsT
            rw [tl_snoc]
            have e1 : itemB (n0 + j) s = lettN j ++ nameOf (s : Nat) := by unfold itemB; rw [hmod.out]
            rw [e1, List.length_append, List.length_singleton]
            exact hown'
          have HQ6 : Hid (Owns w6 0 _ l) := (HQ5.out.kept ((Kept.refl _).alloc _)).append (HO5.out.kept ((Kept.refl _).alloc _)) hgrow
          have HK6 : Hid (Kept W w6) := (HK5.out.alloc _).grownBy hgrow (fun g hgv => by have := (World.ownsRow.lt HO5.out g hgv).1; have := hsz.out; omega)
          clear hown' hgrow
          go_wp2
          go_roundw
          case rel => exact ⟨p + 1, by omega, by go_num, HO6.out, HQ6.out, HK6.out⟩
          case measure => simp [intOf]; omega
        · have ep : p = l.length := by omega
          subst ep
          have HO7 := HOp.out
          rw [List.take_length, ← hki.out, ← tidyI_succ] at HO7
          have HO8 := Lib.hid HO7
          clear HO7
          go_wp2
          go_roundw
          case rel => exact ⟨k - 1, j + 1, by omega, by go_num, HO8.out, HKp.out⟩
          case measure => simp [intOf]; omega
    · have e0 : k = 0 := by omega
      subst e0
      have e6 : j = 6 := by omega
      subst e6
      go_wp2
      go_ret
      exact ⟨_, rfl, OwnsT.low HO.out (by omega), hkW.out.trans HK.out⟩
end Go.Proofs.Ytmhnfnjngcoacaa
