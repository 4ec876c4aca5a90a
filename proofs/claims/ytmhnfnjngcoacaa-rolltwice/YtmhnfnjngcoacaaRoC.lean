/- A roll's reader: a word, an item, a rank. -/
import Derived.Test.YtmhnfnjngcoacaaRoB
import Derived.BigRegion
namespace Go.Proofs.Ytmhnfnjngcoacaa
open Go.RowKit
set_option linter.unusedVariables false
set_option linter.unusedSimpArgs false

theorem inWord_mid (w : World) (g : Nat) (r : RS) (h : Rr w g r) (d : UInt8) (rest : List UInt8) (hl : r.left = d :: rest) (hr : rest ≠ []) (h5 : rest.length ≤ 5) :
    Calls Try.prog 16 #[.pointer (some ⟨g, 0, none⟩), .int .i32 d.toNat] w fun e w' => e = .returned (.bool true) ∧ Rr w' g { r with left := rest } ∧ KeptB g w w' := by
  have c1 := h.cell 1 rfl
  have f1 := h.frozen 65
  have H1 := h.set 1 (.string ⟨rest.toArray⟩)
  have c1' := H1.cell 1 rfl
  have HR : Hid (Rr _ g { r with left := rest }) := H1.eq rfl rfl
  rw [hl] at c1
  obtain ⟨s, hs⟩ : ∃ s : ByteArray, s = ⟨(d :: rest).toArray⟩ := ⟨_, rfl⟩
  obtain ⟨u, hu⟩ : ∃ u : ByteArray, u = ⟨rest.toArray⟩ := ⟨_, rfl⟩
  have hz : 0 < s.size := by rw [hs]; show 0 < ((d :: rest).toArray).size; simp
  have hz1 : 1 ≤ s.size := hz
  have hz2 : s.size ≤ 6 := by rw [hs]; show ((d :: rest).toArray).size ≤ 6; simp; omega
  have h0 : s[0] = d := by subst hs; rfl
  have hne : ((d.toNat : Int) != wrap32 (s[0].toNat : Int)) = false := by
    rw [h0]
    have := d.toNat_lt
    have e : wrap32 (d.toNat : Int) = (d.toNat : Int) := by unfold wrap32; omega
    rw [e]; simp
  have hex : s.extract 1 s.size = u := by subst hs; subst hu; apply ByteArray.ext; simp [ByteArray.size]
  have hue : u.toList.isEmpty = false := by
    subst hu
    rw [ByteArray.toList_eq]
    cases rest with
    | nil => exact absurd rfl hr
    | cons a l => rfl
  rw [← hs] at c1
  rw [← hu] at c1' HR
  clear H1 h hs hu h0 hl hr h5
  go_enter Try.func16, Try.ntmps16
  go_wp2
  go_ret
  exact ⟨rfl, HR.out, (KeptB.refl g w).setCell 65 _⟩
theorem inWord_end (w : World) (g : Nat) (r : RS) (h : Rr w g r) (d : UInt8) (hl : r.left = [d]) :
    Calls Try.prog 16 #[.pointer (some ⟨g, 0, none⟩), .int .i32 d.toNat] w fun e w' => e = .returned (.bool true) ∧ Rr w' g ({ r with left := [] } : RS).full ∧ KeptB g w w' := by
  have c1 := h.cell 1 rfl
  have f1 := h.frozen 65
  have H1 := h.set 1 (.string ⟨#[]⟩)
  have c1' := H1.cell 1 rfl
  have HR : Hid (Rr _ g { r with left := [] }) := H1.eq rfl rfl
  rw [hl] at c1
  obtain ⟨s, hs⟩ : ∃ s : ByteArray, s = ⟨[d].toArray⟩ := ⟨_, rfl⟩
  have hz : 0 < s.size := by rw [hs]; show 0 < ([d].toArray).size; simp
  have hz1 : 1 ≤ s.size := hz
  have hz2 : s.size ≤ 6 := by rw [hs]; show ([d].toArray).size ≤ 6; simp
  have h0 : s[0] = d := by subst hs; rfl
  have hne : ((d.toNat : Int) != wrap32 (s[0].toNat : Int)) = false := by
    rw [h0]
    have := d.toNat_lt
    have e : wrap32 (d.toNat : Int) = (d.toNat : Int) := by unfold wrap32; omega
    rw [e]; simp
  have hex : s.extract 1 s.size = ⟨#[]⟩ := by subst hs; apply ByteArray.ext; simp [ByteArray.size]
  rw [← hs] at c1
  clear H1 h hs h0 hl
  go_enter Try.func16, Try.ntmps16
  go_wp2_with fail
  refine (full_is _ g _ HR.out).mono ?_
  rintro e w1 ⟨rfl, R1, K1⟩
  have H1 := Lib.hid R1
  have HK := Lib.hid (((KeptB.refl g w).setCell 65 _).trans K1)
  clear R1 K1
  go_wp2
  go_ret
  exact ⟨rfl, H1.out, HK.out⟩
theorem black0 : wrap32 (((⟨#[98, 108, 97, 99, 107]⟩ : ByteArray)[0]'(by decide)).toNat : Int) = 98 := by decide +kernel
theorem item_black (w : World) (g : Nat) (r : RS) (h : Rr w g r) (hs : r.side = 0) :
    Calls Try.prog 41 #[.pointer (some ⟨g, 0, none⟩), .int .i32 98] w fun e w' => e = .returned (.bool true) ∧ Rr w' g { r with side := 1, left := [108, 97, 99, 107], next := 0 } ∧ KeptB g w w' := by
  have hex : (⟨#[98, 108, 97, 99, 107]⟩ : ByteArray).extract 1 5 = ⟨#[108, 97, 99, 107]⟩ := by decide +kernel
  have c0 := h.cell 0 rfl
  rw [hs] at c0
  have f0 := h.frozen 64
  have H1 := h.set 0 (.int .i64 1)
  have f1 := H1.frozen 65
  have c1 := H1.cell 1 rfl
  have H2 := H1.set 1 (.string ((⟨#[98, 108, 97, 99, 107]⟩ : ByteArray).extract 1 5))
  have f4 := H2.frozen 68
  have c4 := H2.cell 4 rfl
  have H3 := H2.set 4 (nv 0)
  have HR : Hid (Rr _ g { r with side := 1, left := [108, 97, 99, 107], next := 0 }) := H3.eq rfl (by rw [hex]; rfl)
  have hb : ((98 : Int) == wrap32 (((⟨#[98, 108, 97, 99, 107]⟩ : ByteArray)[0]'(by decide)).toNat : Int)) = true := by rw [black0]; rfl
  clear H1 H2 H3 h hex
  simp only [nv, nf] at *
  go_enter Try.func41, Try.ntmps41
  go_wp2
  go_region
  go_wp2
  go_ret
  exact ⟨rfl, HR.out.heap ((Kept.refl _).drew), (((KeptB.refl g w).setCell 64 _).setCell 65 _).setCell 68 _ |>.trans (KeptB.of ((Kept.refl _).drew))⟩
theorem mkind_n (n : Nat) (hn : n < 6) (w : World) : Calls Try.prog 44 #[.int .i64 (inOrd n)] w fun e w' => e = .returned (.int .i64 ((6 - n : Nat) : Int)) ∧ w = w' := by
  have h : inOrd n = ((6 - n : Nat) : Int) := by unfold inOrd; rw [if_pos hn]; omega
  rw [h]
  exact mkind_w _ w (by omega) (by omega)
theorem mside_n (n : Nat) (hn : n < 6) (w : World) : Calls Try.prog 43 #[.int .i64 (inOrd n)] w fun e w' => e = .returned (.int .i64 0) ∧ w = w' := by
  have h : inOrd n = ((6 - n : Nat) : Int) := by unfold inOrd; rw [if_pos hn]; omega
  rw [h]
  exact mside_w _ w (by omega) (by omega)
theorem make_s (s : Int) (hs : s = 0 ∨ s = 1) (k : Nat) (h1 : 1 ≤ k) (h6 : k ≤ 6) (w : World) : Calls Try.prog 19 #[.int .i64 (k : Int), .int .i64 s] w fun e w' => e = .returned (.int .i64 (sideM s k)) ∧ w = w' := by
  rcases hs with rfl | rfl
  · exact make_w _ w (by omega) (by omega)
  · exact make_b _ w (by omega) (by omega)
theorem item_man (w : World) (g : Nat) (r : RS) (h : Rr w g r) (hs : r.side = 0 ∨ r.side = 1) (n : Nat) (hn : n < 6) :
    Calls Try.prog 41 #[.pointer (some ⟨g, 0, none⟩), .int .i32 (runeL n : Nat)] w fun e w' => e = .returned (.bool true) ∧ Rr w' g { r with man := sideM r.side (6 - n), next := 3 } ∧ KeptB g w w' := by
  obtain ⟨B, sd, left, man, file, nx, ends⟩ := r
  dsimp only at hs
  have H := Lib.hid h
  have HS := Lib.hid hs
  have c0 : w.cell? ⟨g, 64, none⟩ = some (.int .i64 sd) := h.cell 0 rfl
  have hb : ((runeL n : Int) == wrap32 (((⟨#[98, 108, 97, 99, 107]⟩ : ByteArray)[0]'(by decide)).toNat : Int)) = false := by
    rw [black0]
    have : n = 0 ∨ n = 1 ∨ n = 2 ∨ n = 3 ∨ n = 4 ∨ n = 5 := by omega
    rcases this with rfl | rfl | rfl | rfl | rfl | rfl <;> decide
  have he := enc_letter n (by omega)
  clear h
  go_enter Try.func41, Try.ntmps41
  obtain ⟨z, hz⟩ : ∃ z, (sd == 0) = z := ⟨_, rfl⟩
  clear hs
  cases z
  all_goals
    go_wp2_with fail
    refine (of_yes _ (inOrd n) _ (by rw [lettN]; simp [ByteArray.size]) (ofT_letter n (by omega)) (inOrd_man n (by omega)).1).mono ?_
    rintro e w1 ⟨rfl, gw1⟩
    go_wp2_with fail
    refine (mside_n n hn _).mono ?_
    rintro e w' ⟨rfl, rfl⟩
    go_wp2_with fail
    refine (letter_yes n (by omega) _).mono ?_
    rintro e w2 ⟨rfl, gw2⟩
    have hk2 := (Kept.of_grown gw1).trans (Kept.of_grown gw2)
    have R2 := H.out.heap hk2
    have K2 := Lib.hid hk2
    have c0' := R2.cell 0 rfl
    have f2 := R2.frozen 66
    have c2 := R2.cell 2 rfl
    have R3 := R2.set 2 (.int .i64 (sideM sd (6 - n)))
    have c03 := R3.cell 0 rfl
    have f4 := R3.frozen 68
    have c4 := R3.cell 4 rfl
    have R4 := R3.set 4 (nv 3)
    have c04 := R4.cell 0 rfl
    have HR : Hid (Rr _ g { B := B, side := sd, left := left, man := sideM sd (6 - n), file := file, next := 3, ends := ends }) := R4.eq rfl rfl
    clear gw1 gw2 hk2 c0 R2 R3 R4
    simp only [nv, nf] at *
    go_wp2
    refine wp_region_held_drew (S := fun w' => w'.cell? ⟨g, 64, none⟩ = some (.int .i64 sd)) (by kernel_rfl) c0' (fun hHeld => ?_)
    refine rg_take (i := 0) (v := (.pointer (some ⟨g, 0, none⟩))) (some 48) rfl rfl (by kernel_rfl) (by kernel_rfl) (by kernel_rfl) (fun _ _ _ h => h) (Or.inl ⟨by rfl, fun _ _ => by go_simp⟩) hHeld ?_
    simp only [Act.put, List.setIfInBounds_toArray, List.set_cons_zero, List.set_cons_succ]
    refine rg_take (i := 2) (v := (.int .i64 (inOrd n))) (some 50) rfl rfl (by kernel_rfl) (by kernel_rfl) (by kernel_rfl) (fun _ _ _ h => h) (Or.inl ⟨by rfl, fun _ _ => by go_simp⟩) hHeld ?_
    simp only [Act.put, List.setIfInBounds_toArray, List.set_cons_zero, List.set_cons_succ]
    refine rg_take (i := 4) (v := (.pointer (some ⟨g, 0, none⟩))) (some 52) rfl rfl (by kernel_rfl) (by kernel_rfl) (by kernel_rfl) (fun _ _ _ h => h) (Or.inl ⟨by rfl, fun _ _ => by go_simp⟩) hHeld ?_
    simp only [Act.put, List.setIfInBounds_toArray, List.set_cons_zero, List.set_cons_succ]
    refine rg_take (i := 5) (v := (.pointer (some ⟨g, 0, none⟩))) (some 53) rfl rfl (by kernel_rfl) (by kernel_rfl) (by kernel_rfl) (fun _ _ _ h => h) (Or.inl ⟨by rfl, fun _ _ => by go_simp⟩) hHeld ?_
    simp only [Act.put, List.setIfInBounds_toArray, List.set_cons_zero, List.set_cons_succ]
    refine rg_take (i := 6) (v := (.pointer (some ⟨g, 64, none⟩))) (some 54) rfl rfl (by kernel_rfl) (by kernel_rfl) (by kernel_rfl) (fun _ _ _ h => h) (Or.inl ⟨by rfl, fun _ _ => by go_simp⟩) hHeld ?_
    simp only [Act.put, List.setIfInBounds_toArray, List.set_cons_zero, List.set_cons_succ]
    refine rg_take (i := 1) (v := (.pointer (some ⟨g, 0, none⟩))) (some 49) rfl rfl (by kernel_rfl) (by kernel_rfl) (by kernel_rfl) (fun _ _ _ h => h) (Or.inl ⟨by rfl, fun _ _ => by go_simp⟩) hHeld ?_
    simp only [Act.put, List.setIfInBounds_toArray, List.set_cons_zero, List.set_cons_succ]
    refine rg_take (i := 7) (v := .int .i64 sd) (some 55) rfl rfl (by kernel_rfl) (by kernel_rfl) (by kernel_rfl) (fun _ _ _ h => h) (Or.inl ⟨by rfl, fun w' h => by have h' : w'.cell? ⟨g, 64, none⟩ = some (.int .i64 sd) := h; go_simp⟩) hHeld ?_
    simp only [Act.put, List.setIfInBounds_toArray, List.set_cons_zero, List.set_cons_succ]
    refine wpAnyH_ready (rs := [3]) (by kernel_rfl) (by simp) ?_
    refine AllReadyH.cons rfl (fun K hK => ?_) AllReadyH.nil
    go_simp
    refine (mkind_n n hn _).mono ?_
    rintro e w' ⟨rfl, rfl⟩
    refine hK.out _ _ hHeld (fun _ => ?_)
    clear hK K
    refine wpAnyH_ready (rs := [8]) (by kernel_rfl) (by simp) ?_
    refine AllReadyH.cons rfl (fun K hK => ?_) AllReadyH.nil
    go_simp
    refine (make_s sd HS.out (6 - n) (by omega) (by omega) _).mono ?_
    rintro e w' ⟨rfl, rfl⟩
    refine hK.out _ _ hHeld (fun _ => ?_)
    clear hK K
    refine rg_take (i := 9) (v := (.pointer (some ⟨g, 0, none⟩))) (some 57) rfl rfl (by kernel_rfl) (by kernel_rfl) (by kernel_rfl) (fun _ _ _ h => h) (Or.inl ⟨by rfl, fun _ _ => by go_simp⟩) hHeld ?_
    simp only [Act.put, List.setIfInBounds_toArray, List.set_cons_zero, List.set_cons_succ]
    refine rg_take (i := 10) (v := (.pointer (some ⟨g, 66, none⟩))) (some 58) rfl rfl (by kernel_rfl) (by kernel_rfl) (by kernel_rfl) (fun _ _ _ h => h) (Or.inl ⟨by rfl, fun _ _ => by go_simp⟩) hHeld ?_
    simp only [Act.put, List.setIfInBounds_toArray, List.set_cons_zero, List.set_cons_succ]
    refine wpAnyH_ready (rs := [11]) (by kernel_rfl) (by simp) ?_
    refine AllReadyH.cons rfl (fun K hK => ?_) AllReadyH.nil
    go_simp
    refine hK.out _ _ c03 (fun hHeld => ?_)
    clear hK K
    refine rg_take (i := 12) (v := (.pointer (some ⟨g, 0, none⟩))) (some 59) rfl rfl (by kernel_rfl) (by kernel_rfl) (by kernel_rfl) (fun _ _ _ h => h) (Or.inl ⟨by rfl, fun _ _ => by go_simp⟩) hHeld ?_
    simp only [Act.put, List.setIfInBounds_toArray, List.set_cons_zero, List.set_cons_succ]
    refine rg_take (i := 13) (v := (.pointer (some ⟨g, 68, none⟩))) (some 60) rfl rfl (by kernel_rfl) (by kernel_rfl) (by kernel_rfl) (fun _ _ _ h => h) (Or.inl ⟨by rfl, fun _ _ => by go_simp⟩) hHeld ?_
    simp only [Act.put, List.setIfInBounds_toArray, List.set_cons_zero, List.set_cons_succ]
    refine wpAnyH_ready (rs := [14]) (by kernel_rfl) (by simp) ?_
    refine AllReadyH.cons rfl (fun K hK => ?_) AllReadyH.nil
    go_simp
    refine hK.out _ _ c04 (fun hHeld => ?_)
    clear hK K
    refine wpAnyH_done (by kernel_rfl) ?_ _
    go_wp2
    go_ret
    exact ⟨rfl, HR.out.heap ((Kept.refl _).drew), (((KeptB.of K2.out).setCell 66 _).setCell 68 _).trans (KeptB.of ((Kept.refl _).drew))⟩
end Go.Proofs.Ytmhnfnjngcoacaa
