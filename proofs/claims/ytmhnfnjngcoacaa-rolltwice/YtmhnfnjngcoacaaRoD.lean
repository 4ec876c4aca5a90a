/- A roll's reader: a rank. -/
import Derived.Test.YtmhnfnjngcoacaaRoC
namespace Go.Proofs.Ytmhnfnjngcoacaa
open Go.RowKit
set_option linter.unusedVariables false
set_option linter.unusedSimpArgs false

theorem wpList_load_midw {ops : Array Oper} {rest : List Oper} {op : Oper} {a : Act} {w : World} {Q : Exit → Act → World → Prop} (hw : Region.wanted op (yielded ops a.tmps) = true) (ty : TypeId) (x : Operand) (ho : op.op = .load ty x)
    (b o : Nat) (hx : a.eval x = .pointer (some ⟨b, o, none⟩)) (cs : List Value) (d : TypeDesc) (hc : w.rangeAt b o cs)
    (hu : Try.prog.underlying ty = some d) (hd : d.isRow = true) (hi : (Try.prog.info? ty).map (·.size) = some cs.length)
    (h : wpList Try.prog ops Q rest (a.put op.dst (.agg cs.toArray)) w) : wpList Try.prog ops Q (op :: rest) a w :=
  wpList_step fun _ hK => by
    rw [if_pos hw]
    exact wp_load_mid ty x ho b o hx cs d hc hu hd hi (hK _ _ h)
theorem name_pair (f : Nat) (c : UInt8) (f0 : 97 ≤ f) (f1 : f ≤ 104) (c0 : 49 ≤ c.toNat) (c1 : c.toNat ≤ 56) :
    Utf8.encode (f : Int) ++ Utf8.encode (c.toNat : Int) = nameOf (rsq f c : Nat) := by
  have e1 := enc_low f.toUInt8 (by simp; omega)
  rw [show (f.toUInt8.toNat : Int) = (f : Int) by simp; omega] at e1
  rw [e1, enc_low c (by omega)]
  unfold nameOf rsq
  have a1 : (97 + (((c.toNat - 49) * 8 + (f - 97) : Nat) % 8 : Int).toNat).toUInt8 = f.toUInt8 := by
    have e : 97 + (((c.toNat - 49) * 8 + (f - 97) : Nat) % 8 : Int).toNat = f := by omega
    rw [e]
  have a2 : (49 + (((c.toNat - 49) * 8 + (f - 97) : Nat) / 8 : Int).toNat).toUInt8 = c := by
    apply UInt8.toNat.inj
    simp
    omega
  rw [a1, a2]
  apply ByteArray.ext
  simp
theorem parse_pair (f : Nat) (c : UInt8) (f0 : 97 ≤ f) (f1 : f ≤ 104) (c0 : 49 ≤ c.toNat) (c1 : c.toNat ≤ 56) (w : World) :
    Calls Try.prog 48 #[.string (Utf8.encode (f : Int) ++ Utf8.encode (c.toNat : Int))] w fun e w' => e = .returned (.tuple #[.int .i64 (rsq f c : Nat), .bool true]) ∧ Grown w w' := by
  rw [name_pair f c f0 f1 c0 c1]
  exact parse_name _ w (by unfold rsq; omega)
theorem inRank_twice (w : World) (g : Nat) (r : RS) (h : Rr w g r) (hB : Brd r.B) (f0 : 97 ≤ r.file) (f1 : r.file ≤ 104) (c : UInt8) (c0 : 49 ≤ c.toNat) (c1 : c.toNat ≤ 56) (ht : r.B.getD (rsq r.file c) 0 ≠ 0) :
    Calls Try.prog 47 #[.pointer (some ⟨g, 0, none⟩), .int .i32 (c.toNat : Nat)] w fun e w' => e = .returned (.bool false) ∧ Kept w w' := by
  have H := Lib.hid h
  have HB := Lib.hid hB
  have d3 := h.cell 3 rfl
  have HP := Lib.hid (parse_pair r.file c f0 f1 c0 c1)
  have hs1 := encode_size_le (r.file : Int)
  have hs2 := encode_size_le (c.toNat : Int)
  have s1 : ¬ 9223372036854775807 < (Utf8.encode (r.file : Int)).size + (Utf8.encode (c.toNat : Int)).size := by omega
  have hk64 : rsq r.file c < 64 := by unfold rsq; omega
  generalize hk : rsq r.file c = k at *
  have hM := Lib.hid (man_yes r.B hB k hk64)
  generalize hx : r.B.getD k 0 = x at *
  have b1 : (x != 0) = true := bne_iff_ne.2 ht
  clear h hB ht hx hk
  go_enter Try.func47, Try.ntmps47
  go_wp2_with fail
  refine (HP.out _).mono ?_
  rintro e w1 ⟨rfl, gw1⟩
  have K1 := Lib.hid (Kept.of_grown gw1)
  have H1 := Lib.hid (H.out.heap K1.out)
  clear gw1
  go_wp2_with (refine wpList_load_midw (by rfl) 24 _ rfl g 0 rfl (cl r.B) _ H1.out.range Try.underlying24 rfl (by rw [size24, cl_length, HB.out.1]) ?_)
  refine (hM.out _).mono ?_
  rintro e w2 ⟨rfl, g2⟩
  have K2 := Lib.hid (K1.out.trans g2)
  clear g2
  go_wp2
  go_ret
  exact ⟨rfl, K2.out⟩
theorem inRank_yes (w : World) (g : Nat) (r : RS) (h : Rr w g r) (hB : Brd r.B) (hm : okB r.man = true) (f0 : 97 ≤ r.file) (f1 : r.file ≤ 104) (c : UInt8) (c0 : 49 ≤ c.toNat) (c1 : c.toNat ≤ 56) (ht : r.B.getD (rsq r.file c) 0 = 0) :
    Calls Try.prog 47 #[.pointer (some ⟨g, 0, none⟩), .int .i32 (c.toNat : Nat)] w fun e w' => e = .returned (.bool true) ∧ Rr w' g ({ r with B := r.B.set (rsq r.file c) r.man } : RS).full ∧ KeptB g w w' := by
  have H := Lib.hid h
  have HB := Lib.hid hB
  have d3 := h.cell 3 rfl
  have HP := Lib.hid (parse_pair r.file c f0 f1 c0 c1)
  have hs1 := encode_size_le (r.file : Int)
  have hs2 := encode_size_le (c.toNat : Int)
  have s1 : ¬ 9223372036854775807 < (Utf8.encode (r.file : Int)).size + (Utf8.encode (c.toNat : Int)).size := by omega
  have hk64 : rsq r.file c < 64 := by unfold rsq; omega
  generalize hk : rsq r.file c = k at *
  have hM := Lib.hid (man_yes r.B hB k hk64)
  rw [ht] at hM
  have HPut := Lib.hid (put_yes r.B hB k r.man hk64 hm)
  have hlen := Lib.hid (show (r.B.set k r.man).length = 64 by simpa using hB.1)
  obtain ⟨B, sd, left, man, file, nx, ends⟩ := r
  dsimp only at *
  clear h hB ht hk hm
  go_enter Try.func47, Try.ntmps47
  go_wp2_with fail
  refine (HP.out _).mono ?_
  rintro e w1 ⟨rfl, gw1⟩
  have K1 := Lib.hid (Kept.of_grown gw1)
  have H1 := Lib.hid (H.out.heap K1.out)
  clear gw1
  go_wp2_with (refine wpList_load_midw (by rfl) 24 _ rfl g 0 rfl (cl B) _ H1.out.range Try.underlying24 rfl (by rw [size24, cl_length, HB.out.1]) ?_)
  refine (hM.out _).mono ?_
  rintro e w2 ⟨rfl, g2⟩
  have K2 := Lib.hid (K1.out.trans g2)
  have R2 := H1.out.heap g2.drew
  have H2 := Lib.hid R2
  have c2 := R2.cell 2 rfl
  clear g2 R2
  go_wp2
  refine wp_region_held_drew (S := fun w' => w'.cell? ⟨g, 66, none⟩ = some (.int .i64 man)) (by kernel_rfl) c2 (fun hHeld => ?_)
  refine rg_take (i := 0) (v := (.pointer (some ⟨g, 0, none⟩))) (some 31) rfl rfl (by kernel_rfl) (by kernel_rfl) (by kernel_rfl) (fun _ _ _ h => h) (Or.inl ⟨by rfl, fun _ _ => by go_simp⟩) hHeld ?_
  simp only [Act.put, List.setIfInBounds_toArray, List.set_cons_zero, List.set_cons_succ]
  refine rg_take (i := 1) (v := (.pointer (some ⟨g, 0, none⟩))) (some 32) rfl rfl (by kernel_rfl) (by kernel_rfl) (by kernel_rfl) (fun _ _ _ h => h) (Or.inl ⟨by rfl, fun _ _ => by go_simp⟩) hHeld ?_
  simp only [Act.put, List.setIfInBounds_toArray, List.set_cons_zero, List.set_cons_succ]
  refine rg_take (i := 2) (v := (.pointer (some ⟨g, 0, none⟩))) (some 33) rfl rfl (by kernel_rfl) (by kernel_rfl) (by kernel_rfl) (fun _ _ _ h => h) (Or.inl ⟨by rfl, fun _ _ => by go_simp⟩) hHeld ?_
  simp only [Act.put, List.setIfInBounds_toArray, List.set_cons_zero, List.set_cons_succ]
  refine rg_take (i := 3) (v := (.pointer (some ⟨g, 0, none⟩))) (some 34) rfl rfl (by kernel_rfl) (by kernel_rfl) (by kernel_rfl) (fun _ _ _ h => h) (Or.inl ⟨by rfl, fun _ _ => by go_simp⟩) hHeld ?_
  simp only [Act.put, List.setIfInBounds_toArray, List.set_cons_zero, List.set_cons_succ]
  refine rg_take (i := 5) (v := (.int .i64 (k : Int))) (some 36) rfl rfl (by kernel_rfl) (by kernel_rfl) (by kernel_rfl) (fun _ _ _ h => h) (Or.inl ⟨by rfl, fun _ _ => by go_simp⟩) hHeld ?_
  simp only [Act.put, List.setIfInBounds_toArray, List.set_cons_zero, List.set_cons_succ]
  refine rg_take (i := 6) (v := (.pointer (some ⟨g, 0, none⟩))) (some 37) rfl rfl (by kernel_rfl) (by kernel_rfl) (by kernel_rfl) (fun _ _ _ h => h) (Or.inl ⟨by rfl, fun _ _ => by go_simp⟩) hHeld ?_
  simp only [Act.put, List.setIfInBounds_toArray, List.set_cons_zero, List.set_cons_succ]
  refine rg_take (i := 7) (v := (.pointer (some ⟨g, 0, none⟩))) (some 38) rfl rfl (by kernel_rfl) (by kernel_rfl) (by kernel_rfl) (fun _ _ _ h => h) (Or.inl ⟨by rfl, fun _ _ => by go_simp⟩) hHeld ?_
  simp only [Act.put, List.setIfInBounds_toArray, List.set_cons_zero, List.set_cons_succ]
  refine rg_take (i := 8) (v := (.pointer (some ⟨g, 66, none⟩))) (some 39) rfl rfl (by kernel_rfl) (by kernel_rfl) (by kernel_rfl) (fun _ _ _ h => h) (Or.inl ⟨by rfl, fun _ _ => by go_simp⟩) hHeld ?_
  simp only [Act.put, List.setIfInBounds_toArray, List.set_cons_zero, List.set_cons_succ]
  refine rg_take (i := 9) (v := .int .i64 man) (some 40) rfl rfl (by kernel_rfl) (by kernel_rfl) (by kernel_rfl) (fun _ _ _ h => h) (Or.inl ⟨by rfl, fun w' h => by have h' : w'.cell? ⟨g, 66, none⟩ = some (.int .i64 man) := h; go_simp⟩) hHeld ?_
  simp only [Act.put, List.setIfInBounds_toArray, List.set_cons_zero, List.set_cons_succ]
  refine wpAnyH_ready (rs := [4]) (by kernel_rfl) (by simp) ?_
  refine AllReadyH.cons rfl (fun K hK => ?_) AllReadyH.nil
  rw [if_pos (by rfl)]
  refine wp_load_mid 24 _ rfl g 0 rfl (cl B) _ H2.out.range Try.underlying24 rfl (by rw [size24, cl_length, HB.out.1]) ?_
  refine hK.out _ _ hHeld (fun _ => ?_)
  clear hK K
  simp only [Act.put, List.setIfInBounds_toArray, List.set_cons_zero, List.set_cons_succ]
  refine wpAnyH_ready (rs := [10]) (by kernel_rfl) (by simp) ?_
  refine AllReadyH.cons rfl (fun K hK => ?_) AllReadyH.nil
  go_simp
  refine (HPut.out _).mono ?_
  rintro e w3 ⟨rfl, g3⟩
  have H3 := Lib.hid (H2.out.heap g3)
  have K3 := Lib.hid (K2.out.drew.trans g3)
  clear g3
  refine hK.out _ _ (H3.out.cell 2 rfl) (fun hHeld => ?_)
  clear hK K
  refine rg_take (i := 11) (v := (.tuple #[.agg (cl (B.set k man)).toArray, .int .i64 0])) (some 30) rfl rfl (by kernel_rfl) (by kernel_rfl) (by kernel_rfl) (fun _ _ _ h => h) (Or.inl ⟨by rfl, fun _ _ => by go_simp⟩) hHeld ?_
  simp only [Act.put, List.setIfInBounds_toArray, List.set_cons_zero, List.set_cons_succ]
  refine rg_take (i := 12) (v := (.agg (cl (B.set k man)).toArray)) (some 42) rfl rfl (by kernel_rfl) (by kernel_rfl) (by kernel_rfl) (fun _ _ _ h => h) (Or.inl ⟨by rfl, fun _ _ => by go_simp⟩) hHeld ?_
  simp only [Act.put, List.setIfInBounds_toArray, List.set_cons_zero, List.set_cons_succ]
  refine rg_take (i := 13) (v := (.int .i64 0)) (some 43) rfl rfl (by kernel_rfl) (by kernel_rfl) (by kernel_rfl) (fun _ _ _ h => h) (Or.inl ⟨by rfl, fun _ _ => by go_simp⟩) hHeld ?_
  simp only [Act.put, List.setIfInBounds_toArray, List.set_cons_zero, List.set_cons_succ]
  refine rg_take (i := 14) (v := (.pointer (some ⟨g, 0, none⟩))) (some 44) rfl rfl (by kernel_rfl) (by kernel_rfl) (by kernel_rfl) (fun _ _ _ h => h) (Or.inl ⟨by rfl, fun _ _ => by go_simp⟩) hHeld ?_
  simp only [Act.put, List.setIfInBounds_toArray, List.set_cons_zero, List.set_cons_succ]
  refine rg_take (i := 15) (v := (.pointer (some ⟨g, 0, none⟩))) (some 45) rfl rfl (by kernel_rfl) (by kernel_rfl) (by kernel_rfl) (fun _ _ _ h => h) (Or.inl ⟨by rfl, fun _ _ => by go_simp⟩) hHeld ?_
  simp only [Act.put, List.setIfInBounds_toArray, List.set_cons_zero, List.set_cons_succ]
  refine wpAnyH_ready (rs := [16]) (by kernel_rfl) (by simp) ?_
  refine AllReadyH.cons rfl (fun K hK => ?_) AllReadyH.nil
  rw [if_pos (by rfl)]
  refine wp_store_mid 24 _ _ rfl g 0 (cl (B.set k man)).toArray rfl rfl (by rw [cl_size _ hlen.out]; exact H3.out.there) (by rw [size24, cl_size _ hlen.out]) (cl_one _) ?_
  have H4 := Lib.hid (H3.out.setBoard _ hlen.out)
  have K4 := Lib.hid (KeptB.setCells (cl (B.set k man)).toArray.toList w3 0 (KeptB.of (g := g) K3.out))
  refine hK.out _ _ (H4.out.cell 2 rfl) (fun hHeld => ?_)
  clear hK K
  generalize w3.setCells g 0 (cl (B.set k man)).toArray.toList = w4 at *
  refine wpAnyH_done (by kernel_rfl) ?_ _
  go_wp2_with fail
  refine (full_is _ g { B := B.set k man, side := sd, left := left, man := man, file := file, next := nx, ends := ends } H4.out).mono ?_
  rintro e w5 ⟨rfl, R5, g5⟩
  have H5 := Lib.hid R5
  have K5 := Lib.hid (K4.out.trans g5)
  clear R5 g5
  go_wp2
  go_ret
  exact ⟨rfl, H5.out, K5.out⟩
end Go.Proofs.Ytmhnfnjngcoacaa
