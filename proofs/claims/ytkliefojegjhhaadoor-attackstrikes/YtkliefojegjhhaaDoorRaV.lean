/- Make. -/
import Derived.Test.YtkliefojegjhhaaDoorRaU
namespace Go.Proofs.YtkliefojegjhhaaDoor
open Go.RowKit
set_option linter.unusedVariables false
set_option linter.unusedSimpArgs false

theorem OwnZ.set {w : World} {base : Nat} {v : Value} {l : List Int} (h : OwnZ w base v l) {p : Addr} (hp : p.block < base) (u : Value) : OwnZ (w.setCell p u) base v l := by
  obtain ⟨h1, h2⟩ := h
  refine ⟨h1, ?_⟩
  rcases h2 with h2 | ⟨g, cap, cur, e1, e2, e3, e4⟩
  · exact .inl h2
  · exact .inr ⟨g, cap, cur, e1, e2, by rw [heap_setCell_other _ _ _ _ (by omega)]; exact e3, e4⟩
theorem Mk2.drew {w wr : World} {gA off N cap n : Nat} (h : Mk2 w wr gA off N cap n) : Mk2 w wr.drew gA off N cap n :=
  ⟨h.tab, h.len, h.far, h.num, h.cap0, h.cap1, h.all, h.kept.drew⟩
theorem run_cut (gA off N cap m : Nat) (h : m ≤ cap) (w : World) :
    (Instr.sliceAt 30 (.slice (some ⟨gA, off, none⟩) N cap) none (some (.int .i64 (m : Int))) (some (.int .i64 (m : Int)))).run Tryd.prog w = .ok (.slice (some ⟨gA, off, none⟩) m m) w := by
  obtain ⟨i0, hi0, hz0, hz1, hz2⟩ := partsZ infoZ
  have ht := Tryd.underlying30
  have he : Tryd.prog.elem 30 = 3 := by kernel_rfl
  rw [run_sliceAt_slice w _ _ _ _ _ (by rw [he]; exact ht), run_slice_hm w _ _ _ _ (by rw [he]; exact ht) _ _ _ _ (by omega) (by omega) (by omega), he]
  simp [sizeOf, typeInfo, hi0, hz1, sliced, Addr.add]
theorem run_rest (gA off N cap m : Nat) (h : m ≤ N) (w : World) :
    (Instr.sliceAt 30 (.slice (some ⟨gA, off, none⟩) N cap) (some (.int .i64 (m : Int))) none none).run Tryd.prog w = .ok (.slice (some ⟨gA, offOn off m cap, none⟩) (N - m) (cap - m)) w := by
  obtain ⟨i0, hi0, hz0, hz1, hz2⟩ := partsZ infoZ
  have ht := Tryd.underlying30
  have he : Tryd.prog.elem 30 = 3 := by kernel_rfl
  rw [run_sliceAt_slice w _ _ _ _ _ (by rw [he]; exact ht), run_slice_l w _ _ _ _ (by rw [he]; exact ht) _ _ (by omega) (by omega), he]
  unfold offOn
  split <;> simp_all [sizeOf, typeInfo, hi0, hz1, sliced, Addr.add]
set_option maxRecDepth 100000 in
set_option maxHeartbeats 1000000 in
theorem make_is (w : World) (hS : Steps w) :
    Calls Tryd.prog 13 #[] w fun e w' => e = .returned (.pointer (some ⟨w.heap.size, 0, none⟩)) ∧ Tab w' w.heap.size ∧ Kept w w' := by
  have HS := Lib.hid hS
  clear hS
  go_enter Tryd.func13, Tryd.ntmps13
  go_wp2_with (first | refine wpList_build_t rfl rfl ?_ | refine wpList_box_t rfl _ rfl rfl ?_ | refine wpList_new_n rfl rfl ?_)
  have HM := Lib.hid (Mk1.start w)
  generalize (w.alloc (.cells tz 52)).alloc (.cells (lensA 0) 54) = W at *
  go_loopw [3, 12] (fun t3 t12 wr => ∃ k : Nat, k ≤ 16 ∧ t12 = .int .i64 k ∧ Mk1 w wr t3 (k * 64)) (fun _ t12 _ => 16 - (intOf t12).toNat)
  case atStart => exact ⟨0, by omega, rfl, HM.out⟩
  case round =>
    obtain ⟨k, hk, rfl, hm⟩ := hrel
    have HM1 := Lib.hid hm
    clear hm HM
    by_cases hlt : k < 16
    · have hlt' : (k : Int) < 16 := by omega
      go_wp2
      go_loopw [3, 15] (fun t3 t15 wr => ∃ s : Nat, s ≤ 64 ∧ t15 = .int .i64 s ∧ Mk1 w wr t3 (k * 64 + s)) (fun _ t15 _ => 64 - (intOf t15).toNat)
      case atStart => exact ⟨0, by omega, rfl, HM1.out⟩
      case round =>
        obtain ⟨s, hs, rfl, hm⟩ := hrel
        obtain ⟨a0, cap0, rfl⟩ := hm.own.slice
        have HM2 := Lib.hid hm
        clear hm
        by_cases hls : s < 64
        · have hls' : (s : Int) < 64 := by omega
          go_wp2_with fail
          refine (along_is k s hlt _ (HS.out.kept HM2.out.kept)).mono ?_
          rintro e w2 ⟨v, g, rfl, hl, hlow, k2⟩
          rw [← listAt_way k s hls] at hl hlow
          obtain ⟨a, cap, rfl⟩ := hl.slice
          have hz := (lt_of_heap HM2.out.len)
          have M3 := HM2.out.on k2
          have c0 := M3.cell (k * 64 + s) (by omega)
          have f0 := M3.frozen (k * 64 + s)
          have HM3 := Lib.hid M3
          have HO3 := Lib.hid (M3.own.set (p := ⟨w.heap.size + 1, k * 64 + s, none⟩) (by simp) (.int .i64 ((listAt (k * 64 + s)).length : Int)))
          have HL3 := Lib.hid (hl.other (w' := w2.setCell ⟨w.heap.size + 1, k * 64 + s, none⟩ (.int .i64 ((listAt (k * 64 + s)).length : Int))) (fun h => heap_setCell_other _ _ _ _ (by have := hlow h; simp; omega)))
          have h8 := listAt_len (k * 64 + s)
          have h9 := flatN_len (k * 64 + s)
          clear hl hlow k2 M3 hz
          go_wp2_with (at_builtin; refine wpList_append_z rfl _ _ rfl (w.heap.size + 1 + 1) g _ _ (flatN (k * 64 + s)) (listAt (k * 64 + s)) rfl rfl HO3.out HL3.out ?c1 ?c2 ?_)
          case c1 => omega
          case c2 => have := lt_of_heap HM3.out.len; simp [World.setCell]; omega
          intro v' w4 hown hg
          obtain ⟨a', cap', rfl⟩ := hown.slice
          have HM4 := Lib.hid (HM3.out.next (by omega) hown hg)
          clear hown hg
          go_wp2
          go_roundw
          case rel => exact ⟨s + 1, by omega, by go_num, HM4.out⟩
          case measure => simp [intOf]; omega
        · have hls' : ¬ (s : Int) < 64 := by omega
          have HM3 := Lib.hid (show Mk1 w _ _ ((k + 1) * 64) by rw [show (k + 1) * 64 = k * 64 + s by omega]; exact HM2.out)
          go_wp2
          go_roundw
          case rel => exact ⟨k + 1, by omega, by go_num, HM3.out⟩
          case measure => simp [intOf]; omega
    · have hlt' : ¬ (k : Int) < 16 := by omega
      have hC : Mk1 w wr u3 1024 := by have := HM1.out; rwa [show k * 64 = 1024 by omega] at this
      obtain ⟨gA, N, cap, rfl, hm⟩ := hC.cut
      have HM2 := Lib.hid hm
      clear hC hm HM1
      go_wp2
      go_loopw [3, 32] (fun t3 t32 wr => ∃ k off N cap : Nat, k ≤ 16 ∧ t32 = .int .i64 k ∧ t3 = .slice (some ⟨gA, off, none⟩) N cap ∧ Mk2 w wr gA off N cap (k * 64)) (fun _ t32 _ => 16 - (intOf t32).toNat)
      case atStart => exact ⟨0, 0, N, cap, by omega, rfl, rfl, HM2.out⟩
      case round =>
        obtain ⟨k, off, N, cap, hk, rfl, rfl, hm⟩ := hrel
        have HM3 := Lib.hid hm
        clear hm HM2
        by_cases hlk : k < 16
        · have hlk' : (k : Int) < 16 := by omega
          go_wp2
          go_loopw [3, 35] (fun t3 t35 wr => ∃ s off N cap : Nat, s ≤ 64 ∧ t35 = .int .i64 s ∧ t3 = .slice (some ⟨gA, off, none⟩) N cap ∧ Mk2 w wr gA off N cap (k * 64 + s)) (fun _ t35 _ => 64 - (intOf t35).toNat)
          case atStart => exact ⟨0, off, N, cap, by omega, rfl, rfl, HM3.out⟩
          case round =>
            obtain ⟨s, off, N, cap, hs, rfl, rfl, hm⟩ := hrel
            have HM4 := Lib.hid hm
            by_cases hls : s < 64
            · have hls' : (s : Int) < 64 := by omega
              obtain ⟨m, hL⟩ : ∃ m, (listAt (k * 64 + s)).length = m := ⟨_, rfl⟩
              have c0 := hm.cell (k * 64 + s) (by omega)
              obtain ⟨⟨u0, c1⟩, f1⟩ := hm.tcell (k * 64 + s) (by omega)
              have hmN := hm.more (by omega)
              have hmC := hm.cap0
              have hmM := hm.cap1
              rw [hL] at c0 hmN
              have hr1 := run_cut gA off N cap m (by omega)
              have hr2 := run_rest gA off N cap m (by omega)
              have HM5 := Lib.hid (hm.drew.next (by omega) hL)
              unfold maxLen at hmM
              clear hL hm
              go_wp2
              refine wp_region_held_drew (S := fun _ => True) (by kernel_rfl) trivial (fun hHeld => ?_)
              refine rg_take (i := 0) (v := (.pointer (some ⟨w.heap.size, 0, none⟩))) (some 43) rfl rfl (by kernel_rfl) (by kernel_rfl) (by kernel_rfl) (fun _ _ _ h => h) (Or.inl ⟨by rfl, fun _ _ => by go_simp⟩) hHeld ?_
              simp only [Act.put, List.setIfInBounds_toArray, List.set_cons_zero, List.set_cons_succ]
              refine rg_take (i := 1) (v := (.int .i64 (k : Int))) (some 44) rfl rfl (by kernel_rfl) (by kernel_rfl) (by kernel_rfl) (fun _ _ _ h => h) (Or.inl ⟨by rfl, fun _ _ => by go_simp⟩) hHeld ?_
              simp only [Act.put, List.setIfInBounds_toArray, List.set_cons_zero, List.set_cons_succ]
              refine rg_take (i := 2) (v := (.int .i64 (s : Int))) (some 45) rfl rfl (by kernel_rfl) (by kernel_rfl) (by kernel_rfl) (fun _ _ _ h => h) (Or.inl ⟨by rfl, fun _ _ => by go_simp⟩) hHeld ?_
              simp only [Act.put, List.setIfInBounds_toArray, List.set_cons_zero, List.set_cons_succ]
              refine rg_take (i := 3) (v := (.slice (some ⟨gA, off, none⟩) N cap)) (some 46) rfl rfl (by kernel_rfl) (by kernel_rfl) (by kernel_rfl) (fun _ _ _ h => h) (Or.inl ⟨by rfl, fun _ _ => by go_simp⟩) hHeld ?_
              simp only [Act.put, List.setIfInBounds_toArray, List.set_cons_zero, List.set_cons_succ]
              refine rg_take (i := 4) (v := (.int .i64 (m : Int))) (some 47) rfl rfl (by kernel_rfl) (by kernel_rfl) (by kernel_rfl) (fun _ _ _ h => h) (Or.inl ⟨by rfl, fun _ _ => by go_simp⟩) hHeld ?_
              simp only [Act.put, List.setIfInBounds_toArray, List.set_cons_zero, List.set_cons_succ]
              refine rg_take (i := 5) (v := (.int .i64 (m : Int))) (some 48) rfl rfl (by kernel_rfl) (by kernel_rfl) (by kernel_rfl) (fun _ _ _ h => h) (Or.inl ⟨by rfl, fun _ _ => by go_simp⟩) hHeld ?_
              simp only [Act.put, List.setIfInBounds_toArray, List.set_cons_zero, List.set_cons_succ]
              refine rg_take (i := 6) (v := (.slice (some ⟨gA, off, none⟩) m m)) (some 49) rfl rfl (by kernel_rfl) (by kernel_rfl) (by kernel_rfl) (fun _ _ _ h => h) (Or.inl ⟨by rfl, fun _ _ => by go_simp⟩) hHeld ?_
              simp only [Act.put, List.setIfInBounds_toArray, List.set_cons_zero, List.set_cons_succ]
              refine rg_take (i := 7) (v := (.slice (some ⟨gA, off, none⟩) N cap)) (some 50) rfl rfl (by kernel_rfl) (by kernel_rfl) (by kernel_rfl) (fun _ _ _ h => h) (Or.inl ⟨by rfl, fun _ _ => by go_simp⟩) hHeld ?_
              simp only [Act.put, List.setIfInBounds_toArray, List.set_cons_zero, List.set_cons_succ]
              refine rg_take (i := 8) (v := (.int .i64 (m : Int))) (some 51) rfl rfl (by kernel_rfl) (by kernel_rfl) (by kernel_rfl) (fun _ _ _ h => h) (Or.inl ⟨by rfl, fun _ _ => by go_simp⟩) hHeld ?_
              simp only [Act.put, List.setIfInBounds_toArray, List.set_cons_zero, List.set_cons_succ]
              refine rg_take (i := 9) (v := (.slice (some ⟨gA, offOn off m cap, none⟩) (N - m) (cap - m))) (some 52) rfl rfl (by kernel_rfl) (by kernel_rfl) (by kernel_rfl) (fun _ _ _ h => h) (Or.inl ⟨by rfl, fun _ _ => by go_simp⟩) hHeld ?_
              simp only [Act.put, List.setIfInBounds_toArray, List.set_cons_zero, List.set_cons_succ]
              refine rg_take (i := 10) (v := (.pointer (some ⟨w.heap.size, 0, none⟩))) (some 53) rfl rfl (by kernel_rfl) (by kernel_rfl) (by kernel_rfl) (fun _ _ _ h => h) (Or.inl ⟨by rfl, fun _ _ => by go_simp⟩) hHeld ?_
              simp only [Act.put, List.setIfInBounds_toArray, List.set_cons_zero, List.set_cons_succ]
              refine rg_take (i := 11) (v := (.pointer (some ⟨w.heap.size, 0, none⟩))) (some 54) rfl rfl (by kernel_rfl) (by kernel_rfl) (by kernel_rfl) (fun _ _ _ h => h) (Or.inl ⟨by rfl, fun _ _ => by go_simp⟩) hHeld ?_
              simp only [Act.put, List.setIfInBounds_toArray, List.set_cons_zero, List.set_cons_succ]
              refine rg_take (i := 12) (v := (.pointer (some ⟨w.heap.size, k * 64, none⟩))) (some 55) rfl rfl (by kernel_rfl) (by kernel_rfl) (by kernel_rfl) (fun _ _ _ h => h) (Or.inl ⟨by rfl, fun _ _ => by go_simp⟩) hHeld ?_
              simp only [Act.put, List.setIfInBounds_toArray, List.set_cons_zero, List.set_cons_succ]
              refine rg_take (i := 13) (v := (.pointer (some ⟨w.heap.size, k * 64 + s, none⟩))) (some 56) rfl rfl (by kernel_rfl) (by kernel_rfl) (by kernel_rfl) (fun _ _ _ h => h) (Or.inl ⟨by rfl, fun _ _ => by go_simp⟩) hHeld ?_
              simp only [Act.put, List.setIfInBounds_toArray, List.set_cons_zero, List.set_cons_succ]
              refine wpAnyH_ready (rs := [14]) (by kernel_rfl) (by simp) ?_
              refine AllReadyH.cons rfl (fun K hK => ?_) AllReadyH.nil
              go_simp
              refine hK.out _ _ trivial (fun _ => ?_)
              clear hK K
              refine rg_take (i := 15) (v := (.slice (some ⟨gA, offOn off m cap, none⟩) (N - m) (cap - m))) (some 3) rfl rfl (by kernel_rfl) (by kernel_rfl) (by kernel_rfl) (fun _ _ _ h => h) (Or.inl ⟨by rfl, fun _ _ => by go_simp⟩) hHeld ?_
              simp only [Act.put, List.setIfInBounds_toArray, List.set_cons_zero, List.set_cons_succ]
              refine wpAnyH_done (by kernel_rfl) ?_ _
              go_wp2
              go_roundw
              case rel => exact ⟨s + 1, offOn off m cap, N - m, cap - m, by omega, by go_num, rfl, HM5.out⟩
              case measure => simp [intOf]; omega
            · have hls' : ¬ (s : Int) < 64 := by omega
              have HM5 := Lib.hid (show Mk2 w _ gA off N cap ((k + 1) * 64) by rw [show (k + 1) * 64 = k * 64 + s by omega]; exact HM4.out)
              clear hm
              go_wp2
              go_roundw
              case rel => exact ⟨k + 1, off, N, cap, by omega, by go_num, rfl, HM5.out⟩
              case measure => simp [intOf]; omega
        · have hlk' : ¬ (k : Int) < 16 := by omega
          have HD := Lib.hid (show Tab wr w.heap.size from Mk2.done (gA := gA) (off := off) (N := N) (cap := cap) (by have := HM3.out; rwa [show k * 64 = 1024 by omega] at this))
          have HK := Lib.hid HM3.out.kept
          go_wp2
          go_ret
          exact ⟨rfl, HD.out, HK.out⟩
end Go.Proofs.YtkliefojegjhhaaDoor
