/- The document's Says: the walk. -/
import Derived.Test.YtkfjpecehighlaaFoF
namespace Go.Proofs.Ytkfjpecehighlaa
open Go.RowKit
set_option linter.unusedVariables false
set_option linter.unusedSimpArgs false

theorem one_extract (t : ByteArray) (i : Nat) (h : i < t.size) : t.extract i (i + 1) = ⟨#[t[i]'h]⟩ := by
  obtain ⟨⟨l⟩⟩ := t
  have h' : i < l.length := h
  apply ByteArray.ext
  rw [ByteArray.data_extract]
  simp
  rw [List.drop_eq_getElem_cons h']
  rfl
theorem stp_slash (s : St) (c : UInt8) (h : c.toNat = 47) : stp c s = if s.2.2 = 8 ∧ s.2.1 ≠ 7 then some (s.1, s.2.1 + 1, 0) else none := by
  unfold stp; rw [if_pos h]
theorem stp_digit (s : St) (c : UInt8) (many : Nat) (h : (c.toNat : Int) - 48 = many) (h0 : 1 ≤ many) (h1 : many ≤ 8) : stp c s = if s.2.2 + many ≤ 8 then some (s.1 ++ List.replicate many 0, s.2.1, s.2.2 + many) else none := by
  have e : c.toNat - 48 = many := by omega
  unfold stp; rw [if_neg (by omega), if_pos (by omega), e]
theorem stp_other (s : St) (c : UInt8) (h : c.toNat ≠ 47) (h' : c.toNat < 49 ∨ 56 < c.toNat) : stp c s = if manOf c = 0 then none else if s.2.2 < 8 then some (s.1 ++ [manOf c], s.2.1, s.2.2 + 1) else none := by
  unfold stp; rw [if_neg h, if_neg (by omega)]
theorem OwnsI.slice3 {w : World} {base : Nat} {v : Value} {l : List Int} (h : OwnsI w base v l) : ∃ a n cap, v = .slice a n cap := by
  obtain ⟨a, cap, e⟩ := h.slice
  exact ⟨a, _, cap, e⟩
theorem said_one {w : World} {base : Nat} {v : Value} {l : List Int} {a b : Int} {c : Bool} (h : OwnsI w base v l) : (sx v a b c).all (·.oneCell') = true := by
  obtain ⟨x, y, rfl⟩ := h.slice
  refine all_oneCell_toArray fun v hv => ?_
  simp at hv
  rcases hv with rfl | rfl | rfl | rfl <;> rfl
theorem sx0_one : sx0.all (·.oneCell') = true := said_one (w := default) (base := 0) (l := []) (World.ownsRow_nil _ _ _ _)
theorem KeptB.setRow (g : Nat) (w : World) (c : Array Value) : KeptB g w (w.setRow g c) :=
  ⟨rfl, rfl, by simp, fun k hk hn => setRow_other w g k c (by omega)⟩
set_option maxRecDepth 100000 in
set_option maxHeartbeats 1000000 in
theorem says_is (t : ByteArray) (hm : t.size ≤ 1000) (n : Nat) (hn : n ≤ t.size) (w : World) :
    Calls Try.prog 9 #[.string t, .int .i64 n] w (SaysPost (t.data.toList.take n) w) := by
  obtain ⟨i0, hi0, hz0, hz1, hz2⟩ := info_parts infoInt
  go_enter Try.func9, Try.ntmps9
  go_wp2
  go_loopw [6] (fun t6 wr => ∃ (i : Nat) (s : St) (v : Value), i ≤ n ∧ t6 = .int .i64 i ∧ says (t.data.toList.take i) = some s ∧ Sx w wr v s.1 s.2.1 s.2.2) (fun t6 _ => n - (intOf t6).toNat)
  case atStart => exact ⟨0, ([], 0, 0), _, by omega, rfl, rfl, Sx.start w⟩
  case round =>
    obtain ⟨i, ⟨S, rows, row⟩, v, hi, rfl, hsay, hS⟩ := hrel
    change Sx w wr v S rows row at hS
    have HS := Lib.hid hS
    have HY := Lib.hid hsay
    have hinv := says_inv hsay
    have HL := Lib.hid (show S.length = 8 * rows + row from hinv.len)
    have i2 : row ≤ 8 := hinv.row
    have i3 : rows ≤ 7 := hinv.rows
    have c0 := hS.c0
    have c1 := hS.c1
    have c2 := hS.c2
    have f0 := hS.f 0
    have f1 := hS.f 1
    have f2 := hS.f 2
    have HR := Lib.hid hS.res
    have HK := Lib.hid hS.kept
    clear hS hsay hinv
    by_cases hl : i < n
    · have hl' : (i : Int) < (n : Int) := by omega
      have hp : i < t.size := by omega
      obtain ⟨c, hcc⟩ : ∃ c, t[i]'hp = c := ⟨_, rfl⟩
      have he := one_extract t i hp
      rw [hcc] at he
      have HN : Hid (says (t.data.toList.take (i + 1)) = stp c (S, rows, row)) := by
        have := says_take t.data.toList i (by rw [len_size]; exact hp)
        rw [HY.out, at_size t i hp, hcc] at this
        exact this
      by_cases h47 : c.toNat = 47
      · have b0 : ((c.toNat : Int) == 47) = true := by rw [beq_iff_eq]; omega
        have HT := HN.out.trans (stp_slash _ c h47)
        clear h47
        by_cases h8 : row = 8
        · subst h8
          by_cases h7 : rows = 7
          · subst h7
            have HZ := Lib.hid (says_le (b := n) hl (HT.trans rfl))
            clear HT
            go_wp2_with (refine wpList_store_row rfl 37 _ _ rfl w.heap.size sx0 rfl rfl 37 _ HR.out (by rw [size_said]; rfl) rfl sx0_one ?_)
            refine bodyPost_ret (v := .agg sx0) ?_ rfl ⟨HK.out.setRow (by omega) _, .inl ⟨HZ.out, rfl⟩⟩
            exact (results_said (p := 4) rfl _ _ w.heap.size _ _ _ _ rfl (setRow_heap _ _ _ _ _ _ HR.out)).trans rfl
          · have b7 : ((rows : Int) == 7) = false := beq_eq_false_iff_ne.2 (by omega)
            rw [if_pos ⟨rfl, h7⟩] at HT
            have HW := Lib.hid HT
            clear HT h7
            have HS2 := Lib.hid ((HS.out.set1 ((rows : Int) + 1)).set2 0)
            go_wp2
            go_roundw
            case rel => exact ⟨i + 1, (S, rows + 1, 0), v, by omega, by go_num, HW.out, HS2.out⟩
            case measure => simp [intOf]; omega
        · have b8 : ((row : Int) == 8) = false := beq_eq_false_iff_ne.2 (by omega)
          rw [if_neg (fun h => h8 h.1)] at HT
          have HZ := Lib.hid (says_le (b := n) hl HT)
          clear HT h8
          go_wp2_with (refine wpList_store_row rfl 37 _ _ rfl w.heap.size sx0 rfl rfl 37 _ HR.out (by rw [size_said]; rfl) rfl sx0_one ?_)
          refine bodyPost_ret (v := .agg sx0) ?_ rfl ⟨HK.out.setRow (by omega) _, .inl ⟨HZ.out, rfl⟩⟩
          exact (results_said (p := 4) rfl _ _ w.heap.size _ _ _ _ rfl (setRow_heap _ _ _ _ _ _ HR.out)).trans rfl
      · have b0 : ((c.toNat : Int) == 47) = false := beq_eq_false_iff_ne.2 (by omega)
        by_cases hd : 49 ≤ c.toNat ∧ c.toNat ≤ 56
        · obtain ⟨many, hmd⟩ : ∃ many : Nat, (c.toNat : Int) - 48 = many := ⟨c.toNat - 48, by omega⟩
          have hm1 : 1 ≤ many := by omega
          have hm8 : many ≤ 8 := by omega
          have HT := HN.out.trans (stp_digit _ c many hmd hm1 hm8)
          have b1 : (49 : Int) ≤ (c.toNat : Int) := by omega
          have b2 : (c.toNat : Int) ≤ 56 := by omega
          clear hd h47
          have HS2 := Lib.hid (HS.out.set2 ((row : Int) + many))
          by_cases h8 : row + many ≤ 8
          · rw [if_pos h8] at HT
            have HW := Lib.hid HT
            have b3 : ¬ (8 : Int) < (row : Int) + many := by omega
            clear HT h8
            go_wp2
            generalize wr.setCell ⟨w.heap.size + 1, 2, none⟩ (.int .i64 ((row : Int) + (many : Int))) = wq at *
            go_loopw [10] (fun t10 w2 => ∃ (k : Nat) (u : Value), k ≤ many ∧ t10 = .int .i64 k ∧ Sx w w2 u (S ++ List.replicate k (0 : Int)) rows ((row : Int) + (many : Int))) (fun t10 _ => many - (intOf t10).toNat)
            case atStart => exact ⟨0, v, by omega, rfl, by simpa using HS2.out⟩
            case round =>
              obtain ⟨k, u, hk, rfl, hX⟩ := hrel
              have HX := Lib.hid hX
              have d0 := hX.c0
              have e0 := hX.f 0
              clear hX
              by_cases hkm : k < many
              · have hkm' : (k : Int) < (many : Int) := by omega
                have hSl := Lib.hid (show (S ++ List.replicate k (0 : Int)).length = S.length + k by simp)
                go_wp2_with (at_builtin; refine wpList_append_own _ rfl _ _ 35 rfl (w.heap.size + 1 + 1) 3 i0 (.int .i64 0) 1 8 Try.underlying35 hi0 hz0 hz1 hz2 rfl (by decide) _ _ _ rfl (World.ownsRow.alloc HX.out.own _) ⟨_, 0, none⟩ 1 1 [.int .i64 (0 : Int)] rfl rfl ?c1 ?c2 ?c3 ?c4 ?c5 ?_)
                case c1 =>
                  intro j x hj
                  match j, hj with
                  | 0, hj => simp at hj; subst hj; simp [Addr.add]
                case c2 => intro x hx; simp at hx; subst hx; rfl
                case c3 => unfold maxLen; have := hSl.out; have := HL.out; omega
                case c4 => have := hSl.out; have := HL.out; omega
                case c5 => have := lt_of_heap HX.out.x; simp; omega
                intro v' w1 hown' hgrow _
                have R := HX.out.app hown' (by rw [hSl.out]) hgrow
                obtain ⟨a', n', cap', ev⟩ := OwnsI.slice3 R.1.own
                subst ev
                have HX2 := Lib.hid R.1
                have d1 := R.2.1
                have e1 := R.2.2
                clear R hown' hgrow
                go_wp2
                go_roundw
                case rel => exact ⟨k + 1, .slice a' n' cap', by omega, by go_num, by have := HX2.out; rwa [List.append_assoc, ← List.replicate_succ'] at this⟩
                case measure => simp [intOf]; omega
              · have hkk : k = many := by omega
                have hkm' : ¬ (k : Int) < (many : Int) := by omega
                have HKK := Lib.hid hkk
                clear hkk hkm
                go_wp2
                go_roundw
                case rel => exact ⟨i + 1, _, u, by omega, by go_num, HW.out, by have := HX.out; rw [HKK.out] at this; exact this⟩
                case measure => simp [intOf]; omega
          · rw [if_neg h8] at HT
            have HZ := Lib.hid (says_le (b := n) hl HT)
            have b3 : (8 : Int) < (row : Int) + many := by omega
            have HR2 := Lib.hid HS2.out.res
            have HK2 := Lib.hid HS2.out.kept
            clear HT h8
            go_wp2_with (refine wpList_store_row rfl 37 _ _ rfl w.heap.size sx0 rfl rfl 37 _ HR2.out (by rw [size_said]; rfl) rfl sx0_one ?_)
            refine bodyPost_ret (v := .agg sx0) ?_ rfl ⟨HK2.out.setRow (by omega) _, .inl ⟨HZ.out, rfl⟩⟩
            exact (results_said (p := 4) rfl _ _ w.heap.size _ _ _ _ rfl (setRow_heap _ _ _ _ _ _ HR2.out)).trans rfl
        · have HT := HN.out.trans (stp_other _ c h47 (by omega))
          by_cases hz : manOf c = 0
          · rw [if_pos hz] at HT
            have HZ := Lib.hid (says_le (b := n) hl HT)
            have HO := Lib.hid (show ofT ⟨#[c]⟩ = 0 from hz)
            clear HT hz
            by_cases h49 : c.toNat < 49
            · have b1 : ¬ (49 : Int) ≤ (c.toNat : Int) := by omega
              clear hd h47 h49
              go_wp2_with fail
              refine (rof_no _ HO.out _).mono ?_
              rintro e wa ⟨rfl, ga⟩
              have HR2 := Lib.hid ((Kept.of_grown ga).heap HR.out)
              have HK2 := Lib.hid (HK.out.trans (Kept.of_grown ga))
              clear ga
              go_wp2_with (refine wpList_store_row rfl 37 _ _ rfl w.heap.size sx0 rfl rfl 37 _ HR2.out (by rw [size_said]; rfl) rfl sx0_one ?_)
              refine bodyPost_ret (v := .agg sx0) ?_ rfl ⟨HK2.out.setRow (by omega) _, .inl ⟨HZ.out, rfl⟩⟩
              exact (results_said (p := 4) rfl _ _ w.heap.size _ _ _ _ rfl (setRow_heap _ _ _ _ _ _ HR2.out)).trans rfl
            · have b1 : (49 : Int) ≤ (c.toNat : Int) := by omega
              have b2 : ¬ (c.toNat : Int) ≤ 56 := by omega
              clear hd h47 h49
              go_wp2_with fail
              refine (rof_no _ HO.out _).mono ?_
              rintro e wa ⟨rfl, ga⟩
              have HR2 := Lib.hid ((Kept.of_grown ga).heap HR.out)
              have HK2 := Lib.hid (HK.out.trans (Kept.of_grown ga))
              clear ga
              go_wp2_with (refine wpList_store_row rfl 37 _ _ rfl w.heap.size sx0 rfl rfl 37 _ HR2.out (by rw [size_said]; rfl) rfl sx0_one ?_)
              refine bodyPost_ret (v := .agg sx0) ?_ rfl ⟨HK2.out.setRow (by omega) _, .inl ⟨HZ.out, rfl⟩⟩
              exact (results_said (p := 4) rfl _ _ w.heap.size _ _ _ _ rfl (setRow_heap _ _ _ _ _ _ HR2.out)).trans rfl
          · rw [if_neg hz] at HT
            obtain ⟨j, hj, ej, em⟩ := manOf_man c hz
            have HO := Lib.hid ej
            rw [em] at HT
            have bm : (inOrd j == 0) = false := beq_eq_false_iff_ne.2 (inOrd_man j hj).1
            clear hz em ej
            by_cases h49 : c.toNat < 49
            · have b1 : ¬ (49 : Int) ≤ (c.toNat : Int) := by omega
              clear hd h47 h49
              go_wp2_with fail
              refine (rof_yes _ j hj (.inl HO.out) _).mono ?_
              rintro e wa ⟨rfl, ga⟩
              have HSa := Lib.hid (HS.out.on (Kept.of_grown ga))
              have HS2 := Lib.hid (HSa.out.set2 ((row : Int) + 1))
              have c0 := HSa.out.c0
              have c1 := HSa.out.c1
              have c2 := HSa.out.c2
              have f0 := HSa.out.f 0
              have f1 := HSa.out.f 1
              have f2 := HSa.out.f 2
              clear ga
              by_cases h8 : row < 8
              · rw [if_pos h8] at HT
                have HW := Lib.hid HT
                have b3 : ¬ (8 : Int) < (row : Int) + 1 := by omega
                clear HT h8
                go_wp2
                generalize wa.setCell ⟨w.heap.size + 1, 2, none⟩ (.int .i64 ((row : Int) + (1 : Int))) = wq at *
                go_loopw [10] (fun t10 w2 => ∃ (k : Nat) (u : Value), k ≤ 1 ∧ t10 = .int .i64 k ∧ Sx w w2 u (S ++ List.replicate k (inOrd j)) rows ((row : Int) + (1 : Int))) (fun t10 _ => 1 - (intOf t10).toNat)
                case atStart => exact ⟨0, v, by omega, rfl, by simpa using HS2.out⟩
                case round =>
                  obtain ⟨k, u, hk, rfl, hX⟩ := hrel
                  have HX := Lib.hid hX
                  have d0 := hX.c0
                  have e0 := hX.f 0
                  clear hX
                  by_cases hkm : k < 1
                  · have hkm' : (k : Int) < (1 : Int) := by omega
                    have hSl := Lib.hid (show (S ++ List.replicate k (inOrd j)).length = S.length + k by simp)
                    go_wp2_with (at_builtin; refine wpList_append_own _ rfl _ _ 35 rfl (w.heap.size + 1 + 1) 3 i0 (.int .i64 0) 1 8 Try.underlying35 hi0 hz0 hz1 hz2 rfl (by decide) _ _ _ rfl (World.ownsRow.alloc HX.out.own _) ⟨_, 0, none⟩ 1 1 [.int .i64 (inOrd j)] rfl rfl ?c1 ?c2 ?c3 ?c4 ?c5 ?_)
                    case c1 =>
                      intro j x hj
                      match j, hj with
                      | 0, hj => simp at hj; subst hj; simp [Addr.add]
                    case c2 => intro x hx; simp at hx; subst hx; rfl
                    case c3 => unfold maxLen; have := hSl.out; have := HL.out; omega
                    case c4 => have := hSl.out; have := HL.out; omega
                    case c5 => have := lt_of_heap HX.out.x; simp; omega
                    intro v' w1 hown' hgrow _
                    have R := HX.out.app hown' (by rw [hSl.out]) hgrow
                    obtain ⟨a', n', cap', ev⟩ := OwnsI.slice3 R.1.own
                    subst ev
                    have HX2 := Lib.hid R.1
                    have d1 := R.2.1
                    have e1 := R.2.2
                    clear R hown' hgrow
                    go_wp2
                    go_roundw
                    case rel => exact ⟨k + 1, .slice a' n' cap', by omega, by go_num, by have := HX2.out; rwa [List.append_assoc, ← List.replicate_succ'] at this⟩
                    case measure => simp [intOf]; omega
                  · have hkk : k = 1 := by omega
                    have hkm' : ¬ (k : Int) < (1 : Int) := by omega
                    have HKK := Lib.hid hkk
                    clear hkk hkm
                    go_wp2
                    go_roundw
                    case rel => exact ⟨i + 1, _, u, by omega, by go_num, HW.out, by have := HX.out; rw [HKK.out] at this; exact this⟩
                    case measure => simp [intOf]; omega
              · rw [if_neg h8] at HT
                have HZ := Lib.hid (says_le (b := n) hl HT)
                have b3 : (8 : Int) < (row : Int) + 1 := by omega
                have HR2 := Lib.hid HS2.out.res
                have HK2 := Lib.hid HS2.out.kept
                clear HT h8
                go_wp2_with (refine wpList_store_row rfl 37 _ _ rfl w.heap.size sx0 rfl rfl 37 _ HR2.out (by rw [size_said]; rfl) rfl sx0_one ?_)
                refine bodyPost_ret (v := .agg sx0) ?_ rfl ⟨HK2.out.setRow (by omega) _, .inl ⟨HZ.out, rfl⟩⟩
                exact (results_said (p := 4) rfl _ _ w.heap.size _ _ _ _ rfl (setRow_heap _ _ _ _ _ _ HR2.out)).trans rfl
            · have b1 : (49 : Int) ≤ (c.toNat : Int) := by omega
              have b2 : ¬ (c.toNat : Int) ≤ 56 := by omega
              clear hd h47 h49
              go_wp2_with fail
              refine (rof_yes _ j hj (.inl HO.out) _).mono ?_
              rintro e wa ⟨rfl, ga⟩
              have HSa := Lib.hid (HS.out.on (Kept.of_grown ga))
              have HS2 := Lib.hid (HSa.out.set2 ((row : Int) + 1))
              have c0 := HSa.out.c0
              have c1 := HSa.out.c1
              have c2 := HSa.out.c2
              have f0 := HSa.out.f 0
              have f1 := HSa.out.f 1
              have f2 := HSa.out.f 2
              clear ga
              by_cases h8 : row < 8
              · rw [if_pos h8] at HT
                have HW := Lib.hid HT
                have b3 : ¬ (8 : Int) < (row : Int) + 1 := by omega
                clear HT h8
                go_wp2
                generalize wa.setCell ⟨w.heap.size + 1, 2, none⟩ (.int .i64 ((row : Int) + (1 : Int))) = wq at *
                go_loopw [10] (fun t10 w2 => ∃ (k : Nat) (u : Value), k ≤ 1 ∧ t10 = .int .i64 k ∧ Sx w w2 u (S ++ List.replicate k (inOrd j)) rows ((row : Int) + (1 : Int))) (fun t10 _ => 1 - (intOf t10).toNat)
                case atStart => exact ⟨0, v, by omega, rfl, by simpa using HS2.out⟩
                case round =>
                  obtain ⟨k, u, hk, rfl, hX⟩ := hrel
                  have HX := Lib.hid hX
                  have d0 := hX.c0
                  have e0 := hX.f 0
                  clear hX
                  by_cases hkm : k < 1
                  · have hkm' : (k : Int) < (1 : Int) := by omega
                    have hSl := Lib.hid (show (S ++ List.replicate k (inOrd j)).length = S.length + k by simp)
                    go_wp2_with (at_builtin; refine wpList_append_own _ rfl _ _ 35 rfl (w.heap.size + 1 + 1) 3 i0 (.int .i64 0) 1 8 Try.underlying35 hi0 hz0 hz1 hz2 rfl (by decide) _ _ _ rfl (World.ownsRow.alloc HX.out.own _) ⟨_, 0, none⟩ 1 1 [.int .i64 (inOrd j)] rfl rfl ?c1 ?c2 ?c3 ?c4 ?c5 ?_)
                    case c1 =>
                      intro j x hj
                      match j, hj with
                      | 0, hj => simp at hj; subst hj; simp [Addr.add]
                    case c2 => intro x hx; simp at hx; subst hx; rfl
                    case c3 => unfold maxLen; have := hSl.out; have := HL.out; omega
                    case c4 => have := hSl.out; have := HL.out; omega
                    case c5 => have := lt_of_heap HX.out.x; simp; omega
                    intro v' w1 hown' hgrow _
                    have R := HX.out.app hown' (by rw [hSl.out]) hgrow
                    obtain ⟨a', n', cap', ev⟩ := OwnsI.slice3 R.1.own
                    subst ev
                    have HX2 := Lib.hid R.1
                    have d1 := R.2.1
                    have e1 := R.2.2
                    clear R hown' hgrow
                    go_wp2
                    go_roundw
                    case rel => exact ⟨k + 1, .slice a' n' cap', by omega, by go_num, by have := HX2.out; rwa [List.append_assoc, ← List.replicate_succ'] at this⟩
                    case measure => simp [intOf]; omega
                  · have hkk : k = 1 := by omega
                    have hkm' : ¬ (k : Int) < (1 : Int) := by omega
                    have HKK := Lib.hid hkk
                    clear hkk hkm
                    go_wp2
                    go_roundw
                    case rel => exact ⟨i + 1, _, u, by omega, by go_num, HW.out, by have := HX.out; rw [HKK.out] at this; exact this⟩
                    case measure => simp [intOf]; omega
              · rw [if_neg h8] at HT
                have HZ := Lib.hid (says_le (b := n) hl HT)
                have b3 : (8 : Int) < (row : Int) + 1 := by omega
                have HR2 := Lib.hid HS2.out.res
                have HK2 := Lib.hid HS2.out.kept
                clear HT h8
                go_wp2_with (refine wpList_store_row rfl 37 _ _ rfl w.heap.size sx0 rfl rfl 37 _ HR2.out (by rw [size_said]; rfl) rfl sx0_one ?_)
                refine bodyPost_ret (v := .agg sx0) ?_ rfl ⟨HK2.out.setRow (by omega) _, .inl ⟨HZ.out, rfl⟩⟩
                exact (results_said (p := 4) rfl _ _ w.heap.size _ _ _ _ rfl (setRow_heap _ _ _ _ _ _ HR2.out)).trans rfl
    · have e : i = n := by omega
      have hl' : ¬ (i : Int) < (n : Int) := by omega
      have HE := Lib.hid e
      clear e hl
      go_wp2_with (first | (refine wpList_load_mid rfl 37 _ rfl (w.heap.size + 1) 0 rfl (sx v rows row true).toList _ (fun j x hx => by rw [Nat.zero_add, HS.out.cell]; simpa using hx) Try.underlying37 rfl (by rw [size_said]; rfl) ?_) | (refine wpList_store_row rfl 37 _ _ rfl w.heap.size (sx v rows row true) rfl rfl 37 _ HR.out (by rw [size_said]; rfl) rfl (said_one HS.out.own) ?_))
      refine bodyPost_ret (v := .agg (sx v rows row true)) ?_ rfl ⟨HK.out.setRow (by omega) _, .inr ⟨(S, rows, row), v, by rw [← HE.out]; exact HY.out, rfl, ?_⟩⟩
      · exact (results_said (p := 4) rfl _ _ w.heap.size _ _ _ _ rfl (setRow_heap _ _ _ _ _ _ HR.out)).trans rfl
      · exact (OwnsI.keptB (g := w.heap.size) HS.out.own (KeptB.setRow _ _ _) (by omega)).low (by omega)
end Go.Proofs.Ytkfjpecehighlaa
