/- The document's Write of a roll. -/
import Derived.Test.YtmhnfnjngcoacaaRoH
namespace Go.Proofs.Ytmhnfnjngcoacaa
open Go.RowKit
set_option linter.unusedVariables false
set_option linter.unusedSimpArgs false

theorem rollrwrite_no (B : List Int) (hB : Brd B) (hR : rightB B = false) (w : World) :
    Calls Try.prog 7 #[.agg (cl B).toArray] w fun e w' => e = .returned (.tuple #[.string ⟨#[]⟩, .int .i64 5]) ∧ Kept w w' := by
  have hbl := heap_alloc_new w (.cells (cl B).toArray 24)
  have hz := Lib.hid (size_cl hB.1)
  have H := Lib.hid hB
  clear hB
  go_enter Try.func7, Try.ntmps7
  go_wp2_with (refine wpList_load_w (by rfl) _ rfl _ rfl _ (hbl) hz.out ?_)
  refine (rright_is B H.out _).mono ?_
  rw [hR]
  rintro e w1 ⟨rfl, g1⟩
  go_wp2
  go_ret2
  exact ⟨rfl, ((Kept.refl w).alloc _).trans g1⟩
theorem rlett_k (k j : Nat) (hkj : k + j = 6) (h1 : 1 ≤ k) (w : World) :
    Calls Try.prog 14 #[.int .i64 (k : Int)] w fun e w' => e = .returned (.string (lettN j)) ∧ w = w' := by
  have := rletter_yes j (by omega) w
  rwa [show inOrd j = (k : Int) by unfold inOrd; rw [if_pos (by omega)]; omega] at this
/-- The text where a side's men begin, and behind them. -/
def preT (B : List Int) (n0 : Nat) : List UInt8 := if n0 = 0 then whiteT else whiteT ++ menT B 0 6 ++ (32 :: blackT)
def endT (B : List Int) (s : Nat) : List UInt8 := if s = 0 then whiteT else if s = 1 then whiteT ++ menT B 0 6 else rollT B
theorem preT_len (B : List Int) (n0 : Nat) : (preT B n0).length ≤ 2000 := by
  have := menT_len B 0 6
  unfold preT
  split
  · simp [whiteT]
  · simp [whiteT, blackT]; omega
theorem endT_len (B : List Int) (s : Nat) : (endT B s).length ≤ 4000 := by
  have := menT_len B 0 6
  have := rollT_len B
  unfold endT
  split
  · simp [whiteT]
  · split
    · simp [whiteT]; omega
    · omega
theorem itemsT_take {l : List Nat} {p : Nat} (h : p < l.length) (n : Nat) : itemsT n (l.take (p + 1)) = itemsT n (l.take p) ++ (32 :: itemT n (l.getD p 0)) := by
  rw [List.take_succ_eq_append_getElem h, itemsT_snoc]
  simp [List.getD, h]
theorem quiet_name (s : Nat) (hs : s < 64) (w : World) (n : Nat) : Calls Try.prog 15 #[.int .i64 (s : Int)] (w.drewN n) fun e w'' => e = .returned (.string (nameOf (s : Nat))) ∧ ∃ m, w'' = w.drewN m :=
  Calls.quiet_of (rname_yes (s : Int) (w.drewN n) (by omega) (by omega))
set_option maxHeartbeats 2000000 in
theorem rollrwrite_yes (B : List Int) (hB : Brd B) (hR : rightB B = true) (w : World) :
    Calls Try.prog 7 #[.agg (cl B).toArray] w fun e w' => e = .returned (.tuple #[.string ⟨(rollT B).toArray⟩, .int .i64 0]) ∧ Kept w w' := by
  have hbl := Lib.hid (heap_alloc_new w (.cells (cl B).toArray 24))
  have hz := Lib.hid (size_cl hB.1)
  have H := Lib.hid hB
  have HR := Lib.hid hR
  obtain ⟨W, eW⟩ : ∃ W, W = w.alloc (.cells (cl B).toArray 24) := ⟨_, rfl⟩
  have hkW := Lib.hid (show Kept w W by rw [eW]; exact (Kept.refl w).alloc _)
  have hbW := Lib.hid (show W.heap[w.heap.size]? = some (.cells (cl B).toArray 24 (0, 0)) by rw [eW]; exact hbl.out)
  have HW := Lib.hid eW
  clear hB hR eW
  go_enter Try.func7, Try.ntmps7
  go_wp2_with (refine wpList_load_w (by rfl) _ rfl _ rfl _ (hbl.out) hz.out ?_)
  refine (rright_is B H.out _).mono ?_
  rw [HR.out]
  rintro e w1 ⟨rfl, g1⟩
  have HK1 := Lib.hid (show Kept W w1 by rw [HW.out]; exact g1)
  clear g1
  go_wp2
  go_loopw [4, 5] (fun t4 t5 wr => ∃ (s : Nat) (tx : ByteArray), s ≤ 2 ∧ t5 = .int .i64 s ∧ t4 = .string tx ∧ tx.data.toList = endT B s ∧ Kept W wr) (fun _ t5 _ => 2 - (intOf t5).toNat)
  case atStart => exact ⟨0, _, by omega, rfl, rfl, rfl, HK1.out⟩
  case round =>
    obtain ⟨s, tx, hs, rfl, rfl, ht, hK⟩ := hrel
    have HT := Lib.hid ht
    have HK := Lib.hid hK
    have HX : Hid (tx.size ≤ 4000) := by
      have := endT_len B s
      rw [← ht, len_size] at this
      exact this
    clear ht hK
    by_cases h0 : s = 0
    · have b1 : ((s : Int) == 1) = false := beq_eq_false_iff_ne.2 (by omega)
      have b2 : (s : Int) < 2 := by omega
      have HS0 := Lib.hid h0
      clear h0
      have hpre : Hid (tx.data.toList = preT B 0 ++ menT B 0 0) := Lib.hid (by rw [HT.out, HS0.out]; rfl)
      go_wp2
      go_loopw [4, 6] (fun t4 t6 wr => ∃ (k j : Nat) (ty : ByteArray), k + j = 6 ∧ t6 = .int .i64 k ∧ t4 = .string ty ∧ ty.data.toList = preT B 0 ++ menT B 0 j ∧ Kept W wr) (fun _ t6 _ => (intOf t6).toNat)
      case atStart => exact ⟨6, 0, _, by omega, rfl, rfl, hpre.out, HK.out⟩
      case round =>
        obtain ⟨k, j, ty, hkj, rfl, rfl, hy, hKy⟩ := hrel
        have HY := Lib.hid hy
        have HKy := Lib.hid hKy
        clear hy hKy
        by_cases hk : 1 ≤ k
        · have hk' : (1 : Int) ≤ (k : Int) := by omega
          have hm : inOrd (0 + j) = (k : Int) := by unfold inOrd; rw [if_pos (by omega)]; omega
          have hb := HKy.out.heap hbW.out
          have HWh := Lib.hid (rwhere_is B H.out (inOrd (0 + j)))
          have HKD := Lib.hid (show kindT B (0 + j) = itemsT (0 + j) (whereL B (inOrd (0 + j))) from rfl)
          have hll := show (whereL B (inOrd (0 + j))).length ≤ 64 from sel_le _ 64
          have hlt := Lib.hid (fun p (hp : p < (whereL B (inOrd (0 + j))).length) => where_lt hp)
          have HTK := Lib.hid (fun p (hp : p < (whereL B (inOrd (0 + j))).length) => itemsT_take hp (0 + j))
          have hlen := Lib.hid (menT_len B 0 j)
          have hlen2 := Lib.hid (preT_len B 0)
          generalize hl : whereL B (inOrd (0 + j)) = l at *
          rw [hm] at HWh
          have hitem : ∀ s : Nat, itemT (0 + j) s = (lettN j).data.toList ++ (nameOf (s : Nat)).data.toList := fun s => by
            unfold itemT; rw [show (0 + j) % 6 = j by omega]
          have HIT := Lib.hid hitem
          clear hitem hl
          go_wp2_with (refine wpList_load_w (by rfl) _ rfl w.heap.size rfl B hb hz.out ?_)
          refine (HWh.out _).mono ?_
          rintro e w2 ⟨v, rfl, hown, g2⟩
          obtain ⟨a, cap, rfl⟩ := hown.slice
          have HO2 := Lib.hid (hown.low (Nat.zero_le _))
          have HK2 := Lib.hid (HKy.out.trans g2)
          clear hown g2 hb hm
          go_wp2
          go_loopw [4, 9] (fun t4 t9 wr => ∃ (p : Nat) (tz : ByteArray), p ≤ l.length ∧ t9 = .int .i64 p ∧ t4 = .string tz ∧ tz.data.toList = preT B 0 ++ menT B 0 j ++ itemsT (0 + j) (l.take p) ∧ Owns wr 0 (.slice a l.length cap) l ∧ Kept W wr) (fun _ t9 _ => l.length - (intOf t9).toNat)
          case atStart => exact ⟨0, ty, by omega, rfl, rfl, by rw [HY.out]; simp [itemsT], HO2.out, HK2.out⟩
          case round =>
            obtain ⟨p, tz, hp, rfl, rfl, hz', hsq, hKz⟩ := hrel
            have HZ := Lib.hid hz'
            have HQ := Lib.hid hsq
            have HKz := Lib.hid hKz
            have hzs : tz.size ≤ 100000 := by
              rw [← len_size, hz', List.length_append, List.length_append, itemsT_len, List.length_take]
              have := hlen.out
              have := hlen2.out
              omega
            clear hz' hsq hKz
            by_cases hpl : p < l.length
            · have hpl' : (p : Int) < (l.length : Int) := by omega
              have hp0 : (0 : Int) ≤ (p : Int) := by omega
              obtain ⟨gs, rfl, hc⟩ := HQ.out.at_ p hpl
              have hs64 := hlt.out p hpl
              have HTM := Lib.hid (HTK.out p hpl)
              generalize l.getD p 0 = q at *
              have z1 : (lettN j).size = 1 := rfl
              have z2 : (nameOf (q : Nat)).size = 2 := rfl
              have z3 : ¬ 9223372036854775807 < 1 + (lettN j).size := by omega
              have z4 : ¬ 9223372036854775807 < 1 + (lettN j).size + (nameOf (q : Nat)).size := by omega
              have z5 : ¬ 9223372036854775807 < tz.size + (1 + (lettN j).size + (nameOf (q : Nat)).size) := by omega
              go_wp2
              go_quiet (first | (go_at_call 14; exact quiet_same (rlett_k k j hkj hk _)) | (go_at_call 15; exact quiet_name q hs64 _ _))
              go_wp2
              go_roundw
              case rel => exact ⟨p + 1, _, by omega, by go_num, rfl, by rw [HTM.out, ← List.append_assoc, ← HZ.out, HIT.out, bs_app, bs_app, bs_app]; rfl, HQ.out.kept ((Kept.refl _).drewN _), HKz.out.drewN _⟩
              case measure => simp [intOf]; omega
            · have ep : p = l.length := by omega
              subst ep
              go_wp2
              go_roundw
              case rel => exact ⟨k - 1, j + 1, tz, by omega, by go_num, rfl, by rw [HZ.out, List.take_length, ← HKD.out, menT_succ, List.append_assoc], HKz.out⟩
              case measure => simp [intOf]; omega
        · have ek : k = 0 := by omega
          subst ek
          have ej : j = 6 := by omega
          subst ej
          go_wp2
          go_roundw
          case rel => exact ⟨s + 1, ty, by omega, by go_num, rfl, by rw [HY.out, HS0.out]; rfl, HKy.out⟩
          case measure => simp [intOf]; omega
    · by_cases h1 : s = 1
      · have b1 : ((s : Int) == 1) = true := by rw [beq_iff_eq]; omega
        have b2 : (s : Int) < 2 := by omega
        have HS0 := Lib.hid h1
        clear h0 h1
        have hpre : Hid ((tx ++ ⟨#[32, 98, 108, 97, 99, 107]⟩).data.toList = preT B 6 ++ menT B 6 0) := Lib.hid (by rw [bs_app, HT.out, HS0.out]; simp [preT, menT, endT, blackT])
        have z0 : ¬ 9223372036854775807 < tx.size + 6 := by have := HX.out; omega
        go_wp2
        go_loopw [4, 6] (fun t4 t6 wr => ∃ (k j : Nat) (ty : ByteArray), k + j = 6 ∧ t6 = .int .i64 k ∧ t4 = .string ty ∧ ty.data.toList = preT B 6 ++ menT B 6 j ∧ Kept W wr) (fun _ t6 _ => (intOf t6).toNat)
        case atStart => exact ⟨6, 0, _, by omega, rfl, rfl, hpre.out, HK.out⟩
        case round =>
          obtain ⟨k, j, ty, hkj, rfl, rfl, hy, hKy⟩ := hrel
          have HY := Lib.hid hy
          have HKy := Lib.hid hKy
          clear hy hKy
          by_cases hk : 1 ≤ k
          · have hk' : (1 : Int) ≤ (k : Int) := by omega
            have hm : inOrd (6 + j) = -(k : Int) := by unfold inOrd; rw [if_neg (by omega)]; omega
            have hb := HKy.out.heap hbW.out
            have HWh := Lib.hid (rwhere_is B H.out (inOrd (6 + j)))
            have HKD := Lib.hid (show kindT B (6 + j) = itemsT (6 + j) (whereL B (inOrd (6 + j))) from rfl)
            have hll := show (whereL B (inOrd (6 + j))).length ≤ 64 from sel_le _ 64
            have hlt := Lib.hid (fun p (hp : p < (whereL B (inOrd (6 + j))).length) => where_lt hp)
            have HTK := Lib.hid (fun p (hp : p < (whereL B (inOrd (6 + j))).length) => itemsT_take hp (6 + j))
            have hlen := Lib.hid (menT_len B 6 j)
            have hlen2 := Lib.hid (preT_len B 6)
            generalize hl : whereL B (inOrd (6 + j)) = l at *
            rw [hm] at HWh
            have hitem : ∀ s : Nat, itemT (6 + j) s = (lettN j).data.toList ++ (nameOf (s : Nat)).data.toList := fun s => by
              unfold itemT; rw [show (6 + j) % 6 = j by omega]
            have HIT := Lib.hid hitem
            clear hitem hl
            go_wp2_with (refine wpList_load_w (by rfl) _ rfl w.heap.size rfl B hb hz.out ?_)
            refine (HWh.out _).mono ?_
            rintro e w2 ⟨v, rfl, hown, g2⟩
            obtain ⟨a, cap, rfl⟩ := hown.slice
            have HO2 := Lib.hid (hown.low (Nat.zero_le _))
            have HK2 := Lib.hid (HKy.out.trans g2)
            clear hown g2 hb hm
            go_wp2
            go_loopw [4, 9] (fun t4 t9 wr => ∃ (p : Nat) (tz : ByteArray), p ≤ l.length ∧ t9 = .int .i64 p ∧ t4 = .string tz ∧ tz.data.toList = preT B 6 ++ menT B 6 j ++ itemsT (6 + j) (l.take p) ∧ Owns wr 0 (.slice a l.length cap) l ∧ Kept W wr) (fun _ t9 _ => l.length - (intOf t9).toNat)
            case atStart => exact ⟨0, ty, by omega, rfl, rfl, by rw [HY.out]; simp [itemsT], HO2.out, HK2.out⟩
            case round =>
              obtain ⟨p, tz, hp, rfl, rfl, hz', hsq, hKz⟩ := hrel
              have HZ := Lib.hid hz'
              have HQ := Lib.hid hsq
              have HKz := Lib.hid hKz
              have hzs : tz.size ≤ 100000 := by
                rw [← len_size, hz', List.length_append, List.length_append, itemsT_len, List.length_take]
                have := hlen.out
                have := hlen2.out
                omega
              clear hz' hsq hKz
              by_cases hpl : p < l.length
              · have hpl' : (p : Int) < (l.length : Int) := by omega
                have hp0 : (0 : Int) ≤ (p : Int) := by omega
                obtain ⟨gs, rfl, hc⟩ := HQ.out.at_ p hpl
                have hs64 := hlt.out p hpl
                have HTM := Lib.hid (HTK.out p hpl)
                generalize l.getD p 0 = q at *
                have z1 : (lettN j).size = 1 := rfl
                have z2 : (nameOf (q : Nat)).size = 2 := rfl
                have z3 : ¬ 9223372036854775807 < 1 + (lettN j).size := by omega
                have z4 : ¬ 9223372036854775807 < 1 + (lettN j).size + (nameOf (q : Nat)).size := by omega
                have z5 : ¬ 9223372036854775807 < tz.size + (1 + (lettN j).size + (nameOf (q : Nat)).size) := by omega
                go_wp2
                go_quiet (first | (go_at_call 14; exact quiet_same (rlett_k k j hkj hk _)) | (go_at_call 15; exact quiet_name q hs64 _ _))
                go_wp2
                go_roundw
                case rel => exact ⟨p + 1, _, by omega, by go_num, rfl, by rw [HTM.out, ← List.append_assoc, ← HZ.out, HIT.out, bs_app, bs_app, bs_app]; rfl, HQ.out.kept ((Kept.refl _).drewN _), HKz.out.drewN _⟩
                case measure => simp [intOf]; omega
              · have ep : p = l.length := by omega
                subst ep
                go_wp2
                go_roundw
                case rel => exact ⟨k - 1, j + 1, tz, by omega, by go_num, rfl, by rw [HZ.out, List.take_length, ← HKD.out, menT_succ, List.append_assoc], HKz.out⟩
                case measure => simp [intOf]; omega
          · have ek : k = 0 := by omega
            subst ek
            have ej : j = 6 := by omega
            subst ej
            go_wp2
            go_roundw
            case rel => exact ⟨s + 1, ty, by omega, by go_num, rfl, by rw [HY.out, HS0.out]; rfl, HKy.out⟩
            case measure => simp [intOf]; omega
      · have e2 : s = 2 := by omega
        subst e2
        have HE := Lib.hid (bs_eq (show tx.data.toList = rollT B from HT.out))
        clear HT h0 h1
        go_wp2
        go_ret2
        exact ⟨by rw [HE.out]; rfl, hkW.out.trans HK.out⟩
end Go.Proofs.Ytmhnfnjngcoacaa
