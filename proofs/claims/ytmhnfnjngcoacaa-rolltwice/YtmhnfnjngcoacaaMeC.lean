/- Contracts of men.Of and of the document's Of: which man a text is. -/
import Derived.Test.YtmhnfnjngcoacaaMeB
import Derived.Lib.DecodeN
namespace Go.Proofs.Ytmhnfnjngcoacaa
open Go.RowKit
set_option linter.unusedVariables false

theorem seek_yes (all : ByteArray) (k : Nat) (r : Nat → Nat) (T : Twelve all k r) (n : Nat) (hn : n < 12) (w : World) :
    Calls Try.prog 46 #[.string all, .int .i32 (r n : Nat)] w fun e w' => e = .returned (.int .i64 (inOrd n)) ∧ Grown w w' := by
  have HT := Lib.hid T
  clear T
  go_enter Try.func46, Try.ntmps46
  go_wp2
  go_loopw [5] (fun t5 w' => ∃ j : Nat, j ≤ n ∧ t5 = .int .i64 j ∧ w' = w.iter all (k * j)) (fun t5 _ => 12 - (intOf t5).toNat)
  case atStart => exact ⟨0, by omega, rfl, rfl⟩
  case round =>
    obtain ⟨j, hj, rfl, rfl⟩ := hrel
    have hnx := twelve_next HT.out w j (by omega)
    by_cases he : j = n
    · subst he
      go_wp2_with fail
      refine (inOrder_is j _ (by omega)).mono ?_
      rintro e w' ⟨rfl, rfl⟩
      go_wp2
      go_ret
      exact ⟨rfl, grown_iter _ _ _⟩
    · have b1 : (((r j : Nat) : Int) == ((r n : Nat) : Int)) = false := beq_eq_false_iff_ne.2 (by have := HT.out.2.2.2.1 j n (by omega) (by omega) he; omega)
      have hlt : j < n := by omega
      clear he
      go_wp2
      go_roundw
      case rel => exact ⟨j + 1, by omega, by go_num, rfl⟩
      case measure => simp [intOf]; omega
theorem seek_no (all : ByteArray) (k : Nat) (r : Nat → Nat) (T : Twelve all k r) (q : Nat) (w : World) (h : ∀ n, n < 12 → r n ≠ q) :
    Calls Try.prog 46 #[.string all, .int .i32 (q : Nat)] w fun e w' => e = .returned (.int .i64 0) ∧ Grown w w' := by
  have HT := Lib.hid T
  have H := Lib.hid h
  clear T h
  go_enter Try.func46, Try.ntmps46
  go_wp2
  go_loopw [5] (fun t5 w' => ∃ j : Nat, j ≤ 12 ∧ t5 = .int .i64 j ∧ w' = w.iter all (k * j)) (fun t5 _ => 12 - (intOf t5).toNat)
  case atStart => exact ⟨0, by omega, rfl, rfl⟩
  case round =>
    obtain ⟨j, hj, rfl, rfl⟩ := hrel
    by_cases he : j = 12
    · subst he
      have hnx := twelve_end HT.out w
      go_wp2
      go_ret
      exact ⟨rfl, grown_iter _ _ _⟩
    · have hnx := twelve_next HT.out w j (by omega)
      have b1 : (((r j : Nat) : Int) == ((q : Nat) : Int)) = false := beq_eq_false_iff_ne.2 (by have := H.out j (by omega); omega)
      have hlt : j < 12 := by omega
      clear he
      go_wp2
      go_roundw
      case rel => exact ⟨j + 1, by omega, by go_num, rfl⟩
      case measure => simp [intOf]; omega

/-- The man whose letter or sign a rune is; 0: none's. -/
def runeMan (q : Nat) : Int := match (List.range 12).find? (fun n => runeL n == q || runeS n == q) with | some n => inOrd n | none => 0
theorem runeMan_L (n : Nat) (h : n < 12) : runeMan (runeL n) = inOrd n := by
  have : ∀ n : Fin 12, runeMan (runeL n.val) = inOrd n.val := by decide +kernel
  exact this ⟨n, h⟩
theorem runeMan_S (n : Nat) (h : n < 12) : runeMan (runeS n) = inOrd n := by
  have : ∀ n : Fin 12, runeMan (runeS n.val) = inOrd n.val := by decide +kernel
  exact this ⟨n, h⟩
theorem runeMan_no (q : Nat) (h : ∀ n, n < 12 → runeL n ≠ q ∧ runeS n ≠ q) : runeMan q = 0 := by
  have e : (List.range 12).find? (fun n => runeL n == q || runeS n == q) = none := by
    rw [List.find?_eq_none]
    intro x hx
    have := h x (List.mem_range.1 hx)
    simp [this.1, this.2]
  unfold runeMan
  rw [e]
/-- The man that a text is; 0: none. -/
def ofT (t : ByteArray) : Int := if t.size = 0 then 0 else if (Utf8.decode t 0).2 < t.size then 0 else runeMan (Utf8.decode t 0).1
theorem ofT_letter (n : Nat) (h : n < 12) : ofT (lettN n) = inOrd n := by
  have : ∀ n : Fin 12, ofT (lettN n.val) = inOrd n.val := by decide +kernel
  exact this ⟨n, h⟩
theorem ofT_sign (n : Nat) (h : n < 12) : ofT (signN n) = inOrd n := by
  have : ∀ n : Fin 12, ofT (signN n.val) = inOrd n.val := by decide +kernel
  exact this ⟨n, h⟩
theorem ofT_empty : ofT ⟨#[]⟩ = 0 := rfl
theorem runeL_lt (n : Nat) (h : n < 12) : runeL n < 128 := by
  have : ∀ n : Fin 12, runeL n.val < 128 := by decide +kernel
  exact this ⟨n, h⟩
theorem get_eq (s : ByteArray) (i : Nat) (h : i < s.size) : s.get! i = s[i]'h := by
  have := get_at s i h
  simpa using this
theorem one_byte (s : ByteArray) (h : s.size = 1) : s = ⟨#[s.get! 0]⟩ := by
  obtain ⟨⟨l⟩⟩ := s
  match l, h with
  | [a], _ => rfl
theorem three_bytes (s : ByteArray) (h : s.size = 3) : s = ⟨#[s.get! 0, s.get! 1, s.get! 2]⟩ := by
  obtain ⟨⟨l⟩⟩ := s
  match l, h with
  | [a, b, c], _ => rfl
theorem decodeN_low {n b0 b1 b2 b3 r k : Nat} (h : Lib.decodeN n b0 b1 b2 b3 = (r, k)) (hr : r < 128) : b0 = r ∧ k = 1 := by
  unfold Lib.decodeN at h
  repeat' split at h
  all_goals simp only [Prod.mk.injEq] at h
  all_goals omega
theorem decodeN_sign {n b0 b1 b2 b3 r k : Nat} (h : Lib.decodeN n b0 b1 b2 b3 = (r, k)) (hr : 9812 ≤ r) (hr' : r < 9824) (c0 : b0 < 256) (c1 : b1 < 256) (c2 : b2 < 256) : b0 = 226 ∧ b1 = 153 ∧ b2 = 148 + (r - 9812) ∧ k = 3 ∧ 2 < n := by
  unfold Lib.decodeN at h
  repeat' split at h
  all_goals simp only [Prod.mk.injEq] at h
  all_goals omega
theorem ofT_inv (t : ByteArray) (h : ofT t ≠ 0) : ∃ n, n < 12 ∧ (t = lettN n ∨ t = signN n) := by
  unfold ofT at h
  split at h
  · exact absurd rfl h
  · split at h
    · exact absurd rfl h
    · rename_i h0 h1
      by_cases hx : ∃ n, n < 12 ∧ (runeL n = (Utf8.decode t 0).1 ∨ runeS n = (Utf8.decode t 0).1)
      · obtain ⟨n, hn, hr⟩ := hx
        refine ⟨n, hn, ?_⟩
        have hd := Lib.decode_at t 0
        have hd' : Lib.decodeN (t.size - 0) (t.get! 0).toNat (t.get! (0 + 1)).toNat (t.get! (0 + 2)).toNat (t.get! (0 + 3)).toNat = ((Utf8.decode t 0).1, (Utf8.decode t 0).2) := hd.symm
        rcases hr with hr | hr
        · left
          have hl := runeL_lt n hn
          have hb := decodeN_low hd' (by omega)
          have hs : t.size = 1 := by omega
          rw [one_byte t hs, lettN]
          congr 3
          apply UInt8.toNat.inj
          rw [hb.1, ← hr]
          simp; omega
        · right
          unfold runeS at hr
          have hb := decodeN_sign hd' (by omega) (by omega) (UInt8.toNat_lt _) (UInt8.toNat_lt _) (UInt8.toNat_lt _)
          have hs : t.size = 3 := by omega
          rw [three_bytes t hs, signN]
          congr 3
          · exact UInt8.toNat.inj hb.1
          · congr 1
            · exact UInt8.toNat.inj hb.2.1
            · congr 1
              apply UInt8.toNat.inj
              rw [hb.2.2.1]
              simp; omega
      · exact absurd (runeMan_no _ (fun n hn => ⟨fun e => hx ⟨n, hn, .inl e⟩, fun e => hx ⟨n, hn, .inr e⟩⟩)) h

/-- What holds where men.Of has read up to 'pos'. -/
def OfSt (t : ByteArray) (pos : Nat) (m : Int) : Prop := (pos = 0 ∧ m = 0) ∨ (0 < t.size ∧ pos = (Utf8.decode t 0).2 ∧ m = runeMan (Utf8.decode t 0).1)
theorem OfSt_end {t : ByteArray} {pos : Nat} {m : Int} (h : OfSt t pos m) (hp : ¬ pos < t.size) : m = ofT t := by
  unfold ofT
  rcases h with ⟨h, h'⟩ | ⟨h, h', h''⟩
  · rw [if_pos (by omega)]; exact h'
  · rw [if_neg (by omega), if_neg (by omega)]; exact h''
theorem OfSt_more {t : ByteArray} {pos : Nat} {m : Int} (h : OfSt t pos m) (hp : pos < t.size) (h0 : 0 < pos) : ofT t = 0 := by
  unfold ofT
  rcases h with ⟨h, h'⟩ | ⟨h, h', h''⟩
  · omega
  · rw [if_neg (by omega), if_pos (by omega)]
theorem of_is (t : ByteArray) (w : World) (hm : t.size ≤ 1000) :
    Calls Try.prog 42 #[.string t] w fun e w' => e = .returned (.tuple #[.int .i64 (ofT t), .bool (ofT t != 0)]) ∧ Grown w w' := by
  go_enter Try.func42, Try.ntmps42
  go_wp2
  go_loopw [4] (fun t4 w' => ∃ (pos : Nat) (m : Int), t4 = .int .i64 m ∧ Grown w w' ∧ w'.heap[w.heap.size]? = some (.stringIter t pos) ∧ OfSt t pos m) (fun _ w' => t.size - w'.iterPos w.heap.size)
  case atStart => exact ⟨0, 0, rfl, grown_iter _ _ _, World.iter_heap _ _ _, .inl ⟨rfl, rfl⟩⟩
  case round =>
    obtain ⟨pos, m, rfl, hg, hh, hst⟩ := hrel
    have HG := Lib.hid hg
    have HH := Lib.hid hh
    have HS := Lib.hid hst
    clear hg hh hst
    by_cases hp : pos < t.size
    · have hnx : ∀ ty, (Instr.next (.pointer (some ⟨w.heap.size, 0, none⟩)) true ty).run Try.prog _ = _ := fun ty => next_at _ w.heap.size t pos ty HH.out hp
      have hle := decode_le t pos
      have hwd := width_pos t pos hp
      have HG' := Lib.hid (grown_iterAt HG.out (Nat.le_refl _) HH.out (pos + (Utf8.decode t pos).2))
      have HH' := Lib.hid (iterAt_heap HH.out t (pos + (Utf8.decode t pos).2))
      by_cases h0 : 0 < pos
      · have hz := Lib.hid (OfSt_more HS.out hp h0)
        have h0' : (0 : Int) < pos := by omega
        go_wp2
        go_ret2
        exact ⟨by rw [hz.out]; rfl, HG'.out⟩
      · obtain rfl : pos = 0 := by omega
        clear h0
        simp only [Nat.zero_add] at HG' HH'
        generalize hq : (Utf8.decode t 0).1 = q at *
        have HQ := Lib.hid hq
        clear hq
        generalize hwid : (Utf8.decode t 0).2 = k at *
        have HK := Lib.hid hwid
        clear hwid
        by_cases hL : ∃ n, n < 12 ∧ runeL n = q
        · obtain ⟨n, hn, rfl⟩ := hL
          have b0 : (inOrd n == 0) = false := beq_eq_false_iff_ne.2 (inOrd_man n hn).1
          go_wp2_with fail
          refine (seek_yes letters 1 runeL twelve_letters n hn _).mono ?_
          rintro e w1 ⟨rfl, gw1⟩
          go_wp2
          go_roundw
          case rel => exact ⟨k, inOrd n, rfl, grown_trans HG'.out gw1, grown_heap_iter gw1 HH'.out, .inr ⟨hp, HK.out.symm, by rw [HQ.out, runeMan_L n hn]⟩⟩
          case measure => simp [World.iterPos, grown_heap_iter gw1 HH'.out, HH.out]; omega
        · by_cases hS : ∃ n, n < 12 ∧ runeS n = q
          · obtain ⟨n, hn, rfl⟩ := hS
            go_wp2_with fail
            refine (seek_no letters 1 runeL twelve_letters _ _ (fun a ha e => hL ⟨a, ha, e⟩)).mono ?_
            rintro e w1 ⟨rfl, gw1⟩
            go_wp2_with fail
            refine (seek_yes signs 3 runeS twelve_signs n hn _).mono ?_
            rintro e w2 ⟨rfl, gw2⟩
            go_wp2
            go_roundw
            case rel => exact ⟨k, inOrd n, rfl, grown_trans HG'.out (grown_trans gw1 gw2), grown_heap_iter gw2 (grown_heap_iter gw1 HH'.out), .inr ⟨hp, HK.out.symm, by rw [HQ.out, runeMan_S n hn]⟩⟩
            case measure => simp [World.iterPos, grown_heap_iter gw2 (grown_heap_iter gw1 HH'.out), HH.out]; omega
          · skip
            go_wp2_with fail
            refine (seek_no letters 1 runeL twelve_letters _ _ (fun a ha e => hL ⟨a, ha, e⟩)).mono ?_
            rintro e w1 ⟨rfl, gw1⟩
            go_wp2_with fail
            refine (seek_no signs 3 runeS twelve_signs _ _ (fun a ha e => hS ⟨a, ha, e⟩)).mono ?_
            rintro e w2 ⟨rfl, gw2⟩
            go_wp2
            go_roundw
            case rel => exact ⟨k, 0, rfl, grown_trans HG'.out (grown_trans gw1 gw2), grown_heap_iter gw2 (grown_heap_iter gw1 HH'.out), .inr ⟨hp, HK.out.symm, by rw [HQ.out, runeMan_no q (fun a ha => ⟨fun e => hL ⟨a, ha, e⟩, fun e => hS ⟨a, ha, e⟩⟩)]⟩⟩
            case measure => simp [World.iterPos, grown_heap_iter gw2 (grown_heap_iter gw1 HH'.out), HH.out]; omega
    · have hnx : ∀ ty, (Instr.next (.pointer (some ⟨w.heap.size, 0, none⟩)) true ty).run Try.prog _ = _ := fun ty => next_at_end _ w.heap.size t pos ty HH.out hp
      have he := OfSt_end HS.out hp
      subst he
      by_cases hz : ofT t = 0
      · have HZ := Lib.hid hz
        clear hz
        go_wp2_with fail
        refine (mright_no _ _ (by have := HZ.out; omega)).mono ?_
        rintro e w' ⟨rfl, rfl⟩
        go_wp2
        go_ret2
        exact ⟨by rw [HZ.out]; rfl, HG.out⟩
      · have HB := Lib.hid (show (ofT t != 0) = true by simp [hz])
        obtain ⟨n, hn, hx⟩ := ofT_inv t hz
        have hx' : ofT t = inOrd n := by rcases hx with rfl | rfl; exact ofT_letter n hn; exact ofT_sign n hn
        have HM := Lib.hid (show ofT t ≠ 0 ∧ -6 ≤ ofT t ∧ ofT t ≤ 6 by rw [hx']; exact inOrd_man n hn)
        clear hx hx' hz
        go_wp2_with fail
        refine (mright_yes _ _ HM.out.1 HM.out.2.1 HM.out.2.2).mono ?_
        rintro e w' ⟨rfl, rfl⟩
        go_wp2
        go_ret2
        exact ⟨by rw [HB.out]; rfl, HG.out⟩
theorem of_yes (t : ByteArray) (m : Int) (w : World) (hm : t.size ≤ 1000) (h : ofT t = m) (h0 : m ≠ 0) :
    Calls Try.prog 42 #[.string t] w fun e w' => e = .returned (.tuple #[.int .i64 m, .bool true]) ∧ Grown w w' := by
  have := of_is t w hm
  rw [h, bne_iff_ne.2 h0] at this
  exact this
theorem of_no (t : ByteArray) (w : World) (hm : t.size ≤ 1000) (h : ofT t = 0) :
    Calls Try.prog 42 #[.string t] w fun e w' => e = .returned (.tuple #[.int .i64 0, .bool false]) ∧ Grown w w' := by
  have := of_is t w hm
  rw [h] at this
  exact this

theorem rkind_ord (n : Nat) (hn : n < 12) (w : World) :
    Calls Try.prog 25 #[.int .i64 (inOrd n)] w fun e w' => e = .returned (.int .i64 (6 - (n : Int) % 6)) ∧ w = w' :=
  rkind_yes _ _ w (by unfold inOrd; split <;> omega) (by omega) (by omega)
theorem lett_inj {a b : Nat} (ha : a < 12) (hb : b < 12) (h : a ≠ b) : lettN a ≠ lettN b := by
  intro e
  have := congrArg ofT e
  rw [ofT_letter a ha, ofT_letter b hb] at this
  exact inOrd_inj ha hb h this
theorem sign_inj {a b : Nat} (ha : a < 12) (hb : b < 12) (h : a ≠ b) : signN a ≠ signN b := by
  intro e
  have := congrArg ofT e
  rw [ofT_sign a ha, ofT_sign b hb] at this
  exact inOrd_inj ha hb h this
theorem lett_sign (a b : Nat) : lettN a ≠ signN b := fun e => by
  have := congrArg ByteArray.size e
  simp [lettN, signN, ByteArray.size] at this
/-- One round of the document's search: a number that isn't the text's man. -/
theorem ord_of_round (m : Int) (h0 : m ≠ 0) (h1 : -6 ≤ m) (h2 : m ≤ 6) : ∃ n : Nat, n < 12 ∧ m = inOrd n := man_inOrd m h0 h1 h2
end Go.Proofs.Ytmhnfnjngcoacaa
