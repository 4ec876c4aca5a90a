/- SqC · MeB · MvS: my texts, in their order. -/
import Derived.Test.YtgcippicdhaaeaaGreatDoorPkA
import Derived.Test.YtgcippicdhaaeaaGreatDoorPkE
import Derived.Test.YtgcippicdhaaeaaGreatDoorPkH
import Derived.Test.YtgcippicdhaaeaaGreatDoorPkL
import Derived.Deep.QuietTactic
import Derived.BigQuiet
import Derived.Laws.Cover4
import Derived.WalkSpells
import Derived.Laws.RangeAny
import Derived.Laws.Runes
import Derived.Laws.IdiomStrings
namespace Go.Proofs.YtgcippicdhaaeaaGreatDoor
open Go.RowKit
set_option linter.unusedVariables false

/-- The name of a square's number, as bytes: the file's letter, the rank's digit. -/
def nameOf (s : Int) : ByteArray := ⟨#[(97 + (s % 8).toNat).toUInt8, (49 + (s / 8).toNat).toUInt8]⟩
theorem runes_name (n : Nat) (h : n < 64) : runesBytes [97 + (n : Int) % 8, 49 + (n : Int) / 8] = nameOf n := by
  have : ∀ m : Fin 64, runesBytes [97 + ((m : Nat) : Int) % 8, 49 + ((m : Nat) : Int) / 8] = nameOf ((m : Nat) : Int) := by decide +kernel
  exact this ⟨n, h⟩
theorem conv_name (s : Int) (h0 : 0 ≤ s) (h1 : s < 64) (w : World) :
    (convert 92 9 (.slice (some ⟨w.heap.size, 0, none⟩) 2 2)).run Tryz.prog (w.alloc (.cells #[.int .i32 (97 + s % 8), .int .i32 (49 + s / 8)] 21)) = .ok (.string (nameOf s)) (w.alloc (.cells #[.int .i32 (97 + s % 8), .int .i32 (49 + s / 8)] 21)) := by
  obtain ⟨n, rfl⟩ := Int.eq_ofNat_of_zero_le h0
  rw [run_convert_runes _ 92 9 21 _ 2 2 [97 + (n : Int) % 8, 49 + (n : Int) / 8] (by simp) Tryz.underlying92 Tryz.underlying21 Tryz.underlying9 ?_]
  · rw [← runes_name n (by omega)]; rfl
  · intro j hj
    match j, hj with
    | 0, _ => simp [Addr.add, go_sem]
    | 1, _ => simp [Addr.add, go_sem]
theorem name_yes (s : Int) (w : World) (h0 : 0 ≤ s) (h1 : s < 64) :
    Calls Tryz.prog 43 #[.int .i64 s] w fun e w' => e = .returned (.string (nameOf s)) ∧ w' = w.alloc (.cells #[.int .i32 (97 + s % 8), .int .i32 (49 + s / 8)] 21) := by
  have hc := conv_name s h0 h1 w
  go_enter Tryz.func43, Tryz.ntmps43
  go_wp2_with (first | (go_at_call 41; refine (right_yes _ _ (by omega) (by omega)).mono ?_; rintro e w' ⟨rfl, rfl⟩) | (go_at_call 76; refine (file_yes _ _ (by omega) (by omega)).mono ?_; rintro e w' ⟨rfl, rfl⟩) | (go_at_call 70; refine (rank_yes _ _ (by omega) (by omega)).mono ?_; rintro e w' ⟨rfl, rfl⟩))
  go_ret
  exact ⟨rfl, rfl⟩
theorem name_grown (s : Int) (w : World) (h0 : 0 ≤ s) (h1 : s < 64) :
    Calls Tryz.prog 43 #[.int .i64 s] w fun e w' => e = .returned (.string (nameOf s)) ∧ Grown w w' :=
  (name_yes s w h0 h1).mono fun _ _ ⟨he, hw⟩ => ⟨he, by rw [hw]; exact (Grown.refl _).alloc _ _⟩
end Go.Proofs.YtgcippicdhaaeaaGreatDoor
namespace Go.Proofs.YtgcippicdhaaeaaGreatDoor
open Go.RowKit
set_option linter.unusedVariables false

theorem inOrd_inj {a b : Nat} (ha : a < 12) (hb : b < 12) (h : a ≠ b) : inOrd a ≠ inOrd b := by
  unfold inOrd
  split <;> split <;> omega
theorem inOrd_man (n : Nat) (h : n < 12) : inOrd n ≠ 0 ∧ -6 ≤ inOrd n ∧ inOrd n ≤ 6 := by
  unfold inOrd
  split <;> omega
def letters : ByteArray := ⟨#[75, 81, 82, 66, 78, 80, 107, 113, 114, 98, 110, 112]⟩
def signs : ByteArray := ⟨#[226, 153, 148, 226, 153, 149, 226, 153, 150, 226, 153, 151, 226, 153, 152, 226, 153, 153, 226, 153, 154, 226, 153, 155, 226, 153, 156, 226, 153, 157, 226, 153, 158, 226, 153, 159]⟩
def runeL (n : Nat) : Nat := [75, 81, 82, 66, 78, 80, 107, 113, 114, 98, 110, 112].getD n 0
/-- A text of twelve signs of k bytes each. -/
def Twelve (all : ByteArray) (k : Nat) (r : Nat → Nat) : Prop := all.size = 12 * k ∧ 1 ≤ k ∧ (∀ n, n < 12 → Utf8.decode all (k * n) = (r n, k)) ∧ (∀ a b, a < 12 → b < 12 → a ≠ b → r a ≠ r b) ∧ (∀ n, n < 12 → r n < 10000)
theorem twelve_letters : Twelve letters 1 runeL := by
  refine ⟨rfl, by omega, ?_, ?_, ?_⟩
  · have : ∀ n : Fin 12, Utf8.decode letters (1 * n.val) = (runeL n.val, 1) := by decide +kernel
    exact fun n h => this ⟨n, h⟩
  · have : ∀ a b : Fin 12, a.val ≠ b.val → runeL a.val ≠ runeL b.val := by decide +kernel
    exact fun a b ha hb => this ⟨a, ha⟩ ⟨b, hb⟩
  · have : ∀ n : Fin 12, runeL n.val < 10000 := by decide +kernel
    exact fun n h => this ⟨n, h⟩
/-- One step of a range over such a text. -/
theorem twelve_next {all : ByteArray} {k : Nat} {r : Nat → Nat} (h : Twelve all k r) (w : World) (j : Nat) (hj : j < 12) (ty : TypeId) :
    (Instr.next (.pointer (some ⟨w.heap.size, 0, none⟩)) true ty).run Tryz.prog (w.iter all (k * j)) = .ok (.tuple #[.bool true, .int .i64 (k * j : Nat), .int .i32 (r j : Nat)]) (w.iter all (k * (j + 1))) := by
  have hp : k * j < all.size := by rw [h.1, Nat.mul_comm]; exact Nat.mul_lt_mul_of_pos_right hj h.2.1
  rw [run_next_any w all (k * j) ty hp, h.2.2.1 j hj, Nat.mul_succ]
theorem twelve_end {all : ByteArray} {k : Nat} {r : Nat → Nat} (h : Twelve all k r) (w : World) (ty : TypeId) :
    (Instr.next (.pointer (some ⟨w.heap.size, 0, none⟩)) true ty).run Tryz.prog (w.iter all (k * 12)) = .ok (.tuple #[.bool false]) (w.iter all (k * 12)) :=
  run_next_end w all (k * 12) ty (by rw [h.1, Nat.mul_comm]; omega)

theorem pick_yes (all : ByteArray) (k : Nat) (r : Nat → Nat) (T : Twelve all k r) (n : Nat) (hn : n < 12) (w : World) :
    Calls Tryz.prog 105 #[.string all, .int .i64 (inOrd n)] w fun e w' => e = .returned (.string (Utf8.encode (r n : Nat))) ∧ Grown w w' := by
  have HT := Lib.hid T
  clear T
  go_enter Tryz.func105, Tryz.ntmps105
  go_wp2
  go_loopw [5] (fun t5 w' => ∃ j : Nat, j ≤ n ∧ t5 = .int .i64 j ∧ w' = w.iter all (k * j)) (fun t5 _ => 12 - (intOf t5).toNat)
  case atStart => exact ⟨0, by omega, rfl, rfl⟩
  case round =>
    obtain ⟨j, hj, rfl, rfl⟩ := hrel
    have hnx := twelve_next HT.out w j (by omega)
    by_cases he : j = n
    · subst he
      go_wp2_with fail
      refine (inOrder_is j _ (by omega)).mono ?_
      rintro e w' ⟨rfl, rfl⟩
      go_wp2
      go_ret
      exact ⟨rfl, grown_iter _ _ _⟩
    · have b1 : (inOrd j == inOrd n) = false := beq_eq_false_iff_ne.2 (inOrd_inj (by omega) (by omega) he)
      have hlt : j < n := by omega
      clear he
      go_wp2_with fail
      refine (inOrder_is j _ (by omega)).mono ?_
      rintro e w' ⟨rfl, rfl⟩
      go_wp2
      go_roundw
      case rel => exact ⟨j + 1, by omega, by go_num, rfl⟩
      case measure => simp [intOf]; omega
theorem pick_no (all : ByteArray) (k : Nat) (r : Nat → Nat) (T : Twelve all k r) (m : Int) (w : World) (h : m < -6 ∨ m = 0 ∨ 6 < m) :
    Calls Tryz.prog 105 #[.string all, .int .i64 m] w fun e w' => e = .returned (.string ⟨#[]⟩) ∧ Grown w w' := by
  have HT := Lib.hid T
  have H := Lib.hid h
  clear T h
  go_enter Tryz.func105, Tryz.ntmps105
  go_wp2
  go_loopw [5] (fun t5 w' => ∃ j : Nat, j ≤ 12 ∧ t5 = .int .i64 j ∧ w' = w.iter all (k * j)) (fun t5 _ => 12 - (intOf t5).toNat)
  case atStart => exact ⟨0, by omega, rfl, rfl⟩
  case round =>
    obtain ⟨j, hj, rfl, rfl⟩ := hrel
    by_cases he : j = 12
    · subst he
      have hnx := twelve_end HT.out w
      go_wp2
      go_ret
      exact ⟨rfl, grown_iter _ _ _⟩
    · have hnx := twelve_next HT.out w j (by omega)
      have b1 : (inOrd j == m) = false := beq_eq_false_iff_ne.2 (by have := inOrd_man j (by omega); have := H.out; omega)
      have hlt : j < 12 := by omega
      clear he
      go_wp2_with fail
      refine (inOrder_is j _ (by omega)).mono ?_
      rintro e w' ⟨rfl, rfl⟩
      go_wp2
      go_roundw
      case rel => exact ⟨j + 1, by omega, by go_num, rfl⟩
      case measure => simp [intOf]; omega
/-- The nth man's letter and sign, as bytes. -/
def lettN (n : Nat) : ByteArray := ⟨#[(runeL n).toUInt8]⟩
theorem enc_letter (n : Nat) (h : n < 12) : Utf8.encode (runeL n : Nat) = lettN n := by
  have : ∀ n : Fin 12, Utf8.encode (runeL n.val : Nat) = lettN n.val := by decide +kernel
  exact this ⟨n, h⟩
theorem letter_yes (n : Nat) (hn : n < 12) (w : World) :
    Calls Tryz.prog 79 #[.int .i64 (inOrd n)] w fun e w' => e = .returned (.string (lettN n)) ∧ Grown w w' := by
  go_enter Tryz.func79, Tryz.ntmps79
  go_wp2_with fail
  refine (pick_yes letters 1 runeL twelve_letters n hn _).mono ?_
  rw [enc_letter n hn]
  rintro e w1 ⟨rfl, g1⟩
  go_wp2
  go_ret
  exact ⟨rfl, g1⟩
theorem letter_no (m : Int) (w : World) (h : m < -6 ∨ m = 0 ∨ 6 < m) :
    Calls Tryz.prog 79 #[.int .i64 m] w fun e w' => e = .returned (.string ⟨#[]⟩) ∧ Grown w w' := by
  go_enter Tryz.func79, Tryz.ntmps79
  go_wp2_with fail
  refine (pick_no letters 1 runeL twelve_letters m _ h).mono ?_
  rintro e w1 ⟨rfl, gw1⟩
  go_wp2
  go_ret
  exact ⟨rfl, gw1⟩
end Go.Proofs.YtgcippicdhaaeaaGreatDoor
namespace Go.Proofs.YtgcippicdhaaeaaGreatDoor
open Go.RowKit
set_option linter.unusedVariables false
set_option linter.unusedSimpArgs false
set_option maxRecDepth 100000

/-- The small letter of a Promo. -/
def smB (n : Int) : ByteArray := if n = 0 then ⟨#[]⟩ else lettN (12 - n).toNat
theorem promo_five {n : Int} (h : promoB n = true) : n = 0 ∨ n = 2 ∨ n = 3 ∨ n = 4 ∨ n = 5 := by
  unfold promoB at h
  simp only [Bool.or_eq_true, Bool.and_eq_true, beq_iff_eq, decide_eq_true_eq] at h
  omega
theorem small_is (n : Int) (h : promoB n = true) (w : World) : Calls Tryz.prog 44 #[.int .i64 n] w fun e w' => e = .returned (.string (smB n)) ∧ Kept w w' := by
  by_cases h0 : n = 0
  · subst h0
    have HV : Hid (smB 0 = ⟨#[]⟩) := rfl
    go_enter Tryz.func44, Tryz.ntmps44
    go_wp2_with fail
    refine (make_nokind 0 1 _ (by omega)).mono ?_
    rintro e w' ⟨rfl, rfl⟩
    go_wp2_with fail
    refine (letter_no 0 _ (by omega)).mono ?_
    rintro e w1 ⟨rfl, gw1⟩
    go_wp2
    go_ret
    exact ⟨by rw [HV.out]; rfl, Kept.of_grown gw1⟩
  · have hn : 2 ≤ n ∧ n ≤ 5 := by have := promo_five h; omega
    have HV : Hid (smB n = lettN (12 - n).toNat) := by show _ = _; unfold smB; rw [if_neg h0]
    have he : inOrd (12 - n).toNat = -n := by unfold inOrd; rw [if_neg (by omega)]; omega
    have HL := Lib.hid (fun w => letter_yes (12 - n).toNat (by omega) w)
    rw [he] at HL
    clear he h h0
    generalize lettN (12 - n).toNat = L at *
    have HMk := Lib.hid (fun w => make_b n w (by omega) (by omega))
    go_enter Tryz.func44, Tryz.ntmps44
    go_wp2_with fail
    refine (HMk.out _).mono ?_
    rintro e w' ⟨rfl, rfl⟩
    go_wp2_with fail
    refine (HL.out _).mono ?_
    rintro e w1 ⟨rfl, gw1⟩
    go_wp2
    go_ret
    exact ⟨by rw [HV.out]; rfl, Kept.of_grown gw1⟩
/-- The text of a move. -/
def okT (m : Mv) : Bool := onB m.f && onB m.t && promoB m.p
def txB (m : Mv) : ByteArray := (nameOf m.f ++ nameOf m.t) ++ smB m.p
def textB (m : Mv) : ByteArray := if okT m then txB m else ⟨#[]⟩
theorem name_k (s : Int) (w : World) (h0 : 0 ≤ s) (h1 : s < 64) : Calls Tryz.prog 43 #[.int .i64 s] w fun e w' => e = .returned (.string (nameOf s)) ∧ Kept w w' :=
  (name_grown s w h0 h1).mono fun _ _ ⟨a, b⟩ => ⟨a, Kept.of_grown b⟩
theorem smB_size (n : Int) : (smB n).size ≤ 1 := by
  unfold smB
  split
  · exact Nat.zero_le _
  · exact Nat.le_refl _
theorem onB_iff (s : Int) : onB s = true ↔ 0 ≤ s ∧ s < 64 := by simp [onB]
set_option maxHeartbeats 2000000 in
theorem text_is (m : Mv) (w : World) (hT : TabM w) : Calls Tryz.prog 20 #[.agg (ml m).toArray] w fun e w' => e = .returned (.string (textB m)) ∧ Kept w w' := by
  have HM := Lib.hid (MAt.new w m)
  have HK0 := Lib.hid ((Kept.refl w).alloc (.cells (ml m).toArray 35))
  have HT := Lib.hid (hT.kept HK0.out)
  have HV : Hid (textB m = if onB m.f && onB m.t && promoB m.p then txB m else ⟨#[]⟩) := rfl
  have HR1 := Lib.hid (right_k m.f)
  have HR2 := Lib.hid (right_k m.t)
  have HR3 := Lib.hid (fun w hw => isPromo_is m.p w hw)
  have cf := HM.out.f
  clear hT
  cases h1 : onB m.f
  · rw [h1] at HR1 HV
    have HV' : Hid (textB m = ⟨#[]⟩) := HV.out
    go_enter Tryz.func20, Tryz.ntmps20
    go_wp2_with fail
    refine (HR1.out _).mono ?_
    rintro e w1 ⟨rfl, k1⟩
    have HK1 := Lib.hid (HK0.out.trans k1)
    clear k1 cf
    go_wp2
    go_ret
    exact ⟨by rw [HV'.out]; rfl, HK1.out⟩
  · rw [h1] at HR1 HV
    cases h2 : onB m.t
    · rw [h2] at HR2 HV
      have HV' : Hid (textB m = ⟨#[]⟩) := HV.out
      go_enter Tryz.func20, Tryz.ntmps20
      go_wp2_with fail
      refine (HR1.out _).mono ?_
      rintro e w1 ⟨rfl, k1⟩
      have HK1 := Lib.hid (HK0.out.trans k1)
      have ct := (MAt.kept HM.out k1).t
      clear k1 cf
      go_wp2_with fail
      refine (HR2.out _).mono ?_
      rintro e w2 ⟨rfl, k2⟩
      have HK2 := Lib.hid (HK1.out.trans k2)
      clear k2 ct
      go_wp2
      go_ret
      exact ⟨by rw [HV'.out]; rfl, HK2.out⟩
    · rw [h2] at HR2 HV
      cases h3 : promoB m.p
      · rw [h3] at HR3 HV
        have HV' : Hid (textB m = ⟨#[]⟩) := HV.out
        go_enter Tryz.func20, Tryz.ntmps20
        go_wp2_with fail
        refine (HR1.out _).mono ?_
        rintro e w1 ⟨rfl, k1⟩
        have HK1 := Lib.hid (HK0.out.trans k1)
        have HM1 := Lib.hid (MAt.kept HM.out k1)
        have HT1 := Lib.hid (HT.out.kept k1)
        have ct := HM1.out.t
        clear k1 cf
        go_wp2_with fail
        refine (HR2.out _).mono ?_
        rintro e w2 ⟨rfl, k2⟩
        have HK2 := Lib.hid (HK1.out.trans k2)
        have HT2 := Lib.hid (HT1.out.kept k2)
        have cp := (MAt.kept HM1.out k2).p
        clear k2 ct
        go_wp2_with fail
        refine (HR3.out _ HT2.out).mono ?_
        rintro e w3 ⟨rfl, k3⟩
        have HK3 := Lib.hid (HK2.out.trans k3)
        clear k3 cp
        go_wp2
        go_ret
        exact ⟨by rw [HV'.out]; rfl, HK3.out⟩
      · have o1 := (onB_iff _).1 h1
        have o2 := (onB_iff _).1 h2
        have HN1 := Lib.hid (fun w => name_k m.f w o1.1 o1.2)
        have HN2 := Lib.hid (fun w => name_k m.t w o2.1 o2.2)
        have HSm := Lib.hid (fun w => small_is m.p h3 w)
        rw [h3] at HR3 HV
        have HV' : Hid (textB m = (nameOf m.f ++ nameOf m.t) ++ smB m.p) := HV.out
        have s1 : (nameOf m.f).size = 2 := rfl
        have s2 : (nameOf m.t).size = 2 := rfl
        have s3 := smB_size m.p
        clear o1 o2 h1 h2 h3 HV
        generalize nameOf m.f = n1 at *
        generalize nameOf m.t = n2 at *
        generalize smB m.p = n3 at *
        have s12 : (n1 ++ n2).size = 4 := by rw [ByteArray.size_append]; omega
        have z1 : ¬ 9223372036854775807 < n1.size + n2.size := by omega
        have z2 : ¬ 9223372036854775807 < (n1 ++ n2).size + n3.size := by omega
        have z3 : ¬ 9223372036854775807 < n1.size + n2.size + n3.size := by omega
        clear s1 s2 s3 s12
        go_enter Tryz.func20, Tryz.ntmps20
        go_wp2_with fail
        refine (HR1.out _).mono ?_
        rintro e w1 ⟨rfl, k1⟩
        have HK1 := Lib.hid (HK0.out.trans k1)
        have HM1 := Lib.hid (MAt.kept HM.out k1)
        have HT1 := Lib.hid (HT.out.kept k1)
        have ct := HM1.out.t
        clear k1 cf
        go_wp2_with fail
        refine (HR2.out _).mono ?_
        rintro e w2 ⟨rfl, k2⟩
        have HK2 := Lib.hid (HK1.out.trans k2)
        have HT2 := Lib.hid (HT1.out.kept k2)
        have HM2 := Lib.hid (MAt.kept HM1.out k2)
        have cp := HM2.out.p
        clear k2 ct
        go_wp2_with fail
        refine (HR3.out _ HT2.out).mono ?_
        rintro e w3 ⟨rfl, k3⟩
        have HK3 := Lib.hid (HK2.out.trans k3)
        have HM3 := Lib.hid (MAt.kept HM2.out k3)
        clear k3 cp
        go_wp2
        refine wp_region_held_drew (S := Kept _) (by kernel_rfl) (Kept.refl _).drew (fun hHeld => ?_)
        refine rg_take (i := 0) (v := (.pointer (some ⟨w.heap.size, 0, none⟩))) (some 19) rfl rfl (by kernel_rfl) (by kernel_rfl) (by kernel_rfl) (fun _ _ _ h => h) (Or.inl ⟨by rfl, fun _ _ => by go_simp⟩) hHeld ?_
        simp only [Act.put, List.setIfInBounds_toArray, List.set_cons_zero, List.set_cons_succ]
        refine rg_take (i := 1) (v := (.int .i64 m.f)) (some 20) rfl rfl (by kernel_rfl) (by kernel_rfl) (by kernel_rfl) (fun _ _ _ h => h) (Or.inl ⟨by rfl, fun w' h => by have h' := kept_cell h (HM3.out.f); go_simp⟩) hHeld ?_
        simp only [Act.put, List.setIfInBounds_toArray, List.set_cons_zero, List.set_cons_succ]
        refine rg_take (i := 3) (v := (.pointer (some ⟨w.heap.size, 1, none⟩))) (some 22) rfl rfl (by kernel_rfl) (by kernel_rfl) (by kernel_rfl) (fun _ _ _ h => h) (Or.inl ⟨by rfl, fun _ _ => by go_simp⟩) hHeld ?_
        simp only [Act.put, List.setIfInBounds_toArray, List.set_cons_zero, List.set_cons_succ]
        refine rg_take (i := 4) (v := (.int .i64 m.t)) (some 23) rfl rfl (by kernel_rfl) (by kernel_rfl) (by kernel_rfl) (fun _ _ _ h => h) (Or.inl ⟨by rfl, fun w' h => by have h' := kept_cell h (HM3.out.t); go_simp⟩) hHeld ?_
        simp only [Act.put, List.setIfInBounds_toArray, List.set_cons_zero, List.set_cons_succ]
        refine rg_take (i := 7) (v := (.pointer (some ⟨w.heap.size, 2, none⟩))) (some 26) rfl rfl (by kernel_rfl) (by kernel_rfl) (by kernel_rfl) (fun _ _ _ h => h) (Or.inl ⟨by rfl, fun _ _ => by go_simp⟩) hHeld ?_
        simp only [Act.put, List.setIfInBounds_toArray, List.set_cons_zero, List.set_cons_succ]
        refine rg_take (i := 8) (v := (.int .i64 m.p)) (some 27) rfl rfl (by kernel_rfl) (by kernel_rfl) (by kernel_rfl) (fun _ _ _ h => h) (Or.inl ⟨by rfl, fun w' h => by have h' := kept_cell h (HM3.out.p); go_simp⟩) hHeld ?_
        simp only [Act.put, List.setIfInBounds_toArray, List.set_cons_zero, List.set_cons_succ]
        refine wpAnyH_ready (rs := [2]) (by kernel_rfl) (by simp) ?_
        refine AllReadyH.cons rfl (fun K hK => ?_) AllReadyH.nil
        go_simp
        refine (HN1.out _).mono ?_
        rintro e x1 ⟨rfl, gx1⟩
        refine hK.out _ _ (hHeld.trans gx1) (fun _ => ?_)
        replace hHeld := hHeld.trans gx1
        clear hK K
        refine wpAnyH_ready (rs := [5]) (by kernel_rfl) (by simp) ?_
        refine AllReadyH.cons rfl (fun K hK => ?_) AllReadyH.nil
        go_simp
        refine (HN2.out _).mono ?_
        rintro e x2 ⟨rfl, gx2⟩
        refine hK.out _ _ (hHeld.trans gx2) (fun _ => ?_)
        replace hHeld := hHeld.trans gx2
        clear hK K
        refine rg_take (i := 6) (v := (.string (n1 ++ n2))) (some 25) rfl rfl (by kernel_rfl) (by kernel_rfl) (by kernel_rfl) (fun _ _ _ h => h) (Or.inl ⟨by rfl, fun _ _ => by go_simp⟩) hHeld ?_
        simp only [Act.put, List.setIfInBounds_toArray, List.set_cons_zero, List.set_cons_succ]
        refine wpAnyH_ready (rs := [9]) (by kernel_rfl) (by simp) ?_
        refine AllReadyH.cons rfl (fun K hK => ?_) AllReadyH.nil
        go_simp
        refine (HSm.out _).mono ?_
        rintro e x3 ⟨rfl, gx3⟩
        refine hK.out _ _ (hHeld.trans gx3) (fun _ => ?_)
        replace hHeld := hHeld.trans gx3
        clear hK K
        refine rg_take (i := 10) (v := (.string ((n1 ++ n2) ++ n3))) (some 29) rfl rfl (by kernel_rfl) (by kernel_rfl) (by kernel_rfl) (fun _ _ _ h => h) (Or.inl ⟨by rfl, fun _ _ => by go_simp⟩) hHeld ?_
        simp only [Act.put, List.setIfInBounds_toArray, List.set_cons_zero, List.set_cons_succ]
        refine rg_take (i := 11) (v := (.string ((n1 ++ n2) ++ n3))) (some 2) rfl rfl (by kernel_rfl) (by kernel_rfl) (by kernel_rfl) (fun _ _ _ h => h) (Or.inl ⟨by rfl, fun _ _ => by go_simp⟩) hHeld ?_
        simp only [Act.put, List.setIfInBounds_toArray, List.set_cons_zero, List.set_cons_succ]
        refine wpAnyH_done (by kernel_rfl) ?_ _
        go_wp2
        go_ret
        exact ⟨by rw [HV'.out]; rfl, HK3.out.trans hHeld⟩
end Go.Proofs.YtgcippicdhaaeaaGreatDoor
