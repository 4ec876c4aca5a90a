/- The document's Ray; what is cut and copied; who goes which way; along. -/
import Derived.Test.YtkliefojegjhhaaDoorRaR
namespace Go.Proofs.YtkliefojegjhhaaDoor
open Go.RowKit
set_option linter.unusedVariables false
set_option linter.unusedSimpArgs false

theorem rayMid_first {s f r t : Int} (h0 : ¬ (f = 0 ∧ r = 0)) (h : (0 ≤ t ∧ 0 ≤ s ∧ s < 64 ∧ 0 ≤ s % 8 + f ∧ s % 8 + f < 8 ∧ 0 ≤ s / 8 + r ∧ s / 8 + r < 8 ∧ t = (s / 8 + r) * 8 + (s % 8 + f)) ∨ (t < 0 ∧ stI s f r = -1)) : RayMid s f r [] t (decide (0 ≤ t)) := by
  rcases h with ⟨h, h'⟩ | ⟨h, h'⟩
  · rw [decide_eq_true h]; exact RayMid.first h0 (.inl ⟨rfl, h'⟩)
  · rw [decide_eq_false (by omega)]; exact RayMid.first h0 (.inr ⟨rfl, h'⟩)
theorem rayMid_next {s f r t u : Int} {l : List Int} (hm : RayMid s f r l t true) (h0 : ¬ (f = 0 ∧ r = 0)) (h : (0 ≤ u ∧ 0 ≤ t ∧ t < 64 ∧ 0 ≤ t % 8 + f ∧ t % 8 + f < 8 ∧ 0 ≤ t / 8 + r ∧ t / 8 + r < 8 ∧ u = (t / 8 + r) * 8 + (t % 8 + f)) ∨ (u < 0 ∧ stI t f r = -1)) : RayMid s f r (l ++ [t]) u (decide (0 ≤ u)) := by
  rcases h with ⟨h, h'⟩ | ⟨h, h'⟩
  · rw [decide_eq_true h]; exact hm.next h0 (.inl ⟨rfl, h'⟩)
  · rw [decide_eq_false (by omega)]; exact hm.next h0 (.inr ⟨rfl, h'⟩)
set_option maxHeartbeats 1000000 in
theorem rray_is (s f r : Int) (w : World) :
    Calls Tryd.prog 18 #[.int .i64 s, .int .i64 f, .int .i64 r] w (NewZ w (rayL s f r)) := by
  by_cases h0 : f = 0 ∧ r = 0
  · obtain ⟨rfl, rfl⟩ := h0
    go_enter Tryd.func18, Tryd.ntmps18
    go_wp2
    go_ret
    exact ⟨_, rfl, by rw [rayL_none]; exact OwnZ.nil _ _, Kept.refl _⟩
  · have H0 := Lib.hid h0
    have HP := Lib.hid (rstep_any · f r ·)
    have hb : (f == 0) = false ∨ ((f == 0) = true ∧ (r == 0) = false) := by
      by_cases hf : f = 0
      · right; refine ⟨by simpa using hf, ?_⟩; rw [beq_eq_false_iff_ne]; exact fun hr => h0 ⟨hf, hr⟩
      · left; simpa using hf
    clear h0
    rcases hb with hb | ⟨hb, hb2⟩
    all_goals
      go_enter Tryd.func18, Tryd.ntmps18
      go_wp2_with fail
      refine (HP.out _ _).mono ?_
      rintro e w' ⟨⟨t, rfl, ht⟩, rfl⟩
      have HT := Lib.hid (rayMid_first H0.out ht)
      clear ht
      go_wp2
      go_loopw [7, 8] (fun t7 t8 wr => ∃ l t, t8 = .int .i64 t ∧ RayMid s f r l t (decide (0 ≤ t)) ∧ OwnZ wr w.heap.size t7 l ∧ Kept w wr) (fun t7 _ _ => 8 - slen t7)
      case atStart => exact ⟨[], t, rfl, HT.out, OwnZ.nil _ _, Kept.refl _⟩
      case round =>
        obtain ⟨l, t, rfl, hm, hown, hK⟩ := hrel
        obtain ⟨a, cap, rfl⟩ := hown.slice
        have HM := Lib.hid hm
        have HO := Lib.hid hown
        have HK := Lib.hid hK
        clear hm hown hK HT
        by_cases ht : 0 ≤ t
        · rw [decide_eq_true ht] at HM
          obtain ⟨t0, t1, hlen⟩ := HM.out.far H0.out
          have HA := Lib.hid (HK.out.alloc (.cells #[.int .i64 t] 3))
          go_wp2_with (at_builtin; refine wpList_append_z rfl _ _ rfl w.heap.size wr.heap.size _ _ l [t] rfl rfl (HO.out.kept ((Kept.refl _).alloc _)) (LsZ.lit _ [t] (by simp)) ?c1 ?c2 ?_)
          case c1 => simp; omega
          case c2 => exact HA.out.size
          intro v' w1 hown' hg
          have hK1 := (HO.out.kept ((Kept.refl _).alloc (.cells #[.int .i64 t] 3))).grown HA.out (Nat.le_refl _) hg
          obtain ⟨a', cap', rfl⟩ := hown'.slice
          have HO1 := Lib.hid hown'
          have HK1 := Lib.hid hK1
          clear hown' hK1 hg
          generalize hn : (l ++ [t]).length = n at *
          have HN := Lib.hid hn
          clear hn
          go_wp2_with fail
          refine (HP.out _ _).mono ?_
          rintro e w' ⟨⟨u, rfl, hu⟩, rfl⟩
          have HU := Lib.hid (rayMid_next HM.out H0.out hu)
          clear hu
          go_wp2
          go_roundw
          case rel => exact ⟨l ++ [t], u, rfl, HU.out, HO1.out, HK1.out⟩
          case measure => have := HN.out; simp [slen] at this ⊢; omega
        · rw [decide_eq_false ht] at HM
          have ht' : t < 0 := by omega
          go_wp2
          go_ret
          exact ⟨_, rfl, by rw [HM.out.done]; exact HO.out, HK.out⟩
/-- A slice that reads so is told. -/
def TellsZ (w : World) (g : Nat) (l : List Int) (e : Ending) (w' : World) : Prop := (∃ v, e = .returned v ∧ LsZ w g v l) ∧ w = w'
theorem nearest_is (g : Nat) (v : Value) (l : List Int) (w : World) (h : LsZ w g v l) :
    Calls Tryd.prog 36 #[v] w (TellsZ w g (l.take 1)) := by
  obtain ⟨a, cap, rfl⟩ := h.slice
  have HT := Lib.hid h
  have hm : cap ≤ maxLen ∧ l.length ≤ cap := by
    rcases h with ⟨e, h0⟩ | ⟨off, cap', e, h1, h2, _⟩
    · injection e with _ e2 e3; subst e3; exact ⟨by unfold maxLen; omega, by omega⟩
    · injection e with _ _ e3; subst e3; exact ⟨h2, h1⟩
  obtain ⟨hm, hc⟩ := hm
  unfold maxLen at hm
  have hl : l.length = 0 ∨ 1 ≤ l.length := by omega
  have ha : a = none ∨ ∃ off, a = some ⟨g, off, none⟩ := by
    rcases h with ⟨e, h0⟩ | ⟨off, cap', e, _⟩
    · injection e with e1 _ _; exact .inl e1
    · injection e with e1 _ _; exact .inr ⟨off, e1⟩
  have hcc : cap = 0 ∨ 0 < cap := by omega
  clear h
  rcases hl with hl | hl
  · have HR := Lib.hid (HT.out.take 0 (by omega))
    rw [hl] at HT hc ⊢
    have e1 : l.take 1 = l.take 0 := by rw [List.eq_nil_of_length_eq_zero hl]; rfl
    rw [e1]
    clear hl e1
    rcases ha with rfl | ⟨off, rfl⟩ <;> rcases hcc with rfl | hcc
    all_goals
      go_enter Tryd.func36, Tryd.ntmps36
      go_wp2
      go_ret
      exact ⟨⟨_, rfl, HR.out⟩, rfl⟩
  · have HR := Lib.hid (HT.out.take 1 (by omega))
    generalize l.length = n at *
    have hc0 : ¬ cap = 0 := by omega
    have hmin : min (n : Int) 1 = 1 := by omega
    rcases ha with rfl | ⟨off, rfl⟩
    all_goals
      go_enter Tryd.func36, Tryd.ntmps36
      go_wp2
      all_goals
        go_ret
        first
          | exact ⟨⟨_, rfl, HR.out⟩, rfl⟩
          | (obtain rfl : n = 1 := by omega
             exact ⟨⟨_, rfl, HR.out⟩, rfl⟩)
theorem fresh_is (g : Nat) (v : Value) (l : List Int) (w : World) (h : LsZ w g v l) (hl : l.length ≤ 1000) :
    Calls Tryd.prog 37 #[v] w (NewZ w l) := by
  have H := Lib.hid h
  clear h
  go_enter Tryd.func37, Tryd.ntmps37
  go_wp2_with (at_builtin; refine wpList_append_z rfl _ _ rfl w.heap.size g _ _ [] l rfl rfl (OwnZ.nil _ _) H.out ?c1 (Nat.le_refl _) ?_)
  case c1 => simp; omega
  intro v' w1 hown' hg
  have hK1 := (OwnZ.nil w w.heap.size).grown (Kept.refl w) (Nat.le_refl _) hg
  have HO1 := Lib.hid hown'
  have HK1 := Lib.hid hK1
  clear hown' hK1 hg
  go_wp2
  go_ret
  exact ⟨_, rfl, HO1.out, HK1.out⟩
theorem mknd_any (m : Int) (w : World) : Calls Tryd.prog 56 #[.int .i64 m] w fun e w' => e = .returned (.int .i64 (knd m)) ∧ w = w' := by
  by_cases h : m < -6 ∨ m = 0 ∨ 6 < m
  · rw [knd_none h]; exact mkind_no m w h
  · have e : knd m = if m < 0 then -m else m := by unfold knd; rw [if_neg h]
    rw [e]
    split
    · exact mkind_b m w (by omega) (by omega)
    · exact mkind_w m w (by omega) (by omega)
theorem rknd_any (m : Int) (w : World) : Calls Tryd.prog 63 #[.int .i64 m] w fun e w' => e = .returned (.int .i64 (knd m)) ∧ w = w' := by
  by_cases h : m < -6 ∨ m = 0 ∨ 6 < m
  · rw [knd_none h]; exact rkind_no m w h
  · have e : knd m = if m < 0 then -m else m := by unfold knd; rw [if_neg h]
    rw [e]
    split
    · exact rkind_yes m (-m) w (by omega) (by omega) (by omega)
    · exact rkind_yes m m w (by omega) (by omega) (by omega)
theorem knd_is (m : Int) : knd m = 0 ∨ knd m = 1 ∨ knd m = 2 ∨ knd m = 3 ∨ knd m = 4 ∨ knd m = 5 ∨ knd m = 6 := by
  unfold knd
  split
  · omega
  · split <;> omega
theorem knd_pawn {m : Int} (h : knd m = 1) : m = 1 ∨ m = -1 := by
  unfold knd at h
  split at h
  · omega
  · split at h <;> omega
theorem rslides_is (m : Int) (w : World) : Calls Tryd.prog 39 #[.int .i64 m] w fun e w' => e = .returned (.bool (slidesB m)) ∧ w = w' := by
  have HK := Lib.hid (rknd_any m)
  unfold slidesB
  have hq := knd_is m
  generalize knd m = q at *
  rcases hq with rfl | rfl | rfl | rfl | rfl | rfl | rfl
  all_goals
    go_enter Tryd.func39, Tryd.ntmps39
    go_wp2_with fail
    refine (HK.out _).mono ?_
    rintro e w' ⟨rfl, rfl⟩
    go_wp2
    go_ret
    exact ⟨rfl, rfl⟩
theorem ahead_w (w : World) : Calls Tryd.prog 62 #[.int .i64 0] w fun e w' => e = .returned (.int .i64 1) ∧ w = w' := by
  go_enter Tryd.func62, Tryd.ntmps62
  go_wp2
  go_ret
  exact ⟨rfl, rfl⟩
theorem ahead_b (w : World) : Calls Tryd.prog 62 #[.int .i64 1] w fun e w' => e = .returned (.int .i64 (-1)) ∧ w = w' := by
  go_enter Tryd.func62, Tryd.ntmps62
  go_wp2
  go_ret
  exact ⟨rfl, rfl⟩
/-- The world holds the table of steps. -/
def Steps (w : World) : Prop := ∀ i : Nat, i < 16 → w.cell? ⟨0, i * 2, none⟩ = some (.int .i64 (wayF i)) ∧ w.cell? ⟨0, i * 2 + 1, none⟩ = some (.int .i64 (wayR i))
theorem Steps.kept {a b : World} (h : Steps a) (k : Kept a b) : Steps b := fun i hi => ⟨kept_cell k (h i hi).1, kept_cell k (h i hi).2⟩
end Go.Proofs.YtkliefojegjhhaaDoor
