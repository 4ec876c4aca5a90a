/- Ray, and the document's; what is cut and copied; who goes which way. -/
import Derived.Test.YtkliefojegjhhaaDoorRaL
import Derived.Test.YtkliefojegjhhaaDoorSqB
import Derived.Test.YtkliefojegjhhaaDoorMeA
namespace Go.Proofs.YtkliefojegjhhaaDoor
open Go.RowKit
set_option linter.unusedVariables false
set_option linter.unusedSimpArgs false

/-- Numbers put behind numbers: 'append(v, vx...)'. -/
theorem wpList_append_z {ops : Array Oper} {rest : List Oper} {o : Oper} {a : Act} {w : World} {Q : Exit → Act → World → Prop} (hgd : o.guard = none) (s x : Operand)
    (ho : o.op = .call { callee := .builtin .append, args := #[s, x], argTypes := #[30, 30] })
    (base g : Nat) (v vx : Value) (l L : List Int) (hs : a.eval s = v) (hx : a.eval x = vx) (hown : OwnZ w base v l) (hL : LsZ w g vx L) (hlen : l.length + L.length ≤ 100000) (hbase : base ≤ w.heap.size)
    (h : ∀ v' w', OwnZ w' base v' (l ++ L) → w.grownBy w' v.ownBlock → wpList Tryd.prog ops Q rest (a.put o.dst v') w') : wpList Tryd.prog ops Q (o :: rest) a w := by
  obtain ⟨i0, hi0, hz0, hz1, hz2⟩ := partsZ infoZ
  rcases hL with ⟨e, h0⟩ | ⟨off, cap, e, hnc, hcm, hcell⟩
  · subst h0
    rw [e] at hx
    refine wpList_append_own_none hgd s x 30 ho base 3 i0 1 Tryd.underlying30 hi0 v _ _ hs hown hx ?_
    exact h v w (by simpa using hown) ⟨rfl, rfl, rfl, Nat.le_refl _, fun _ _ _ => rfl⟩
  · rw [e] at hx
    refine wpList_append_own w hgd s x 30 ho base 3 i0 (.int .i64 0) 1 8 Tryd.underlying30 hi0 hz0 hz1 hz2 rfl (by decide) v _ _ hs hown ⟨g, off, none⟩ L.length cap (zl L) hx (by simp [zl]) ?_ ?_ ?_ ?_ hbase ?_
    · intro j u hu
      rw [show (⟨g, off, none⟩ : Addr).add j = ⟨g, off + j, none⟩ by unfold Addr.add; split <;> simp_all]
      unfold zl at hu
      rw [List.getElem?_map] at hu
      cases hq : L[j]? with
      | none => rw [hq] at hu; cases hu
      | some y =>
        rw [hq] at hu
        have : u = .int .i64 y := by simpa using hu.symm
        rw [this]
        exact hcell j y hq
    · intro u hu
      unfold zl at hu
      obtain ⟨y, _, rfl⟩ := List.mem_map.1 hu
      rfl
    · unfold maxLen; omega
    · omega
    · intro v' w' h1 h2 _
      refine h v' w' ?_ h2
      unfold OwnZ
      rw [zl_app, List.length_append]
      exact h1
theorem OwnZ.lit (w : World) (l : List Int) (b : Nat) (hb : b ≤ w.heap.size) (hm : l.length ≤ 1000) : OwnZ (w.alloc (.cells (zl l).toArray 3)) b (.slice (some ⟨w.heap.size, 0, none⟩) l.length l.length) l := by
  have := World.ownsRow_lit (base := b) (e := 3) (size := 1) w (zl l).toArray l.length hb (by unfold maxLen; omega) (by simp [zl])
  exact this
theorem LsZ.lit (w : World) (l : List Int) (hm : l.length ≤ 1000) : LsZ (w.alloc (.cells (zl l).toArray 3)) w.heap.size (.slice (some ⟨w.heap.size, 0, none⟩) l.length l.length) l := by
  refine .inr ⟨0, l.length, rfl, Nat.le_refl _, by unfold maxLen; omega, fun i x hx => ?_⟩
  rw [cell_of_row _ _ _ _ _ (0, 0) (heap_alloc_new w _)]
  simp [zl, hx]
theorem OwnZ.grown {w w' : World} {base : Nat} {v : Value} {l : List Int} (h : OwnZ w base v l) {a : World} (k : Kept a w) (hb : a.heap.size ≤ base) (hg : w.grownBy w' v.ownBlock) : Kept a w' :=
  k.grownBy hg (fun g hgv => by have := (World.ownsRow.lt h g hgv).1; omega)
/-- How long a slice is. -/
def slen : Value → Nat
  | .slice _ n _ => n
  | _ => 0
/-- A new slice of numbers is told. -/
def NewZ (w : World) (l : List Int) (e : Ending) (w' : World) : Prop := ∃ v, e = .returned v ∧ OwnZ w' w.heap.size v l ∧ Kept w w'
theorem rstep_neg (s f r : Int) (w : World) (h : (s < 0 ∨ 64 ≤ s) ∨ (0 ≤ s ∧ s < 64 ∧ (s % 8 + f < 0 ∨ 8 ≤ s % 8 + f ∨ s / 8 + r < 0 ∨ 8 ≤ s / 8 + r))) :
    Calls Tryd.prog 41 #[.int .i64 s, .int .i64 f, .int .i64 r] w fun e w' => e = .returned (.int .i64 (-1)) ∧ w = w' := by
  rcases h with h | ⟨a, b, h⟩
  · exact rstep_off s f r w h
  · exact rstep_no s f r w a b h
theorem step_neg (s f r : Int) (w : World) (wf : (Lit.int .i64 f).wf = true) (wr : (Lit.int .i64 r).wf = true) (h : (s < 0 ∨ 64 ≤ s) ∨ (0 ≤ s ∧ s < 64 ∧ (s % 8 + f < 0 ∨ 8 ≤ s % 8 + f ∨ s / 8 + r < 0 ∨ 8 ≤ s / 8 + r))) :
    Calls Tryd.prog 40 #[.int .i64 s, .int .i64 f, .int .i64 r] w fun e w' => e = .returned (.tuple #[.int .i64 0, .bool false]) ∧ w = w' := by
  rcases h with h | ⟨a, b, h⟩
  · exact step_off s f r w h
  · exact step_no s f r w a b wf wr h
/-- Step, by stI. -/
theorem step_any (s f r : Int) (w : World) (wf : (Lit.int .i64 f).wf = true) (wr : (Lit.int .i64 r).wf = true) :
    Calls Tryd.prog 40 #[.int .i64 s, .int .i64 f, .int .i64 r] w fun e w' => (∃ t on, e = .returned (.tuple #[.int .i64 t, .bool on]) ∧ ((on = true ∧ 0 ≤ s ∧ s < 64 ∧ 0 ≤ s % 8 + f ∧ s % 8 + f < 8 ∧ 0 ≤ s / 8 + r ∧ s / 8 + r < 8 ∧ t = (s / 8 + r) * 8 + (s % 8 + f)) ∨ (on = false ∧ stI s f r = -1))) ∧ w = w' := by
  rcases stI_cases s f r with ⟨a, b, c, d, e, g, _⟩ | ⟨hs, h⟩
  · exact (step_yes s f r w a b c d e g).mono fun _ _ ⟨h1, h2⟩ => ⟨⟨_, true, h1, .inl ⟨rfl, a, b, c, d, e, g, rfl⟩⟩, h2⟩
  · exact (step_neg s f r w wf wr h).mono fun _ _ ⟨h1, h2⟩ => ⟨⟨_, false, h1, .inr ⟨rfl, hs⟩⟩, h2⟩
theorem rstep_any (s f r : Int) (w : World) :
    Calls Tryd.prog 41 #[.int .i64 s, .int .i64 f, .int .i64 r] w fun e w' => (∃ t, e = .returned (.int .i64 t) ∧ ((0 ≤ t ∧ 0 ≤ s ∧ s < 64 ∧ 0 ≤ s % 8 + f ∧ s % 8 + f < 8 ∧ 0 ≤ s / 8 + r ∧ s / 8 + r < 8 ∧ t = (s / 8 + r) * 8 + (s % 8 + f)) ∨ (t < 0 ∧ stI s f r = -1))) ∧ w = w' := by
  rcases stI_cases s f r with ⟨a, b, c, d, e, g, _⟩ | ⟨hs, h⟩
  · exact (rstep_yes s f r w a b c d e g).mono fun _ _ ⟨h1, h2⟩ => ⟨⟨_, h1, .inl ⟨by omega, a, b, c, d, e, g, rfl⟩⟩, h2⟩
  · exact (rstep_neg s f r w h).mono fun _ _ ⟨h1, h2⟩ => ⟨⟨_, h1, .inr ⟨by omega, hs⟩⟩, h2⟩
theorem RayMid.first {s f r t : Int} {on : Bool} (h0 : ¬ (f = 0 ∧ r = 0)) (h : (on = true ∧ 0 ≤ s ∧ s < 64 ∧ 0 ≤ s % 8 + f ∧ s % 8 + f < 8 ∧ 0 ≤ s / 8 + r ∧ s / 8 + r < 8 ∧ t = (s / 8 + r) * 8 + (s % 8 + f)) ∨ (on = false ∧ stI s f r = -1)) : RayMid s f r [] t on := by
  rcases h with ⟨rfl, a, b, c, d, e, g, rfl⟩ | ⟨rfl, h⟩
  · exact RayMid.start_yes h0 a b c d e g
  · exact RayMid.start_no _ h
theorem RayMid.next {s f r t u : Int} {l : List Int} {on : Bool} (hm : RayMid s f r l t true) (h0 : ¬ (f = 0 ∧ r = 0)) (h : (on = true ∧ 0 ≤ t ∧ t < 64 ∧ 0 ≤ t % 8 + f ∧ t % 8 + f < 8 ∧ 0 ≤ t / 8 + r ∧ t / 8 + r < 8 ∧ u = (t / 8 + r) * 8 + (t % 8 + f)) ∨ (on = false ∧ stI t f r = -1)) : RayMid s f r (l ++ [t]) u on := by
  rcases h with ⟨rfl, a, b, c, d, e, g, rfl⟩ | ⟨rfl, h⟩
  · exact hm.next_yes h0 c d e g
  · exact hm.next_no _ h0 h
set_option maxHeartbeats 1000000 in
theorem ray_is (s f r : Int) (wf : (Lit.int .i64 f).wf = true) (wr : (Lit.int .i64 r).wf = true) (w : World) :
    Calls Tryd.prog 17 #[.int .i64 s, .int .i64 f, .int .i64 r] w (NewZ w (rayL s f r)) := by
  by_cases h0 : f = 0 ∧ r = 0
  · obtain ⟨rfl, rfl⟩ := h0
    go_enter Tryd.func17, Tryd.ntmps17
    go_wp2
    go_ret
    exact ⟨_, rfl, by rw [rayL_none]; exact OwnZ.nil _ _, Kept.refl _⟩
  · have H0 := Lib.hid h0
    have HP := Lib.hid (step_any · f r · wf wr)
    have hb : (f == 0) = false ∨ ((f == 0) = true ∧ (r == 0) = false) := by
      by_cases hf : f = 0
      · right; refine ⟨by simpa using hf, ?_⟩; rw [beq_eq_false_iff_ne]; exact fun hr => h0 ⟨hf, hr⟩
      · left; simpa using hf
    clear h0 wf wr
    rcases hb with hb | ⟨hb, hb2⟩
    all_goals
      go_enter Tryd.func17, Tryd.ntmps17
      go_wp2_with fail
      refine (HP.out _ _).mono ?_
      rintro e w' ⟨⟨t, on, rfl, ht⟩, rfl⟩
      have HT := Lib.hid (RayMid.first H0.out ht)
      clear ht
      go_wp2
      go_loopw [7, 8, 9] (fun t7 t8 t9 wr => ∃ l t on, t8 = .int .i64 t ∧ t9 = .bool on ∧ RayMid s f r l t on ∧ OwnZ wr w.heap.size t7 l ∧ Kept w wr) (fun t7 _ _ _ => 8 - slen t7)
      case atStart => exact ⟨[], t, on, rfl, rfl, HT.out, OwnZ.nil _ _, Kept.refl _⟩
      case round =>
        obtain ⟨l, t, on, rfl, rfl, hm, hown, hK⟩ := hrel
        obtain ⟨a, cap, rfl⟩ := hown.slice
        have HM := Lib.hid hm
        have HO := Lib.hid hown
        have HK := Lib.hid hK
        clear hm hown hK HT
        cases on
        · go_wp2
          go_ret
          exact ⟨_, rfl, by rw [HM.out.done]; exact HO.out, HK.out⟩
        · obtain ⟨t0, t1, hlen⟩ := HM.out.far H0.out
          have HA := Lib.hid (HK.out.alloc (.cells #[.int .i64 t] 3))
          go_wp2_with (at_builtin; refine wpList_append_z rfl _ _ rfl w.heap.size wr.heap.size _ _ l [t] rfl rfl (HO.out.kept ((Kept.refl _).alloc _)) (LsZ.lit _ [t] (by simp)) ?c1 ?c2 ?_)
          case c1 => simp; omega
          case c2 => exact HA.out.size
          intro v' w1 hown' hg
          have hK1 := (HO.out.kept ((Kept.refl _).alloc (.cells #[.int .i64 t] 3))).grown HA.out (Nat.le_refl _) hg
          obtain ⟨a', cap', rfl⟩ := hown'.slice
          have HO1 := Lib.hid hown'
          have HK1 := Lib.hid hK1
          clear hown' hK1 hg
          generalize hn : (l ++ [t]).length = n at *
          have HN := Lib.hid hn
          clear hn
          go_wp2_with fail
          refine (HP.out _ _).mono ?_
          rintro e w' ⟨⟨u, on, rfl, hu⟩, rfl⟩
          have HU := Lib.hid (HM.out.next H0.out hu)
          clear hu
          go_wp2
          go_roundw
          case rel => exact ⟨l ++ [t], u, on, rfl, rfl, HU.out, HO1.out, HK1.out⟩
          case measure => have := HN.out; simp [slen] at this ⊢; omega
end Go.Proofs.YtkliefojegjhhaaDoor
