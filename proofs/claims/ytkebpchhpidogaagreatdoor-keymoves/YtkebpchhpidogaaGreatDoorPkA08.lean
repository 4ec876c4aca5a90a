/- Ray, and the document's; what is cut and copied; who goes which way · The document's Ray; what is cut and copied; who goes which way; along · Who sees whom along the ways, by numbers alone · Ways: steps, the way back, who reaches how far. -/
import Derived.Test.YtkebpchhpidogaaGreatDoorPkA00
import Derived.Test.YtkebpchhpidogaaGreatDoorPkA03
import Derived.Test.YtkebpchhpidogaaGreatDoorPkA07
namespace Go.Proofs.YtkebpchhpidogaaGreatDoor
open Go.RowKit
set_option linter.unusedVariables false
set_option linter.unusedSimpArgs false

/-- Numbers put behind numbers: 'append(v, vx...)'. -/
theorem wpList_append_z {ops : Array Oper} {rest : List Oper} {o : Oper} {a : Act} {w : World} {Q : Exit → Act → World → Prop} (hgd : o.guard = none) (s x : Operand)
    (ho : o.op = .call { callee := .builtin .append, args := #[s, x], argTypes := #[93, 93] })
    (base g : Nat) (v vx : Value) (l L : List Int) (hs : a.eval s = v) (hx : a.eval x = vx) (hown : OwnZ w base v l) (hL : LsZ w g vx L) (hlen : l.length + L.length ≤ 100000) (hbase : base ≤ w.heap.size)
    (h : ∀ v' w', OwnZ w' base v' (l ++ L) → w.grownBy w' v.ownBlock → wpList Tryz.prog ops Q rest (a.put o.dst v') w') : wpList Tryz.prog ops Q (o :: rest) a w := by
  obtain ⟨i0, hi0, hz0, hz1, hz2⟩ := partsZ infoZ
  rcases hL with ⟨e, h0⟩ | ⟨off, cap, e, hnc, hcm, hcell⟩
  · subst h0
    rw [e] at hx
    refine wpList_append_own_none hgd s x 93 ho base 3 i0 1 Tryz.underlying93 hi0 v _ _ hs hown hx ?_
    exact h v w (by simpa using hown) ⟨rfl, rfl, rfl, Nat.le_refl _, fun _ _ _ => rfl⟩
  · rw [e] at hx
    refine wpList_append_own w hgd s x 93 ho base 3 i0 (.int .i64 0) 1 8 Tryz.underlying93 hi0 hz0 hz1 hz2 rfl (by decide) v _ _ hs hown ⟨g, off, none⟩ L.length cap (zl L) hx (by simp [zl]) ?_ ?_ ?_ ?_ hbase ?_
    · intro j u hu
      rw [show (⟨g, off, none⟩ : Addr).add j = ⟨g, off + j, none⟩ by unfold Addr.add; split <;> simp_all]
      unfold zl at hu
      rw [List.getElem?_map] at hu
      cases hq : L[j]? with
      | none => rw [hq] at hu; cases hu
      | some y =>
        rw [hq] at hu
        have : u = .int .i64 y := by simpa using hu.symm
        rw [this]
        exact hcell j y hq
    · intro u hu
      unfold zl at hu
      obtain ⟨y, _, rfl⟩ := List.mem_map.1 hu
      rfl
    · unfold maxLen; omega
    · omega
    · intro v' w' h1 h2 _
      refine h v' w' ?_ h2
      unfold OwnZ
      rw [zl_app, List.length_append]
      exact h1
theorem OwnZ.lit (w : World) (l : List Int) (b : Nat) (hb : b ≤ w.heap.size) (hm : l.length ≤ 1000) : OwnZ (w.alloc (.cells (zl l).toArray 3)) b (.slice (some ⟨w.heap.size, 0, none⟩) l.length l.length) l := by
  have := World.ownsRow_lit (base := b) (e := 3) (size := 1) w (zl l).toArray l.length hb (by unfold maxLen; omega) (by simp [zl])
  exact this
theorem LsZ.lit (w : World) (l : List Int) (hm : l.length ≤ 1000) : LsZ (w.alloc (.cells (zl l).toArray 3)) w.heap.size (.slice (some ⟨w.heap.size, 0, none⟩) l.length l.length) l := by
  refine .inr ⟨0, l.length, rfl, Nat.le_refl _, by unfold maxLen; omega, fun i x hx => ?_⟩
  rw [cell_of_row _ _ _ _ _ (0, 0) (heap_alloc_new w _)]
  simp [zl, hx]
theorem OwnZ.grown {w w' : World} {base : Nat} {v : Value} {l : List Int} (h : OwnZ w base v l) {a : World} (k : Kept a w) (hb : a.heap.size ≤ base) (hg : w.grownBy w' v.ownBlock) : Kept a w' :=
  k.grownBy hg (fun g hgv => by have := (World.ownsRow.lt h g hgv).1; omega)
/-- How long a slice is. -/
def slen : Value → Nat
  | .slice _ n _ => n
  | _ => 0
/-- A new slice of numbers is told. -/
def NewZ (w : World) (l : List Int) (e : Ending) (w' : World) : Prop := ∃ v, e = .returned v ∧ OwnZ w' w.heap.size v l ∧ Kept w w'
theorem step_neg (s f r : Int) (w : World) (wf : (Lit.int .i64 f).wf = true) (wr : (Lit.int .i64 r).wf = true) (h : (s < 0 ∨ 64 ≤ s) ∨ (0 ≤ s ∧ s < 64 ∧ (s % 8 + f < 0 ∨ 8 ≤ s % 8 + f ∨ s / 8 + r < 0 ∨ 8 ≤ s / 8 + r))) :
    Calls Tryz.prog 71 #[.int .i64 s, .int .i64 f, .int .i64 r] w fun e w' => e = .returned (.tuple #[.int .i64 0, .bool false]) ∧ w = w' := by
  rcases h with h | ⟨a, b, h⟩
  · exact step_off s f r w h
  · exact step_no s f r w a b wf wr h
/-- Step, by stI. -/
theorem step_any (s f r : Int) (w : World) (wf : (Lit.int .i64 f).wf = true) (wr : (Lit.int .i64 r).wf = true) :
    Calls Tryz.prog 71 #[.int .i64 s, .int .i64 f, .int .i64 r] w fun e w' => (∃ t on, e = .returned (.tuple #[.int .i64 t, .bool on]) ∧ ((on = true ∧ 0 ≤ s ∧ s < 64 ∧ 0 ≤ s % 8 + f ∧ s % 8 + f < 8 ∧ 0 ≤ s / 8 + r ∧ s / 8 + r < 8 ∧ t = (s / 8 + r) * 8 + (s % 8 + f)) ∨ (on = false ∧ stI s f r = -1))) ∧ w = w' := by
  rcases stI_cases s f r with ⟨a, b, c, d, e, g, _⟩ | ⟨hs, h⟩
  · exact (step_yes s f r w a b c d e g).mono fun _ _ ⟨h1, h2⟩ => ⟨⟨_, true, h1, .inl ⟨rfl, a, b, c, d, e, g, rfl⟩⟩, h2⟩
  · exact (step_neg s f r w wf wr h).mono fun _ _ ⟨h1, h2⟩ => ⟨⟨_, false, h1, .inr ⟨rfl, hs⟩⟩, h2⟩
theorem RayMid.first {s f r t : Int} {on : Bool} (h0 : ¬ (f = 0 ∧ r = 0)) (h : (on = true ∧ 0 ≤ s ∧ s < 64 ∧ 0 ≤ s % 8 + f ∧ s % 8 + f < 8 ∧ 0 ≤ s / 8 + r ∧ s / 8 + r < 8 ∧ t = (s / 8 + r) * 8 + (s % 8 + f)) ∨ (on = false ∧ stI s f r = -1)) : RayMid s f r [] t on := by
  rcases h with ⟨rfl, a, b, c, d, e, g, rfl⟩ | ⟨rfl, h⟩
  · exact RayMid.start_yes h0 a b c d e g
  · exact RayMid.start_no _ h
theorem RayMid.next {s f r t u : Int} {l : List Int} {on : Bool} (hm : RayMid s f r l t true) (h0 : ¬ (f = 0 ∧ r = 0)) (h : (on = true ∧ 0 ≤ t ∧ t < 64 ∧ 0 ≤ t % 8 + f ∧ t % 8 + f < 8 ∧ 0 ≤ t / 8 + r ∧ t / 8 + r < 8 ∧ u = (t / 8 + r) * 8 + (t % 8 + f)) ∨ (on = false ∧ stI t f r = -1)) : RayMid s f r (l ++ [t]) u on := by
  rcases h with ⟨rfl, a, b, c, d, e, g, rfl⟩ | ⟨rfl, h⟩
  · exact hm.next_yes h0 c d e g
  · exact hm.next_no _ h0 h
end Go.Proofs.YtkebpchhpidogaaGreatDoor
namespace Go.Proofs.YtkebpchhpidogaaGreatDoor
open Go.RowKit
set_option linter.unusedVariables false
set_option linter.unusedSimpArgs false

theorem rayMid_first {s f r t : Int} (h0 : ¬ (f = 0 ∧ r = 0)) (h : (0 ≤ t ∧ 0 ≤ s ∧ s < 64 ∧ 0 ≤ s % 8 + f ∧ s % 8 + f < 8 ∧ 0 ≤ s / 8 + r ∧ s / 8 + r < 8 ∧ t = (s / 8 + r) * 8 + (s % 8 + f)) ∨ (t < 0 ∧ stI s f r = -1)) : RayMid s f r [] t (decide (0 ≤ t)) := by
  rcases h with ⟨h, h'⟩ | ⟨h, h'⟩
  · rw [decide_eq_true h]; exact RayMid.first h0 (.inl ⟨rfl, h'⟩)
  · rw [decide_eq_false (by omega)]; exact RayMid.first h0 (.inr ⟨rfl, h'⟩)
theorem rayMid_next {s f r t u : Int} {l : List Int} (hm : RayMid s f r l t true) (h0 : ¬ (f = 0 ∧ r = 0)) (h : (0 ≤ u ∧ 0 ≤ t ∧ t < 64 ∧ 0 ≤ t % 8 + f ∧ t % 8 + f < 8 ∧ 0 ≤ t / 8 + r ∧ t / 8 + r < 8 ∧ u = (t / 8 + r) * 8 + (t % 8 + f)) ∨ (u < 0 ∧ stI t f r = -1)) : RayMid s f r (l ++ [t]) u (decide (0 ≤ u)) := by
  rcases h with ⟨h, h'⟩ | ⟨h, h'⟩
  · rw [decide_eq_true h]; exact hm.next h0 (.inl ⟨rfl, h'⟩)
  · rw [decide_eq_false (by omega)]; exact hm.next h0 (.inr ⟨rfl, h'⟩)
/-- A slice that reads so is told. -/
def TellsZ (w : World) (g : Nat) (l : List Int) (e : Ending) (w' : World) : Prop := (∃ v, e = .returned v ∧ LsZ w g v l) ∧ w = w'
theorem mknd_any (m : Int) (w : World) : Calls Tryz.prog 32 #[.int .i64 m] w fun e w' => e = .returned (.int .i64 (knd m)) ∧ w = w' := by
  by_cases h : m < -6 ∨ m = 0 ∨ 6 < m
  · rw [knd_none h]; exact mkind_no m w h
  · have e : knd m = if m < 0 then -m else m := by unfold knd; rw [if_neg h]
    rw [e]
    split
    · exact mkind_b m w (by omega) (by omega)
    · exact mkind_w m w (by omega) (by omega)
theorem knd_is (m : Int) : knd m = 0 ∨ knd m = 1 ∨ knd m = 2 ∨ knd m = 3 ∨ knd m = 4 ∨ knd m = 5 ∨ knd m = 6 := by
  unfold knd
  split
  · omega
  · split <;> omega
theorem knd_pawn {m : Int} (h : knd m = 1) : m = 1 ∨ m = -1 := by
  unfold knd at h
  split at h
  · omega
  · split at h <;> omega
theorem ahead_w (w : World) : Calls Tryz.prog 105 #[.int .i64 0] w fun e w' => e = .returned (.int .i64 1) ∧ w = w' := by
  go_enter Tryz.func105, Tryz.ntmps105
  go_wp2
  go_ret
  exact ⟨rfl, rfl⟩
theorem ahead_b (w : World) : Calls Tryz.prog 105 #[.int .i64 1] w fun e w' => e = .returned (.int .i64 (-1)) ∧ w = w' := by
  go_enter Tryz.func105, Tryz.ntmps105
  go_wp2
  go_ret
  exact ⟨rfl, rfl⟩
/-- The world holds the table of steps. -/
def Steps (w : World) : Prop := ∀ i : Nat, i < 16 → w.cell? ⟨8, i * 2, none⟩ = some (.int .i64 (wayF i)) ∧ w.cell? ⟨8, i * 2 + 1, none⟩ = some (.int .i64 (wayR i))
theorem Steps.kept {a b : World} (h : Steps a) (k : Kept a b) : Steps b := fun i hi => ⟨kept_cell k (h i hi).1, kept_cell k (h i hi).2⟩
end Go.Proofs.YtkebpchhpidogaaGreatDoor
namespace Go.Proofs.YtkebpchhpidogaaGreatDoor
set_option linter.unusedVariables false
set_option linter.unusedSimpArgs false

/-- The way back. -/
def backW (way : Nat) : Nat := if way < 4 then (way + 2) % 4 else if way < 8 then 4 + (way + 2) % 4 else 8 + (way + 4) % 8
theorem back_way {way : Nat} (h : way < 16) : backW way < 16 ∧ wayF (backW way) = -wayF way ∧ wayR (backW way) = -wayR way ∧ backW (backW way) = way ∧ (backW way < 8 ↔ way < 8) ∧ ¬ (wayF way = 0 ∧ wayR way = 0) := by
  have : ∀ i : Fin 16, backW i < 16 ∧ wayF (backW i) = -wayF i ∧ wayR (backW i) = -wayR i ∧ backW (backW i) = i ∧ (backW i < 8 ↔ (i : Nat) < 8) ∧ ¬ (wayF i = 0 ∧ wayR i = 0) := by decide +kernel
  exact this ⟨way, h⟩
theorem conv_in {a f : Int} {i : Nat} (h0 : 0 ≤ a) (h8 : a < 8) (h1 : 0 ≤ a + ((i : Int) + 1) * f) (h2 : a + ((i : Int) + 1) * f < 8) : 0 ≤ a + f ∧ a + f < 8 := by
  rw [Int.add_mul, Int.one_mul] at h1 h2
  rcases Int.le_total 0 f with hf | hf
  · have := Int.mul_nonneg (show 0 ≤ (i : Int) by omega) hf
    omega
  · have := Int.mul_nonneg (show 0 ≤ (i : Int) by omega) (show 0 ≤ -f by omega)
    rw [Int.mul_neg] at this
    omega
theorem succ_mul_ (j : Nat) (f : Int) : (((j + 1 : Nat) : Int) + 1) * f = f + ((j : Int) + 1) * f := by
  rw [Int.natCast_add, Int.add_mul ((j : Int) + ((1 : Nat) : Int)), Int.one_mul]
  show ((j : Int) + 1) * f + f = _
  omega
theorem rayN_at : ∀ (n : Nat) (s f r : Int) (i : Nat) (x : Int), 0 ≤ s → s < 64 → ((rayN n s f r)[i]? = some x ↔ i < n ∧ 0 ≤ x ∧ x < 64 ∧ x % 8 = s % 8 + ((i : Int) + 1) * f ∧ x / 8 = s / 8 + ((i : Int) + 1) * r)
  | 0, s, f, r, i, x => fun _ _ => by simp [rayN]
  | n + 1, s, f, r, i, x => fun h0 h1 => by
    unfold rayN
    rcases stI_cases s f r with ⟨_, _, c, d, e, g, hs⟩ | ⟨hs, h⟩
    · rw [if_neg (by omega)]
      cases i with
      | zero =>
        rw [List.getElem?_cons_zero, Option.some_inj]
        have e1 : (((0 : Nat) : Int) + 1) * f = f := by rw [Int.natCast_zero, Int.zero_add, Int.one_mul]
        have e2 : (((0 : Nat) : Int) + 1) * r = r := by rw [Int.natCast_zero, Int.zero_add, Int.one_mul]
        rw [e1, e2, hs]
        omega
      | succ j =>
        rw [List.getElem?_cons_succ, rayN_at n _ f r j x (by omega) (by omega), succ_mul_, succ_mul_, hs]
        generalize ((j : Int) + 1) * f = u
        generalize ((j : Int) + 1) * r = v
        omega
    · rw [if_pos (by omega)]
      simp only [List.getElem?_nil, false_iff, reduceCtorEq]
      rintro ⟨_, x0, x1, e1, e2⟩
      have a := conv_in (a := s % 8) (f := f) (i := i) (by omega) (by omega) (by omega) (by omega)
      have b := conv_in (a := s / 8) (f := r) (i := i) (by omega) (by omega) (by omega) (by omega)
      omega
theorem near_far {f : Int} {i : Nat} (h : f ≠ 0) (h1 : -7 ≤ ((i : Int) + 1) * f) (h2 : ((i : Int) + 1) * f ≤ 7) : i ≤ 6 := by
  rw [Int.add_mul, Int.one_mul] at h1 h2
  rcases Int.le_total 0 f with hf | hf
  · have := Int.mul_le_mul_of_nonneg_left (show 1 ≤ f by omega) (show 0 ≤ (i : Int) by omega)
    omega
  · have := Int.mul_le_mul_of_nonneg_left (show 1 ≤ -f by omega) (show 0 ≤ (i : Int) by omega)
    rw [Int.mul_neg] at this
    omega
theorem rayL_at {s f r : Int} (h0 : 0 ≤ s) (h1 : s < 64) (hn : ¬ (f = 0 ∧ r = 0)) (i : Nat) (x : Int) :
    (rayL s f r)[i]? = some x ↔ 0 ≤ x ∧ x < 64 ∧ x % 8 = s % 8 + ((i : Int) + 1) * f ∧ x / 8 = s / 8 + ((i : Int) + 1) * r := by
  unfold rayL
  rw [if_neg hn, rayN_at 8 s f r i x h0 h1]
  constructor
  · exact fun h => h.2
  · rintro ⟨a, b, c, d⟩
    refine ⟨?_, a, b, c, d⟩
    by_cases hf : f = 0
    · have := near_far (f := r) (i := i) (fun hr => hn ⟨hf, hr⟩) (by omega) (by omega)
      omega
    · have := near_far (f := f) (i := i) hf (by omega) (by omega)
      omega
theorem rayL_short {s f r : Int} (h0 : 0 ≤ s) (h1 : s < 64) (hn : ¬ (f = 0 ∧ r = 0)) {i : Nat} {x : Int} (h : (rayL s f r)[i]? = some x) : i ≤ 6 := by
  obtain ⟨a, b, c, d⟩ := (rayL_at h0 h1 hn i x).1 h
  by_cases hf : f = 0
  · exact near_far (f := r) (i := i) (fun hr => hn ⟨hf, hr⟩) (by omega) (by omega)
  · exact near_far (f := f) (i := i) hf (by omega) (by omega)
/-- The man on a square. -/
def bAt (B : List Int) (x : Int) : Int := B.getD x.toNat 0
def rayW (s : Int) (way : Nat) : List Int := rayL s (wayF way) (wayR way)
/-- From s, by a way, i squares over empty ones, x is seen. -/
def Sight (B : List Int) (s : Int) (way i : Nat) (x : Int) : Prop := (rayW s way)[i]? = some x ∧ ∀ k, k < i → ∀ y, (rayW s way)[k]? = some y → bAt B y = 0
theorem rayW_at {s : Int} (h0 : 0 ≤ s) (h1 : s < 64) {way : Nat} (hw : way < 16) (i : Nat) (x : Int) :
    (rayW s way)[i]? = some x ↔ 0 ≤ x ∧ x < 64 ∧ x % 8 = s % 8 + ((i : Int) + 1) * wayF way ∧ x / 8 = s / 8 + ((i : Int) + 1) * wayR way :=
  rayL_at h0 h1 (back_way hw).2.2.2.2.2 i x
theorem Sight.on {B : List Int} {s x : Int} {way i : Nat} (h0 : 0 ≤ s) (h1 : s < 64) (hw : way < 16) (h : Sight B s way i x) : 0 ≤ x ∧ x < 64 ∧ i ≤ 6 := by
  obtain ⟨a, b, _⟩ := (rayW_at h0 h1 hw i x).1 h.1
  exact ⟨a, b, rayL_short h0 h1 (back_way hw).2.2.2.2.2 h.1⟩
theorem Sight.back {B : List Int} {s x : Int} {way i : Nat} (h0 : 0 ≤ s) (h1 : s < 64) (hw : way < 16) (h : Sight B s way i x) : Sight B x (backW way) i s := by
  obtain ⟨hx, hc⟩ := h
  obtain ⟨x0, x1, ex, ey⟩ := (rayW_at h0 h1 hw i x).1 hx
  obtain ⟨b1, b2, b3, b4, b5, b6⟩ := back_way hw
  refine ⟨(rayW_at x0 x1 b1 i s).2 ⟨h0, h1, ?_, ?_⟩, fun k hk y hy => ?_⟩
  · rw [b2, Int.mul_neg]; omega
  · rw [b3, Int.mul_neg]; omega
  · obtain ⟨y0, y1, e1, e2⟩ := (rayW_at x0 x1 b1 k y).1 hy
    obtain ⟨j, rfl⟩ : ∃ j, i = k + 1 + j := ⟨i - (k + 1), by omega⟩
    refine hc j (by omega) y ((rayW_at h0 h1 hw j y).2 ⟨y0, y1, ?_, ?_⟩)
    · rw [b2, Int.mul_neg] at e1
      have : ((((k + 1 + j : Nat) : Int) + 1)) * wayF way = ((k : Int) + 1) * wayF way + ((j : Int) + 1) * wayF way := by
        rw [← Int.add_mul]; congr 1
      omega
    · rw [b3, Int.mul_neg] at e2
      have : ((((k + 1 + j : Nat) : Int) + 1)) * wayR way = ((k : Int) + 1) * wayR way + ((j : Int) + 1) * wayR way := by
        rw [← Int.add_mul]; congr 1
      omega
theorem uniq_all : ∀ a : Fin 16, ∀ b : Fin 16, ∀ i : Fin 7, ∀ j : Fin 7, ((a : Nat) < 8 || (i : Nat) == 0) = true → ((b : Nat) < 8 || (j : Nat) == 0) = true →
    (((i : Nat) : Int) + 1) * wayF a = (((j : Nat) : Int) + 1) * wayF b → (((i : Nat) : Int) + 1) * wayR a = (((j : Nat) : Int) + 1) * wayR b → a = b ∧ i = j := by decide +kernel
/-- A square is seen by one way alone, at one distance. -/
theorem way_uniq {s x : Int} (h0 : 0 ≤ s) (h1 : s < 64) {a b i j : Nat} (ha : a < 16) (hb : b < 16) (h2 : a < 8 ∨ i = 0) (h3 : b < 8 ∨ j = 0) (h4 : (rayW s a)[i]? = some x) (h5 : (rayW s b)[j]? = some x) : a = b ∧ i = j := by
  have hi := rayL_short h0 h1 (back_way ha).2.2.2.2.2 h4
  have hj := rayL_short h0 h1 (back_way hb).2.2.2.2.2 h5
  obtain ⟨_, _, e1, e2⟩ := (rayW_at h0 h1 ha i x).1 h4
  obtain ⟨_, _, e3, e4⟩ := (rayW_at h0 h1 hb j x).1 h5
  have := uniq_all ⟨a, ha⟩ ⟨b, hb⟩ ⟨i, by omega⟩ ⟨j, by omega⟩ (by simpa using h2) (by simpa using h3) (by show ((i : Int) + 1) * wayF a = ((j : Int) + 1) * wayF b; omega) (by show ((i : Int) + 1) * wayR a = ((j : Int) + 1) * wayR b; omega)
  exact ⟨Fin.mk.inj_iff.1 this.1, Fin.mk.inj_iff.1 this.2⟩
/-- A list up to its first square on which somebody stands. -/
def uptoL (B : List Int) : List Int → List Int
  | [] => []
  | x :: xs => x :: if bAt B x = 0 then uptoL B xs else []
theorem mem_upto (B : List Int) (x : Int) : ∀ R : List Int, x ∈ uptoL B R ↔ ∃ i : Nat, R[i]? = some x ∧ ∀ k, k < i → ∀ y, R[k]? = some y → bAt B y = 0
  | [] => by simp [uptoL]
  | z :: R => by
    unfold uptoL
    rw [List.mem_cons]
    constructor
    · rintro (rfl | h)
      · exact ⟨0, by simp, fun k hk => by omega⟩
      · split at h
        · next hz =>
          obtain ⟨i, hi, hc⟩ := (mem_upto B x R).1 h
          refine ⟨i + 1, by simpa using hi, fun k hk y hy => ?_⟩
          cases k with
          | zero => simp at hy; rw [← hy]; exact hz
          | succ k => exact hc k (by omega) y (by simpa using hy)
        · cases h
    · rintro ⟨i, hi, hc⟩
      cases i with
      | zero => left; simpa using hi.symm
      | succ i =>
        right
        rw [if_pos (hc 0 (by omega) z (by simp))]
        exact (mem_upto B x R).2 ⟨i, by simpa using hi, fun k hk y hy => hc (k + 1) (by omega) y (by simpa using hy)⟩
/-- Does a man reach so far, by that way? -/
def reachB (m : Int) (way far : Nat) : Bool := goesB m way && (far == 1 || slidesB m)
theorem slides_goes {m : Int} {way : Nat} (h : way < 16) (h1 : slidesB m = true) (h2 : goesB m way = true) : way < 8 := by
  unfold slidesB at h1
  unfold goesB at h2
  simp only [Bool.or_eq_true, beq_iff_eq] at h1
  rcases h1 with (h1 | h1) | h1 <;> rw [h1] at h2 <;> simp at h2 <;> omega
theorem reach_less {m : Int} {way i k : Nat} (h : reachB m way (i + 1) = true) (hk : k < i) : reachB m way (k + 1) = true := by
  unfold reachB at h ⊢
  simp only [Bool.and_eq_true, Bool.or_eq_true, beq_iff_eq] at h ⊢
  exact ⟨h.1, .inr (by rcases h.2 with h | h; omega; exact h)⟩
theorem reach_far {m : Int} {way i : Nat} (hw : way < 16) (h : reachB m way (i + 1) = true) : way < 8 ∨ i = 0 := by
  unfold reachB at h
  simp only [Bool.and_eq_true, Bool.or_eq_true, beq_iff_eq] at h
  rcases h.2 with h2 | h2
  · right; omega
  · left; exact slides_goes hw h2 h.1
/-- What the man on s strikes. -/
def strikeL (B : List Int) (s : Int) : List Int := (ofL (bAt B s) s).flatMap (uptoL B)
theorem mem_one (B : List Int) (x : Int) (l : List Int) : (∃ a ∈ oneL l, x ∈ uptoL B a) ↔ x ∈ uptoL B l := by
  unfold oneL
  split
  · next h => rw [List.eq_nil_of_length_eq_zero h]; simp [uptoL]
  · simp
theorem mem_strike (B : List Int) (s x : Int) : x ∈ strikeL B s ↔ ∃ way i, way < 16 ∧ reachB (bAt B s) way (i + 1) = true ∧ Sight B s way i x := by
  unfold strikeL ofL ofN
  generalize bAt B s = m
  rw [List.mem_flatMap]
  simp only [List.mem_flatMap, List.mem_filter, List.mem_range]
  constructor
  · rintro ⟨l, ⟨way, ⟨hw, hg⟩, hl⟩, hx⟩
    have hx := (mem_one B x _).1 ⟨l, hl, hx⟩
    obtain ⟨i, hi, hc⟩ := (mem_upto B x _).1 hx
    by_cases hs : slidesB m = true
    · have h8 := slides_goes hw hs hg
      have e : cutL m (alongL way s) = rayW s way := by unfold cutL alongL rayW; rw [if_pos hs, if_neg (by omega)]
      rw [e] at hi hc
      exact ⟨way, i, hw, by unfold reachB; rw [hg, hs]; simp, hi, hc⟩
    · have hs' : slidesB m = false := by simpa using hs
      have e : cutL m (alongL way s) = (rayW s way).take 1 := by
        unfold cutL alongL rayW
        rw [hs']
        simp only [Bool.false_eq_true, if_false]
        split
        · rw [List.take_take]; rfl
        · rfl
      rw [e] at hi hc
      rw [List.getElem?_take] at hi
      split at hi
      · next h1 =>
        obtain rfl : i = 0 := by omega
        exact ⟨way, 0, hw, by unfold reachB; rw [hg]; simp, hi, fun k hk => by omega⟩
      · cases hi
  · rintro ⟨way, i, hw, hr, hi, hc⟩
    have hr' := hr
    unfold reachB at hr
    simp only [Bool.and_eq_true, Bool.or_eq_true, beq_iff_eq] at hr
    obtain ⟨hg, hr⟩ := hr
    have key : x ∈ uptoL B (cutL m (alongL way s)) := by
      rw [mem_upto]
      by_cases hs : slidesB m = true
      · have h8 := slides_goes hw hs hg
        have e : cutL m (alongL way s) = rayW s way := by unfold cutL alongL rayW; rw [if_pos hs, if_neg (by omega)]
        rw [e]
        exact ⟨i, hi, hc⟩
      · obtain rfl : i = 0 := by rcases hr with h | h; omega; exact absurd h hs
        have hs' : slidesB m = false := by simpa using hs
        have e : cutL m (alongL way s) = (rayW s way).take 1 := by
          unfold cutL alongL rayW
          rw [hs']
          simp only [Bool.false_eq_true, if_false]
          split
          · rw [List.take_take]; rfl
          · rfl
        rw [e]
        exact ⟨0, by rw [List.getElem?_take]; exact hi, fun k hk => by omega⟩
    obtain ⟨l, hl, hx⟩ := (mem_one B x _).2 key
    exact ⟨l, ⟨way, ⟨hw, hg⟩, hl⟩, hx⟩
/-- What is shown along a way: the square, the way, how far. -/
def seeL (ans : Int → Nat → Nat → Bool) (B : List Int) (way : Nat) : Nat → List Int → List (Int × Nat × Nat)
  | _, [] => []
  | far, t :: ts => (t, way, far) :: if ans t way far && (bAt B t == 0) then seeL ans B way (far + 1) ts else []
def lookN (ans : Int → Nat → Nat → Bool) (B : List Int) (s : Int) (n : Nat) : List (Int × Nat × Nat) := (List.range n).flatMap fun way => seeL ans B way 1 (rayW s way)
def lookL (ans : Int → Nat → Nat → Bool) (B : List Int) (s : Int) : List (Int × Nat × Nat) := lookN ans B s 16
theorem lookN_succ (ans : Int → Nat → Nat → Bool) (B : List Int) (s : Int) (n : Nat) : lookN ans B s (n + 1) = lookN ans B s n ++ seeL ans B n 1 (rayW s n) := by
  unfold lookN; rw [List.range_succ, List.flatMap_append]; simp
theorem mem_see (ans : Int → Nat → Nat → Bool) (B : List Int) (way : Nat) (c : Int × Nat × Nat) : ∀ (R : List Int) (f0 : Nat), c ∈ seeL ans B way f0 R ↔
    c.2.1 = way ∧ ∃ i : Nat, c.2.2 = f0 + i ∧ R[i]? = some c.1 ∧ ∀ k, k < i → ∀ y, R[k]? = some y → bAt B y = 0 ∧ ans y way (f0 + k) = true
  | [], f0 => by simp [seeL]
  | z :: R, f0 => by
    unfold seeL
    rw [List.mem_cons]
    constructor
    · rintro (rfl | h)
      · exact ⟨rfl, 0, rfl, rfl, fun k hk => by omega⟩
      · split at h
        · next hz =>
          simp only [Bool.and_eq_true, beq_iff_eq] at hz
          obtain ⟨e, i, hf, hi, hc⟩ := (mem_see ans B way c R (f0 + 1)).1 h
          refine ⟨e, i + 1, by omega, by simpa using hi, fun k hk y hy => ?_⟩
          cases k with
          | zero => simp at hy; rw [← hy]; exact ⟨hz.2, hz.1⟩
          | succ k => rw [show f0 + (k + 1) = f0 + 1 + k by omega]; exact hc k (by omega) y (by simpa using hy)
        · cases h
    · rintro ⟨e, i, hf, hi, hc⟩
      cases i with
      | zero =>
        left
        obtain ⟨c1, c2, c3⟩ := c
        simp at hi hf e
        subst hi hf e
        rfl
      | succ i =>
        right
        have h0 := hc 0 (by omega) z (by simp)
        rw [if_pos (by rw [Bool.and_eq_true, beq_iff_eq]; exact ⟨h0.2, h0.1⟩)]
        refine (mem_see ans B way c R (f0 + 1)).2 ⟨e, i, by omega, by simpa using hi, fun k hk y hy => ?_⟩
        have := hc (k + 1) (by omega) y (by simpa using hy)
        rw [show f0 + (k + 1) = f0 + 1 + k by omega] at this
        exact this
theorem see_order (ans : Int → Nat → Nat → Bool) (B : List Int) (way : Nat) : ∀ (R : List Int) (f0 : Nat), (seeL ans B way f0 R).Pairwise fun a b => a.2.2 < b.2.2
  | [], f0 => by simp [seeL]
  | z :: R, f0 => by
    unfold seeL
    rw [List.pairwise_cons]
    split
    · refine ⟨fun c hc => ?_, see_order ans B way R (f0 + 1)⟩
      obtain ⟨_, i, hi, _⟩ := (mem_see ans B way c R (f0 + 1)).1 hc
      show f0 < c.2.2
      omega
    · simp
theorem mem_look (ans : Int → Nat → Nat → Bool) (B : List Int) (s : Int) (c : Int × Nat × Nat) : c ∈ lookL ans B s ↔
    c.2.1 < 16 ∧ ∃ i : Nat, c.2.2 = i + 1 ∧ Sight B s c.2.1 i c.1 ∧ ∀ k, k < i → ∀ y, (rayW s c.2.1)[k]? = some y → ans y c.2.1 (k + 1) = true := by
  unfold lookL lookN
  rw [List.mem_flatMap]
  constructor
  · rintro ⟨way, hw, h⟩
    obtain ⟨e, i, hf, hi, hc⟩ := (mem_see ans B way c _ 1).1 h
    subst e
    exact ⟨List.mem_range.1 hw, i, by omega, ⟨hi, fun k hk y hy => (hc k hk y hy).1⟩, fun k hk y hy => by rw [Nat.add_comm]; exact (hc k hk y hy).2⟩
  · rintro ⟨hw, i, hf, ⟨hi, hc⟩, ha⟩
    exact ⟨c.2.1, List.mem_range.2 hw, (mem_see ans B _ c _ 1).2 ⟨rfl, i, by omega, hi, fun k hk y hy => ⟨hc k hk y hy, by rw [Nat.add_comm]; exact ha k hk y hy⟩⟩⟩
theorem look_nodup (ans : Int → Nat → Nat → Bool) (B : List Int) (s : Int) : (lookL ans B s).Nodup := by
  unfold lookL lookN List.Nodup
  rw [List.pairwise_flatMap]
  refine ⟨fun way _ => (see_order ans B way _ 1).imp fun h e => by rw [e] at h; omega, List.pairwise_lt_range.imp fun {a b} hab x hx y hy e => ?_⟩
  have h1 := ((mem_see ans B a x _ 1).1 hx).1
  have h2 := ((mem_see ans B b y _ 1).1 hy).1
  rw [e] at h1
  omega
theorem told_nodup (ans : Int → Nat → Nat → Bool) (B : List Int) (s : Int) (h0 : 0 ≤ s) (h1 : s < 64) (p : Int × Nat × Nat → Bool) (hp : ∀ c ∈ lookL ans B s, p c = true → c.2.1 < 8 ∨ c.2.2 = 1) :
    (((lookL ans B s).filter p).map (·.1)).Nodup := by
  unfold List.Nodup
  rw [List.pairwise_map]
  refine List.Pairwise.imp_of_mem (R := fun a b => a ≠ b) (fun {a b} ha hb hne e => hne ?_) ((look_nodup ans B s).filter p)
  obtain ⟨ha, pa⟩ := List.mem_filter.1 ha
  obtain ⟨hb, pb⟩ := List.mem_filter.1 hb
  have qa := hp a ha pa
  have qb := hp b hb pb
  obtain ⟨wa, i, ia, sa, _⟩ := (mem_look ans B s a).1 ha
  obtain ⟨wb, j, ib, sb, _⟩ := (mem_look ans B s b).1 hb
  rw [← e] at sb
  have := way_uniq h0 h1 wa wb (i := i) (j := j) (by omega) (by omega) sa.1 sb.1
  obtain ⟨a1, a2, a3⟩ := a
  obtain ⟨b1, b2, b3⟩ := b
  simp at this ia ib e ⊢
  omega
/-- Squares as numbers of 64 bits. -/
def zn (l : List Nat) : List Int := l.map fun (n : Nat) => (n : Int)
theorem sort_sel (L : List Int) (p : Nat → Bool) (hn : L.Nodup) (hm : ∀ x : Int, x ∈ L ↔ ∃ n : Nat, n < 64 ∧ x = (n : Int) ∧ p n = true) : (L.mergeSort fun x y => decide (x ≤ y)) = zn (sel p 64) := by
  have hs : (zn (sel p 64)).Pairwise fun a b => a < b := by
    unfold zn sel
    rw [List.pairwise_map]
    exact (List.pairwise_lt_range.filter p).imp fun h => by omega
  have hperm : L.Perm (zn (sel p 64)) := by
    rw [List.perm_ext_iff_of_nodup hn (hs.imp fun h => by omega)]
    intro x
    rw [hm]
    unfold zn sel
    simp only [List.mem_map, List.mem_filter, List.mem_range]
    constructor
    · rintro ⟨n, a, b, c⟩; exact ⟨n, ⟨a, c⟩, b.symm⟩
    · rintro ⟨n, ⟨a, c⟩, b⟩; exact ⟨n, a, b.symm, c⟩
  refine List.Perm.eq_of_pairwise (le := fun a b => a ≤ b) (fun a b _ _ h1 h2 => by omega) ?_ (hs.imp fun h => by omega) ((List.mergeSort_perm _ _).trans hperm)
  exact (List.pairwise_mergeSort (le := fun x y : Int => decide (x ≤ y)) (fun a b c h1 h2 => by simp at *; omega) (fun a b => by simp; omega) L).imp fun h => by simpa using h
/-- Does the man on one square strike another? -/
def hitB (B : List Int) (s t : Int) : Bool := (strikeL B s).contains t
theorem hitB_iff (B : List Int) (s t : Int) : hitB B s t = true ↔ t ∈ strikeL B s := by unfold hitB; simp
def okS (s : Int) : Bool := decide (0 ≤ s) && decide (s < 64)
def strikesN (B : List Int) (s : Int) : List Nat := sel (fun n => hitB B s (n : Int)) 64
def byN (B : List Int) (s side : Int) : List Nat := sel (fun n => (sideI (B.getD n 0) == side) && hitB B (n : Int) s) 64
/-- What is told of a man's strikes. -/
def ansM (m : Int) : Int → Nat → Nat → Bool := fun _ way far => reachB m way far
def toldM (m : Int) : Int × Nat × Nat → Bool := fun c => reachB m c.2.1 c.2.2
def outM (B : List Int) (s : Int) : List Int := ((lookL (ansM (bAt B s)) B s).filter (toldM (bAt B s))).map (·.1)
theorem mem_strike_on {B : List Int} {s x : Int} (h0 : 0 ≤ s) (h1 : s < 64) (h : x ∈ strikeL B s) : 0 ≤ x ∧ x < 64 := by
  obtain ⟨way, i, hw, _, hs⟩ := (mem_strike B s x).1 h
  have := hs.on h0 h1 hw
  exact ⟨this.1, this.2.1⟩
theorem mem_outM (B : List Int) (s x : Int) : x ∈ outM B s ↔ x ∈ strikeL B s := by
  rw [mem_strike]
  unfold outM
  rw [List.mem_map]
  constructor
  · rintro ⟨c, hc, rfl⟩
    obtain ⟨hc, hp⟩ := List.mem_filter.1 hc
    obtain ⟨hw, i, hi, hs, _⟩ := (mem_look _ B s c).1 hc
    exact ⟨c.2.1, i, hw, by unfold toldM at hp; rw [hi] at hp; exact hp, hs⟩
  · rintro ⟨way, i, hw, hr, hs⟩
    exact ⟨(x, way, i + 1), List.mem_filter.2 ⟨(mem_look _ B s _).2 ⟨hw, i, rfl, hs, fun k hk y _ => reach_less hr hk⟩, hr⟩, rfl⟩
theorem sort_outM (B : List Int) (s : Int) (h0 : 0 ≤ s) (h1 : s < 64) : ((outM B s).mergeSort fun x y => decide (x ≤ y)) = zn (strikesN B s) := by
  refine sort_sel _ _ (told_nodup _ B s h0 h1 _ fun c hc hp => ?_) fun x => ?_
  · obtain ⟨hw, i, hi, hs, _⟩ := (mem_look _ B s c).1 hc
    have hp' : reachB (bAt B s) c.2.1 (i + 1) = true := by unfold toldM at hp; rw [hi] at hp; exact hp
    have := reach_far hw hp'
    omega
  · rw [mem_outM]
    constructor
    · intro h
      obtain ⟨a, b⟩ := mem_strike_on h0 h1 h
      obtain ⟨n, rfl⟩ := Int.eq_ofNat_of_zero_le a
      exact ⟨n, by omega, rfl, (hitB_iff B s _).2 h⟩
    · rintro ⟨n, _, rfl, h⟩
      exact (hitB_iff B s _).1 h
/-- Who strikes a square. -/
def ansW : Int → Nat → Nat → Bool := fun _ way _ => decide (way < 8)
def toldW (B : List Int) (side : Int) : Int × Nat × Nat → Bool := fun c => (sideI (bAt B c.1) == side) && reachB (bAt B c.1) (backW c.2.1) c.2.2
def tellL (B : List Int) (s side : Int) : List (Int × Nat × Nat) := (lookL ansW B s).filter (toldW B side)
def outW (B : List Int) (s side : Int) : List Int := (tellL B s side).map (·.1)
theorem mem_tell {B : List Int} {s side : Int} {c : Int × Nat × Nat} (h0 : 0 ≤ s) (h1 : s < 64) : c ∈ tellL B s side ↔
    c.2.1 < 16 ∧ ∃ i : Nat, c.2.2 = i + 1 ∧ (c.2.1 < 8 ∨ i = 0) ∧ Sight B s c.2.1 i c.1 ∧ sideI (bAt B c.1) = side ∧ reachB (bAt B c.1) (backW c.2.1) (i + 1) = true := by
  unfold tellL
  rw [List.mem_filter, mem_look]
  unfold toldW ansW
  simp only [Bool.and_eq_true, beq_iff_eq]
  constructor
  · rintro ⟨⟨hw, i, hi, hs, ha⟩, hsd, hr⟩
    rw [hi] at hr
    refine ⟨hw, i, hi, ?_, hs, hsd, hr⟩
    have := reach_far (back_way hw).1 hr
    have := (back_way hw).2.2.2.2.1
    omega
  · rintro ⟨hw, i, hi, h8, hs, hsd, hr⟩
    refine ⟨⟨hw, i, hi, hs, fun k hk y _ => ?_⟩, hsd, by rw [hi]; exact hr⟩
    simp; omega
theorem mem_outW (B : List Int) (s side x : Int) (h0 : 0 ≤ s) (h1 : s < 64) : x ∈ outW B s side ↔ 0 ≤ x ∧ x < 64 ∧ sideI (bAt B x) = side ∧ s ∈ strikeL B x := by
  unfold outW
  rw [List.mem_map]
  constructor
  · rintro ⟨c, hc, rfl⟩
    obtain ⟨hw, i, hi, h8, hs, hsd, hr⟩ := (mem_tell h0 h1).1 hc
    obtain ⟨a, b, _⟩ := hs.on h0 h1 hw
    exact ⟨a, b, hsd, (mem_strike B _ s).2 ⟨backW c.2.1, i, (back_way hw).1, hr, hs.back h0 h1 hw⟩⟩
  · rintro ⟨a, b, hsd, h⟩
    obtain ⟨way, i, hw, hr, hs⟩ := (mem_strike B x s).1 h
    obtain ⟨b1, b2, b3, b4, b5, b6⟩ := back_way hw
    have h8 := reach_far hw hr
    refine ⟨(x, backW way, i + 1), (mem_tell h0 h1).2 ⟨b1, i, rfl, ?_, hs.back a b hw, hsd, ?_⟩, rfl⟩
    · show backW way < 8 ∨ i = 0
      omega
    · show reachB (bAt B x) (backW (backW way)) (i + 1) = true
      rw [b4]; exact hr
theorem sort_outW (B : List Int) (s side : Int) (h0 : 0 ≤ s) (h1 : s < 64) : ((outW B s side).mergeSort fun x y => decide (x ≤ y)) = zn (byN B s side) := by
  unfold byN
  refine sort_sel _ _ (told_nodup _ B s h0 h1 _ fun c hc hp => ?_) fun x => ?_
  · obtain ⟨hw, i, hi, h8, _⟩ := (mem_tell (side := side) h0 h1).1 (List.mem_filter.2 ⟨hc, hp⟩)
    omega
  · rw [mem_outW B s side x h0 h1]
    constructor
    · rintro ⟨a, b, hsd, h⟩
      obtain ⟨n, rfl⟩ := Int.eq_ofNat_of_zero_le a
      refine ⟨n, by omega, rfl, ?_⟩
      rw [Bool.and_eq_true, beq_iff_eq]
      exact ⟨hsd, (hitB_iff B _ s).2 h⟩
    · rintro ⟨n, hn, rfl, h⟩
      rw [Bool.and_eq_true, beq_iff_eq] at h
      exact ⟨by omega, by omega, h.1, (hitB_iff B _ s).1 h.2⟩
end Go.Proofs.YtkebpchhpidogaaGreatDoor
namespace Go.Proofs.YtkebpchhpidogaaGreatDoor
open Go.RowKit
set_option linter.unusedVariables false
set_option linter.unusedSimpArgs false

theorem wayF_wf (way : Nat) (h : way < 16) : (Lit.int .i64 (wayF way)).wf = true ∧ (Lit.int .i64 (wayR way)).wf = true := by
  have : ∀ i : Fin 16, (Lit.int .i64 (wayF i)).wf = true ∧ (Lit.int .i64 (wayR i)).wf = true := by decide +kernel
  exact this ⟨way, h⟩
theorem wright_yes (way : Nat) (h : way < 16) (w : World) : Calls Tryz.prog 104 #[.int .i64 way] w fun e w' => e = .returned (.bool true) ∧ w = w' := by
  have h1 : (0 : Int) ≤ (way : Int) := by omega
  have h2 : (way : Int) < 16 := by omega
  go_enter Tryz.func104, Tryz.ntmps104
  go_wp2
  go_ret
  exact ⟨rfl, rfl⟩
theorem wstep_is (way : Nat) (h : way < 16) (w : World) (hS : Steps w) :
    Calls Tryz.prog 103 #[.int .i64 way] w fun e w' => e = .returned (.tuple #[.int .i64 (wayF way), .int .i64 (wayR way)]) ∧ Kept w w' := by
  obtain ⟨hc1, hc2⟩ := hS way h
  have h1 : (0 : Int) ≤ (way : Int) := by omega
  have h2 : (way : Int) < 16 := by omega
  generalize wayF way = x at *
  generalize wayR way = y at *
  clear hS
  go_enter Tryz.func103, Tryz.ntmps103
  go_wp2_with fail
  refine (wright_yes way h _).mono ?_
  rintro e w' ⟨rfl, rfl⟩
  go_wp2
  go_quiet (fail)
  go_wp2
  go_ret2
  exact ⟨rfl, (Kept.refl w).drewN _⟩
theorem wback_is (way : Nat) (h : way < 16) (w : World) : Calls Tryz.prog 110 #[.int .i64 way] w fun e w' => e = .returned (.int .i64 (backW way : Nat)) ∧ w = w' := by
  have : ∀ i : Fin 16, ∀ w : World, Calls Tryz.prog 110 #[.int .i64 ((i : Nat) : Int)] w fun e w' => e = .returned (.int .i64 (backW i : Nat)) ∧ w = w' := by
    intro i w
    have hi := i.isLt
    rcases i with ⟨i, h⟩
    have hw : i < 4 ∨ (4 ≤ i ∧ i < 8) ∨ 8 ≤ i := by omega
    have e : ((backW i : Nat) : Int) = if i < 4 then ((i : Int) + 2) % 4 else if i < 8 then 4 + ((i : Int) + 2) % 4 else 8 + ((i : Int) + 4) % 8 := by
      unfold backW
      split
      · omega
      · split <;> omega
    have h16 : (i : Int) < 16 := by omega
    show Calls Tryz.prog 110 #[.int .i64 (i : Int)] w fun e w' => e = .returned (.int .i64 (backW i : Nat)) ∧ w = w'
    generalize backW i = b at *
    rcases hw with h1 | ⟨h1, h2⟩ | h1
    · rw [if_pos h1] at e
      have h1' : (i : Int) < 4 := by omega
      have q : Int.tmod ((i : Int) + 2) 4 = (b : Int) := by rw [e, Int.tmod_eq_emod_of_nonneg (by omega)]
      have HQ := Lib.hid e
      clear e
      go_enter Tryz.func110, Tryz.ntmps110
      go_wp2_with fail
      refine (wright_yes i h _).mono ?_
      rintro e w' ⟨rfl, rfl⟩
      go_wp2
      go_ret
      exact ⟨by rw [HQ.out]; rfl, rfl⟩
    · rw [if_neg (by omega), if_pos h2] at e
      have h1' : ¬ (i : Int) < 4 := by omega
      have h2' : (i : Int) < 8 := by omega
      have HQ := Lib.hid e
      clear e
      go_enter Tryz.func110, Tryz.ntmps110
      go_wp2_with fail
      refine (wright_yes i h _).mono ?_
      rintro e w' ⟨rfl, rfl⟩
      go_wp2
      go_ret
      exact ⟨by rw [HQ.out]; rfl, rfl⟩
    · rw [if_neg (by omega), if_neg (by omega)] at e
      have h1' : ¬ (i : Int) < 4 := by omega
      have h2' : ¬ (i : Int) < 8 := by omega
      have HQ := Lib.hid e
      clear e
      go_enter Tryz.func110, Tryz.ntmps110
      go_wp2_with fail
      refine (wright_yes i h _).mono ?_
      rintro e w' ⟨rfl, rfl⟩
      go_wp2
      go_ret
      exact ⟨by rw [HQ.out]; rfl, rfl⟩
  exact this ⟨way, h⟩ w
/-- A pawn reaches. -/
theorem wreach_pawn (m : Int) (way far : Nat) (h : way < 16) (hf : 1 ≤ far) (hf2 : far ≤ 1000) (w : World) (hS : Steps w) (hm : knd m = 1) :
    Calls Tryz.prog 91 #[.int .i64 m, .int .i64 way, .int .i64 far] w fun e w' => e = .returned (.bool (reachB m way far)) ∧ ∃ d, w' = w.drewN d := by
  have hk := Lib.hid (mknd_any m)
  have hp := knd_pawn hm
  have hc := (hS way h).2
  have e : reachB m way far = ((decide (4 ≤ way ∧ way < 8) && wayR way == (if m < 0 then -1 else 1)) && (far == 1)) := by
    unfold reachB goesB slidesB
    rw [hm]
    simp
  rw [hm] at hk
  have hW : (way : Int) < 16 := by omega
  have hW0 : (0 : Int) ≤ (way : Int) := by omega
  have hF : ¬ (far : Int) < 1 := by omega
  generalize wayR way = y at *
  generalize reachB m way far = b at *
  clear hm hS
  by_cases hfar : far = 1
  · subst hfar
    by_cases h1 : 4 ≤ way
    · have h1' : (4 : Int) ≤ (way : Int) := by omega
      by_cases h2 : way < 8
      · have h2' : (way : Int) < 8 := by omega
        rcases hp with rfl | rfl
        · have HE := Lib.hid (show b = (y == 1) by rw [e]; simp [h1, h2])
          clear e
          go_enter Tryz.func91, Tryz.ntmps91
          go_wp2_with fail
          refine (wright_yes way h _).mono ?_
          rintro e w' ⟨rfl, rfl⟩
          go_wp2_with fail
          refine (hk.out _).mono ?_
          rintro e w' ⟨rfl, rfl⟩
          go_wp2
          go_quiet (first | (go_at_call 30; exact quiet_same (mside_w 1 _ (by omega) (by omega))) | (go_at_call 105; exact quiet_same (ahead_w _)))
          go_wp2
          go_ret
          exact ⟨by rw [HE.out]; rfl, _, rfl⟩
        · have HE := Lib.hid (show b = (y == -1) by rw [e]; simp [h1, h2])
          clear e
          go_enter Tryz.func91, Tryz.ntmps91
          go_wp2_with fail
          refine (wright_yes way h _).mono ?_
          rintro e w' ⟨rfl, rfl⟩
          go_wp2_with fail
          refine (hk.out _).mono ?_
          rintro e w' ⟨rfl, rfl⟩
          go_wp2
          go_quiet (first | (go_at_call 30; exact quiet_same (mside_b (-1) _ (by omega) (by omega))) | (go_at_call 105; exact quiet_same (ahead_b _)))
          go_wp2
          go_ret
          exact ⟨by rw [HE.out]; rfl, _, rfl⟩
      · have h2' : decide ((way : Int) < 8) = false := by simp; omega
        have HE := Lib.hid (show b = false by rw [e]; simp; omega)
        clear e
        go_enter Tryz.func91, Tryz.ntmps91
        go_wp2_with fail
        refine (wright_yes way h _).mono ?_
        rintro e w' ⟨rfl, rfl⟩
        go_wp2_with fail
        refine (hk.out _).mono ?_
        rintro e w' ⟨rfl, rfl⟩
        go_wp2
        go_quiet (fail)
        go_wp2
        go_ret
        exact ⟨by rw [HE.out]; rfl, _, rfl⟩
    · have h1' : ¬ (4 : Int) ≤ (way : Int) := by omega
      have HE := Lib.hid (show b = false by rw [e]; simp; omega)
      clear e
      go_enter Tryz.func91, Tryz.ntmps91
      go_wp2_with fail
      refine (wright_yes way h _).mono ?_
      rintro e w' ⟨rfl, rfl⟩
      go_wp2_with fail
      refine (hk.out _).mono ?_
      rintro e w' ⟨rfl, rfl⟩
      go_wp2
      go_quiet (fail)
      go_wp2
      go_ret
      exact ⟨by rw [HE.out]; rfl, _, rfl⟩
  · have hfar' : ((far : Int) == 1) = false := by simp; omega
    have HE := Lib.hid (show b = false by rw [e]; simp; omega)
    clear e hfar
    by_cases h1 : 4 ≤ way
    · have h1' : (4 : Int) ≤ (way : Int) := by omega
      go_enter Tryz.func91, Tryz.ntmps91
      go_wp2_with fail
      refine (wright_yes way h _).mono ?_
      rintro e w' ⟨rfl, rfl⟩
      go_wp2_with fail
      refine (hk.out _).mono ?_
      rintro e w' ⟨rfl, rfl⟩
      go_wp2
      go_quiet (fail)
      go_wp2
      go_ret
      exact ⟨by rw [HE.out]; rfl, _, rfl⟩
    · have h1' : ¬ (4 : Int) ≤ (way : Int) := by omega
      go_enter Tryz.func91, Tryz.ntmps91
      go_wp2_with fail
      refine (wright_yes way h _).mono ?_
      rintro e w' ⟨rfl, rfl⟩
      go_wp2_with fail
      refine (hk.out _).mono ?_
      rintro e w' ⟨rfl, rfl⟩
      go_wp2
      go_quiet (fail)
      go_wp2
      go_ret
      exact ⟨by rw [HE.out]; rfl, _, rfl⟩
set_option maxHeartbeats 2000000 in
theorem wreach_q (m : Int) (way far : Nat) (h : way < 16) (hf : 1 ≤ far) (hf2 : far ≤ 1000) (w : World) (hS : Steps w) :
    Calls Tryz.prog 91 #[.int .i64 m, .int .i64 way, .int .i64 far] w fun e w' => e = .returned (.bool (reachB m way far)) ∧ ∃ d, w' = w.drewN d := by
  by_cases hm : knd m = 1
  · exact wreach_pawn m way far h hf hf2 w hS hm
  have hk := Lib.hid (mknd_any m)
  have hq := knd_is m
  have e : reachB m way far = ((if knd m = 2 then decide (8 ≤ way) else if knd m = 3 then decide (4 ≤ way ∧ way < 8) else if knd m = 4 then decide (way < 4) else if knd m = 0 then false else decide (way < 8)) && (far == 1 || (knd m == 3 || knd m == 4 || knd m == 5))) := by unfold reachB goesB slidesB; rw [if_neg hm]
  generalize reachB m way far = b at *
  clear hS
  generalize knd m = q at *
  have hw : (way < 4 ∧ way < 8) ∨ (4 ≤ way ∧ way < 8) ∨ (4 ≤ way ∧ 8 ≤ way) := by omega
  have hW : (way : Int) < 16 := by omega
  have hF : ¬ (far : Int) < 1 := by omega
  have hff : (far = 1 ∧ ((far : Int) == 1) = true) ∨ (far ≠ 1 ∧ ((far : Int) == 1) = false) := by
    by_cases h1 : far = 1
    · left; exact ⟨h1, by simp; omega⟩
    · right; exact ⟨h1, by simp; omega⟩
  rcases hq with rfl | rfl | rfl | rfl | rfl | rfl | rfl
  case inr.inl => exact absurd rfl hm
  all_goals
    clear hm
    rcases hw with ⟨h1, h2⟩ | ⟨h1, h2⟩ | ⟨h1, h2⟩ <;> rcases hff with ⟨h3, h4⟩ | ⟨h3, h4⟩
  all_goals
    have hb : b = true ∨ b = false := by cases b <;> simp
    have HE := Lib.hid e
    have H1 := Lib.hid h1
    have H2 := Lib.hid h2
    have H3 := Lib.hid h3
    clear e h3
    go_enter Tryz.func91, Tryz.ntmps91
    go_wp2_with fail
    refine (wright_yes way h _).mono ?_
    rintro e w' ⟨rfl, rfl⟩
    go_wp2_with fail
    refine (hk.out _).mono ?_
    rintro e w' ⟨rfl, rfl⟩
    go_wp2
    all_goals
      have H1 := H1.out
      have H2 := H2.out
      have H3 := H3.out
      have HE := HE.out
      first
        | (exfalso; omega)
        | (go_ret; refine ⟨?_, 0, rfl⟩; rw [HE]; simp [H1, H2, H3]; done)
        | (go_ret; refine ⟨?_, 0, rfl⟩; rw [HE]; simp [H1, H2, H3]; omega)
        | (have H4 : ¬ way < 8 := (by omega); go_ret; refine ⟨?_, 0, rfl⟩; rw [HE]; simp [H3, H4]; done)
        | (have H4 : ¬ way < 8 := (by omega); go_ret; refine ⟨?_, 0, rfl⟩; rw [HE]; simp [H3, H4]; omega)
        | (have H4 : ¬ way < 4 := (by omega); go_ret; refine ⟨?_, 0, rfl⟩; rw [HE]; simp [H2, H3, H4]; done)
        | (have H4 : ¬ 8 ≤ way := (by omega); go_ret; refine ⟨?_, 0, rfl⟩; rw [HE]; simp [H2, H3, H4]; done)
        | (have H4 : ¬ 4 ≤ way := (by omega); go_ret; refine ⟨?_, 0, rfl⟩; rw [HE]; simp [H2, H3, H4]; done)
theorem wreach_is (m : Int) (way far : Nat) (h : way < 16) (hf : 1 ≤ far) (hf2 : far ≤ 1000) (w : World) (hS : Steps w) :
    Calls Tryz.prog 91 #[.int .i64 m, .int .i64 way, .int .i64 far] w fun e w' => e = .returned (.bool (reachB m way far)) ∧ Kept w w' :=
  (wreach_q m way far h hf hf2 w hS).mono fun _ _ ⟨h1, d, h2⟩ => ⟨h1, by rw [h2]; exact (Kept.refl w).drewN d⟩
theorem quiet_more {P : Program} {f : FuncId} {args : Array Value} {w : World} {n : Nat} {v : Value}
    (h : Calls P f args (w.drewN n) fun e w' => e = .returned v ∧ ∃ d, w' = (w.drewN n).drewN d) : Calls P f args (w.drewN n) fun e w'' => e = .returned v ∧ ∃ m, w'' = w.drewN m :=
  h.mono fun _ _ ⟨he, d, hm⟩ => ⟨he, n + d, by rw [hm]; exact World.drewN_drewN _ _ _⟩
theorem reach_one (m : Int) (way : Nat) : reachB m way 1 = goesB m way := by unfold reachB; simp
theorem reach_two {m : Int} {way : Nat} (h : goesB m way = true) : reachB m way 2 = slidesB m := by unfold reachB; rw [h]; simp
theorem reach1_is (m : Int) (way : Nat) (h : way < 16) (w : World) (hS : Steps w) :
    Calls Tryz.prog 91 #[.int .i64 m, .int .i64 way, .int .i64 1] w fun e w' => e = .returned (.bool (goesB m way)) ∧ Kept w w' := by
  have := wreach_is m way 1 h (by omega) (by omega) w hS
  rw [reach_one] at this
  exact this
theorem reach2_is (m : Int) (way : Nat) (h : way < 16) (w : World) (hS : Steps w) (hg : goesB m way = true) :
    Calls Tryz.prog 91 #[.int .i64 m, .int .i64 way, .int .i64 2] w fun e w' => e = .returned (.bool (slidesB m)) ∧ Kept w w' := by
  have := wreach_is m way 2 h (by omega) (by omega) w hS
  rw [reach_two hg] at this
  exact this
theorem Steps.drew {w : World} (h : Steps w) (n : Nat) : Steps (w.drewN n) := h.kept ((Kept.refl w).drewN n)
end Go.Proofs.YtkebpchhpidogaaGreatDoor
