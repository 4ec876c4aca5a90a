/- Small facts that the other texts share: memory that only grows, ranges over strings, texts that are unlike · Contracts of the small functions of squares (Right, File, Rank, At and the document's own Right, File, Rank): each returns what it is said to, and the world stays as it was · Contracts of At's and Step's opposites in the document's own answer (Find, Step), of Step, Far and the document's Far · Contracts of the small functions of men: Right, Kind, Side, Make, Other, inOrder, and the document's Kind. -/
import Derived.Test.YtkebpchhpidogaaGreatDoorRows
import Derived.WalkKit
import Derived.ProofKit
import Derived.OpenShut
import Derived.LoopTactic
import Derived.WalkLawsBesides
import Derived.Outline
import Derived.Lib.Hide
import Derived.Deep.QuietTactic
import Derived.BigQuiet
import Derived.Laws.Cover4
import Derived.WalkSpells
import Derived.Laws.RangeAny
import Derived.IntWalk
namespace Go.Proofs.YtkebpchhpidogaaGreatDoor
open Go.RowKit
set_option linter.unusedVariables false

theorem Qh {p : Prop} (h : p) : Hid p := h

theorem ret_int {k : IntKind} {a b : Int} (h : a = b) : Ending.returned (.int k a) = .returned (.int k b) := by rw [h]
theorem grown_trans {a b c : World} (h : Grown a b) (k : Grown b c) : Grown a c :=
  ⟨World.keptBut_trans h.1 k.1, fun x => (k.2.1 x).trans (h.2.1 x), Nat.le_trans h.2.2 k.2.2⟩
theorem grown_drewN (w : World) (n : Nat) : Grown w (w.drewN n) := Grown.refl w
theorem frozen_alloc_iter (w : World) (s : ByteArray) (p : Nat) (a : Addr) : (w.iter s p).frozen? a = w.frozen? a := by
  by_cases h : a.block = w.heap.size
  · have e1 : (w.iter s p).heap[a.block]? = some (.stringIter s p) := by rw [h]; exact World.iter_heap w s p
    have e2 : w.heap[a.block]? = none := by rw [h]; simp
    simp [World.frozen?, e1, e2]
  · exact World.frozen?_alloc_old _ _ _ h
theorem kept_iter (w : World) (s : ByteArray) (p : Nat) : w.keptBut (w.iter s p) (fun _ => False) := by
  refine ⟨rfl, rfl, fun i hi => ?_⟩
  have e : (w.iter s p).heap[i]? = w.heap[i]? := by
    show (w.heap.push _)[i]? = _
    rw [Array.getElem?_push, if_neg (by omega)]
  rw [e]
  split <;> simp_all
theorem grown_iter (w : World) (s : ByteArray) (p : Nat) : Grown w (w.iter s p) :=
  ⟨kept_iter w s p, fun a => frozen_alloc_iter w s p a, by show w.heap.size ≤ (w.heap.push _).size; simp⟩
theorem width_pos (s : ByteArray) (pos : Nat) (h : pos < s.size) : 1 ≤ (Utf8.decode s pos).2 := by
  by_cases ha : (s[pos]'h).toNat < 128
  · rw [decode_ascii s pos h ha]
    exact Nat.le_refl _
  · exact (decode_high s pos h (by omega)).2
theorem str_eq_false {a b : ByteArray} (h : a ≠ b) : (a.toList == b.toList) = false := by
  rw [beq_eq_false_iff_ne]
  intro e
  rw [ByteArray.toList_eq, ByteArray.toList_eq] at e
  exact h (WideShapes.bytes_inj e)
/-- A string's iterator at block i, moved on. -/
def iterAt (w : World) (i : Nat) (s : ByteArray) (p : Nat) : World := { w with heap := w.heap.setIfInBounds i (.stringIter s p) }
theorem lt_of_heap {w : World} {i : Nat} {o : Obj} (h : w.heap[i]? = some o) : i < w.heap.size := by
  obtain ⟨h, _⟩ := Array.getElem?_eq_some_iff.1 h
  exact h
theorem grown_heap_iter {a b : World} (g : Grown a b) {i : Nat} {s : ByteArray} {p : Nat} (h : a.heap[i]? = some (.stringIter s p)) : b.heap[i]? = some (.stringIter s p) := by
  have hk := g.1.2.2 i (lt_of_heap h)
  rw [h] at hk
  split at hk <;> simp_all
theorem iterAt_heap {w : World} {i : Nat} {o : Obj} (h : w.heap[i]? = some o) (s : ByteArray) (p : Nat) : (iterAt w i s p).heap[i]? = some (.stringIter s p) := by
  have := lt_of_heap h
  show (w.heap.setIfInBounds i _)[i]? = _
  simp [this]
theorem next_at {P : Program} (w : World) (i : Nat) (s : ByteArray) (pos : Nat) (ty : TypeId) (hi : w.heap[i]? = some (.stringIter s pos)) (h : pos < s.size) :
    (Instr.next (.pointer (some ⟨i, 0, none⟩)) true ty).run P w = .ok (.tuple #[.bool true, .int .i64 pos, .int .i32 (Utf8.decode s pos).1]) (iterAt w i s (pos + (Utf8.decode s pos).2)) := by
  simp only [Instr.next, getObj, setObj, Sem.run_bind, Sem.run, hi, Result.andThen, h, if_true]
  simp [goInt, iterAt]
theorem next_at_end {P : Program} (w : World) (i : Nat) (s : ByteArray) (pos : Nat) (ty : TypeId) (hi : w.heap[i]? = some (.stringIter s pos)) (h : ¬ pos < s.size) :
    (Instr.next (.pointer (some ⟨i, 0, none⟩)) true ty).run P w = .ok (.tuple #[.bool false]) w := by
  simp [Instr.next, getObj, Sem.run, hi, h]
theorem grown_iterAt {a b : World} (g : Grown a b) {i : Nat} (hi : a.heap.size ≤ i) {s : ByteArray} {p : Nat} (h : b.heap[i]? = some (.stringIter s p)) (q : Nat) : Grown a (iterAt b i s q) := by
  refine ⟨⟨g.1.1, g.1.2.1, fun j hj => ?_⟩, fun x => ?_, ?_⟩
  · have e : (iterAt b i s q).heap[j]? = b.heap[j]? := by
      show (b.heap.setIfInBounds i _)[j]? = _
      rw [Array.getElem?_setIfInBounds_ne (by omega)]
    rw [e]
    exact g.1.2.2 j hj
  · rw [← g.2.1 x]
    by_cases hx : x.block = i
    · have e1 := iterAt_heap h s q
      subst hx
      simp [World.frozen?, e1, h]
    · have e : (iterAt b i s q).heap[x.block]? = b.heap[x.block]? := by
        show (b.heap.setIfInBounds i _)[x.block]? = _
        rw [Array.getElem?_setIfInBounds_ne (by omega)]
      simp [World.frozen?, e]
  · show a.heap.size ≤ (b.heap.setIfInBounds i _).size
    simp [g.2.2]
theorem grown_cell {a b : World} (g : Grown a b) {i off : Nat} {v : Value} (h : a.cell? ⟨i, off, none⟩ = some v) : b.cell? ⟨i, off, none⟩ = some v := by
  have hi : i < a.heap.size := by
    by_cases hi : i < a.heap.size
    · exact hi
    · have e : a.heap[i]? = none := by simp; omega
      simp [World.cell?, e] at h
  rw [World.keptBut.cell g.1 hi (fun h => h), h]
theorem iterAt_iter (w : World) (s : ByteArray) (p q : Nat) : iterAt (w.iter s p) w.heap.size s q = w.iter s q := World.iter_set w s p q
end Go.Proofs.YtkebpchhpidogaaGreatDoor
namespace Go.Proofs.YtkebpchhpidogaaGreatDoor
open Go.RowKit
set_option linter.unusedVariables false

theorem right_yes (s : Int) (w : World) (h0 : 0 ≤ s) (h1 : s < 64) :
    Calls Tryz.prog 40 #[.int .i64 s] w fun e w' => e = .returned (.bool true) ∧ w = w' := by
  go_enter Tryz.func40, Tryz.ntmps40
  go_wp2
  go_ret
  exact ⟨rfl, rfl⟩
theorem right_no (s : Int) (w : World) (h : s < 0 ∨ 64 ≤ s) :
    Calls Tryz.prog 40 #[.int .i64 s] w fun e w' => e = .returned (.bool false) ∧ w = w' := by
  rcases h with h | h
  · go_enter Tryz.func40, Tryz.ntmps40
    go_wp2
    go_ret
    exact ⟨rfl, rfl⟩
  · have h0 : 0 ≤ s := by omega
    have hb : decide (s < 64) = false := by simp; omega
    go_enter Tryz.func40, Tryz.ntmps40
    go_wp2
    go_ret
    exact ⟨rfl, rfl⟩

theorem file_yes (s : Int) (w : World) (h0 : 0 ≤ s) (h1 : s < 64) :
    Calls Tryz.prog 48 #[.int .i64 s] w fun e w' => e = .returned (.int .i64 (s % 8)) ∧ w = w' := by
  go_enter Tryz.func48, Tryz.ntmps48
  go_wp2_with (go_at_call 40; refine (right_yes _ _ (by omega) (by omega)).mono ?_; rintro e w' ⟨rfl, rfl⟩)
  go_ret
  exact ⟨rfl, rfl⟩
theorem file_no (s : Int) (w : World) (h : s < 0 ∨ 64 ≤ s) :
    Calls Tryz.prog 48 #[.int .i64 s] w fun e w' => e = .returned (.int .i64 (-1)) ∧ w = w' := by
  go_enter Tryz.func48, Tryz.ntmps48
  go_wp2_with (go_at_call 40; refine (right_no _ _ h).mono ?_; rintro e w' ⟨rfl, rfl⟩)
  go_ret
  exact ⟨rfl, rfl⟩
theorem rank_yes (s : Int) (w : World) (h0 : 0 ≤ s) (h1 : s < 64) :
    Calls Tryz.prog 41 #[.int .i64 s] w fun e w' => e = .returned (.int .i64 (s / 8)) ∧ w = w' := by
  go_enter Tryz.func41, Tryz.ntmps41
  go_wp2_with (go_at_call 40; refine (right_yes _ _ (by omega) (by omega)).mono ?_; rintro e w' ⟨rfl, rfl⟩)
  go_ret
  exact ⟨rfl, rfl⟩
theorem rank_no (s : Int) (w : World) (h : s < 0 ∨ 64 ≤ s) :
    Calls Tryz.prog 41 #[.int .i64 s] w fun e w' => e = .returned (.int .i64 (-1)) ∧ w = w' := by
  go_enter Tryz.func41, Tryz.ntmps41
  go_wp2_with (go_at_call 40; refine (right_no _ _ h).mono ?_; rintro e w' ⟨rfl, rfl⟩)
  go_ret
  exact ⟨rfl, rfl⟩


theorem onEdge_yes (s : Int) (w : World) (h0 : 0 ≤ s) (h1 : s < 8) :
    Calls Tryz.prog 107 #[.int .i64 s] w fun e w' => e = .returned (.bool true) ∧ w = w' := by
  go_enter Tryz.func107, Tryz.ntmps107
  go_wp2
  go_ret
  exact ⟨rfl, rfl⟩
theorem onEdge_no (s : Int) (w : World) (h : s < 0 ∨ 8 ≤ s) :
    Calls Tryz.prog 107 #[.int .i64 s] w fun e w' => e = .returned (.bool false) ∧ w = w' := by
  rcases h with h | h
  · go_enter Tryz.func107, Tryz.ntmps107
    go_wp2
    go_ret
    exact ⟨rfl, rfl⟩
  · have h0 : 0 ≤ s := by omega
    have hb : decide (s < 8) = false := by simp; omega
    go_enter Tryz.func107, Tryz.ntmps107
    go_wp2
    go_ret
    exact ⟨rfl, rfl⟩
theorem at_yes (f r : Int) (w : World) (f0 : 0 ≤ f) (f1 : f < 8) (r0 : 0 ≤ r) (r1 : r < 8) :
    Calls Tryz.prog 93 #[.int .i64 f, .int .i64 r] w fun e w' => e = .returned (.tuple #[.int .i64 (r * 8 + f), .bool true]) ∧ w = w' := by
  go_enter Tryz.func93, Tryz.ntmps93
  go_wp2_with (go_at_call 107; refine (onEdge_yes _ _ (by omega) (by omega)).mono ?_; rintro e w' ⟨rfl, rfl⟩)
  go_ret2
  exact ⟨rfl, rfl⟩
theorem at_no (f r : Int) (w : World) (h : f < 0 ∨ 8 ≤ f ∨ r < 0 ∨ 8 ≤ r) :
    Calls Tryz.prog 93 #[.int .i64 f, .int .i64 r] w fun e w' => e = .returned (.tuple #[.int .i64 0, .bool false]) ∧ w = w' := by
  by_cases hf : f < 0 ∨ 8 ≤ f
  · go_enter Tryz.func93, Tryz.ntmps93
    go_wp2_with (go_at_call 107; refine (onEdge_no _ _ hf).mono ?_; rintro e w' ⟨rfl, rfl⟩)
    go_ret2
    exact ⟨rfl, rfl⟩
  · have f0 : 0 ≤ f := by omega
    have f1 : f < 8 := by omega
    have hr : r < 0 ∨ 8 ≤ r := by omega
    clear hf h
    go_enter Tryz.func93, Tryz.ntmps93
    go_wp2_with fail
    refine (onEdge_yes _ _ (by omega) (by omega)).mono ?_
    rintro e w' ⟨rfl, rfl⟩
    go_wp2_with fail
    refine (onEdge_no _ _ hr).mono ?_
    rintro e w' ⟨rfl, rfl⟩
    go_wp2
    go_ret2
    exact ⟨rfl, rfl⟩
theorem gap_is (a b : Int) (w : World) (a0 : 0 ≤ a) (a1 : a < 8) (b0 : 0 ≤ b) (b1 : b < 8) :
    Calls Tryz.prog 66 #[.int .i64 a, .int .i64 b] w fun e w' => e = .returned (.int .i64 (max (a - b) (b - a))) ∧ w = w' := by
  by_cases h : a < b
  · go_enter Tryz.func66, Tryz.ntmps66
    go_wp2
    go_ret
    exact ⟨ret_int (by omega), rfl⟩
  · go_enter Tryz.func66, Tryz.ntmps66
    go_wp2
    go_ret
    exact ⟨ret_int (by omega), rfl⟩
end Go.Proofs.YtkebpchhpidogaaGreatDoor
namespace Go.Proofs.YtkebpchhpidogaaGreatDoor
open Go.RowKit
set_option linter.unusedVariables false

theorem step_yes (s f r : Int) (w : World) (h0 : 0 ≤ s) (h1 : s < 64) (f0 : 0 ≤ s % 8 + f) (f1 : s % 8 + f < 8) (r0 : 0 ≤ s / 8 + r) (r1 : s / 8 + r < 8) :
    Calls Tryz.prog 71 #[.int .i64 s, .int .i64 f, .int .i64 r] w fun e w' => e = .returned (.tuple #[.int .i64 ((s / 8 + r) * 8 + (s % 8 + f)), .bool true]) ∧ w = w' := by
  go_enter Tryz.func71, Tryz.ntmps71
  go_wp2_with (first | (go_at_call 40; refine (right_yes _ _ (by omega) (by omega)).mono ?_; rintro e w' ⟨rfl, rfl⟩) | (go_at_call 48; refine (file_yes _ _ (by omega) (by omega)).mono ?_; rintro e w' ⟨rfl, rfl⟩) | (go_at_call 41; refine (rank_yes _ _ (by omega) (by omega)).mono ?_; rintro e w' ⟨rfl, rfl⟩) | (go_at_call 93; refine (at_yes _ _ _ (by omega) (by omega) (by omega) (by omega)).mono ?_; rintro e w' ⟨rfl, rfl⟩))
  go_ret2
  exact ⟨rfl, rfl⟩
theorem step_off (s f r : Int) (w : World) (h : s < 0 ∨ 64 ≤ s) :
    Calls Tryz.prog 71 #[.int .i64 s, .int .i64 f, .int .i64 r] w fun e w' => e = .returned (.tuple #[.int .i64 0, .bool false]) ∧ w = w' := by
  go_enter Tryz.func71, Tryz.ntmps71
  go_wp2_with (go_at_call 40; refine (right_no _ _ h).mono ?_; rintro e w' ⟨rfl, rfl⟩)
  go_ret2
  exact ⟨rfl, rfl⟩
theorem wrap_off (x : Int) (h0 : -9223372036854775808 ≤ x) (h1 : x < 9223372036854775808 + 8) (h : x < 0 ∨ 8 ≤ x) : wrap64 x < 0 ∨ 8 ≤ wrap64 x := by
  unfold wrap64; omega
theorem off_wrapped (s f r : Int) (h0 : 0 ≤ s) (h1 : s < 64) (wf : (Lit.int .i64 f).wf = true) (wr : (Lit.int .i64 r).wf = true) (h : s % 8 + f < 0 ∨ 8 ≤ s % 8 + f ∨ s / 8 + r < 0 ∨ 8 ≤ s / 8 + r) :
    wrap64 (s % 8 + f) < 0 ∨ 8 ≤ wrap64 (s % 8 + f) ∨ wrap64 (s / 8 + r) < 0 ∨ 8 ≤ wrap64 (s / 8 + r) := by
  have bf := bounds_i64 wf
  have br := bounds_i64 wr
  by_cases hx : s % 8 + f < 0 ∨ 8 ≤ s % 8 + f
  · rcases wrap_off _ (by omega) (by omega) hx with g | g
    · exact .inl g
    · exact .inr (.inl g)
  · rcases wrap_off (s / 8 + r) (by omega) (by omega) (by omega) with g | g
    · exact .inr (.inr (.inl g))
    · exact .inr (.inr (.inr g))
theorem step_no (s f r : Int) (w : World) (h0 : 0 ≤ s) (h1 : s < 64) (wf : (Lit.int .i64 f).wf = true) (wr : (Lit.int .i64 r).wf = true) (h : s % 8 + f < 0 ∨ 8 ≤ s % 8 + f ∨ s / 8 + r < 0 ∨ 8 ≤ s / 8 + r) :
    Calls Tryz.prog 71 #[.int .i64 s, .int .i64 f, .int .i64 r] w fun e w' => e = .returned (.tuple #[.int .i64 0, .bool false]) ∧ w = w' := by
  have H := Lib.hid (off_wrapped s f r h0 h1 wf wr h)
  clear wf wr h
  go_enter Tryz.func71, Tryz.ntmps71
  go_wp2_with (first | (go_at_call 40; refine (right_yes _ _ (by omega) (by omega)).mono ?_; rintro e w' ⟨rfl, rfl⟩) | (go_at_call 48; refine (file_yes _ _ (by omega) (by omega)).mono ?_; rintro e w' ⟨rfl, rfl⟩) | (go_at_call 41; refine (rank_yes _ _ (by omega) (by omega)).mono ?_; rintro e w' ⟨rfl, rfl⟩))
  refine (at_no _ _ _ H.out).mono ?_
  rintro e w' ⟨rfl, rfl⟩
  go_wp2
  go_ret2
  exact ⟨rfl, rfl⟩

/-- The distance, as a number. -/
def farI (a b : Int) : Int := max (max (a % 8 - b % 8) (b % 8 - a % 8)) (max (a / 8 - b / 8) (b / 8 - a / 8))
theorem far_yes (a b : Int) (w : World) (a0 : 0 ≤ a) (a1 : a < 64) (b0 : 0 ≤ b) (b1 : b < 64) :
    Calls Tryz.prog 50 #[.int .i64 a, .int .i64 b] w fun e w' => e = .returned (.int .i64 (farI a b)) ∧ w = w' := by
  go_enter Tryz.func50, Tryz.ntmps50
  go_wp2_with (first | (go_at_call 40; refine (right_yes _ _ (by omega) (by omega)).mono ?_; rintro e w' ⟨rfl, rfl⟩) | (go_at_call 48; refine (file_yes _ _ (by omega) (by omega)).mono ?_; rintro e w' ⟨rfl, rfl⟩) | (go_at_call 41; refine (rank_yes _ _ (by omega) (by omega)).mono ?_; rintro e w' ⟨rfl, rfl⟩) | (go_at_call 66; refine (gap_is _ _ _ (by omega) (by omega) (by omega) (by omega)).mono ?_; rintro e w' ⟨rfl, rfl⟩))
  all_goals
    go_ret
    exact ⟨ret_int (by unfold farI; omega), rfl⟩
theorem far_no (a b : Int) (w : World) (h : a < 0 ∨ 64 ≤ a ∨ b < 0 ∨ 64 ≤ b) :
    Calls Tryz.prog 50 #[.int .i64 a, .int .i64 b] w fun e w' => e = .returned (.int .i64 (-1)) ∧ w = w' := by
  by_cases ha : a < 0 ∨ 64 ≤ a
  · go_enter Tryz.func50, Tryz.ntmps50
    go_wp2_with (go_at_call 40; refine (right_no _ _ ha).mono ?_; rintro e w' ⟨rfl, rfl⟩)
    go_ret
    exact ⟨rfl, rfl⟩
  · have a0 : 0 ≤ a := by omega
    have a1 : a < 64 := by omega
    have hb : b < 0 ∨ 64 ≤ b := by omega
    clear ha h
    go_enter Tryz.func50, Tryz.ntmps50
    go_wp2_with fail
    refine (right_yes _ _ (by omega) (by omega)).mono ?_
    rintro e w' ⟨rfl, rfl⟩
    go_wp2_with fail
    refine (right_no _ _ hb).mono ?_
    rintro e w' ⟨rfl, rfl⟩
    go_wp2
    go_ret
    exact ⟨rfl, rfl⟩
end Go.Proofs.YtkebpchhpidogaaGreatDoor
namespace Go.Proofs.YtkebpchhpidogaaGreatDoor
open Go.RowKit
set_option linter.unusedVariables false

theorem mright_yes (m : Int) (w : World) (h0 : m ≠ 0) (h1 : -6 ≤ m) (h2 : m ≤ 6) :
    Calls Tryz.prog 51 #[.int .i64 m] w fun e w' => e = .returned (.bool true) ∧ w = w' := by
  have b0 : (m != 0) = true := bne_iff_ne.2 h0
  have b1 : (m == 0) = false := beq_eq_false_iff_ne.2 h0
  go_enter Tryz.func51, Tryz.ntmps51
  go_wp2
  go_ret
  exact ⟨rfl, rfl⟩
theorem mright_no (m : Int) (w : World) (h : m < -6 ∨ m = 0 ∨ 6 < m) :
    Calls Tryz.prog 51 #[.int .i64 m] w fun e w' => e = .returned (.bool false) ∧ w = w' := by
  rcases h with h | h | h
  · have b0 : (m != 0) = true := bne_iff_ne.2 (by omega)
    have b1 : decide (-6 ≤ m) = false := by simp; omega
    go_enter Tryz.func51, Tryz.ntmps51
    go_wp2
    go_ret
    exact ⟨rfl, rfl⟩
  · subst h
    go_enter Tryz.func51, Tryz.ntmps51
    go_wp2
    go_ret
    exact ⟨rfl, rfl⟩
  · have b0 : (m != 0) = true := bne_iff_ne.2 (by omega)
    have b1 : -6 ≤ m := by omega
    have b2 : decide (m ≤ 6) = false := by simp; omega
    go_enter Tryz.func51, Tryz.ntmps51
    go_wp2
    go_ret
    exact ⟨rfl, rfl⟩
theorem mkind_no (m : Int) (w : World) (h : m < -6 ∨ m = 0 ∨ 6 < m) :
    Calls Tryz.prog 32 #[.int .i64 m] w fun e w' => e = .returned (.int .i64 0) ∧ w = w' := by
  go_enter Tryz.func32, Tryz.ntmps32
  go_wp2_with fail
  refine (mright_no _ _ h).mono ?_
  rintro e w' ⟨rfl, rfl⟩
  go_wp2
  go_ret
  exact ⟨rfl, rfl⟩
theorem mkind_w (m : Int) (w : World) (h0 : 0 < m) (h1 : m ≤ 6) :
    Calls Tryz.prog 32 #[.int .i64 m] w fun e w' => e = .returned (.int .i64 m) ∧ w = w' := by
  go_enter Tryz.func32, Tryz.ntmps32
  go_wp2_with fail
  refine (mright_yes _ _ (by omega) (by omega) (by omega)).mono ?_
  rintro e w' ⟨rfl, rfl⟩
  go_wp2
  go_ret
  exact ⟨ret_int (by omega), rfl⟩
theorem mkind_b (m : Int) (w : World) (h0 : m < 0) (h1 : -6 ≤ m) :
    Calls Tryz.prog 32 #[.int .i64 m] w fun e w' => e = .returned (.int .i64 (-m)) ∧ w = w' := by
  go_enter Tryz.func32, Tryz.ntmps32
  go_wp2_with fail
  refine (mright_yes _ _ (by omega) (by omega) (by omega)).mono ?_
  rintro e w' ⟨rfl, rfl⟩
  go_wp2
  go_ret
  exact ⟨ret_int (by omega), rfl⟩
theorem mside_no (m : Int) (w : World) (h : m < -6 ∨ m = 0 ∨ 6 < m) :
    Calls Tryz.prog 30 #[.int .i64 m] w fun e w' => e = .returned (.int .i64 (-1)) ∧ w = w' := by
  go_enter Tryz.func30, Tryz.ntmps30
  go_wp2_with fail
  refine (mright_no _ _ h).mono ?_
  rintro e w' ⟨rfl, rfl⟩
  go_wp2
  go_ret
  exact ⟨rfl, rfl⟩
theorem mside_w (m : Int) (w : World) (h0 : 0 < m) (h1 : m ≤ 6) :
    Calls Tryz.prog 30 #[.int .i64 m] w fun e w' => e = .returned (.int .i64 0) ∧ w = w' := by
  go_enter Tryz.func30, Tryz.ntmps30
  go_wp2_with fail
  refine (mright_yes _ _ (by omega) (by omega) (by omega)).mono ?_
  rintro e w' ⟨rfl, rfl⟩
  go_wp2
  go_ret
  exact ⟨rfl, rfl⟩
theorem mside_b (m : Int) (w : World) (h0 : m < 0) (h1 : -6 ≤ m) :
    Calls Tryz.prog 30 #[.int .i64 m] w fun e w' => e = .returned (.int .i64 1) ∧ w = w' := by
  go_enter Tryz.func30, Tryz.ntmps30
  go_wp2_with fail
  refine (mright_yes _ _ (by omega) (by omega) (by omega)).mono ?_
  rintro e w' ⟨rfl, rfl⟩
  go_wp2
  go_ret
  exact ⟨rfl, rfl⟩
theorem make_nokind (k s : Int) (w : World) (h : k < 1 ∨ 6 < k) :
    Calls Tryz.prog 46 #[.int .i64 k, .int .i64 s] w fun e w' => e = .returned (.int .i64 0) ∧ w = w' := by
  rcases h with h | h
  · go_enter Tryz.func46, Tryz.ntmps46
    go_wp2
    go_ret
    exact ⟨rfl, rfl⟩
  · have b : decide (k < 1) = false := by simp; omega
    go_enter Tryz.func46, Tryz.ntmps46
    go_wp2
    go_ret
    exact ⟨rfl, rfl⟩
theorem make_noside (k s : Int) (w : World) (h1 : 1 ≤ k) (h6 : k ≤ 6) (h : s ≠ 0) (h' : s ≠ 1) :
    Calls Tryz.prog 46 #[.int .i64 k, .int .i64 s] w fun e w' => e = .returned (.int .i64 0) ∧ w = w' := by
  have b : decide (k < 1) = false := by simp; omega
  have b' : decide (6 < k) = false := by simp; omega
  have c : (s == 0) = false := beq_eq_false_iff_ne.2 h
  have c' : (s == 1) = false := beq_eq_false_iff_ne.2 h'
  clear h h'
  go_enter Tryz.func46, Tryz.ntmps46
  go_wp2
  go_ret
  exact ⟨rfl, rfl⟩
theorem make_w (k : Int) (w : World) (h1 : 1 ≤ k) (h6 : k ≤ 6) :
    Calls Tryz.prog 46 #[.int .i64 k, .int .i64 0] w fun e w' => e = .returned (.int .i64 k) ∧ w = w' := by
  have b : decide (k < 1) = false := by simp; omega
  have b' : decide (6 < k) = false := by simp; omega
  go_enter Tryz.func46, Tryz.ntmps46
  go_wp2
  go_ret
  exact ⟨rfl, rfl⟩
theorem make_b (k : Int) (w : World) (h1 : 1 ≤ k) (h6 : k ≤ 6) :
    Calls Tryz.prog 46 #[.int .i64 k, .int .i64 1] w fun e w' => e = .returned (.int .i64 (-k)) ∧ w = w' := by
  have b : decide (k < 1) = false := by simp; omega
  have b' : decide (6 < k) = false := by simp; omega
  go_enter Tryz.func46, Tryz.ntmps46
  go_wp2
  go_ret
  exact ⟨rfl, rfl⟩
/-- The nth man in the order of the signs. -/
def inOrd (n : Nat) : Int := if n < 6 then 6 - (n : Int) else (n : Int) - 12
theorem mkind_ord (n : Nat) (hn : n < 12) (w : World) :
    Calls Tryz.prog 32 #[.int .i64 (inOrd n)] w fun e w' => e = .returned (.int .i64 (6 - n % 6 : Nat)) ∧ w = w' := by
  by_cases h6 : n < 6
  · have e0 : inOrd n = 6 - (n : Int) := by unfold inOrd; rw [if_pos h6]
    have e1 : ((6 - n % 6 : Nat) : Int) = 6 - (n : Int) := by omega
    rw [e0, e1]
    exact mkind_w _ w (by omega) (by omega)
  · have e0 : inOrd n = (n : Int) - 12 := by unfold inOrd; rw [if_neg h6]
    have e1 : ((6 - n % 6 : Nat) : Int) = -((n : Int) - 12) := by omega
    rw [e0, e1]
    exact mkind_b _ w (by omega) (by omega)
theorem mside_ord (n : Nat) (hn : n < 12) (w : World) :
    Calls Tryz.prog 30 #[.int .i64 (inOrd n)] w fun e w' => e = .returned (.int .i64 ((n : Int) / 6)) ∧ w = w' := by
  by_cases h6 : n < 6
  · have e0 : inOrd n = 6 - (n : Int) := by unfold inOrd; rw [if_pos h6]
    have e1 : (n : Int) / 6 = 0 := by omega
    rw [e0, e1]
    exact mside_w _ w (by omega) (by omega)
  · have e0 : inOrd n = (n : Int) - 12 := by unfold inOrd; rw [if_neg h6]
    have e1 : (n : Int) / 6 = 1 := by omega
    rw [e0, e1]
    exact mside_b _ w (by omega) (by omega)
end Go.Proofs.YtkebpchhpidogaaGreatDoor
