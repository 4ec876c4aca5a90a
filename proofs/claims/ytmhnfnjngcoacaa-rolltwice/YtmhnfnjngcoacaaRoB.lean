/- A roll's reader in memory: the contracts of its small steps. -/
import Derived.Test.YtmhnfnjngcoacaaRoA
import Derived.Test.YtmhnfnjngcoacaaSqP
import Derived.Laws.EntriesVeiled
namespace Go.Proofs.Ytmhnfnjngcoacaa
open Go.RowKit
set_option linter.unusedVariables false
set_option linter.unusedSimpArgs false

/-- Who reads the next sign. -/
def nf (n : Nat) : FuncId := match n with
  | 0 => 16
  | 1 => 37
  | 2 => 41
  | 3 => 45
  | _ => 47
def nv (n : Nat) : Value := .func (.func (nf n)) #[] #[]
/-- A board and what stands behind it, in one block. -/
structure Rx (w : World) (g : Nat) (B : List Int) (T : List Value) : Prop where
  len : B.length = 64
  at_ : w.heap[g]? = some (.cells (cl B ++ T).toArray 45 (0, 0))
def rtl (r : RS) : List Value := [.int .i64 r.side, .string ⟨r.left.toArray⟩, .int .i64 r.man, .int .i32 r.file, nv r.next, .bool r.ends]
def Rr (w : World) (g : Nat) (r : RS) : Prop := Rx w g r.B (rtl r)
theorem Rx.cell {w : World} {g : Nat} {B : List Int} {T : List Value} (h : Rx w g B T) (k : Nat) {v : Value} (hk : T[k]? = some v) : w.cell? ⟨g, 64 + k, none⟩ = some v := by
  have h1 := cl_length B
  have h2 := h.len
  rw [cell_of_row _ _ (64 + k) _ _ (0, 0) h.at_, List.getElem?_toArray, List.getElem?_append_right (by omega), show 64 + k - (cl B).length = k by omega, hk]
theorem Rx.frozen {w : World} {g : Nat} {B : List Int} {T : List Value} (h : Rx w g B T) (k : Nat) : w.frozen? ⟨g, k, none⟩ = false :=
  frozen_of_row w g k _ _ h.at_
theorem Rx.set {w : World} {g : Nat} {B : List Int} {T : List Value} (h : Rx w g B T) (k : Nat) (v : Value) : Rx (w.setCell ⟨g, 64 + k, none⟩ v) g B (T.set k v) := by
  refine ⟨h.len, ?_⟩
  have hl : (cl B).length = 64 := by rw [cl_length, h.len]
  rw [heap_setCell_same w g (64 + k) _ _ _ h.at_]
  congr 2
  rw [List.setIfInBounds_toArray, List.set_append_right _ _ (by omega), show 64 + k - (cl B).length = k by omega]
theorem Rx.range {w : World} {g : Nat} {B : List Int} {T : List Value} (h : Rx w g B T) : w.rangeAt g 0 (cl B) := by
  intro j v hv
  have hj : j < (cl B).length := by
    obtain ⟨hj, _⟩ := List.getElem?_eq_some_iff.1 hv
    exact hj
  rw [Nat.zero_add, cell_of_row _ _ j _ _ (0, 0) h.at_, List.getElem?_toArray, List.getElem?_append_left hj, hv]
theorem Rx.there {w : World} {g : Nat} {B : List Int} {T : List Value} (h : Rx w g B T) : w.there g 0 64 := by
  intro j hj
  refine ⟨?_, h.frozen _⟩
  have h1 := cl_length B
  have h2 := h.len
  rw [cell_of_row _ _ _ _ _ (0, 0) h.at_, List.getElem?_toArray, List.getElem?_append_left (by omega), List.getElem?_eq_getElem (by omega)]
  rfl
theorem Rx.setBoard {w : World} {g : Nat} {B : List Int} {T : List Value} (h : Rx w g B T) (B' : List Int) (hB' : B'.length = 64) : Rx (w.setCells g 0 (cl B').toArray.toList) g B' T := by
  refine ⟨hB', ?_⟩
  have := heap_setCells g 45 (cl B') (cl B) [] T w (by rw [cl_length, cl_length, h.len, hB']) (by simpa using h.at_)
  simpa using this
theorem Rx.heap {w w' : World} {g : Nat} {B : List Int} {T : List Value} (h : Rx w g B T) (k : Kept w w') : Rx w' g B T := ⟨h.len, k.heap h.at_⟩
theorem Rx.eq {w : World} {g : Nat} {B B' : List Int} {T T' : List Value} (h : Rx w g B T) (e : B = B') (e' : T = T') : Rx w g B' T' := by subst e; subst e'; exact h

theorem full_is (w : World) (g : Nat) (r : RS) (h : Rr w g r) :
    Calls Try.prog 29 #[.pointer (some ⟨g, 0, none⟩)] w fun e w' => e = .returned (.tuple #[]) ∧ Rr w' g r.full ∧ KeptB g w w' := by
  have c0 := h.cell 0 rfl
  have f4 := h.frozen 68
  have c4 := h.cell 4 rfl
  have H1 := h.set 4 (nv 1)
  have H2 := H1.set 5 (.bool (r.side == 1))
  have f5 := H1.frozen 69
  have c5 := H1.cell 5 rfl
  have HR : Hid (Rr _ g r.full) := H2.eq rfl rfl
  clear H1 H2 h
  simp only [nv, nf] at *
  go_enter Try.func29, Try.ntmps29
  go_wp2
  refine bodyPost_end (results_none rfl _ _ _) rfl ?_
  exact ⟨rfl, HR.out, ((KeptB.refl g w).setCell 68 _).setCell 69 _⟩
theorem behind_yes (w : World) (g : Nat) (r : RS) (h : Rr w g r) :
    Calls Try.prog 37 #[.pointer (some ⟨g, 0, none⟩), .int .i32 32] w fun e w' => e = .returned (.bool true) ∧ Rr w' g { r with next := 2, ends := false } ∧ KeptB g w w' := by
  have f4 := h.frozen 68
  have c4 := h.cell 4 rfl
  have H1 := h.set 4 (nv 2)
  have H2 := H1.set 5 (.bool false)
  have f5 := H1.frozen 69
  have c5 := H1.cell 5 rfl
  have HR : Hid (Rr _ g { r with next := 2, ends := false }) := H2.eq rfl rfl
  clear H1 H2 h
  simp only [nv, nf] at *
  go_enter Try.func37, Try.ntmps37
  go_wp2
  go_ret
  exact ⟨rfl, HR.out, ((KeptB.refl g w).setCell 68 _).setCell 69 _⟩
theorem inFile_yes (w : World) (g : Nat) (r : RS) (h : Rr w g r) (c : Nat) (h0 : 97 ≤ c) (h1 : c ≤ 104) :
    Calls Try.prog 45 #[.pointer (some ⟨g, 0, none⟩), .int .i32 c] w fun e w' => e = .returned (.bool true) ∧ Rr w' g { r with file := c, next := 4 } ∧ KeptB g w w' := by
  have b0 : ¬ (c : Int) < 97 := by omega
  have b1 : ¬ (104 : Int) < (c : Int) := by omega
  have f3 := h.frozen 67
  have c3 := h.cell 3 rfl
  have H1 := h.set 3 (.int .i32 c)
  have H2 := H1.set 4 (nv 4)
  have f4 := H1.frozen 68
  have c4 := H1.cell 4 rfl
  have HR : Hid (Rr _ g { r with file := c, next := 4 }) := H2.eq rfl rfl
  clear H1 H2 h
  simp only [nv, nf] at *
  go_enter Try.func45, Try.ntmps45
  go_wp2
  go_ret
  exact ⟨rfl, HR.out, ((KeptB.refl g w).setCell 67 _).setCell 68 _⟩
end Go.Proofs.Ytmhnfnjngcoacaa
