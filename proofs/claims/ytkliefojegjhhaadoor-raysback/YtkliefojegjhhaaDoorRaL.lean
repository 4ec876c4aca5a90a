/- Slices of numbers: read, and of the call's own. -/
import Derived.Test.YtkliefojegjhhaaDoorRaM
import Derived.Laws.OwnMore
import Derived.Laws.AppendOwnNone
namespace Go.Proofs.YtkliefojegjhhaaDoor
open Go.RowKit
set_option linter.unusedVariables false
set_option linter.unusedSimpArgs false

theorem infoZ : (Tryd.prog.info? 3).map (fun i => (i.zero, i.size, i.bytes)) = some (some (.int .i64 0), 1, 8) := by kernel_rfl
theorem partsZ {P : Program} {t : TypeId} {z : Value} {n b : Nat} (h : (P.info? t).map (fun i => (i.zero, i.size, i.bytes)) = some (some z, n, b)) :
    ∃ i, P.info? t = some i ∧ i.zero = some z ∧ i.size = n ∧ i.bytes = b := by
  cases hq : P.info? t with
  | none => simp [hq] at h
  | some i => simp [hq] at h; exact ⟨i, rfl, h.1, h.2.1, h.2.2⟩
def zl (l : List Int) : List Value := l.map (Value.int .i64)
theorem zl_len (l : List Int) : (zl l).length = l.length := by simp [zl]
theorem zl_app (l k : List Int) : zl (l ++ k) = zl l ++ zl k := by simp [zl]
/-- A slice of numbers of the call's own. -/
def OwnZ (w : World) (base : Nat) (v : Value) (l : List Int) : Prop := w.ownsRow base 3 1 v l.length (zl l)
theorem OwnZ.nil (w : World) (base : Nat) : OwnZ w base (.slice none 0 0) [] := World.ownsRow_nil _ _ _ _
theorem OwnZ.kept {w w' : World} {base : Nat} {v : Value} {l : List Int} (h : OwnZ w base v l) (k : Kept w w') : OwnZ w' base v l := by
  obtain ⟨h1, h2⟩ := h
  refine ⟨h1, ?_⟩
  rcases h2 with h2 | ⟨b, cap, cur, e1, e2, e3, e4⟩
  · exact .inl h2
  · exact .inr ⟨b, cap, cur, e1, e2, k.heap e3, e4⟩
theorem OwnZ.low {w : World} {base b : Nat} {v : Value} {l : List Int} (h : OwnZ w base v l) (hb : b ≤ base) : OwnZ w b v l := by
  obtain ⟨h1, h2⟩ := h
  refine ⟨h1, ?_⟩
  rcases h2 with h2 | ⟨g, cap, cur, e1, e2, e3⟩
  · exact .inl h2
  · exact .inr ⟨g, cap, cur, e1, by omega, e3⟩
theorem OwnZ.slice {w : World} {base : Nat} {v : Value} {l : List Int} (h : OwnZ w base v l) : ∃ a cap, v = .slice a l.length cap := by
  rcases h.2 with ⟨e, h0⟩ | ⟨g, cap, cur, e, _⟩
  · exact ⟨none, 0, by rw [e, h0]⟩
  · exact ⟨_, _, e⟩
/-- A slice that reads as l, its squares in block g. -/
def LsZ (w : World) (g : Nat) (v : Value) (l : List Int) : Prop :=
  (v = .slice none 0 0 ∧ l = []) ∨ ∃ off cap, v = .slice (some ⟨g, off, none⟩) l.length cap ∧ l.length ≤ cap ∧ cap ≤ maxLen ∧ ∀ i x, l[i]? = some x → w.cell? ⟨g, off + i, none⟩ = some (.int .i64 x)
theorem LsZ.kept {w w' : World} {g : Nat} {v : Value} {l : List Int} (h : LsZ w g v l) (k : Kept w w') : LsZ w' g v l := by
  rcases h with h | ⟨off, cap, e, h1, h2, h3⟩
  · exact .inl h
  · exact .inr ⟨off, cap, e, h1, h2, fun i x hx => kept_cell k (h3 i x hx)⟩
/-- The same block, the same slice. -/
theorem LsZ.block {w w' : World} {g : Nat} {v : Value} {l : List Int} (h : LsZ w g v l) (k : w'.heap[g]? = w.heap[g]?) : LsZ w' g v l := by
  rcases h with h | ⟨off, cap, e, h1, h2, h3⟩
  · exact .inl h
  · exact .inr ⟨off, cap, e, h1, h2, fun i x hx => (World.cell?_of_block (a := ⟨g, off + i, none⟩) k).trans (h3 i x hx)⟩
theorem LsZ.slice {w : World} {g : Nat} {v : Value} {l : List Int} (h : LsZ w g v l) : ∃ a cap, v = .slice a l.length cap := by
  rcases h with ⟨e, h0⟩ | ⟨off, cap, e, _⟩
  · exact ⟨none, 0, by rw [e, h0]; rfl⟩
  · exact ⟨_, _, e⟩
theorem LsZ.full {w : World} {g : Nat} {v : Value} {l : List Int} (h : LsZ w g v l) (hl : 0 < l.length) :
    ∃ off cap, v = .slice (some ⟨g, off, none⟩) l.length cap ∧ l.length ≤ cap ∧ cap ≤ maxLen ∧ ∀ i x, l[i]? = some x → w.cell? ⟨g, off + i, none⟩ = some (.int .i64 x) := by
  rcases h with ⟨_, h0⟩ | h
  · rw [h0] at hl; simp at hl
  · exact h
theorem OwnZ.ls {w : World} {base : Nat} {v : Value} {l : List Int} (h : OwnZ w base v l) : ∃ g, LsZ w g v l ∧ (0 < l.length → base ≤ g ∧ g < w.heap.size) := by
  rcases h.2 with ⟨e, h0⟩ | ⟨g, cap, cur, e, hb, hh, hnc, hcm, hcs, ht⟩
  · exact ⟨0, .inl ⟨e, List.eq_nil_of_length_eq_zero h0⟩, fun h => by omega⟩
  · refine ⟨g, .inr ⟨0, cap, e, hnc, hcm, fun i x hx => ?_⟩, fun _ => ⟨hb, lt_of_heap hh⟩⟩
    have hi : i < l.length := by
      obtain ⟨hi, _⟩ := List.getElem?_eq_some_iff.1 hx
      exact hi
    rw [Nat.zero_add, cell_of_row w g i cur _ (0, 0) hh]
    have h2 : (cur.toList.take (l.length * 1))[i]? = (zl l)[i]? := by rw [ht]
    rw [List.getElem?_take, if_pos (by omega)] at h2
    simp only [Array.getElem?_toList] at h2
    rw [h2]
    simp [zl, hx]
theorem LsZ.take {w : World} {g : Nat} {a : Option Addr} {n cap : Nat} {l : List Int} (h : LsZ w g (.slice a n cap) l) (k : Nat) (hk : k ≤ l.length) : LsZ w g (.slice a k cap) (l.take k) := by
  rcases h with ⟨e, h0⟩ | ⟨off, cap', e, h1, h2, h3⟩
  · injection e with e1 e2 e3
    subst h0
    simp at hk
    subst hk e1 e3
    exact .inl ⟨rfl, rfl⟩
  · injection e with e1 e2 e3
    subst e1 e3
    refine .inr ⟨off, cap, by rw [List.length_take, Nat.min_eq_left hk], by rw [List.length_take]; omega, h2, fun i x hx => h3 i x ?_⟩
    rw [List.getElem?_take] at hx
    split at hx
    · exact hx
    · cases hx

theorem sameZ_yes (g1 g2 : Nat) (v1 v2 : Value) (l : List Int) (w : World) (h1 : LsZ w g1 v1 l) (h2 : LsZ w g2 v2 l) :
    Calls Tryd.prog 16 #[v1, v2] w fun e w' => e = .returned (.bool true) ∧ Kept w w' := by
  by_cases hl : 0 < l.length
  · obtain ⟨o1, c1, rfl, a1, b1, k1⟩ := h1.full hl
    obtain ⟨o2, c2, rfl, a2, b2, k2⟩ := h2.full hl
    have K1 := Lib.hid k1
    have K2 := Lib.hid k2
    generalize hn : l.length = n at *
    have HN := Lib.hid hn
    have hm : n ≤ maxLen := by omega
    unfold maxLen at hm
    clear k1 k2 h1 h2 hn b1 b2
    go_enter Tryd.func16, Tryd.ntmps16
    go_wp2
    go_loopw [5] (fun t5 wr => ∃ i : Nat, i ≤ n ∧ t5 = .int .i64 i ∧ ∃ d, wr = w.drewN d) (fun t5 _ => n - (intOf t5).toNat)
    case atStart => exact ⟨0, Nat.zero_le _, rfl, 0, rfl⟩
    case round =>
      obtain ⟨i, hi, rfl, d, rfl⟩ := hrel
      by_cases hlt : i < n
      · have hlt' : (i : Int) < (n : Int) := by omega
        obtain ⟨x, hx⟩ : ∃ x, l[i]? = some x := ⟨_, List.getElem?_eq_getElem (by have := HN.out; omega)⟩
        have e1 := K1.out i x hx
        have e2 := K2.out i x hx
        clear hx
        go_wp2
        go_quiet (fail)
        go_wp2
        go_roundw
        case rel => exact ⟨i + 1, by omega, by go_num, _, rfl⟩
        case measure => simp [intOf]; omega
      · go_wp2
        go_ret
        exact ⟨rfl, (Kept.refl w).drewN d⟩
  · have h0 : l = [] := List.eq_nil_of_length_eq_zero (by omega)
    subst h0
    obtain ⟨a1, c1, rfl⟩ := h1.slice
    obtain ⟨a2, c2, rfl⟩ := h2.slice
    go_enter Tryd.func16, Tryd.ntmps16
    go_wp2
    go_loopw [5] (fun t5 wr => t5 = .int .i64 0 ∧ wr = w) (fun _ _ => 0)
    case atStart => exact ⟨rfl, rfl⟩
    case round =>
      obtain ⟨rfl, rfl⟩ := hrel
      go_wp2
      go_ret
      exact ⟨rfl, Kept.refl _⟩
/-- Is it among them? -/
def hasB (l : List Int) (x : Int) : Bool := l.contains x
theorem hasB_at {l : List Int} {x : Int} {i : Nat} (h : l[i]? = some x) : hasB l x = true := by
  unfold hasB; rw [List.contains_iff_mem]; exact List.mem_of_getElem? h
theorem hasB_none {l : List Int} {x : Int} (h : ∀ i, i < l.length → l[i]? ≠ some x) : hasB l x = false := by
  unfold hasB
  rw [Bool.eq_false_iff]
  intro hc
  rw [List.contains_iff_mem] at hc
  obtain ⟨i, hi, e⟩ := List.mem_iff_getElem.1 hc
  exact h i hi (by rw [List.getElem?_eq_getElem hi, e])
theorem has_is (g : Nat) (v : Value) (l : List Int) (x : Int) (w : World) (h : LsZ w g v l) :
    Calls Tryd.prog 21 #[v, .int .i64 x] w fun e w' => e = .returned (.bool (hasB l x)) ∧ w = w' := by
  by_cases hl : 0 < l.length
  · obtain ⟨o1, c1, rfl, a1, b1, k1⟩ := h.full hl
    have K1 := Lib.hid k1
    generalize hn : l.length = n at *
    have HN := Lib.hid hn
    have hm : n ≤ maxLen := by omega
    unfold maxLen at hm
    clear k1 h hn b1
    go_enter Tryd.func21, Tryd.ntmps21
    go_wp2
    go_loop [5] (fun t5 => ∃ i : Nat, i ≤ n ∧ t5 = .int .i64 i ∧ ∀ j, j < i → l[j]? ≠ some x) (fun t5 => n - (intOf t5).toNat)
    case atStart => exact ⟨0, Nat.zero_le _, rfl, fun j hj => by omega⟩
    case round =>
      obtain ⟨i, hi, rfl, hno⟩ := hrel
      have HO := Lib.hid hno
      clear hno
      by_cases hlt : i < n
      · have hlt' : (i : Int) < (n : Int) := by omega
        obtain ⟨y, hy⟩ : ∃ y, l[i]? = some y := ⟨_, List.getElem?_eq_getElem (by have := HN.out; omega)⟩
        have e1 := K1.out i y hy
        have HY := Lib.hid hy
        clear hy
        by_cases hxy : y = x
        · have b0 : (y == x) = true := by simpa using hxy
          have HE := Lib.hid (hasB_at (hxy ▸ HY.out))
          clear hxy
          go_wp2
          go_ret
          exact ⟨by rw [HE.out]; rfl, rfl⟩
        · have b0 : (y == x) = false := by simpa using hxy
          have HX := Lib.hid hxy
          clear hxy
          go_wp2
          go_round
          case rel => exact ⟨i + 1, by omega, by go_num, fun j hj => by
            by_cases hji : j < i
            · exact HO.out j hji
            · obtain rfl : j = i := by omega
              rw [HY.out]
              exact fun e => HX.out (Option.some.inj e)⟩
          case measure => simp [intOf]; omega
      · go_wp2
        go_ret
        exact ⟨by rw [hasB_none (fun j hj => HO.out j (by have := HN.out; omega))]; rfl, rfl⟩
  · have h0 : l = [] := List.eq_nil_of_length_eq_zero (by omega)
    subst h0
    obtain ⟨a1, c1, rfl⟩ := h.slice
    go_enter Tryd.func21, Tryd.ntmps21
    go_wp2
    go_loop [5] (fun t5 => t5 = .int .i64 0) (fun _ => 0)
    case atStart => exact rfl
    case round =>
      obtain rfl := hrel
      go_wp2
      go_ret
      exact ⟨rfl, rfl⟩
/-- The first place at which it is; -1 for none. -/
def idxI (l : List Int) (x : Int) : Int := if l.contains x then (l.idxOf x : Nat) else -1
theorem idxI_at {l : List Int} {x : Int} {i : Nat} (hno : ∀ j, j < i → l[j]? ≠ some x) (h : l[i]? = some x) : idxI l x = (i : Nat) := by
  have hm : x ∈ l := List.mem_of_getElem? h
  obtain ⟨hi, he⟩ := List.getElem?_eq_some_iff.1 h
  unfold idxI
  rw [if_pos (List.contains_iff_mem.2 hm)]
  have hlt := List.idxOf_lt_length_iff.2 hm
  have hg : l[l.idxOf x]? = some x := by rw [List.getElem?_eq_getElem hlt, List.getElem_idxOf hlt]
  have h1 : ¬ l.idxOf x < i := fun h => hno _ h hg
  have h2 : ¬ i < l.idxOf x := fun h => by
    have := List.not_of_lt_findIdx (p := (· == x)) (xs := l) (i := i) h
    simp [he] at this
  congr 1
  omega
theorem idxI_none {l : List Int} {x : Int} (h : hasB l x = false) : idxI l x = -1 := by
  unfold idxI; unfold hasB at h; rw [h]; rfl
theorem indexZ_is (g : Nat) (v : Value) (l : List Int) (x : Int) (w : World) (h : LsZ w g v l) :
    Calls Tryd.prog 42 #[v, .int .i64 x] w fun e w' => e = .returned (.int .i64 (idxI l x)) ∧ w = w' := by
  by_cases hl : 0 < l.length
  · obtain ⟨o1, c1, rfl, a1, b1, k1⟩ := h.full hl
    have K1 := Lib.hid k1
    generalize hn : l.length = n at *
    have HN := Lib.hid hn
    have hm : n ≤ maxLen := by omega
    unfold maxLen at hm
    clear k1 h hn b1
    go_enter Tryd.func42, Tryd.ntmps42
    go_wp2
    go_loop [5, 8] (fun _ t8 => ∃ i : Nat, i ≤ n ∧ t8 = .int .i64 i ∧ ∀ j, j < i → l[j]? ≠ some x) (fun _ t8 => n - (intOf t8).toNat)
    case atStart => exact ⟨0, Nat.zero_le _, rfl, fun j hj => by omega⟩
    case round =>
      obtain ⟨i, hi, rfl, hno⟩ := hrel
      have HO := Lib.hid hno
      clear hno
      by_cases hlt : i < n
      · have hlt' : (i : Int) < (n : Int) := by omega
        obtain ⟨y, hy⟩ : ∃ y, l[i]? = some y := ⟨_, List.getElem?_eq_getElem (by have := HN.out; omega)⟩
        have e1 := K1.out i y hy
        have HY := Lib.hid hy
        clear hy
        by_cases hxy : y = x
        · have b0 : (x == y) = true := by simpa using hxy.symm
          have HE := Lib.hid (idxI_at HO.out (hxy ▸ HY.out))
          clear hxy
          go_wp2
          go_ret
          exact ⟨by rw [HE.out]; rfl, rfl⟩
        · have b0 : (x == y) = false := by simpa using fun h : x = y => hxy h.symm
          have HX := Lib.hid hxy
          clear hxy
          go_wp2
          go_round
          case rel => exact ⟨i + 1, by omega, by go_num, fun j hj => by
            by_cases hji : j < i
            · exact HO.out j hji
            · obtain rfl : j = i := by omega
              rw [HY.out]
              exact fun e => HX.out (Option.some.inj e)⟩
          case measure => simp [intOf]; omega
      · go_wp2
        go_ret
        exact ⟨by rw [idxI_none (hasB_none (fun j hj => HO.out j (by have := HN.out; omega)))]; rfl, rfl⟩
  · have h0 : l = [] := List.eq_nil_of_length_eq_zero (by omega)
    subst h0
    obtain ⟨a1, c1, rfl⟩ := h.slice
    go_enter Tryd.func42, Tryd.ntmps42
    go_wp2
    go_loop [5, 8] (fun _ t8 => t8 = .int .i64 0) (fun _ _ => 0)
    case atStart => exact rfl
    case round =>
      obtain rfl := hrel
      go_wp2
      go_ret
      exact ⟨rfl, rfl⟩
end Go.Proofs.YtkliefojegjhhaaDoor
