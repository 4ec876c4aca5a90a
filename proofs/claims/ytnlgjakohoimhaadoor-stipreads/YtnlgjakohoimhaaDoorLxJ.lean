/- apart: the words sorted, neighbours compared. -/
import Derived.Test.YtnlgjakohoimhaaDoorLxI
import Derived.Test.YtnlgjakohoimhaaDoorLxF
import Derived.Sort.OwnSorted
namespace Go.Proofs.YtnlgjakohoimhaaDoor
open Go.RowKit Go.Sort
set_option linter.unusedVariables false
set_option linter.unusedSimpArgs false
set_option maxRecDepth 100000
set_option maxHeartbeats 4000000

theorem own_block {w : World} {base n : Nat} {e : TypeId} {v : Value} {xs : List Value} (h : w.ownsRow base e 1 v n xs) (hn : 0 < n) :
    ∃ g cap cur, v = .slice (some ⟨g, 0, none⟩) n cap ∧ base ≤ g ∧ w.heap[g]? = some (.cells cur e (0, 0)) ∧ n ≤ cap ∧ cap ≤ maxLen ∧ cur.size = cap * 1 ∧ cur.toList.take n = xs := by
  rcases h.2 with ⟨_, h0⟩ | ⟨g, cap, cur, h1, h2, h3, h4, h5, h6, h7⟩
  · omega
  · exact ⟨g, cap, cur, h1, h2, h3, h4, h5, h6, by rw [← h7, Nat.mul_one]⟩
theorem row_cell {w : World} {g : Nat} {cur : Array Value} {e : TypeId} {n : Nat} {xs : List Value} (hh : w.heap[g]? = some (.cells cur e (0, 0))) (ht : cur.toList.take n = xs) (j : Nat) (x : Value) (hx : xs[j]? = some x) : w.cell? ⟨g, j, none⟩ = some x := by
  rw [cell_of_row w g j cur _ (0, 0) hh]
  have h2 : (cur.toList.take n)[j]? = some x := by rw [ht]; exact hx
  rw [List.getElem?_take] at h2
  split at h2
  · simpa using h2
  · cases h2
theorem enc_bs (l : List ByteArray) : (l.map bs).map encStr = l.map Value.string := by
  rw [List.map_map]
  apply List.map_congr_left
  intro x _
  show Value.string ⟨x.data.toList.toArray⟩ = _
  rw [Array.toArray_toList]
/-- The sort of texts of a call's own. -/
theorem sort_texts (ws : List ByteArray) (w : World) (g cap : Nat) (cur : Array Value) (hh : w.heap[g]? = some (.cells cur 9 (0, 0))) (ht : cur.toList.take ws.length = ws.map Value.string) (hn : ws.length ≤ 20) (hsz : ws.length ≤ cur.size) :
    Calls Tryd.prog 44 #[.slice (some ⟨g, 0, none⟩) ws.length cap] w fun e w' => e = .returned (.tuple #[]) ∧
      ∃ S : List ByteArray, S.length = ws.length ∧ (S.map bs).Perm (ws.map bs) ∧ (S.map bs).Pairwise (· ≤ ·) ∧ (∀ j x, S[j]? = some x → w'.cell? ⟨g, j, none⟩ = some (.string x)) ∧ ∀ V : World, V.heap.size ≤ g → Kept V w → Kept V w' := by
  have hlen : (ws.map bs).length = ws.length := List.length_map ..
  have hH : Holds encStr w g 0 (ws.map bs).toArray := holds_of_block hh (by rw [hlen, ht, enc_bs])
  have h := Tryd.slices_Sort_string g 0 cap (ws.map bs) w hH (lt_of_heap hh) (by rw [hlen]; omega)
  rw [hlen] at h
  refine h.mono ?_
  rintro e w' ⟨he, n, os, rfl⟩
  refine ⟨he, ?_⟩
  have hperm : ((ws.map bs).mergeSort fun x y => decide (x ≤ y)).Perm (ws.map bs) := List.mergeSort_perm ..
  have hsort : ((ws.map bs).mergeSort fun x y => decide (x ≤ y)).Pairwise fun a b => decide (a ≤ b) = true :=
    List.pairwise_mergeSort (le := fun x y : List UInt8 => decide (x ≤ y)) (fun (a b c : List UInt8) h1 h2 => by
      have h3 : a ≤ b := of_decide_eq_true h1
      have h4 : b ≤ c := of_decide_eq_true h2
      exact decide_eq_true (List.le_trans h3 h4)) (fun (a b : List UInt8) => by
      rcases List.le_total a b with h | h
      · simp [decide_eq_true h]
      · simp [decide_eq_true h]) _
  generalize ((ws.map bs).mergeSort fun x y => decide (x ≤ y)) = L at *
  have hL : (L.map fun l => (⟨l.toArray⟩ : ByteArray)).map bs = L := by
    rw [List.map_map]
    have : (bs ∘ fun l : List UInt8 => (⟨l.toArray⟩ : ByteArray)) = id := by funext l; simp [bs]
    rw [this, List.map_id]
  have hLl : L.length = ws.length := by rw [hperm.length_eq, hlen]
  refine ⟨L.map fun l => (⟨l.toArray⟩ : ByteArray), by simpa using hLl, by rw [hL]; exact hperm, by rw [hL]; exact hsort.imp fun h => of_decide_eq_true h, ?_, ?_⟩
  · intro j x hx
    refine row_cell (heap_sorted _ hh) (take_putCells cur L (by omega)) j _ ?_
    rw [List.getElem?_map] at hx ⊢
    cases hq : L[j]? with
    | none => rw [hq] at hx; cases hx
    | some y => rw [hq] at hx; simp only [Option.map_some, Option.some.injEq] at hx ⊢; rw [← hx]
  · intro V hV k
    exact k.grownBy (grownBy_sorted _) (fun q hq => by cases hq; exact hV)
theorem hasprefix_is (s p : ByteArray) (w : World) : Calls Tryd.prog 45 #[.string s, .string p] w fun e w' => e = .returned (.bool (pf p s)) ∧ w = w' :=
  (Tryd.strings_HasPrefix s p w).mono fun _ _ ⟨h1, h2⟩ => ⟨h1, h2.symm⟩
theorem apart_is (ws : List ByteArray) (v : Value) (w : World) (hv : LsT w v ws) (hn : ws.length ≤ 20) :
    Calls Tryd.prog 36 #[v] w fun e w' => e = .returned (.bool (apB ws)) ∧ Kept w w' := by
  by_cases h0 : ws = []
  · obtain ⟨a, cap, rfl⟩ := hv.slice
    have HE : Hid (apB ws = false) := by
      show _ = _
      rw [apB_no]
      intro h
      exact h.1 h0
    have hz : ((ws.length : Int) == 0) = true := by rw [h0]; rfl
    clear hv h0
    go_enter Tryd.func36, Tryd.ntmps36
    go_wp2
    go_ret
    exact ⟨by rw [HE.out]; first | done | rfl, Kept.refl _⟩
  · have hpos : 0 < ws.length := List.length_pos_iff.2 h0
    obtain ⟨g, off, cap, rfl, hg, hcap, hcell⟩ := hv.at_ hpos
    have HCl := Lib.hid (fun w1 (k : Kept w w1) => Tryd.slices_Clone_string g off ws.length cap ws w1 (Nat.le_refl _) (by omega) (fun j hj => by
      rw [kept_cell k (hcell j _ (List.getElem?_eq_getElem hj))]
      simp [List.getD, hj]))
    have hz : ((ws.length : Int) == 0) = false := beq_eq_false_iff_ne.2 (by omega)
    clear hv h0 hcell
    go_enter Tryd.func36, Tryd.ntmps36
    go_wp2_with fail
    refine (HCl.out _ (Kept.refl _)).mono ?_
    rintro e w1 ⟨v1, rfl, hown, _, hbel⟩
    rw [List.take_length] at hown
    obtain ⟨g1, cap1, cur, rfl, hg1, hh, hc1, hc2, hcs, ht⟩ := own_block hown hpos
    have HSo := Lib.hid (sort_texts ws w1 g1 cap1 cur hh ht hn (by omega))
    have K1 := Lib.hid (Below.toKept hbel)
    clear hown hbel hh hcs ht
    by_cases hq1 : cap1 = 1
    · subst hq1
      go_wp2_with fail
      refine HSo.out.mono ?_
      rintro e w2 ⟨rfl, S, hSl, hperm, hsort, hcell, hk⟩
      have K2 := Lib.hid (hk w hg1 K1.out)
      have HCe := Lib.hid hcell
      have HAp := Lib.hid (apart_sorted ws (S.map bs) hperm hsort)
      clear hk hcell hperm hsort
      go_wp2
      go_loopw [16] (fun t16 wr => ∃ k : Nat, t16 = .int .i64 k ∧ k ≤ ws.length - 1 ∧ (∀ j, j < k → ¬ (S.map bs).getD j [] <+: (S.map bs).getD (j + 1) []) ∧ Kept w2 wr) (fun t16 _ => 20 - (intOf t16).toNat)
      case atStart => exact ⟨0, rfl, by omega, fun j hj => by omega, Kept.refl _⟩
      case round =>
        obtain ⟨k, rfl, hk, hno, hK⟩ := hrel
        have HNo := Lib.hid hno
        have HK := Lib.hid hK
        clear hno hK
        by_cases hlt : k < ws.length - 1
        · exfalso; omega
        · obtain ⟨x, hx⟩ : ∃ x, S[0]? = some x := ⟨_, List.getElem?_eq_getElem (by omega)⟩
          have c1 := kept_cell HK.out (HCe.out 0 x hx)
          have ex : (S.map bs).getD 0 [] = bs x := by simp [List.getD, hx]
          have HNear : Hid (nearB (S.map bs)) := by
            intro j hj
            rw [List.length_map] at hj
            exact HNo.out j (by omega)
          have hS0 : S.map bs ≠ [] := by
            intro e
            have := congrArg List.length e
            rw [List.length_map, List.length_nil] at this
            omega
          have hge : ((ws.length - 1 : Nat) : Int) ≤ k := by omega
          by_cases he : x = ⟨#[]⟩
          · have hb : (x.toList == ([] : List UInt8)) = true := by rw [he, ByteArray.toList_eq]; rfl
            have HE : Hid (apB ws = false) := by
              show _ = _
              rw [apB_no]
              intro h
              refine ((HAp.out).1 h).2.2 ?_
              rw [ex, he]; rfl
            clear he ex hx hS0
            go_wp2
            go_ret
            exact ⟨by rw [HE.out]; first | done | rfl, K2.out.trans HK.out⟩
          · have hne : bs x ≠ [] := fun h => he (bs_inj h)
            have hb : (x.toList == ([] : List UInt8)) = false := by rw [beq_eq_false_iff_ne, ByteArray.toList_eq]; exact hne
            have HE : Hid (apB ws = true) := by
              show _ = _
              rw [apB_iff]
              exact (HAp.out).2 ⟨hS0, HNear.out, by rw [ex]; exact hne⟩
            clear he hne ex hx hS0
            go_wp2
            go_ret
            exact ⟨by rw [HE.out]; first | done | rfl, K2.out.trans HK.out⟩
    · have hq2 : 1 < cap1 := by omega
      go_wp2_with fail
      refine HSo.out.mono ?_
      rintro e w2 ⟨rfl, S, hSl, hperm, hsort, hcell, hk⟩
      have K2 := Lib.hid (hk w hg1 K1.out)
      have HCe := Lib.hid hcell
      have HAp := Lib.hid (apart_sorted ws (S.map bs) hperm hsort)
      clear hk hcell hperm hsort
      go_wp2
      go_loopw [16] (fun t16 wr => ∃ k : Nat, t16 = .int .i64 k ∧ k ≤ ws.length - 1 ∧ (∀ j, j < k → ¬ (S.map bs).getD j [] <+: (S.map bs).getD (j + 1) []) ∧ Kept w2 wr) (fun t16 _ => 20 - (intOf t16).toNat)
      case atStart => exact ⟨0, rfl, by omega, fun j hj => by omega, Kept.refl _⟩
      case round =>
        obtain ⟨k, rfl, hk, hno, hK⟩ := hrel
        have HNo := Lib.hid hno
        have HK := Lib.hid hK
        clear hno hK
        by_cases hlt : k < ws.length - 1
        · obtain ⟨x, hx⟩ : ∃ x, S[k]? = some x := ⟨_, List.getElem?_eq_getElem (by omega)⟩
          obtain ⟨y, hy⟩ : ∃ y, S[k + 1]? = some y := ⟨_, List.getElem?_eq_getElem (by omega)⟩
          have c1 := kept_cell HK.out (HCe.out k x hx)
          have c2 := kept_cell HK.out (HCe.out (k + 1) y hy)
          have c3 := c2
          rw [Nat.add_comm k 1] at c3
          have ex : (S.map bs).getD k [] = bs x := by simp [List.getD, hx]
          have ey : (S.map bs).getD (k + 1) [] = bs y := by simp [List.getD, hy]
          have HB := Lib.hid (hasprefix_is y x)
          cases hp : pf x y with
          | true =>
            rw [hp] at HB
            have HE : Hid (apB ws = false) := by
              show _ = _
              rw [apB_no]
              intro h
              have := ((HAp.out).1 h).2.1 k (by rw [List.length_map]; omega)
              rw [ex, ey] at this
              exact this ((pf_iff _ _).1 hp)
            clear hp ex ey hx hy
            go_wp2_with fail
            refine (HB.out _).mono ?_
            rintro e w3 ⟨rfl, rfl⟩
            go_wp2
            go_ret
            exact ⟨by rw [HE.out]; first | done | rfl, K2.out.trans HK.out⟩
          | false =>
            rw [hp] at HB
            have HNo2 : Hid (∀ j, j < k + 1 → ¬ (S.map bs).getD j [] <+: (S.map bs).getD (j + 1) []) := by
              intro j hj
              rcases Nat.lt_succ_iff_lt_or_eq.1 hj with h | h
              · exact HNo.out j h
              · subst h
                rw [ex, ey]
                exact (pf_no _ _).1 hp
            clear hp ex ey hx hy
            go_wp2_with fail
            refine (HB.out _).mono ?_
            rintro e w3 ⟨rfl, rfl⟩
            go_wp2
            go_roundw
            case rel => exact ⟨k + 1, by go_num, by omega, HNo2.out, HK.out⟩
            case measure => simp [intOf]; omega
        · obtain ⟨x, hx⟩ : ∃ x, S[0]? = some x := ⟨_, List.getElem?_eq_getElem (by omega)⟩
          have c1 := kept_cell HK.out (HCe.out 0 x hx)
          have ex : (S.map bs).getD 0 [] = bs x := by simp [List.getD, hx]
          have HNear : Hid (nearB (S.map bs)) := by
            intro j hj
            rw [List.length_map] at hj
            exact HNo.out j (by omega)
          have hS0 : S.map bs ≠ [] := by
            intro e
            have := congrArg List.length e
            rw [List.length_map, List.length_nil] at this
            omega
          have hge : ((ws.length - 1 : Nat) : Int) ≤ k := by omega
          by_cases he : x = ⟨#[]⟩
          · have hb : (x.toList == ([] : List UInt8)) = true := by rw [he, ByteArray.toList_eq]; rfl
            have HE : Hid (apB ws = false) := by
              show _ = _
              rw [apB_no]
              intro h
              refine ((HAp.out).1 h).2.2 ?_
              rw [ex, he]; rfl
            clear he ex hx hS0
            go_wp2
            go_ret
            exact ⟨by rw [HE.out]; first | done | rfl, K2.out.trans HK.out⟩
          · have hne : bs x ≠ [] := fun h => he (bs_inj h)
            have hb : (x.toList == ([] : List UInt8)) = false := by rw [beq_eq_false_iff_ne, ByteArray.toList_eq]; exact hne
            have HE : Hid (apB ws = true) := by
              show _ = _
              rw [apB_iff]
              exact (HAp.out).2 ⟨hS0, HNear.out, by rw [ex]; exact hne⟩
            clear he hne ex hx hS0
            go_wp2
            go_ret
            exact ⟨by rw [HE.out]; first | done | rfl, K2.out.trans HK.out⟩
end Go.Proofs.YtnlgjakohoimhaaDoor
