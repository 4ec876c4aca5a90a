/- Slices of texts that come in; the document's begins and Apart. -/
import Derived.Test.YtihmpglfghffiaaLxC
import Derived.Deep.Slices
import Derived.ChangeSame
import Derived.DataShut
import Derived.OwnWalk
namespace Go.Proofs.Ytihmpglfghffiaa
open Go.RowKit
set_option linter.unusedVariables false
set_option linter.unusedSimpArgs false
set_option maxRecDepth 100000
set_option maxHeartbeats 4000000

/-- A slice that reads as these texts. -/
def LsT (w : World) (v : Value) (l : List ByteArray) : Prop :=
  (v = .slice none 0 0 ∧ l = []) ∨ ∃ g off cap, v = .slice (some ⟨g, off, none⟩) l.length cap ∧ g < w.heap.size ∧ l.length ≤ cap ∧ ∀ j x, l[j]? = some x → w.cell? ⟨g, off + j, none⟩ = some (.string x)
theorem LsT.kept {w w' : World} {v : Value} {l : List ByteArray} (h : LsT w v l) (k : Kept w w') : LsT w' v l := by
  rcases h with h | ⟨g, off, cap, e, h1, h2, h3⟩
  · exact .inl h
  · exact .inr ⟨g, off, cap, e, Nat.lt_of_lt_of_le h1 k.size, h2, fun j x hx => kept_cell k (h3 j x hx)⟩
theorem LsT.slice {w : World} {v : Value} {l : List ByteArray} (h : LsT w v l) : ∃ a cap, v = .slice a l.length cap := by
  rcases h with ⟨rfl, rfl⟩ | ⟨g, off, cap, rfl, _⟩
  · exact ⟨_, _, rfl⟩
  · exact ⟨_, _, rfl⟩
/-- What the texts hold, one by one. -/
theorem LsT.at_ {w : World} {v : Value} {l : List ByteArray} (h : LsT w v l) (hl : 0 < l.length) :
    ∃ g off cap, v = .slice (some ⟨g, off, none⟩) l.length cap ∧ g < w.heap.size ∧ l.length ≤ cap ∧ ∀ j x, l[j]? = some x → w.cell? ⟨g, off + j, none⟩ = some (.string x) := by
  rcases h with ⟨rfl, rfl⟩ | h
  · simp at hl
  · exact h
/-! ### begins -/
def pf (h t : ByteArray) : Bool := (bs h).isPrefixOf (bs t)
theorem pf_iff (h t : ByteArray) : pf h t = true ↔ bs h <+: bs t := List.isPrefixOf_iff_prefix
theorem pf_no (h t : ByteArray) : pf h t = false ↔ ¬ bs h <+: bs t := by rw [← pf_iff, Bool.not_eq_true]
theorem pf_cut (h t : ByteArray) (hz : h.size ≤ t.size) : ((t.extract 0 h.size).toList == h.toList) = pf h t := by
  have e1 : (t.extract 0 h.size).toList = (bs t).take h.size := by rw [ByteArray.toList_eq]; show bs _ = _; rw [bs_extract, List.drop_zero]
  have e2 : h.toList = bs h := ByteArray.toList_eq h
  rw [e1, e2, Bool.eq_iff_iff, beq_iff_eq, pf_iff, List.prefix_iff_eq_take, bs_len]
  exact eq_comm
theorem run_head (t : ByteArray) (n : Nat) (hn : n ≤ t.size) (s : ByteArray) (hs : t.extract 0 n = s) (w : World) :
    (Instr.slice 9 (.string t) none (some (.int .i64 n)) none).run Try.prog w = .ok (.string s) w := by
  rw [run_slice_string_to_if (h := Try.underlying9), if_pos (by omega), ← hs]
  rfl
theorem begins_is (t h : ByteArray) (w : World) : Calls Try.prog 29 #[.string t, .string h] w fun e w' => e = .returned (.bool (pf h t)) ∧ Kept w w' := by
  by_cases hz : h.size ≤ t.size
  · obtain ⟨s, hs⟩ : ∃ s, t.extract 0 h.size = s := ⟨_, rfl⟩
    have hsl := run_head t h.size hz s hs
    have hb := pf_cut h t hz
    rw [hs] at hb
    clear hs
    go_enter Try.func29, Try.ntmps29
    go_wp2
    go_ret
    exact ⟨rfl, Kept.refl _⟩
  · have HE : Hid (pf h t = false) := by
      show _ = _
      rw [pf_no]
      intro hp
      have := hp.length_le
      rw [bs_len, bs_len] at this
      exact hz this
    have hz' : (t.size : Int) < h.size := by omega
    go_enter Try.func29, Try.ntmps29
    go_wp2
    go_ret
    exact ⟨by rw [HE.out]; first | done | rfl, Kept.refl _⟩
/-! ### Apart -/
def OkTo (ws : List ByteArray) (i : Nat) : Prop := ∀ j, j < i → ∀ a, ws[j]? = some a → bs a ≠ [] ∧ ∀ k b, k ≠ j → ws[k]? = some b → ¬ bs a <+: bs b
theorem apart_all {ws : List ByteArray} (h0 : ws ≠ []) (h : OkTo ws ws.length) : Apart ws := by
  refine ⟨h0, fun x hx => ?_, ?_⟩
  · obtain ⟨j, hj, rfl⟩ := List.getElem_of_mem hx
    exact (h j hj _ (List.getElem?_eq_getElem hj)).1
  · rw [List.pairwise_iff_getElem]
    intro i k hi hk hik
    exact ⟨(h i hi _ (List.getElem?_eq_getElem hi)).2 k _ (by omega) (List.getElem?_eq_getElem hk), (h k hk _ (List.getElem?_eq_getElem hk)).2 i _ (by omega) (List.getElem?_eq_getElem hi)⟩
theorem rapart_is (ws : List ByteArray) (v : Value) (w : World) (hv : LsT w v ws) (hn : ws.length ≤ 20) :
    Calls Try.prog 18 #[v] w fun e w' => e = .returned (.bool (apB ws)) ∧ Kept w w' := by
  obtain ⟨a, cap, rfl⟩ := hv.slice
  have HV := Lib.hid hv
  clear hv
  go_enter Try.func18, Try.ntmps18
  go_wp2
  go_loopw [3] (fun t3 wr => ∃ i : Nat, t3 = .int .i64 i ∧ i ≤ ws.length ∧ OkTo ws i ∧ Kept w wr) (fun t3 _ => 20 - (intOf t3).toNat)
  case atStart => exact ⟨0, rfl, by omega, fun j hj => by omega, Kept.refl _⟩
  case round =>
    obtain ⟨i, rfl, hi, hok, hK⟩ := hrel
    have HOK := Lib.hid hok
    have HK := Lib.hid hK
    clear hok hK
    by_cases hlt : i < ws.length
    · have HW := Lib.hid (HV.out.kept HK.out)
      obtain ⟨g, off, cap', ea, hg, hcap, hcell⟩ := HW.out.at_ (by omega)
      obtain ⟨rfl, rfl⟩ : a = some ⟨g, off, none⟩ ∧ cap = cap' := by simpa using ea
      have HC := Lib.hid hcell
      obtain ⟨x, hx⟩ : ∃ x, ws[i]? = some x := ⟨_, List.getElem?_eq_getElem hlt⟩
      have hcx := HC.out i x hx
      have HX := Lib.hid hx
      clear ea hcell hx
      by_cases he : x = ⟨#[]⟩
      · have hb : (x.toList == ([] : List UInt8)) = true := by rw [he, ByteArray.toList_eq]; rfl
        have HE : Hid (apB ws = false) := by
          show _ = _
          rw [apB_no]
          intro h
          exact h.2.1 x (List.mem_of_getElem? HX.out) (by rw [he]; rfl)
        clear he
        go_wp2
        go_ret
        exact ⟨by rw [HE.out]; first | done | rfl, HK.out⟩
      · have hne : bs x ≠ [] := fun h => he (bs_inj h)
        have hb : (x.toList == ([] : List UInt8)) = false := by rw [beq_eq_false_iff_ne, ByteArray.toList_eq]; exact hne
        have HNE := Lib.hid hne
        clear he hne
        go_wp2
        generalize wr = W at *
        go_loopw [4] (fun t4 wr => ∃ k : Nat, t4 = .int .i64 k ∧ k ≤ ws.length ∧ (∀ j, j < k → j ≠ i → ∀ b, ws[j]? = some b → ¬ bs x <+: bs b) ∧ Kept W wr) (fun t4 _ => 20 - (intOf t4).toNat)
        case atStart => exact ⟨0, rfl, by omega, fun j hj => by omega, Kept.refl _⟩
        case round =>
          obtain ⟨k, rfl, hk, hno, hK2⟩ := hrel
          have HNO := Lib.hid hno
          have HK2 := Lib.hid hK2
          have hcx2 := kept_cell HK2.out hcx
          clear hno hK2
          by_cases hkl : k < ws.length
          · obtain ⟨y, hy⟩ : ∃ y, ws[k]? = some y := ⟨_, List.getElem?_eq_getElem hkl⟩
            have hcy := kept_cell HK2.out (HC.out k y hy)
            have HY := Lib.hid hy
            clear hy
            by_cases hik : i = k
            · have hbe : ((i : Int) != (k : Int)) = false := by rw [hik]; simp
              go_wp2_with fail
              refine wp_region_held_drew (S := Kept _) (by kernel_rfl) (Kept.refl _).drew (fun hHeld => ?_)
              refine rT 0 22 (.int .i64 i) rfl rfl hHeld ?_
              simp only [pA, pN, sZ, sU]
              refine rT 1 23 (.int .i64 k) rfl rfl hHeld ?_
              simp only [pA, pN, sZ, sU]
              refine rT 2 24 (.bool false) rfl rfl hHeld ?_
              simp only [pA, pN, sZ, sU]
              refine rT 3 25 (.bool false) rfl rfl hHeld ?_
              simp only [pA, pN, sZ, sU]
              refine rN 4 26 rfl rfl hHeld ?_
              simp only [pA, pN, sZ, sU]
              refine rN 5 27 rfl rfl hHeld ?_
              simp only [pA, pN, sZ, sU]
              refine rN 6 28 rfl rfl hHeld ?_
              simp only [pA, pN, sZ, sU]
              refine rN 7 29 rfl rfl hHeld ?_
              simp only [pA, pN, sZ, sU]
              refine rN 8 30 rfl rfl hHeld ?_
              simp only [pA, pN, sZ, sU]
              refine rN 9 31 rfl rfl hHeld ?_
              simp only [pA, pN, sZ, sU]
              refine rN 10 32 rfl rfl hHeld ?_
              simp only [pA, pN, sZ, sU]
              refine rN 11 33 rfl rfl hHeld ?_
              simp only [pA, pN, sZ, sU]
              refine rN 12 34 rfl rfl hHeld ?_
              simp only [pA, pN, sZ, sU]
              refine rT 13 35 (.bool false) rfl rfl hHeld ?_
              simp only [pA, pN, sZ, sU]
              refine wpAnyH_done (by kernel_rfl) ?_ _
              have HNO2 : Hid (∀ j, j < k + 1 → j ≠ i → ∀ b, ws[j]? = some b → ¬ bs x <+: bs b) := by
                intro j hj hji b hb
                exact HNO.out j (by omega) hji b hb
              have HK3 := Lib.hid (HK2.out.trans hHeld)
              clear hik
              go_wp2
              go_roundw
              case rel => exact ⟨k + 1, by go_num, by omega, HNO2.out, HK3.out⟩
              case measure => simp [intOf]; omega
            · have hbe : ((i : Int) != (k : Int)) = true := bne_iff_ne.2 (by omega)
              have HB := Lib.hid (begins_is y x)
              cases hp : pf x y with
              | true =>
                rw [hp] at HB
                have HE : Hid (apB ws = false) := by
                  show _ = _
                  rw [apB_no]
                  intro h
                  exact apart_two h HX.out HY.out hik ((pf_iff _ _).1 hp)
                clear hp hik
                go_wp2_with fail
                refine wp_region_held_drew (S := Kept _) (by kernel_rfl) (Kept.refl _).drew (fun hHeld => ?_)
                refine rT 0 22 (.int .i64 i) rfl rfl hHeld ?_
                simp only [pA, pN, sZ, sU]
                refine rT 1 23 (.int .i64 k) rfl rfl hHeld ?_
                simp only [pA, pN, sZ, sU]
                refine rT 2 24 (.bool true) rfl rfl hHeld ?_
                simp only [pA, pN, sZ, sU]
                refine rT 3 25 (.bool true) rfl rfl hHeld ?_
                simp only [pA, pN, sZ, sU]
                refine rT 4 26 (.slice (some ⟨g, off, none⟩) ws.length cap) rfl rfl hHeld ?_
                simp only [pA, pN, sZ, sU]
                refine rT 5 27 (.int .i64 k) rfl rfl hHeld ?_
                simp only [pA, pN, sZ, sU]
                refine rT 6 28 (.pointer (some ⟨g, off + k, none⟩)) rfl rfl hHeld ?_
                simp only [pA, pN, sZ, sU]
                refine rC 7 29 (.string y) rfl rfl (fun _ h => kept_cell h ((hcy))) hHeld ?_
                simp only [pA, pN, sZ, sU]
                refine rT 8 30 (.slice (some ⟨g, off, none⟩) ws.length cap) rfl rfl hHeld ?_
                simp only [pA, pN, sZ, sU]
                refine rT 9 31 (.int .i64 i) rfl rfl hHeld ?_
                simp only [pA, pN, sZ, sU]
                refine rT 10 32 (.pointer (some ⟨g, off + i, none⟩)) rfl rfl hHeld ?_
                simp only [pA, pN, sZ, sU]
                refine rC 11 33 (.string x) rfl rfl (fun _ h => kept_cell h ((hcx2))) hHeld ?_
                simp only [pA, pN, sZ, sU]
                refine rR 12 rfl (fun K hK => ?_)
                rw [if_pos (by rfl)]
                go_simp
                refine (HB.out _).mono ?_
                rintro e w2 ⟨rfl, gw2⟩
                refine hK.out _ _ (hHeld.trans gw2) (fun _ => ?_)
                replace hHeld := hHeld.trans gw2
                clear hK K
                refine rT 13 35 (.bool true) rfl rfl hHeld ?_
                simp only [pA, pN, sZ, sU]
                refine wpAnyH_done (by kernel_rfl) ?_ _
                have HK3 := Lib.hid (HK.out.trans (HK2.out.trans hHeld))
                go_wp2
                go_ret
                exact ⟨by rw [HE.out]; first | done | rfl, HK3.out⟩
              | false =>
                rw [hp] at HB
                have HNO2 : Hid (∀ j, j < k + 1 → j ≠ i → ∀ b, ws[j]? = some b → ¬ bs x <+: bs b) := by
                  intro j hj hji b hb
                  rcases Nat.lt_succ_iff_lt_or_eq.1 hj with h | h
                  · exact HNO.out j h hji b hb
                  · subst h
                    rw [HY.out] at hb
                    obtain rfl := Option.some.inj hb
                    exact (pf_no _ _).1 hp
                clear hp hik
                go_wp2_with fail
                refine wp_region_held_drew (S := Kept _) (by kernel_rfl) (Kept.refl _).drew (fun hHeld => ?_)
                refine rT 0 22 (.int .i64 i) rfl rfl hHeld ?_
                simp only [pA, pN, sZ, sU]
                refine rT 1 23 (.int .i64 k) rfl rfl hHeld ?_
                simp only [pA, pN, sZ, sU]
                refine rT 2 24 (.bool true) rfl rfl hHeld ?_
                simp only [pA, pN, sZ, sU]
                refine rT 3 25 (.bool true) rfl rfl hHeld ?_
                simp only [pA, pN, sZ, sU]
                refine rT 4 26 (.slice (some ⟨g, off, none⟩) ws.length cap) rfl rfl hHeld ?_
                simp only [pA, pN, sZ, sU]
                refine rT 5 27 (.int .i64 k) rfl rfl hHeld ?_
                simp only [pA, pN, sZ, sU]
                refine rT 6 28 (.pointer (some ⟨g, off + k, none⟩)) rfl rfl hHeld ?_
                simp only [pA, pN, sZ, sU]
                refine rC 7 29 (.string y) rfl rfl (fun _ h => kept_cell h ((hcy))) hHeld ?_
                simp only [pA, pN, sZ, sU]
                refine rT 8 30 (.slice (some ⟨g, off, none⟩) ws.length cap) rfl rfl hHeld ?_
                simp only [pA, pN, sZ, sU]
                refine rT 9 31 (.int .i64 i) rfl rfl hHeld ?_
                simp only [pA, pN, sZ, sU]
                refine rT 10 32 (.pointer (some ⟨g, off + i, none⟩)) rfl rfl hHeld ?_
                simp only [pA, pN, sZ, sU]
                refine rC 11 33 (.string x) rfl rfl (fun _ h => kept_cell h ((hcx2))) hHeld ?_
                simp only [pA, pN, sZ, sU]
                refine rR 12 rfl (fun K hK => ?_)
                rw [if_pos (by rfl)]
                go_simp
                refine (HB.out _).mono ?_
                rintro e w2 ⟨rfl, gw2⟩
                refine hK.out _ _ (hHeld.trans gw2) (fun _ => ?_)
                replace hHeld := hHeld.trans gw2
                clear hK K
                refine rT 13 35 (.bool false) rfl rfl hHeld ?_
                simp only [pA, pN, sZ, sU]
                refine wpAnyH_done (by kernel_rfl) ?_ _
                have HK3 := Lib.hid (HK2.out.trans hHeld)
                go_wp2
                go_roundw
                case rel => exact ⟨k + 1, by go_num, by omega, HNO2.out, HK3.out⟩
                case measure => simp [intOf]; omega
          · have HOK2 : Hid (OkTo ws (i + 1)) := by
              intro j hj b hb
              rcases Nat.lt_succ_iff_lt_or_eq.1 hj with h | h
              · exact HOK.out j h b hb
              · subst h
                rw [HX.out] at hb
                obtain rfl := Option.some.inj hb
                refine ⟨HNE.out, fun k' b' hk' hb' => HNO.out k' ?_ hk' b' hb'⟩
                have := (List.getElem?_eq_some_iff.1 hb').1
                omega
            have HK3 := Lib.hid (HK.out.trans HK2.out)
            go_wp2
            go_roundw
            case rel => exact ⟨i + 1, by go_num, by omega, HOK2.out, HK3.out⟩
            case measure => simp [intOf]; omega
    · by_cases h0 : ws = []
      · have HE : Hid (apB ws = false) := by
          show _ = _
          rw [apB_no]
          intro h
          exact h.1 h0
        have hzb : decide (0 < ws.length) = false := by rw [h0]; rfl
        have hge : (ws.length : Int) ≤ i := by omega
        clear h0
        go_wp2
        go_ret
        exact ⟨by rw [HE.out, ← hzb]; first | done | rfl, HK.out⟩
      · have HE : Hid (apB ws = true) := by
          show _ = _
          rw [apB_iff]
          exact apart_all h0 (fun j hj => HOK.out j (by omega))
        have hzb : decide (0 < ws.length) = true := decide_eq_true (List.length_pos_iff.2 h0)
        have hge : (ws.length : Int) ≤ i := by omega
        clear h0
        go_wp2
        go_ret
        exact ⟨by rw [HE.out, ← hzb]; first | done | rfl, HK.out⟩
end Go.Proofs.Ytihmpglfghffiaa
