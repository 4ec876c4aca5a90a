/- Stipulations: the two tables; head, Write, Begins, Plies, Mover. -/
import Derived.Test.YtnlgjakohoimhaaDoorSiF
import Derived.Test.YtnlgjakohoimhaaDoorShelf
import Derived.RegionTactic
import Derived.ChangeAlike
namespace Go.Proofs.YtnlgjakohoimhaaDoor
open Go.RowKit
set_option linter.unusedVariables false
set_option linter.unusedSimpArgs false
set_option maxRecDepth 100000
set_option maxHeartbeats 4000000

structure TabS (w : World) : Prop where
  kinds : ∀ i : Nat, i < 7 → w.cell? ⟨0, i, none⟩ = some (.string (kT ((i : Int) + 1)))
  goals : ∀ i : Nat, i < 2 → w.cell? ⟨1, i, none⟩ = some (.string (gT ((i : Int) + 1)))
theorem TabS.kept {w w' : World} (h : TabS w) (k : Kept w w') : TabS w' := ⟨fun i hi => kept_cell k (h.kinds i hi), fun i hi => kept_cell k (h.goals i hi)⟩
theorem bt_inj {a b : ByteArray} (h : bs a = bs b) : a = b := bs_inj h
theorem opT_8 : opT 8 0 = ⟨#[100, 105, 97, 32]⟩ := bs_inj (by rw [bs_opT]; rfl)
theorem head_is (k g n : Int) (h : Bool) (hv : okG k g = true) (w : World) (hT : TabS w) : Calls Tryd.prog 29 #[qv ⟨k, g, n, h⟩] w fun e w' => e = .returned (.string (opT k g)) ∧ Kept w w' := by
  have HK := Lib.hid ((Kept.refl w).alloc (.cells (ql ⟨k, g, n, h⟩).toArray 24))
  have HT := hT.kept HK.out
  have hk := HT.kinds
  have hgl := HT.goals
  clear HT hT
  unfold qv
  unfold ql at HK hk hgl
  dsimp only at HK hk hgl ⊢
  rw [okG_t] at hv
  rcases hv with ⟨rfl, rfl⟩ | ⟨⟨h1, h2⟩, h3, h4⟩
  · go_enter Tryd.func29, Tryd.ntmps29
    go_wp2
    go_ret
    exact ⟨by rw [opT_8]; first | done | rfl, HK.out⟩
  · have a : k = 1 ∨ k = 2 ∨ k = 3 ∨ k = 4 ∨ k = 5 ∨ k = 6 ∨ k = 7 := by omega
    have b : g = 1 ∨ g = 2 := by omega
    clear h1 h2 h3 h4
    rcases a with rfl | rfl | rfl | rfl | rfl | rfl | rfl
    · have hk1 := hk 0 (by omega)
      have z1 : (kT 1).size ≤ 6 := by decide
      clear hk
      rcases b with rfl | rfl
      · have hg1 := hgl 0 (by omega)
        have z2 : (gT 1).size ≤ 1 := by decide
        clear hgl
        go_enter Tryd.func29, Tryd.ntmps29
        go_wp2_with fail
        go_region
        all_goals
          go_wp2
          go_ret
          exact ⟨rfl, by first | exact HK.out.drewN _ | exact HK.out.drew | exact HK.out⟩
      · have hg1 := hgl 1 (by omega)
        have z2 : (gT 2).size ≤ 1 := by decide
        clear hgl
        go_enter Tryd.func29, Tryd.ntmps29
        go_wp2_with fail
        go_region
        all_goals
          go_wp2
          go_ret
          exact ⟨rfl, by first | exact HK.out.drewN _ | exact HK.out.drew | exact HK.out⟩
    · have hk1 := hk 1 (by omega)
      have z1 : (kT 2).size ≤ 6 := by decide
      clear hk
      rcases b with rfl | rfl
      · have hg1 := hgl 0 (by omega)
        have z2 : (gT 1).size ≤ 1 := by decide
        clear hgl
        go_enter Tryd.func29, Tryd.ntmps29
        go_wp2_with fail
        go_region
        all_goals
          go_wp2
          go_ret
          exact ⟨rfl, by first | exact HK.out.drewN _ | exact HK.out.drew | exact HK.out⟩
      · have hg1 := hgl 1 (by omega)
        have z2 : (gT 2).size ≤ 1 := by decide
        clear hgl
        go_enter Tryd.func29, Tryd.ntmps29
        go_wp2_with fail
        go_region
        all_goals
          go_wp2
          go_ret
          exact ⟨rfl, by first | exact HK.out.drewN _ | exact HK.out.drew | exact HK.out⟩
    · have hk1 := hk 2 (by omega)
      have z1 : (kT 3).size ≤ 6 := by decide
      clear hk
      rcases b with rfl | rfl
      · have hg1 := hgl 0 (by omega)
        have z2 : (gT 1).size ≤ 1 := by decide
        clear hgl
        go_enter Tryd.func29, Tryd.ntmps29
        go_wp2_with fail
        go_region
        all_goals
          go_wp2
          go_ret
          exact ⟨rfl, by first | exact HK.out.drewN _ | exact HK.out.drew | exact HK.out⟩
      · have hg1 := hgl 1 (by omega)
        have z2 : (gT 2).size ≤ 1 := by decide
        clear hgl
        go_enter Tryd.func29, Tryd.ntmps29
        go_wp2_with fail
        go_region
        all_goals
          go_wp2
          go_ret
          exact ⟨rfl, by first | exact HK.out.drewN _ | exact HK.out.drew | exact HK.out⟩
    · have hk1 := hk 3 (by omega)
      have z1 : (kT 4).size ≤ 6 := by decide
      clear hk
      rcases b with rfl | rfl
      · have hg1 := hgl 0 (by omega)
        have z2 : (gT 1).size ≤ 1 := by decide
        clear hgl
        go_enter Tryd.func29, Tryd.ntmps29
        go_wp2_with fail
        go_region
        all_goals
          go_wp2
          go_ret
          exact ⟨rfl, by first | exact HK.out.drewN _ | exact HK.out.drew | exact HK.out⟩
      · have hg1 := hgl 1 (by omega)
        have z2 : (gT 2).size ≤ 1 := by decide
        clear hgl
        go_enter Tryd.func29, Tryd.ntmps29
        go_wp2_with fail
        go_region
        all_goals
          go_wp2
          go_ret
          exact ⟨rfl, by first | exact HK.out.drewN _ | exact HK.out.drew | exact HK.out⟩
    · have hk1 := hk 4 (by omega)
      have z1 : (kT 5).size ≤ 6 := by decide
      clear hk
      rcases b with rfl | rfl
      · have hg1 := hgl 0 (by omega)
        have z2 : (gT 1).size ≤ 1 := by decide
        clear hgl
        go_enter Tryd.func29, Tryd.ntmps29
        go_wp2_with fail
        go_region
        all_goals
          go_wp2
          go_ret
          exact ⟨rfl, by first | exact HK.out.drewN _ | exact HK.out.drew | exact HK.out⟩
      · have hg1 := hgl 1 (by omega)
        have z2 : (gT 2).size ≤ 1 := by decide
        clear hgl
        go_enter Tryd.func29, Tryd.ntmps29
        go_wp2_with fail
        go_region
        all_goals
          go_wp2
          go_ret
          exact ⟨rfl, by first | exact HK.out.drewN _ | exact HK.out.drew | exact HK.out⟩
    · have hk1 := hk 5 (by omega)
      have z1 : (kT 6).size ≤ 6 := by decide
      clear hk
      rcases b with rfl | rfl
      · have hg1 := hgl 0 (by omega)
        have z2 : (gT 1).size ≤ 1 := by decide
        clear hgl
        go_enter Tryd.func29, Tryd.ntmps29
        go_wp2_with fail
        go_region
        all_goals
          go_wp2
          go_ret
          exact ⟨rfl, by first | exact HK.out.drewN _ | exact HK.out.drew | exact HK.out⟩
      · have hg1 := hgl 1 (by omega)
        have z2 : (gT 2).size ≤ 1 := by decide
        clear hgl
        go_enter Tryd.func29, Tryd.ntmps29
        go_wp2_with fail
        go_region
        all_goals
          go_wp2
          go_ret
          exact ⟨rfl, by first | exact HK.out.drewN _ | exact HK.out.drew | exact HK.out⟩
    · have hk1 := hk 6 (by omega)
      have z1 : (kT 7).size ≤ 6 := by decide
      clear hk
      rcases b with rfl | rfl
      · have hg1 := hgl 0 (by omega)
        have z2 : (gT 1).size ≤ 1 := by decide
        clear hgl
        go_enter Tryd.func29, Tryd.ntmps29
        go_wp2_with fail
        go_region
        all_goals
          go_wp2
          go_ret
          exact ⟨rfl, by first | exact HK.out.drewN _ | exact HK.out.drew | exact HK.out⟩
      · have hg1 := hgl 1 (by omega)
        have z2 : (gT 2).size ≤ 1 := by decide
        clear hgl
        go_enter Tryd.func29, Tryd.ntmps29
        go_wp2_with fail
        go_region
        all_goals
          go_wp2
          go_ret
          exact ⟨rfl, by first | exact HK.out.drewN _ | exact HK.out.drew | exact HK.out⟩
end Go.Proofs.YtnlgjakohoimhaaDoor
