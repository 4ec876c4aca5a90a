/- OneOf, and the document's. -/
import Derived.Test.YtnlgjakohoimhaaDoorLxJ
namespace Go.Proofs.YtnlgjakohoimhaaDoor
open Go.RowKit
set_option linter.unusedVariables false
set_option linter.unusedSimpArgs false
set_option maxRecDepth 100000
set_option maxHeartbeats 4000000

theorem oneGo_yes {z : Nat} {i : Int} {M : List UInt8} {w : ByteArray} {ws : List ByteArray} {k far : Nat} (h : cmn M (bs w) = w.size) : oneGo z i M (w :: ws) k far = ⟨i + cmn M (bs w), k, 0⟩ := by
  simp only [oneGo]; rw [if_pos h]
theorem oneGo_no {z : Nat} {i : Int} {M : List UInt8} {w : ByteArray} {ws : List ByteArray} {k far : Nat} (h : ¬ cmn M (bs w) = w.size) : oneGo z i M (w :: ws) k far = oneGo z i M ws (k + 1) (max far (cmn M (bs w))) := by
  simp only [oneGo]; rw [if_neg h]
theorem oneGo_end (z : Nat) (i : Int) (M : List UInt8) (k far : Nat) : oneGo z i M [] k far = stk z (i + far) := rfl
theorem dropT {ws : List ByteArray} {k : Nat} {x : ByteArray} (h : ws[k]? = some x) : ws.drop k = x :: ws.drop (k + 1) := by
  obtain ⟨l1, e1⟩ := List.getElem?_eq_some_iff.1 h
  rw [List.drop_eq_getElem_cons l1, e1]
theorem oneP_no {t : ByteArray} {ws : List ByteArray} {i : Int} (h : ¬ (inB t i = true ∧ apB ws = true)) : oneP t ws i = argS := by unfold oneP; rw [if_neg h]
theorem oneP_yes {t : ByteArray} {ws : List ByteArray} {m : Nat} (h : inB t m = true) (h2 : apB ws = true) : oneP t ws m = oneGo t.size m ((bs t).drop m) ws 0 0 := by unfold oneP; rw [if_pos ⟨h, h2⟩]; rfl
theorem oneOf_is (t : ByteArray) (i : Int) (ws : List ByteArray) (v : Value) (w : World) (hv : LsT w v ws) (ht : t.size ≤ 1000) (hn : ws.length ≤ 20) (hw : ∀ (j : Nat) (x : ByteArray), ws[j]? = some x → x.size ≤ 1000) :
    Calls Tryd.prog 19 #[.string t, .int .i64 i, v] w fun e w' => e = .returned (sv (oneP t ws i)) ∧ Kept w w' := by
  obtain ⟨a, cap, rfl⟩ := hv.slice
  have HV := Lib.hid hv
  have HW := Lib.hid hw
  have HS := Lib.hid (SAt.new w Zs)
  have HI := Lib.hid (within_is t i)
  have HA : Hid (∀ w1, Kept w w1 → Calls Tryd.prog 36 #[.slice a ws.length cap] w1 fun e w' => e = .returned (.bool (apB ws)) ∧ Kept w1 w') := fun w1 k => apart_is ws _ w1 (HV.out.kept k) hn
  clear hv hw
  cases hb : inB t i with
  | false =>
    rw [hb] at HI
    have HE := Lib.hid (oneP_no (t := t) (ws := ws) (i := i) (by rw [hb]; simp))
    clear hb
    go_enter Tryd.func19, Tryd.ntmps19
    go_wp2_with (with_reducible refine wpList_new_sp rfl rfl ?_)
    refine (HI.out _).mono ?_
    rintro e w1 ⟨rfl, rfl⟩
    go_wp2_with fail
    refine (refused_is _).mono ?_
    rintro e w2 ⟨rfl, k2⟩
    have H2 := Lib.hid (HS.out.kept k2)
    have K2 := Lib.hid (((Kept.refl w).alloc _).trans k2)
    clear k2
    go_wp2_with (refine wpList_store_sp rfl _ _ rfl w.heap.size Zs argS H2.out rfl rfl ?_)
    refine bodyPost_ret (v := sv argS) ?_ rfl ⟨by rw [HE.out], K2.out.setRow (by omega) _⟩
    exact (ret_sp rfl H2.out rfl).trans rfl
  | true =>
    rw [hb] at HI
    cases hb2 : apB ws with
    | false =>
      have HA2 : Hid (∀ w1, Kept w w1 → Calls Tryd.prog 36 #[.slice a ws.length cap] w1 fun e w' => e = .returned (.bool false) ∧ Kept w1 w') := by
        intro w1 k
        have := HA.out w1 k
        rw [hb2] at this
        exact this
      have HE := Lib.hid (oneP_no (t := t) (ws := ws) (i := i) (by rw [hb2]; simp))
      clear hb hb2 HA
      go_enter Tryd.func19, Tryd.ntmps19
      go_wp2_with (with_reducible refine wpList_new_sp rfl rfl ?_)
      refine (HI.out _).mono ?_
      rintro e w1 ⟨rfl, rfl⟩
      go_wp2_with fail
      refine (HA2.out _ ((Kept.refl w).alloc _)).mono ?_
      rintro e w1 ⟨rfl, k1⟩
      have H1 := Lib.hid (HS.out.kept k1)
      have K1 := Lib.hid (((Kept.refl w).alloc _).trans k1)
      clear k1
      go_wp2_with fail
      refine (refused_is _).mono ?_
      rintro e w2 ⟨rfl, k2⟩
      have H2 := Lib.hid (H1.out.kept k2)
      have K2 := Lib.hid (K1.out.trans k2)
      clear k2
      go_wp2_with (refine wpList_store_sp rfl _ _ rfl w.heap.size Zs argS H2.out rfl rfl ?_)
      refine bodyPost_ret (v := sv argS) ?_ rfl ⟨by rw [HE.out], K2.out.setRow (by omega) _⟩
      exact (ret_sp rfl H2.out rfl).trans rfl
    | true =>
      have HA2 : Hid (∀ w1, Kept w w1 → Calls Tryd.prog 36 #[.slice a ws.length cap] w1 fun e w' => e = .returned (.bool true) ∧ Kept w1 w') := by
        intro w1 k
        have := HA.out w1 k
        rw [hb2] at this
        exact this
      obtain ⟨m, rfl, hm⟩ := inB_yes hb
      have HG0 := Lib.hid (oneP_yes hb hb2)
      have HQ := Lib.hid (stuck_is t)
      obtain ⟨s, hs⟩ : ∃ s, t.extract m t.size = s := ⟨_, rfl⟩
      have hsl := run_rest t m hm s hs
      have HC : Hid (∀ v : ByteArray, v.size ≤ 1000 → ∀ w, Calls Tryd.prog 38 #[.string s, .string v] w fun e w' => e = .returned (.int .i64 (cmn ((bs t).drop m) (bs v) : Nat)) ∧ Kept w w') := by
        intro v hv w
        rw [← hs]
        exact common_at t v m hm ht hv w
      have HR : Hid (∀ v : ByteArray, cmn ((bs t).drop m) (bs v) ≤ v.size ∧ m + cmn ((bs t).drop m) (bs v) ≤ t.size) := fun v => cmn_room t v m hm
      generalize (bs t).drop m = M at *
      generalize oneP t ws m = G at *
      clear hb hb2 HA hs
      go_enter Tryd.func19, Tryd.ntmps19
      go_wp2_with (with_reducible refine wpList_new_sp rfl rfl ?_)
      refine (HI.out _).mono ?_
      rintro e w1 ⟨rfl, rfl⟩
      go_wp2_with fail
      refine (HA2.out _ ((Kept.refl w).alloc _)).mono ?_
      rintro e w1 ⟨rfl, k1⟩
      have H1 := Lib.hid (HS.out.kept k1)
      have K1 := Lib.hid (((Kept.refl w).alloc _).trans k1)
      clear k1
      go_wp2
      go_loopw [7, 23] (fun t7 t23 wr => ∃ k far : Nat, t7 = .int .i64 far ∧ t23 = .int .i64 k ∧ k ≤ ws.length ∧ m + far ≤ t.size ∧ G = oneGo t.size m M (ws.drop k) k far ∧ SAt wr w.heap.size Zs ∧ Kept w wr) (fun _ t23 _ => 20 - (intOf t23).toNat)
      case atStart => exact ⟨0, 0, rfl, rfl, by omega, by omega, HG0.out, H1.out, K1.out⟩
      case round =>
        obtain ⟨k, far, rfl, rfl, hk, hfar, hG, hS, hK⟩ := hrel
        have HG := Lib.hid hG
        have HSr := Lib.hid hS
        have HK := Lib.hid hK
        clear hG hS hK
        by_cases hlt : k < ws.length
        · have HWr := Lib.hid (HV.out.kept HK.out)
          obtain ⟨g, off, cap', ea, hg, hcap, hcell⟩ := HWr.out.at_ (by omega)
          obtain ⟨rfl, rfl⟩ : a = some ⟨g, off, none⟩ ∧ cap = cap' := by simpa using ea
          obtain ⟨x, hx⟩ : ∃ x, ws[k]? = some x := ⟨_, List.getElem?_eq_getElem hlt⟩
          have hcx := hcell k x hx
          have hxs := HW.out k x hx
          have HD := Lib.hid (dropT hx)
          have hr := HR.out x
          have HCx := Lib.hid (HC.out x hxs)
          clear ea hcell hx
          have HG1 := Lib.hid (show G = oneGo t.size m M (x :: ws.drop (k + 1)) k far by rw [HG.out, HD.out])
          by_cases hc : cmn M (bs x) = x.size
          · have HE := Lib.hid (HG1.out.trans (oneGo_yes hc))
            generalize cmn M (bs x) = n at *
            have hb : ((n : Int) == (x.size : Int)) = true := beq_iff_eq.2 (by omega)
            clear hc
            go_wp2_with fail
            refine (HCx.out _).mono ?_
            rintro e w3 ⟨rfl, k3⟩
            have H3 := Lib.hid (HSr.out.kept k3)
            have K3 := Lib.hid (HK.out.trans k3)
            clear k3
            go_wp2_with (first | (refine wpList_bt_sn rfl _ _ rfl ((m : Int) + n) k rfl rfl ?_) | (refine wpList_store_sp rfl _ _ rfl w.heap.size Zs ⟨(m : Int) + n, k, 0⟩ H3.out rfl rfl ?_))
            refine bodyPost_ret (v := sv ⟨(m : Int) + n, k, 0⟩) ?_ rfl ⟨by rw [HE.out], K3.out.setRow (by omega) _⟩
            exact (ret_sp rfl H3.out rfl).trans rfl
          · have HE := Lib.hid (HG1.out.trans (oneGo_no hc))
            generalize cmn M (bs x) = n at *
            have hb : ((n : Int) == (x.size : Int)) = false := beq_eq_false_iff_ne.2 (by omega)
            clear hc
            rcases Nat.lt_or_ge far n with hmx | hmx
            · have HE2 := Lib.hid (show G = oneGo t.size m M (ws.drop (k + 1)) (k + 1) n by rw [HE.out, Nat.max_eq_right (by omega)])
              go_wp2_with fail
              refine (HCx.out _).mono ?_
              rintro e w3 ⟨rfl, k3⟩
              have H3 := Lib.hid (HSr.out.kept k3)
              have K3 := Lib.hid (HK.out.trans k3)
              clear k3
              go_wp2
              go_roundw
              case rel => exact ⟨k + 1, n, by rw [show max (far : Int) (n : Int) = n by omega], by go_num, by omega, by omega, HE2.out, H3.out, K3.out⟩
              case measure => simp [intOf]; omega
            · have HE2 := Lib.hid (show G = oneGo t.size m M (ws.drop (k + 1)) (k + 1) far by rw [HE.out, Nat.max_eq_left (by omega)])
              go_wp2_with fail
              refine (HCx.out _).mono ?_
              rintro e w3 ⟨rfl, k3⟩
              have H3 := Lib.hid (HSr.out.kept k3)
              have K3 := Lib.hid (HK.out.trans k3)
              clear k3
              go_wp2
              go_roundw
              case rel => exact ⟨k + 1, far, by rw [show max (far : Int) (n : Int) = far by omega], by go_num, by omega, by omega, HE2.out, H3.out, K3.out⟩
              case measure => simp [intOf]; omega
        · have HE := Lib.hid (show G = stk t.size ((m : Int) + far) by rw [HG.out, List.drop_eq_nil_of_le (by omega), oneGo_end])
          go_wp2_with fail
          refine (HQ.out _ _).mono ?_
          rintro e w3 ⟨rfl, k3⟩
          have H3 := Lib.hid (HSr.out.kept k3)
          have K3 := Lib.hid (HK.out.trans k3)
          clear k3
          go_wp2_with (refine wpList_store_sp rfl _ _ rfl w.heap.size Zs _ H3.out rfl rfl ?_)
          refine bodyPost_ret (v := sv (stk t.size ((m : Int) + far))) ?_ rfl ⟨by rw [HE.out], K3.out.setRow (by omega) _⟩
          exact (ret_sp rfl H3.out rfl).trans rfl
end Go.Proofs.YtnlgjakohoimhaaDoor
