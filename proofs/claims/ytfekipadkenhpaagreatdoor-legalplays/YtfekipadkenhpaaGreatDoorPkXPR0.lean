/- MvH · MvN · MvQ · GeA · GeI · LeA · LeB · LeL · LeH · LeI: my texts, in their order. -/
import Derived.Test.YtfekipadkenhpaaGreatDoorPkXMPRFT0
import Derived.Test.YtfekipadkenhpaaGreatDoorPkXMPRF0
import Derived.Test.YtfekipadkenhpaaGreatDoorPkXPRF0
import Derived.Test.YtfekipadkenhpaaGreatDoorPkXMPR0
import Derived.Test.YtfekipadkenhpaaGreatDoorPkXPRN0
import Derived.Test.YtfekipadkenhpaaGreatDoorPkA
import Derived.Test.YtfekipadkenhpaaGreatDoorPkB
import Derived.Test.YtfekipadkenhpaaGreatDoorPkC
import Derived.Test.YtfekipadkenhpaaGreatDoorPkD
import Derived.Test.YtfekipadkenhpaaGreatDoorPkE
import Derived.Test.YtfekipadkenhpaaGreatDoorPkF
import Derived.Test.YtfekipadkenhpaaGreatDoorPkGa
import Derived.Test.YtfekipadkenhpaaGreatDoorPkGb
import Derived.Test.YtfekipadkenhpaaGreatDoorPkGc
import Derived.Test.YtfekipadkenhpaaGreatDoorPkGd
import Derived.Test.YtfekipadkenhpaaGreatDoorPkGe
import Derived.Test.YtfekipadkenhpaaGreatDoorPkGh
import Derived.Test.YtfekipadkenhpaaGreatDoorPkH
import Derived.Test.YtfekipadkenhpaaGreatDoorPkI
import Derived.Test.YtfekipadkenhpaaGreatDoorPkJ
import Derived.Test.YtfekipadkenhpaaGreatDoorPkK
import Derived.Test.YtfekipadkenhpaaGreatDoorPkL
import Derived.Test.YtfekipadkenhpaaGreatDoorPkLa
import Derived.Test.YtfekipadkenhpaaGreatDoorPkLd
import Derived.Test.YtfekipadkenhpaaGreatDoorPkLe
import Derived.Test.YtfekipadkenhpaaGreatDoorPkLf
import Derived.Test.YtfekipadkenhpaaGreatDoorPkLg
import Derived.Test.YtfekipadkenhpaaGreatDoorPkLh
import Derived.Test.YtfekipadkenhpaaGreatDoorPkM
import Derived.Test.YtfekipadkenhpaaGreatDoorPkR
namespace Go.Proofs.YtfekipadkenhpaaGreatDoor
open Go.RowKit
set_option linter.unusedVariables false
set_option linter.unusedSimpArgs false
set_option maxRecDepth 100000
theorem run_eql_mv (a b : Mv) (w : World) : (binOp .eql 36 (.agg (ml a).toArray) (.agg (ml b).toArray)).run Tryz.prog w = .ok (.bool (beqM a b)) w := by
 simp only [binOp, Sem.run_bind, Op.equal, Op.maxDepth, run_equal_mv, Result.andThen_ok, Sem.run_pure]
theorem rt_bd {c : Int} (c0 : 0 ≤ c) (c1 : c ≤ 15) (m : Mv) : 0 ≤ rtN c m 4 ∧ rtN c m 4 ≤ 15 ∧ bits .andNot .i64 (rtN c m 4) c = 0 := by
 have := rt_q c0 c1 (tcB m 0) (tcB m 1) (tcB m 2) (tcB m 3)
 rw [rtN_is, this.1]
 exact this.2
theorem epI_bd {p : Ps} {m : Mv} {f t : Nat} (h : Fm p m f t) : -1 ≤ epI p m ∧ epI p m ≤ 63 := by
 have := h.hf
 have := h.ht
 have := h.f1
 have := h.t1
 unfold epI
 split <;> omega
theorem mem_fromI {p : Ps} (t01 : p.t = 0 ∨ p.t = 1) {m : Mv} : m ∈ fromI p m.f ↔ goesM p m = true := by
 unfold fromI
 split
 ·next h => rw [mem_fromN]; exact ⟨fun a => a.2, fun a => ⟨by omega, a⟩⟩
 ·next h => exact ⟨fun a => by simp at a, fun a => absurd (by have := form_on t01 (goes_form a); exact ⟨this.f0, this.f1⟩) h⟩
theorem take_eql_mv {ops : Array Oper} {S : World → Prop} {op : Oper} {ac : Act} {b : Bool} (hw : Region.wanted op (yielded ops ac.tmps) = true) (x y : Operand) (ty : TypeId) (ho : op.op = .binOp .eql 36 x y ty)
  (p q : Mv) (hx : ac.eval x = .agg (ml p).toArray) (hy : ac.eval y = .agg (ml q).toArray) (h : beqM p q = b) : YieldsIf Tryz.prog ops S op (.bool b) ac :=
 .inl ⟨hw, fun w _ => by
  unfold execOp
  simp only [ho, hx, hy, Sem.run_bind, run_eqGuard_agg w _ _ _ _ _ _ eqGuardM, run_eql_mv, Result.andThen_ok, Sem.run_pure, h]⟩
/-- Is it among them? -/
def hasM (L : List Mv) (m : Mv) : Bool := L.any fun x => beqM m x
theorem hasM_iff {L : List Mv} {m : Mv} : hasM L m = true ↔ m ∈ L := by
 unfold hasM
 rw [List.any_eq_true]
 constructor
 ·rintro ⟨x, hx, h⟩; rw [(beqM_iff m x).1 h]; exact hx
 ·intro h; exact ⟨m, h, beqM_refl m⟩
theorem hasM_no {L : List Mv} {m : Mv} (h : ∀ i, i < L.length → L[i]? ≠ some m) : hasM L m = false := by
 rw [Bool.eq_false_iff]
 intro hc
 obtain ⟨i, hi, e⟩ := List.mem_iff_getElem.1 (hasM_iff.1 hc)
 exact h i hi (by rw [List.getElem?_eq_getElem hi, e])
set_option maxHeartbeats 2000000 in
theorem indexM_is (g : Nat) (v : Value) (L : List Mv) (m : Mv) (w : World) (h : LsM w g v L) :
  Calls Tryz.prog 117 #[v, .agg (ml m).toArray] w fun e w' => ∃ i : Int, e = .returned (.int .i64 i) ∧ decide (0 ≤ i) = hasM L m ∧ Kept w w' := by
 have HM := Lib.hid (MAt.new w m)
 have HK0 := Lib.hid ((Kept.refl w).alloc (.cells (ml m).toArray 36))
 by_cases hl : 0 < L.length
 ·obtain ⟨off, cap, rfl, h1, h2, h3⟩ := h.full hl
  have H3 := Lib.hid (range_kept h3 HK0.out)
  generalize hn : L.length = n at *
  have HN := Lib.hid hn
  have hm : n ≤ maxLen := by omega
  unfold maxLen at hm
  clear h h3 hn h2
  go_enter Tryz.func117, Tryz.ntmps117
  go_wp2
  go_loopw [8] (fun t8 wr => ∃ k : Nat, k ≤ n ∧ t8 = .int .i64 k ∧ (∀ j, j < k → L[j]? ≠ some m) ∧ Kept (w.alloc (.cells (ml m).toArray 36)) wr) (fun t8 _ => n - (intOf t8).toNat)
  case atStart => exact ⟨0, Nat.zero_le _, rfl, fun j hj => by omega, Kept.refl _⟩
  case round =>
   obtain ⟨k, hk, rfl, hno, hK⟩ := hrel
   have HO := Lib.hid hno
   have HK := Lib.hid hK
   have HMr := Lib.hid (MAt.kept HM.out hK)
   clear hno
   by_cases hlt : k < n
   ·have hlt' : (k : Int) < (n : Int) := by omega
    obtain ⟨x, hx⟩ : ∃ x, L[k]? = some x := ⟨_, List.getElem?_eq_getElem (by have := HN.out; omega)⟩
    have HR := Lib.hid (range_i (range_kept H3.out hK) hx)
    have HX := Lib.hid hx
    clear hx hK
    cases hb : beqM m x
    ·have Hne : Hid (x ≠ m) := fun e => by rw [e, beqM_refl] at hb; cases hb
     have Hb := Lib.hid hb
     clear hb
     go_wp2
     refine wp_region_held_drew (S := Kept _) (by kernel_rfl) (Kept.refl _).drew (fun hHeld => ?_)
     refine rY 0 11 rfl rfl (take_load_mv (by rfl) _ rfl _ rfl m (fun _ h => MAt.kept (HMr.out) h)) hHeld ?_
     simp only [pA, pN, sZ, sU]
     refine rT 1 12 (.slice (some ⟨g, off, none⟩) n cap) rfl rfl hHeld ?_
     simp only [pA, pN, sZ, sU]
     refine rT 2 13 (.int .i64 (k : Int)) rfl rfl hHeld ?_
     simp only [pA, pN, sZ, sU]
     refine rT 3 14 (.pointer (some ⟨g, off + k * 3, none⟩)) rfl rfl hHeld ?_
     simp only [pA, pN, sZ, sU]
     refine rY 4 15 rfl rfl (take_load_mvi (by rfl) _ rfl g (off + k * 3) rfl x (fun _ h => range_kept (HR.out) h)) hHeld ?_
     simp only [pA, pN, sZ, sU]
     refine rY 5 16 rfl rfl (take_eql_mv (by rfl) _ _ _ rfl m x rfl rfl (Hb.out)) hHeld ?_
     simp only [pA, pN, sZ, sU]
     refine wpAnyH_done (by kernel_rfl) ?_ _
     have HK2 := Lib.hid (HK.out.trans hHeld)
     clear hHeld
     go_wp2
     go_roundw
     case rel => exact ⟨k + 1, by omega, by go_num, fun j hj => by
      by_cases hji : j < k
      ·exact HO.out j hji
      ·obtain rfl : j = k := by omega
       rw [HX.out]
       exact fun e => Hne.out (Option.some.inj e), HK2.out⟩
     case measure => simp [intOf]; omega
    ·have Hy : Hid (hasM L m = true) := by show _ = _; rw [hasM_iff, (beqM_iff m x).1 hb]; exact List.mem_of_getElem? HX.out
     have Hb := Lib.hid hb
     clear hb
     go_wp2
     refine wp_region_held_drew (S := Kept _) (by kernel_rfl) (Kept.refl _).drew (fun hHeld => ?_)
     refine rY 0 11 rfl rfl (take_load_mv (by rfl) _ rfl _ rfl m (fun _ h => MAt.kept (HMr.out) h)) hHeld ?_
     simp only [pA, pN, sZ, sU]
     refine rT 1 12 (.slice (some ⟨g, off, none⟩) n cap) rfl rfl hHeld ?_
     simp only [pA, pN, sZ, sU]
     refine rT 2 13 (.int .i64 (k : Int)) rfl rfl hHeld ?_
     simp only [pA, pN, sZ, sU]
     refine rT 3 14 (.pointer (some ⟨g, off + k * 3, none⟩)) rfl rfl hHeld ?_
     simp only [pA, pN, sZ, sU]
     refine rY 4 15 rfl rfl (take_load_mvi (by rfl) _ rfl g (off + k * 3) rfl x (fun _ h => range_kept (HR.out) h)) hHeld ?_
     simp only [pA, pN, sZ, sU]
     refine rY 5 16 rfl rfl (take_eql_mv (by rfl) _ _ _ rfl m x rfl rfl (Hb.out)) hHeld ?_
     simp only [pA, pN, sZ, sU]
     refine wpAnyH_done (by kernel_rfl) ?_ _
     have HK2 := Lib.hid (HK.out.trans hHeld)
     clear hHeld
     go_wp2
     go_ret
     exact ⟨(k : Int), rfl, by rw [Hy.out]; simp, HK0.out.trans HK2.out⟩
   ·have Hn := Lib.hid (hasM_no (L := L) (m := m) (fun j hj => HO.out j (by have := HN.out; omega)))
    clear hK
    go_wp2
    go_ret
    exact ⟨-1, rfl, by rw [Hn.out]; decide, HK0.out.trans HK.out⟩
 ·have h0 : L = [] := List.eq_nil_of_length_eq_zero (by omega)
  subst h0
  obtain ⟨a1, c1, rfl⟩ := h.slice
  go_enter Tryz.func117, Tryz.ntmps117
  go_wp2
  go_loopw [8] (fun t8 wr => t8 = .int .i64 0 ∧ wr = w.alloc (.cells (ml m).toArray 36)) (fun _ _ => 0)
  case atStart => exact ⟨rfl, rfl⟩
  case round =>
   obtain ⟨rfl, rfl⟩ := hrel
   go_wp2
   go_ret
   exact ⟨-1, rfl, by rfl, HK0.out⟩
theorem contains_m (g : Nat) (v : Value) (L : List Mv) (m : Mv) (w : World) (h : LsM w g v L) :
  Calls Tryz.prog 87 #[v, .agg (ml m).toArray] w fun e w' => e = .returned (.bool (hasM L m)) ∧ Kept w w' := by
 have HM := Lib.hid (MAt.new w m)
 have HK0 := Lib.hid ((Kept.refl w).alloc (.cells (ml m).toArray 36))
 have HI := Lib.hid (indexM_is g v L m _ (h.kept HK0.out))
 clear h
 go_enter Tryz.func87, Tryz.ntmps87
 go_wp2_with (refine wpList_load_mv (by rfl) _ rfl _ rfl _ HM.out ?_)
 refine HI.out.mono ?_
 rintro e w1 ⟨i, rfl, hi, k1⟩
 have HD := Lib.hid hi
 have HK1 := Lib.hid (HK0.out.trans k1)
 clear hi k1
 go_wp2
 go_ret
 exact ⟨by rw [← HD.out]; rfl, HK1.out⟩
theorem has_from (p : Ps) (m : Mv) : hasM (fromR p m.f) m = ((pwI p == 0) && goesM p m) := by
 unfold fromR
 by_cases h : pwI p = 0
 ·rw [if_pos h, h, Bool.eq_iff_iff, hasM_iff, mem_fromI (right_t h).1]; simp
 ·rw [if_neg h, show (pwI p == 0) = false from beq_eq_false_iff_ne.2 h]; rfl
set_option maxHeartbeats 2000000 in
theorem goes_is (g : Nat) (a : Addr) (p : Ps) (hB : Brd p.B) (m : Mv) (w : World) (hT : TabG w) (hE : EyeAt w g a) :
  Calls Tryz.prog 46 #[.pointer (some ⟨g, 0, none⟩), .agg (pl p).toArray, .agg (ml m).toArray] w fun e w' => e = .returned (.bool ((pwI p == 0) && goesM p m)) ∧ Kept w w' := by
 have HP : Hid (PAt _ _ p) := ⟨hB.1, heap_alloc2_old w (.cells (pl p).toArray 26) (.cells (ml m).toArray 36)⟩
 have HM : Hid (MAt _ _ m) := ⟨heap_alloc2_new w (.cells (pl p).toArray 26) (.cells (ml m).toArray 36)⟩
 have HK0 := Lib.hid (((Kept.refl w).alloc (.cells (pl p).toArray 26)).alloc (.cells (ml m).toArray 36))
 have HT := Lib.hid (hT.kept HK0.out)
 have HE := Lib.hid (hE.kept HK0.out)
 have hpl : Hid (p.B.length = 64) := hB.1
 have HF := Lib.hid (fun w hT hE => fromg_is g a p hB m.f w hT hE)
 have HV := Lib.hid (has_from p m)
 generalize fromR p m.f = R at *
 clear hB hT hE
 go_enter Tryz.func46, Tryz.ntmps46
 go_wp2
 refine wp_region_held_drew (S := Kept _) (by kernel_rfl) (Kept.refl _).drew (fun hHeld => ?_)
 refine rT 0 7 (.pointer (some ⟨g, 0, none⟩)) rfl rfl hHeld ?_
 simp only [pA, pN, sZ, sU]
 refine rY 1 8 rfl rfl (take_load_ps (by rfl) _ rfl _ rfl p hpl.out (fun _ h => (HP.out).kept h)) hHeld ?_
 simp only [pA, pN, sZ, sU]
 refine rT 2 9 (.pointer (some ⟨w.heap.size + 1, 0, none⟩)) rfl rfl hHeld ?_
 simp only [pA, pN, sZ, sU]
 refine rC 3 10 (.int .i64 m.f) rfl rfl (fun _ h => kept_cell h (HM.out.f)) hHeld ?_
 simp only [pA, pN, sZ, sU]
 refine rY 5 12 rfl rfl (take_load_mv (by rfl) _ rfl _ rfl m (fun _ h => MAt.kept (HM.out) h)) hHeld ?_
 simp only [pA, pN, sZ, sU]
 refine rR 4 rfl (fun K hK => ?_)
 go_simp
 refine (HF.out _ (HT.out.kept hHeld) (HE.out.kept hHeld)).mono ?_
 rintro e x1 ⟨vx1, rfl, hox1, gx1⟩
 obtain ⟨ax1, cx1, rfl⟩ := hox1.slice
 have HOx1 := Lib.hid hox1
 clear hox1
 refine hK.out _ _ (hHeld.trans gx1) (fun _ => ?_)
 replace hHeld := hHeld.trans gx1
 clear hK K
 obtain ⟨g1, hl1, _⟩ := HOx1.out.ls
 refine rR 6 rfl (fun K hK => ?_)
 go_simp
 refine (contains_m g1 _ R m _ hl1).mono ?_
 rintro e x2 ⟨rfl, gx2⟩
 refine hK.out _ _ (hHeld.trans gx2) (fun _ => ?_)
 replace hHeld := hHeld.trans gx2
 clear hK K
 refine rT 7 6 (.bool (hasM R m)) rfl rfl hHeld ?_
 simp only [pA, pN, sZ, sU]
 refine wpAnyH_done (by kernel_rfl) ?_ _
 have HK2 := Lib.hid (HK0.out.trans hHeld)
 clear hHeld gx1 gx2 hl1
 generalize hasM R m = b at *
 go_wp2
 go_ret
 exact ⟨by rw [← HV.out]; rfl, HK2.out⟩
theorem king_step_all : ∀ a b : Fin 3, ¬ (a.val = 1 ∧ b.val = 1) → ∃ w : Fin 16, goesB 6 w = true ∧ goesB (-6) w = true ∧ wayF w = ((a.val : Int) - 1) ∧ wayR w = ((b.val : Int) - 1) := by decide +kernel
theorem king_hits {B : List Int} {s t : Nat} (hs : s < 64) (ht : t < 64) (hk : kindI (B.getD s 0) = 6) (hf : farI (s : Int) (t : Int) = 1) : hitB B (s : Int) (t : Int) = true := by
 have ns : slidesB (B.getD s 0) = false := by unfold slidesB; rw [knd_kind, hk]; rfl
 rw [hit_step hs ns]
 unfold farI at hf
 have b : (t : Int) % 8 - (s : Int) % 8 ≤ 1 ∧ (s : Int) % 8 - (t : Int) % 8 ≤ 1 ∧ (t : Int) / 8 - (s : Int) / 8 ≤ 1 ∧ (s : Int) / 8 - (t : Int) / 8 ≤ 1 ∧ ¬ ((t : Int) % 8 = (s : Int) % 8 ∧ (t : Int) / 8 = (s : Int) / 8) := by
  generalize (t : Int) % 8 = x at *
  generalize (s : Int) % 8 = y at *
  generalize (t : Int) / 8 = u at *
  generalize (s : Int) / 8 = v at *
  omega
 obtain ⟨b1, b2, b3, b4, b5⟩ := b
 obtain ⟨w, g1, g2, e1, e2⟩ := king_step_all ⟨((t : Int) % 8 - (s : Int) % 8 + 1).toNat, by omega⟩ ⟨((t : Int) / 8 - (s : Int) / 8 + 1).toNat, by omega⟩ (by dsimp only; omega)
 dsimp only at e1 e2
 refine ⟨w, w.2, ?_, by omega, by omega, by omega⟩
 rcases king_two _ hk with e | e <;> rw [e] <;> assumption
theorem far_sym (a b : Int) : farI a b = farI b a := by
 unfold farI
 generalize a % 8 = x
 generalize b % 8 = y
 generalize a / 8 = u
 generalize b / 8 = v
 omega
theorem beh_touch {p : Ps} {m : Mv} {f t : Nat} (F : Fm p m f t) (hg : goesM p m = true) (hc : checkB (behB p m) p.t = false) : touchB (behP p m) = false := by
 have hw := beh_wrong F hg
 have o2 : otherI (otherI p.t) = p.t := by rcases F.t01 with e | e <;> rw [e] <;> rfl
 unfold touchB
 show ((farA (kingI (behB p m) 0) (kingI (behB p m) 1) == 1) || checkB (behB p m) (otherI (otherI p.t))) = false
 rw [o2, hc, Bool.or_false, beq_eq_false_iff_ne]
 intro hf
 obtain ⟨a, ha, e1, e2⟩ := king_at hw (side := 0) (.inl rfl)
 obtain ⟨b, hb, e3, e4⟩ := king_at hw (side := 1) (.inr rfl)
 rw [e1, e3] at hf
 unfold farA at hf
 rw [if_pos ⟨⟨by omega, by omega⟩, by omega, by omega⟩] at hf
 have k6 : kindI (mkI 6 0) = 6 ∧ kindI (mkI 6 1) = 6 := by decide
 rcases F.t01 with e | e <;> rw [e] at hc
 ·have := check_one hw (.inl rfl) ha hb e2 (by rw [e4]; decide) (king_hits hb ha (by rw [e4]; exact k6.2) (by rw [far_sym]; exact hf))
  rw [hc] at this; cases this
 ·have := check_one hw (.inr rfl) hb ha e4 (by rw [e2]; decide) (king_hits ha hb (by rw [e2]; exact k6.1) hf)
  rw [hc] at this; cases this
theorem rq_right_all : ∀ c : Fin 16, ∀ b0 b1 b2 b3 : Bool, rgtB (qB ((c : Nat) : Int) b0 b1 b2 b3) 1 = (rgtB ((c : Nat) : Int) 1 && !b0) ∧ rgtB (qB ((c : Nat) : Int) b0 b1 b2 b3) 2 = (rgtB ((c : Nat) : Int) 2 && !b1) ∧
  rgtB (qB ((c : Nat) : Int) b0 b1 b2 b3) 4 = (rgtB ((c : Nat) : Int) 4 && !b2) ∧ rgtB (qB ((c : Nat) : Int) b0 b1 b2 b3) 8 = (rgtB ((c : Nat) : Int) 8 && !b3) := by decide +kernel
theorem rt_right {c : Int} (c0 : 0 ≤ c) (c1 : c ≤ 15) (m : Mv) {k : Nat} (hk : k < 4) : rgtB (rtN c m 4) (hR k) = (rgtB c (hR k) && !tcB m k) := by
 rw [rtN_is, (rt_q c0 c1 _ _ _ _).1]
 have := rq_right_all ⟨c.toNat, by omega⟩ (tcB m 0) (tcB m 1) (tcB m 2) (tcB m 3)
 simp only [show ((c.toNat : Nat) : Int) = c by omega] at this
 obtain ⟨a, b, d, e⟩ := this
 have : k = 0 ∨ k = 1 ∨ k = 2 ∨ k = 3 := by omega
 rcases this with rfl | rfl | rfl | rfl
 ·exact a
 ·exact b
 ·exact d
 ·exact e
theorem homes_apart : ∀ k j : Fin 4, hKg k ≠ hKg j → hKg k ≠ hRk j ∧ hKg k ≠ (hKg j + wTo j) / 2 ∧ hRk k ≠ hRk j ∧ hRk k ≠ (hKg j + wTo j) / 2 := by decide +kernel
theorem beh_cas {p : Ps} {m : Mv} {f t : Nat} (F : Fm p m f t) (hg : goesM p m = true) : casB (behP p m) = true := by
 obtain ⟨_, ⟨c0, c1⟩, _⟩ := right_t F.right
 have one : ∀ k, k < 4 → okC (behP p m) k = true := by
  intro k hk
  unfold okC
  show (!rgtB (rtN p.c m 4) (hR k) || backB (behB p m) (hR k)) = true
  rw [rt_right c0 c1 m hk]
  cases h1 : rgtB p.c (hR k)
  ·rfl
  ·cases h2 : tcB m k
   ·obtain ⟨q1, q2⟩ := cas_king (right_pos F.right).2.2.2.1 hk h1
    unfold tcB at h2
    simp only [Bool.or_eq_false_iff, beq_eq_false_iff_ne, ne_eq] at h2
    rw [F.hf, F.ht] at h2
    have hK := hKg_lt k
    have hR' := hRk_lt k
    have ap : castN p m < 4 → hKg k ≠ hRk (castN p m) ∧ hKg k ≠ (f + t) / 2 ∧ hRk k ≠ hRk (castN p m) ∧ hRk k ≠ (f + t) / 2 := by
     intro hc
     have c := cast_of F hc rfl
     have := homes_apart ⟨k, hk⟩ ⟨castN p m, hc⟩ (by dsimp only; rw [← c.ef]; omega)
     dsimp only at this
     rw [c.ef, c.et]
     exact this
    have tk : ∀ j, j ≠ t → (p.B.getD j 0 ≠ 1 ∧ p.B.getD j 0 ≠ -1) → 0 ≤ takeI p m → j ≠ (takeI p m).toNat := by
     intro j jt jp ht e
     rcases take_what F ht with q | ⟨_, q⟩
     ·exact jt (by rw [e]; exact q)
     ·rw [← e] at q; omega
    have kg : kgm k = mkI 6 (hS k) ∧ (kgm k ≠ 1 ∧ kgm k ≠ -1) ∧ mkI 4 (hS k) ≠ 1 ∧ mkI 4 (hS k) ≠ -1 := by
     have : k = 0 ∨ k = 1 ∨ k = 2 ∨ k = 3 := by omega
     rcases this with rfl | rfl | rfl | rfl <;> decide
    rw [back_at _ k hk, beh_same F hK (by omega) (by omega) (tk _ (by omega) (by rw [q1]; exact kg.2.1)) (fun hc => ⟨(ap hc).1, (ap hc).2.1⟩),
     beh_same F hR' (by omega) (by omega) (tk _ (by omega) (by rw [q2]; exact kg.2.2)) (fun hc => ⟨(ap hc).2.2.1, (ap hc).2.2.2⟩), q1, q2, kg.1]
    simp
   ·rfl
 unfold casB
 rw [one 0 (by omega), one 1 (by omega), one 2 (by omega), one 3 (by omega)]
 rfl
theorem beh_ep {p : Ps} {m : Mv} {f t : Nat} (F : Fm p m f t) (hg : goesM p m = true) : epB (behP p m) = true := by
 unfold epB
 by_cases he : epI p m = -1
 ·rw [show (behP p m).e = -1 from he]; simp
 ·unfold epI at he
  split at he
  ·next hc =>
   have ee : (behP p m).e = (m.f + m.t) / 2 := by show epI p m = _; unfold epI; rw [if_pos hc]
   simp only [Bool.and_eq_true, beq_iff_eq] at hc
   obtain ⟨⟨h1, h2⟩, h3⟩ := hc
   have hk : kindI (p.B.getD f 0) = 1 := by have := h1; unfold pawnB bAt at this; rw [F.hf, Int.toNat_natCast] at this; simpa using this
   have P : Pw p f := ⟨F.brd, F.right, F.f1, F.own, hk⟩
   have hg' : pgoB p m = true := by
    unfold goesM at hg
    rw [h1, if_pos rfl, Bool.and_eq_true] at hg
    exact hg.2
   unfold pgoB at hg'
   rw [F.hf, F.ht] at hg' h2 h3 ee
   simp only [Bool.or_eq_true, Bool.and_eq_true, beq_iff_eq] at hg'
   have f1 := F.f1
   have t1 := F.t1
   have hfar : (t : Int) ≠ f + 8 ∧ (t : Int) ≠ f + -8 := by
    unfold farI at h3
    constructor <;> intro e
    ·have a1 : (t : Int) / 8 = (f : Int) / 8 + 1 := by omega
     rw [a1, h2] at h3
     generalize (f : Int) / 8 = u at h3
     generalize (t : Int) % 8 = v at h3
     omega
    ·have a1 : (t : Int) / 8 = (f : Int) / 8 - 1 := by omega
     rw [a1, h2] at h3
     generalize (f : Int) / 8 = u at h3
     generalize (t : Int) % 8 = v at h3
     omega
   have two : (t : Int) = f + 2 * upI p.t ∧ (f : Int) / 8 = secI p.t ∧ bAt p.B (f + upI p.t) = 0 ∧ p.B.getD t 0 = 0 := by
    rcases hg' with ⟨_, g⟩ | ⟨⟨⟨g0, g⟩, g2⟩, g3⟩ | ⟨g, _⟩
    ·rcases P.turn with ⟨_, _, u, _⟩ | ⟨_, _, u, _⟩ <;> rw [u] at g <;> omega
    ·refine ⟨g, g2, g3, ?_⟩
     unfold bAt at g0; rwa [Int.toNat_natCast] at g0
    ·exact absurd h2.symm (P.hits g).2.1
   obtain ⟨w1, w2, w3, w4⟩ := two
   obtain ⟨_, bf, _⟩ := beh_cnt F
   have hp0 : m.p = 0 := by
    have := F.pro
    rw [hk] at this
    rcases P.turn with ⟨_, _, u, v, l⟩ | ⟨_, _, u, v, l⟩
    ·rw [l, show ((t : Int) / 8 == 7) = false from beq_eq_false_iff_ne.2 (by rw [u] at w1; rw [v] at w2; omega)] at this
     have h := this.symm
     simpa using h
    ·rw [l, show ((t : Int) / 8 == 0) = false from beq_eq_false_iff_ne.2 (by rw [u] at w1; rw [v] at w2; omega)] at this
     have h := this.symm
     simpa using h
   have bt : (behB p m).getD t 0 = p.B.getD f 0 := by
    rcases beh_at F F.t1 with ⟨_, q⟩ | ⟨q, _⟩
    ·rw [q, hp0]; rfl
    ·exact absurd rfl q
   have nt : ¬ 0 ≤ takeI p m := by
    unfold takeI epTake
    rw [if_neg (by unfold bAt; rw [F.ht, Int.toNat_natCast]; simpa using w4), F.hf, F.ht, h2]
    simp
   have nc : ¬ castN p m < 4 := fun hc => by
    have c := cast_of F hc rfl
    have := (king_kind _ c.k4).1
    rw [← c.king, hk] at this
    cases this
   have bm : ∀ j : Nat, j < 64 → j ≠ t → j ≠ f → (behB p m).getD j 0 = p.B.getD j 0 := fun j hj a b => beh_same F hj a b (fun h => absurd h nt) (fun h => absurd h nc)
   have hp : passB (behP p m) = true := by
    unfold passB
    rw [decide_eq_true_eq]
    unfold passI
    have bn : ∀ (x : Int) (j : Nat), x = (j : Int) → bAt (behP p m).B x = (behB p m).getD j 0 := fun x j e => by
     show bAt (behB p m) x = _
     unfold bAt; rw [e, Int.toNat_natCast]
    have pn : ∀ (x : Int) (j : Nat), x = (j : Int) → bAt p.B x = p.B.getD j 0 := fun x j e => by
     unfold bAt; rw [e, Int.toNat_natCast]
    rcases P.turn with ⟨ht, e1, u, v, l⟩ | ⟨ht, e1, u, v, l⟩
    ·rw [u] at w1 w3
     rw [v] at w2
     have eo : (behP p m).t = 1 := by show otherI p.t = 1; rw [ht]; rfl
     have b0 : bAt (behP p m).B (behP p m).e = 0 := by
      rw [bn _ (f + 8) (by rw [ee]; omega), bm _ (by omega) (by omega) (by omega), ← pn ((f : Int) + 8) (f + 8) (by omega)]; exact w3
     have b1 : bAt (behP p m).B ((behP p m).e - 8) = 0 := by rw [bn _ f (by rw [ee]; omega)]; exact bf
     have b2 : bAt (behP p m).B ((behP p m).e + 8) = 1 := by rw [bn _ t (by rw [ee]; omega), bt]; exact e1
     rw [if_neg (fun h => by rw [eo] at h; exact absurd h.1 (by decide)), if_pos ⟨eo, by rw [ee]; omega, by rw [ee]; omega, b0, b1, b2⟩, ee]
     omega
    ·rw [u] at w1 w3
     rw [v] at w2
     have eo : (behP p m).t = 0 := by show otherI p.t = 0; rw [ht]; rfl
     have b0 : bAt (behP p m).B (behP p m).e = 0 := by
      rw [bn _ (f - 8) (by rw [ee]; omega), bm _ (by omega) (by omega) (by omega), ← pn ((f : Int) + -8) (f - 8) (by omega)]; exact w3
     have b1 : bAt (behP p m).B ((behP p m).e + 8) = 0 := by rw [bn _ f (by rw [ee]; omega)]; exact bf
     have b2 : bAt (behP p m).B ((behP p m).e - 8) = -1 := by rw [bn _ t (by rw [ee]; omega), bt]; exact e1
     rw [if_pos ⟨eo, by rw [ee]; omega, by rw [ee]; omega, b0, b1, b2⟩, ee]
     omega
   rw [hp]; rfl
  ·exact absurd rfl he
/-- Behind a legal move the position is right. -/
theorem beh_pos {p : Ps} {m : Mv} (hB : Brd p.B) (hr : pwI p = 0) (hg : goesM p m = true) (hc : checkB (behB p m) p.t = false) : pwI (behP p m) = 0 := by
 obtain ⟨f, t, F⟩ := form_of hB (goes_ok hr hg)
 obtain ⟨t01, ⟨c0, c1⟩, _⟩ := right_t hr
 have r := rt_bd c0 c1 m
 refine pos_right (beh_wrong F hg) ((within_iff _).2 ⟨?_, ⟨r.1, r.2.1⟩, epI_bd F⟩) (beh_touch F hg hc) (beh_cas F hg) (beh_ep F hg)
 show otherI p.t = 0 ∨ otherI p.t = 1
 rw [other_at t01]
 omega
def legB (p : Ps) (m : Mv) : Bool := goesM p m && stayB p m
theorem leg_right {p : Ps} {m : Mv} (hB : Brd p.B) (hr : pwI p = 0) (h : legB p m = true) : pwI (behP p m) = 0 ∧ Brd (behP p m).B ∧ okM p m = true := by
 unfold legB stayB at h
 simp only [Bool.and_eq_true, Bool.not_eq_true'] at h
 exact ⟨beh_pos hB hr h.1 h.2.2, beh_brd hB hr h.1, goes_ok hr h.1⟩
/-- Legal, told of any move. -/
def legA (p : Ps) (m : Mv) : Bool := (pwI p == 0) && legB p m
theorem legA_is (p : Ps) (hB : Brd p.B) (m : Mv) (hg : ((pwI p == 0) && goesM p m) = true) : legA p m = !barsB p m := by
 rw [Bool.and_eq_true, beq_iff_eq] at hg
 unfold legA legB
 rw [hg.1, hg.2, bars_stay hB hg.1 hg.2]
 simp
theorem legA_no (p : Ps) (m : Mv) (hg : ((pwI p == 0) && goesM p m) = false) : legA p m = false := by
 unfold legA legB
 rw [← Bool.and_assoc, hg, Bool.false_and]
set_option maxHeartbeats 2000000 in
theorem legal_no (r g : Nat) (a b : Addr) (p : Ps) (hB : Brd p.B) (m : Mv) (hg : ((pwI p == 0) && goesM p m) = false) (w : World) (hT : TabG w) (hR : RuAt w r g a b) :
  Calls Tryz.prog 21 #[.pointer (some ⟨r, 0, none⟩), .agg (pl p).toArray, .agg (ml m).toArray] w fun e w' => e = .returned (.bool false) ∧ Kept w w' := by
 have HP : Hid (PAt _ _ p) := ⟨hB.1, heap_alloc2_old w (.cells (pl p).toArray 26) (.cells (ml m).toArray 36)⟩
 have HM : Hid (MAt _ _ m) := ⟨heap_alloc2_new w (.cells (pl p).toArray 26) (.cells (ml m).toArray 36)⟩
 have HK0 := Lib.hid (((Kept.refl w).alloc (.cells (pl p).toArray 26)).alloc (.cells (ml m).toArray 36))
 have HT := Lib.hid (hT.kept HK0.out)
 have HR := Lib.hid (hR.kept HK0.out)
 have hpl : Hid (p.B.length = 64) := hB.1
 have HGo := Lib.hid (fun w hT hE => goes_is g a p hB m w hT hE)
 rw [hg] at HGo
 clear hB hT hR hg
 go_enter Tryz.func21, Tryz.ntmps21
 go_wp2
 refine wp_region_held_drew (S := Kept _) (by kernel_rfl) (Kept.refl _).drew (fun hHeld => ?_)
 refine rT 0 7 (.pointer (some ⟨r, 0, none⟩)) rfl rfl hHeld ?_
 simp only [pA, pN, sZ, sU]
 refine rT 1 8 (.bool true) rfl rfl hHeld ?_
 simp only [pA, pN, sZ, sU]
 refine rT 2 9 (.bool true) rfl rfl hHeld ?_
 simp only [pA, pN, sZ, sU]
 refine rT 3 10 (.pointer (some ⟨r, 0, none⟩)) rfl rfl hHeld ?_
 simp only [pA, pN, sZ, sU]
 refine rT 4 11 (.pointer (some ⟨r, 0, none⟩)) rfl rfl hHeld ?_
 simp only [pA, pN, sZ, sU]
 refine rT 5 12 (.pointer (some ⟨r, 0, none⟩)) rfl rfl hHeld ?_
 simp only [pA, pN, sZ, sU]
 refine rC 6 13 (.pointer (some ⟨g, 0, none⟩)) rfl rfl (fun _ h => kept_cell h (HR.out.gen)) hHeld ?_
 simp only [pA, pN, sZ, sU]
 refine rY 7 14 rfl rfl (take_load_ps (by rfl) _ rfl _ rfl p hpl.out (fun _ h => (HP.out).kept h)) hHeld ?_
 simp only [pA, pN, sZ, sU]
 refine rY 8 15 rfl rfl (take_load_mv (by rfl) _ rfl _ rfl m (fun _ h => MAt.kept (HM.out) h)) hHeld ?_
 simp only [pA, pN, sZ, sU]
 refine rR 9 rfl (fun K hK => ?_)
 go_simp
 refine (HGo.out _ (HT.out.kept hHeld) (HR.out.ey.kept hHeld)).mono ?_
 rintro e x1 ⟨rfl, gx1⟩
 refine hK.out _ _ (hHeld.trans gx1) (fun _ => ?_)
 replace hHeld := hHeld.trans gx1
 clear hK K
 refine rT 10 17 (.bool false) rfl rfl hHeld ?_
 simp only [pA, pN, sZ, sU]
 refine rT 11 18 (.bool false) rfl rfl hHeld ?_
 simp only [pA, pN, sZ, sU]
 refine rN 12 19 rfl rfl hHeld ?_
 simp only [pA, pN, sZ, sU]
 refine rN 13 20 rfl rfl hHeld ?_
 simp only [pA, pN, sZ, sU]
 refine rN 14 21 rfl rfl hHeld ?_
 simp only [pA, pN, sZ, sU]
 refine rN 15 22 rfl rfl hHeld ?_
 simp only [pA, pN, sZ, sU]
 refine rN 16 23 rfl rfl hHeld ?_
 simp only [pA, pN, sZ, sU]
 refine rN 17 24 rfl rfl hHeld ?_
 simp only [pA, pN, sZ, sU]
 refine rT 18 25 (.bool false) rfl rfl hHeld ?_
 simp only [pA, pN, sZ, sU]
 refine rT 19 6 (.bool false) rfl rfl hHeld ?_
 simp only [pA, pN, sZ, sU]
 refine wpAnyH_done (by kernel_rfl) ?_ _
 go_wp2
 go_ret
 exact ⟨rfl, HK0.out.trans hHeld⟩
set_option maxHeartbeats 2000000 in
theorem legal_go (r g : Nat) (a b : Addr) (p : Ps) (hB : Brd p.B) (m : Mv) (hg : ((pwI p == 0) && goesM p m) = true) (w : World) (hT : TabG w) (hR : RuAt w r g a b) :
  Calls Tryz.prog 21 #[.pointer (some ⟨r, 0, none⟩), .agg (pl p).toArray, .agg (ml m).toArray] w fun e w' => e = .returned (.bool (!barsB p m)) ∧ Kept w w' := by
 have HP : Hid (PAt _ _ p) := ⟨hB.1, heap_alloc2_old w (.cells (pl p).toArray 26) (.cells (ml m).toArray 36)⟩
 have HM : Hid (MAt _ _ m) := ⟨heap_alloc2_new w (.cells (pl p).toArray 26) (.cells (ml m).toArray 36)⟩
 have HK0 := Lib.hid (((Kept.refl w).alloc (.cells (pl p).toArray 26)).alloc (.cells (ml m).toArray 36))
 have HT := Lib.hid (hT.kept HK0.out)
 have HR := Lib.hid (hR.kept HK0.out)
 have hpl : Hid (p.B.length = 64) := hB.1
 have HGo := Lib.hid (fun w hT hE => goes_is g a p hB m w hT hE)
 rw [hg] at HGo
 rw [Bool.and_eq_true, beq_iff_eq] at hg
 have HBs := Lib.hid (fun w hT hR => bars_is r g a b p hB w hT hR)
 have HB1 := Lib.hid (fun gk gc gb gp w hBr => bars1_is gk gc gb gp r g a b p hB hg.1 m hg.2 w hBr)
 have hent := bar_enters
 generalize barsB p m = bb at *
 clear hB hT hR hg
 go_enter Tryz.func21, Tryz.ntmps21
 go_wp2
 refine wp_region_held_drew (S := Kept _) (by kernel_rfl) (Kept.refl _).drew (fun hHeld => ?_)
 refine rT 0 7 (.pointer (some ⟨r, 0, none⟩)) rfl rfl hHeld ?_
 simp only [pA, pN, sZ, sU]
 refine rT 1 8 (.bool true) rfl rfl hHeld ?_
 simp only [pA, pN, sZ, sU]
 refine rT 2 9 (.bool true) rfl rfl hHeld ?_
 simp only [pA, pN, sZ, sU]
 refine rT 3 10 (.pointer (some ⟨r, 0, none⟩)) rfl rfl hHeld ?_
 simp only [pA, pN, sZ, sU]
 refine rT 4 11 (.pointer (some ⟨r, 0, none⟩)) rfl rfl hHeld ?_
 simp only [pA, pN, sZ, sU]
 refine rT 5 12 (.pointer (some ⟨r, 0, none⟩)) rfl rfl hHeld ?_
 simp only [pA, pN, sZ, sU]
 refine rC 6 13 (.pointer (some ⟨g, 0, none⟩)) rfl rfl (fun _ h => kept_cell h (HR.out.gen)) hHeld ?_
 simp only [pA, pN, sZ, sU]
 refine rY 7 14 rfl rfl (take_load_ps (by rfl) _ rfl _ rfl p hpl.out (fun _ h => (HP.out).kept h)) hHeld ?_
 simp only [pA, pN, sZ, sU]
 refine rY 8 15 rfl rfl (take_load_mv (by rfl) _ rfl _ rfl m (fun _ h => MAt.kept (HM.out) h)) hHeld ?_
 simp only [pA, pN, sZ, sU]
 refine rR 9 rfl (fun K hK => ?_)
 go_simp
 refine (HGo.out _ (HT.out.kept hHeld) (HR.out.ey.kept hHeld)).mono ?_
 rintro e x1 ⟨rfl, gx1⟩
 refine hK.out _ _ (hHeld.trans gx1) (fun _ => ?_)
 replace hHeld := hHeld.trans gx1
 clear hK K
 refine rT 10 17 (.bool true) rfl rfl hHeld ?_
 simp only [pA, pN, sZ, sU]
 refine rT 11 18 (.bool true) rfl rfl hHeld ?_
 simp only [pA, pN, sZ, sU]
 refine rT 12 19 (.pointer (some ⟨r, 0, none⟩)) rfl rfl hHeld ?_
 simp only [pA, pN, sZ, sU]
 refine rY 13 20 rfl rfl (take_load_ps (by rfl) _ rfl _ rfl p hpl.out (fun _ h => (HP.out).kept h)) hHeld ?_
 simp only [pA, pN, sZ, sU]
 refine rY 15 22 rfl rfl (take_load_mv (by rfl) _ rfl _ rfl m (fun _ h => MAt.kept (HM.out) h)) hHeld ?_
 simp only [pA, pN, sZ, sU]
 refine rR 14 rfl (fun K hK => ?_)
 go_simp
 refine (HBs.out _ (HT.out.kept hHeld) (HR.out.kept hHeld)).mono ?_
 rintro e x2 ⟨gk, gc, gb, gp, rfl, hBr, _, kx⟩
 refine hK.out _ _ (hHeld.trans kx) (fun _ => ?_)
 replace hHeld := hHeld.trans kx
 have HBr := Lib.hid hBr
 clear hK K hBr kx
 refine rR 16 rfl (fun K hK => ?_)
 go_simp
 refine (HB1.out gk gc gb gp _ HBr.out).mono ?_
 rintro e x3 ⟨rfl, gx3⟩
 refine hK.out _ _ (hHeld.trans gx3) (fun _ => ?_)
 replace hHeld := hHeld.trans gx3
 clear hK K
 refine rT 17 24 (.bool (!bb)) rfl rfl hHeld ?_
 simp only [pA, pN, sZ, sU]
 refine rT 18 25 (.bool (!bb)) rfl rfl hHeld ?_
 simp only [pA, pN, sZ, sU]
 refine rT 19 6 (.bool (!bb)) rfl rfl hHeld ?_
 simp only [pA, pN, sZ, sU]
 refine wpAnyH_done (by kernel_rfl) ?_ _
 go_wp2
 go_ret
 exact ⟨rfl, HK0.out.trans hHeld⟩
theorem legal_is (r g : Nat) (a b : Addr) (p : Ps) (hB : Brd p.B) (m : Mv) (w : World) (hT : TabG w) (hR : RuAt w r g a b) :
  Calls Tryz.prog 21 #[.pointer (some ⟨r, 0, none⟩), .agg (pl p).toArray, .agg (ml m).toArray] w fun e w' => e = .returned (.bool (legA p m)) ∧ Kept w w' := by
 cases hg : ((pwI p == 0) && goesM p m)
 ·rw [legA_no p m hg]; exact legal_no r g a b p hB m hg w hT hR
 ·rw [legA_is p hB m hg]; exact legal_go r g a b p hB m hg w hT hR
def playP (p : Ps) (m : Mv) : Ps := if pwI p ≠ 0 then Zp else if legB p m then behP p m else Zp
def playE (p : Ps) (m : Mv) : Int := if pwI p ≠ 0 then pwI p else if legB p m then 0 else 5
theorem playP_in {p : Ps} {m : Mv} (h : pwI p = 0) : playP p m = if legB p m then behP p m else Zp := by unfold playP; rw [if_neg (show ¬ pwI p ≠ 0 by omega)]
theorem playE_in {p : Ps} {m : Mv} (h : pwI p = 0) : playE p m = if legB p m then 0 else 5 := by unfold playE; rw [if_neg (show ¬ pwI p ≠ 0 by omega)]
set_option maxHeartbeats 2000000 in
theorem play_wrong (r : Nat) (p : Ps) (hB : Brd p.B) (m : Mv) (h : pwI p ≠ 0) (w : World) (hT : TabG w) :
  Calls Tryz.prog 19 #[.pointer (some ⟨r, 0, none⟩), .agg (pl p).toArray, .agg (ml m).toArray] w (RetPE w Zp (pwI p)) := by
 have HP : Hid (PAt _ _ p) := ⟨hB.1, heap_alloc2_old w (.cells (pl p).toArray 26) (.cells (ml m).toArray 36)⟩
 have HM : Hid (MAt _ _ m) := ⟨heap_alloc2_new w (.cells (pl p).toArray 26) (.cells (ml m).toArray 36)⟩
 have HK0 := Lib.hid (((Kept.refl w).alloc (.cells (pl p).toArray 26)).alloc (.cells (ml m).toArray 36))
 have HK1 := Lib.hid (HK0.out.alloc (.cells (pl Zp).toArray 26))
 have HP1 := Lib.hid (HP.out.kept ((Kept.refl _).alloc (.cells (pl Zp).toArray 26)))
 have HR1 : Hid (PAt _ _ Zp) := PAt.new ((w.alloc (.cells (pl p).toArray 26)).alloc (.cells (ml m).toArray 36)) Zp_len
 have hsz : ((w.alloc (.cells (pl p).toArray 26)).alloc (.cells (ml m).toArray 36)).heap.size = w.heap.size + 2 := by simp
 rw [hsz] at HR1
 have HT := Lib.hid (hT.kept HK1.out)
 have HC := Lib.hid (fun w h => pwrong_is p hB w h)
 have hv' : (pwI p != 0) = true := bne_iff_ne.2 h
 generalize pwI p = v at *
 clear hB hT h HP HM HK0 hsz
 go_enter Tryz.func19, Tryz.ntmps19
 go_wp2_with (first | (with_reducible refine wpList_new_p rfl rfl ?_) | (refine wpList_load_ps (by rfl) _ rfl _ rfl _ HP1.out ?_))
 refine (HC.out _ HT.out.tabm.tabs).mono ?_
 rintro e w1 ⟨rfl, k1⟩
 have HK2 := Lib.hid (HK1.out.trans k1)
 have HR2 := Lib.hid (HR1.out.kept k1)
 clear k1
 go_wp2_with (first | (refine wpList_built_p0 (by rfl) rfl ?_) | (refine wpList_store_ps rfl _ _ rfl (w.heap.size + 2) Zp Zp HR2.out Zp_len rfl rfl ?_))
 refine bodyPost_ret (v := .tuple #[.agg (pl Zp).toArray, .int .i64 v]) ?_ rfl ⟨rfl, HK2.out.setRow (by omega) _⟩
 exact (results_pos_tmp (s := 6) (t := 7) rfl _ rfl (HR2.out.setRow Zp_len)).trans rfl
set_option maxHeartbeats 2000000 in
theorem play_no (r g : Nat) (a b : Addr) (p : Ps) (hB : Brd p.B) (m : Mv) (h : pwI p = 0) (hl : legA p m = false) (w : World) (hT : TabG w) (hR : RuAt w r g a b) :
  Calls Tryz.prog 19 #[.pointer (some ⟨r, 0, none⟩), .agg (pl p).toArray, .agg (ml m).toArray] w (RetPE w Zp 5) := by
 have HP : Hid (PAt _ _ p) := ⟨hB.1, heap_alloc2_old w (.cells (pl p).toArray 26) (.cells (ml m).toArray 36)⟩
 have HM : Hid (MAt _ _ m) := ⟨heap_alloc2_new w (.cells (pl p).toArray 26) (.cells (ml m).toArray 36)⟩
 have HK0 := Lib.hid (((Kept.refl w).alloc (.cells (pl p).toArray 26)).alloc (.cells (ml m).toArray 36))
 have HK1 := Lib.hid (HK0.out.alloc (.cells (pl Zp).toArray 26))
 have HP1 := Lib.hid (HP.out.kept ((Kept.refl _).alloc (.cells (pl Zp).toArray 26)))
 have HM1 := Lib.hid (MAt.kept HM.out ((Kept.refl _).alloc (.cells (pl Zp).toArray 26)))
 have HR1 : Hid (PAt _ _ Zp) := PAt.new ((w.alloc (.cells (pl p).toArray 26)).alloc (.cells (ml m).toArray 36)) Zp_len
 have hsz : ((w.alloc (.cells (pl p).toArray 26)).alloc (.cells (ml m).toArray 36)).heap.size = w.heap.size + 2 := by simp
 rw [hsz] at HR1
 have HT := Lib.hid (hT.kept HK1.out)
 have HRu := Lib.hid (hR.kept HK1.out)
 have HC := Lib.hid (fun w h => pwrong_is p hB w h)
 have HL := Lib.hid (fun w hT hR => legal_is r g a b p hB m w hT hR)
 rw [h] at HC
 rw [hl] at HL
 clear hB hT hR h HP HM HK0 hsz hl
 go_enter Tryz.func19, Tryz.ntmps19
 go_wp2_with (first | (with_reducible refine wpList_new_p rfl rfl ?_) | (refine wpList_load_ps (by rfl) _ rfl _ rfl _ HP1.out ?_))
 refine (HC.out _ HT.out.tabm.tabs).mono ?_
 rintro e w1 ⟨rfl, k1⟩
 have HK2 := Lib.hid (HK1.out.trans k1)
 have HR2 := Lib.hid (HR1.out.kept k1)
 have HP2 := Lib.hid (HP1.out.kept k1)
 have HM2 := Lib.hid (MAt.kept HM1.out k1)
 have HT2 := Lib.hid (HT.out.kept k1)
 have HRu2 := Lib.hid (HRu.out.kept k1)
 clear k1
 go_wp2_with (first | (refine wpList_load_ps (by rfl) _ rfl _ rfl _ (HP2.out) ?_) | (refine wpList_load_pb (by rfl) _ rfl _ rfl _ (HP2.out) ?_) | (refine wpList_load_mv (by rfl) _ rfl _ rfl _ (HM2.out) ?_))
 refine (HL.out _ HT2.out HRu2.out).mono ?_
 rintro e w2 ⟨rfl, k2⟩
 have HK3 := Lib.hid (HK2.out.trans k2)
 have HR3 := Lib.hid (HR2.out.kept k2)
 clear k2
 go_wp2_with (first | (refine wpList_built_p0 (by rfl) rfl ?_) | (refine wpList_store_ps rfl _ _ rfl (w.heap.size + 2) Zp Zp HR3.out Zp_len rfl rfl ?_))
 refine bodyPost_ret (v := .tuple #[.agg (pl Zp).toArray, .int .i64 5]) ?_ rfl ⟨rfl, HK3.out.setRow (by omega) _⟩
 exact (results_pos_tmp (s := 6) (t := 7) rfl _ rfl (HR3.out.setRow Zp_len)).trans rfl
set_option maxHeartbeats 2000000 in
theorem play_yes (r g : Nat) (a b : Addr) (p : Ps) (hB : Brd p.B) (m : Mv) (h : pwI p = 0) (hl : legA p m = true) (hok : okM p m = true) (w : World) (hT : TabG w) (hR : RuAt w r g a b) :
  Calls Tryz.prog 19 #[.pointer (some ⟨r, 0, none⟩), .agg (pl p).toArray, .agg (ml m).toArray] w (RetPE w (behP p m) 0) := by
 have HP : Hid (PAt _ _ p) := ⟨hB.1, heap_alloc2_old w (.cells (pl p).toArray 26) (.cells (ml m).toArray 36)⟩
 have HM : Hid (MAt _ _ m) := ⟨heap_alloc2_new w (.cells (pl p).toArray 26) (.cells (ml m).toArray 36)⟩
 have HK0 := Lib.hid (((Kept.refl w).alloc (.cells (pl p).toArray 26)).alloc (.cells (ml m).toArray 36))
 have HK1 := Lib.hid (HK0.out.alloc (.cells (pl Zp).toArray 26))
 have HP1 := Lib.hid (HP.out.kept ((Kept.refl _).alloc (.cells (pl Zp).toArray 26)))
 have HM1 := Lib.hid (MAt.kept HM.out ((Kept.refl _).alloc (.cells (pl Zp).toArray 26)))
 have HR1 : Hid (PAt _ _ Zp) := PAt.new ((w.alloc (.cells (pl p).toArray 26)).alloc (.cells (ml m).toArray 36)) Zp_len
 have hsz : ((w.alloc (.cells (pl p).toArray 26)).alloc (.cells (ml m).toArray 36)).heap.size = w.heap.size + 2 := by simp
 rw [hsz] at HR1
 have HT := Lib.hid (hT.kept HK1.out)
 have HRu := Lib.hid (hR.kept HK1.out)
 have HC := Lib.hid (fun w h => pwrong_is p hB w h)
 have HL := Lib.hid (fun w hT hR => legal_is r g a b p hB m w hT hR)
 have HMk := Lib.hid (fun w hw => make_yes p hB m hok w hw)
 have hql : Hid ((behP p m).B.length = 64) := behB_len hB.1
 rw [h] at HC
 rw [hl] at HL
 generalize behP p m = q at *
 clear hB hT hR h HP HM HK0 hsz hl hok
 go_enter Tryz.func19, Tryz.ntmps19
 go_wp2_with (first | (with_reducible refine wpList_new_p rfl rfl ?_) | (refine wpList_load_ps (by rfl) _ rfl _ rfl _ HP1.out ?_))
 refine (HC.out _ HT.out.tabm.tabs).mono ?_
 rintro e w1 ⟨rfl, k1⟩
 have HK2 := Lib.hid (HK1.out.trans k1)
 have HR2 := Lib.hid (HR1.out.kept k1)
 have HP2 := Lib.hid (HP1.out.kept k1)
 have HM2 := Lib.hid (MAt.kept HM1.out k1)
 have HT2 := Lib.hid (HT.out.kept k1)
 have HRu2 := Lib.hid (HRu.out.kept k1)
 clear k1
 go_wp2_with (first | (refine wpList_load_ps (by rfl) _ rfl _ rfl _ (HP2.out) ?_) | (refine wpList_load_pb (by rfl) _ rfl _ rfl _ (HP2.out) ?_) | (refine wpList_load_mv (by rfl) _ rfl _ rfl _ (HM2.out) ?_))
 refine (HL.out _ HT2.out HRu2.out).mono ?_
 rintro e w2 ⟨rfl, k2⟩
 have HK3 := Lib.hid (HK2.out.trans k2)
 have HR3 := Lib.hid (HR2.out.kept k2)
 have HP3 := Lib.hid (HP2.out.kept k2)
 have HM3 := Lib.hid (MAt.kept HM2.out k2)
 have HT3 := Lib.hid (HT2.out.kept k2)
 clear k2
 go_wp2_with (first | (refine wpList_load_ps (by rfl) _ rfl _ rfl _ (HP3.out) ?_) | (refine wpList_load_pb (by rfl) _ rfl _ rfl _ (HP3.out) ?_) | (refine wpList_load_mv (by rfl) _ rfl _ rfl _ (HM3.out) ?_))
 refine (HMk.out _ HT3.out.tabm).mono ?_
 rintro e w3 ⟨rfl, k3⟩
 have HK4 := Lib.hid (HK3.out.trans k3)
 have HR4 := Lib.hid (HR3.out.kept k3)
 clear k3
 go_wp2_with (refine wpList_store_ps rfl _ _ rfl (w.heap.size + 2) Zp q HR4.out hql.out rfl rfl ?_)
 refine bodyPost_ret (v := .tuple #[.agg (pl q).toArray, .int .i64 0]) ?_ rfl ⟨rfl, HK4.out.setRow (by omega) _⟩
 exact (results_pos_tmp (s := 6) (t := 7) rfl _ rfl (HR4.out.setRow hql.out)).trans rfl
theorem play_is (r g : Nat) (a b : Addr) (p : Ps) (hB : Brd p.B) (m : Mv) (w : World) (hT : TabG w) (hR : RuAt w r g a b) :
  Calls Tryz.prog 19 #[.pointer (some ⟨r, 0, none⟩), .agg (pl p).toArray, .agg (ml m).toArray] w (RetPE w (playP p m) (playE p m)) := by
 by_cases h : pwI p = 0
 ·rw [playP_in h, playE_in h]
  have hA : legA p m = legB p m := by unfold legA; rw [h]; rfl
  cases hl : legB p m
  ·rw [hl] at hA
   exact play_no r g a b p hB m h hA w hT hR
  ·rw [hl] at hA
   exact play_yes r g a b p hB m h hA (leg_right hB h hl).2.2 w hT hR
 ·have eP : playP p m = Zp := by unfold playP; rw [if_pos h]
  have eE : playE p m = pwI p := by unfold playE; rw [if_pos h]
  rw [eP, eE]
  exact play_wrong r p hB m h w hT
end Go.Proofs.YtfekipadkenhpaaGreatDoor
