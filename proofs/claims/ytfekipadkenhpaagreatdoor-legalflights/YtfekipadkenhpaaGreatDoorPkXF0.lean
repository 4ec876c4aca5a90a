/- RaL · GeA · LeL · LeI · LeP: my texts, in their order. -/
import Derived.Test.YtfekipadkenhpaaGreatDoorPkXMPRFT0
import Derived.Test.YtfekipadkenhpaaGreatDoorPkXMFT0
import Derived.Test.YtfekipadkenhpaaGreatDoorPkXPRF0
import Derived.Test.YtfekipadkenhpaaGreatDoorPkXMF0
import Derived.Test.YtfekipadkenhpaaGreatDoorPkA
import Derived.Test.YtfekipadkenhpaaGreatDoorPkB
import Derived.Test.YtfekipadkenhpaaGreatDoorPkC
import Derived.Test.YtfekipadkenhpaaGreatDoorPkD
import Derived.Test.YtfekipadkenhpaaGreatDoorPkE
import Derived.Test.YtfekipadkenhpaaGreatDoorPkF
import Derived.Test.YtfekipadkenhpaaGreatDoorPkGa
import Derived.Test.YtfekipadkenhpaaGreatDoorPkGb
import Derived.Test.YtfekipadkenhpaaGreatDoorPkGc
import Derived.Test.YtfekipadkenhpaaGreatDoorPkGd
import Derived.Test.YtfekipadkenhpaaGreatDoorPkGe
import Derived.Test.YtfekipadkenhpaaGreatDoorPkGf
import Derived.Test.YtfekipadkenhpaaGreatDoorPkGg
import Derived.Test.YtfekipadkenhpaaGreatDoorPkGh
import Derived.Test.YtfekipadkenhpaaGreatDoorPkGj
import Derived.Test.YtfekipadkenhpaaGreatDoorPkH
import Derived.Test.YtfekipadkenhpaaGreatDoorPkI
import Derived.Test.YtfekipadkenhpaaGreatDoorPkJ
import Derived.Test.YtfekipadkenhpaaGreatDoorPkK
import Derived.Test.YtfekipadkenhpaaGreatDoorPkL
import Derived.Test.YtfekipadkenhpaaGreatDoorPkLa
import Derived.Test.YtfekipadkenhpaaGreatDoorPkLd
import Derived.Test.YtfekipadkenhpaaGreatDoorPkLe
import Derived.Test.YtfekipadkenhpaaGreatDoorPkLf
import Derived.Test.YtfekipadkenhpaaGreatDoorPkLg
import Derived.Test.YtfekipadkenhpaaGreatDoorPkLh
import Derived.Test.YtfekipadkenhpaaGreatDoorPkLk
import Derived.Test.YtfekipadkenhpaaGreatDoorPkLw
import Derived.Test.YtfekipadkenhpaaGreatDoorPkM
import Derived.Test.YtfekipadkenhpaaGreatDoorPkQ
import Derived.Test.YtfekipadkenhpaaGreatDoorPkR
import Derived.Laws.OwnMore
import Derived.Laws.AppendOwnNone
namespace Go.Proofs.YtfekipadkenhpaaGreatDoor
open Go.RowKit
set_option linter.unusedVariables false
set_option linter.unusedSimpArgs false
theorem sameZ_yes (g1 g2 : Nat) (v1 v2 : Value) (l : List Int) (w : World) (h1 : LsZ w g1 v1 l) (h2 : LsZ w g2 v2 l) :
  Calls Tryz.prog 27 #[v1, v2] w fun e w' => e = .returned (.bool true) ∧ Kept w w' := by
 by_cases hl : 0 < l.length
 ·obtain ⟨o1, c1, rfl, a1, b1, k1⟩ := h1.full hl
  obtain ⟨o2, c2, rfl, a2, b2, k2⟩ := h2.full hl
  have K1 := Lib.hid k1
  have K2 := Lib.hid k2
  generalize hn : l.length = n at *
  have HN := Lib.hid hn
  have hm : n ≤ maxLen := by omega
  unfold maxLen at hm
  clear k1 k2 h1 h2 hn b1 b2
  go_enter Tryz.func27, Tryz.ntmps27
  go_wp2
  go_loopw [5] (fun t5 wr => ∃ i : Nat, i ≤ n ∧ t5 = .int .i64 i ∧ ∃ d, wr = w.drewN d) (fun t5 _ => n - (intOf t5).toNat)
  case atStart => exact ⟨0, Nat.zero_le _, rfl, 0, rfl⟩
  case round =>
   obtain ⟨i, hi, rfl, d, rfl⟩ := hrel
   by_cases hlt : i < n
   ·have hlt' : (i : Int) < (n : Int) := by omega
    obtain ⟨x, hx⟩ : ∃ x, l[i]? = some x := ⟨_, List.getElem?_eq_getElem (by have := HN.out; omega)⟩
    have e1 := K1.out i x hx
    have e2 := K2.out i x hx
    clear hx
    go_wp2
    go_quiet (fail)
    go_wp2
    go_roundw
    case rel => exact ⟨i + 1, by omega, by go_num, _, rfl⟩
    case measure => simp [intOf]; omega
   ·go_wp2
    go_ret
    exact ⟨rfl, (Kept.refl w).drewN d⟩
 ·have h0 : l = [] := List.eq_nil_of_length_eq_zero (by omega)
  subst h0
  obtain ⟨a1, c1, rfl⟩ := h1.slice
  obtain ⟨a2, c2, rfl⟩ := h2.slice
  go_enter Tryz.func27, Tryz.ntmps27
  go_wp2
  go_loopw [5] (fun t5 wr => t5 = .int .i64 0 ∧ wr = w) (fun _ _ => 0)
  case atStart => exact ⟨rfl, rfl⟩
  case round =>
   obtain ⟨rfl, rfl⟩ := hrel
   go_wp2
   go_ret
   exact ⟨rfl, Kept.refl _⟩
set_option maxRecDepth 100000
theorem fromI_len (p : Ps) (s : Int) : (fromI p s).length ≤ 384 := by
 unfold fromI; split
 ·exact fromN_len _ _
 ·simp
theorem filter_none {l : List Mv} {q : Mv → Bool} (h : ∀ m ∈ l, q m = false) : l.filter q = [] := by
 rw [List.filter_eq_nil_iff]; intro m hm; rw [h m hm]; decide
theorem filter_all {l : List Mv} {q : Mv → Bool} (h : ∀ m ∈ l, q m = true) : l.filter q = l := by
 rw [List.filter_eq_self]; exact h
theorem all_from (p : Ps) (s : Int) : ∀ n, (allN p n).filter (fun m => m.f == s) = if 0 ≤ s ∧ s < n then fromN p s.toNat else []
 | 0 => by rw [if_neg (by omega)]; simp [allN]
 | n + 1 => by
  rw [allN_succ, List.filter_append, all_from p s n]
  by_cases h : s = n
  ·rw [if_neg (by omega), if_pos (by omega), filter_all (fun m hm => by rw [(mem_fromN.1 hm).1, h]; simp), h, Int.toNat_natCast, List.nil_append]
  ·rw [filter_none (l := fromN p n) (fun m hm => by rw [(mem_fromN.1 hm).1, beq_eq_false_iff_ne]; exact fun e => h e.symm), List.append_nil]
   by_cases h2 : 0 ≤ s ∧ s < n
   ·rw [if_pos h2, if_pos (by omega)]
   ·rw [if_neg h2, if_neg (by omega)]
theorem all_from64 (p : Ps) (s : Int) : (allL p).filter (fun m => m.f == s) = fromI p s := by
 unfold allL fromI; rw [all_from]; rfl
theorem fromR_in {p : Ps} {s : Int} {m : Mv} (h : m ∈ fromR p s) : pwI p = 0 ∧ goesM p m = true := by
 unfold fromR at h
 split at h
 ·next hr =>
  rw [← all_from64, List.mem_filter] at h
  exact ⟨hr, (mem_allN (right_t hr).1).1 h.1⟩
 ·cases h
theorem fromR_long (p : Ps) (s : Int) : (fromR p s).length ≤ 384 := by
 unfold fromR; split
 ·exact fromI_len p s
 ·simp
theorem legR_long (p : Ps) : (legR p).length ≤ 24576 := by
 unfold legR legL; split
 ·exact Nat.le_trans (List.length_filter_le _ _) (allN_len p 64)
 ·simp
/-- Where the king of who is to move goes by legal moves. -/
def flyR (p : Ps) : List Int := if pwI p = 0 then ((legL p).filter fun m => m.f == kingI p.B p.t).map (·.t) else []
theorem flyR_is (p : Ps) (hB : Brd p.B) : ((fromR p (kingI p.B p.t)).filter fun m => !barsB p m).map (·.t) = flyR p := by
 unfold fromR flyR legL
 split
 ·next hr =>
  rw [← all_from64, List.filter_filter, List.filter_filter]
  congr 1
  apply List.filter_congr
  intro m hm
  rw [bars_stay hB hr ((mem_allN (right_t hr).1).1 hm), Bool.not_not, Bool.and_comm]
 ·rfl
/-- Where those of the first k that aren't barred lead. -/
def flyP (p : Ps) (L : List Mv) (k : Nat) : List Int := (leftP L (barsB p) k).map (·.t)
theorem flyP_yes {p : Ps} {L : List Mv} {k : Nat} {x : Mv} (h : L[k]? = some x) (hb : barsB p x = false) : flyP p L (k + 1) = flyP p L k ++ [x.t] := by
 unfold flyP; rw [leftP_yes h hb, List.map_append]; rfl
theorem flyP_no {p : Ps} {L : List Mv} {k : Nat} {x : Mv} (h : L[k]? = some x) (hb : barsB p x = true) : flyP p L (k + 1) = flyP p L k := by
 unfold flyP; rw [leftP_no h hb]
theorem flyP_end (p : Ps) (L : List Mv) : flyP p L L.length = (L.filter fun m => !barsB p m).map (·.t) := by unfold flyP; rw [leftP_all]
theorem flyP_long (p : Ps) (L : List Mv) (k : Nat) : (flyP p L k).length ≤ k := by unfold flyP; rw [List.length_map]; exact leftP_short L _ k
set_option maxHeartbeats 4000000 in
theorem flights_is (r g : Nat) (a b : Addr) (p : Ps) (hB : Brd p.B) (w : World) (hT : TabG w) (hR : RuAt w r g a b) :
  Calls Tryz.prog 25 #[.pointer (some ⟨r, 0, none⟩), .agg (pl p).toArray] w (NewZ w (flyR p)) := by
 have HP := Lib.hid (PAt.new w hB.1)
 have HK0 := Lib.hid ((Kept.refl w).alloc (.cells (pl p).toArray 26))
 have HT := Lib.hid (hT.kept HK0.out)
 have HR := Lib.hid (hR.kept HK0.out)
 have hpl : Hid (p.B.length = 64) := hB.1
 have HKg := Lib.hid (fun w => king_any p.B hB p.t w)
 have HFr := Lib.hid (fun w hT hE => fromg_is g a p hB (kingI p.B p.t) w hT hE)
 have HBs := Lib.hid (fun w hT hR => bars_is r g a b p hB w hT hR)
 have HIn : Hid (∀ m, m ∈ fromR p (kingI p.B p.t) → ∀ gk gc gb gp w, Bar w p gk gc gb gp r g a b → Calls Tryz.prog 67 (#[.agg (ml m).toArray] ++ barV gk gc gb gp) w fun e w' => e = .returned (.bool (barsB p m)) ∧ Kept w w') :=
  fun m hm gk gc gb gp w hBr => bars1_is gk gc gb gp r g a b p hB (fromR_in hm).1 m (fromR_in hm).2 w hBr
 have HFl := Lib.hid (flyR_is p hB)
 have HLl := Lib.hid (fromR_long p (kingI p.B p.t))
 have hent := bar_enters
 generalize fromR p (kingI p.B p.t) = L at *
 generalize kingI p.B p.t = kI at *
 clear hB hT hR
 go_enter Tryz.func25, Tryz.ntmps25
 go_wp2_with (first | (refine wpList_load_ps (by rfl) _ rfl _ rfl _ (HP.out) ?_) | (refine wpList_load_pb (by rfl) _ rfl _ rfl _ (HP.out) ?_))
 refine (HBs.out _ HT.out HR.out).mono ?_
 rintro e w2 ⟨gk, gc, gb, gp, rfl, hBr, _, k2⟩
 have HK2 := Lib.hid (HK0.out.trans k2)
 have HP2 := Lib.hid (HP.out.kept k2)
 have HT2 := Lib.hid (HT.out.kept k2)
 have HR2 := Lib.hid (HR.out.kept k2)
 have HBr := Lib.hid hBr
 clear k2 hBr
 go_wp2
 refine wp_region_held_drew (S := Kept _) (by kernel_rfl) (Kept.refl _).drew (fun hHeld => ?_)
 refine rT 0 14 (.pointer (some ⟨r, 0, none⟩)) rfl rfl hHeld ?_
 simp only [Act.put, sA, sZ, sU]
 refine rT 1 15 (.pointer (some ⟨r, 0, none⟩)) rfl rfl hHeld ?_
 simp only [pA, pN, sZ, sU]
 refine rT 2 16 (.pointer (some ⟨r, 0, none⟩)) rfl rfl hHeld ?_
 simp only [pA, pN, sZ, sU]
 refine rC 3 17 (.pointer (some ⟨g, 0, none⟩)) rfl rfl (fun _ h => kept_cell h (HR2.out.gen)) hHeld ?_
 simp only [pA, pN, sZ, sU]
 refine rY 4 18 rfl rfl (take_load_ps (by rfl) _ rfl _ rfl p hpl.out (fun _ h => (HP2.out).kept h)) hHeld ?_
 simp only [pA, pN, sZ, sU]
 refine rT 5 19 (.pointer (some ⟨w.heap.size, 0, none⟩)) rfl rfl hHeld ?_
 simp only [pA, pN, sZ, sU]
 refine rY 6 20 rfl rfl (take_load_pb (by rfl) _ rfl _ rfl p hpl.out (fun _ h => (HP2.out).kept h)) hHeld ?_
 simp only [pA, pN, sZ, sU]
 refine rT 7 21 (.pointer (some ⟨w.heap.size, 64, none⟩)) rfl rfl hHeld ?_
 simp only [pA, pN, sZ, sU]
 refine rC 8 22 (.int .i64 p.t) rfl rfl (fun _ h => kept_cell h (HP2.out.turn)) hHeld ?_
 simp only [pA, pN, sZ, sU]
 refine rT 12 26 (.int .i64 0) rfl rfl hHeld ?_
 simp only [pA, pN, sZ, sU]
 refine rR 9 rfl (fun K hK => ?_)
 go_simp
 refine (HKg.out _).mono ?_
 rintro e x1 ⟨rfl, gx1⟩
 refine hK.out _ _ (hHeld.trans gx1) (fun _ => ?_)
 replace hHeld := hHeld.trans gx1
 clear hK K
 refine rR 10 rfl (fun K hK => ?_)
 go_simp
 refine (HFr.out _ (HT2.out.kept hHeld) (HR2.out.ey.kept hHeld)).mono ?_
 rintro e X ⟨vX, rfl, hoX, gX⟩
 obtain ⟨aX, cX, rfl⟩ := hoX.slice
 have HOX := Lib.hid hoX
 clear hoX
 refine hK.out _ _ (hHeld.trans gX) (fun _ => ?_)
 replace hHeld := hHeld.trans gX
 clear hK K
 refine rT 11 25 (.int .i64 (L.length : Int)) rfl rfl hHeld ?_
 simp only [pA, pN, sZ, sU]
 refine wpAnyH_done (by kernel_rfl) ?_ _
 have HKX := Lib.hid (HK2.out.trans hHeld)
 have HBX := Lib.hid (HBr.out.kept hHeld)
 obtain ⟨gl, hls, _⟩ := HOX.out.ls
 have HLs := Lib.hid hls
 have HFe := Lib.hid (flyP_end p L)
 generalize hn : L.length = n at *
 have HN := Lib.hid hn
 clear hHeld gX gx1 hls hn
 go_wp2
 go_loopw [6, 26] (fun t6 t26 wr => ∃ k : Nat, k ≤ n ∧ t26 = .int .i64 k ∧ OwnZ wr X.heap.size t6 (flyP p L k) ∧ Kept X wr) (fun _ t26 _ => n - (intOf t26).toNat)
 case atStart => exact ⟨0, Nat.zero_le _, rfl, OwnZ.nil _ _, Kept.refl _⟩
 case round =>
  obtain ⟨k, hk, rfl, hown, hK⟩ := hrel
  obtain ⟨a6, c6, rfl⟩ := hown.slice
  have HK := Lib.hid hK
  have HO := Lib.hid hown
  have hln := flyP_long p L k
  have HLn := Lib.hid hln
  clear hown hln
  by_cases hlt : k < n
  ·have hlt' : (k : Int) < (n : Int) := by omega
   obtain ⟨x, hx⟩ : ∃ x, L[k]? = some x := ⟨_, List.getElem?_eq_getElem (by have := HN.out; omega)⟩
   have hmx := List.mem_of_getElem? hx
   obtain ⟨off, cap, he, hc1, hc2, h3⟩ := HLs.out.full (by have := HN.out; omega)
   rw [HN.out] at he
   injection he with he1 he2 he3
   subst he1 he3
   rw [HN.out] at hc1
   unfold maxLen at hc2
   have HX := Lib.hid hx
   have HRx := Lib.hid (range_i (range_kept h3 hK) hx)
   have KB0 := Lib.hid ((Kept.refl wr).alloc (.cells (ml x).toArray 36))
   have HMb := Lib.hid (MAt.new wr x)
   have HRn := Lib.hid (RAt.range HMb.out)
   have HBb := Lib.hid (HBX.out.kept (hK.trans KB0.out))
   have HKb := Lib.hid (hK.trans KB0.out)
   have HOb := Lib.hid (HO.out.kept KB0.out)
   have HCx := Lib.hid (HIn.out x hmx gk gc gb gp _ HBb.out)
   clear h3 hx hK hmx
   cases hb : barsB p x
   ·rw [hb] at HCx
    have HY := Lib.hid (flyP_yes HX.out hb)
    clear hb
    generalize hNn : (flyP p L k).length = N at *
    go_wp2_with (first | ((with_reducible refine wpList_load_mvo rfl _ rfl gl (off + k * 3) ?_ x HRx.out ?_); exact rfl) | (with_reducible refine wpList_new_mv rfl rfl ?_) | ((with_reducible refine wpList_store_newmv rfl _ _ rfl Zm x ?_ ?_ ?_); exact rfl; exact rfl) | ((with_reducible refine wpList_load_mvo rfl _ rfl wr.heap.size 0 ?_ x HRn.out ?_); exact rfl))
    refine HCx.out.mono ?_
    rintro e w3 ⟨rfl, k3⟩
    have HK3 := Lib.hid (HKb.out.trans k3)
    have y1 := (MAt.kept HMb.out k3).t
    have HA := Lib.hid (HK3.out.alloc (.cells #[.int .i64 x.t] 3))
    have HOA := Lib.hid (HOb.out.kept (k3.alloc (.cells #[.int .i64 x.t] 3)))
    clear k3
    go_wp2_with (at_builtin; refine wpList_append_z rfl _ _ rfl X.heap.size w3.heap.size _ _ (flyP p L k) [x.t] rfl rfl HOA.out (LsZ.lit _ [x.t] (by simp)) ?c1 ?c2 ?_)
    case c1 => have := HLl.out; have := HN.out; have := HLn.out; simp; omega
    case c2 => exact HA.out.size
    intro v' w4 hown' hg
    have HK4 := Lib.hid (HOA.out.grown HA.out (Nat.le_refl _) hg)
    obtain ⟨a', cap', rfl⟩ := hown'.slice
    rw [← HY.out] at hown'
    have HO4 := Lib.hid hown'
    have HLe : Hid ((flyP p L (k + 1)).length = (flyP p L k ++ [x.t]).length) := by show _ = _; rw [HY.out]
    clear hown' hg hNn y1
    rw [← HY.out] at *
    generalize (flyP p L (k + 1)).length = N2 at *
    go_wp2
    go_roundw
    case rel => exact ⟨k + 1, by omega, by go_num, HO4.out, HK4.out⟩
    case measure => simp [intOf]; omega
   ·rw [hb] at HCx
    have HY := Lib.hid (flyP_no HX.out hb)
    clear hb
    generalize hNn : (flyP p L k).length = N at *
    go_wp2_with (first | ((with_reducible refine wpList_load_mvo rfl _ rfl gl (off + k * 3) ?_ x HRx.out ?_); exact rfl) | (with_reducible refine wpList_new_mv rfl rfl ?_) | ((with_reducible refine wpList_store_newmv rfl _ _ rfl Zm x ?_ ?_ ?_); exact rfl; exact rfl) | ((with_reducible refine wpList_load_mvo rfl _ rfl wr.heap.size 0 ?_ x HRn.out ?_); exact rfl))
    refine HCx.out.mono ?_
    rintro e w3 ⟨rfl, k3⟩
    have HK3 := Lib.hid (HKb.out.trans k3)
    have HO3 := Lib.hid (HOb.out.kept k3)
    clear k3 hNn
    go_wp2
    go_roundw
    case rel => exact ⟨k + 1, by omega, by go_num, by rw [HY.out]; exact HO3.out, HK3.out⟩
    case measure => simp [intOf]; omega
  ·clear hK
   obtain rfl : k = n := by omega
   generalize hNn : (flyP p L k).length = N at *
   clear hNn
   go_wp2
   go_ret
   exact ⟨_, rfl, by rw [← HFl.out, ← HFe.out]; exact HO.out.low HKX.out.size, HKX.out.trans HK.out⟩
/-- What the law gathers. -/
def goP (L : List Mv) (kI : Int) (k : Nat) : List Int := ((L.take k).filter fun m => m.f == kI).map (·.t)
theorem goP_yes {L : List Mv} {kI : Int} {k : Nat} {x : Mv} (h : L[k]? = some x) (hb : (x.f == kI) = true) : goP L kI (k + 1) = goP L kI k ++ [x.t] := by
 unfold goP; rw [take_one h]; simp [hb]
theorem goP_no {L : List Mv} {kI : Int} {k : Nat} {x : Mv} (h : L[k]? = some x) (hb : (x.f == kI) = false) : goP L kI (k + 1) = goP L kI k := by
 unfold goP; rw [take_one h]; simp [hb]
theorem goP_long (L : List Mv) (kI : Int) (k : Nat) : (goP L kI k).length ≤ L.length := by
 unfold goP
 rw [List.length_map]
 refine Nat.le_trans (List.length_filter_le _ _) ?_
 rw [List.length_take]; omega
theorem goP_end (p : Ps) (hr : pwI p = 0) : goP (legL p) (kingI p.B p.t) (legL p).length = flyR p := by unfold goP flyR; rw [List.take_length, if_pos hr]
set_option maxHeartbeats 4000000 in
theorem flights_not (p : Ps) (hB : Brd p.B) (hr : pwI p ≠ 0) (w : World) (hT : TabG w) :
  Calls Tryz.prog 6 #[.agg (pl p).toArray] w fun e w' => e = .returned (.bool true) ∧ Kept w w' := by
 have HP := Lib.hid (PAt.new w hB.1)
 have HK0 := Lib.hid ((Kept.refl w).alloc (.cells (pl p).toArray 26))
 have HT := Lib.hid (hT.kept HK0.out)
 have hF : flyR p = [] := by unfold flyR; rw [if_neg hr]
 have HFl := Lib.hid (fun r g a b w hT hR => flights_is r g a b p hB w hT hR)
 have HRr := Lib.hid (fun w => rrightP_is p hB w)
 rw [hF] at HFl
 rw [show (pwI p == 0) = false from beq_eq_false_iff_ne.2 hr] at HRr
 clear hB hT hr hF
 go_enter Tryz.func6, Tryz.ntmps6
 go_wp2_with fail
 refine (legal_wake _ HT.out).mono ?_
 rintro e w1 ⟨rfl, k1⟩
 have HK1 := Lib.hid (HK0.out.trans k1)
 have HP1 := Lib.hid (HP.out.kept k1)
 have HT1 := Lib.hid (HT.out.kept k1)
 clear k1
 go_wp2_with fail
 refine (rnew_is _).mono ?_
 rintro e w2 ⟨r, g, a, b, rfl, hR, k1⟩
 have HK2 := Lib.hid (HK1.out.trans k1)
 have HP2 := Lib.hid (HP1.out.kept k1)
 have HT2 := Lib.hid (HT1.out.kept k1)
 have HR2 := Lib.hid hR
 clear k1 hR
 go_wp2_with (first | (refine wpList_load_ps (by rfl) _ rfl _ rfl _ (HP2.out) ?_) | (refine wpList_load_pb (by rfl) _ rfl _ rfl _ (HP2.out) ?_))
 refine (HFl.out r g a b _ HT2.out HR2.out).mono ?_
 rintro e w3 ⟨v, rfl, hO, k3⟩
 obtain ⟨av, cv, rfl⟩ := hO.slice
 have HK3 := Lib.hid (HK2.out.trans k3)
 have HP3 := Lib.hid (HP2.out.kept k3)
 clear k3 hO
 go_wp2_with (first | (refine wpList_load_ps (by rfl) _ rfl _ rfl _ (HP3.out) ?_) | (refine wpList_load_pb (by rfl) _ rfl _ rfl _ (HP3.out) ?_))
 refine (HRr.out _).mono ?_
 rintro e w4 ⟨rfl, k4⟩
 have HK4 := Lib.hid (HK3.out.trans k4)
 clear k4
 go_wp2
 go_ret
 exact ⟨rfl, HK4.out⟩
set_option maxHeartbeats 8000000 in
theorem flights_in (p : Ps) (hB : Brd p.B) (hr : pwI p = 0) (w : World) (hT : TabG w) :
  Calls Tryz.prog 6 #[.agg (pl p).toArray] w fun e w' => e = .returned (.bool true) ∧ Kept w w' := by
 have HP := Lib.hid (PAt.new w hB.1)
 have HK0 := Lib.hid ((Kept.refl w).alloc (.cells (pl p).toArray 26))
 have HT := Lib.hid (hT.kept HK0.out)
 have HFl := Lib.hid (fun r g a b w hT hR => flights_is r g a b p hB w hT hR)
 have HRr := Lib.hid (fun w => rrightP_is p hB w)
 have HKg := Lib.hid (fun w => rking_is p.B hB p.t w)
 have HRm := Lib.hid (fun w => rmoves_is p hB hr w)
 have HEnd := Lib.hid (goP_end p hr)
 have HLl : Hid ((legL p).length ≤ 24576) := by have := legR_long p; unfold legR at this; rw [if_pos hr] at this; exact this
 rw [show (pwI p == 0) = true from beq_iff_eq.2 hr] at HRr
 generalize kingI p.B p.t = kI at *
 generalize legL p = L at *
 generalize flyR p = Fl at *
 clear hB hT hr
 go_enter Tryz.func6, Tryz.ntmps6
 go_wp2_with fail
 refine (legal_wake _ HT.out).mono ?_
 rintro e w1 ⟨rfl, k1⟩
 have HK1 := Lib.hid (HK0.out.trans k1)
 have HP1 := Lib.hid (HP.out.kept k1)
 have HT1 := Lib.hid (HT.out.kept k1)
 clear k1
 go_wp2_with fail
 refine (rnew_is _).mono ?_
 rintro e w2 ⟨r, g, a, b, rfl, hR, k1⟩
 have HK2 := Lib.hid (HK1.out.trans k1)
 have HP2 := Lib.hid (HP1.out.kept k1)
 have HT2 := Lib.hid (HT1.out.kept k1)
 have HR2 := Lib.hid hR
 clear k1 hR
 go_wp2_with (first | (refine wpList_load_ps (by rfl) _ rfl _ rfl _ (HP2.out) ?_) | (refine wpList_load_pb (by rfl) _ rfl _ rfl _ (HP2.out) ?_))
 refine (HFl.out r g a b _ HT2.out HR2.out).mono ?_
 rintro e w3 ⟨v, rfl, hO, k3⟩
 obtain ⟨g3, hl3, _⟩ := hO.ls
 obtain ⟨av, cv, rfl⟩ := hO.slice
 have HK3 := Lib.hid (HK2.out.trans k3)
 have HP3 := Lib.hid (HP2.out.kept k3)
 have HL3 := Lib.hid hl3
 clear k3 hO hl3
 obtain ⟨nF, hnF⟩ : ∃ n, Fl.length = n := ⟨_, rfl⟩
 rw [hnF] at HL3 ⊢
 clear hnF
 go_wp2_with (first | (refine wpList_load_ps (by rfl) _ rfl _ rfl _ (HP3.out) ?_) | (refine wpList_load_pb (by rfl) _ rfl _ rfl _ (HP3.out) ?_))
 refine (HRr.out _).mono ?_
 rintro e w4 ⟨rfl, k4⟩
 have HK4 := Lib.hid (HK3.out.trans k4)
 have HP4 := Lib.hid (HP3.out.kept k4)
 have HL4 := Lib.hid (HL3.out.kept k4)
 clear k4
 have ct := HP4.out.turn
 go_wp2_with (first | (refine wpList_load_ps (by rfl) _ rfl _ rfl _ (HP4.out) ?_) | (refine wpList_load_pb (by rfl) _ rfl _ rfl _ (HP4.out) ?_))
 refine (HKg.out _).mono ?_
 rintro e w5 ⟨rfl, k5⟩
 have HK5 := Lib.hid (HK4.out.trans k5)
 have HP5 := Lib.hid (HP4.out.kept k5)
 have HL5 := Lib.hid (HL4.out.kept k5)
 clear k5 ct
 go_wp2_with (first | (refine wpList_load_ps (by rfl) _ rfl _ rfl _ (HP5.out) ?_) | (refine wpList_load_pb (by rfl) _ rfl _ rfl _ (HP5.out) ?_))
 refine (HRm.out _).mono ?_
 rintro e X ⟨v6, rfl, hO6, k6⟩
 obtain ⟨gl, hls, _⟩ := hO6.ls
 obtain ⟨a6, c6, rfl⟩ := hO6.slice
 have HKX := Lib.hid (HK5.out.trans k6)
 have HLX := Lib.hid (HL5.out.kept k6)
 have HLs := Lib.hid hls
 generalize hn : L.length = n at *
 have HN := Lib.hid hn
 clear k6 hO6 hls hn
 go_wp2
 go_loopw [6, 29] (fun t6 t29 wr => ∃ k : Nat, k ≤ n ∧ t29 = .int .i64 k ∧ OwnZ wr X.heap.size t6 (goP L kI k) ∧ Kept X wr) (fun _ t29 _ => n - (intOf t29).toNat)
 case atStart => exact ⟨0, Nat.zero_le _, rfl, OwnZ.nil _ _, Kept.refl _⟩
 case round =>
  obtain ⟨k, hk, rfl, hown, hK⟩ := hrel
  obtain ⟨a7, c7, rfl⟩ := hown.slice
  have HK := Lib.hid hK
  have HO := Lib.hid hown
  have HLn := Lib.hid (goP_long L kI k)
  clear hown
  by_cases hlt : k < n
  ·have hlt' : (k : Int) < (n : Int) := by omega
   obtain ⟨x, hx⟩ : ∃ x, L[k]? = some x := ⟨_, List.getElem?_eq_getElem (by have := HN.out; omega)⟩
   obtain ⟨off, cap, he, hc1, hc2, h3⟩ := HLs.out.full (by have := HN.out; omega)
   rw [HN.out] at he
   injection he with he1 he2 he3
   subst he1 he3
   rw [HN.out] at hc1
   unfold maxLen at hc2
   have HX := Lib.hid hx
   have HRx := Lib.hid (range_i (range_kept h3 hK) hx)
   have KB0 := Lib.hid ((Kept.refl wr).alloc (.cells (ml x).toArray 36))
   have HMb := Lib.hid (MAt.new wr x)
   have HKb := Lib.hid (hK.trans KB0.out)
   have HOb := Lib.hid (HO.out.kept KB0.out)
   have y1 := HMb.out.f
   have y2 := HMb.out.t
   clear h3 hx hK
   cases hb : (x.f == kI)
   ·have HY := Lib.hid (goP_no HX.out hb)
    generalize (goP L kI k).length = N at *
    go_wp2_with (first | ((with_reducible refine wpList_load_mvo rfl _ rfl gl (off + k * 3) ?_ x HRx.out ?_); exact rfl) | (with_reducible refine wpList_new_mv rfl rfl ?_) | ((with_reducible refine wpList_store_newmv rfl _ _ rfl Zm x ?_ ?_ ?_); exact rfl; exact rfl))
    go_roundw
    case rel => exact ⟨k + 1, by omega, by go_num, by rw [HY.out]; exact HOb.out, HKb.out⟩
    case measure => simp [intOf]; omega
   ·have HY := Lib.hid (goP_yes HX.out hb)
    have HA := Lib.hid (HKb.out.alloc (.cells #[.int .i64 x.t] 3))
    have HOA := Lib.hid (HOb.out.kept ((Kept.refl _).alloc (.cells #[.int .i64 x.t] 3)))
    have hsz : (wr.alloc (.cells (ml x).toArray 36)).heap.size = wr.heap.size + 1 := by simp
    have HLz := Lib.hid (LsZ.lit (wr.alloc (.cells (ml x).toArray 36)) [x.t] (by simp))
    generalize hNn : (goP L kI k).length = N at *
    have HNn := Lib.hid hNn
    clear hNn
    go_wp2_with (first | ((with_reducible refine wpList_load_mvo rfl _ rfl gl (off + k * 3) ?_ x HRx.out ?_); exact rfl) | (with_reducible refine wpList_new_mv rfl rfl ?_) | ((with_reducible refine wpList_store_newmv rfl _ _ rfl Zm x ?_ ?_ ?_); exact rfl; exact rfl) | (at_builtin; refine wpList_append_z rfl _ _ rfl X.heap.size (wr.heap.size + 1) _ _ (goP L kI k) [x.t] rfl rfl HOA.out (by rw [← hsz]; exact HLz.out) ?c1 ?c2 ?_))
    case c1 => have := HLl.out; have := HN.out; have := HLn.out; have := HNn.out; simp; omega
    case c2 => have := HA.out.size; simpa using this
    intro v' w4 hown' hg
    have HK4 := Lib.hid (HOA.out.grown HA.out (Nat.le_refl _) hg)
    rw [← HY.out] at hown'
    obtain ⟨a', cap', rfl⟩ := hown'.slice
    have HO4 := Lib.hid hown'
    clear hown' hg y1 y2 hsz HLz hb
    generalize (goP L kI (k + 1)).length = N2 at *
    go_wp2
    go_roundw
    case rel => exact ⟨k + 1, by omega, by go_num, HO4.out, HK4.out⟩
    case measure => simp [intOf]; omega
  ·clear hK
   obtain rfl : k = n := by omega
   have hEq : goP L kI k = Fl := HEnd.out
   obtain ⟨gz, hlz, _⟩ := HO.out.ls
   rw [hEq] at hlz
   have HSm := Lib.hid (sameZ_yes g3 gz _ _ Fl wr (HLX.out.kept HK.out) hlz)
   rw [hEq]
   clear hlz hEq
   generalize Fl.length = N at *
   go_wp2_with fail
   refine HSm.out.mono ?_
   rintro e w9 ⟨rfl, k9⟩
   have HK9 := Lib.hid ((HKX.out.trans HK.out).trans k9)
   clear k9
   go_wp2
   go_ret
   exact ⟨rfl, HK9.out⟩
theorem walkLegalFlights (p : Ps) (hB : Brd p.B) (w : World) (hT : TabG w) :
  Calls Tryz.prog 6 #[.agg (pl p).toArray] w fun e w' => e = .returned (.bool true) ∧ Kept w w' := by
 by_cases h : pwI p = 0
 ·exact flights_in p hB h w hT
 ·exact flights_not p hB h w hT
end Go.Proofs.YtfekipadkenhpaaGreatDoor
