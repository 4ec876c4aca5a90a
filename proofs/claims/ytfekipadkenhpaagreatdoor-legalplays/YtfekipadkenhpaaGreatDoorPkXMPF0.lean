/- RaM · RaW · RaY · PoA · PoL · MvI · MvJ: my texts, in their order. -/
import Derived.Test.YtfekipadkenhpaaGreatDoorPkXMPRFT0
import Derived.Test.YtfekipadkenhpaaGreatDoorPkA
import Derived.Test.YtfekipadkenhpaaGreatDoorPkB
import Derived.Test.YtfekipadkenhpaaGreatDoorPkC
import Derived.Test.YtfekipadkenhpaaGreatDoorPkD
import Derived.Test.YtfekipadkenhpaaGreatDoorPkE
import Derived.Test.YtfekipadkenhpaaGreatDoorPkF
import Derived.Test.YtfekipadkenhpaaGreatDoorPkH
import Derived.Test.YtfekipadkenhpaaGreatDoorPkI
import Derived.Test.YtfekipadkenhpaaGreatDoorPkJ
import Derived.Test.YtfekipadkenhpaaGreatDoorPkK
import Derived.Test.YtfekipadkenhpaaGreatDoorPkL
import Derived.Laws.StructEq
namespace Go.Proofs.YtfekipadkenhpaaGreatDoor
set_option linter.unusedVariables false
set_option linter.unusedSimpArgs false
theorem alongL_len (way : Nat) (s : Int) : (alongL way s).length ≤ 8 := by
 have := rayL_len s (wayF way) (wayR way)
 unfold alongL
 split
 ·rw [List.length_take]; omega
 ·exact this
end Go.Proofs.YtfekipadkenhpaaGreatDoor
namespace Go.Proofs.YtfekipadkenhpaaGreatDoor
open Go.RowKit
set_option linter.unusedVariables false
set_option linter.unusedSimpArgs false
theorem cutL_len (m : Int) (way : Nat) (s : Int) : (cutL m (alongL way s)).length ≤ 8 := by
 have := alongL_len way s
 unfold cutL
 split
 ·exact this
 ·rw [List.length_take]; omega
theorem ofL_pos {m s : Int} {l : List Int} (h : l ∈ ofL m s) : 0 < l.length ∧ l.length ≤ 8 := by
 unfold ofL ofN at h
 obtain ⟨w, _, hw⟩ := List.mem_flatMap.1 h
 unfold oneL at hw
 split at hw
 ·cases hw
 ·simp at hw
  subst hw
  exact ⟨by omega, cutL_len m w s⟩
theorem built_pos3 (B : List Int) (hB : B.length = 64) (t e : Int) : Tryz.prog.built 26 [(0, .agg (cl B).toArray), (1, .int .i64 t), (3, .int .i64 e)] = some (pl ⟨B, t, 0, e⟩).toArray := by
 rw [built_fill, fill_board _ B hB _ rfl]
 unfold pl tlP
 rw [fill_int _ B hB _ 1 0 t (by simp) _ rfl, fill_int _ B hB _ 3 2 e (by simp) _ rfl]
 rfl
theorem wpList_built_p3 {ops : Array Oper} {rest : List Oper} {o : Oper} {a : Act} {w : World} {Q : Exit → Act → World → Prop} (hg : o.guard = none) (x0 x1 x3 : Operand) (ho : o.op = .build 26 #[(0, x0), (1, x1), (3, x3)])
  (B : List Int) (t e : Int) (hB : B.length = 64) (h0 : a.eval x0 = .agg (cl B).toArray) (h1 : a.eval x1 = .int .i64 t) (h3 : a.eval x3 = .int .i64 e)
  (h : wpList Tryz.prog ops Q rest (a.put o.dst (.agg (pl ⟨B, t, 0, e⟩).toArray)) w) : wpList Tryz.prog ops Q (o :: rest) a w :=
 wpList_built hg _ _ ho _ (by
  have : ((#[(0, x0), (1, x1), (3, x3)] : Array (Nat × Operand)).map fun (i, x) => (i, a.eval x)).toList = [(0, .agg (cl B).toArray), (1, .int .i64 t), (3, .int .i64 e)] := by simp [h0, h1, h3]
  rw [this]; exact built_pos3 B hB t e) h
set_option maxRecDepth 100000
theorem rfile_k (s : Int) (w : World) (h0 : 0 ≤ s) (h1 : s < 64) : Calls Tryz.prog 85 #[.int .i64 s] w fun e w' => e = .returned (.int .i64 (s % 8)) ∧ Kept w w' :=
 (rfile_yes s w h0 h1).mono fun _ _ ⟨a, b⟩ => ⟨a, b ▸ Kept.refl _⟩
theorem rrank_k (s : Int) (w : World) (h0 : 0 ≤ s) (h1 : s < 64) : Calls Tryz.prog 86 #[.int .i64 s] w fun e w' => e = .returned (.int .i64 (s / 8)) ∧ Kept w w' :=
 (rrank_yes s w h0 h1).mono fun _ _ ⟨a, b⟩ => ⟨a, b ▸ Kept.refl _⟩
theorem rpawn_is (B : List Int) (hB : Brd B) (k : Nat) (hk : k < 64) (w : World) : Calls Tryz.prog 51 #[.agg (cl B).toArray, .int .i64 (k : Int)] w fun e w' => e = .returned (.bool (kindI (B.getD k 0) == 1)) ∧ Kept w w' := by
 have c := cell_cl hB.1 (heap_alloc_new w (.cells (cl B).toArray 24)) k hk
 have HV := Lib.hid (kindI_one (B.getD k 0))
 generalize B.getD k 0 = x at *
 have hkI : (k : Int) < 64 := by omega
 clear hB
 cases h1 : (x == 1)
 ·rw [h1] at HV
  go_enter Tryz.func51, Tryz.ntmps51
  go_wp2
  go_ret
  exact ⟨by rw [HV.out]; rfl, (Kept.refl _).alloc _⟩
 ·rw [h1] at HV
  go_enter Tryz.func51, Tryz.ntmps51
  go_wp2
  go_ret
  exact ⟨by rw [HV.out]; rfl, (Kept.refl _).alloc _⟩
theorem free_0 (B : List Int) : freeB B 0 = ((B.getD 5 0 == 0) && (B.getD 6 0 == 0)) := by
 rw [Bool.eq_iff_iff, free_iff]
 simp only [Bool.and_eq_true, beq_iff_eq]
 constructor
 ·intro h; exact ⟨h 5 (by omega) (by decide) (by decide), h 6 (by omega) (by decide) (by decide)⟩
 ·rintro ⟨a, b⟩ s _ h1 h2
  have h1' : 5 ≤ s := h1
  have h2' : s < 7 := h2
  have : s = 5 ∨ s = 6 := by omega
  rcases this with rfl | rfl <;> assumption
theorem rclear_0 (B : List Int) (hB : Brd B) (w : World) : Calls Tryz.prog 88 #[.agg (cl B).toArray, .int .i64 1] w fun e w' => e = .returned (.bool (freeB B 0)) ∧ Kept w w' := by
 have c5 := cell_cl hB.1 (heap_alloc_new w (.cells (cl B).toArray 24)) 5 (by omega)
 have c6 := cell_cl hB.1 (heap_alloc_new w (.cells (cl B).toArray 24)) 6 (by omega)
 have HV := Lib.hid (free_0 B)
 clear hB
 generalize B.getD 5 0 = x5 at *
 generalize B.getD 6 0 = x6 at *
 cases h1 : (x5 == 0)
 ·rw [h1] at HV
  go_enter Tryz.func88, Tryz.ntmps88
  go_wp2
  go_ret
  exact ⟨by rw [HV.out]; rfl, (Kept.refl _).alloc _⟩
 ·rw [h1] at HV
  go_enter Tryz.func88, Tryz.ntmps88
  go_wp2
  go_ret
  exact ⟨by rw [HV.out]; rfl, (Kept.refl _).alloc _⟩
theorem free_1 (B : List Int) : freeB B 1 = (((B.getD 1 0 == 0) && (B.getD 2 0 == 0)) && (B.getD 3 0 == 0)) := by
 rw [Bool.eq_iff_iff, free_iff]
 simp only [Bool.and_eq_true, beq_iff_eq]
 constructor
 ·intro h; exact ⟨⟨h 1 (by omega) (by decide) (by decide), h 2 (by omega) (by decide) (by decide)⟩, h 3 (by omega) (by decide) (by decide)⟩
 ·rintro ⟨⟨a, b⟩, c⟩ s _ h1 h2
  have h1' : 1 ≤ s := h1
  have h2' : s < 4 := h2
  have : s = 1 ∨ s = 2 ∨ s = 3 := by omega
  rcases this with rfl | rfl | rfl <;> assumption
theorem rclear_1 (B : List Int) (hB : Brd B) (w : World) : Calls Tryz.prog 88 #[.agg (cl B).toArray, .int .i64 2] w fun e w' => e = .returned (.bool (freeB B 1)) ∧ Kept w w' := by
 have c1 := cell_cl hB.1 (heap_alloc_new w (.cells (cl B).toArray 24)) 1 (by omega)
 have c2 := cell_cl hB.1 (heap_alloc_new w (.cells (cl B).toArray 24)) 2 (by omega)
 have c3 := cell_cl hB.1 (heap_alloc_new w (.cells (cl B).toArray 24)) 3 (by omega)
 have HV := Lib.hid (free_1 B)
 clear hB
 generalize B.getD 1 0 = x1 at *
 generalize B.getD 2 0 = x2 at *
 generalize B.getD 3 0 = x3 at *
 cases h1 : (x1 == 0)
 ·rw [h1] at HV
  go_enter Tryz.func88, Tryz.ntmps88
  go_wp2
  go_ret
  exact ⟨by rw [HV.out]; rfl, (Kept.refl _).alloc _⟩
 ·rw [h1] at HV
  cases h2 : (x2 == 0)
  ·rw [h2] at HV
   go_enter Tryz.func88, Tryz.ntmps88
   go_wp2
   go_ret
   exact ⟨by rw [HV.out]; rfl, (Kept.refl _).alloc _⟩
  ·rw [h2] at HV
   go_enter Tryz.func88, Tryz.ntmps88
   go_wp2
   go_ret
   exact ⟨by rw [HV.out]; rfl, (Kept.refl _).alloc _⟩
theorem free_2 (B : List Int) : freeB B 2 = ((B.getD 61 0 == 0) && (B.getD 62 0 == 0)) := by
 rw [Bool.eq_iff_iff, free_iff]
 simp only [Bool.and_eq_true, beq_iff_eq]
 constructor
 ·intro h; exact ⟨h 61 (by omega) (by decide) (by decide), h 62 (by omega) (by decide) (by decide)⟩
 ·rintro ⟨a, b⟩ s _ h1 h2
  have h1' : 61 ≤ s := h1
  have h2' : s < 63 := h2
  have : s = 61 ∨ s = 62 := by omega
  rcases this with rfl | rfl <;> assumption
theorem rclear_2 (B : List Int) (hB : Brd B) (w : World) : Calls Tryz.prog 88 #[.agg (cl B).toArray, .int .i64 4] w fun e w' => e = .returned (.bool (freeB B 2)) ∧ Kept w w' := by
 have c61 := cell_cl hB.1 (heap_alloc_new w (.cells (cl B).toArray 24)) 61 (by omega)
 have c62 := cell_cl hB.1 (heap_alloc_new w (.cells (cl B).toArray 24)) 62 (by omega)
 have HV := Lib.hid (free_2 B)
 clear hB
 generalize B.getD 61 0 = x61 at *
 generalize B.getD 62 0 = x62 at *
 cases h1 : (x61 == 0)
 ·rw [h1] at HV
  go_enter Tryz.func88, Tryz.ntmps88
  go_wp2
  go_ret
  exact ⟨by rw [HV.out]; rfl, (Kept.refl _).alloc _⟩
 ·rw [h1] at HV
  go_enter Tryz.func88, Tryz.ntmps88
  go_wp2
  go_ret
  exact ⟨by rw [HV.out]; rfl, (Kept.refl _).alloc _⟩
theorem free_3 (B : List Int) : freeB B 3 = (((B.getD 57 0 == 0) && (B.getD 58 0 == 0)) && (B.getD 59 0 == 0)) := by
 rw [Bool.eq_iff_iff, free_iff]
 simp only [Bool.and_eq_true, beq_iff_eq]
 constructor
 ·intro h; exact ⟨⟨h 57 (by omega) (by decide) (by decide), h 58 (by omega) (by decide) (by decide)⟩, h 59 (by omega) (by decide) (by decide)⟩
 ·rintro ⟨⟨a, b⟩, c⟩ s _ h1 h2
  have h1' : 57 ≤ s := h1
  have h2' : s < 60 := h2
  have : s = 57 ∨ s = 58 ∨ s = 59 := by omega
  rcases this with rfl | rfl | rfl <;> assumption
theorem rclear_3 (B : List Int) (hB : Brd B) (w : World) : Calls Tryz.prog 88 #[.agg (cl B).toArray, .int .i64 8] w fun e w' => e = .returned (.bool (freeB B 3)) ∧ Kept w w' := by
 have c57 := cell_cl hB.1 (heap_alloc_new w (.cells (cl B).toArray 24)) 57 (by omega)
 have c58 := cell_cl hB.1 (heap_alloc_new w (.cells (cl B).toArray 24)) 58 (by omega)
 have c59 := cell_cl hB.1 (heap_alloc_new w (.cells (cl B).toArray 24)) 59 (by omega)
 have HV := Lib.hid (free_3 B)
 clear hB
 generalize B.getD 57 0 = x57 at *
 generalize B.getD 58 0 = x58 at *
 generalize B.getD 59 0 = x59 at *
 cases h1 : (x57 == 0)
 ·rw [h1] at HV
  go_enter Tryz.func88, Tryz.ntmps88
  go_wp2
  go_ret
  exact ⟨by rw [HV.out]; rfl, (Kept.refl _).alloc _⟩
 ·rw [h1] at HV
  cases h2 : (x58 == 0)
  ·rw [h2] at HV
   go_enter Tryz.func88, Tryz.ntmps88
   go_wp2
   go_ret
   exact ⟨by rw [HV.out]; rfl, (Kept.refl _).alloc _⟩
  ·rw [h2] at HV
   go_enter Tryz.func88, Tryz.ntmps88
   go_wp2
   go_ret
   exact ⟨by rw [HV.out]; rfl, (Kept.refl _).alloc _⟩
theorem rclear_is (B : List Int) (hB : Brd B) (k : Nat) (hk : k < 4) (w : World) : Calls Tryz.prog 88 #[.agg (cl B).toArray, .int .i64 (hR k)] w fun e w' => e = .returned (.bool (freeB B k)) ∧ Kept w w' := by
 have : k = 0 ∨ k = 1 ∨ k = 2 ∨ k = 3 := by omega
 rcases this with rfl | rfl | rfl | rfl
 ·exact rclear_0 B hB w
 ·exact rclear_1 B hB w
 ·exact rclear_2 B hB w
 ·exact rclear_3 B hB w
/-- The rights that go with a square, summed up. -/
def lostI (s : Int) : Int := if s = 0 then 2 else if s = 4 then 3 else if s = 7 then 1 else if s = 56 then 8 else if s = 60 then 12 else if s = 63 then 4 else 0
theorem lost_is (s : Int) (w : World) : Calls Tryz.prog 50 #[.int .i64 s] w fun e w' => e = .returned (.int .i64 (lostI s)) ∧ Kept w w' := by
 by_cases h0 : s = 0
 ·have HV : Hid (lostI s = 2) := by show _ = _; unfold lostI; rw [if_pos h0]
  have b0 : (s == 0) = true := beq_iff_eq.2 h0
  clear h0
  go_enter Tryz.func50, Tryz.ntmps50
  go_wp2
  go_ret
  exact ⟨by rw [HV.out]; rfl, Kept.refl _⟩
 ·have b0 : (s == 0) = false := beq_eq_false_iff_ne.2 h0
  by_cases h1 : s = 4
  ·have HV : Hid (lostI s = 3) := by show _ = _; unfold lostI; rw [if_neg h0, if_pos h1]
   have b1 : (s == 4) = true := beq_iff_eq.2 h1
   clear h0 h1
   go_enter Tryz.func50, Tryz.ntmps50
   go_wp2
   go_ret
   exact ⟨by rw [HV.out]; rfl, Kept.refl _⟩
  ·have b1 : (s == 4) = false := beq_eq_false_iff_ne.2 h1
   by_cases h2 : s = 7
   ·have HV : Hid (lostI s = 1) := by show _ = _; unfold lostI; rw [if_neg h0, if_neg h1, if_pos h2]
    have b2 : (s == 7) = true := beq_iff_eq.2 h2
    clear h0 h1 h2
    go_enter Tryz.func50, Tryz.ntmps50
    go_wp2
    go_ret
    exact ⟨by rw [HV.out]; rfl, Kept.refl _⟩
   ·have b2 : (s == 7) = false := beq_eq_false_iff_ne.2 h2
    by_cases h3 : s = 56
    ·have HV : Hid (lostI s = 8) := by show _ = _; unfold lostI; rw [if_neg h0, if_neg h1, if_neg h2, if_pos h3]
     have b3 : (s == 56) = true := beq_iff_eq.2 h3
     clear h0 h1 h2 h3
     go_enter Tryz.func50, Tryz.ntmps50
     go_wp2
     go_ret
     exact ⟨by rw [HV.out]; rfl, Kept.refl _⟩
    ·have b3 : (s == 56) = false := beq_eq_false_iff_ne.2 h3
     by_cases h4 : s = 60
     ·have HV : Hid (lostI s = 12) := by show _ = _; unfold lostI; rw [if_neg h0, if_neg h1, if_neg h2, if_neg h3, if_pos h4]
      have b4 : (s == 60) = true := beq_iff_eq.2 h4
      clear h0 h1 h2 h3 h4
      go_enter Tryz.func50, Tryz.ntmps50
      go_wp2
      go_ret
      exact ⟨by rw [HV.out]; rfl, Kept.refl _⟩
     ·have b4 : (s == 60) = false := beq_eq_false_iff_ne.2 h4
      by_cases h5 : s = 63
      ·have HV : Hid (lostI s = 4) := by show _ = _; unfold lostI; rw [if_neg h0, if_neg h1, if_neg h2, if_neg h3, if_neg h4, if_pos h5]
       have b5 : (s == 63) = true := beq_iff_eq.2 h5
       clear h0 h1 h2 h3 h4 h5
       go_enter Tryz.func50, Tryz.ntmps50
       go_wp2
       go_ret
       exact ⟨by rw [HV.out]; rfl, Kept.refl _⟩
      ·have b5 : (s == 63) = false := beq_eq_false_iff_ne.2 h5
       have HV : Hid (lostI s = 0) := by show _ = _; unfold lostI; rw [if_neg h0, if_neg h1, if_neg h2, if_neg h3, if_neg h4, if_neg h5]
       clear h0 h1 h2 h3 h4 h5
       go_enter Tryz.func50, Tryz.ntmps50
       go_wp2
       go_ret
       exact ⟨by rw [HV.out]; rfl, Kept.refl _⟩
set_option maxHeartbeats 2000000 in
theorem rtakes0 (p : Ps) (hB : Brd p.B) (m : Mv) (f t : Nat) (hf : m.f = f) (ht : m.t = t) (f1 : f < 64) (t1 : t < 64) (h0 : bAt p.B m.t ≠ 0) (w : World) :
  Calls Tryz.prog 48 #[.agg (pl p).toArray, .agg (ml m).toArray] w fun e w' => e = .returned (.int .i64 (takeI p m)) ∧ Kept w w' := by
 have HP : Hid (PAt _ _ p) := ⟨hB.1, heap_alloc2_old w (.cells (pl p).toArray 26) (.cells (ml m).toArray 36)⟩
 have HM : Hid (MAt _ _ m) := ⟨heap_alloc2_new w (.cells (pl p).toArray 26) (.cells (ml m).toArray 36)⟩
 have HK0 := Lib.hid (((Kept.refl w).alloc (.cells (pl p).toArray 26)).alloc (.cells (ml m).toArray 36))
 have hpl : Hid (p.B.length = 64) := hB.1
 have xt := HM.out.t
 rw [ht] at xt
 have hct := Lib.hid xt
 have xf := HM.out.f
 rw [hf] at xf
 have hcf := Lib.hid xf
 clear xf
 have ct := HP.out.sq t t1
 have eb : bAt p.B m.t = p.B.getD t 0 := by unfold bAt; rw [ht, Int.toNat_natCast]
 have ep : pawnB p m = (kindI (p.B.getD f 0) == 1) := by unfold pawnB bAt; rw [hf, Int.toNat_natCast]
 have HPw := Lib.hid (rpawn_is p.B hB f f1)
 have HF1 := Lib.hid (fun w => rfile_k (f : Int) w (by omega) (by omega))
 have HF2 := Lib.hid (fun w => rfile_k (t : Int) w (by omega) (by omega))
 have HPs := Lib.hid (rpassed_is p hB)
 have htI : (t : Int) < 64 := by omega
 have HV : Hid (takeI p m = t) := by show _ = _; unfold takeI; rw [if_pos h0, ht]
 rw [eb] at h0
 have hb : (p.B.getD t 0 != 0) = true := bne_iff_ne.2 h0
 generalize p.B.getD t 0 = x at *
 clear h0 eb ep
 clear hB hf ht
 go_enter Tryz.func48, Tryz.ntmps48
 go_wp2
 go_ret
 exact ⟨by rw [HV.out]; rfl, HK0.out⟩
set_option maxHeartbeats 2000000 in
theorem rtakes1 (p : Ps) (hB : Brd p.B) (m : Mv) (f t : Nat) (hf : m.f = f) (ht : m.t = t) (f1 : f < 64) (t1 : t < 64) (h0 : bAt p.B m.t = 0) (h1 : pawnB p m = false) (w : World) :
  Calls Tryz.prog 48 #[.agg (pl p).toArray, .agg (ml m).toArray] w fun e w' => e = .returned (.int .i64 (takeI p m)) ∧ Kept w w' := by
 have HP : Hid (PAt _ _ p) := ⟨hB.1, heap_alloc2_old w (.cells (pl p).toArray 26) (.cells (ml m).toArray 36)⟩
 have HM : Hid (MAt _ _ m) := ⟨heap_alloc2_new w (.cells (pl p).toArray 26) (.cells (ml m).toArray 36)⟩
 have HK0 := Lib.hid (((Kept.refl w).alloc (.cells (pl p).toArray 26)).alloc (.cells (ml m).toArray 36))
 have hpl : Hid (p.B.length = 64) := hB.1
 have xt := HM.out.t
 rw [ht] at xt
 have hct := Lib.hid xt
 have xf := HM.out.f
 rw [hf] at xf
 have hcf := Lib.hid xf
 clear xf
 have ct := HP.out.sq t t1
 have eb : bAt p.B m.t = p.B.getD t 0 := by unfold bAt; rw [ht, Int.toNat_natCast]
 have ep : pawnB p m = (kindI (p.B.getD f 0) == 1) := by unfold pawnB bAt; rw [hf, Int.toNat_natCast]
 have HPw := Lib.hid (rpawn_is p.B hB f f1)
 have HF1 := Lib.hid (fun w => rfile_k (f : Int) w (by omega) (by omega))
 have HF2 := Lib.hid (fun w => rfile_k (t : Int) w (by omega) (by omega))
 have HPs := Lib.hid (rpassed_is p hB)
 have htI : (t : Int) < 64 := by omega
 have HV : Hid (takeI p m = -1) := by show _ = _; unfold takeI epTake; rw [if_neg (by simpa using h0), if_neg (by simp [h1])]
 rw [eb] at h0
 rw [h0] at ct
 rw [h1] at ep
 rw [← ep] at HPw
 clear h0 eb ep h1
 clear hB hf ht
 go_enter Tryz.func48, Tryz.ntmps48
 go_wp2
 clear ct xt
 generalize (w.alloc (.cells (pl p).toArray 26)).alloc (.cells (ml m).toArray 36) = W at *
 refine wp_region_held_drew (S := Kept _) (by kernel_rfl) (Kept.refl _).drew (fun hHeld => ?_)
 refine rT 0 13 (.pointer (some ⟨w.heap.size, 0, none⟩)) rfl rfl hHeld ?_
 simp only [pA, pN, sZ, sU]
 refine rY 1 14 rfl rfl (take_load_pb (by rfl) _ rfl _ rfl p hpl.out (fun _ h => (HP.out).kept h)) hHeld ?_
 simp only [pA, pN, sZ, sU]
 refine rT 2 15 (.pointer (some ⟨w.heap.size + 1, 0, none⟩)) rfl rfl hHeld ?_
 simp only [pA, pN, sZ, sU]
 refine rC 3 16 (.int .i64 ↑f) rfl rfl (fun _ h => kept_cell h (hcf.out)) hHeld ?_
 simp only [pA, pN, sZ, sU]
 refine rR 4 rfl (fun K hK => ?_)
 go_simp
 refine (HPw.out _).mono ?_
 rintro e w2 ⟨rfl, gw2⟩
 refine hK.out _ _ (hHeld.trans gw2) (fun _ => ?_)
 replace hHeld := hHeld.trans gw2
 clear hK K
 refine rT 5 18 (.bool false) rfl rfl hHeld ?_
 simp only [pA, pN, sZ, sU]
 refine rN 6 19 rfl rfl hHeld ?_
 simp only [pA, pN, sZ, sU]
 refine rN 7 20 rfl rfl hHeld ?_
 simp only [pA, pN, sZ, sU]
 refine rN 8 21 rfl rfl hHeld ?_
 simp only [pA, pN, sZ, sU]
 refine rT 9 22 (.bool false) rfl rfl hHeld ?_
 simp only [pA, pN, sZ, sU]
 refine rT 10 23 (.bool false) rfl rfl hHeld ?_
 simp only [pA, pN, sZ, sU]
 refine rN 11 24 rfl rfl hHeld ?_
 simp only [pA, pN, sZ, sU]
 refine rN 12 25 rfl rfl hHeld ?_
 simp only [pA, pN, sZ, sU]
 refine rN 13 26 rfl rfl hHeld ?_
 simp only [pA, pN, sZ, sU]
 refine rN 14 27 rfl rfl hHeld ?_
 simp only [pA, pN, sZ, sU]
 refine rN 15 28 rfl rfl hHeld ?_
 simp only [pA, pN, sZ, sU]
 refine rT 16 29 (.bool false) rfl rfl hHeld ?_
 simp only [pA, pN, sZ, sU]
 refine rT 17 30 (.bool false) rfl rfl hHeld ?_
 simp only [pA, pN, sZ, sU]
 refine rN 18 31 rfl rfl hHeld ?_
 simp only [pA, pN, sZ, sU]
 refine rN 19 32 rfl rfl hHeld ?_
 simp only [pA, pN, sZ, sU]
 refine rN 20 33 rfl rfl hHeld ?_
 simp only [pA, pN, sZ, sU]
 refine rN 21 34 rfl rfl hHeld ?_
 simp only [pA, pN, sZ, sU]
 refine rN 22 35 rfl rfl hHeld ?_
 simp only [pA, pN, sZ, sU]
 refine rN 23 36 rfl rfl hHeld ?_
 simp only [pA, pN, sZ, sU]
 refine rN 24 37 rfl rfl hHeld ?_
 simp only [pA, pN, sZ, sU]
 refine rT 25 38 (.bool false) rfl rfl hHeld ?_
 simp only [pA, pN, sZ, sU]
 refine wpAnyH_done (by kernel_rfl) ?_ _
 go_wp2
 go_ret
 exact ⟨by rw [HV.out]; rfl, HK0.out.trans hHeld⟩
set_option maxHeartbeats 2000000 in
theorem rtakes2 (p : Ps) (hB : Brd p.B) (m : Mv) (f t : Nat) (hf : m.f = f) (ht : m.t = t) (f1 : f < 64) (t1 : t < 64) (h0 : bAt p.B m.t = 0) (h1 : pawnB p m = true) (he : ¬ 0 ≤ p.e) (w : World) :
  Calls Tryz.prog 48 #[.agg (pl p).toArray, .agg (ml m).toArray] w fun e w' => e = .returned (.int .i64 (takeI p m)) ∧ Kept w w' := by
 have HP : Hid (PAt _ _ p) := ⟨hB.1, heap_alloc2_old w (.cells (pl p).toArray 26) (.cells (ml m).toArray 36)⟩
 have HM : Hid (MAt _ _ m) := ⟨heap_alloc2_new w (.cells (pl p).toArray 26) (.cells (ml m).toArray 36)⟩
 have HK0 := Lib.hid (((Kept.refl w).alloc (.cells (pl p).toArray 26)).alloc (.cells (ml m).toArray 36))
 have hpl : Hid (p.B.length = 64) := hB.1
 have xt := HM.out.t
 rw [ht] at xt
 have hct := Lib.hid xt
 have xf := HM.out.f
 rw [hf] at xf
 have hcf := Lib.hid xf
 clear xf
 have ct := HP.out.sq t t1
 have eb : bAt p.B m.t = p.B.getD t 0 := by unfold bAt; rw [ht, Int.toNat_natCast]
 have ep : pawnB p m = (kindI (p.B.getD f 0) == 1) := by unfold pawnB bAt; rw [hf, Int.toNat_natCast]
 have HPw := Lib.hid (rpawn_is p.B hB f f1)
 have HF1 := Lib.hid (fun w => rfile_k (f : Int) w (by omega) (by omega))
 have HF2 := Lib.hid (fun w => rfile_k (t : Int) w (by omega) (by omega))
 have HPs := Lib.hid (rpassed_is p hB)
 have htI : (t : Int) < 64 := by omega
 have HV : Hid (takeI p m = -1) := by show _ = _; unfold takeI epTake; rw [if_neg (by simpa using h0), if_neg (by simp [show (m.t == p.e) = false from beq_eq_false_iff_ne.2 (by omega)])]
 have he' : decide ((0 : Int) ≤ p.e) = false := decide_eq_false he
 rw [eb] at h0
 rw [h0] at ct
 rw [h1] at ep
 rw [← ep] at HPw
 clear h0 eb ep h1
 clear hB hf ht
 go_enter Tryz.func48, Tryz.ntmps48
 go_wp2
 clear ct xt
 generalize (w.alloc (.cells (pl p).toArray 26)).alloc (.cells (ml m).toArray 36) = W at *
 refine wp_region_held_drew (S := Kept _) (by kernel_rfl) (Kept.refl _).drew (fun hHeld => ?_)
 refine rT 0 13 (.pointer (some ⟨w.heap.size, 0, none⟩)) rfl rfl hHeld ?_
 simp only [pA, pN, sZ, sU]
 refine rY 1 14 rfl rfl (take_load_pb (by rfl) _ rfl _ rfl p hpl.out (fun _ h => (HP.out).kept h)) hHeld ?_
 simp only [pA, pN, sZ, sU]
 refine rT 2 15 (.pointer (some ⟨w.heap.size + 1, 0, none⟩)) rfl rfl hHeld ?_
 simp only [pA, pN, sZ, sU]
 refine rC 3 16 (.int .i64 ↑f) rfl rfl (fun _ h => kept_cell h (hcf.out)) hHeld ?_
 simp only [pA, pN, sZ, sU]
 refine rR 4 rfl (fun K hK => ?_)
 go_simp
 refine (HPw.out _).mono ?_
 rintro e w2 ⟨rfl, gw2⟩
 refine hK.out _ _ (hHeld.trans gw2) (fun _ => ?_)
 replace hHeld := hHeld.trans gw2
 clear hK K
 refine rT 5 18 (.bool true) rfl rfl hHeld ?_
 simp only [pA, pN, sZ, sU]
 refine rT 6 19 (.pointer (some ⟨w.heap.size, 66, none⟩)) rfl rfl hHeld ?_
 simp only [pA, pN, sZ, sU]
 refine rC 7 20 (.int .i64 p.e) rfl rfl (fun _ h => kept_cell h (HP.out.ep)) hHeld ?_
 simp only [pA, pN, sZ, sU]
 refine rT 8 21 (.bool false) rfl rfl hHeld ?_
 simp only [pA, pN, sZ, sU]
 refine rT 9 22 (.bool false) rfl rfl hHeld ?_
 simp only [pA, pN, sZ, sU]
 refine rT 10 23 (.bool false) rfl rfl hHeld ?_
 simp only [pA, pN, sZ, sU]
 refine rN 11 24 rfl rfl hHeld ?_
 simp only [pA, pN, sZ, sU]
 refine rN 12 25 rfl rfl hHeld ?_
 simp only [pA, pN, sZ, sU]
 refine rN 13 26 rfl rfl hHeld ?_
 simp only [pA, pN, sZ, sU]
 refine rN 14 27 rfl rfl hHeld ?_
 simp only [pA, pN, sZ, sU]
 refine rN 15 28 rfl rfl hHeld ?_
 simp only [pA, pN, sZ, sU]
 refine rT 16 29 (.bool false) rfl rfl hHeld ?_
 simp only [pA, pN, sZ, sU]
 refine rT 17 30 (.bool false) rfl rfl hHeld ?_
 simp only [pA, pN, sZ, sU]
 refine rN 18 31 rfl rfl hHeld ?_
 simp only [pA, pN, sZ, sU]
 refine rN 19 32 rfl rfl hHeld ?_
 simp only [pA, pN, sZ, sU]
 refine rN 20 33 rfl rfl hHeld ?_
 simp only [pA, pN, sZ, sU]
 refine rN 21 34 rfl rfl hHeld ?_
 simp only [pA, pN, sZ, sU]
 refine rN 22 35 rfl rfl hHeld ?_
 simp only [pA, pN, sZ, sU]
 refine rN 23 36 rfl rfl hHeld ?_
 simp only [pA, pN, sZ, sU]
 refine rN 24 37 rfl rfl hHeld ?_
 simp only [pA, pN, sZ, sU]
 refine rT 25 38 (.bool false) rfl rfl hHeld ?_
 simp only [pA, pN, sZ, sU]
 refine wpAnyH_done (by kernel_rfl) ?_ _
 go_wp2
 go_ret
 exact ⟨by rw [HV.out]; rfl, HK0.out.trans hHeld⟩
set_option maxHeartbeats 2000000 in
theorem rtakes3 (p : Ps) (hB : Brd p.B) (m : Mv) (f t : Nat) (hf : m.f = f) (ht : m.t = t) (f1 : f < 64) (t1 : t < 64) (h0 : bAt p.B m.t = 0) (h1 : pawnB p m = true) (he : 0 ≤ p.e) (h2 : (m.t == p.e) = false) (w : World) :
  Calls Tryz.prog 48 #[.agg (pl p).toArray, .agg (ml m).toArray] w fun e w' => e = .returned (.int .i64 (takeI p m)) ∧ Kept w w' := by
 have HP : Hid (PAt _ _ p) := ⟨hB.1, heap_alloc2_old w (.cells (pl p).toArray 26) (.cells (ml m).toArray 36)⟩
 have HM : Hid (MAt _ _ m) := ⟨heap_alloc2_new w (.cells (pl p).toArray 26) (.cells (ml m).toArray 36)⟩
 have HK0 := Lib.hid (((Kept.refl w).alloc (.cells (pl p).toArray 26)).alloc (.cells (ml m).toArray 36))
 have hpl : Hid (p.B.length = 64) := hB.1
 have xt := HM.out.t
 rw [ht] at xt
 have hct := Lib.hid xt
 have xf := HM.out.f
 rw [hf] at xf
 have hcf := Lib.hid xf
 clear xf
 have ct := HP.out.sq t t1
 have eb : bAt p.B m.t = p.B.getD t 0 := by unfold bAt; rw [ht, Int.toNat_natCast]
 have ep : pawnB p m = (kindI (p.B.getD f 0) == 1) := by unfold pawnB bAt; rw [hf, Int.toNat_natCast]
 have HPw := Lib.hid (rpawn_is p.B hB f f1)
 have HF1 := Lib.hid (fun w => rfile_k (f : Int) w (by omega) (by omega))
 have HF2 := Lib.hid (fun w => rfile_k (t : Int) w (by omega) (by omega))
 have HPs := Lib.hid (rpassed_is p hB)
 have htI : (t : Int) < 64 := by omega
 have HV : Hid (takeI p m = -1) := by show _ = _; unfold takeI epTake; rw [if_neg (by simpa using h0), if_neg (by simp [h2])]
 have he' : decide ((0 : Int) ≤ p.e) = true := decide_eq_true he
 rw [ht] at h2
 rw [eb] at h0
 rw [h0] at ct
 rw [h1] at ep
 rw [← ep] at HPw
 clear h0 eb ep h1
 clear hB hf ht
 go_enter Tryz.func48, Tryz.ntmps48
 go_wp2
 clear ct xt
 generalize (w.alloc (.cells (pl p).toArray 26)).alloc (.cells (ml m).toArray 36) = W at *
 refine wp_region_held_drew (S := Kept _) (by kernel_rfl) (Kept.refl _).drew (fun hHeld => ?_)
 refine rT 0 13 (.pointer (some ⟨w.heap.size, 0, none⟩)) rfl rfl hHeld ?_
 simp only [pA, pN, sZ, sU]
 refine rY 1 14 rfl rfl (take_load_pb (by rfl) _ rfl _ rfl p hpl.out (fun _ h => (HP.out).kept h)) hHeld ?_
 simp only [pA, pN, sZ, sU]
 refine rT 2 15 (.pointer (some ⟨w.heap.size + 1, 0, none⟩)) rfl rfl hHeld ?_
 simp only [pA, pN, sZ, sU]
 refine rC 3 16 (.int .i64 ↑f) rfl rfl (fun _ h => kept_cell h (hcf.out)) hHeld ?_
 simp only [pA, pN, sZ, sU]
 refine rR 4 rfl (fun K hK => ?_)
 go_simp
 refine (HPw.out _).mono ?_
 rintro e w2 ⟨rfl, gw2⟩
 refine hK.out _ _ (hHeld.trans gw2) (fun _ => ?_)
 replace hHeld := hHeld.trans gw2
 clear hK K
 refine rT 5 18 (.bool true) rfl rfl hHeld ?_
 simp only [pA, pN, sZ, sU]
 refine rT 6 19 (.pointer (some ⟨w.heap.size, 66, none⟩)) rfl rfl hHeld ?_
 simp only [pA, pN, sZ, sU]
 refine rC 7 20 (.int .i64 p.e) rfl rfl (fun _ h => kept_cell h (HP.out.ep)) hHeld ?_
 simp only [pA, pN, sZ, sU]
 refine rT 8 21 (.bool true) rfl rfl hHeld ?_
 simp only [pA, pN, sZ, sU]
 refine rT 9 22 (.bool true) rfl rfl hHeld ?_
 simp only [pA, pN, sZ, sU]
 refine rT 10 23 (.bool true) rfl rfl hHeld ?_
 simp only [pA, pN, sZ, sU]
 refine rT 11 24 (.pointer (some ⟨w.heap.size + 1, 1, none⟩)) rfl rfl hHeld ?_
 simp only [pA, pN, sZ, sU]
 refine rC 12 25 (.int .i64 ↑t) rfl rfl (fun _ h => kept_cell h (hct.out)) hHeld ?_
 simp only [pA, pN, sZ, sU]
 refine rT 13 26 (.pointer (some ⟨w.heap.size, 66, none⟩)) rfl rfl hHeld ?_
 simp only [pA, pN, sZ, sU]
 refine rC 14 27 (.int .i64 p.e) rfl rfl (fun _ h => kept_cell h (HP.out.ep)) hHeld ?_
 simp only [pA, pN, sZ, sU]
 refine rT 15 28 (.bool false) rfl rfl hHeld ?_
 simp only [pA, pN, sZ, sU]
 refine rT 16 29 (.bool false) rfl rfl hHeld ?_
 simp only [pA, pN, sZ, sU]
 refine rT 17 30 (.bool false) rfl rfl hHeld ?_
 simp only [pA, pN, sZ, sU]
 refine rN 18 31 rfl rfl hHeld ?_
 simp only [pA, pN, sZ, sU]
 refine rN 19 32 rfl rfl hHeld ?_
 simp only [pA, pN, sZ, sU]
 refine rN 20 33 rfl rfl hHeld ?_
 simp only [pA, pN, sZ, sU]
 refine rN 21 34 rfl rfl hHeld ?_
 simp only [pA, pN, sZ, sU]
 refine rN 22 35 rfl rfl hHeld ?_
 simp only [pA, pN, sZ, sU]
 refine rN 23 36 rfl rfl hHeld ?_
 simp only [pA, pN, sZ, sU]
 refine rN 24 37 rfl rfl hHeld ?_
 simp only [pA, pN, sZ, sU]
 refine rT 25 38 (.bool false) rfl rfl hHeld ?_
 simp only [pA, pN, sZ, sU]
 refine wpAnyH_done (by kernel_rfl) ?_ _
 go_wp2
 go_ret
 exact ⟨by rw [HV.out]; rfl, HK0.out.trans hHeld⟩
set_option maxHeartbeats 2000000 in
theorem rtakes4 (p : Ps) (hB : Brd p.B) (m : Mv) (f t : Nat) (hf : m.f = f) (ht : m.t = t) (f1 : f < 64) (t1 : t < 64) (h0 : bAt p.B m.t = 0) (h1 : pawnB p m = true) (he : 0 ≤ p.e) (h2 : (m.t == p.e) = true) (h3 : (m.f % 8 != m.t % 8) = false) (w : World) :
  Calls Tryz.prog 48 #[.agg (pl p).toArray, .agg (ml m).toArray] w fun e w' => e = .returned (.int .i64 (takeI p m)) ∧ Kept w w' := by
 have HP : Hid (PAt _ _ p) := ⟨hB.1, heap_alloc2_old w (.cells (pl p).toArray 26) (.cells (ml m).toArray 36)⟩
 have HM : Hid (MAt _ _ m) := ⟨heap_alloc2_new w (.cells (pl p).toArray 26) (.cells (ml m).toArray 36)⟩
 have HK0 := Lib.hid (((Kept.refl w).alloc (.cells (pl p).toArray 26)).alloc (.cells (ml m).toArray 36))
 have hpl : Hid (p.B.length = 64) := hB.1
 have xt := HM.out.t
 rw [ht] at xt
 have hct := Lib.hid xt
 have xf := HM.out.f
 rw [hf] at xf
 have hcf := Lib.hid xf
 clear xf
 have ct := HP.out.sq t t1
 have eb : bAt p.B m.t = p.B.getD t 0 := by unfold bAt; rw [ht, Int.toNat_natCast]
 have ep : pawnB p m = (kindI (p.B.getD f 0) == 1) := by unfold pawnB bAt; rw [hf, Int.toNat_natCast]
 have HPw := Lib.hid (rpawn_is p.B hB f f1)
 have HF1 := Lib.hid (fun w => rfile_k (f : Int) w (by omega) (by omega))
 have HF2 := Lib.hid (fun w => rfile_k (t : Int) w (by omega) (by omega))
 have HPs := Lib.hid (rpassed_is p hB)
 have htI : (t : Int) < 64 := by omega
 have HV : Hid (takeI p m = -1) := by show _ = _; unfold takeI epTake; rw [if_neg (by simpa using h0), if_neg (by simp [h3])]
 have he' : decide ((0 : Int) ≤ p.e) = true := decide_eq_true he
 have h3' : ((t : Int) % 8 != (f : Int) % 8) = false := by rw [← h3, hf, ht, bne_comm]
 rw [ht] at h2
 clear h3
 rw [eb] at h0
 rw [h0] at ct
 rw [h1] at ep
 rw [← ep] at HPw
 clear h0 eb ep h1
 clear hB hf ht
 go_enter Tryz.func48, Tryz.ntmps48
 go_wp2
 clear ct xt
 generalize (w.alloc (.cells (pl p).toArray 26)).alloc (.cells (ml m).toArray 36) = W at *
 refine wp_region_held_drew (S := Kept _) (by kernel_rfl) (Kept.refl _).drew (fun hHeld => ?_)
 refine rT 0 13 (.pointer (some ⟨w.heap.size, 0, none⟩)) rfl rfl hHeld ?_
 simp only [pA, pN, sZ, sU]
 refine rY 1 14 rfl rfl (take_load_pb (by rfl) _ rfl _ rfl p hpl.out (fun _ h => (HP.out).kept h)) hHeld ?_
 simp only [pA, pN, sZ, sU]
 refine rT 2 15 (.pointer (some ⟨w.heap.size + 1, 0, none⟩)) rfl rfl hHeld ?_
 simp only [pA, pN, sZ, sU]
 refine rC 3 16 (.int .i64 ↑f) rfl rfl (fun _ h => kept_cell h (hcf.out)) hHeld ?_
 simp only [pA, pN, sZ, sU]
 refine rR 4 rfl (fun K hK => ?_)
 go_simp
 refine (HPw.out _).mono ?_
 rintro e w2 ⟨rfl, gw2⟩
 refine hK.out _ _ (hHeld.trans gw2) (fun _ => ?_)
 replace hHeld := hHeld.trans gw2
 clear hK K
 refine rT 5 18 (.bool true) rfl rfl hHeld ?_
 simp only [pA, pN, sZ, sU]
 refine rT 6 19 (.pointer (some ⟨w.heap.size, 66, none⟩)) rfl rfl hHeld ?_
 simp only [pA, pN, sZ, sU]
 refine rC 7 20 (.int .i64 p.e) rfl rfl (fun _ h => kept_cell h (HP.out.ep)) hHeld ?_
 simp only [pA, pN, sZ, sU]
 refine rT 8 21 (.bool true) rfl rfl hHeld ?_
 simp only [pA, pN, sZ, sU]
 refine rT 9 22 (.bool true) rfl rfl hHeld ?_
 simp only [pA, pN, sZ, sU]
 refine rT 10 23 (.bool true) rfl rfl hHeld ?_
 simp only [pA, pN, sZ, sU]
 refine rT 11 24 (.pointer (some ⟨w.heap.size + 1, 1, none⟩)) rfl rfl hHeld ?_
 simp only [pA, pN, sZ, sU]
 refine rC 12 25 (.int .i64 ↑t) rfl rfl (fun _ h => kept_cell h (hct.out)) hHeld ?_
 simp only [pA, pN, sZ, sU]
 refine rT 13 26 (.pointer (some ⟨w.heap.size, 66, none⟩)) rfl rfl hHeld ?_
 simp only [pA, pN, sZ, sU]
 refine rC 14 27 (.int .i64 p.e) rfl rfl (fun _ h => kept_cell h (HP.out.ep)) hHeld ?_
 simp only [pA, pN, sZ, sU]
 refine rT 15 28 (.bool true) rfl rfl hHeld ?_
 simp only [pA, pN, sZ, sU]
 refine rT 16 29 (.bool true) rfl rfl hHeld ?_
 simp only [pA, pN, sZ, sU]
 refine rT 17 30 (.bool true) rfl rfl hHeld ?_
 simp only [pA, pN, sZ, sU]
 refine rT 18 31 (.pointer (some ⟨w.heap.size + 1, 1, none⟩)) rfl rfl hHeld ?_
 simp only [pA, pN, sZ, sU]
 refine rC 19 32 (.int .i64 ↑t) rfl rfl (fun _ h => kept_cell h (hct.out)) hHeld ?_
 simp only [pA, pN, sZ, sU]
 refine rT 21 34 (.pointer (some ⟨w.heap.size + 1, 0, none⟩)) rfl rfl hHeld ?_
 simp only [pA, pN, sZ, sU]
 refine rC 22 35 (.int .i64 ↑f) rfl rfl (fun _ h => kept_cell h (hcf.out)) hHeld ?_
 simp only [pA, pN, sZ, sU]
 refine rR 20 rfl (fun K hK => ?_)
 go_simp
 refine (HF2.out _).mono ?_
 rintro e w3 ⟨rfl, gw3⟩
 refine hK.out _ _ (hHeld.trans gw3) (fun _ => ?_)
 replace hHeld := hHeld.trans gw3
 clear hK K
 refine rR 23 rfl (fun K hK => ?_)
 go_simp
 refine (HF1.out _).mono ?_
 rintro e w4 ⟨rfl, gw4⟩
 refine hK.out _ _ (hHeld.trans gw4) (fun _ => ?_)
 replace hHeld := hHeld.trans gw4
 clear hK K
 refine rT 24 37 (.bool false) rfl rfl hHeld ?_
 simp only [pA, pN, sZ, sU]
 refine rT 25 38 (.bool false) rfl rfl hHeld ?_
 simp only [pA, pN, sZ, sU]
 refine wpAnyH_done (by kernel_rfl) ?_ _
 go_wp2
 go_ret
 exact ⟨by rw [HV.out]; rfl, HK0.out.trans hHeld⟩
set_option maxHeartbeats 2000000 in
theorem rtakes5 (p : Ps) (hB : Brd p.B) (m : Mv) (f t : Nat) (hf : m.f = f) (ht : m.t = t) (f1 : f < 64) (t1 : t < 64) (h0 : bAt p.B m.t = 0) (h1 : pawnB p m = true) (he : 0 ≤ p.e) (h2 : (m.t == p.e) = true) (h3 : (m.f % 8 != m.t % 8) = true) (w : World) :
  Calls Tryz.prog 48 #[.agg (pl p).toArray, .agg (ml m).toArray] w fun e w' => e = .returned (.int .i64 (takeI p m)) ∧ Kept w w' := by
 have HP : Hid (PAt _ _ p) := ⟨hB.1, heap_alloc2_old w (.cells (pl p).toArray 26) (.cells (ml m).toArray 36)⟩
 have HM : Hid (MAt _ _ m) := ⟨heap_alloc2_new w (.cells (pl p).toArray 26) (.cells (ml m).toArray 36)⟩
 have HK0 := Lib.hid (((Kept.refl w).alloc (.cells (pl p).toArray 26)).alloc (.cells (ml m).toArray 36))
 have hpl : Hid (p.B.length = 64) := hB.1
 have xt := HM.out.t
 rw [ht] at xt
 have hct := Lib.hid xt
 have xf := HM.out.f
 rw [hf] at xf
 have hcf := Lib.hid xf
 clear xf
 have ct := HP.out.sq t t1
 have eb : bAt p.B m.t = p.B.getD t 0 := by unfold bAt; rw [ht, Int.toNat_natCast]
 have ep : pawnB p m = (kindI (p.B.getD f 0) == 1) := by unfold pawnB bAt; rw [hf, Int.toNat_natCast]
 have HPw := Lib.hid (rpawn_is p.B hB f f1)
 have HF1 := Lib.hid (fun w => rfile_k (f : Int) w (by omega) (by omega))
 have HF2 := Lib.hid (fun w => rfile_k (t : Int) w (by omega) (by omega))
 have HPs := Lib.hid (rpassed_is p hB)
 have htI : (t : Int) < 64 := by omega
 have HV : Hid (takeI p m = passI p) := by show _ = _; unfold takeI epTake; rw [if_neg (by simpa using h0), if_pos (by rw [h1, h2, h3]; rfl)]
 have he' : decide ((0 : Int) ≤ p.e) = true := decide_eq_true he
 have h3' : ((t : Int) % 8 != (f : Int) % 8) = true := by rw [← h3, hf, ht, bne_comm]
 rw [ht] at h2
 clear h3
 rw [eb] at h0
 rw [h0] at ct
 rw [h1] at ep
 rw [← ep] at HPw
 clear h0 eb ep h1
 clear hB hf ht
 go_enter Tryz.func48, Tryz.ntmps48
 go_wp2
 clear ct xt
 generalize (w.alloc (.cells (pl p).toArray 26)).alloc (.cells (ml m).toArray 36) = W at *
 refine wp_region_held_drew (S := Kept _) (by kernel_rfl) (Kept.refl _).drew (fun hHeld => ?_)
 refine rT 0 13 (.pointer (some ⟨w.heap.size, 0, none⟩)) rfl rfl hHeld ?_
 simp only [pA, pN, sZ, sU]
 refine rY 1 14 rfl rfl (take_load_pb (by rfl) _ rfl _ rfl p hpl.out (fun _ h => (HP.out).kept h)) hHeld ?_
 simp only [pA, pN, sZ, sU]
 refine rT 2 15 (.pointer (some ⟨w.heap.size + 1, 0, none⟩)) rfl rfl hHeld ?_
 simp only [pA, pN, sZ, sU]
 refine rC 3 16 (.int .i64 ↑f) rfl rfl (fun _ h => kept_cell h (hcf.out)) hHeld ?_
 simp only [pA, pN, sZ, sU]
 refine rR 4 rfl (fun K hK => ?_)
 go_simp
 refine (HPw.out _).mono ?_
 rintro e w2 ⟨rfl, gw2⟩
 refine hK.out _ _ (hHeld.trans gw2) (fun _ => ?_)
 replace hHeld := hHeld.trans gw2
 clear hK K
 refine rT 5 18 (.bool true) rfl rfl hHeld ?_
 simp only [pA, pN, sZ, sU]
 refine rT 6 19 (.pointer (some ⟨w.heap.size, 66, none⟩)) rfl rfl hHeld ?_
 simp only [pA, pN, sZ, sU]
 refine rC 7 20 (.int .i64 p.e) rfl rfl (fun _ h => kept_cell h (HP.out.ep)) hHeld ?_
 simp only [pA, pN, sZ, sU]
 refine rT 8 21 (.bool true) rfl rfl hHeld ?_
 simp only [pA, pN, sZ, sU]
 refine rT 9 22 (.bool true) rfl rfl hHeld ?_
 simp only [pA, pN, sZ, sU]
 refine rT 10 23 (.bool true) rfl rfl hHeld ?_
 simp only [pA, pN, sZ, sU]
 refine rT 11 24 (.pointer (some ⟨w.heap.size + 1, 1, none⟩)) rfl rfl hHeld ?_
 simp only [pA, pN, sZ, sU]
 refine rC 12 25 (.int .i64 ↑t) rfl rfl (fun _ h => kept_cell h (hct.out)) hHeld ?_
 simp only [pA, pN, sZ, sU]
 refine rT 13 26 (.pointer (some ⟨w.heap.size, 66, none⟩)) rfl rfl hHeld ?_
 simp only [pA, pN, sZ, sU]
 refine rC 14 27 (.int .i64 p.e) rfl rfl (fun _ h => kept_cell h (HP.out.ep)) hHeld ?_
 simp only [pA, pN, sZ, sU]
 refine rT 15 28 (.bool true) rfl rfl hHeld ?_
 simp only [pA, pN, sZ, sU]
 refine rT 16 29 (.bool true) rfl rfl hHeld ?_
 simp only [pA, pN, sZ, sU]
 refine rT 17 30 (.bool true) rfl rfl hHeld ?_
 simp only [pA, pN, sZ, sU]
 refine rT 18 31 (.pointer (some ⟨w.heap.size + 1, 1, none⟩)) rfl rfl hHeld ?_
 simp only [pA, pN, sZ, sU]
 refine rC 19 32 (.int .i64 ↑t) rfl rfl (fun _ h => kept_cell h (hct.out)) hHeld ?_
 simp only [pA, pN, sZ, sU]
 refine rT 21 34 (.pointer (some ⟨w.heap.size + 1, 0, none⟩)) rfl rfl hHeld ?_
 simp only [pA, pN, sZ, sU]
 refine rC 22 35 (.int .i64 ↑f) rfl rfl (fun _ h => kept_cell h (hcf.out)) hHeld ?_
 simp only [pA, pN, sZ, sU]
 refine rR 20 rfl (fun K hK => ?_)
 go_simp
 refine (HF2.out _).mono ?_
 rintro e w3 ⟨rfl, gw3⟩
 refine hK.out _ _ (hHeld.trans gw3) (fun _ => ?_)
 replace hHeld := hHeld.trans gw3
 clear hK K
 refine rR 23 rfl (fun K hK => ?_)
 go_simp
 refine (HF1.out _).mono ?_
 rintro e w4 ⟨rfl, gw4⟩
 refine hK.out _ _ (hHeld.trans gw4) (fun _ => ?_)
 replace hHeld := hHeld.trans gw4
 clear hK K
 refine rT 24 37 (.bool true) rfl rfl hHeld ?_
 simp only [pA, pN, sZ, sU]
 refine rT 25 38 (.bool true) rfl rfl hHeld ?_
 simp only [pA, pN, sZ, sU]
 refine wpAnyH_done (by kernel_rfl) ?_ _
 have HP4 := Lib.hid (HP.out.kept hHeld)
 have HK4 := Lib.hid (HK0.out.trans hHeld)
 clear hHeld
 go_wp2_with (first | (refine wpList_load_ps (by rfl) _ rfl _ rfl _ (HP4.out) ?_) | (refine wpList_load_pb (by rfl) _ rfl _ rfl _ (HP4.out) ?_))
 refine (HPs.out _).mono ?_
 rintro e w5 ⟨rfl, k5⟩
 have HK5 := Lib.hid (HK4.out.trans k5)
 clear k5
 go_wp2
 go_ret
 exact ⟨by rw [HV.out]; rfl, HK5.out⟩
theorem rtakes_is (p : Ps) (hB : Brd p.B) (m : Mv) (ho : On m) (w : World) :
  Calls Tryz.prog 48 #[.agg (pl p).toArray, .agg (ml m).toArray] w fun e w' => e = .returned (.int .i64 (takeI p m)) ∧ Kept w w' := by
 obtain ⟨f, hf⟩ := Int.eq_ofNat_of_zero_le ho.f0
 obtain ⟨t, ht⟩ := Int.eq_ofNat_of_zero_le ho.t0
 have f1 : f < 64 := by have := ho.f1; omega
 have t1 : t < 64 := by have := ho.t1; omega
 by_cases h0 : bAt p.B m.t = 0
 ·cases h1 : pawnB p m
  ·exact rtakes1 p hB m f t hf ht f1 t1 h0 h1 w
  ·by_cases he : 0 ≤ p.e
   ·cases h2 : (m.t == p.e)
    ·exact rtakes3 p hB m f t hf ht f1 t1 h0 h1 he h2 w
    ·cases h3 : (m.f % 8 != m.t % 8)
     ·exact rtakes4 p hB m f t hf ht f1 t1 h0 h1 he h2 h3 w
     ·exact rtakes5 p hB m f t hf ht f1 t1 h0 h1 he h2 h3 w
   ·exact rtakes2 p hB m f t hf ht f1 t1 h0 h1 he w
 ·exact rtakes0 p hB m f t hf ht f1 t1 h0 w
theorem rside_k (m : Int) (w : World) : Calls Tryz.prog 74 #[.int .i64 m] w fun e w' => e = .returned (.int .i64 (sideI m)) ∧ Kept w w' :=
 (rside_any m w).mono fun _ _ ⟨a, b⟩ => ⟨a, b ▸ Kept.refl _⟩
theorem rright_k (s : Int) (w : World) : Calls Tryz.prog 84 #[.int .i64 s] w fun e w' => e = .returned (.bool (onB s)) ∧ Kept w w' := by
 unfold onB
 by_cases h : 0 ≤ s ∧ s < 64
 ·rw [decide_eq_true h]; exact (rright_yes s w h.1 h.2).mono fun _ _ ⟨a, b⟩ => ⟨a, b ▸ Kept.refl _⟩
 ·rw [decide_eq_false h]; exact (rright_no s w (by omega)).mono fun _ _ ⟨a, b⟩ => ⟨a, b ▸ Kept.refl _⟩
theorem rformed_f (p : Ps) (hB : Brd p.B) (t01 : p.t = 0 ∨ p.t = 1) (m : Mv) (h : onB m.f = false) (w : World) :
  Calls Tryz.prog 77 #[.agg (pl p).toArray, .agg (ml m).toArray] w fun e w' => e = .returned (.bool (formB p m)) ∧ Kept w w' := by
 have HP : Hid (PAt _ _ p) := ⟨hB.1, heap_alloc2_old w (.cells (pl p).toArray 26) (.cells (ml m).toArray 36)⟩
 have HM : Hid (MAt _ _ m) := ⟨heap_alloc2_new w (.cells (pl p).toArray 26) (.cells (ml m).toArray 36)⟩
 have HK0 := Lib.hid (((Kept.refl w).alloc (.cells (pl p).toArray 26)).alloc (.cells (ml m).toArray 36))
 have HV : Hid (formB p m = false) := by
  show _ = _
  have : ¬ (0 ≤ m.f ∧ m.f < 64) := by simpa [onB] using h
  unfold formB manA
  rw [if_neg this, side_zero, show ((-1 : Int) == p.t) = false from beq_eq_false_iff_ne.2 (by omega)]
  rfl
 have HC := Lib.hid (rright_k m.f)
 rw [h] at HC
 have cf := HM.out.f
 clear hB t01 h
 go_enter Tryz.func77, Tryz.ntmps77
 go_wp2_with fail
 refine (HC.out _).mono ?_
 rintro e w1 ⟨rfl, k1⟩
 have HK1 := Lib.hid (HK0.out.trans k1)
 clear k1 cf
 go_wp2
 go_ret
 exact ⟨by rw [HV.out]; rfl, HK1.out⟩
theorem rformed_t (p : Ps) (hB : Brd p.B) (m : Mv) (hf : onB m.f = true) (h : onB m.t = false) (w : World) :
  Calls Tryz.prog 77 #[.agg (pl p).toArray, .agg (ml m).toArray] w fun e w' => e = .returned (.bool (formB p m)) ∧ Kept w w' := by
 have HP : Hid (PAt _ _ p) := ⟨hB.1, heap_alloc2_old w (.cells (pl p).toArray 26) (.cells (ml m).toArray 36)⟩
 have HM : Hid (MAt _ _ m) := ⟨heap_alloc2_new w (.cells (pl p).toArray 26) (.cells (ml m).toArray 36)⟩
 have HK0 := Lib.hid (((Kept.refl w).alloc (.cells (pl p).toArray 26)).alloc (.cells (ml m).toArray 36))
 have HV : Hid (formB p m = false) := by show _ = _; unfold formB; rw [h]; simp
 have HC := Lib.hid (rright_k m.f)
 have HC2 := Lib.hid (rright_k m.t)
 rw [hf] at HC
 rw [h] at HC2
 have cf := HM.out.f
 clear hB h hf
 go_enter Tryz.func77, Tryz.ntmps77
 go_wp2_with fail
 refine (HC.out _).mono ?_
 rintro e w1 ⟨rfl, k1⟩
 have HK1 := Lib.hid (HK0.out.trans k1)
 have HM1 := Lib.hid (MAt.kept HM.out k1)
 have ct := HM1.out.t
 clear k1 cf
 go_wp2_with fail
 refine (HC2.out _).mono ?_
 rintro e w2 ⟨rfl, k2⟩
 have HK2 := Lib.hid (HK1.out.trans k2)
 clear k2 ct
 go_wp2
 go_ret
 exact ⟨by rw [HV.out]; rfl, HK2.out⟩
theorem i8_i64 {B : List Int} (hB : Brd B) {k : Nat} (hk : k < 64) : IntKind.i64.wrap (B.getD k 0) = B.getD k 0 := by
 have := hB.2 k hk
 exact IntWalk.i64_in _ (by omega)
set_option maxHeartbeats 2000000 in
theorem rformed1 (p : Ps) (hB : Brd p.B) (m : Mv) (f t : Nat) (hf : m.f = f) (ht : m.t = t) (f1 : f < 64) (t1 : t < 64) (h1 : (sideI (manA p.B m.f) == p.t) = false) (w : World) :
  Calls Tryz.prog 77 #[.agg (pl p).toArray, .agg (ml m).toArray] w fun e w' => e = .returned (.bool (formB p m)) ∧ Kept w w' := by
 have HP : Hid (PAt _ _ p) := ⟨hB.1, heap_alloc2_old w (.cells (pl p).toArray 26) (.cells (ml m).toArray 36)⟩
 have HM : Hid (MAt _ _ m) := ⟨heap_alloc2_new w (.cells (pl p).toArray 26) (.cells (ml m).toArray 36)⟩
 have HK0 := Lib.hid (((Kept.refl w).alloc (.cells (pl p).toArray 26)).alloc (.cells (ml m).toArray 36))
 have hpl : Hid (p.B.length = 64) := hB.1
 have hon1 : onB m.f = true := by unfold onB; simp; omega
 have hon2 : onB m.t = true := by unfold onB; simp; omega
 have HC := Lib.hid (rright_k m.f)
 have HC2 := Lib.hid (rright_k m.t)
 rw [hon1, hf] at HC
 rw [hon2, ht] at HC2
 have em : manA p.B m.f = p.B.getD f 0 := by unfold manA bAt; rw [if_pos (by omega), hf, Int.toNat_natCast]
 have en : manA p.B m.t = p.B.getD t 0 := by unfold manA bAt; rw [if_pos (by omega), ht, Int.toNat_natCast]
 have xf := HM.out.f
 rw [hf] at xf
 have hcf := Lib.hid xf
 have xt := HM.out.t
 rw [ht] at xt
 have hct := Lib.hid xt
 have HQ1 := Lib.hid (HP.out.sq f f1)
 have HQ2 := Lib.hid (HP.out.sq t t1)
 have w1 := i8_i64 hB f1
 have w2 := i8_i64 hB t1
 have HPw := Lib.hid (rpawn_is p.B hB f f1)
 have HRk := Lib.hid (fun w => rrank_k (t : Int) w (by omega) (by omega))
 have hfI : (f : Int) < 64 := by omega
 have htI : (t : Int) < 64 := by omega
 rw [em] at h1
 have HV : Hid (formB p m = false) := by show _ = _; unfold formB; rw [em, h1]; rfl
 have h1' : (sideI (p.B.getD f 0) != p.t) = true := by rw [bne, h1]; rfl
 clear hB hon1 hon2 em en hf ht xt
 generalize p.B.getD f 0 = x at *
 generalize p.B.getD t 0 = y at *
 go_enter Tryz.func77, Tryz.ntmps77
 go_wp2_with fail
 refine (HC.out _).mono ?_
 rintro e v1 ⟨rfl, k1⟩
 have HK1 := Lib.hid (HK0.out.trans k1)
 have hct1 := Lib.hid (kept_cell k1 hct.out)
 have xt := hct1.out
 have KK1 := Lib.hid k1
 clear k1 xf
 go_wp2_with fail
 refine (HC2.out _).mono ?_
 rintro e v2 ⟨rfl, k2⟩
 have HK2 := Lib.hid (HK1.out.trans k2)
 have KK2 := Lib.hid (KK1.out.trans k2)
 have HP2 := Lib.hid (HP.out.kept KK2.out)
 have HM2 := Lib.hid (MAt.kept HM.out KK2.out)
 have hcf2 := Lib.hid (kept_cell KK2.out hcf.out)
 have hct2 := Lib.hid (kept_cell KK2.out hct.out)
 have HQ12 := Lib.hid (kept_cell KK2.out HQ1.out)
 have HQ22 := Lib.hid (kept_cell KK2.out HQ2.out)
 clear k2 xt
 go_wp2
 refine wp_region_held_drew (S := Kept _) (by kernel_rfl) (Kept.refl _).drew (fun hHeld => ?_)
 refine rT 0 17 (.pointer (some ⟨w.heap.size + 1, 0, none⟩)) rfl rfl hHeld ?_
 simp only [pA, pN, sZ, sU]
 refine rC 1 18 (.int .i64 ↑f) rfl rfl (fun _ h => kept_cell h (hcf2.out)) hHeld ?_
 simp only [pA, pN, sZ, sU]
 refine rT 2 19 (.pointer (some ⟨w.heap.size, 0, none⟩)) rfl rfl hHeld ?_
 simp only [pA, pN, sZ, sU]
 refine rT 3 20 (.pointer (some ⟨w.heap.size, f, none⟩)) rfl rfl hHeld ?_
 simp only [pA, pN, sZ, sU]
 refine rC 4 21 (.int .i8 x) rfl rfl (fun _ h => kept_cell h (HQ12.out)) hHeld ?_
 simp only [pA, pN, sZ, sU]
 refine rT 5 22 (.int .i64 x) rfl rfl hHeld ?_
 simp only [pA, pN, sZ, sU]
 refine rT 7 24 (.pointer (some ⟨w.heap.size, 64, none⟩)) rfl rfl hHeld ?_
 simp only [pA, pN, sZ, sU]
 refine rC 8 25 (.int .i64 p.t) rfl rfl (fun _ h => kept_cell h (HP2.out.turn)) hHeld ?_
 simp only [pA, pN, sZ, sU]
 refine rR 6 rfl (fun K hK => ?_)
 go_simp
 refine (rside_k x _).mono ?_
 rintro e v3 ⟨rfl, gv3⟩
 refine hK.out _ _ (hHeld.trans gv3) (fun _ => ?_)
 replace hHeld := hHeld.trans gv3
 clear hK K
 refine rT 9 26 (.bool true) rfl rfl hHeld ?_
 simp only [pA, pN, sZ, sU]
 refine rT 10 27 (.bool true) rfl rfl hHeld ?_
 simp only [pA, pN, sZ, sU]
 refine rN 11 28 rfl rfl hHeld ?_
 simp only [pA, pN, sZ, sU]
 refine rN 12 29 rfl rfl hHeld ?_
 simp only [pA, pN, sZ, sU]
 refine rN 13 30 rfl rfl hHeld ?_
 simp only [pA, pN, sZ, sU]
 refine rN 14 31 rfl rfl hHeld ?_
 simp only [pA, pN, sZ, sU]
 refine rN 15 32 rfl rfl hHeld ?_
 simp only [pA, pN, sZ, sU]
 refine rN 16 33 rfl rfl hHeld ?_
 simp only [pA, pN, sZ, sU]
 refine rN 17 34 rfl rfl hHeld ?_
 simp only [pA, pN, sZ, sU]
 refine rN 18 35 rfl rfl hHeld ?_
 simp only [pA, pN, sZ, sU]
 refine rN 19 36 rfl rfl hHeld ?_
 simp only [pA, pN, sZ, sU]
 refine rN 20 37 rfl rfl hHeld ?_
 simp only [pA, pN, sZ, sU]
 refine rT 21 38 (.bool true) rfl rfl hHeld ?_
 simp only [pA, pN, sZ, sU]
 refine wpAnyH_done (by kernel_rfl) ?_ _
 go_wp2
 go_ret
 exact ⟨by rw [HV.out]; rfl, HK2.out.trans hHeld⟩
set_option maxHeartbeats 2000000 in
theorem rformed2 (p : Ps) (hB : Brd p.B) (m : Mv) (f t : Nat) (hf : m.f = f) (ht : m.t = t) (f1 : f < 64) (t1 : t < 64) (h1 : (sideI (manA p.B m.f) == p.t) = true) (h3 : (sideI (manA p.B m.t) == p.t) = true) (w : World) :
  Calls Tryz.prog 77 #[.agg (pl p).toArray, .agg (ml m).toArray] w fun e w' => e = .returned (.bool (formB p m)) ∧ Kept w w' := by
 have HP : Hid (PAt _ _ p) := ⟨hB.1, heap_alloc2_old w (.cells (pl p).toArray 26) (.cells (ml m).toArray 36)⟩
 have HM : Hid (MAt _ _ m) := ⟨heap_alloc2_new w (.cells (pl p).toArray 26) (.cells (ml m).toArray 36)⟩
 have HK0 := Lib.hid (((Kept.refl w).alloc (.cells (pl p).toArray 26)).alloc (.cells (ml m).toArray 36))
 have hpl : Hid (p.B.length = 64) := hB.1
 have hon1 : onB m.f = true := by unfold onB; simp; omega
 have hon2 : onB m.t = true := by unfold onB; simp; omega
 have HC := Lib.hid (rright_k m.f)
 have HC2 := Lib.hid (rright_k m.t)
 rw [hon1, hf] at HC
 rw [hon2, ht] at HC2
 have em : manA p.B m.f = p.B.getD f 0 := by unfold manA bAt; rw [if_pos (by omega), hf, Int.toNat_natCast]
 have en : manA p.B m.t = p.B.getD t 0 := by unfold manA bAt; rw [if_pos (by omega), ht, Int.toNat_natCast]
 have xf := HM.out.f
 rw [hf] at xf
 have hcf := Lib.hid xf
 have xt := HM.out.t
 rw [ht] at xt
 have hct := Lib.hid xt
 have HQ1 := Lib.hid (HP.out.sq f f1)
 have HQ2 := Lib.hid (HP.out.sq t t1)
 have w1 := i8_i64 hB f1
 have w2 := i8_i64 hB t1
 have HPw := Lib.hid (rpawn_is p.B hB f f1)
 have HRk := Lib.hid (fun w => rrank_k (t : Int) w (by omega) (by omega))
 have hfI : (f : Int) < 64 := by omega
 have htI : (t : Int) < 64 := by omega
 rw [em] at h1
 have HV : Hid (formB p m = false) := by show _ = _; unfold formB; rw [h3]; simp
 rw [en] at h3
 have h1' : (sideI (p.B.getD f 0) != p.t) = false := by rw [bne, h1]; rfl
 clear hB hon1 hon2 em en hf ht xt
 generalize p.B.getD f 0 = x at *
 generalize p.B.getD t 0 = y at *
 go_enter Tryz.func77, Tryz.ntmps77
 go_wp2_with fail
 refine (HC.out _).mono ?_
 rintro e v1 ⟨rfl, k1⟩
 have HK1 := Lib.hid (HK0.out.trans k1)
 have hct1 := Lib.hid (kept_cell k1 hct.out)
 have xt := hct1.out
 have KK1 := Lib.hid k1
 clear k1 xf
 go_wp2_with fail
 refine (HC2.out _).mono ?_
 rintro e v2 ⟨rfl, k2⟩
 have HK2 := Lib.hid (HK1.out.trans k2)
 have KK2 := Lib.hid (KK1.out.trans k2)
 have HP2 := Lib.hid (HP.out.kept KK2.out)
 have HM2 := Lib.hid (MAt.kept HM.out KK2.out)
 have hcf2 := Lib.hid (kept_cell KK2.out hcf.out)
 have hct2 := Lib.hid (kept_cell KK2.out hct.out)
 have HQ12 := Lib.hid (kept_cell KK2.out HQ1.out)
 have HQ22 := Lib.hid (kept_cell KK2.out HQ2.out)
 clear k2 xt
 go_wp2
 refine wp_region_held_drew (S := Kept _) (by kernel_rfl) (Kept.refl _).drew (fun hHeld => ?_)
 refine rT 0 17 (.pointer (some ⟨w.heap.size + 1, 0, none⟩)) rfl rfl hHeld ?_
 simp only [pA, pN, sZ, sU]
 refine rC 1 18 (.int .i64 ↑f) rfl rfl (fun _ h => kept_cell h (hcf2.out)) hHeld ?_
 simp only [pA, pN, sZ, sU]
 refine rT 2 19 (.pointer (some ⟨w.heap.size, 0, none⟩)) rfl rfl hHeld ?_
 simp only [pA, pN, sZ, sU]
 refine rT 3 20 (.pointer (some ⟨w.heap.size, f, none⟩)) rfl rfl hHeld ?_
 simp only [pA, pN, sZ, sU]
 refine rC 4 21 (.int .i8 x) rfl rfl (fun _ h => kept_cell h (HQ12.out)) hHeld ?_
 simp only [pA, pN, sZ, sU]
 refine rT 5 22 (.int .i64 x) rfl rfl hHeld ?_
 simp only [pA, pN, sZ, sU]
 refine rT 7 24 (.pointer (some ⟨w.heap.size, 64, none⟩)) rfl rfl hHeld ?_
 simp only [pA, pN, sZ, sU]
 refine rC 8 25 (.int .i64 p.t) rfl rfl (fun _ h => kept_cell h (HP2.out.turn)) hHeld ?_
 simp only [pA, pN, sZ, sU]
 refine rR 6 rfl (fun K hK => ?_)
 go_simp
 refine (rside_k x _).mono ?_
 rintro e v3 ⟨rfl, gv3⟩
 refine hK.out _ _ (hHeld.trans gv3) (fun _ => ?_)
 replace hHeld := hHeld.trans gv3
 clear hK K
 refine rT 9 26 (.bool false) rfl rfl hHeld ?_
 simp only [pA, pN, sZ, sU]
 refine rT 10 27 (.bool false) rfl rfl hHeld ?_
 simp only [pA, pN, sZ, sU]
 refine rT 11 28 (.pointer (some ⟨w.heap.size + 1, 1, none⟩)) rfl rfl hHeld ?_
 simp only [pA, pN, sZ, sU]
 refine rC 12 29 (.int .i64 ↑t) rfl rfl (fun _ h => kept_cell h (hct2.out)) hHeld ?_
 simp only [pA, pN, sZ, sU]
 refine rT 13 30 (.pointer (some ⟨w.heap.size, 0, none⟩)) rfl rfl hHeld ?_
 simp only [pA, pN, sZ, sU]
 refine rT 14 31 (.pointer (some ⟨w.heap.size, t, none⟩)) rfl rfl hHeld ?_
 simp only [pA, pN, sZ, sU]
 refine rC 15 32 (.int .i8 y) rfl rfl (fun _ h => kept_cell h (HQ22.out)) hHeld ?_
 simp only [pA, pN, sZ, sU]
 refine rT 16 33 (.int .i64 y) rfl rfl hHeld ?_
 simp only [pA, pN, sZ, sU]
 refine rT 18 35 (.pointer (some ⟨w.heap.size, 64, none⟩)) rfl rfl hHeld ?_
 simp only [pA, pN, sZ, sU]
 refine rC 19 36 (.int .i64 p.t) rfl rfl (fun _ h => kept_cell h (HP2.out.turn)) hHeld ?_
 simp only [pA, pN, sZ, sU]
 refine rR 17 rfl (fun K hK => ?_)
 go_simp
 refine (rside_k y _).mono ?_
 rintro e v4 ⟨rfl, gv4⟩
 refine hK.out _ _ (hHeld.trans gv4) (fun _ => ?_)
 replace hHeld := hHeld.trans gv4
 clear hK K
 refine rT 20 37 (.bool true) rfl rfl hHeld ?_
 simp only [pA, pN, sZ, sU]
 refine rT 21 38 (.bool true) rfl rfl hHeld ?_
 simp only [pA, pN, sZ, sU]
 refine wpAnyH_done (by kernel_rfl) ?_ _
 go_wp2
 go_ret
 exact ⟨by rw [HV.out]; rfl, HK2.out.trans hHeld⟩
set_option maxHeartbeats 2000000 in
theorem rformed3w (p : Ps) (hB : Brd p.B) (m : Mv) (f t : Nat) (hf : m.f = f) (ht : m.t = t) (f1 : f < 64) (t1 : t < 64) (h1 : (sideI (manA p.B m.f) == p.t) = true) (h3 : (sideI (manA p.B m.t) == p.t) = false) (h4 : (kindI (manA p.B m.f) == 1) = false) (hT : p.t = 0) (w : World) :
  Calls Tryz.prog 77 #[.agg (pl p).toArray, .agg (ml m).toArray] w fun e w' => e = .returned (.bool (formB p m)) ∧ Kept w w' := by
 have HP : Hid (PAt _ _ p) := ⟨hB.1, heap_alloc2_old w (.cells (pl p).toArray 26) (.cells (ml m).toArray 36)⟩
 have HM : Hid (MAt _ _ m) := ⟨heap_alloc2_new w (.cells (pl p).toArray 26) (.cells (ml m).toArray 36)⟩
 have HK0 := Lib.hid (((Kept.refl w).alloc (.cells (pl p).toArray 26)).alloc (.cells (ml m).toArray 36))
 have hpl : Hid (p.B.length = 64) := hB.1
 have hon1 : onB m.f = true := by unfold onB; simp; omega
 have hon2 : onB m.t = true := by unfold onB; simp; omega
 have HC := Lib.hid (rright_k m.f)
 have HC2 := Lib.hid (rright_k m.t)
 rw [hon1, hf] at HC
 rw [hon2, ht] at HC2
 have em : manA p.B m.f = p.B.getD f 0 := by unfold manA bAt; rw [if_pos (by omega), hf, Int.toNat_natCast]
 have en : manA p.B m.t = p.B.getD t 0 := by unfold manA bAt; rw [if_pos (by omega), ht, Int.toNat_natCast]
 have xf := HM.out.f
 rw [hf] at xf
 have hcf := Lib.hid xf
 have xt := HM.out.t
 rw [ht] at xt
 have hct := Lib.hid xt
 have HQ1 := Lib.hid (HP.out.sq f f1)
 have HQ2 := Lib.hid (HP.out.sq t t1)
 have w1 := i8_i64 hB f1
 have w2 := i8_i64 hB t1
 have HPw := Lib.hid (rpawn_is p.B hB f f1)
 have HRk := Lib.hid (fun w => rrank_k (t : Int) w (by omega) (by omega))
 have hfI : (f : Int) < 64 := by omega
 have htI : (t : Int) < 64 := by omega
 rw [em] at h1 h4
 have HV : Hid (formB p m = (m.p == 0)) := by
  show _ = _
  rw [← promo_stay]
  unfold formB turnsB
  rw [em, h1, hon2, h3, h4]; rfl
 rw [en] at h3
 have HTv := Lib.hid hT
 clear hT
 have h1' : (sideI (p.B.getD f 0) != p.t) = false := by rw [bne, h1]; rfl
 clear hB hon1 hon2 em en hf ht xt
 generalize p.B.getD f 0 = x at *
 generalize p.B.getD t 0 = y at *
 go_enter Tryz.func77, Tryz.ntmps77
 go_wp2_with fail
 refine (HC.out _).mono ?_
 rintro e v1 ⟨rfl, k1⟩
 have HK1 := Lib.hid (HK0.out.trans k1)
 have hct1 := Lib.hid (kept_cell k1 hct.out)
 have xt := hct1.out
 have KK1 := Lib.hid k1
 clear k1 xf
 go_wp2_with fail
 refine (HC2.out _).mono ?_
 rintro e v2 ⟨rfl, k2⟩
 have HK2 := Lib.hid (HK1.out.trans k2)
 have KK2 := Lib.hid (KK1.out.trans k2)
 have HP2 := Lib.hid (HP.out.kept KK2.out)
 have HM2 := Lib.hid (MAt.kept HM.out KK2.out)
 have hcf2 := Lib.hid (kept_cell KK2.out hcf.out)
 have hct2 := Lib.hid (kept_cell KK2.out hct.out)
 have HQ12 := Lib.hid (kept_cell KK2.out HQ1.out)
 have HQ22 := Lib.hid (kept_cell KK2.out HQ2.out)
 clear k2 xt
 go_wp2
 refine wp_region_held_drew (S := Kept _) (by kernel_rfl) (Kept.refl _).drew (fun hHeld => ?_)
 refine rT 0 17 (.pointer (some ⟨w.heap.size + 1, 0, none⟩)) rfl rfl hHeld ?_
 simp only [pA, pN, sZ, sU]
 refine rC 1 18 (.int .i64 ↑f) rfl rfl (fun _ h => kept_cell h (hcf2.out)) hHeld ?_
 simp only [pA, pN, sZ, sU]
 refine rT 2 19 (.pointer (some ⟨w.heap.size, 0, none⟩)) rfl rfl hHeld ?_
 simp only [pA, pN, sZ, sU]
 refine rT 3 20 (.pointer (some ⟨w.heap.size, f, none⟩)) rfl rfl hHeld ?_
 simp only [pA, pN, sZ, sU]
 refine rC 4 21 (.int .i8 x) rfl rfl (fun _ h => kept_cell h (HQ12.out)) hHeld ?_
 simp only [pA, pN, sZ, sU]
 refine rT 5 22 (.int .i64 x) rfl rfl hHeld ?_
 simp only [pA, pN, sZ, sU]
 refine rT 7 24 (.pointer (some ⟨w.heap.size, 64, none⟩)) rfl rfl hHeld ?_
 simp only [pA, pN, sZ, sU]
 refine rC 8 25 (.int .i64 p.t) rfl rfl (fun _ h => kept_cell h (HP2.out.turn)) hHeld ?_
 simp only [pA, pN, sZ, sU]
 refine rR 6 rfl (fun K hK => ?_)
 go_simp
 refine (rside_k x _).mono ?_
 rintro e v3 ⟨rfl, gv3⟩
 refine hK.out _ _ (hHeld.trans gv3) (fun _ => ?_)
 replace hHeld := hHeld.trans gv3
 clear hK K
 refine rT 9 26 (.bool false) rfl rfl hHeld ?_
 simp only [pA, pN, sZ, sU]
 refine rT 10 27 (.bool false) rfl rfl hHeld ?_
 simp only [pA, pN, sZ, sU]
 refine rT 11 28 (.pointer (some ⟨w.heap.size + 1, 1, none⟩)) rfl rfl hHeld ?_
 simp only [pA, pN, sZ, sU]
 refine rC 12 29 (.int .i64 ↑t) rfl rfl (fun _ h => kept_cell h (hct2.out)) hHeld ?_
 simp only [pA, pN, sZ, sU]
 refine rT 13 30 (.pointer (some ⟨w.heap.size, 0, none⟩)) rfl rfl hHeld ?_
 simp only [pA, pN, sZ, sU]
 refine rT 14 31 (.pointer (some ⟨w.heap.size, t, none⟩)) rfl rfl hHeld ?_
 simp only [pA, pN, sZ, sU]
 refine rC 15 32 (.int .i8 y) rfl rfl (fun _ h => kept_cell h (HQ22.out)) hHeld ?_
 simp only [pA, pN, sZ, sU]
 refine rT 16 33 (.int .i64 y) rfl rfl hHeld ?_
 simp only [pA, pN, sZ, sU]
 refine rT 18 35 (.pointer (some ⟨w.heap.size, 64, none⟩)) rfl rfl hHeld ?_
 simp only [pA, pN, sZ, sU]
 refine rC 19 36 (.int .i64 p.t) rfl rfl (fun _ h => kept_cell h (HP2.out.turn)) hHeld ?_
 simp only [pA, pN, sZ, sU]
 refine rR 17 rfl (fun K hK => ?_)
 go_simp
 refine (rside_k y _).mono ?_
 rintro e v4 ⟨rfl, gv4⟩
 refine hK.out _ _ (hHeld.trans gv4) (fun _ => ?_)
 replace hHeld := hHeld.trans gv4
 clear hK K
 refine rT 20 37 (.bool false) rfl rfl hHeld ?_
 simp only [pA, pN, sZ, sU]
 refine rT 21 38 (.bool false) rfl rfl hHeld ?_
 simp only [pA, pN, sZ, sU]
 refine wpAnyH_done (by kernel_rfl) ?_ _
 have KK5 := Lib.hid (KK2.out.trans hHeld)
 have HP5 := Lib.hid (HP.out.kept KK5.out)
 have HM5 := Lib.hid (MAt.kept HM.out KK5.out)
 have hcf5 := Lib.hid (kept_cell KK5.out hcf.out)
 have HK5 := Lib.hid (HK2.out.trans hHeld)
 clear hHeld
 have tt := HP5.out.turn
 have cf5 := hcf5.out
 rw [HTv.out] at tt
 rw [h4] at HPw
 go_wp2_with (first | (refine wpList_load_ps (by rfl) _ rfl _ rfl _ (HP5.out) ?_) | (refine wpList_load_pb (by rfl) _ rfl _ rfl _ (HP5.out) ?_) | (refine wpList_load_mv (by rfl) _ rfl _ rfl _ (HM5.out) ?_))
 refine (HPw.out _).mono ?_
 rintro e v6 ⟨rfl, k6⟩
 have KK6 := Lib.hid (KK5.out.trans k6)
 have HM6 := Lib.hid (MAt.kept HM.out KK6.out)
 have hct6 := Lib.hid (kept_cell KK6.out hct.out)
 have HK6 := Lib.hid (HK5.out.trans k6)
 clear k6 tt cf5
 have cp := HM6.out.p
 go_wp2
 go_ret
 exact ⟨by rw [HV.out]; rfl, HK6.out⟩
set_option maxHeartbeats 2000000 in
theorem rformed4wn (p : Ps) (hB : Brd p.B) (m : Mv) (f t : Nat) (hf : m.f = f) (ht : m.t = t) (f1 : f < 64) (t1 : t < 64) (h1 : (sideI (manA p.B m.f) == p.t) = true) (h3 : (sideI (manA p.B m.t) == p.t) = false) (h4 : (kindI (manA p.B m.f) == 1) = true) (hT : p.t = 0) (h5 : ((t : Int) / 8 == 7) = false) (w : World) :
  Calls Tryz.prog 77 #[.agg (pl p).toArray, .agg (ml m).toArray] w fun e w' => e = .returned (.bool (formB p m)) ∧ Kept w w' := by
 have HP : Hid (PAt _ _ p) := ⟨hB.1, heap_alloc2_old w (.cells (pl p).toArray 26) (.cells (ml m).toArray 36)⟩
 have HM : Hid (MAt _ _ m) := ⟨heap_alloc2_new w (.cells (pl p).toArray 26) (.cells (ml m).toArray 36)⟩
 have HK0 := Lib.hid (((Kept.refl w).alloc (.cells (pl p).toArray 26)).alloc (.cells (ml m).toArray 36))
 have hpl : Hid (p.B.length = 64) := hB.1
 have hon1 : onB m.f = true := by unfold onB; simp; omega
 have hon2 : onB m.t = true := by unfold onB; simp; omega
 have HC := Lib.hid (rright_k m.f)
 have HC2 := Lib.hid (rright_k m.t)
 rw [hon1, hf] at HC
 rw [hon2, ht] at HC2
 have em : manA p.B m.f = p.B.getD f 0 := by unfold manA bAt; rw [if_pos (by omega), hf, Int.toNat_natCast]
 have en : manA p.B m.t = p.B.getD t 0 := by unfold manA bAt; rw [if_pos (by omega), ht, Int.toNat_natCast]
 have xf := HM.out.f
 rw [hf] at xf
 have hcf := Lib.hid xf
 have xt := HM.out.t
 rw [ht] at xt
 have hct := Lib.hid xt
 have HQ1 := Lib.hid (HP.out.sq f f1)
 have HQ2 := Lib.hid (HP.out.sq t t1)
 have w1 := i8_i64 hB f1
 have w2 := i8_i64 hB t1
 have HPw := Lib.hid (rpawn_is p.B hB f f1)
 have HRk := Lib.hid (fun w => rrank_k (t : Int) w (by omega) (by omega))
 have hfI : (f : Int) < 64 := by omega
 have htI : (t : Int) < 64 := by omega
 rw [em] at h1 h4
 have HV : Hid (formB p m = (m.p == 0)) := by
  show _ = _
  rw [← promo_stay]
  unfold formB turnsB lastI
  rw [em, h1, hon2, h3, h4, hT, ht]
  simp only [if_true, if_false, show ((1 : Int) = 0) = False by simp]
  rw [h5]; rfl
 rw [en] at h3
 have HTv := Lib.hid hT
 clear hT
 generalize (t : Int) / 8 = rk at *
 have h1' : (sideI (p.B.getD f 0) != p.t) = false := by rw [bne, h1]; rfl
 clear hB hon1 hon2 em en hf ht xt
 generalize p.B.getD f 0 = x at *
 generalize p.B.getD t 0 = y at *
 go_enter Tryz.func77, Tryz.ntmps77
 go_wp2_with fail
 refine (HC.out _).mono ?_
 rintro e v1 ⟨rfl, k1⟩
 have HK1 := Lib.hid (HK0.out.trans k1)
 have hct1 := Lib.hid (kept_cell k1 hct.out)
 have xt := hct1.out
 have KK1 := Lib.hid k1
 clear k1 xf
 go_wp2_with fail
 refine (HC2.out _).mono ?_
 rintro e v2 ⟨rfl, k2⟩
 have HK2 := Lib.hid (HK1.out.trans k2)
 have KK2 := Lib.hid (KK1.out.trans k2)
 have HP2 := Lib.hid (HP.out.kept KK2.out)
 have HM2 := Lib.hid (MAt.kept HM.out KK2.out)
 have hcf2 := Lib.hid (kept_cell KK2.out hcf.out)
 have hct2 := Lib.hid (kept_cell KK2.out hct.out)
 have HQ12 := Lib.hid (kept_cell KK2.out HQ1.out)
 have HQ22 := Lib.hid (kept_cell KK2.out HQ2.out)
 clear k2 xt
 go_wp2
 refine wp_region_held_drew (S := Kept _) (by kernel_rfl) (Kept.refl _).drew (fun hHeld => ?_)
 refine rT 0 17 (.pointer (some ⟨w.heap.size + 1, 0, none⟩)) rfl rfl hHeld ?_
 simp only [pA, pN, sZ, sU]
 refine rC 1 18 (.int .i64 ↑f) rfl rfl (fun _ h => kept_cell h (hcf2.out)) hHeld ?_
 simp only [pA, pN, sZ, sU]
 refine rT 2 19 (.pointer (some ⟨w.heap.size, 0, none⟩)) rfl rfl hHeld ?_
 simp only [pA, pN, sZ, sU]
 refine rT 3 20 (.pointer (some ⟨w.heap.size, f, none⟩)) rfl rfl hHeld ?_
 simp only [pA, pN, sZ, sU]
 refine rC 4 21 (.int .i8 x) rfl rfl (fun _ h => kept_cell h (HQ12.out)) hHeld ?_
 simp only [pA, pN, sZ, sU]
 refine rT 5 22 (.int .i64 x) rfl rfl hHeld ?_
 simp only [pA, pN, sZ, sU]
 refine rT 7 24 (.pointer (some ⟨w.heap.size, 64, none⟩)) rfl rfl hHeld ?_
 simp only [pA, pN, sZ, sU]
 refine rC 8 25 (.int .i64 p.t) rfl rfl (fun _ h => kept_cell h (HP2.out.turn)) hHeld ?_
 simp only [pA, pN, sZ, sU]
 refine rR 6 rfl (fun K hK => ?_)
 go_simp
 refine (rside_k x _).mono ?_
 rintro e v3 ⟨rfl, gv3⟩
 refine hK.out _ _ (hHeld.trans gv3) (fun _ => ?_)
 replace hHeld := hHeld.trans gv3
 clear hK K
 refine rT 9 26 (.bool false) rfl rfl hHeld ?_
 simp only [pA, pN, sZ, sU]
 refine rT 10 27 (.bool false) rfl rfl hHeld ?_
 simp only [pA, pN, sZ, sU]
 refine rT 11 28 (.pointer (some ⟨w.heap.size + 1, 1, none⟩)) rfl rfl hHeld ?_
 simp only [pA, pN, sZ, sU]
 refine rC 12 29 (.int .i64 ↑t) rfl rfl (fun _ h => kept_cell h (hct2.out)) hHeld ?_
 simp only [pA, pN, sZ, sU]
 refine rT 13 30 (.pointer (some ⟨w.heap.size, 0, none⟩)) rfl rfl hHeld ?_
 simp only [pA, pN, sZ, sU]
 refine rT 14 31 (.pointer (some ⟨w.heap.size, t, none⟩)) rfl rfl hHeld ?_
 simp only [pA, pN, sZ, sU]
 refine rC 15 32 (.int .i8 y) rfl rfl (fun _ h => kept_cell h (HQ22.out)) hHeld ?_
 simp only [pA, pN, sZ, sU]
 refine rT 16 33 (.int .i64 y) rfl rfl hHeld ?_
 simp only [pA, pN, sZ, sU]
 refine rT 18 35 (.pointer (some ⟨w.heap.size, 64, none⟩)) rfl rfl hHeld ?_
 simp only [pA, pN, sZ, sU]
 refine rC 19 36 (.int .i64 p.t) rfl rfl (fun _ h => kept_cell h (HP2.out.turn)) hHeld ?_
 simp only [pA, pN, sZ, sU]
 refine rR 17 rfl (fun K hK => ?_)
 go_simp
 refine (rside_k y _).mono ?_
 rintro e v4 ⟨rfl, gv4⟩
 refine hK.out _ _ (hHeld.trans gv4) (fun _ => ?_)
 replace hHeld := hHeld.trans gv4
 clear hK K
 refine rT 20 37 (.bool false) rfl rfl hHeld ?_
 simp only [pA, pN, sZ, sU]
 refine rT 21 38 (.bool false) rfl rfl hHeld ?_
 simp only [pA, pN, sZ, sU]
 refine wpAnyH_done (by kernel_rfl) ?_ _
 have KK5 := Lib.hid (KK2.out.trans hHeld)
 have HP5 := Lib.hid (HP.out.kept KK5.out)
 have HM5 := Lib.hid (MAt.kept HM.out KK5.out)
 have hcf5 := Lib.hid (kept_cell KK5.out hcf.out)
 have HK5 := Lib.hid (HK2.out.trans hHeld)
 clear hHeld
 have tt := HP5.out.turn
 have cf5 := hcf5.out
 rw [HTv.out] at tt
 rw [h4] at HPw
 go_wp2_with (first | (refine wpList_load_ps (by rfl) _ rfl _ rfl _ (HP5.out) ?_) | (refine wpList_load_pb (by rfl) _ rfl _ rfl _ (HP5.out) ?_) | (refine wpList_load_mv (by rfl) _ rfl _ rfl _ (HM5.out) ?_))
 refine (HPw.out _).mono ?_
 rintro e v6 ⟨rfl, k6⟩
 have KK6 := Lib.hid (KK5.out.trans k6)
 have HM6 := Lib.hid (MAt.kept HM.out KK6.out)
 have hct6 := Lib.hid (kept_cell KK6.out hct.out)
 have HK6 := Lib.hid (HK5.out.trans k6)
 clear k6 tt cf5
 have ct6 := hct6.out
 go_wp2_with fail
 refine (HRk.out _).mono ?_
 rintro e v7 ⟨rfl, k7⟩
 have HM7 := Lib.hid (MAt.kept HM6.out k7)
 have HK7 := Lib.hid (HK6.out.trans k7)
 clear k7 ct6
 have cp := HM7.out.p
 go_wp2
 go_ret
 exact ⟨by rw [HV.out]; rfl, HK7.out⟩
set_option maxHeartbeats 2000000 in
theorem rformed4wy (p : Ps) (hB : Brd p.B) (m : Mv) (f t : Nat) (hf : m.f = f) (ht : m.t = t) (f1 : f < 64) (t1 : t < 64) (h1 : (sideI (manA p.B m.f) == p.t) = true) (h3 : (sideI (manA p.B m.t) == p.t) = false) (h4 : (kindI (manA p.B m.f) == 1) = true) (hT : p.t = 0) (h5 : ((t : Int) / 8 == 7) = true) (w : World) :
  Calls Tryz.prog 77 #[.agg (pl p).toArray, .agg (ml m).toArray] w fun e w' => e = .returned (.bool (formB p m)) ∧ Kept w w' := by
 have HP : Hid (PAt _ _ p) := ⟨hB.1, heap_alloc2_old w (.cells (pl p).toArray 26) (.cells (ml m).toArray 36)⟩
 have HM : Hid (MAt _ _ m) := ⟨heap_alloc2_new w (.cells (pl p).toArray 26) (.cells (ml m).toArray 36)⟩
 have HK0 := Lib.hid (((Kept.refl w).alloc (.cells (pl p).toArray 26)).alloc (.cells (ml m).toArray 36))
 have hpl : Hid (p.B.length = 64) := hB.1
 have hon1 : onB m.f = true := by unfold onB; simp; omega
 have hon2 : onB m.t = true := by unfold onB; simp; omega
 have HC := Lib.hid (rright_k m.f)
 have HC2 := Lib.hid (rright_k m.t)
 rw [hon1, hf] at HC
 rw [hon2, ht] at HC2
 have em : manA p.B m.f = p.B.getD f 0 := by unfold manA bAt; rw [if_pos (by omega), hf, Int.toNat_natCast]
 have en : manA p.B m.t = p.B.getD t 0 := by unfold manA bAt; rw [if_pos (by omega), ht, Int.toNat_natCast]
 have xf := HM.out.f
 rw [hf] at xf
 have hcf := Lib.hid xf
 have xt := HM.out.t
 rw [ht] at xt
 have hct := Lib.hid xt
 have HQ1 := Lib.hid (HP.out.sq f f1)
 have HQ2 := Lib.hid (HP.out.sq t t1)
 have w1 := i8_i64 hB f1
 have w2 := i8_i64 hB t1
 have HPw := Lib.hid (rpawn_is p.B hB f f1)
 have HRk := Lib.hid (fun w => rrank_k (t : Int) w (by omega) (by omega))
 have hfI : (f : Int) < 64 := by omega
 have htI : (t : Int) < 64 := by omega
 rw [em] at h1 h4
 have HV : Hid (formB p m = (decide (2 ≤ m.p) && decide (m.p ≤ 5))) := by
  show _ = _
  rw [← promo_turn]
  unfold formB turnsB lastI
  rw [em, h1, hon2, h3, h4, hT, ht]
  simp only [if_true, if_false, show ((1 : Int) = 0) = False by simp]
  rw [h5]; rfl
 rw [en] at h3
 have HTv := Lib.hid hT
 clear hT
 generalize (t : Int) / 8 = rk at *
 have h1' : (sideI (p.B.getD f 0) != p.t) = false := by rw [bne, h1]; rfl
 clear hB hon1 hon2 em en hf ht xt
 generalize p.B.getD f 0 = x at *
 generalize p.B.getD t 0 = y at *
 go_enter Tryz.func77, Tryz.ntmps77
 go_wp2_with fail
 refine (HC.out _).mono ?_
 rintro e v1 ⟨rfl, k1⟩
 have HK1 := Lib.hid (HK0.out.trans k1)
 have hct1 := Lib.hid (kept_cell k1 hct.out)
 have xt := hct1.out
 have KK1 := Lib.hid k1
 clear k1 xf
 go_wp2_with fail
 refine (HC2.out _).mono ?_
 rintro e v2 ⟨rfl, k2⟩
 have HK2 := Lib.hid (HK1.out.trans k2)
 have KK2 := Lib.hid (KK1.out.trans k2)
 have HP2 := Lib.hid (HP.out.kept KK2.out)
 have HM2 := Lib.hid (MAt.kept HM.out KK2.out)
 have hcf2 := Lib.hid (kept_cell KK2.out hcf.out)
 have hct2 := Lib.hid (kept_cell KK2.out hct.out)
 have HQ12 := Lib.hid (kept_cell KK2.out HQ1.out)
 have HQ22 := Lib.hid (kept_cell KK2.out HQ2.out)
 clear k2 xt
 go_wp2
 refine wp_region_held_drew (S := Kept _) (by kernel_rfl) (Kept.refl _).drew (fun hHeld => ?_)
 refine rT 0 17 (.pointer (some ⟨w.heap.size + 1, 0, none⟩)) rfl rfl hHeld ?_
 simp only [pA, pN, sZ, sU]
 refine rC 1 18 (.int .i64 ↑f) rfl rfl (fun _ h => kept_cell h (hcf2.out)) hHeld ?_
 simp only [pA, pN, sZ, sU]
 refine rT 2 19 (.pointer (some ⟨w.heap.size, 0, none⟩)) rfl rfl hHeld ?_
 simp only [pA, pN, sZ, sU]
 refine rT 3 20 (.pointer (some ⟨w.heap.size, f, none⟩)) rfl rfl hHeld ?_
 simp only [pA, pN, sZ, sU]
 refine rC 4 21 (.int .i8 x) rfl rfl (fun _ h => kept_cell h (HQ12.out)) hHeld ?_
 simp only [pA, pN, sZ, sU]
 refine rT 5 22 (.int .i64 x) rfl rfl hHeld ?_
 simp only [pA, pN, sZ, sU]
 refine rT 7 24 (.pointer (some ⟨w.heap.size, 64, none⟩)) rfl rfl hHeld ?_
 simp only [pA, pN, sZ, sU]
 refine rC 8 25 (.int .i64 p.t) rfl rfl (fun _ h => kept_cell h (HP2.out.turn)) hHeld ?_
 simp only [pA, pN, sZ, sU]
 refine rR 6 rfl (fun K hK => ?_)
 go_simp
 refine (rside_k x _).mono ?_
 rintro e v3 ⟨rfl, gv3⟩
 refine hK.out _ _ (hHeld.trans gv3) (fun _ => ?_)
 replace hHeld := hHeld.trans gv3
 clear hK K
 refine rT 9 26 (.bool false) rfl rfl hHeld ?_
 simp only [pA, pN, sZ, sU]
 refine rT 10 27 (.bool false) rfl rfl hHeld ?_
 simp only [pA, pN, sZ, sU]
 refine rT 11 28 (.pointer (some ⟨w.heap.size + 1, 1, none⟩)) rfl rfl hHeld ?_
 simp only [pA, pN, sZ, sU]
 refine rC 12 29 (.int .i64 ↑t) rfl rfl (fun _ h => kept_cell h (hct2.out)) hHeld ?_
 simp only [pA, pN, sZ, sU]
 refine rT 13 30 (.pointer (some ⟨w.heap.size, 0, none⟩)) rfl rfl hHeld ?_
 simp only [pA, pN, sZ, sU]
 refine rT 14 31 (.pointer (some ⟨w.heap.size, t, none⟩)) rfl rfl hHeld ?_
 simp only [pA, pN, sZ, sU]
 refine rC 15 32 (.int .i8 y) rfl rfl (fun _ h => kept_cell h (HQ22.out)) hHeld ?_
 simp only [pA, pN, sZ, sU]
 refine rT 16 33 (.int .i64 y) rfl rfl hHeld ?_
 simp only [pA, pN, sZ, sU]
 refine rT 18 35 (.pointer (some ⟨w.heap.size, 64, none⟩)) rfl rfl hHeld ?_
 simp only [pA, pN, sZ, sU]
 refine rC 19 36 (.int .i64 p.t) rfl rfl (fun _ h => kept_cell h (HP2.out.turn)) hHeld ?_
 simp only [pA, pN, sZ, sU]
 refine rR 17 rfl (fun K hK => ?_)
 go_simp
 refine (rside_k y _).mono ?_
 rintro e v4 ⟨rfl, gv4⟩
 refine hK.out _ _ (hHeld.trans gv4) (fun _ => ?_)
 replace hHeld := hHeld.trans gv4
 clear hK K
 refine rT 20 37 (.bool false) rfl rfl hHeld ?_
 simp only [pA, pN, sZ, sU]
 refine rT 21 38 (.bool false) rfl rfl hHeld ?_
 simp only [pA, pN, sZ, sU]
 refine wpAnyH_done (by kernel_rfl) ?_ _
 have KK5 := Lib.hid (KK2.out.trans hHeld)
 have HP5 := Lib.hid (HP.out.kept KK5.out)
 have HM5 := Lib.hid (MAt.kept HM.out KK5.out)
 have hcf5 := Lib.hid (kept_cell KK5.out hcf.out)
 have HK5 := Lib.hid (HK2.out.trans hHeld)
 clear hHeld
 have tt := HP5.out.turn
 have cf5 := hcf5.out
 rw [HTv.out] at tt
 rw [h4] at HPw
 go_wp2_with (first | (refine wpList_load_ps (by rfl) _ rfl _ rfl _ (HP5.out) ?_) | (refine wpList_load_pb (by rfl) _ rfl _ rfl _ (HP5.out) ?_) | (refine wpList_load_mv (by rfl) _ rfl _ rfl _ (HM5.out) ?_))
 refine (HPw.out _).mono ?_
 rintro e v6 ⟨rfl, k6⟩
 have KK6 := Lib.hid (KK5.out.trans k6)
 have HM6 := Lib.hid (MAt.kept HM.out KK6.out)
 have hct6 := Lib.hid (kept_cell KK6.out hct.out)
 have HK6 := Lib.hid (HK5.out.trans k6)
 clear k6 tt cf5
 have ct6 := hct6.out
 go_wp2_with fail
 refine (HRk.out _).mono ?_
 rintro e v7 ⟨rfl, k7⟩
 have HM7 := Lib.hid (MAt.kept HM6.out k7)
 have HK7 := Lib.hid (HK6.out.trans k7)
 clear k7 ct6
 have cp := HM7.out.p
 cases h6 : decide (2 ≤ m.p)
 ·rw [h6] at HV
  go_wp2
  go_ret
  exact ⟨by rw [HV.out]; rfl, HK7.out⟩
 ·rw [h6] at HV
  go_wp2
  go_ret
  exact ⟨by rw [HV.out]; rfl, HK7.out⟩
set_option maxHeartbeats 2000000 in
theorem rformed3b (p : Ps) (hB : Brd p.B) (m : Mv) (f t : Nat) (hf : m.f = f) (ht : m.t = t) (f1 : f < 64) (t1 : t < 64) (h1 : (sideI (manA p.B m.f) == p.t) = true) (h3 : (sideI (manA p.B m.t) == p.t) = false) (h4 : (kindI (manA p.B m.f) == 1) = false) (hT : p.t = 1) (w : World) :
  Calls Tryz.prog 77 #[.agg (pl p).toArray, .agg (ml m).toArray] w fun e w' => e = .returned (.bool (formB p m)) ∧ Kept w w' := by
 have HP : Hid (PAt _ _ p) := ⟨hB.1, heap_alloc2_old w (.cells (pl p).toArray 26) (.cells (ml m).toArray 36)⟩
 have HM : Hid (MAt _ _ m) := ⟨heap_alloc2_new w (.cells (pl p).toArray 26) (.cells (ml m).toArray 36)⟩
 have HK0 := Lib.hid (((Kept.refl w).alloc (.cells (pl p).toArray 26)).alloc (.cells (ml m).toArray 36))
 have hpl : Hid (p.B.length = 64) := hB.1
 have hon1 : onB m.f = true := by unfold onB; simp; omega
 have hon2 : onB m.t = true := by unfold onB; simp; omega
 have HC := Lib.hid (rright_k m.f)
 have HC2 := Lib.hid (rright_k m.t)
 rw [hon1, hf] at HC
 rw [hon2, ht] at HC2
 have em : manA p.B m.f = p.B.getD f 0 := by unfold manA bAt; rw [if_pos (by omega), hf, Int.toNat_natCast]
 have en : manA p.B m.t = p.B.getD t 0 := by unfold manA bAt; rw [if_pos (by omega), ht, Int.toNat_natCast]
 have xf := HM.out.f
 rw [hf] at xf
 have hcf := Lib.hid xf
 have xt := HM.out.t
 rw [ht] at xt
 have hct := Lib.hid xt
 have HQ1 := Lib.hid (HP.out.sq f f1)
 have HQ2 := Lib.hid (HP.out.sq t t1)
 have w1 := i8_i64 hB f1
 have w2 := i8_i64 hB t1
 have HPw := Lib.hid (rpawn_is p.B hB f f1)
 have HRk := Lib.hid (fun w => rrank_k (t : Int) w (by omega) (by omega))
 have hfI : (f : Int) < 64 := by omega
 have htI : (t : Int) < 64 := by omega
 rw [em] at h1 h4
 have HV : Hid (formB p m = (m.p == 0)) := by
  show _ = _
  rw [← promo_stay]
  unfold formB turnsB
  rw [em, h1, hon2, h3, h4]; rfl
 rw [en] at h3
 have HTv := Lib.hid hT
 clear hT
 have h1' : (sideI (p.B.getD f 0) != p.t) = false := by rw [bne, h1]; rfl
 clear hB hon1 hon2 em en hf ht xt
 generalize p.B.getD f 0 = x at *
 generalize p.B.getD t 0 = y at *
 go_enter Tryz.func77, Tryz.ntmps77
 go_wp2_with fail
 refine (HC.out _).mono ?_
 rintro e v1 ⟨rfl, k1⟩
 have HK1 := Lib.hid (HK0.out.trans k1)
 have hct1 := Lib.hid (kept_cell k1 hct.out)
 have xt := hct1.out
 have KK1 := Lib.hid k1
 clear k1 xf
 go_wp2_with fail
 refine (HC2.out _).mono ?_
 rintro e v2 ⟨rfl, k2⟩
 have HK2 := Lib.hid (HK1.out.trans k2)
 have KK2 := Lib.hid (KK1.out.trans k2)
 have HP2 := Lib.hid (HP.out.kept KK2.out)
 have HM2 := Lib.hid (MAt.kept HM.out KK2.out)
 have hcf2 := Lib.hid (kept_cell KK2.out hcf.out)
 have hct2 := Lib.hid (kept_cell KK2.out hct.out)
 have HQ12 := Lib.hid (kept_cell KK2.out HQ1.out)
 have HQ22 := Lib.hid (kept_cell KK2.out HQ2.out)
 clear k2 xt
 go_wp2
 refine wp_region_held_drew (S := Kept _) (by kernel_rfl) (Kept.refl _).drew (fun hHeld => ?_)
 refine rT 0 17 (.pointer (some ⟨w.heap.size + 1, 0, none⟩)) rfl rfl hHeld ?_
 simp only [pA, pN, sZ, sU]
 refine rC 1 18 (.int .i64 ↑f) rfl rfl (fun _ h => kept_cell h (hcf2.out)) hHeld ?_
 simp only [pA, pN, sZ, sU]
 refine rT 2 19 (.pointer (some ⟨w.heap.size, 0, none⟩)) rfl rfl hHeld ?_
 simp only [pA, pN, sZ, sU]
 refine rT 3 20 (.pointer (some ⟨w.heap.size, f, none⟩)) rfl rfl hHeld ?_
 simp only [pA, pN, sZ, sU]
 refine rC 4 21 (.int .i8 x) rfl rfl (fun _ h => kept_cell h (HQ12.out)) hHeld ?_
 simp only [pA, pN, sZ, sU]
 refine rT 5 22 (.int .i64 x) rfl rfl hHeld ?_
 simp only [pA, pN, sZ, sU]
 refine rT 7 24 (.pointer (some ⟨w.heap.size, 64, none⟩)) rfl rfl hHeld ?_
 simp only [pA, pN, sZ, sU]
 refine rC 8 25 (.int .i64 p.t) rfl rfl (fun _ h => kept_cell h (HP2.out.turn)) hHeld ?_
 simp only [pA, pN, sZ, sU]
 refine rR 6 rfl (fun K hK => ?_)
 go_simp
 refine (rside_k x _).mono ?_
 rintro e v3 ⟨rfl, gv3⟩
 refine hK.out _ _ (hHeld.trans gv3) (fun _ => ?_)
 replace hHeld := hHeld.trans gv3
 clear hK K
 refine rT 9 26 (.bool false) rfl rfl hHeld ?_
 simp only [pA, pN, sZ, sU]
 refine rT 10 27 (.bool false) rfl rfl hHeld ?_
 simp only [pA, pN, sZ, sU]
 refine rT 11 28 (.pointer (some ⟨w.heap.size + 1, 1, none⟩)) rfl rfl hHeld ?_
 simp only [pA, pN, sZ, sU]
 refine rC 12 29 (.int .i64 ↑t) rfl rfl (fun _ h => kept_cell h (hct2.out)) hHeld ?_
 simp only [pA, pN, sZ, sU]
 refine rT 13 30 (.pointer (some ⟨w.heap.size, 0, none⟩)) rfl rfl hHeld ?_
 simp only [pA, pN, sZ, sU]
 refine rT 14 31 (.pointer (some ⟨w.heap.size, t, none⟩)) rfl rfl hHeld ?_
 simp only [pA, pN, sZ, sU]
 refine rC 15 32 (.int .i8 y) rfl rfl (fun _ h => kept_cell h (HQ22.out)) hHeld ?_
 simp only [pA, pN, sZ, sU]
 refine rT 16 33 (.int .i64 y) rfl rfl hHeld ?_
 simp only [pA, pN, sZ, sU]
 refine rT 18 35 (.pointer (some ⟨w.heap.size, 64, none⟩)) rfl rfl hHeld ?_
 simp only [pA, pN, sZ, sU]
 refine rC 19 36 (.int .i64 p.t) rfl rfl (fun _ h => kept_cell h (HP2.out.turn)) hHeld ?_
 simp only [pA, pN, sZ, sU]
 refine rR 17 rfl (fun K hK => ?_)
 go_simp
 refine (rside_k y _).mono ?_
 rintro e v4 ⟨rfl, gv4⟩
 refine hK.out _ _ (hHeld.trans gv4) (fun _ => ?_)
 replace hHeld := hHeld.trans gv4
 clear hK K
 refine rT 20 37 (.bool false) rfl rfl hHeld ?_
 simp only [pA, pN, sZ, sU]
 refine rT 21 38 (.bool false) rfl rfl hHeld ?_
 simp only [pA, pN, sZ, sU]
 refine wpAnyH_done (by kernel_rfl) ?_ _
 have KK5 := Lib.hid (KK2.out.trans hHeld)
 have HP5 := Lib.hid (HP.out.kept KK5.out)
 have HM5 := Lib.hid (MAt.kept HM.out KK5.out)
 have hcf5 := Lib.hid (kept_cell KK5.out hcf.out)
 have HK5 := Lib.hid (HK2.out.trans hHeld)
 clear hHeld
 have tt := HP5.out.turn
 have cf5 := hcf5.out
 rw [HTv.out] at tt
 rw [h4] at HPw
 go_wp2_with (first | (refine wpList_load_ps (by rfl) _ rfl _ rfl _ (HP5.out) ?_) | (refine wpList_load_pb (by rfl) _ rfl _ rfl _ (HP5.out) ?_) | (refine wpList_load_mv (by rfl) _ rfl _ rfl _ (HM5.out) ?_))
 refine (HPw.out _).mono ?_
 rintro e v6 ⟨rfl, k6⟩
 have KK6 := Lib.hid (KK5.out.trans k6)
 have HM6 := Lib.hid (MAt.kept HM.out KK6.out)
 have hct6 := Lib.hid (kept_cell KK6.out hct.out)
 have HK6 := Lib.hid (HK5.out.trans k6)
 clear k6 tt cf5
 have cp := HM6.out.p
 go_wp2
 go_ret
 exact ⟨by rw [HV.out]; rfl, HK6.out⟩
set_option maxHeartbeats 2000000 in
theorem rformed4bn (p : Ps) (hB : Brd p.B) (m : Mv) (f t : Nat) (hf : m.f = f) (ht : m.t = t) (f1 : f < 64) (t1 : t < 64) (h1 : (sideI (manA p.B m.f) == p.t) = true) (h3 : (sideI (manA p.B m.t) == p.t) = false) (h4 : (kindI (manA p.B m.f) == 1) = true) (hT : p.t = 1) (h5 : ((t : Int) / 8 == 0) = false) (w : World) :
  Calls Tryz.prog 77 #[.agg (pl p).toArray, .agg (ml m).toArray] w fun e w' => e = .returned (.bool (formB p m)) ∧ Kept w w' := by
 have HP : Hid (PAt _ _ p) := ⟨hB.1, heap_alloc2_old w (.cells (pl p).toArray 26) (.cells (ml m).toArray 36)⟩
 have HM : Hid (MAt _ _ m) := ⟨heap_alloc2_new w (.cells (pl p).toArray 26) (.cells (ml m).toArray 36)⟩
 have HK0 := Lib.hid (((Kept.refl w).alloc (.cells (pl p).toArray 26)).alloc (.cells (ml m).toArray 36))
 have hpl : Hid (p.B.length = 64) := hB.1
 have hon1 : onB m.f = true := by unfold onB; simp; omega
 have hon2 : onB m.t = true := by unfold onB; simp; omega
 have HC := Lib.hid (rright_k m.f)
 have HC2 := Lib.hid (rright_k m.t)
 rw [hon1, hf] at HC
 rw [hon2, ht] at HC2
 have em : manA p.B m.f = p.B.getD f 0 := by unfold manA bAt; rw [if_pos (by omega), hf, Int.toNat_natCast]
 have en : manA p.B m.t = p.B.getD t 0 := by unfold manA bAt; rw [if_pos (by omega), ht, Int.toNat_natCast]
 have xf := HM.out.f
 rw [hf] at xf
 have hcf := Lib.hid xf
 have xt := HM.out.t
 rw [ht] at xt
 have hct := Lib.hid xt
 have HQ1 := Lib.hid (HP.out.sq f f1)
 have HQ2 := Lib.hid (HP.out.sq t t1)
 have w1 := i8_i64 hB f1
 have w2 := i8_i64 hB t1
 have HPw := Lib.hid (rpawn_is p.B hB f f1)
 have HRk := Lib.hid (fun w => rrank_k (t : Int) w (by omega) (by omega))
 have hfI : (f : Int) < 64 := by omega
 have htI : (t : Int) < 64 := by omega
 rw [em] at h1 h4
 have HV : Hid (formB p m = (m.p == 0)) := by
  show _ = _
  rw [← promo_stay]
  unfold formB turnsB lastI
  rw [em, h1, hon2, h3, h4, hT, ht]
  simp only [if_true, if_false, show ((1 : Int) = 0) = False by simp]
  rw [h5]; rfl
 rw [en] at h3
 have HTv := Lib.hid hT
 clear hT
 generalize (t : Int) / 8 = rk at *
 have h1' : (sideI (p.B.getD f 0) != p.t) = false := by rw [bne, h1]; rfl
 clear hB hon1 hon2 em en hf ht xt
 generalize p.B.getD f 0 = x at *
 generalize p.B.getD t 0 = y at *
 go_enter Tryz.func77, Tryz.ntmps77
 go_wp2_with fail
 refine (HC.out _).mono ?_
 rintro e v1 ⟨rfl, k1⟩
 have HK1 := Lib.hid (HK0.out.trans k1)
 have hct1 := Lib.hid (kept_cell k1 hct.out)
 have xt := hct1.out
 have KK1 := Lib.hid k1
 clear k1 xf
 go_wp2_with fail
 refine (HC2.out _).mono ?_
 rintro e v2 ⟨rfl, k2⟩
 have HK2 := Lib.hid (HK1.out.trans k2)
 have KK2 := Lib.hid (KK1.out.trans k2)
 have HP2 := Lib.hid (HP.out.kept KK2.out)
 have HM2 := Lib.hid (MAt.kept HM.out KK2.out)
 have hcf2 := Lib.hid (kept_cell KK2.out hcf.out)
 have hct2 := Lib.hid (kept_cell KK2.out hct.out)
 have HQ12 := Lib.hid (kept_cell KK2.out HQ1.out)
 have HQ22 := Lib.hid (kept_cell KK2.out HQ2.out)
 clear k2 xt
 go_wp2
 refine wp_region_held_drew (S := Kept _) (by kernel_rfl) (Kept.refl _).drew (fun hHeld => ?_)
 refine rT 0 17 (.pointer (some ⟨w.heap.size + 1, 0, none⟩)) rfl rfl hHeld ?_
 simp only [pA, pN, sZ, sU]
 refine rC 1 18 (.int .i64 ↑f) rfl rfl (fun _ h => kept_cell h (hcf2.out)) hHeld ?_
 simp only [pA, pN, sZ, sU]
 refine rT 2 19 (.pointer (some ⟨w.heap.size, 0, none⟩)) rfl rfl hHeld ?_
 simp only [pA, pN, sZ, sU]
 refine rT 3 20 (.pointer (some ⟨w.heap.size, f, none⟩)) rfl rfl hHeld ?_
 simp only [pA, pN, sZ, sU]
 refine rC 4 21 (.int .i8 x) rfl rfl (fun _ h => kept_cell h (HQ12.out)) hHeld ?_
 simp only [pA, pN, sZ, sU]
 refine rT 5 22 (.int .i64 x) rfl rfl hHeld ?_
 simp only [pA, pN, sZ, sU]
 refine rT 7 24 (.pointer (some ⟨w.heap.size, 64, none⟩)) rfl rfl hHeld ?_
 simp only [pA, pN, sZ, sU]
 refine rC 8 25 (.int .i64 p.t) rfl rfl (fun _ h => kept_cell h (HP2.out.turn)) hHeld ?_
 simp only [pA, pN, sZ, sU]
 refine rR 6 rfl (fun K hK => ?_)
 go_simp
 refine (rside_k x _).mono ?_
 rintro e v3 ⟨rfl, gv3⟩
 refine hK.out _ _ (hHeld.trans gv3) (fun _ => ?_)
 replace hHeld := hHeld.trans gv3
 clear hK K
 refine rT 9 26 (.bool false) rfl rfl hHeld ?_
 simp only [pA, pN, sZ, sU]
 refine rT 10 27 (.bool false) rfl rfl hHeld ?_
 simp only [pA, pN, sZ, sU]
 refine rT 11 28 (.pointer (some ⟨w.heap.size + 1, 1, none⟩)) rfl rfl hHeld ?_
 simp only [pA, pN, sZ, sU]
 refine rC 12 29 (.int .i64 ↑t) rfl rfl (fun _ h => kept_cell h (hct2.out)) hHeld ?_
 simp only [pA, pN, sZ, sU]
 refine rT 13 30 (.pointer (some ⟨w.heap.size, 0, none⟩)) rfl rfl hHeld ?_
 simp only [pA, pN, sZ, sU]
 refine rT 14 31 (.pointer (some ⟨w.heap.size, t, none⟩)) rfl rfl hHeld ?_
 simp only [pA, pN, sZ, sU]
 refine rC 15 32 (.int .i8 y) rfl rfl (fun _ h => kept_cell h (HQ22.out)) hHeld ?_
 simp only [pA, pN, sZ, sU]
 refine rT 16 33 (.int .i64 y) rfl rfl hHeld ?_
 simp only [pA, pN, sZ, sU]
 refine rT 18 35 (.pointer (some ⟨w.heap.size, 64, none⟩)) rfl rfl hHeld ?_
 simp only [pA, pN, sZ, sU]
 refine rC 19 36 (.int .i64 p.t) rfl rfl (fun _ h => kept_cell h (HP2.out.turn)) hHeld ?_
 simp only [pA, pN, sZ, sU]
 refine rR 17 rfl (fun K hK => ?_)
 go_simp
 refine (rside_k y _).mono ?_
 rintro e v4 ⟨rfl, gv4⟩
 refine hK.out _ _ (hHeld.trans gv4) (fun _ => ?_)
 replace hHeld := hHeld.trans gv4
 clear hK K
 refine rT 20 37 (.bool false) rfl rfl hHeld ?_
 simp only [pA, pN, sZ, sU]
 refine rT 21 38 (.bool false) rfl rfl hHeld ?_
 simp only [pA, pN, sZ, sU]
 refine wpAnyH_done (by kernel_rfl) ?_ _
 have KK5 := Lib.hid (KK2.out.trans hHeld)
 have HP5 := Lib.hid (HP.out.kept KK5.out)
 have HM5 := Lib.hid (MAt.kept HM.out KK5.out)
 have hcf5 := Lib.hid (kept_cell KK5.out hcf.out)
 have HK5 := Lib.hid (HK2.out.trans hHeld)
 clear hHeld
 have tt := HP5.out.turn
 have cf5 := hcf5.out
 rw [HTv.out] at tt
 rw [h4] at HPw
 go_wp2_with (first | (refine wpList_load_ps (by rfl) _ rfl _ rfl _ (HP5.out) ?_) | (refine wpList_load_pb (by rfl) _ rfl _ rfl _ (HP5.out) ?_) | (refine wpList_load_mv (by rfl) _ rfl _ rfl _ (HM5.out) ?_))
 refine (HPw.out _).mono ?_
 rintro e v6 ⟨rfl, k6⟩
 have KK6 := Lib.hid (KK5.out.trans k6)
 have HM6 := Lib.hid (MAt.kept HM.out KK6.out)
 have hct6 := Lib.hid (kept_cell KK6.out hct.out)
 have HK6 := Lib.hid (HK5.out.trans k6)
 clear k6 tt cf5
 have ct6 := hct6.out
 go_wp2_with fail
 refine (HRk.out _).mono ?_
 rintro e v7 ⟨rfl, k7⟩
 have HM7 := Lib.hid (MAt.kept HM6.out k7)
 have HK7 := Lib.hid (HK6.out.trans k7)
 clear k7 ct6
 have cp := HM7.out.p
 go_wp2
 go_ret
 exact ⟨by rw [HV.out]; rfl, HK7.out⟩
set_option maxHeartbeats 2000000 in
theorem rformed4by (p : Ps) (hB : Brd p.B) (m : Mv) (f t : Nat) (hf : m.f = f) (ht : m.t = t) (f1 : f < 64) (t1 : t < 64) (h1 : (sideI (manA p.B m.f) == p.t) = true) (h3 : (sideI (manA p.B m.t) == p.t) = false) (h4 : (kindI (manA p.B m.f) == 1) = true) (hT : p.t = 1) (h5 : ((t : Int) / 8 == 0) = true) (w : World) :
  Calls Tryz.prog 77 #[.agg (pl p).toArray, .agg (ml m).toArray] w fun e w' => e = .returned (.bool (formB p m)) ∧ Kept w w' := by
 have HP : Hid (PAt _ _ p) := ⟨hB.1, heap_alloc2_old w (.cells (pl p).toArray 26) (.cells (ml m).toArray 36)⟩
 have HM : Hid (MAt _ _ m) := ⟨heap_alloc2_new w (.cells (pl p).toArray 26) (.cells (ml m).toArray 36)⟩
 have HK0 := Lib.hid (((Kept.refl w).alloc (.cells (pl p).toArray 26)).alloc (.cells (ml m).toArray 36))
 have hpl : Hid (p.B.length = 64) := hB.1
 have hon1 : onB m.f = true := by unfold onB; simp; omega
 have hon2 : onB m.t = true := by unfold onB; simp; omega
 have HC := Lib.hid (rright_k m.f)
 have HC2 := Lib.hid (rright_k m.t)
 rw [hon1, hf] at HC
 rw [hon2, ht] at HC2
 have em : manA p.B m.f = p.B.getD f 0 := by unfold manA bAt; rw [if_pos (by omega), hf, Int.toNat_natCast]
 have en : manA p.B m.t = p.B.getD t 0 := by unfold manA bAt; rw [if_pos (by omega), ht, Int.toNat_natCast]
 have xf := HM.out.f
 rw [hf] at xf
 have hcf := Lib.hid xf
 have xt := HM.out.t
 rw [ht] at xt
 have hct := Lib.hid xt
 have HQ1 := Lib.hid (HP.out.sq f f1)
 have HQ2 := Lib.hid (HP.out.sq t t1)
 have w1 := i8_i64 hB f1
 have w2 := i8_i64 hB t1
 have HPw := Lib.hid (rpawn_is p.B hB f f1)
 have HRk := Lib.hid (fun w => rrank_k (t : Int) w (by omega) (by omega))
 have hfI : (f : Int) < 64 := by omega
 have htI : (t : Int) < 64 := by omega
 rw [em] at h1 h4
 have HV : Hid (formB p m = (decide (2 ≤ m.p) && decide (m.p ≤ 5))) := by
  show _ = _
  rw [← promo_turn]
  unfold formB turnsB lastI
  rw [em, h1, hon2, h3, h4, hT, ht]
  simp only [if_true, if_false, show ((1 : Int) = 0) = False by simp]
  rw [h5]; rfl
 rw [en] at h3
 have HTv := Lib.hid hT
 clear hT
 generalize (t : Int) / 8 = rk at *
 have h1' : (sideI (p.B.getD f 0) != p.t) = false := by rw [bne, h1]; rfl
 clear hB hon1 hon2 em en hf ht xt
 generalize p.B.getD f 0 = x at *
 generalize p.B.getD t 0 = y at *
 go_enter Tryz.func77, Tryz.ntmps77
 go_wp2_with fail
 refine (HC.out _).mono ?_
 rintro e v1 ⟨rfl, k1⟩
 have HK1 := Lib.hid (HK0.out.trans k1)
 have hct1 := Lib.hid (kept_cell k1 hct.out)
 have xt := hct1.out
 have KK1 := Lib.hid k1
 clear k1 xf
 go_wp2_with fail
 refine (HC2.out _).mono ?_
 rintro e v2 ⟨rfl, k2⟩
 have HK2 := Lib.hid (HK1.out.trans k2)
 have KK2 := Lib.hid (KK1.out.trans k2)
 have HP2 := Lib.hid (HP.out.kept KK2.out)
 have HM2 := Lib.hid (MAt.kept HM.out KK2.out)
 have hcf2 := Lib.hid (kept_cell KK2.out hcf.out)
 have hct2 := Lib.hid (kept_cell KK2.out hct.out)
 have HQ12 := Lib.hid (kept_cell KK2.out HQ1.out)
 have HQ22 := Lib.hid (kept_cell KK2.out HQ2.out)
 clear k2 xt
 go_wp2
 refine wp_region_held_drew (S := Kept _) (by kernel_rfl) (Kept.refl _).drew (fun hHeld => ?_)
 refine rT 0 17 (.pointer (some ⟨w.heap.size + 1, 0, none⟩)) rfl rfl hHeld ?_
 simp only [pA, pN, sZ, sU]
 refine rC 1 18 (.int .i64 ↑f) rfl rfl (fun _ h => kept_cell h (hcf2.out)) hHeld ?_
 simp only [pA, pN, sZ, sU]
 refine rT 2 19 (.pointer (some ⟨w.heap.size, 0, none⟩)) rfl rfl hHeld ?_
 simp only [pA, pN, sZ, sU]
 refine rT 3 20 (.pointer (some ⟨w.heap.size, f, none⟩)) rfl rfl hHeld ?_
 simp only [pA, pN, sZ, sU]
 refine rC 4 21 (.int .i8 x) rfl rfl (fun _ h => kept_cell h (HQ12.out)) hHeld ?_
 simp only [pA, pN, sZ, sU]
 refine rT 5 22 (.int .i64 x) rfl rfl hHeld ?_
 simp only [pA, pN, sZ, sU]
 refine rT 7 24 (.pointer (some ⟨w.heap.size, 64, none⟩)) rfl rfl hHeld ?_
 simp only [pA, pN, sZ, sU]
 refine rC 8 25 (.int .i64 p.t) rfl rfl (fun _ h => kept_cell h (HP2.out.turn)) hHeld ?_
 simp only [pA, pN, sZ, sU]
 refine rR 6 rfl (fun K hK => ?_)
 go_simp
 refine (rside_k x _).mono ?_
 rintro e v3 ⟨rfl, gv3⟩
 refine hK.out _ _ (hHeld.trans gv3) (fun _ => ?_)
 replace hHeld := hHeld.trans gv3
 clear hK K
 refine rT 9 26 (.bool false) rfl rfl hHeld ?_
 simp only [pA, pN, sZ, sU]
 refine rT 10 27 (.bool false) rfl rfl hHeld ?_
 simp only [pA, pN, sZ, sU]
 refine rT 11 28 (.pointer (some ⟨w.heap.size + 1, 1, none⟩)) rfl rfl hHeld ?_
 simp only [pA, pN, sZ, sU]
 refine rC 12 29 (.int .i64 ↑t) rfl rfl (fun _ h => kept_cell h (hct2.out)) hHeld ?_
 simp only [pA, pN, sZ, sU]
 refine rT 13 30 (.pointer (some ⟨w.heap.size, 0, none⟩)) rfl rfl hHeld ?_
 simp only [pA, pN, sZ, sU]
 refine rT 14 31 (.pointer (some ⟨w.heap.size, t, none⟩)) rfl rfl hHeld ?_
 simp only [pA, pN, sZ, sU]
 refine rC 15 32 (.int .i8 y) rfl rfl (fun _ h => kept_cell h (HQ22.out)) hHeld ?_
 simp only [pA, pN, sZ, sU]
 refine rT 16 33 (.int .i64 y) rfl rfl hHeld ?_
 simp only [pA, pN, sZ, sU]
 refine rT 18 35 (.pointer (some ⟨w.heap.size, 64, none⟩)) rfl rfl hHeld ?_
 simp only [pA, pN, sZ, sU]
 refine rC 19 36 (.int .i64 p.t) rfl rfl (fun _ h => kept_cell h (HP2.out.turn)) hHeld ?_
 simp only [pA, pN, sZ, sU]
 refine rR 17 rfl (fun K hK => ?_)
 go_simp
 refine (rside_k y _).mono ?_
 rintro e v4 ⟨rfl, gv4⟩
 refine hK.out _ _ (hHeld.trans gv4) (fun _ => ?_)
 replace hHeld := hHeld.trans gv4
 clear hK K
 refine rT 20 37 (.bool false) rfl rfl hHeld ?_
 simp only [pA, pN, sZ, sU]
 refine rT 21 38 (.bool false) rfl rfl hHeld ?_
 simp only [pA, pN, sZ, sU]
 refine wpAnyH_done (by kernel_rfl) ?_ _
 have KK5 := Lib.hid (KK2.out.trans hHeld)
 have HP5 := Lib.hid (HP.out.kept KK5.out)
 have HM5 := Lib.hid (MAt.kept HM.out KK5.out)
 have hcf5 := Lib.hid (kept_cell KK5.out hcf.out)
 have HK5 := Lib.hid (HK2.out.trans hHeld)
 clear hHeld
 have tt := HP5.out.turn
 have cf5 := hcf5.out
 rw [HTv.out] at tt
 rw [h4] at HPw
 go_wp2_with (first | (refine wpList_load_ps (by rfl) _ rfl _ rfl _ (HP5.out) ?_) | (refine wpList_load_pb (by rfl) _ rfl _ rfl _ (HP5.out) ?_) | (refine wpList_load_mv (by rfl) _ rfl _ rfl _ (HM5.out) ?_))
 refine (HPw.out _).mono ?_
 rintro e v6 ⟨rfl, k6⟩
 have KK6 := Lib.hid (KK5.out.trans k6)
 have HM6 := Lib.hid (MAt.kept HM.out KK6.out)
 have hct6 := Lib.hid (kept_cell KK6.out hct.out)
 have HK6 := Lib.hid (HK5.out.trans k6)
 clear k6 tt cf5
 have ct6 := hct6.out
 go_wp2_with fail
 refine (HRk.out _).mono ?_
 rintro e v7 ⟨rfl, k7⟩
 have HM7 := Lib.hid (MAt.kept HM6.out k7)
 have HK7 := Lib.hid (HK6.out.trans k7)
 clear k7 ct6
 have cp := HM7.out.p
 cases h6 : decide (2 ≤ m.p)
 ·rw [h6] at HV
  go_wp2
  go_ret
  exact ⟨by rw [HV.out]; rfl, HK7.out⟩
 ·rw [h6] at HV
  go_wp2
  go_ret
  exact ⟨by rw [HV.out]; rfl, HK7.out⟩
theorem rformed_is (p : Ps) (hB : Brd p.B) (t01 : p.t = 0 ∨ p.t = 1) (m : Mv) (w : World) :
  Calls Tryz.prog 77 #[.agg (pl p).toArray, .agg (ml m).toArray] w fun e w' => e = .returned (.bool (formB p m)) ∧ Kept w w' := by
 cases ho1 : onB m.f
 ·exact rformed_f p hB t01 m ho1 w
 ·cases ho2 : onB m.t
  ·exact rformed_t p hB m ho1 ho2 w
  ·have a1 : 0 ≤ m.f ∧ m.f < 64 := by simpa [onB] using ho1
   have a2 : 0 ≤ m.t ∧ m.t < 64 := by simpa [onB] using ho2
   obtain ⟨f, hf⟩ := Int.eq_ofNat_of_zero_le a1.1
   obtain ⟨t, ht⟩ := Int.eq_ofNat_of_zero_le a2.1
   have f1 : f < 64 := by omega
   have t1 : t < 64 := by omega
   cases h1 : (sideI (manA p.B m.f) == p.t)
   ·exact rformed1 p hB m f t hf ht f1 t1 h1 w
   ·cases h3 : (sideI (manA p.B m.t) == p.t)
    ·cases h4 : (kindI (manA p.B m.f) == 1)
     ·rcases t01 with hT | hT
      ·exact rformed3w p hB m f t hf ht f1 t1 h1 h3 h4 hT w
      ·exact rformed3b p hB m f t hf ht f1 t1 h1 h3 h4 hT w
     ·rcases t01 with hT | hT
      ·cases h5 : ((t : Int) / 8 == 7)
       ·exact rformed4wn p hB m f t hf ht f1 t1 h1 h3 h4 hT h5 w
       ·exact rformed4wy p hB m f t hf ht f1 t1 h1 h3 h4 hT h5 w
      ·cases h5 : ((t : Int) / 8 == 0)
       ·exact rformed4bn p hB m f t hf ht f1 t1 h1 h3 h4 hT h5 w
       ·exact rformed4by p hB m f t hf ht f1 t1 h1 h3 h4 hT h5 w
    ·exact rformed2 p hB m f t hf ht f1 t1 h1 h3 w
end Go.Proofs.YtfekipadkenhpaaGreatDoor
