/- The position with which a game begins · The example of keys; the walks of KeyMixes and KeyOf · What rays are, by numbers alone · Slices of numbers: read, and of the call's own. -/
import Derived.Test.YtkebpchhpidogaaGreatDoorPkA01
import Derived.Test.YtkebpchhpidogaaGreatDoorPkA05
import Derived.Test.YtkebpchhpidogaaGreatDoorPkA06
import Derived.Laws.OwnMore
import Derived.Laws.AppendOwnNone
namespace Go.Proofs.YtkebpchhpidogaaGreatDoor
open Go.RowKit
set_option linter.unusedVariables false
set_option linter.unusedSimpArgs false

/-- The position with which a game begins. -/
def Fp : Ps := ⟨Fb, 0, 15, -1⟩
theorem Fp_brd : Brd Fp.B := Fb_brd
theorem Fp_len : Fp.B.length = 64 := Fb_brd.1
set_option maxRecDepth 100000 in
theorem pfirst_is (w : World) : Calls Tryz.prog 11 #[] w (RetP w Fp) := by
  have HZ := Lib.hid (PAt.new w Zp_len)
  go_enter Tryz.func11, Tryz.ntmps11
  go_wp2_with (with_reducible refine wpList_new_p rfl rfl ?_)
  refine (first_is _).mono ?_
  rintro e w1 ⟨rfl, k1⟩
  have HZ1 := Lib.hid (HZ.out.kept k1)
  have HK := Lib.hid (((Kept.refl w).alloc _).trans k1)
  clear k1
  go_wp2_with (first
    | (refine wpList_built_p4 rfl _ _ _ _ rfl Fb 0 15 (-1) Fp_len rfl rfl rfl rfl ?_)
    | (refine wpList_store_ps rfl _ _ rfl w.heap.size Zp Fp HZ1.out Fp_len rfl rfl ?_))
  refine bodyPost_ret (v := .agg (pl Fp).toArray) ?_ rfl ⟨rfl, ?_⟩
  · exact results_p rfl _ rfl (HZ1.out.setRow Fp_len)
  · exact HK.out.setRow (Nat.le_refl _) _
end Go.Proofs.YtkebpchhpidogaaGreatDoor
namespace Go.Proofs.YtkebpchhpidogaaGreatDoor
open Go.RowKit
set_option linter.unusedVariables false
set_option linter.unusedSimpArgs false

/-- The first position, Black to move. -/
def Fp1 : Ps := ⟨Fb, 1, 15, -1⟩
theorem set_fp1 : (pl Fp).set 64 (.int .i64 1) = pl Fp1 := rfl
theorem key_ne : keyP Fp ≠ keyP Fp1 := by decide +kernel
set_option maxHeartbeats 1000000 in
theorem key_wakes (w : World) : Calls Tryz.prog 4 #[] w fun e w' => e = .returned (.bool true) ∧ Kept w w' := by
  have HM := Lib.hid (fun w => calls_kept (kmix_is 0 zero_u w))
  rw [mix_0] at HM
  have HO1 := Lib.hid (kof_is Fp Fp_brd)
  have HO2 := Lib.hid (kof_is Fp1 Fp_brd)
  have hb : ¬ keyP Fp = keyP Fp1 := key_ne
  have hpl : Hid (Fp.B.length = 64) := Fp_len
  have hql : Hid (Fp1.B.length = 64) := Fp_len
  generalize keyP Fp = a at *
  generalize keyP Fp1 = b at *
  go_enter Tryz.func4, Tryz.ntmps4
  go_wp2_with fail
  refine (pfirst_is _).mono ?_
  rintro e w1 ⟨rfl, k1⟩
  have HK1 := Lib.hid (k1.alloc (.cells (pl Fp).toArray 26))
  have HP1 := Lib.hid (PAt.new w1 Fp_len)
  clear k1
  go_wp2_with (first
    | (with_reducible refine wpList_new_p rfl rfl ?_)
    | ((with_reducible refine wpList_store_newp rfl _ _ rfl Zp Fp Zp_len Fp_len ?_ ?_ ?_); exact rfl; exact rfl; refine Hid.out ?_))
  refine Lib.hid ?_
  generalize w1.alloc (.cells (pl Fp).toArray 26) = W at *
  generalize w1.heap.size = g at *
  have HN := Lib.hid (PAt.new W Fp_len)
  have HKN := Lib.hid ((Kept.refl W).alloc (.cells (pl Fp).toArray 26))
  go_wp2_with (first
    | (refine wpList_load_ps (by rfl) _ rfl _ rfl _ HP1.out ?_)
    | (with_reducible refine wpList_new_p rfl rfl ?_)
    | ((with_reducible refine wpList_store_newp rfl _ _ rfl Zp Fp Zp_len Fp_len ?_ ?_ ?_); exact rfl; exact rfl; refine Hid.out ?_))
  refine Lib.hid ?_
  have c1 := HN.out.turn
  have f1 := HN.out.frozen 64
  have HQ2 := Lib.hid (PAt.new W (p := Fp1) Fp_len)
  have HKW := Lib.hid ((Kept.refl W).alloc (.cells (pl Fp1).toArray 26))
  have HP2 := Lib.hid (HP1.out.kept HKW.out)
  clear HN HKN
  go_wp2
  rw [set_fp1]
  clear c1 f1
  generalize W.alloc (.cells (pl Fp1).toArray 26) = X at *
  generalize W.heap.size = h at *
  refine wp_region_held_drew (S := Kept _) (by kernel_rfl) (Kept.refl _).drew (fun hHeld => ?_)
  refine rR 0 rfl (fun K hK => ?_)
  go_simp
  refine (HM.out _).mono ?_
  rintro e x1 ⟨rfl, gx1⟩
  refine hK.out _ _ (hHeld.trans gx1) (fun _ => ?_)
  replace hHeld := hHeld.trans gx1
  clear hK K
  refine rT 1 7 (.bool true) rfl rfl hHeld ?_
  simp only [Act.put, sA, sZ, sU]
  refine rT 2 8 (.bool true) rfl rfl hHeld ?_
  simp only [pA, pN, sZ, sU]
  refine rY 3 9 rfl rfl (take_load_ps (by rfl) _ rfl _ rfl (Fp) hpl.out (fun _ h => (HP2.out).kept h)) hHeld ?_
  simp only [pA, pN, sZ, sU]
  refine rY 5 11 rfl rfl (take_load_ps (by rfl) _ rfl _ rfl (Fp1) hql.out (fun _ h => (HQ2.out).kept h)) hHeld ?_
  simp only [pA, pN, sZ, sU]
  refine rR 4 rfl (fun K hK => ?_)
  go_simp
  refine (HO1.out _).mono ?_
  rintro e x2 ⟨rfl, gx2⟩
  refine hK.out _ _ (hHeld.trans gx2) (fun _ => ?_)
  replace hHeld := hHeld.trans gx2
  clear hK K
  refine rR 6 rfl (fun K hK => ?_)
  go_simp
  refine (HO2.out _).mono ?_
  rintro e x3 ⟨rfl, gx3⟩
  refine hK.out _ _ (hHeld.trans gx3) (fun _ => ?_)
  replace hHeld := hHeld.trans gx3
  clear hK K
  refine rT 7 13 (.bool true) rfl rfl hHeld ?_
  simp only [pA, pN, sZ, sU]
  refine rT 8 14 (.bool true) rfl rfl hHeld ?_
  simp only [pA, pN, sZ, sU]
  refine rT 9 0 (.bool true) rfl rfl hHeld ?_
  simp only [pA, pN, sZ, sU]
  refine wpAnyH_done (by kernel_rfl) ?_ _
  go_wp2
  go_ret
  exact ⟨rfl, (HK1.out.trans HKW.out).trans hHeld⟩
theorem wf_u64 {x : Int} (h : (Lit.int .u64 x).wf = true) : U x := by
  have e1 : IntKind.u64.min = 0 := by decide
  have e2 : IntKind.u64.max = 18446744073709551615 := by decide
  simp [Lit.wf, e1, e2] at h
  exact ⟨by omega, by omega⟩
end Go.Proofs.YtkebpchhpidogaaGreatDoor
namespace Go.Proofs.YtkebpchhpidogaaGreatDoor
set_option linter.unusedVariables false
set_option linter.unusedSimpArgs false

/-- Where a step leads, or -1. -/
def stI (s f r : Int) : Int := if 0 ≤ s ∧ s < 64 ∧ 0 ≤ s % 8 + f ∧ s % 8 + f < 8 ∧ 0 ≤ s / 8 + r ∧ s / 8 + r < 8 then (s / 8 + r) * 8 + (s % 8 + f) else -1
theorem stI_cases (s f r : Int) : (0 ≤ s ∧ s < 64 ∧ 0 ≤ s % 8 + f ∧ s % 8 + f < 8 ∧ 0 ≤ s / 8 + r ∧ s / 8 + r < 8 ∧ stI s f r = (s / 8 + r) * 8 + (s % 8 + f)) ∨
    (stI s f r = -1 ∧ ((s < 0 ∨ 64 ≤ s) ∨ (0 ≤ s ∧ s < 64 ∧ (s % 8 + f < 0 ∨ 8 ≤ s % 8 + f ∨ s / 8 + r < 0 ∨ 8 ≤ s / 8 + r)))) := by
  unfold stI
  split
  · left; omega
  · right; omega
theorem stI_off {s f r : Int} (h : s < 0 ∨ 64 ≤ s) : stI s f r = -1 := by
  unfold stI; rw [if_neg (by omega)]
/-- At most n squares of a ray. -/
def rayN : Nat → Int → Int → Int → List Int
  | 0, _, _, _ => []
  | n + 1, s, f, r => if stI s f r < 0 then [] else stI s f r :: rayN n (stI s f r) f r
def rayL (s f r : Int) : List Int := if f = 0 ∧ r = 0 then [] else rayN 8 s f r
theorem rayN_len : ∀ (n : Nat) (s f r : Int), (rayN n s f r).length ≤ n
  | 0, _, _, _ => Nat.le_refl _
  | n + 1, s, f, r => by
    unfold rayN
    split
    · simp
    · have := rayN_len n (stI s f r) f r
      simp; omega
theorem rayL_len (s f r : Int) : (rayL s f r).length ≤ 8 := by
  unfold rayL
  split
  · simp
  · exact rayN_len _ _ _ _
theorem rayN_mem : ∀ (n : Nat) (s f r x : Int), x ∈ rayN n s f r → 0 ≤ x ∧ x < 64
  | 0, _, _, _, x => by simp [rayN]
  | n + 1, s, f, r, x => by
    unfold rayN
    split
    · simp
    · next h =>
      intro hx
      rcases List.mem_cons.1 hx with rfl | hx
      · rcases stI_cases s f r with ⟨_, _, _, _, _, _, e⟩ | ⟨e, _⟩ <;> omega
      · exact rayN_mem n _ _ _ x hx
theorem rayL_mem {s f r x : Int} (h : x ∈ rayL s f r) : 0 ≤ x ∧ x < 64 := by
  unfold rayL at h
  split at h
  · simp at h
  · exact rayN_mem _ _ _ _ _ h
theorem rayL_off {s f r : Int} (h : s < 0 ∨ 64 ≤ s) : rayL s f r = [] := by
  unfold rayL
  split
  · rfl
  · unfold rayN; rw [if_pos (by rw [stI_off h]; decide)]
theorem rayL_none (s : Int) : rayL s 0 0 = [] := by unfold rayL; rw [if_pos ⟨rfl, rfl⟩]
/-- Behind k squares the next one is as far at least. -/
def Far (f r : Int) (k : Nat) (t : Int) : Prop := 0 ≤ t ∧ t < 64 ∧ (1 ≤ f → (k : Int) + 1 ≤ t % 8) ∧ (f ≤ -1 → t % 8 ≤ 6 - (k : Int)) ∧ (1 ≤ r → (k : Int) + 1 ≤ t / 8) ∧ (r ≤ -1 → t / 8 ≤ 6 - (k : Int))
theorem Far.le {f r t : Int} {k : Nat} (h : Far f r k t) (h0 : ¬ (f = 0 ∧ r = 0)) : k ≤ 6 := by
  unfold Far at h; omega
/-- What is told of a ray so far, and what comes: 'to' comes next, if on. -/
def RayMid (s f r : Int) (l : List Int) (t : Int) (on : Bool) : Prop :=
  (on = true ∧ Far f r l.length t ∧ ∃ n, l.length + n = 7 ∧ rayL s f r = l ++ t :: rayN n t f r) ∨ (on = false ∧ rayL s f r = l)
theorem RayMid.start_yes {s f r : Int} (h0 : ¬ (f = 0 ∧ r = 0)) (a : 0 ≤ s) (b : s < 64) (c : 0 ≤ s % 8 + f) (d : s % 8 + f < 8) (e : 0 ≤ s / 8 + r) (g : s / 8 + r < 8) :
    RayMid s f r [] ((s / 8 + r) * 8 + (s % 8 + f)) true := by
  refine .inl ⟨rfl, by unfold Far; simp only [List.length_nil]; omega, 7, rfl, ?_⟩
  have he : stI s f r = (s / 8 + r) * 8 + (s % 8 + f) := by unfold stI; rw [if_pos ⟨a, b, c, d, e, g⟩]
  unfold rayL
  rw [if_neg h0]
  show rayN (7 + 1) s f r = _
  rw [rayN, he, if_neg (by omega)]
  rfl
theorem RayMid.start_no {s f r : Int} (t : Int) (h : stI s f r = -1) : RayMid s f r [] t false := by
  refine .inr ⟨rfl, ?_⟩
  unfold rayL
  split
  · rfl
  · unfold rayN; rw [if_pos (by rw [h]; decide)]
theorem RayMid.next_yes {s f r t : Int} {l : List Int} (h : RayMid s f r l t true) (h0 : ¬ (f = 0 ∧ r = 0)) (c : 0 ≤ t % 8 + f) (d : t % 8 + f < 8) (e : 0 ≤ t / 8 + r) (g : t / 8 + r < 8) :
    RayMid s f r (l ++ [t]) ((t / 8 + r) * 8 + (t % 8 + f)) true := by
  rcases h with ⟨_, hf, n, hn, hr⟩ | ⟨h, _⟩
  · have hk := hf.le h0
    obtain ⟨m, rfl⟩ : ∃ m, n = m + 1 := ⟨n - 1, by omega⟩
    have ht : 0 ≤ t ∧ t < 64 := ⟨hf.1, hf.2.1⟩
    have he : stI t f r = (t / 8 + r) * 8 + (t % 8 + f) := by unfold stI; rw [if_pos ⟨ht.1, ht.2, c, d, e, g⟩]
    refine .inl ⟨rfl, ?_, m, by simp; omega, ?_⟩
    · unfold Far at hf ⊢; rw [List.length_append, List.length_singleton]; omega
    · rw [hr, rayN, he, if_neg (by omega)]; simp
  · cases h
theorem RayMid.next_no {s f r t : Int} {l : List Int} (u : Int) (h : RayMid s f r l t true) (h0 : ¬ (f = 0 ∧ r = 0)) (hs : stI t f r = -1) : RayMid s f r (l ++ [t]) u false := by
  rcases h with ⟨_, hf, n, hn, hr⟩ | ⟨h, _⟩
  · have hk := hf.le h0
    obtain ⟨m, rfl⟩ : ∃ m, n = m + 1 := ⟨n - 1, by omega⟩
    refine .inr ⟨rfl, ?_⟩
    rw [hr, rayN, if_pos (by rw [hs]; decide)]
  · cases h
theorem RayMid.far {s f r t : Int} {l : List Int} (h : RayMid s f r l t true) (h0 : ¬ (f = 0 ∧ r = 0)) : 0 ≤ t ∧ t < 64 ∧ l.length ≤ 6 := by
  rcases h with ⟨_, hf, _⟩ | ⟨h, _⟩
  · exact ⟨hf.1, hf.2.1, hf.le h0⟩
  · cases h
theorem RayMid.done {s f r t : Int} {l : List Int} (h : RayMid s f r l t false) : rayL s f r = l := by
  rcases h with ⟨h, _⟩ | ⟨_, h⟩
  · cases h
  · exact h

/-- The steps of the ways. -/
def wayF (w : Nat) : Int := [0, 1, 0, -1, 1, 1, -1, -1, 1, 2, 2, 1, -1, -2, -2, -1].getD w 0
def wayR (w : Nat) : Int := [1, 0, -1, 0, 1, -1, -1, 1, 2, 1, -1, -2, -2, -1, 1, 2].getD w 0
def alongL (way : Nat) (s : Int) : List Int := if 8 ≤ way then (rayL s (wayF way) (wayR way)).take 1 else rayL s (wayF way) (wayR way)
theorem alongL_len (way : Nat) (s : Int) : (alongL way s).length ≤ 8 := by
  have := rayL_len s (wayF way) (wayR way)
  unfold alongL
  split
  · rw [List.length_take]; omega
  · exact this
theorem alongL_mem {way : Nat} {s x : Int} (h : x ∈ alongL way s) : 0 ≤ x ∧ x < 64 := by
  unfold alongL at h
  split at h
  · exact rayL_mem (List.mem_of_mem_take h)
  · exact rayL_mem h
theorem alongL_off {way : Nat} {s : Int} (h : s < 0 ∨ 64 ≤ s) : alongL way s = [] := by
  unfold alongL; rw [rayL_off h]; simp
/-- The lists of the table, one behind the other. -/
def listAt (i : Nat) : List Int := alongL (i / 64) ((i % 64 : Nat) : Int)
theorem listAt_way (way s : Nat) (h : s < 64) : listAt (way * 64 + s) = alongL way (s : Int) := by
  unfold listAt
  rw [show (way * 64 + s) / 64 = way by omega, show (way * 64 + s) % 64 = s by omega]
def flatN (n : Nat) : List Int := (List.range n).flatMap listAt
theorem flatN_succ (n : Nat) : flatN (n + 1) = flatN n ++ listAt n := by simp [flatN, List.range_succ]
theorem listAt_len (i : Nat) : (listAt i).length ≤ 8 := alongL_len _ _
theorem flatN_len : ∀ n, (flatN n).length ≤ 8 * n
  | 0 => by simp [flatN]
  | n + 1 => by
    have h1 := flatN_len n
    have h2 := listAt_len n
    rw [flatN_succ, List.length_append]; omega
/-- The lists from the n-th on. -/
def restN (n : Nat) : List Int := (List.range' n (1024 - n)).flatMap listAt
theorem restN_zero : restN 0 = flatN 1024 := by simp [restN, flatN, List.range_eq_range']
theorem restN_step (n : Nat) (h : n < 1024) : restN n = listAt n ++ restN (n + 1) := by
  unfold restN
  rw [show 1024 - n = (1024 - (n + 1)) + 1 by omega, List.range'_succ]
  simp

/-- A man's kind; 0 for what is none. -/
def knd (m : Int) : Int := if m < -6 ∨ m = 0 ∨ 6 < m then 0 else if m < 0 then -m else m
def slidesB (m : Int) : Bool := knd m == 3 || knd m == 4 || knd m == 5
def goesB (m : Int) (way : Nat) : Bool :=
  if knd m = 1 then decide (4 ≤ way ∧ way < 8) && wayR way == (if m < 0 then -1 else 1)
  else if knd m = 2 then decide (8 ≤ way) else if knd m = 3 then decide (4 ≤ way ∧ way < 8) else if knd m = 4 then decide (way < 4) else if knd m = 0 then false else decide (way < 8)
def cutL (m : Int) (l : List Int) : List Int := if slidesB m then l else l.take 1
def oneL (l : List Int) : List (List Int) := if l.length = 0 then [] else [l]
def ofN (m s : Int) (n : Nat) : List (List Int) := ((List.range n).filter (goesB m)).flatMap fun w => oneL (cutL m (alongL w s))
def ofL (m s : Int) : List (List Int) := ofN m s 16
theorem ofN_succ (m s : Int) (n : Nat) : ofN m s (n + 1) = ofN m s n ++ if goesB m n then oneL (cutL m (alongL n s)) else [] := by
  unfold ofN
  rw [List.range_succ, List.filter_append, List.flatMap_append]
  cases hg : goesB m n <;> simp [hg]
theorem ofN_len (m s : Int) : ∀ n, (ofN m s n).length ≤ n
  | 0 => by simp [ofN]
  | n + 1 => by
    have := ofN_len m s n
    rw [ofN_succ, List.length_append]
    split
    · unfold oneL; split <;> simp <;> omega
    · simp; omega
theorem cutL_nil (m : Int) : cutL m [] = [] := by unfold cutL; split <;> simp
theorem ofN_off {m s : Int} (h : s < 0 ∨ 64 ≤ s) (n : Nat) : ofN m s n = [] := by
  unfold ofN
  rw [List.flatMap_eq_nil_iff]
  intro w _
  rw [alongL_off h, cutL_nil]
  rfl
/-- The document's steps of a man. -/
def stepsL (m : Int) : List (Int × Int) :=
  if knd m = 1 then [(1, m), (-1, m)]
  else if knd m = 2 then [(1, 2), (2, 1), (2, -1), (1, -2), (-1, -2), (-2, -1), (-2, 1), (-1, 2)]
  else if knd m = 3 then [(1, 1), (1, -1), (-1, -1), (-1, 1)]
  else if knd m = 4 then [(0, 1), (1, 0), (0, -1), (-1, 0)]
  else if knd m = 0 then [] else [(0, 1), (1, 0), (0, -1), (-1, 0), (1, 1), (1, -1), (-1, -1), (-1, 1)]
def ofR (m s : Int) (P : List (Int × Int)) : List (List Int) := P.flatMap fun p => oneL (cutL m (rayL s p.1 p.2))
theorem ways_steps (m : Int) (h1 : -6 ≤ m) (h2 : m ≤ 6) : ((List.range 16).filter (goesB m)).map (fun w => (wayF w, wayR w)) = stepsL m ∧ ((List.range 16).filter (goesB m)).all (fun w => decide (w < 8) || !slidesB m) = true := by
  have : m = -6 ∨ m = -5 ∨ m = -4 ∨ m = -3 ∨ m = -2 ∨ m = -1 ∨ m = 0 ∨ m = 1 ∨ m = 2 ∨ m = 3 ∨ m = 4 ∨ m = 5 ∨ m = 6 := by omega
  rcases this with rfl | rfl | rfl | rfl | rfl | rfl | rfl | rfl | rfl | rfl | rfl | rfl | rfl <;> decide +kernel
theorem knd_none {m : Int} (h : m < -6 ∨ m = 0 ∨ 6 < m) : knd m = 0 := by unfold knd; rw [if_pos h]
theorem stepsL_none {m : Int} (h : m < -6 ∨ m = 0 ∨ 6 < m) : stepsL m = [] := by unfold stepsL; rw [knd_none h]; simp
theorem goesB_none {m : Int} (h : m < -6 ∨ m = 0 ∨ 6 < m) (w : Nat) : goesB m w = false := by unfold goesB; rw [knd_none h]; simp
theorem ofR_is (m s : Int) : ofR m s (stepsL m) = ofL m s := by
  by_cases h : -6 ≤ m ∧ m ≤ 6
  · obtain ⟨e1, e2⟩ := ways_steps m h.1 h.2
    unfold ofR ofL ofN
    rw [← e1, List.flatMap_map]
    generalize (List.range 16).filter (goesB m) = L at *
    clear e1
    induction L with
    | nil => rfl
    | cons w L ih =>
      rw [List.flatMap_cons, List.flatMap_cons]
      simp only [List.all_cons, Bool.and_eq_true] at e2
      rw [ih e2.2]
      congr 2
      unfold alongL
      split
      · next h8 =>
        have : slidesB m = false := by
          have := e2.1
          simp at this
          rcases this with h | h
          · omega
          · exact h
        unfold cutL
        simp [this, List.take_take]
      · rfl
  · have h' : m < -6 ∨ m = 0 ∨ 6 < m := by omega
    rw [stepsL_none h']
    unfold ofL ofN
    rw [List.filter_eq_nil_iff.2 (fun w _ => by rw [goesB_none h']; simp)]
    rfl
/-- The squares between two. -/
def lineIn (L : List (List Int)) (b : Int) : List Int := match L.find? (fun l => l.contains b) with
  | none => []
  | some l => l.take (l.idxOf b)
def lineN (a b : Int) (n : Nat) : List Int := lineIn ((List.range' n (8 - n)).map fun w => alongL w a) b
def lineL (a b : Int) : List Int := lineN a b 0
theorem lineIn_one (L : List (List Int)) (b : Int) : lineIn (L.flatMap oneL) b = lineIn L b := by
  unfold lineIn
  congr 1
  induction L with
  | nil => rfl
  | cons l L ih =>
    rw [List.flatMap_cons]
    by_cases h : l.length = 0
    · have e : oneL l = [] := by unfold oneL; rw [if_pos h]
      rw [e, List.eq_nil_of_length_eq_zero h, List.nil_append, ih]
      rfl
    · have e : oneL l = [l] := by unfold oneL; rw [if_neg h]
      rw [e, List.singleton_append, List.find?_cons, List.find?_cons]
      split
      · rfl
      · exact ih
theorem queen_ways : (List.range 16).filter (goesB 5) = List.range' 0 (8 - 0) := by decide +kernel
theorem line_ref (a b : Int) : lineIn (ofL 5 a) b = lineL a b := by
  unfold lineL lineN ofL ofN
  rw [queen_ways, ← lineIn_one (List.map _ _), List.flatMap_map]
  rfl
theorem lineN_step (a b : Int) (n : Nat) (h : n < 8) : lineN a b n = if (alongL n a).contains b then (alongL n a).take ((alongL n a).idxOf b) else lineN a b (n + 1) := by
  unfold lineN lineIn
  rw [show 8 - n = (8 - (n + 1)) + 1 by omega, List.range'_succ, List.map_cons, List.find?_cons]
  cases hc : (alongL n a).contains b <;> simp [hc]
theorem lineN_end (a b : Int) (n : Nat) (h : 8 ≤ n) : lineN a b n = [] := by
  unfold lineN lineIn
  rw [show 8 - n = 0 by omega]
  rfl
theorem lineN_off {a b : Int} (h : a < 0 ∨ 64 ≤ a ∨ b < 0 ∨ 64 ≤ b) (n : Nat) : lineN a b n = [] := by
  unfold lineN lineIn
  have : ((List.range' n (8 - n)).map fun w => alongL w a).find? (fun l => l.contains b) = none := by
    rw [List.find?_eq_none]
    intro l hl
    obtain ⟨w, _, rfl⟩ := List.mem_map.1 hl
    intro hc
    have hm : b ∈ alongL w a := by simpa using hc
    have hb := alongL_mem hm
    rcases h with h | h | h | h
    · rw [alongL_off (.inl h)] at hm; cases hm
    · rw [alongL_off (.inr h)] at hm; cases hm
    · omega
    · omega
  rw [this]
end Go.Proofs.YtkebpchhpidogaaGreatDoor
namespace Go.Proofs.YtkebpchhpidogaaGreatDoor
open Go.RowKit
set_option linter.unusedVariables false
set_option linter.unusedSimpArgs false

theorem infoZ : (Tryz.prog.info? 3).map (fun i => (i.zero, i.size, i.bytes)) = some (some (.int .i64 0), 1, 8) := by kernel_rfl
theorem partsZ {P : Program} {t : TypeId} {z : Value} {n b : Nat} (h : (P.info? t).map (fun i => (i.zero, i.size, i.bytes)) = some (some z, n, b)) :
    ∃ i, P.info? t = some i ∧ i.zero = some z ∧ i.size = n ∧ i.bytes = b := by
  cases hq : P.info? t with
  | none => simp [hq] at h
  | some i => simp [hq] at h; exact ⟨i, rfl, h.1, h.2.1, h.2.2⟩
def zl (l : List Int) : List Value := l.map (Value.int .i64)
theorem zl_len (l : List Int) : (zl l).length = l.length := by simp [zl]
theorem zl_app (l k : List Int) : zl (l ++ k) = zl l ++ zl k := by simp [zl]
/-- A slice of numbers of the call's own. -/
def OwnZ (w : World) (base : Nat) (v : Value) (l : List Int) : Prop := w.ownsRow base 3 1 v l.length (zl l)
theorem OwnZ.nil (w : World) (base : Nat) : OwnZ w base (.slice none 0 0) [] := World.ownsRow_nil _ _ _ _
theorem OwnZ.kept {w w' : World} {base : Nat} {v : Value} {l : List Int} (h : OwnZ w base v l) (k : Kept w w') : OwnZ w' base v l := by
  obtain ⟨h1, h2⟩ := h
  refine ⟨h1, ?_⟩
  rcases h2 with h2 | ⟨b, cap, cur, e1, e2, e3, e4⟩
  · exact .inl h2
  · exact .inr ⟨b, cap, cur, e1, e2, k.heap e3, e4⟩
theorem OwnZ.low {w : World} {base b : Nat} {v : Value} {l : List Int} (h : OwnZ w base v l) (hb : b ≤ base) : OwnZ w b v l := by
  obtain ⟨h1, h2⟩ := h
  refine ⟨h1, ?_⟩
  rcases h2 with h2 | ⟨g, cap, cur, e1, e2, e3⟩
  · exact .inl h2
  · exact .inr ⟨g, cap, cur, e1, by omega, e3⟩
theorem OwnZ.slice {w : World} {base : Nat} {v : Value} {l : List Int} (h : OwnZ w base v l) : ∃ a cap, v = .slice a l.length cap := by
  rcases h.2 with ⟨e, h0⟩ | ⟨g, cap, cur, e, _⟩
  · exact ⟨none, 0, by rw [e, h0]⟩
  · exact ⟨_, _, e⟩
/-- A slice that reads as l, its squares in block g. -/
def LsZ (w : World) (g : Nat) (v : Value) (l : List Int) : Prop :=
  (v = .slice none 0 0 ∧ l = []) ∨ ∃ off cap, v = .slice (some ⟨g, off, none⟩) l.length cap ∧ l.length ≤ cap ∧ cap ≤ maxLen ∧ ∀ i x, l[i]? = some x → w.cell? ⟨g, off + i, none⟩ = some (.int .i64 x)
theorem LsZ.kept {w w' : World} {g : Nat} {v : Value} {l : List Int} (h : LsZ w g v l) (k : Kept w w') : LsZ w' g v l := by
  rcases h with h | ⟨off, cap, e, h1, h2, h3⟩
  · exact .inl h
  · exact .inr ⟨off, cap, e, h1, h2, fun i x hx => kept_cell k (h3 i x hx)⟩
/-- The same block, the same slice. -/
theorem LsZ.block {w w' : World} {g : Nat} {v : Value} {l : List Int} (h : LsZ w g v l) (k : w'.heap[g]? = w.heap[g]?) : LsZ w' g v l := by
  rcases h with h | ⟨off, cap, e, h1, h2, h3⟩
  · exact .inl h
  · exact .inr ⟨off, cap, e, h1, h2, fun i x hx => (World.cell?_of_block (a := ⟨g, off + i, none⟩) k).trans (h3 i x hx)⟩
theorem LsZ.slice {w : World} {g : Nat} {v : Value} {l : List Int} (h : LsZ w g v l) : ∃ a cap, v = .slice a l.length cap := by
  rcases h with ⟨e, h0⟩ | ⟨off, cap, e, _⟩
  · exact ⟨none, 0, by rw [e, h0]; rfl⟩
  · exact ⟨_, _, e⟩
theorem LsZ.full {w : World} {g : Nat} {v : Value} {l : List Int} (h : LsZ w g v l) (hl : 0 < l.length) :
    ∃ off cap, v = .slice (some ⟨g, off, none⟩) l.length cap ∧ l.length ≤ cap ∧ cap ≤ maxLen ∧ ∀ i x, l[i]? = some x → w.cell? ⟨g, off + i, none⟩ = some (.int .i64 x) := by
  rcases h with ⟨_, h0⟩ | h
  · rw [h0] at hl; simp at hl
  · exact h
theorem OwnZ.ls {w : World} {base : Nat} {v : Value} {l : List Int} (h : OwnZ w base v l) : ∃ g, LsZ w g v l ∧ (0 < l.length → base ≤ g ∧ g < w.heap.size) := by
  rcases h.2 with ⟨e, h0⟩ | ⟨g, cap, cur, e, hb, hh, hnc, hcm, hcs, ht⟩
  · exact ⟨0, .inl ⟨e, List.eq_nil_of_length_eq_zero h0⟩, fun h => by omega⟩
  · refine ⟨g, .inr ⟨0, cap, e, hnc, hcm, fun i x hx => ?_⟩, fun _ => ⟨hb, lt_of_heap hh⟩⟩
    have hi : i < l.length := by
      obtain ⟨hi, _⟩ := List.getElem?_eq_some_iff.1 hx
      exact hi
    rw [Nat.zero_add, cell_of_row w g i cur _ (0, 0) hh]
    have h2 : (cur.toList.take (l.length * 1))[i]? = (zl l)[i]? := by rw [ht]
    rw [List.getElem?_take, if_pos (by omega)] at h2
    simp only [Array.getElem?_toList] at h2
    rw [h2]
    simp [zl, hx]
theorem LsZ.take {w : World} {g : Nat} {a : Option Addr} {n cap : Nat} {l : List Int} (h : LsZ w g (.slice a n cap) l) (k : Nat) (hk : k ≤ l.length) : LsZ w g (.slice a k cap) (l.take k) := by
  rcases h with ⟨e, h0⟩ | ⟨off, cap', e, h1, h2, h3⟩
  · injection e with e1 e2 e3
    subst h0
    simp at hk
    subst hk e1 e3
    exact .inl ⟨rfl, rfl⟩
  · injection e with e1 e2 e3
    subst e1 e3
    refine .inr ⟨off, cap, by rw [List.length_take, Nat.min_eq_left hk], by rw [List.length_take]; omega, h2, fun i x hx => h3 i x ?_⟩
    rw [List.getElem?_take] at hx
    split at hx
    · exact hx
    · cases hx

/-- Is it among them? -/
def hasB (l : List Int) (x : Int) : Bool := l.contains x
theorem hasB_at {l : List Int} {x : Int} {i : Nat} (h : l[i]? = some x) : hasB l x = true := by
  unfold hasB; rw [List.contains_iff_mem]; exact List.mem_of_getElem? h
theorem hasB_none {l : List Int} {x : Int} (h : ∀ i, i < l.length → l[i]? ≠ some x) : hasB l x = false := by
  unfold hasB
  rw [Bool.eq_false_iff]
  intro hc
  rw [List.contains_iff_mem] at hc
  obtain ⟨i, hi, e⟩ := List.mem_iff_getElem.1 hc
  exact h i hi (by rw [List.getElem?_eq_getElem hi, e])
/-- The first place at which it is; -1 for none. -/
def idxI (l : List Int) (x : Int) : Int := if l.contains x then (l.idxOf x : Nat) else -1
theorem idxI_at {l : List Int} {x : Int} {i : Nat} (hno : ∀ j, j < i → l[j]? ≠ some x) (h : l[i]? = some x) : idxI l x = (i : Nat) := by
  have hm : x ∈ l := List.mem_of_getElem? h
  obtain ⟨hi, he⟩ := List.getElem?_eq_some_iff.1 h
  unfold idxI
  rw [if_pos (List.contains_iff_mem.2 hm)]
  have hlt := List.idxOf_lt_length_iff.2 hm
  have hg : l[l.idxOf x]? = some x := by rw [List.getElem?_eq_getElem hlt, List.getElem_idxOf hlt]
  have h1 : ¬ l.idxOf x < i := fun h => hno _ h hg
  have h2 : ¬ i < l.idxOf x := fun h => by
    have := List.not_of_lt_findIdx (p := (· == x)) (xs := l) (i := i) h
    simp [he] at this
  congr 1
  omega
theorem idxI_none {l : List Int} {x : Int} (h : hasB l x = false) : idxI l x = -1 := by
  unfold idxI; unfold hasB at h; rw [h]; rfl
end Go.Proofs.YtkebpchhpidogaaGreatDoor
