/- pawn. (Written by wip/mkgef.py.) · from, All, From; of none · The document's Turned; the walk of PosTurns · The document's Pawn, clear, lost, Takes, Formed. (Written by wip/mkmvi.py.). -/
import Derived.Test.YtkebpchhpidogaaGreatDoorPkA15
import Derived.Test.YtkebpchhpidogaaGreatDoorPkA16
import Derived.Test.YtkebpchhpidogaaGreatDoorPkA17
import Derived.Test.YtkebpchhpidogaaGreatDoorPkA18
namespace Go.Proofs.YtkebpchhpidogaaGreatDoor
open Go.RowKit
set_option linter.unusedVariables false
set_option linter.unusedSimpArgs false
set_option maxRecDepth 100000

def flP (p : Ps) (s : Nat) (L : List Int) (k : Nat) : List Mv := (L.take k).flatMap (arrN p s)
theorem flP_step {p : Ps} {s : Nat} {L : List Int} {k : Nat} {x : Int} (h : L[k]? = some x) : flP p s L (k + 1) = flP p s L k ++ arrN p s x := by
  unfold flP; rw [take_at L k x h]; simp
theorem flP_len (p : Ps) (s : Nat) (L : List Int) (k : Nat) (hL : L.length ≤ 64) : (flP p s L k).length ≤ 256 := by
  have := flatM_len (arrN p s) 4 (arr_len p s) (L.take k)
  rw [List.length_take] at this
  unfold flP
  omega
def cpP (p : Ps) (s : Nat) (L : List Int) (k : Nat) : List Mv := ((L.take k).filter (capB p)).flatMap (arrN p s)
theorem cpP_yes {p : Ps} {s : Nat} {L : List Int} {k : Nat} {x : Int} (h : L[k]? = some x) (ho : capB p x = true) : cpP p s L (k + 1) = cpP p s L k ++ arrN p s x := by
  unfold cpP; rw [take_at L k x h]; simp [ho]
theorem cpP_no {p : Ps} {s : Nat} {L : List Int} {k : Nat} {x : Int} (h : L[k]? = some x) (ho : capB p x = false) : cpP p s L (k + 1) = cpP p s L k := by
  unfold cpP; rw [take_at L k x h]; simp [ho]
theorem cpP_len (p : Ps) (s : Nat) (L : List Int) (k : Nat) (hL : L.length ≤ 64) : (cpP p s L k).length ≤ 256 := by
  have h1 := flatM_len (arrN p s) 4 (arr_len p s) ((L.take k).filter (capB p))
  have h2 := List.length_filter_le (capB p) (L.take k)
  rw [List.length_take] at h2
  unfold cpP
  omega
/-- Numbers beside moves: where moves are put behind moves, the numbers stay. -/
theorem OwnZ.beside {w w' : World} {b b' : Nat} {v vm : Value} {L : List Int} {M : List Mv} (h : OwnZ w b v L) (hm : OwnM w b' vm M) (hg : w.grownBy w' vm.ownBlock) : OwnZ w' b v L := by
  obtain ⟨h1, h2⟩ := h
  refine ⟨h1, ?_⟩
  rcases h2 with h2 | ⟨g, cap, cur, e1, e2, e3, e4⟩
  · exact .inl h2
  · refine .inr ⟨g, cap, cur, e1, e2, (hg.block g (lt_of_heap e3) (fun e => ?_)).trans e3, e4⟩
    rcases hm.2 with ⟨q, _⟩ | ⟨gm, cm, curm, q1, _, q3, _⟩
    · rw [q] at e; cases e
    · rw [q1] at e
      have : g = gm := by simpa [Value.ownBlock] using e
      rw [this, q3] at e3
      simp at e3
set_option maxHeartbeats 4000000 in
theorem pawn_go (g : Nat) (a : Addr) {p : Ps} {s : Nat} (hPw : Pw p s) (w : World) (hT : TabG w) (hE : EyeAt w g a) :
    Calls Tryz.prog 52 #[.pointer (some ⟨g, 0, none⟩), .agg (pl p).toArray, .int .i64 (s : Int)] w (NewM w (pawnN p s)) := by
  have HP := Lib.hid (PAt.new w hPw.brd.1)
  have HK0 := Lib.hid ((Kept.refl w).alloc (.cells (pl p).toArray 26))
  have HT := Lib.hid (hT.kept HK0.out)
  have HE := Lib.hid (hE.kept HK0.out)
  have hpl : Hid (p.B.length = 64) := hPw.brd.1
  have HStr := Lib.hid (fun w hS => strikes_on a p hPw.brd hPw.right s hPw.s1 w hS)
  have HAh := Lib.hid (fun w hT => ahead_is hPw w hT)
  have HCp := Lib.hid (fun x h0 h1 w => captures_is p hPw.brd x h0 h1 w)
  have HAr := Lib.hid (fun x h0 h1 w hT => arrive_is p hPw.brd (right_t hPw.right).1 s x h0 h1 w hT)
  have HLn := Lib.hid (zs_len p.B (s : Int))
  have HLa := Lib.hid (ah_len p s)
  have HMem := Lib.hid (fun x (hx : x ∈ zn (strikesN p.B (s : Int))) => ((mem_zs (B := p.B) (s := s) x).1 hx).1)
  have HMa := Lib.hid (fun x (hx : x ∈ ahN p s) => (hPw.ahead hx).1)
  have HV : Hid (pawnN p s = flP p s (ahN p s) (ahN p s).length ++ cpP p s (zn (strikesN p.B (s : Int))) (zn (strikesN p.B (s : Int))).length) := by show _ = _; unfold flP cpP pawnN; rw [List.take_length, List.take_length]
  generalize zn (strikesN p.B (s : Int)) = L at *
  generalize ahN p s = A at *
  clear hPw hT hE
  go_enter Tryz.func52, Tryz.ntmps52
  go_wp2_with (first | (refine wpList_load_ps (by rfl) _ rfl _ rfl _ (HP.out) ?_) | (refine wpList_load_pb (by rfl) _ rfl _ rfl _ (HP.out) ?_))
  refine (HAh.out _ HT.out).mono ?_
  rintro e X ⟨vA, rfl, hOA, kA⟩
  obtain ⟨aA, cA, rfl⟩ := hOA.slice
  obtain ⟨ga, hla, _⟩ := hOA.ls
  have HLsA := Lib.hid hla
  have HKX := Lib.hid kA
  generalize hnA : A.length = nA at *
  have HNA := Lib.hid hnA
  clear hOA hla kA hnA
  go_wp2
  go_loopw [7, 16] (fun t7 t16 wr => ∃ k : Nat, k ≤ nA ∧ t16 = .int .i64 k ∧ OwnM wr X.heap.size t7 (flP p s A k) ∧ Kept X wr) (fun _ t16 _ => nA - (intOf t16).toNat)
  case atStart => exact ⟨0, Nat.zero_le _, rfl, OwnM.nil _ _, Kept.refl _⟩
  case round =>
    obtain ⟨k, hk, rfl, hO, hK⟩ := hrel
    obtain ⟨ao, co, rfl⟩ := hO.slice
    have HO := Lib.hid hO
    have HK := Lib.hid hK
    have HPr := Lib.hid (HP.out.kept (HKX.out.trans hK))
    have HTr := Lib.hid (HT.out.kept (HKX.out.trans hK))
    have HEr := Lib.hid (HE.out.kept (HKX.out.trans hK))
    have hLk := Lib.hid (flP_len p s A k (by have := HNA.out; have := HLa.out; omega))
    generalize hln : (flP p s A k).length = q at *
    have HQ := Lib.hid hln
    clear hO hln
    by_cases hlt : k < nA
    · have hlt' : (k : Int) < (nA : Int) := by omega
      obtain ⟨x, hx⟩ : ∃ x, A[k]? = some x := ⟨_, List.getElem?_eq_getElem (by have := HNA.out; omega)⟩
      obtain ⟨x0, x1⟩ := HMa.out x (List.mem_of_getElem? hx)
      obtain ⟨off, cap, he, hc1, hc2, h3⟩ := HLsA.out.full (by have := HNA.out; omega)
      rw [HNA.out] at he
      injection he with he1 he2 he3
      subst he1 he3
      have e1 := kept_cell hK (h3 k x hx)
      rw [HNA.out] at hc1
      unfold maxLen at hc2
      have HS := Lib.hid (flP_step (p := p) (s := s) hx)
      have HArx := Lib.hid (HAr.out x x0 x1)
      have HAl := Lib.hid (arr_len p s x)
      generalize arrN p s x = R at *
      clear hx h3 hK x0 x1
      go_wp2_with (first | (refine wpList_load_ps (by rfl) _ rfl _ rfl _ (HPr.out) ?_) | (refine wpList_load_pb (by rfl) _ rfl _ rfl _ (HPr.out) ?_))
      refine (HArx.out _ HTr.out).mono ?_
      rintro e w2 ⟨v2, rfl, hO2, k2⟩
      obtain ⟨a2, c2, rfl⟩ := hO2.slice
      obtain ⟨g2, hl2, _⟩ := hO2.ls
      have HL2 := Lib.hid hl2
      have HK2 := Lib.hid (HK.out.trans k2)
      have HO3 := Lib.hid (HO.out.kept k2)
      generalize hR : R.length = r at *
      have HR := Lib.hid hR
      clear hO2 hl2 k2 hR
      go_wp2_with (at_builtin; refine wpList_append_m rfl _ _ rfl X.heap.size g2 _ _ (flP p s A k) R rfl rfl HO3.out HL2.out ?c1 ?c2 ?_)
      case c1 => have := hLk.out; have := HQ.out; have := HAl.out; have := HR.out; omega
      case c2 => exact HK2.out.size
      intro v' w4 hO' hg
      have hK4 := HO3.out.grown HK2.out (Nat.le_refl _) hg
      rw [← HS.out] at hO'
      obtain ⟨a', cap', rfl⟩ := hO'.slice
      have HO4 := Lib.hid hO'
      have HK4 := Lib.hid hK4
      clear hO' hK4 hg
      generalize (flP p s A (k + 1)).length = q' at *
      go_wp2
      go_roundw
      case rel => exact ⟨k + 1, by omega, by go_num, HO4.out, HK4.out⟩
      case measure => simp [intOf]; omega
    · obtain rfl : k = nA := by omega
      clear hK
      generalize flP p s A k = F at *
      go_wp2
      refine wp_region_held_drew (S := Kept _) (by kernel_rfl) (Kept.refl _).drew (fun hHeld => ?_)
      refine rT 0 27 (.pointer (some ⟨g, 0, none⟩)) rfl rfl hHeld ?_
      simp only [Act.put, sA, sZ, sU]
      refine rT 1 28 (.pointer (some ⟨g, 0, none⟩)) rfl rfl hHeld ?_
      simp only [pA, pN, sZ, sU]
      refine rT 2 29 (.pointer (some ⟨g, 0, none⟩)) rfl rfl hHeld ?_
      simp only [pA, pN, sZ, sU]
      refine rC 3 30 (.pointer (some a)) rfl rfl (fun _ h => kept_cell h (HEr.out)) hHeld ?_
      simp only [pA, pN, sZ, sU]
      refine rT 4 31 (.pointer (some ⟨w.heap.size, 0, none⟩)) rfl rfl hHeld ?_
      simp only [pA, pN, sZ, sU]
      refine rY 5 32 rfl rfl (take_load_pb (by rfl) _ rfl _ rfl p hpl.out (fun _ h => (HPr.out).kept h)) hHeld ?_
      simp only [pA, pN, sZ, sU]
      refine rT 6 33 (.int .i64 (s : Int)) rfl rfl hHeld ?_
      simp only [pA, pN, sZ, sU]
      refine rT 9 36 (.int .i64 0) rfl rfl hHeld ?_
      simp only [pA, pN, sZ, sU]
      refine rR 7 rfl (fun K hK => ?_)
      go_simp
      refine (HStr.out _ (HTr.out.tabm.tabs.steps.kept hHeld)).mono ?_
      rintro e Y ⟨vY, rfl, hoY, gY⟩
      obtain ⟨aY, cY, rfl⟩ := hoY.slice
      have HOY := Lib.hid hoY
      clear hoY
      refine hK.out _ _ (hHeld.trans gY) (fun _ => ?_)
      replace hHeld := hHeld.trans gY
      clear hK K
      refine rT 8 35 (.int .i64 (L.length : Int)) rfl rfl hHeld ?_
      simp only [pA, pN, sZ, sU]
      refine wpAnyH_done (by kernel_rfl) ?_ _
      have HZY := Lib.hid (HOY.out.low (Nat.zero_le _))
      have HPY := Lib.hid (HPr.out.kept hHeld)
      have HTY := Lib.hid (HTr.out.kept hHeld)
      have HKXY := Lib.hid (HK.out.trans hHeld)
      have HOYm := Lib.hid (HO.out.kept hHeld)
      generalize hn : L.length = n at *
      have HN := Lib.hid hn
      have HFl : Hid (F.length ≤ 256) := by show _ ≤ _; have := hLk.out; have := HQ.out; omega
      clear hHeld hn gY HPr HTr HEr HK HO
      go_wp2
      go_loopw [7, 36] (fun t7 t36 wr => ∃ k : Nat, k ≤ n ∧ t36 = .int .i64 k ∧ OwnM wr X.heap.size t7 (F ++ cpP p s L k) ∧ Kept X wr ∧ OwnZ wr 0 (.slice aY n cY) L) (fun _ t36 _ => n - (intOf t36).toNat)
      case atStart => exact ⟨0, Nat.zero_le _, rfl, by rw [show cpP p s L 0 = [] from rfl, List.append_nil]; exact HOYm.out, HKXY.out, HZY.out⟩
      case round =>
        obtain ⟨k, hk, rfl, hO, hK, hZ⟩ := hrel
        obtain ⟨ao, co, rfl⟩ := hO.slice
        have HO := Lib.hid hO
        have HK := Lib.hid hK
        have HZ := Lib.hid hZ
        have HPr := Lib.hid (HP.out.kept (HKX.out.trans hK))
        have HTr := Lib.hid (HT.out.kept (HKX.out.trans hK))
        have hLk := Lib.hid (cpP_len p s L k (by have := HN.out; have := HLn.out; omega))
        generalize hln : (F ++ cpP p s L k).length = q at *
        have HQ2 := Lib.hid hln
        clear hO hln hK
        by_cases hlt : k < n
        · have hlt' : (k : Int) < (n : Int) := by omega
          obtain ⟨x, hx⟩ : ∃ x, L[k]? = some x := ⟨_, List.getElem?_eq_getElem (by have := HN.out; omega)⟩
          obtain ⟨x0, x1⟩ := HMem.out x (List.mem_of_getElem? hx)
          obtain ⟨gl, hls, _⟩ := hZ.ls
          obtain ⟨off, cap, he, hc1, hc2, h3⟩ := hls.full (by have := HN.out; omega)
          rw [HN.out] at he
          injection he with he1 he2 he3
          have e1 := h3 k x hx
          subst he1 he3
          rw [HN.out] at hc1
          unfold maxLen at hc2
          have HX := Lib.hid hx
          have HArx := Lib.hid (HAr.out x x0 x1)
          have HCpx := Lib.hid (HCp.out x x0 x1)
          have HAl := Lib.hid (arr_len p s x)
          clear hx h3 x0 x1 hZ hls
          cases hcp : capB p x
          · rw [hcp] at HCpx
            have HS := Lib.hid (cpP_no (p := p) (s := s) HX.out hcp)
            clear hcp
            go_wp2_with (first | (refine wpList_load_ps (by rfl) _ rfl _ rfl _ (HPr.out) ?_) | (refine wpList_load_pb (by rfl) _ rfl _ rfl _ (HPr.out) ?_))
            refine (HCpx.out _).mono ?_
            rintro e w2 ⟨rfl, k2⟩
            have HK2 := Lib.hid (HK.out.trans k2)
            have HO2 := Lib.hid (HO.out.kept k2)
            have HZ2 := Lib.hid (HZ.out.kept k2)
            clear k2
            go_wp2
            go_roundw
            case rel => exact ⟨k + 1, by omega, by go_num, by rw [HS.out]; exact HO2.out, HK2.out, HZ2.out⟩
            case measure => simp [intOf]; omega
          · rw [hcp] at HCpx
            have HS := Lib.hid (cpP_yes (p := p) (s := s) HX.out hcp)
            clear hcp
            generalize arrN p s x = R at *
            go_wp2_with (first | (refine wpList_load_ps (by rfl) _ rfl _ rfl _ (HPr.out) ?_) | (refine wpList_load_pb (by rfl) _ rfl _ rfl _ (HPr.out) ?_))
            refine (HCpx.out _).mono ?_
            rintro e w2 ⟨rfl, k2⟩
            have HK2 := Lib.hid (HK.out.trans k2)
            have HO2 := Lib.hid (HO.out.kept k2)
            have HZ2 := Lib.hid (HZ.out.kept k2)
            have HP2 := Lib.hid (HPr.out.kept k2)
            have HT2 := Lib.hid (HTr.out.kept k2)
            clear k2 e1
            go_wp2_with (first | (refine wpList_load_ps (by rfl) _ rfl _ rfl _ (HP2.out) ?_) | (refine wpList_load_pb (by rfl) _ rfl _ rfl _ (HP2.out) ?_))
            refine (HArx.out _ HT2.out).mono ?_
            rintro e w3 ⟨v3, rfl, hO3, k3⟩
            obtain ⟨a3, c3, rfl⟩ := hO3.slice
            obtain ⟨g3, hl3, _⟩ := hO3.ls
            have HL3 := Lib.hid hl3
            have HK3 := Lib.hid (HK2.out.trans k3)
            have HO3 := Lib.hid (HO2.out.kept k3)
            have HZ3 := Lib.hid (HZ2.out.kept k3)
            generalize hR : R.length = r at *
            have HR := Lib.hid hR
            clear hO3 hl3 k3 hR
            go_wp2_with (at_builtin; refine wpList_append_m rfl _ _ rfl X.heap.size g3 _ _ (F ++ cpP p s L k) R rfl rfl HO3.out HL3.out ?c1 ?c2 ?_)
            case c1 => have := hLk.out; have := HFl.out; have := HAl.out; have := HR.out; rw [List.length_append]; omega
            case c2 => exact HK3.out.size
            intro v' w4 hO' hg
            have hK4 := HO3.out.grown HK3.out (Nat.le_refl _) hg
            have HZ4 := Lib.hid (HZ3.out.beside HO3.out hg)
            rw [← HS.out] at hO'
            obtain ⟨a', cap', rfl⟩ := hO'.slice
            have HO4 := Lib.hid hO'
            have HK4 := Lib.hid hK4
            clear hO' hK4 hg
            generalize (F ++ cpP p s L (k + 1)).length = q' at *
            go_wp2
            go_roundw
            case rel => exact ⟨k + 1, by omega, by go_num, HO4.out, HK4.out, HZ4.out⟩
            case measure => simp [intOf]; omega
        · obtain rfl : k = n := by omega
          clear hZ
          go_wp2
          go_ret
          exact ⟨_, rfl, by rw [HV.out]; exact HO.out.low (HK0.out.trans HKX.out).size, (HK0.out.trans HKX.out).trans HK.out⟩
end Go.Proofs.YtkebpchhpidogaaGreatDoor
namespace Go.Proofs.YtkebpchhpidogaaGreatDoor
open Go.RowKit
set_option linter.unusedVariables false
set_option linter.unusedSimpArgs false
set_option maxRecDepth 100000

/-- Who tells of which kind. -/
def fv (n : Nat) : Value := .func (.func n) #[] #[]
def tellV : Array Value := #[.nilFunc, fv 52, fv 53, fv 53, fv 53, fv 53, fv 54]
def tellZ : Array Value := #[.nilFunc, .nilFunc, .nilFunc, .nilFunc, .nilFunc, .nilFunc, .nilFunc]
theorem zeroTe : (Tryz.prog.info? 63).map (fun i => (i.zero, i.size)) = some (some (.agg tellZ), 7) := by kernel_rfl
theorem sizeTe : (Tryz.prog.info? 63).map (·.size) = some tellV.size := by kernel_rfl
theorem run_zero_te (w : World) : (zeroValue 63).run Tryz.prog w = .ok (.agg tellZ) w := (zero_of_info zeroTe).1 w
theorem wpList_new_te {ops : Array Oper} {rest : List Oper} {o : Oper} {a : Act} {w : World} {Q : Exit → Act → World → Prop} (hgd : o.guard = none) (ho : o.op = .alloc 63)
    (h : wpList Tryz.prog ops Q rest (a.put o.dst (.pointer (some ⟨w.heap.size, 0, none⟩))) (w.alloc (.cells tellZ 63))) : wpList Tryz.prog ops Q (o :: rest) a w := by
  refine wpList_plain hgd fun _ hK => ?_
  unfold Oper.wp execOp
  simp only [ho, Instr.alloc, Sem.run_bind, run_zero_te, Result.andThen_ok, newVar, newRow, Value.cells]
  exact hK _ _ h
theorem tell_one : tellV.all (·.oneCell') = true := by
  rw [Array.all_eq_true_iff_forall_mem]
  intro v hv
  simp only [tellV, fv, List.mem_toArray, List.mem_cons, List.not_mem_nil, or_false] at hv
  rcases hv with rfl | rfl | rfl | rfl | rfl | rfl | rfl <;> rfl
theorem tellers_is (w : World) : Calls Tryz.prog 31 #[] w fun e w' => e = .returned (.agg tellV) ∧ Kept w w' := by
  have hbl := heap_alloc_new w (.cells tellZ 63)
  have HB := Lib.hid hbl
  clear hbl
  go_enter Tryz.func31, Tryz.ntmps31
  go_wp2_with (first
    | (with_reducible refine wpList_new_te rfl rfl ?_)
    | (refine wpList_built rfl 63 _ rfl tellV (by kernel_rfl) ?_)
    | (refine wpList_store_row rfl 63 _ _ rfl w.heap.size tellV rfl rfl 63 _ HB.out sizeTe rfl tell_one ?_))
  refine bodyPost_ret (v := .agg tellV) ?_ rfl ⟨rfl, ?_⟩
  · exact results_cell_row rfl _ _ w.heap.size 63 _ (0, 0) _ rfl (setRow_heap _ _ _ _ _ _ HB.out) Tryz.underlying63 rfl sizeTe
  · exact ((Kept.refl _).alloc _).setRow (Nat.le_refl _) _
/-- The function of a kind. -/
def tf (k : Nat) : Nat := if k = 1 then 52 else if k = 6 then 54 else 53
theorem sizeFn (w : World) : (sizeOf 62).run Tryz.prog w = .ok 1 w := by
  have h0 : (Tryz.prog.info? 62).map (·.size) = some 1 := by kernel_rfl
  cases hq : Tryz.prog.info? 62 with
  | none => simp [hq] at h0
  | some i => simp [hq] at h0; simp [sizeOf, typeInfo, hq, h0]
theorem run_index_te (k : Nat) (h1 : 1 ≤ k) (h6 : k ≤ 6) (w : World) : (Instr.index 63 (.agg tellV) (.int .i64 k)).run Tryz.prog w = .ok (.func (.func (tf k)) #[] #[]) w := by
  have hb : (0 : Int) ≤ (k : Int) ∧ (k : Int) < ((7 : Nat) : Int) := by omega
  simp only [Instr.index, asIntOf, Sem.run_bind, Sem.run_pure, Result.andThen_ok, run_underlying Tryz.underlying63, if_pos hb, sizeFn]
  simp only [part, isAgg, Sem.run_bind, Sem.run_pure, Result.andThen_ok, run_underlying Tryz.underlying62, if_true, sizeFn, Int.toNat_natCast]
  have : k = 1 ∨ k = 2 ∨ k = 3 ∨ k = 4 ∨ k = 5 ∨ k = 6 := by omega
  rcases this with rfl | rfl | rfl | rfl | rfl | rfl <;> rfl
theorem tf_enters (k : Nat) (args : Array Value) (w : World) : (callFunc (tf k) args).run Tryz.prog w = .ok (.enter (tf k) args) w := by
  unfold tf
  split
  · exact fun_enters Tryz.func52 (by kernel_rfl) rfl args w
  · split
    · exact fun_enters Tryz.func54 (by kernel_rfl) rfl args w
    · exact fun_enters Tryz.func53 (by kernel_rfl) rfl args w
theorem kind_of {x t : Int} (h : sideI x = t) (ht : t = 0 ∨ t = 1) : ∃ k : Nat, 1 ≤ k ∧ k ≤ 6 ∧ kindI x = k := by
  obtain ⟨hm, _⟩ := side_man ht h
  have h2 := (manB_iff x).1 hm
  unfold kindI
  rw [hm, if_pos rfl]
  by_cases h0 : 0 < x
  · rw [if_pos h0]; exact ⟨x.toNat, by omega, by omega, by omega⟩
  · rw [if_neg h0]; exact ⟨(-x).toNat, by omega, by omega, by omega⟩
theorem raw_go (g : Nat) (a : Addr) {p : Ps} (hB : Brd p.B) (hr : pwI p = 0) {s : Nat} (hs : s < 64) (own : sideI (p.B.getD s 0) = p.t) {k : Nat} (hk : kindI (p.B.getD s 0) = k) (w : World) (hT : TabG w) (hE : EyeAt w g a) :
    Calls Tryz.prog (tf k) #[.pointer (some ⟨g, 0, none⟩), .agg (pl p).toArray, .int .i64 (s : Int)] w (NewM w (rawN p s)) := by
  by_cases h1 : k = 1
  · subst h1
    have e1 : rawN p s = pawnN p s := by unfold rawN; rw [if_pos (by exact hk)]
    have e2 : tf 1 = 52 := rfl
    rw [e1, e2]
    exact pawn_go g a ⟨hB, hr, hs, own, hk⟩ w hT hE
  · by_cases h6 : k = 6
    · subst h6
      have e1 : rawN p s = kingN p s := by unfold rawN; rw [if_neg (by rw [hk]; decide), if_pos (by exact hk)]
      have e2 : tf 6 = 54 := rfl
      rw [e1, e2]
      exact king_go g a p hB hr s hs w hT hE
    · have e1 : rawN p s = offN p s := by unfold rawN; rw [if_neg (by rw [hk]; omega), if_neg (by rw [hk]; omega)]
      have e2 : tf k = 53 := by unfold tf; rw [if_neg h1, if_neg h6]
      rw [e1, e2]
      exact officer_is g a p hB hr s hs w hT hE
theorem raw_len (p : Ps) (s : Nat) : (rawN p s).length ≤ 264 := by
  have h1 := pawn_len p s
  have h2 := king_len p s
  have h3 := off_len p s
  unfold rawN
  split
  · exact h1
  · split <;> omega
set_option maxHeartbeats 4000000 in
theorem from_in (g : Nat) (a : Addr) (p : Ps) (hB : Brd p.B) (hr : pwI p = 0) (s : Nat) (hs : s < 64) (own : sideI (p.B.getD s 0) = p.t) (w : World) (hT : TabG w) (hE : EyeAt w g a) :
    Calls Tryz.prog 19 #[.pointer (some ⟨g, 0, none⟩), .agg (pl p).toArray, .int .i64 (s : Int)] w (NewM w (fromN p s)) := by
  have HP := Lib.hid (PAt.new w hB.1)
  have HK0 := Lib.hid ((Kept.refl w).alloc (.cells (pl p).toArray 26))
  have HT := Lib.hid (hT.kept HK0.out)
  have HE := Lib.hid (hE.kept HK0.out)
  have hpl : Hid (p.B.length = 64) := hB.1
  obtain ⟨kd, k1, k6, hk⟩ := kind_of own (right_t hr).1
  have HG := Lib.hid (fun w hT hE => raw_go g a hB hr hs own hk w hT hE)
  have HMan : Hid (∀ w, Calls Tryz.prog 29 #[.agg (cl p.B).toArray, .int .i64 (s : Int)] w fun e w' => e = .returned (.int .i64 (p.B.getD s 0)) ∧ Kept w w') := fun w => man_at p.B hB (s : Int) (by omega) (by omega) w
  have HV := Lib.hid (raw_sorted hB hr hs own)
  have HLn := Lib.hid (raw_len p s)
  have hidx := run_index_te kd k1 k6
  have hent := tf_enters kd
  have HKd : Hid (∀ w, Calls Tryz.prog 32 #[.int .i64 (p.B.getD s 0)] w fun e w' => e = .returned (.int .i64 (kd : Int)) ∧ Kept w w') := fun w => by have := mkind_k (p.B.getD s 0) w; rw [hk] at this; exact this
  have hq : (sideI (p.B.getD s 0) != p.t) = false := by rw [own]; simp
  generalize p.B.getD s 0 = x at *
  generalize rawN p s = R at *
  generalize tf kd = fk at *
  clear hB hr hT hE hs own hk k1 k6
  go_enter Tryz.func19, Tryz.ntmps19
  go_wp2_with (first | (refine wpList_load_ps (by rfl) _ rfl _ rfl _ (HP.out) ?_) | (refine wpList_load_pb (by rfl) _ rfl _ rfl _ (HP.out) ?_))
  refine (HMan.out _).mono ?_
  rintro e w1 ⟨rfl, k1⟩
  have HK1 := Lib.hid (HK0.out.trans k1)
  have HP1 := Lib.hid (HP.out.kept k1)
  have HT1 := Lib.hid (HT.out.kept k1)
  have HE1 := Lib.hid (HE.out.kept k1)
  clear k1
  go_wp2
  refine wp_region_held_drew (S := Kept _) (by kernel_rfl) (Kept.refl _).drew (fun hHeld => ?_)
  refine rT 0 13 (.int .i64 x) rfl rfl hHeld ?_
  simp only [Act.put, sA, sZ, sU]
  refine rT 2 15 (.pointer (some ⟨w.heap.size, 64, none⟩)) rfl rfl hHeld ?_
  simp only [pA, pN, sZ, sU]
  refine rC 3 16 (.int .i64 p.t) rfl rfl (fun _ h => kept_cell h (HP1.out.turn)) hHeld ?_
  simp only [pA, pN, sZ, sU]
  refine rR 1 rfl (fun K hK => ?_)
  go_simp
  refine (mside_k x _).mono ?_
  rintro e w2 ⟨rfl, gw2⟩
  refine hK.out _ _ (hHeld.trans gw2) (fun _ => ?_)
  replace hHeld := hHeld.trans gw2
  clear hK K
  refine rT 4 17 (.bool false) rfl rfl hHeld ?_
  simp only [pA, pN, sZ, sU]
  refine wpAnyH_done (by kernel_rfl) ?_ _
  have HK2 := Lib.hid (HK1.out.trans hHeld)
  have HP2 := Lib.hid (HP1.out.kept hHeld)
  have HT2 := Lib.hid (HT1.out.kept hHeld)
  have HE2 := Lib.hid (HE1.out.kept hHeld)
  clear hHeld
  go_wp2
  refine wp_region_held_drew (S := Kept _) (by kernel_rfl) (Kept.refl _).drew (fun hHeld => ?_)
  refine rT 1 19 (.int .i64 x) rfl rfl hHeld ?_
  simp only [pA, pN, sZ, sU]
  refine rT 4 22 (.pointer (some ⟨g, 0, none⟩)) rfl rfl hHeld ?_
  simp only [pA, pN, sZ, sU]
  refine rY 5 23 rfl rfl (take_load_ps (by rfl) _ rfl _ rfl p hpl.out (fun _ h => (HP2.out).kept h)) hHeld ?_
  simp only [pA, pN, sZ, sU]
  refine rT 6 24 (.int .i64 (s : Int)) rfl rfl hHeld ?_
  simp only [pA, pN, sZ, sU]
  refine rR 0 rfl (fun K hK => ?_)
  go_simp
  refine (tellers_is _).mono ?_
  rintro e w3 ⟨rfl, gw3⟩
  refine hK.out _ _ (hHeld.trans gw3) (fun _ => ?_)
  replace hHeld := hHeld.trans gw3
  clear hK K
  refine rR 2 rfl (fun K hK => ?_)
  go_simp
  refine (HKd.out _).mono ?_
  rintro e w4 ⟨rfl, gw4⟩
  refine hK.out _ _ (hHeld.trans gw4) (fun _ => ?_)
  replace hHeld := hHeld.trans gw4
  clear hK K
  refine rT 3 21 (.func (.func fk) #[] #[]) rfl rfl hHeld ?_
  simp only [pA, pN, sZ, sU]
  have HB5 := Lib.hid (Nat.le_trans HK2.out.size hHeld.size)
  refine rR 7 rfl (fun K hK => ?_)
  go_simp
  refine (HG.out _ (HT2.out.kept hHeld) (HE2.out.kept hHeld)).mono ?_
  rintro e w5 ⟨vw5, rfl, how5, gw5⟩
  obtain ⟨aw5, cw5, rfl⟩ := how5.slice
  have HOw5 := Lib.hid how5
  clear how5
  refine hK.out _ _ (hHeld.trans gw5) (fun _ => ?_)
  replace hHeld := hHeld.trans gw5
  clear hK K
  refine rT 8 8 (.slice aw5 R.length cw5) rfl rfl hHeld ?_
  simp only [pA, pN, sZ, sU]
  refine wpAnyH_done (by kernel_rfl) ?_ _
  have HK5 := Lib.hid (HK2.out.trans hHeld)
  clear hHeld gw5
  go_wp2_with fail
  refine (sortM_own _ _ _ R HOw5.out (by have := HLn.out; omega)).mono ?_
  rintro e w6 ⟨rfl, hO6, hg6⟩
  have HK6 := Lib.hid (HOw5.out.grown HK5.out HB5.out hg6)
  have HO6 := Lib.hid (hO6.low HB5.out)
  clear hO6 hg6
  generalize R.length = n at *
  go_wp2
  go_ret
  exact ⟨_, rfl, by rw [← HV.out]; exact HO6.out, HK6.out⟩
theorem from_not (g : Nat) (p : Ps) (hB : Brd p.B) (s : Int) (h : sideI (manA p.B s) ≠ p.t) (w : World) :
    Calls Tryz.prog 19 #[.pointer (some ⟨g, 0, none⟩), .agg (pl p).toArray, .int .i64 s] w (NewM w []) := by
  have HP := Lib.hid (PAt.new w hB.1)
  have HK0 := Lib.hid ((Kept.refl w).alloc (.cells (pl p).toArray 26))
  have HMan := Lib.hid (fun w => man_a p.B hB s w)
  have hq : (sideI (manA p.B s) != p.t) = true := bne_iff_ne.2 h
  generalize manA p.B s = x at *
  clear hB h
  go_enter Tryz.func19, Tryz.ntmps19
  go_wp2_with (first | (refine wpList_load_ps (by rfl) _ rfl _ rfl _ (HP.out) ?_) | (refine wpList_load_pb (by rfl) _ rfl _ rfl _ (HP.out) ?_))
  refine (HMan.out _).mono ?_
  rintro e w1 ⟨rfl, k1⟩
  have HK1 := Lib.hid (HK0.out.trans k1)
  have HP1 := Lib.hid (HP.out.kept k1)
  clear k1
  go_wp2
  refine wp_region_held_drew (S := Kept _) (by kernel_rfl) (Kept.refl _).drew (fun hHeld => ?_)
  refine rT 0 13 (.int .i64 x) rfl rfl hHeld ?_
  simp only [Act.put, sA, sZ, sU]
  refine rT 2 15 (.pointer (some ⟨w.heap.size, 64, none⟩)) rfl rfl hHeld ?_
  simp only [pA, pN, sZ, sU]
  refine rC 3 16 (.int .i64 p.t) rfl rfl (fun _ h => kept_cell h (HP1.out.turn)) hHeld ?_
  simp only [pA, pN, sZ, sU]
  refine rR 1 rfl (fun K hK => ?_)
  go_simp
  refine (mside_k x _).mono ?_
  rintro e w2 ⟨rfl, gw2⟩
  refine hK.out _ _ (hHeld.trans gw2) (fun _ => ?_)
  replace hHeld := hHeld.trans gw2
  clear hK K
  refine rT 4 17 (.bool true) rfl rfl hHeld ?_
  simp only [pA, pN, sZ, sU]
  refine wpAnyH_done (by kernel_rfl) ?_ _
  have HK2 := Lib.hid (HK1.out.trans hHeld)
  clear hHeld
  go_wp2
  go_ret
  exact ⟨_, rfl, OwnM.nil _ _, HK2.out⟩
theorem from_is (g : Nat) (a : Addr) (p : Ps) (hB : Brd p.B) (hr : pwI p = 0) (s : Int) (w : World) (hT : TabG w) (hE : EyeAt w g a) :
    Calls Tryz.prog 19 #[.pointer (some ⟨g, 0, none⟩), .agg (pl p).toArray, .int .i64 s] w (NewM w (fromI p s)) := by
  by_cases hs : 0 ≤ s ∧ s < 64
  · obtain ⟨n, rfl⟩ := Int.eq_ofNat_of_zero_le hs.1
    have hn : n < 64 := by omega
    have em : manA p.B (n : Int) = p.B.getD n 0 := by unfold manA bAt; rw [if_pos hs, Int.toNat_natCast]
    rw [fromI_nat p n hn]
    by_cases ho : sideI (p.B.getD n 0) = p.t
    · exact from_in g a p hB hr n hn ho w hT hE
    · rw [from_none (by rw [em]; exact ho)]
      exact from_not g p hB (n : Int) (by rw [em]; exact ho) w
  · have em : manA p.B s = 0 := by unfold manA; rw [if_neg hs]
    have e0 : fromI p s = [] := by unfold fromI; rw [if_neg hs]
    rw [e0]
    exact from_not g p hB s (by rw [em, side_zero]; have := (right_t hr).1; omega) w
/-- All that is told. -/
def allR (p : Ps) : List Mv := if pwI p = 0 then allL p else []
def fromR (p : Ps) (s : Int) : List Mv := if pwI p = 0 then fromI p s else []
set_option maxHeartbeats 4000000 in
theorem all_in (g : Nat) (a : Addr) (p : Ps) (hB : Brd p.B) (hr : pwI p = 0) (w : World) (hT : TabG w) (hE : EyeAt w g a) :
    Calls Tryz.prog 7 #[.pointer (some ⟨g, 0, none⟩), .agg (pl p).toArray] w (NewM w (allL p)) := by
  have HP := Lib.hid (PAt.new w hB.1)
  have HK0 := Lib.hid ((Kept.refl w).alloc (.cells (pl p).toArray 26))
  have HT := Lib.hid (hT.kept HK0.out)
  have HE := Lib.hid (hE.kept HK0.out)
  have HTl : Hid (∀ w, TabG w → Calls Tryz.prog 18 #[.pointer (some ⟨g, 0, none⟩), .agg (pl p).toArray] w fun e w' => e = .returned (.bool true) ∧ Kept w w') := fun w hT => by
    have := tells_is ⟨g, 0, none⟩ p hB w hT; rw [hr] at this; exact this
  have HF : Hid (∀ k : Nat, k < 64 → ∀ w, TabG w → EyeAt w g a → Calls Tryz.prog 19 #[.pointer (some ⟨g, 0, none⟩), .agg (pl p).toArray, .int .i64 (k : Int)] w (NewM w (fromN p k))) := fun k hk w hT hE => by
    have := from_is g a p hB hr (k : Int) w hT hE; rw [fromI_nat p k hk] at this; exact this
  have HV : Hid (allL p = allN p 64) := by rfl
  clear hB hr hT hE
  go_enter Tryz.func7, Tryz.ntmps7
  go_wp2_with (first | (refine wpList_load_ps (by rfl) _ rfl _ rfl _ (HP.out) ?_) | (refine wpList_load_pb (by rfl) _ rfl _ rfl _ (HP.out) ?_))
  refine (HTl.out _ HT.out).mono ?_
  rintro e X ⟨rfl, kX⟩
  have HKX := Lib.hid kX
  clear kX
  go_wp2
  go_loopw [5, 11] (fun t5 t11 wr => ∃ k : Nat, k ≤ 64 ∧ t11 = .int .i64 k ∧ OwnM wr X.heap.size t5 (allN p k) ∧ Kept X wr) (fun _ t11 _ => 64 - (intOf t11).toNat)
  case atStart => exact ⟨0, Nat.zero_le _, rfl, OwnM.nil _ _, Kept.refl _⟩
  case round =>
    obtain ⟨k, hk, rfl, hO, hK⟩ := hrel
    obtain ⟨ao, co, rfl⟩ := hO.slice
    have HO := Lib.hid hO
    have HK := Lib.hid hK
    have HPr := Lib.hid (HP.out.kept (HKX.out.trans hK))
    have HTr := Lib.hid (HT.out.kept (HKX.out.trans hK))
    have HEr := Lib.hid (HE.out.kept (HKX.out.trans hK))
    have hLk := Lib.hid (allN_len p k)
    generalize hln : (allN p k).length = q at *
    have HQ := Lib.hid hln
    clear hO hK hln
    by_cases hlt : k < 64
    · have hlt' : (k : Int) < 64 := by omega
      have HS := Lib.hid (allN_succ p k)
      have HFk := Lib.hid (HF.out k hlt)
      have HFl := Lib.hid (fromN_len p k)
      generalize fromN p k = R at *
      go_wp2_with (first | (refine wpList_load_ps (by rfl) _ rfl _ rfl _ (HPr.out) ?_) | (refine wpList_load_pb (by rfl) _ rfl _ rfl _ (HPr.out) ?_))
      refine (HFk.out _ HTr.out HEr.out).mono ?_
      rintro e w2 ⟨v2, rfl, hO2, k2⟩
      obtain ⟨a2, c2, rfl⟩ := hO2.slice
      obtain ⟨g2, hl2, _⟩ := hO2.ls
      have HL2 := Lib.hid hl2
      have HK2 := Lib.hid (HK.out.trans k2)
      have HO3 := Lib.hid (HO.out.kept k2)
      generalize hR : R.length = r at *
      have HR := Lib.hid hR
      clear hO2 hl2 k2 hR
      go_wp2_with (at_builtin; refine wpList_append_m rfl _ _ rfl X.heap.size g2 _ _ (allN p k) R rfl rfl HO3.out HL2.out ?c1 ?c2 ?_)
      case c1 => have := hLk.out; have := HQ.out; have := HFl.out; have := HR.out; omega
      case c2 => exact HK2.out.size
      intro v' w4 hO' hg
      have hK4 := HO3.out.grown HK2.out (Nat.le_refl _) hg
      rw [← HS.out] at hO'
      obtain ⟨a', cap', rfl⟩ := hO'.slice
      have HO4 := Lib.hid hO'
      have HK4 := Lib.hid hK4
      clear hO' hK4 hg
      generalize (allN p (k + 1)).length = q' at *
      go_wp2
      go_roundw
      case rel => exact ⟨k + 1, by omega, by go_num, HO4.out, HK4.out⟩
      case measure => simp [intOf]; omega
    · obtain rfl : k = 64 := by omega
      go_wp2
      go_ret
      exact ⟨_, rfl, by rw [HV.out]; exact HO.out.low (HK0.out.trans HKX.out).size, (HK0.out.trans HKX.out).trans HK.out⟩
theorem all_wrong (g : Addr) (p : Ps) (hB : Brd p.B) (hr : pwI p ≠ 0) (w : World) (hT : TabG w) :
    Calls Tryz.prog 7 #[.pointer (some g), .agg (pl p).toArray] w (NewM w []) := by
  have HP := Lib.hid (PAt.new w hB.1)
  have HK0 := Lib.hid ((Kept.refl w).alloc (.cells (pl p).toArray 26))
  have HT := Lib.hid (hT.kept HK0.out)
  have HTl : Hid (∀ w, TabG w → Calls Tryz.prog 18 #[.pointer (some g), .agg (pl p).toArray] w fun e w' => e = .returned (.bool false) ∧ Kept w w') := fun w hT => by
    have := tells_is g p hB w hT; rw [show (pwI p == 0) = false from beq_eq_false_iff_ne.2 hr] at this; exact this
  clear hB hr hT
  go_enter Tryz.func7, Tryz.ntmps7
  go_wp2_with (first | (refine wpList_load_ps (by rfl) _ rfl _ rfl _ (HP.out) ?_) | (refine wpList_load_pb (by rfl) _ rfl _ rfl _ (HP.out) ?_))
  refine (HTl.out _ HT.out).mono ?_
  rintro e X ⟨rfl, kX⟩
  have HKX := Lib.hid kX
  clear kX
  go_wp2
  go_ret
  exact ⟨_, rfl, OwnM.nil _ _, HK0.out.trans HKX.out⟩
theorem all_nil (p : Ps) (hB : Brd p.B) (w : World) :
    Calls Tryz.prog 7 #[.pointer none, .agg (pl p).toArray] w (NewM w []) := by
  have HP := Lib.hid (PAt.new w hB.1)
  have HK0 := Lib.hid ((Kept.refl w).alloc (.cells (pl p).toArray 26))
  have HTl := Lib.hid (fun w => tells_nil p hB w)
  clear hB
  go_enter Tryz.func7, Tryz.ntmps7
  go_wp2_with (first | (refine wpList_load_ps (by rfl) _ rfl _ rfl _ (HP.out) ?_) | (refine wpList_load_pb (by rfl) _ rfl _ rfl _ (HP.out) ?_))
  refine (HTl.out _).mono ?_
  rintro e X ⟨rfl, kX⟩
  have HKX := Lib.hid kX
  clear kX
  go_wp2
  go_ret
  exact ⟨_, rfl, OwnM.nil _ _, HK0.out.trans HKX.out⟩
theorem all_is (g : Nat) (a : Addr) (p : Ps) (hB : Brd p.B) (w : World) (hT : TabG w) (hE : EyeAt w g a) :
    Calls Tryz.prog 7 #[.pointer (some ⟨g, 0, none⟩), .agg (pl p).toArray] w (NewM w (allR p)) := by
  unfold allR
  by_cases h : pwI p = 0
  · rw [if_pos h]; exact all_in g a p hB h w hT hE
  · rw [if_neg h]; exact all_wrong _ p hB h w hT
end Go.Proofs.YtkebpchhpidogaaGreatDoor
namespace Go.Proofs.YtkebpchhpidogaaGreatDoor
open Go.RowKit
set_option linter.unusedVariables false
set_option maxRecDepth 100000
set_option linter.unusedSimpArgs false

theorem wp_new_p {o : Oper} {a : Act} {w : World} {K : Act → World → Prop} {Q : Exit → Act → World → Prop} (ho : o.op = .alloc 26)
    (h : K (a.put o.dst (.pointer (some ⟨w.heap.size, 0, none⟩))) (w.alloc (.cells (pl Zp).toArray 26))) : o.wp Tryz.prog a w K Q := by
  unfold Oper.wp execOp
  simp only [ho, Instr.alloc, Sem.run_bind, run_zero_p, Result.andThen_ok, newVar, newRow, Value.cells]
  exact h
theorem seven_all : ∀ k : Fin 8, IntKind.i64.wrap (7 - ((k : Nat) : Int)) = 7 - ((k : Nat) : Int) := by decide +kernel
theorem seven_at {e : Int} (h0 : 0 ≤ e) (h1 : e < 64) : IntKind.i64.wrap (7 - e / 8) = 7 - e / 8 := by
  have := seven_all ⟨(e / 8).toNat, by omega⟩
  simp only [show (((e / 8).toNat : Nat) : Int) = e / 8 by omega] at this
  exact this
theorem quo_all : ∀ c : Fin 16, IntKind.i64.wrap (((c : Nat) : Int).tdiv 4) = ((c : Nat) : Int) / 4 ∧ ((c : Nat) : Int).tmod 4 = ((c : Nat) : Int) % 4 ∧ IntKind.i64.wrap (((c : Nat) : Int) % 4 * 4) = ((c : Nat) : Int) % 4 * 4 ∧
    IntKind.i64.wrap (((c : Nat) : Int) / 4 + ((c : Nat) : Int) % 4 * 4) = ((c : Nat) : Int) / 4 + ((c : Nat) : Int) % 4 * 4 := by decide +kernel
theorem quo_at {c : Int} (h0 : 0 ≤ c) (h1 : c ≤ 15) : IntKind.i64.wrap (c.tdiv 4) = c / 4 ∧ c.tmod 4 = c % 4 ∧ IntKind.i64.wrap (c % 4 * 4) = c % 4 * 4 ∧ IntKind.i64.wrap (c / 4 + c % 4 * 4) = c / 4 + c % 4 * 4 := by
  have := quo_all ⟨c.toNat, by omega⟩
  simp only [show ((c.toNat : Nat) : Int) = c by omega] at this
  exact this
/-- Turned, but Ep. -/
def turnQ (p : Ps) : Ps := ⟨turnL p.B, 1 - p.t, exI p.c, -1⟩
def turnR (p : Ps) : Ps := ⟨turnL p.B, 1 - p.t, exI p.c, flI p.e⟩
end Go.Proofs.YtkebpchhpidogaaGreatDoor
namespace Go.Proofs.YtkebpchhpidogaaGreatDoor
open Go.RowKit
set_option linter.unusedVariables false
set_option linter.unusedSimpArgs false
set_option maxRecDepth 100000

theorem free_0 (B : List Int) : freeB B 0 = ((B.getD 5 0 == 0) && (B.getD 6 0 == 0)) := by
  rw [Bool.eq_iff_iff, free_iff]
  simp only [Bool.and_eq_true, beq_iff_eq]
  constructor
  · intro h; exact ⟨h 5 (by omega) (by decide) (by decide), h 6 (by omega) (by decide) (by decide)⟩
  · rintro ⟨a, b⟩ s _ h1 h2
    have h1' : 5 ≤ s := h1
    have h2' : s < 7 := h2
    have : s = 5 ∨ s = 6 := by omega
    rcases this with rfl | rfl <;> assumption
theorem free_1 (B : List Int) : freeB B 1 = (((B.getD 1 0 == 0) && (B.getD 2 0 == 0)) && (B.getD 3 0 == 0)) := by
  rw [Bool.eq_iff_iff, free_iff]
  simp only [Bool.and_eq_true, beq_iff_eq]
  constructor
  · intro h; exact ⟨⟨h 1 (by omega) (by decide) (by decide), h 2 (by omega) (by decide) (by decide)⟩, h 3 (by omega) (by decide) (by decide)⟩
  · rintro ⟨⟨a, b⟩, c⟩ s _ h1 h2
    have h1' : 1 ≤ s := h1
    have h2' : s < 4 := h2
    have : s = 1 ∨ s = 2 ∨ s = 3 := by omega
    rcases this with rfl | rfl | rfl <;> assumption
theorem free_2 (B : List Int) : freeB B 2 = ((B.getD 61 0 == 0) && (B.getD 62 0 == 0)) := by
  rw [Bool.eq_iff_iff, free_iff]
  simp only [Bool.and_eq_true, beq_iff_eq]
  constructor
  · intro h; exact ⟨h 61 (by omega) (by decide) (by decide), h 62 (by omega) (by decide) (by decide)⟩
  · rintro ⟨a, b⟩ s _ h1 h2
    have h1' : 61 ≤ s := h1
    have h2' : s < 63 := h2
    have : s = 61 ∨ s = 62 := by omega
    rcases this with rfl | rfl <;> assumption
theorem free_3 (B : List Int) : freeB B 3 = (((B.getD 57 0 == 0) && (B.getD 58 0 == 0)) && (B.getD 59 0 == 0)) := by
  rw [Bool.eq_iff_iff, free_iff]
  simp only [Bool.and_eq_true, beq_iff_eq]
  constructor
  · intro h; exact ⟨⟨h 57 (by omega) (by decide) (by decide), h 58 (by omega) (by decide) (by decide)⟩, h 59 (by omega) (by decide) (by decide)⟩
  · rintro ⟨⟨a, b⟩, c⟩ s _ h1 h2
    have h1' : 57 ≤ s := h1
    have h2' : s < 60 := h2
    have : s = 57 ∨ s = 58 ∨ s = 59 := by omega
    rcases this with rfl | rfl | rfl <;> assumption
/-- The rights that go with a square, summed up. -/
def lostI (s : Int) : Int := if s = 0 then 2 else if s = 4 then 3 else if s = 7 then 1 else if s = 56 then 8 else if s = 60 then 12 else if s = 63 then 4 else 0
end Go.Proofs.YtkebpchhpidogaaGreatDoor
