/- MvE: my texts, in their order. -/
import Derived.Test.YtijkemnhehbchaaGreatDoorPkJ
namespace Go.Proofs.YtijkemnhehbchaaGreatDoor
open Go.RowKit
set_option linter.unusedVariables false
set_option linter.unusedSimpArgs false
set_option maxRecDepth 100000
def manA (B:List Int) (s:Int):Int:=if 0≤s∧s<64 then bAt B s else 0
theorem man_a (B:List Int) (hB:Brd B) (s:Int) (w:World):Calls Tryz.prog 99 #[.agg (cl B).toArray,.int .i64 s] w fun e w'=>e=.returned (.int .i64 (manA B s))∧Kept w w':=by
 unfold manA
 by_cases h:0≤s∧s<64
 ·rw [if_pos h];exact man_at B hB s h.1 h.2 w
 ·rw [if_neg h];exact man_no B s (by omega) w
def onB (s:Int):Bool:=decide (0≤s∧s<64)
theorem right_k (s:Int) (w:World):Calls Tryz.prog 67 #[.int .i64 s] w fun e w'=>e=.returned (.bool (onB s))∧Kept w w':=by
 unfold onB
 by_cases h:0≤s∧s<64
 ·rw [decide_eq_true h];exact (right_yes s w h.1 h.2).mono fun _ _ ⟨a,b⟩=>⟨a,b ▸ Kept.refl _⟩
 ·rw [decide_eq_false h];exact (right_no s w (by omega)).mono fun _ _ ⟨a,b⟩=>⟨a,b ▸ Kept.refl _⟩
def lastI (t:Int):Int:=if t=0 then 7 else 0
def turnsB (p:Ps) (m:Mv):Bool:=(kindI (manA p.B m.f) == 1) && (m.t / 8 == lastI p.t)
def formB (p:Ps) (m:Mv):Bool:=(sideI (manA p.B m.f) == p.t) && onB m.t && !(sideI (manA p.B m.t) == p.t) && (turnsB p m == (m.p != 0)) && promoB m.p
theorem side_zero:sideI 0=-1:=by decide
theorem form_on {p:Ps} {m:Mv} (t01:p.t=0∨p.t=1) (h:formB p m=true):On m:=by
 unfold formB at h
 simp only [Bool.and_eq_true,beq_iff_eq,onB,decide_eq_true_eq] at h
 obtain ⟨⟨⟨⟨h1,h2⟩,h3⟩,h4⟩,h5⟩:=h
 have:0≤m.f∧m.f<64:=by
  by_cases hf:0≤m.f∧m.f<64
  ·exact hf
  ·unfold manA at h1;rw [if_neg hf,side_zero] at h1;omega
 exact ⟨this.1,this.2,h2.1,h2.2⟩
set_option maxHeartbeats 2000000 in
theorem formed1 (p:Ps) (hB:Brd p.B) (m:Mv) (h1:(sideI (manA p.B m.f) == p.t)=false) (w:World) (hT:TabM w) :
  Calls Tryz.prog 85 #[.agg (pl p).toArray,.agg (ml m).toArray] w fun e w'=>e=.returned (.bool (formB p m))∧Kept w w':=by
 have HP:Hid (PAt _ _ p):=⟨hB.1,heap_alloc2_old w (.cells (pl p).toArray 26) (.cells (ml m).toArray 54)⟩
 have HM:Hid (MAt _ _ m):=⟨heap_alloc2_new w (.cells (pl p).toArray 26) (.cells (ml m).toArray 54)⟩
 have HK0:=Qh (((Kept.refl w).alloc (.cells (pl p).toArray 26)).alloc (.cells (ml m).toArray 54))
 have HT:=Qh (hT.kept HK0.out)
 have hpl:Hid (p.B.length=64):=hB.1
 have HB:=Qh hB
 have cf:=HM.out.f
 have HC:=Qh (man_a p.B hB m.f)
 have HC2:=Qh (man_a p.B hB m.t)
 have HRt:=Qh (right_k m.t)
 have HV:Hid (formB p m=false):=by unfold formB;rw [h1];rfl
 have h1':(sideI (manA p.B m.f) != p.t)=true:=by rw [bne,h1];rfl
 generalize manA p.B m.f=x at *
 generalize manA p.B m.t=y at *
 clear hB hT
 go_enter Tryz.func85,Tryz.ntmps85
 go_wp2_with (first|(refine wpList_load_ps (by rfl) _ rfl _ rfl _ (HP.out) ?_)|(refine wpList_load_pb (by rfl) _ rfl _ rfl _ (HP.out) ?_)|(refine wpList_load_mv (by rfl) _ rfl _ rfl _ (HM.out) ?_))
 refine (HC.out _).mono ?_
 rintro e w1 ⟨rfl,k1⟩
 have HK1:=Qh (HK0.out.trans k1)
 have HP1:=Qh (HP.out.kept k1)
 have HM1:=Qh (MAt.kept HM.out k1)
 have HT1:=Qh (HT.out.kept k1)
 clear k1 cf
 go_wp2
 refine wp_region_held_drew (S:=Kept _) (by kernel_rfl) (Kept.refl _).drew (fun Qj=>?_)
 refine rT 0 12 (.int .i64 x) rfl rfl Qj ?_
 simp only [pA,pN,sZ,sU]
 refine rT 2 14 (.pointer (some ⟨w.heap.size,64,none⟩)) rfl rfl Qj ?_
 simp only [pA,pN,sZ,sU]
 refine rC 3 15 (.int .i64 p.t) rfl rfl (fun _ h=>kept_cell h (HP1.out.turn)) Qj ?_
 simp only [pA,pN,sZ,sU]
 refine rR 1 rfl (fun K hK=>?_)
 go_simp
 refine (mside_k x _).mono ?_
 rintro e w2 ⟨rfl,gw2⟩
 refine hK.out _ _ (Qj.trans gw2) (fun _=>?_)
 replace Qj:=Qj.trans gw2
 clear hK K
 refine rT 4 16 (.bool true) rfl rfl Qj ?_
 simp only [pA,pN,sZ,sU]
 refine rT 5 17 (.bool true) rfl rfl Qj ?_
 simp only [pA,pN,sZ,sU]
 refine rN 6 18 rfl rfl Qj ?_
 simp only [pA,pN,sZ,sU]
 refine rN 7 19 rfl rfl Qj ?_
 simp only [pA,pN,sZ,sU]
 refine rN 8 20 rfl rfl Qj ?_
 simp only [pA,pN,sZ,sU]
 refine rN 9 21 rfl rfl Qj ?_
 simp only [pA,pN,sZ,sU]
 refine rT 10 22 (.bool true) rfl rfl Qj ?_
 simp only [pA,pN,sZ,sU]
 refine rT 11 23 (.bool true) rfl rfl Qj ?_
 simp only [pA,pN,sZ,sU]
 refine rN 12 24 rfl rfl Qj ?_
 simp only [pA,pN,sZ,sU]
 refine rN 13 25 rfl rfl Qj ?_
 simp only [pA,pN,sZ,sU]
 refine rN 14 26 rfl rfl Qj ?_
 simp only [pA,pN,sZ,sU]
 refine rN 15 27 rfl rfl Qj ?_
 simp only [pA,pN,sZ,sU]
 refine rN 16 28 rfl rfl Qj ?_
 simp only [pA,pN,sZ,sU]
 refine rN 17 29 rfl rfl Qj ?_
 simp only [pA,pN,sZ,sU]
 refine rN 18 30 rfl rfl Qj ?_
 simp only [pA,pN,sZ,sU]
 refine rN 19 31 rfl rfl Qj ?_
 simp only [pA,pN,sZ,sU]
 refine rN 20 32 rfl rfl Qj ?_
 simp only [pA,pN,sZ,sU]
 refine rT 21 33 (.bool true) rfl rfl Qj ?_
 simp only [pA,pN,sZ,sU]
 refine wpAnyH_done (by kernel_rfl) ?_ _
 go_wp2
 go_ret
 exact ⟨by rw [HV.out];rfl,HK1.out.trans Qj⟩
set_option maxHeartbeats 2000000 in
theorem formed2 (p:Ps) (hB:Brd p.B) (m:Mv) (h1:(sideI (manA p.B m.f) == p.t)=true) (h2:onB m.t=false) (w:World) (hT:TabM w) :
  Calls Tryz.prog 85 #[.agg (pl p).toArray,.agg (ml m).toArray] w fun e w'=>e=.returned (.bool (formB p m))∧Kept w w':=by
 have HP:Hid (PAt _ _ p):=⟨hB.1,heap_alloc2_old w (.cells (pl p).toArray 26) (.cells (ml m).toArray 54)⟩
 have HM:Hid (MAt _ _ m):=⟨heap_alloc2_new w (.cells (pl p).toArray 26) (.cells (ml m).toArray 54)⟩
 have HK0:=Qh (((Kept.refl w).alloc (.cells (pl p).toArray 26)).alloc (.cells (ml m).toArray 54))
 have HT:=Qh (hT.kept HK0.out)
 have hpl:Hid (p.B.length=64):=hB.1
 have HB:=Qh hB
 have cf:=HM.out.f
 have HC:=Qh (man_a p.B hB m.f)
 have HC2:=Qh (man_a p.B hB m.t)
 have HRt:=Qh (right_k m.t)
 have HV:Hid (formB p m=false):=by unfold formB;rw [h1,h2];rfl
 rw [h2] at HRt
 have h1':(sideI (manA p.B m.f) != p.t)=false:=by rw [bne,h1];rfl
 generalize manA p.B m.f=x at *
 generalize manA p.B m.t=y at *
 clear hB hT
 go_enter Tryz.func85,Tryz.ntmps85
 go_wp2_with (first|(refine wpList_load_ps (by rfl) _ rfl _ rfl _ (HP.out) ?_)|(refine wpList_load_pb (by rfl) _ rfl _ rfl _ (HP.out) ?_)|(refine wpList_load_mv (by rfl) _ rfl _ rfl _ (HM.out) ?_))
 refine (HC.out _).mono ?_
 rintro e w1 ⟨rfl,k1⟩
 have HK1:=Qh (HK0.out.trans k1)
 have HP1:=Qh (HP.out.kept k1)
 have HM1:=Qh (MAt.kept HM.out k1)
 have HT1:=Qh (HT.out.kept k1)
 clear k1 cf
 go_wp2
 refine wp_region_held_drew (S:=Kept _) (by kernel_rfl) (Kept.refl _).drew (fun Qj=>?_)
 refine rT 0 12 (.int .i64 x) rfl rfl Qj ?_
 simp only [pA,pN,sZ,sU]
 refine rT 2 14 (.pointer (some ⟨w.heap.size,64,none⟩)) rfl rfl Qj ?_
 simp only [pA,pN,sZ,sU]
 refine rC 3 15 (.int .i64 p.t) rfl rfl (fun _ h=>kept_cell h (HP1.out.turn)) Qj ?_
 simp only [pA,pN,sZ,sU]
 refine rR 1 rfl (fun K hK=>?_)
 go_simp
 refine (mside_k x _).mono ?_
 rintro e w2 ⟨rfl,gw2⟩
 refine hK.out _ _ (Qj.trans gw2) (fun _=>?_)
 replace Qj:=Qj.trans gw2
 clear hK K
 refine rT 4 16 (.bool false) rfl rfl Qj ?_
 simp only [pA,pN,sZ,sU]
 refine rT 5 17 (.bool false) rfl rfl Qj ?_
 simp only [pA,pN,sZ,sU]
 refine rT 6 18 (.pointer (some ⟨w.heap.size+1,1,none⟩)) rfl rfl Qj ?_
 simp only [pA,pN,sZ,sU]
 refine rC 7 19 (.int .i64 m.t) rfl rfl (fun _ h=>kept_cell h (HM1.out.t)) Qj ?_
 simp only [pA,pN,sZ,sU]
 refine rR 8 rfl (fun K hK=>?_)
 go_simp
 refine (HRt.out _).mono ?_
 rintro e w3 ⟨rfl,gw3⟩
 refine hK.out _ _ (Qj.trans gw3) (fun _=>?_)
 replace Qj:=Qj.trans gw3
 clear hK K
 refine rT 9 21 (.bool true) rfl rfl Qj ?_
 simp only [pA,pN,sZ,sU]
 refine rT 10 22 (.bool true) rfl rfl Qj ?_
 simp only [pA,pN,sZ,sU]
 refine rT 11 23 (.bool true) rfl rfl Qj ?_
 simp only [pA,pN,sZ,sU]
 refine rN 12 24 rfl rfl Qj ?_
 simp only [pA,pN,sZ,sU]
 refine rN 13 25 rfl rfl Qj ?_
 simp only [pA,pN,sZ,sU]
 refine rN 14 26 rfl rfl Qj ?_
 simp only [pA,pN,sZ,sU]
 refine rN 15 27 rfl rfl Qj ?_
 simp only [pA,pN,sZ,sU]
 refine rN 16 28 rfl rfl Qj ?_
 simp only [pA,pN,sZ,sU]
 refine rN 17 29 rfl rfl Qj ?_
 simp only [pA,pN,sZ,sU]
 refine rN 18 30 rfl rfl Qj ?_
 simp only [pA,pN,sZ,sU]
 refine rN 19 31 rfl rfl Qj ?_
 simp only [pA,pN,sZ,sU]
 refine rN 20 32 rfl rfl Qj ?_
 simp only [pA,pN,sZ,sU]
 refine rT 21 33 (.bool true) rfl rfl Qj ?_
 simp only [pA,pN,sZ,sU]
 refine wpAnyH_done (by kernel_rfl) ?_ _
 go_wp2
 go_ret
 exact ⟨by rw [HV.out];rfl,HK1.out.trans Qj⟩
set_option maxHeartbeats 2000000 in
theorem formed3 (p:Ps) (hB:Brd p.B) (m:Mv) (h1:(sideI (manA p.B m.f) == p.t)=true) (h2:onB m.t=true) (h3:(sideI (manA p.B m.t) == p.t)=true) (w:World) (hT:TabM w) :
  Calls Tryz.prog 85 #[.agg (pl p).toArray,.agg (ml m).toArray] w fun e w'=>e=.returned (.bool (formB p m))∧Kept w w':=by
 have HP:Hid (PAt _ _ p):=⟨hB.1,heap_alloc2_old w (.cells (pl p).toArray 26) (.cells (ml m).toArray 54)⟩
 have HM:Hid (MAt _ _ m):=⟨heap_alloc2_new w (.cells (pl p).toArray 26) (.cells (ml m).toArray 54)⟩
 have HK0:=Qh (((Kept.refl w).alloc (.cells (pl p).toArray 26)).alloc (.cells (ml m).toArray 54))
 have HT:=Qh (hT.kept HK0.out)
 have hpl:Hid (p.B.length=64):=hB.1
 have HB:=Qh hB
 have cf:=HM.out.f
 have HC:=Qh (man_a p.B hB m.f)
 have HC2:=Qh (man_a p.B hB m.t)
 have HRt:=Qh (right_k m.t)
 have HV:Hid (formB p m=false):=by unfold formB;rw [h1,h2,h3];rfl
 rw [h2] at HRt
 have h1':(sideI (manA p.B m.f) != p.t)=false:=by rw [bne,h1];rfl
 generalize manA p.B m.f=x at *
 generalize manA p.B m.t=y at *
 clear hB hT
 go_enter Tryz.func85,Tryz.ntmps85
 go_wp2_with (first|(refine wpList_load_ps (by rfl) _ rfl _ rfl _ (HP.out) ?_)|(refine wpList_load_pb (by rfl) _ rfl _ rfl _ (HP.out) ?_)|(refine wpList_load_mv (by rfl) _ rfl _ rfl _ (HM.out) ?_))
 refine (HC.out _).mono ?_
 rintro e w1 ⟨rfl,k1⟩
 have HK1:=Qh (HK0.out.trans k1)
 have HP1:=Qh (HP.out.kept k1)
 have HM1:=Qh (MAt.kept HM.out k1)
 have HT1:=Qh (HT.out.kept k1)
 clear k1 cf
 go_wp2
 refine wp_region_held_drew (S:=Kept _) (by kernel_rfl) (Kept.refl _).drew (fun Qj=>?_)
 refine rT 0 12 (.int .i64 x) rfl rfl Qj ?_
 simp only [pA,pN,sZ,sU]
 refine rT 2 14 (.pointer (some ⟨w.heap.size,64,none⟩)) rfl rfl Qj ?_
 simp only [pA,pN,sZ,sU]
 refine rC 3 15 (.int .i64 p.t) rfl rfl (fun _ h=>kept_cell h (HP1.out.turn)) Qj ?_
 simp only [pA,pN,sZ,sU]
 refine rR 1 rfl (fun K hK=>?_)
 go_simp
 refine (mside_k x _).mono ?_
 rintro e w2 ⟨rfl,gw2⟩
 refine hK.out _ _ (Qj.trans gw2) (fun _=>?_)
 replace Qj:=Qj.trans gw2
 clear hK K
 refine rT 4 16 (.bool false) rfl rfl Qj ?_
 simp only [pA,pN,sZ,sU]
 refine rT 5 17 (.bool false) rfl rfl Qj ?_
 simp only [pA,pN,sZ,sU]
 refine rT 6 18 (.pointer (some ⟨w.heap.size+1,1,none⟩)) rfl rfl Qj ?_
 simp only [pA,pN,sZ,sU]
 refine rC 7 19 (.int .i64 m.t) rfl rfl (fun _ h=>kept_cell h (HM1.out.t)) Qj ?_
 simp only [pA,pN,sZ,sU]
 refine rR 8 rfl (fun K hK=>?_)
 go_simp
 refine (HRt.out _).mono ?_
 rintro e w3 ⟨rfl,gw3⟩
 refine hK.out _ _ (Qj.trans gw3) (fun _=>?_)
 replace Qj:=Qj.trans gw3
 clear hK K
 refine rT 9 21 (.bool false) rfl rfl Qj ?_
 simp only [pA,pN,sZ,sU]
 refine rT 10 22 (.bool false) rfl rfl Qj ?_
 simp only [pA,pN,sZ,sU]
 refine rT 11 23 (.bool false) rfl rfl Qj ?_
 simp only [pA,pN,sZ,sU]
 refine rT 12 24 (.pointer (some ⟨w.heap.size,0,none⟩)) rfl rfl Qj ?_
 simp only [pA,pN,sZ,sU]
 refine rY 13 25 rfl rfl (take_load_pb (by rfl) _ rfl _ rfl p hpl.out (fun _ h=>(HP1.out).kept h)) Qj ?_
 simp only [pA,pN,sZ,sU]
 refine rT 14 26 (.pointer (some ⟨w.heap.size+1,1,none⟩)) rfl rfl Qj ?_
 simp only [pA,pN,sZ,sU]
 refine rC 15 27 (.int .i64 m.t) rfl rfl (fun _ h=>kept_cell h (HM1.out.t)) Qj ?_
 simp only [pA,pN,sZ,sU]
 refine rT 18 30 (.pointer (some ⟨w.heap.size,64,none⟩)) rfl rfl Qj ?_
 simp only [pA,pN,sZ,sU]
 refine rC 19 31 (.int .i64 p.t) rfl rfl (fun _ h=>kept_cell h (HP1.out.turn)) Qj ?_
 simp only [pA,pN,sZ,sU]
 refine rR 16 rfl (fun K hK=>?_)
 go_simp
 refine (HC2.out _).mono ?_
 rintro e w4 ⟨rfl,gw4⟩
 refine hK.out _ _ (Qj.trans gw4) (fun _=>?_)
 replace Qj:=Qj.trans gw4
 clear hK K
 refine rR 17 rfl (fun K hK=>?_)
 go_simp
 refine (mside_k y _).mono ?_
 rintro e w5 ⟨rfl,gw5⟩
 refine hK.out _ _ (Qj.trans gw5) (fun _=>?_)
 replace Qj:=Qj.trans gw5
 clear hK K
 refine rT 20 32 (.bool true) rfl rfl Qj ?_
 simp only [pA,pN,sZ,sU]
 refine rT 21 33 (.bool true) rfl rfl Qj ?_
 simp only [pA,pN,sZ,sU]
 refine wpAnyH_done (by kernel_rfl) ?_ _
 go_wp2
 go_ret
 exact ⟨by rw [HV.out];rfl,HK1.out.trans Qj⟩
set_option maxHeartbeats 2000000 in
theorem formed4 (p:Ps) (hB:Brd p.B) (m:Mv) (h1:(sideI (manA p.B m.f) == p.t)=true) (h2:onB m.t=true) (h3:(sideI (manA p.B m.t) == p.t)=false) (h4:(kindI (manA p.B m.f) == 1)=false) (w:World) (hT:TabM w) :
  Calls Tryz.prog 85 #[.agg (pl p).toArray,.agg (ml m).toArray] w fun e w'=>e=.returned (.bool (formB p m))∧Kept w w':=by
 have HP:Hid (PAt _ _ p):=⟨hB.1,heap_alloc2_old w (.cells (pl p).toArray 26) (.cells (ml m).toArray 54)⟩
 have HM:Hid (MAt _ _ m):=⟨heap_alloc2_new w (.cells (pl p).toArray 26) (.cells (ml m).toArray 54)⟩
 have HK0:=Qh (((Kept.refl w).alloc (.cells (pl p).toArray 26)).alloc (.cells (ml m).toArray 54))
 have HT:=Qh (hT.kept HK0.out)
 have hpl:Hid (p.B.length=64):=hB.1
 have HB:=Qh hB
 have cf:=HM.out.f
 have HC:=Qh (man_a p.B hB m.f)
 have HC2:=Qh (man_a p.B hB m.t)
 have HRt:=Qh (right_k m.t)
 have HV:Hid (formB p m=((false == (m.p != 0)) && promoB m.p)):=by unfold formB turnsB;rw [h1,h2,h3,h4];rfl
 rw [h2] at HRt
 have h1':(sideI (manA p.B m.f) != p.t)=false:=by rw [bne,h1];rfl
 generalize manA p.B m.f=x at *
 generalize manA p.B m.t=y at *
 clear hB hT
 go_enter Tryz.func85,Tryz.ntmps85
 go_wp2_with (first|(refine wpList_load_ps (by rfl) _ rfl _ rfl _ (HP.out) ?_)|(refine wpList_load_pb (by rfl) _ rfl _ rfl _ (HP.out) ?_)|(refine wpList_load_mv (by rfl) _ rfl _ rfl _ (HM.out) ?_))
 refine (HC.out _).mono ?_
 rintro e w1 ⟨rfl,k1⟩
 have HK1:=Qh (HK0.out.trans k1)
 have HP1:=Qh (HP.out.kept k1)
 have HM1:=Qh (MAt.kept HM.out k1)
 have HT1:=Qh (HT.out.kept k1)
 clear k1 cf
 go_wp2
 refine wp_region_held_drew (S:=Kept _) (by kernel_rfl) (Kept.refl _).drew (fun Qj=>?_)
 refine rT 0 12 (.int .i64 x) rfl rfl Qj ?_
 simp only [pA,pN,sZ,sU]
 refine rT 2 14 (.pointer (some ⟨w.heap.size,64,none⟩)) rfl rfl Qj ?_
 simp only [pA,pN,sZ,sU]
 refine rC 3 15 (.int .i64 p.t) rfl rfl (fun _ h=>kept_cell h (HP1.out.turn)) Qj ?_
 simp only [pA,pN,sZ,sU]
 refine rR 1 rfl (fun K hK=>?_)
 go_simp
 refine (mside_k x _).mono ?_
 rintro e w2 ⟨rfl,gw2⟩
 refine hK.out _ _ (Qj.trans gw2) (fun _=>?_)
 replace Qj:=Qj.trans gw2
 clear hK K
 refine rT 4 16 (.bool false) rfl rfl Qj ?_
 simp only [pA,pN,sZ,sU]
 refine rT 5 17 (.bool false) rfl rfl Qj ?_
 simp only [pA,pN,sZ,sU]
 refine rT 6 18 (.pointer (some ⟨w.heap.size+1,1,none⟩)) rfl rfl Qj ?_
 simp only [pA,pN,sZ,sU]
 refine rC 7 19 (.int .i64 m.t) rfl rfl (fun _ h=>kept_cell h (HM1.out.t)) Qj ?_
 simp only [pA,pN,sZ,sU]
 refine rR 8 rfl (fun K hK=>?_)
 go_simp
 refine (HRt.out _).mono ?_
 rintro e w3 ⟨rfl,gw3⟩
 refine hK.out _ _ (Qj.trans gw3) (fun _=>?_)
 replace Qj:=Qj.trans gw3
 clear hK K
 refine rT 9 21 (.bool false) rfl rfl Qj ?_
 simp only [pA,pN,sZ,sU]
 refine rT 10 22 (.bool false) rfl rfl Qj ?_
 simp only [pA,pN,sZ,sU]
 refine rT 11 23 (.bool false) rfl rfl Qj ?_
 simp only [pA,pN,sZ,sU]
 refine rT 12 24 (.pointer (some ⟨w.heap.size,0,none⟩)) rfl rfl Qj ?_
 simp only [pA,pN,sZ,sU]
 refine rY 13 25 rfl rfl (take_load_pb (by rfl) _ rfl _ rfl p hpl.out (fun _ h=>(HP1.out).kept h)) Qj ?_
 simp only [pA,pN,sZ,sU]
 refine rT 14 26 (.pointer (some ⟨w.heap.size+1,1,none⟩)) rfl rfl Qj ?_
 simp only [pA,pN,sZ,sU]
 refine rC 15 27 (.int .i64 m.t) rfl rfl (fun _ h=>kept_cell h (HM1.out.t)) Qj ?_
 simp only [pA,pN,sZ,sU]
 refine rT 18 30 (.pointer (some ⟨w.heap.size,64,none⟩)) rfl rfl Qj ?_
 simp only [pA,pN,sZ,sU]
 refine rC 19 31 (.int .i64 p.t) rfl rfl (fun _ h=>kept_cell h (HP1.out.turn)) Qj ?_
 simp only [pA,pN,sZ,sU]
 refine rR 16 rfl (fun K hK=>?_)
 go_simp
 refine (HC2.out _).mono ?_
 rintro e w4 ⟨rfl,gw4⟩
 refine hK.out _ _ (Qj.trans gw4) (fun _=>?_)
 replace Qj:=Qj.trans gw4
 clear hK K
 refine rR 17 rfl (fun K hK=>?_)
 go_simp
 refine (mside_k y _).mono ?_
 rintro e w5 ⟨rfl,gw5⟩
 refine hK.out _ _ (Qj.trans gw5) (fun _=>?_)
 replace Qj:=Qj.trans gw5
 clear hK K
 refine rT 20 32 (.bool false) rfl rfl Qj ?_
 simp only [pA,pN,sZ,sU]
 refine rT 21 33 (.bool false) rfl rfl Qj ?_
 simp only [pA,pN,sZ,sU]
 refine wpAnyH_done (by kernel_rfl) ?_ _
 have HP5:=Qh (HP1.out.kept Qj)
 have HM5:=Qh (MAt.kept HM1.out Qj)
 have HT5:=Qh (HT1.out.kept Qj)
 have HK5:=Qh (HK1.out.trans Qj)
 clear Qj
 go_wp2
 refine wp_region_held_drew (S:=Kept _) (by kernel_rfl) (Kept.refl _).drew (fun Qj=>?_)
 refine rT 0 34 (.int .i64 x) rfl rfl Qj ?_
 simp only [pA,pN,sZ,sU]
 refine rR 1 rfl (fun K hK=>?_)
 go_simp
 refine (mkind_k x _).mono ?_
 rintro e w6 ⟨rfl,gw6⟩
 refine hK.out _ _ (Qj.trans gw6) (fun _=>?_)
 replace Qj:=Qj.trans gw6
 clear hK K
 refine rT 2 36 (.bool false) rfl rfl Qj ?_
 simp only [pA,pN,sZ,sU]
 refine rT 3 37 (.bool false) rfl rfl Qj ?_
 simp only [pA,pN,sZ,sU]
 refine rN 4 38 rfl rfl Qj ?_
 simp only [pA,pN,sZ,sU]
 refine rN 5 39 rfl rfl Qj ?_
 simp only [pA,pN,sZ,sU]
 refine rN 6 40 rfl rfl Qj ?_
 simp only [pA,pN,sZ,sU]
 refine rN 7 41 rfl rfl Qj ?_
 simp only [pA,pN,sZ,sU]
 refine rN 8 42 rfl rfl Qj ?_
 simp only [pA,pN,sZ,sU]
 refine rN 9 43 rfl rfl Qj ?_
 simp only [pA,pN,sZ,sU]
 refine rN 10 44 rfl rfl Qj ?_
 simp only [pA,pN,sZ,sU]
 refine rN 11 45 rfl rfl Qj ?_
 simp only [pA,pN,sZ,sU]
 refine rT 12 46 (.bool false) rfl rfl Qj ?_
 simp only [pA,pN,sZ,sU]
 refine rT 13 6 (.bool false) rfl rfl Qj ?_
 simp only [pA,pN,sZ,sU]
 refine wpAnyH_done (by kernel_rfl) ?_ _
 have HP6:=Qh (HP5.out.kept Qj)
 have HM6:=Qh (MAt.kept HM5.out Qj)
 have HT6:=Qh (HT5.out.kept Qj)
 have HK6:=Qh (HK5.out.trans Qj)
 clear Qj
 have cp:=HM6.out.p
 cases hp:(false == (m.p != 0))
 ·rw [hp] at HV
  go_wp2
  go_ret
  exact ⟨by rw [HV.out];rfl,HK6.out⟩
 ·rw [hp] at HV
  go_wp2_with (first|(refine wpList_load_ps (by rfl) _ rfl _ rfl _ (HP6.out) ?_)|(refine wpList_load_pb (by rfl) _ rfl _ rfl _ (HP6.out) ?_)|(refine wpList_load_mv (by rfl) _ rfl _ rfl _ (HM6.out) ?_))
  refine (isPromo_is _ _ HT6.out).mono ?_
  rintro e w7 ⟨rfl,k7⟩
  have HK7:=Qh (HK6.out.trans k7)
  clear k7 cp
  go_wp2
  go_ret
  exact ⟨by rw [HV.out];rfl,HK7.out⟩
set_option maxHeartbeats 2000000 in
theorem formed5w (p:Ps) (hB:Brd p.B) (m:Mv) (h1:(sideI (manA p.B m.f) == p.t)=true) (h2:onB m.t=true) (h3:(sideI (manA p.B m.t) == p.t)=false) (h4:(kindI (manA p.B m.f) == 1)=true) (ht:p.t=0) (w:World) (hT:TabM w) :
  Calls Tryz.prog 85 #[.agg (pl p).toArray,.agg (ml m).toArray] w fun e w'=>e=.returned (.bool (formB p m))∧Kept w w':=by
 have HP:Hid (PAt _ _ p):=⟨hB.1,heap_alloc2_old w (.cells (pl p).toArray 26) (.cells (ml m).toArray 54)⟩
 have HM:Hid (MAt _ _ m):=⟨heap_alloc2_new w (.cells (pl p).toArray 26) (.cells (ml m).toArray 54)⟩
 have HK0:=Qh (((Kept.refl w).alloc (.cells (pl p).toArray 26)).alloc (.cells (ml m).toArray 54))
 have HT:=Qh (hT.kept HK0.out)
 have hpl:Hid (p.B.length=64):=hB.1
 have HB:=Qh hB
 have cf:=HM.out.f
 have HC:=Qh (man_a p.B hB m.f)
 have HC2:=Qh (man_a p.B hB m.t)
 have HRt:=Qh (right_k m.t)
 have HV:Hid (formB p m=(((m.t / 8 == 7) == (m.p != 0)) && promoB m.p)):=by unfold formB turnsB lastI;rw [h1,h2,h3,h4,ht];rfl
 have hon:0≤m.t∧m.t<64:=by simpa [onB] using h2
 have HRk:=Qh (fun w=>rank_any m.t w)
 have hrk:rkI m.t=m.t / 8:=by unfold rkI;rw [if_pos hon]
 rw [hrk] at HRk
 have Ht:=Qh ht
 clear hrk hon ht
 rw [h2] at HRt
 have h1':(sideI (manA p.B m.f) != p.t)=false:=by rw [bne,h1];rfl
 generalize manA p.B m.f=x at *
 generalize manA p.B m.t=y at *
 clear hB hT
 go_enter Tryz.func85,Tryz.ntmps85
 go_wp2_with (first|(refine wpList_load_ps (by rfl) _ rfl _ rfl _ (HP.out) ?_)|(refine wpList_load_pb (by rfl) _ rfl _ rfl _ (HP.out) ?_)|(refine wpList_load_mv (by rfl) _ rfl _ rfl _ (HM.out) ?_))
 refine (HC.out _).mono ?_
 rintro e w1 ⟨rfl,k1⟩
 have HK1:=Qh (HK0.out.trans k1)
 have HP1:=Qh (HP.out.kept k1)
 have HM1:=Qh (MAt.kept HM.out k1)
 have HT1:=Qh (HT.out.kept k1)
 clear k1 cf
 go_wp2
 refine wp_region_held_drew (S:=Kept _) (by kernel_rfl) (Kept.refl _).drew (fun Qj=>?_)
 refine rT 0 12 (.int .i64 x) rfl rfl Qj ?_
 simp only [pA,pN,sZ,sU]
 refine rT 2 14 (.pointer (some ⟨w.heap.size,64,none⟩)) rfl rfl Qj ?_
 simp only [pA,pN,sZ,sU]
 refine rC 3 15 (.int .i64 p.t) rfl rfl (fun _ h=>kept_cell h (HP1.out.turn)) Qj ?_
 simp only [pA,pN,sZ,sU]
 refine rR 1 rfl (fun K hK=>?_)
 go_simp
 refine (mside_k x _).mono ?_
 rintro e w2 ⟨rfl,gw2⟩
 refine hK.out _ _ (Qj.trans gw2) (fun _=>?_)
 replace Qj:=Qj.trans gw2
 clear hK K
 refine rT 4 16 (.bool false) rfl rfl Qj ?_
 simp only [pA,pN,sZ,sU]
 refine rT 5 17 (.bool false) rfl rfl Qj ?_
 simp only [pA,pN,sZ,sU]
 refine rT 6 18 (.pointer (some ⟨w.heap.size+1,1,none⟩)) rfl rfl Qj ?_
 simp only [pA,pN,sZ,sU]
 refine rC 7 19 (.int .i64 m.t) rfl rfl (fun _ h=>kept_cell h (HM1.out.t)) Qj ?_
 simp only [pA,pN,sZ,sU]
 refine rR 8 rfl (fun K hK=>?_)
 go_simp
 refine (HRt.out _).mono ?_
 rintro e w3 ⟨rfl,gw3⟩
 refine hK.out _ _ (Qj.trans gw3) (fun _=>?_)
 replace Qj:=Qj.trans gw3
 clear hK K
 refine rT 9 21 (.bool false) rfl rfl Qj ?_
 simp only [pA,pN,sZ,sU]
 refine rT 10 22 (.bool false) rfl rfl Qj ?_
 simp only [pA,pN,sZ,sU]
 refine rT 11 23 (.bool false) rfl rfl Qj ?_
 simp only [pA,pN,sZ,sU]
 refine rT 12 24 (.pointer (some ⟨w.heap.size,0,none⟩)) rfl rfl Qj ?_
 simp only [pA,pN,sZ,sU]
 refine rY 13 25 rfl rfl (take_load_pb (by rfl) _ rfl _ rfl p hpl.out (fun _ h=>(HP1.out).kept h)) Qj ?_
 simp only [pA,pN,sZ,sU]
 refine rT 14 26 (.pointer (some ⟨w.heap.size+1,1,none⟩)) rfl rfl Qj ?_
 simp only [pA,pN,sZ,sU]
 refine rC 15 27 (.int .i64 m.t) rfl rfl (fun _ h=>kept_cell h (HM1.out.t)) Qj ?_
 simp only [pA,pN,sZ,sU]
 refine rT 18 30 (.pointer (some ⟨w.heap.size,64,none⟩)) rfl rfl Qj ?_
 simp only [pA,pN,sZ,sU]
 refine rC 19 31 (.int .i64 p.t) rfl rfl (fun _ h=>kept_cell h (HP1.out.turn)) Qj ?_
 simp only [pA,pN,sZ,sU]
 refine rR 16 rfl (fun K hK=>?_)
 go_simp
 refine (HC2.out _).mono ?_
 rintro e w4 ⟨rfl,gw4⟩
 refine hK.out _ _ (Qj.trans gw4) (fun _=>?_)
 replace Qj:=Qj.trans gw4
 clear hK K
 refine rR 17 rfl (fun K hK=>?_)
 go_simp
 refine (mside_k y _).mono ?_
 rintro e w5 ⟨rfl,gw5⟩
 refine hK.out _ _ (Qj.trans gw5) (fun _=>?_)
 replace Qj:=Qj.trans gw5
 clear hK K
 refine rT 20 32 (.bool false) rfl rfl Qj ?_
 simp only [pA,pN,sZ,sU]
 refine rT 21 33 (.bool false) rfl rfl Qj ?_
 simp only [pA,pN,sZ,sU]
 refine wpAnyH_done (by kernel_rfl) ?_ _
 have HP5:=Qh (HP1.out.kept Qj)
 have HM5:=Qh (MAt.kept HM1.out Qj)
 have HT5:=Qh (HT1.out.kept Qj)
 have HK5:=Qh (HK1.out.trans Qj)
 clear Qj
 go_wp2
 have hct:Hid (w5.cell? ⟨w.heap.size,64,none⟩=some (.int .i64 0)):=by have:=HP5.out.turn;rw [Ht.out] at this;exact this
 have hla:Hid (w5.cell? ⟨2,0,none⟩=some (.int .i64 7)):=HT5.out.lasts 0 (by omega)
 generalize m.t / 8=rk at *
 refine wp_region_held_drew (S:=Kept _) (by kernel_rfl) (Kept.refl _).drew (fun Qj=>?_)
 refine rT 0 34 (.int .i64 x) rfl rfl Qj ?_
 simp only [pA,pN,sZ,sU]
 refine rR 1 rfl (fun K hK=>?_)
 go_simp
 refine (mkind_k x _).mono ?_
 rintro e w6 ⟨rfl,gw6⟩
 refine hK.out _ _ (Qj.trans gw6) (fun _=>?_)
 replace Qj:=Qj.trans gw6
 clear hK K
 refine rT 2 36 (.bool true) rfl rfl Qj ?_
 simp only [pA,pN,sZ,sU]
 refine rT 3 37 (.bool true) rfl rfl Qj ?_
 simp only [pA,pN,sZ,sU]
 refine rT 4 38 (.pointer (some ⟨w.heap.size+1,1,none⟩)) rfl rfl Qj ?_
 simp only [pA,pN,sZ,sU]
 refine rC 5 39 (.int .i64 m.t) rfl rfl (fun _ h=>kept_cell h (HM5.out.t)) Qj ?_
 simp only [pA,pN,sZ,sU]
 refine rT 7 41 (.pointer (some ⟨w.heap.size,64,none⟩)) rfl rfl Qj ?_
 simp only [pA,pN,sZ,sU]
 refine rC 8 42 (.int .i64 0) rfl rfl (fun _ h=>kept_cell h (hct.out)) Qj ?_
 simp only [pA,pN,sZ,sU]
 refine rT 9 43 (.pointer (some ⟨2,0,none⟩)) rfl rfl Qj ?_
 simp only [pA,pN,sZ,sU]
 refine rC 10 44 (.int .i64 7) rfl rfl (fun _ h=>kept_cell h (hla.out)) Qj ?_
 simp only [pA,pN,sZ,sU]
 refine rR 6 rfl (fun K hK=>?_)
 go_simp
 refine (HRk.out _).mono ?_
 rintro e w8 ⟨rfl,gw8⟩
 refine hK.out _ _ (Qj.trans gw8) (fun _=>?_)
 replace Qj:=Qj.trans gw8
 clear hK K
 refine rT 11 45 (.bool (rk == 7)) rfl rfl Qj ?_
 simp only [pA,pN,sZ,sU]
 refine rT 12 46 (.bool (rk == 7)) rfl rfl Qj ?_
 simp only [pA,pN,sZ,sU]
 refine rT 13 6 (.bool (rk == 7)) rfl rfl Qj ?_
 simp only [pA,pN,sZ,sU]
 refine wpAnyH_done (by kernel_rfl) ?_ _
 have HP6:=Qh (HP5.out.kept Qj)
 have HM6:=Qh (MAt.kept HM5.out Qj)
 have HT6:=Qh (HT5.out.kept Qj)
 have HK6:=Qh (HK5.out.trans Qj)
 clear Qj
 generalize (rk == 7)=tn at *
 have cp:=HM6.out.p
 cases hp:(tn == (m.p != 0))
 ·rw [hp] at HV
  go_wp2
  go_ret
  exact ⟨by rw [HV.out];rfl,HK6.out⟩
 ·rw [hp] at HV
  go_wp2_with (first|(refine wpList_load_ps (by rfl) _ rfl _ rfl _ (HP6.out) ?_)|(refine wpList_load_pb (by rfl) _ rfl _ rfl _ (HP6.out) ?_)|(refine wpList_load_mv (by rfl) _ rfl _ rfl _ (HM6.out) ?_))
  refine (isPromo_is _ _ HT6.out).mono ?_
  rintro e w7 ⟨rfl,k7⟩
  have HK7:=Qh (HK6.out.trans k7)
  clear k7 cp
  go_wp2
  go_ret
  exact ⟨by rw [HV.out];rfl,HK7.out⟩
set_option maxHeartbeats 2000000 in
theorem formed5b (p:Ps) (hB:Brd p.B) (m:Mv) (h1:(sideI (manA p.B m.f) == p.t)=true) (h2:onB m.t=true) (h3:(sideI (manA p.B m.t) == p.t)=false) (h4:(kindI (manA p.B m.f) == 1)=true) (ht:p.t=1) (w:World) (hT:TabM w) :
  Calls Tryz.prog 85 #[.agg (pl p).toArray,.agg (ml m).toArray] w fun e w'=>e=.returned (.bool (formB p m))∧Kept w w':=by
 have HP:Hid (PAt _ _ p):=⟨hB.1,heap_alloc2_old w (.cells (pl p).toArray 26) (.cells (ml m).toArray 54)⟩
 have HM:Hid (MAt _ _ m):=⟨heap_alloc2_new w (.cells (pl p).toArray 26) (.cells (ml m).toArray 54)⟩
 have HK0:=Qh (((Kept.refl w).alloc (.cells (pl p).toArray 26)).alloc (.cells (ml m).toArray 54))
 have HT:=Qh (hT.kept HK0.out)
 have hpl:Hid (p.B.length=64):=hB.1
 have HB:=Qh hB
 have cf:=HM.out.f
 have HC:=Qh (man_a p.B hB m.f)
 have HC2:=Qh (man_a p.B hB m.t)
 have HRt:=Qh (right_k m.t)
 have HV:Hid (formB p m=(((m.t / 8 == 0) == (m.p != 0)) && promoB m.p)):=by unfold formB turnsB lastI;rw [h1,h2,h3,h4,ht];rfl
 have hon:0≤m.t∧m.t<64:=by simpa [onB] using h2
 have HRk:=Qh (fun w=>rank_any m.t w)
 have hrk:rkI m.t=m.t / 8:=by unfold rkI;rw [if_pos hon]
 rw [hrk] at HRk
 have Ht:=Qh ht
 clear hrk hon ht
 rw [h2] at HRt
 have h1':(sideI (manA p.B m.f) != p.t)=false:=by rw [bne,h1];rfl
 generalize manA p.B m.f=x at *
 generalize manA p.B m.t=y at *
 clear hB hT
 go_enter Tryz.func85,Tryz.ntmps85
 go_wp2_with (first|(refine wpList_load_ps (by rfl) _ rfl _ rfl _ (HP.out) ?_)|(refine wpList_load_pb (by rfl) _ rfl _ rfl _ (HP.out) ?_)|(refine wpList_load_mv (by rfl) _ rfl _ rfl _ (HM.out) ?_))
 refine (HC.out _).mono ?_
 rintro e w1 ⟨rfl,k1⟩
 have HK1:=Qh (HK0.out.trans k1)
 have HP1:=Qh (HP.out.kept k1)
 have HM1:=Qh (MAt.kept HM.out k1)
 have HT1:=Qh (HT.out.kept k1)
 clear k1 cf
 go_wp2
 refine wp_region_held_drew (S:=Kept _) (by kernel_rfl) (Kept.refl _).drew (fun Qj=>?_)
 refine rT 0 12 (.int .i64 x) rfl rfl Qj ?_
 simp only [pA,pN,sZ,sU]
 refine rT 2 14 (.pointer (some ⟨w.heap.size,64,none⟩)) rfl rfl Qj ?_
 simp only [pA,pN,sZ,sU]
 refine rC 3 15 (.int .i64 p.t) rfl rfl (fun _ h=>kept_cell h (HP1.out.turn)) Qj ?_
 simp only [pA,pN,sZ,sU]
 refine rR 1 rfl (fun K hK=>?_)
 go_simp
 refine (mside_k x _).mono ?_
 rintro e w2 ⟨rfl,gw2⟩
 refine hK.out _ _ (Qj.trans gw2) (fun _=>?_)
 replace Qj:=Qj.trans gw2
 clear hK K
 refine rT 4 16 (.bool false) rfl rfl Qj ?_
 simp only [pA,pN,sZ,sU]
 refine rT 5 17 (.bool false) rfl rfl Qj ?_
 simp only [pA,pN,sZ,sU]
 refine rT 6 18 (.pointer (some ⟨w.heap.size+1,1,none⟩)) rfl rfl Qj ?_
 simp only [pA,pN,sZ,sU]
 refine rC 7 19 (.int .i64 m.t) rfl rfl (fun _ h=>kept_cell h (HM1.out.t)) Qj ?_
 simp only [pA,pN,sZ,sU]
 refine rR 8 rfl (fun K hK=>?_)
 go_simp
 refine (HRt.out _).mono ?_
 rintro e w3 ⟨rfl,gw3⟩
 refine hK.out _ _ (Qj.trans gw3) (fun _=>?_)
 replace Qj:=Qj.trans gw3
 clear hK K
 refine rT 9 21 (.bool false) rfl rfl Qj ?_
 simp only [pA,pN,sZ,sU]
 refine rT 10 22 (.bool false) rfl rfl Qj ?_
 simp only [pA,pN,sZ,sU]
 refine rT 11 23 (.bool false) rfl rfl Qj ?_
 simp only [pA,pN,sZ,sU]
 refine rT 12 24 (.pointer (some ⟨w.heap.size,0,none⟩)) rfl rfl Qj ?_
 simp only [pA,pN,sZ,sU]
 refine rY 13 25 rfl rfl (take_load_pb (by rfl) _ rfl _ rfl p hpl.out (fun _ h=>(HP1.out).kept h)) Qj ?_
 simp only [pA,pN,sZ,sU]
 refine rT 14 26 (.pointer (some ⟨w.heap.size+1,1,none⟩)) rfl rfl Qj ?_
 simp only [pA,pN,sZ,sU]
 refine rC 15 27 (.int .i64 m.t) rfl rfl (fun _ h=>kept_cell h (HM1.out.t)) Qj ?_
 simp only [pA,pN,sZ,sU]
 refine rT 18 30 (.pointer (some ⟨w.heap.size,64,none⟩)) rfl rfl Qj ?_
 simp only [pA,pN,sZ,sU]
 refine rC 19 31 (.int .i64 p.t) rfl rfl (fun _ h=>kept_cell h (HP1.out.turn)) Qj ?_
 simp only [pA,pN,sZ,sU]
 refine rR 16 rfl (fun K hK=>?_)
 go_simp
 refine (HC2.out _).mono ?_
 rintro e w4 ⟨rfl,gw4⟩
 refine hK.out _ _ (Qj.trans gw4) (fun _=>?_)
 replace Qj:=Qj.trans gw4
 clear hK K
 refine rR 17 rfl (fun K hK=>?_)
 go_simp
 refine (mside_k y _).mono ?_
 rintro e w5 ⟨rfl,gw5⟩
 refine hK.out _ _ (Qj.trans gw5) (fun _=>?_)
 replace Qj:=Qj.trans gw5
 clear hK K
 refine rT 20 32 (.bool false) rfl rfl Qj ?_
 simp only [pA,pN,sZ,sU]
 refine rT 21 33 (.bool false) rfl rfl Qj ?_
 simp only [pA,pN,sZ,sU]
 refine wpAnyH_done (by kernel_rfl) ?_ _
 have HP5:=Qh (HP1.out.kept Qj)
 have HM5:=Qh (MAt.kept HM1.out Qj)
 have HT5:=Qh (HT1.out.kept Qj)
 have HK5:=Qh (HK1.out.trans Qj)
 clear Qj
 go_wp2
 have hct:Hid (w5.cell? ⟨w.heap.size,64,none⟩=some (.int .i64 1)):=by have:=HP5.out.turn;rw [Ht.out] at this;exact this
 have hla:Hid (w5.cell? ⟨2,1,none⟩=some (.int .i64 0)):=HT5.out.lasts 1 (by omega)
 generalize m.t / 8=rk at *
 refine wp_region_held_drew (S:=Kept _) (by kernel_rfl) (Kept.refl _).drew (fun Qj=>?_)
 refine rT 0 34 (.int .i64 x) rfl rfl Qj ?_
 simp only [pA,pN,sZ,sU]
 refine rR 1 rfl (fun K hK=>?_)
 go_simp
 refine (mkind_k x _).mono ?_
 rintro e w6 ⟨rfl,gw6⟩
 refine hK.out _ _ (Qj.trans gw6) (fun _=>?_)
 replace Qj:=Qj.trans gw6
 clear hK K
 refine rT 2 36 (.bool true) rfl rfl Qj ?_
 simp only [pA,pN,sZ,sU]
 refine rT 3 37 (.bool true) rfl rfl Qj ?_
 simp only [pA,pN,sZ,sU]
 refine rT 4 38 (.pointer (some ⟨w.heap.size+1,1,none⟩)) rfl rfl Qj ?_
 simp only [pA,pN,sZ,sU]
 refine rC 5 39 (.int .i64 m.t) rfl rfl (fun _ h=>kept_cell h (HM5.out.t)) Qj ?_
 simp only [pA,pN,sZ,sU]
 refine rT 7 41 (.pointer (some ⟨w.heap.size,64,none⟩)) rfl rfl Qj ?_
 simp only [pA,pN,sZ,sU]
 refine rC 8 42 (.int .i64 1) rfl rfl (fun _ h=>kept_cell h (hct.out)) Qj ?_
 simp only [pA,pN,sZ,sU]
 refine rT 9 43 (.pointer (some ⟨2,1,none⟩)) rfl rfl Qj ?_
 simp only [pA,pN,sZ,sU]
 refine rC 10 44 (.int .i64 0) rfl rfl (fun _ h=>kept_cell h (hla.out)) Qj ?_
 simp only [pA,pN,sZ,sU]
 refine rR 6 rfl (fun K hK=>?_)
 go_simp
 refine (HRk.out _).mono ?_
 rintro e w8 ⟨rfl,gw8⟩
 refine hK.out _ _ (Qj.trans gw8) (fun _=>?_)
 replace Qj:=Qj.trans gw8
 clear hK K
 refine rT 11 45 (.bool (rk == 0)) rfl rfl Qj ?_
 simp only [pA,pN,sZ,sU]
 refine rT 12 46 (.bool (rk == 0)) rfl rfl Qj ?_
 simp only [pA,pN,sZ,sU]
 refine rT 13 6 (.bool (rk == 0)) rfl rfl Qj ?_
 simp only [pA,pN,sZ,sU]
 refine wpAnyH_done (by kernel_rfl) ?_ _
 have HP6:=Qh (HP5.out.kept Qj)
 have HM6:=Qh (MAt.kept HM5.out Qj)
 have HT6:=Qh (HT5.out.kept Qj)
 have HK6:=Qh (HK5.out.trans Qj)
 clear Qj
 generalize (rk == 0)=tn at *
 have cp:=HM6.out.p
 cases hp:(tn == (m.p != 0))
 ·rw [hp] at HV
  go_wp2
  go_ret
  exact ⟨by rw [HV.out];rfl,HK6.out⟩
 ·rw [hp] at HV
  go_wp2_with (first|(refine wpList_load_ps (by rfl) _ rfl _ rfl _ (HP6.out) ?_)|(refine wpList_load_pb (by rfl) _ rfl _ rfl _ (HP6.out) ?_)|(refine wpList_load_mv (by rfl) _ rfl _ rfl _ (HM6.out) ?_))
  refine (isPromo_is _ _ HT6.out).mono ?_
  rintro e w7 ⟨rfl,k7⟩
  have HK7:=Qh (HK6.out.trans k7)
  clear k7 cp
  go_wp2
  go_ret
  exact ⟨by rw [HV.out];rfl,HK7.out⟩
theorem formed_is (p:Ps) (hB:Brd p.B) (t01:p.t=0∨p.t=1) (m:Mv) (w:World) (hT:TabM w) :
  Calls Tryz.prog 85 #[.agg (pl p).toArray,.agg (ml m).toArray] w fun e w'=>e=.returned (.bool (formB p m))∧Kept w w':=by
 cases h1:(sideI (manA p.B m.f) == p.t)
 ·exact formed1 p hB m h1 w hT
 ·cases h2:onB m.t
  ·exact formed2 p hB m h1 h2 w hT
  ·cases h3:(sideI (manA p.B m.t) == p.t)
   ·cases h4:(kindI (manA p.B m.f) == 1)
    ·exact formed4 p hB m h1 h2 h3 h4 w hT
    ·rcases t01 with ht|ht
     ·exact formed5w p hB m h1 h2 h3 h4 ht w hT
     ·exact formed5b p hB m h1 h2 h3 h4 ht w hT
   ·exact formed3 p hB m h1 h2 h3 w hT
def okM (p:Ps) (m:Mv):Bool:=(pwI p == 0) && formB p m
theorem right_t {p:Ps} (h:pwI p=0):(p.t=0∨p.t=1)∧(0≤p.c∧p.c≤15)∧(-1≤p.e∧p.e≤63):=(within_iff p).1 (by
 unfold pwI at h
 by_cases a0:wrongI p.B=0
 ·rw [if_neg (by omega)] at h
  cases a1:withinB p
  ·rw [a1,if_pos rfl] at h;omega
  ·rfl
 ·rw [if_pos a0] at h;exact absurd h a0)
set_option maxHeartbeats 2000000 in
theorem mformed_is (p:Ps) (hB:Brd p.B) (m:Mv) (w:World) (hT:TabM w) :
  Calls Tryz.prog 163 #[.agg (pl p).toArray,.agg (ml m).toArray] w fun e w'=>e=.returned (.bool (okM p m))∧Kept w w':=by
 have HP:Hid (PAt _ _ p):=⟨hB.1,heap_alloc2_old w (.cells (pl p).toArray 26) (.cells (ml m).toArray 54)⟩
 have HM:Hid (MAt _ _ m):=⟨heap_alloc2_new w (.cells (pl p).toArray 26) (.cells (ml m).toArray 54)⟩
 have HK0:=Qh (((Kept.refl w).alloc (.cells (pl p).toArray 26)).alloc (.cells (ml m).toArray 54))
 have HT:=Qh (hT.kept HK0.out)
 have HC:=Qh (fun w h=>pwrong_is p hB w h)
 by_cases hv:pwI p=0
 ·have HF:=Qh (fun w h=>formed_is p hB (right_t hv).1 m w h)
  have HV:Hid (okM p m=formB p m):=by unfold okM;rw [hv];rfl
  rw [hv] at HC
  clear hB hT hv
  go_enter Tryz.func163,Tryz.ntmps163
  go_wp2_with (first|(refine wpList_load_ps (by rfl) _ rfl _ rfl _ (HP.out) ?_)|(refine wpList_load_pb (by rfl) _ rfl _ rfl _ (HP.out) ?_)|(refine wpList_load_mv (by rfl) _ rfl _ rfl _ (HM.out) ?_))
  refine (HC.out _ HT.out.tabs).mono ?_
  rintro e w1 ⟨rfl,k1⟩
  have HK1:=Qh (HK0.out.trans k1)
  have HP1:=Qh (HP.out.kept k1)
  have HM1:=Qh (MAt.kept HM.out k1)
  have HT1:=Qh (HT.out.kept k1)
  clear k1
  go_wp2_with (first|(refine wpList_load_ps (by rfl) _ rfl _ rfl _ (HP1.out) ?_)|(refine wpList_load_pb (by rfl) _ rfl _ rfl _ (HP1.out) ?_)|(refine wpList_load_mv (by rfl) _ rfl _ rfl _ (HM1.out) ?_))
  refine (HF.out _ HT1.out).mono ?_
  rintro e w2 ⟨rfl,k2⟩
  have HK2:=Qh (HK1.out.trans k2)
  clear k2
  go_wp2
  go_ret
  exact ⟨by rw [HV.out];rfl,HK2.out⟩
 ·have hv':(pwI p == 0)=false:=beq_eq_false_iff_ne.2 hv
  have HV:Hid (okM p m=false):=by unfold okM;rw [hv'];rfl
  generalize pwI p=v at *
  clear hB hT hv
  go_enter Tryz.func163,Tryz.ntmps163
  go_wp2_with (first|(refine wpList_load_ps (by rfl) _ rfl _ rfl _ (HP.out) ?_)|(refine wpList_load_pb (by rfl) _ rfl _ rfl _ (HP.out) ?_)|(refine wpList_load_mv (by rfl) _ rfl _ rfl _ (HM.out) ?_))
  refine (HC.out _ HT.out.tabs).mono ?_
  rintro e w1 ⟨rfl,k1⟩
  have HK1:=Qh (HK0.out.trans k1)
  clear k1
  go_wp2
  go_ret
  exact ⟨by rw [HV.out];rfl,HK1.out⟩
theorem okM_right {p:Ps} {m:Mv} (h:okM p m=true):pwI p=0∧formB p m=true:=by
 unfold okM at h
 rw [Bool.and_eq_true,beq_iff_eq] at h
 exact h
theorem okM_on {p:Ps} {m:Mv} (h:okM p m=true):On m:=form_on (right_t (okM_right h).1).1 (okM_right h).2
set_option maxHeartbeats 2000000 in
theorem castles_yes (p:Ps) (hB:Brd p.B) (m:Mv) (h:okM p m=true) (w:World) (hT:TabM w) :
  Calls Tryz.prog 150 #[.agg (pl p).toArray,.agg (ml m).toArray] w fun e w'=>e=.returned (.bool (decide (castN p m<4)))∧Kept w w':=by
 have HP:Hid (PAt _ _ p):=⟨hB.1,heap_alloc2_old w (.cells (pl p).toArray 26) (.cells (ml m).toArray 54)⟩
 have HM:Hid (MAt _ _ m):=⟨heap_alloc2_new w (.cells (pl p).toArray 26) (.cells (ml m).toArray 54)⟩
 have HK0:=Qh (((Kept.refl w).alloc (.cells (pl p).toArray 26)).alloc (.cells (ml m).toArray 54))
 have HT:=Qh (hT.kept HK0.out)
 have HC:=Qh (fun w h=>mformed_is p hB m w h)
 have HF:=Qh (fun w hw=>castling_is p hB (right_t (okM_right h).1).2.1.1 (right_t (okM_right h).1).2.1.2 m w hw)
 rw [h] at HC
 generalize castN p m=cn at *
 clear hB hT h
 go_enter Tryz.func150,Tryz.ntmps150
 go_wp2_with (first|(refine wpList_load_ps (by rfl) _ rfl _ rfl _ (HP.out) ?_)|(refine wpList_load_pb (by rfl) _ rfl _ rfl _ (HP.out) ?_)|(refine wpList_load_mv (by rfl) _ rfl _ rfl _ (HM.out) ?_))
 refine (HC.out _ HT.out).mono ?_
 rintro e w1 ⟨rfl,k1⟩
 have HK1:=Qh (HK0.out.trans k1)
 have HP1:=Qh (HP.out.kept k1)
 have HM1:=Qh (MAt.kept HM.out k1)
 have HT1:=Qh (HT.out.kept k1)
 clear k1
 go_wp2_with (first|(refine wpList_load_ps (by rfl) _ rfl _ rfl _ (HP1.out) ?_)|(refine wpList_load_pb (by rfl) _ rfl _ rfl _ (HP1.out) ?_)|(refine wpList_load_mv (by rfl) _ rfl _ rfl _ (HM1.out) ?_))
 refine (HF.out _ HT1.out).mono ?_
 rintro e w2 ⟨rfl,k2⟩
 have HK2:=Qh (HK1.out.trans k2)
 clear k2
 go_wp2_with (first|(with_reducible refine wpList_new_wi rfl rfl ?_)|((with_reducible refine wpList_store_newwi rfl _ _ rfl 4 cn ?_ ?_ ?_);exact rfl;exact rfl))
 go_ret
 exact ⟨rfl,HK2.out.alloc _⟩
set_option maxHeartbeats 2000000 in
theorem castles_no (p:Ps) (hB:Brd p.B) (m:Mv) (h:okM p m=false) (w:World) (hT:TabM w) :
  Calls Tryz.prog 150 #[.agg (pl p).toArray,.agg (ml m).toArray] w fun e w'=>e=.returned (.bool false)∧Kept w w':=by
 have HP:Hid (PAt _ _ p):=⟨hB.1,heap_alloc2_old w (.cells (pl p).toArray 26) (.cells (ml m).toArray 54)⟩
 have HM:Hid (MAt _ _ m):=⟨heap_alloc2_new w (.cells (pl p).toArray 26) (.cells (ml m).toArray 54)⟩
 have HK0:=Qh (((Kept.refl w).alloc (.cells (pl p).toArray 26)).alloc (.cells (ml m).toArray 54))
 have HT:=Qh (hT.kept HK0.out)
 have HC:=Qh (fun w h=>mformed_is p hB m w h)
 rw [h] at HC
 clear hB hT h
 go_enter Tryz.func150,Tryz.ntmps150
 go_wp2_with (first|(refine wpList_load_ps (by rfl) _ rfl _ rfl _ (HP.out) ?_)|(refine wpList_load_pb (by rfl) _ rfl _ rfl _ (HP.out) ?_)|(refine wpList_load_mv (by rfl) _ rfl _ rfl _ (HM.out) ?_))
 refine (HC.out _ HT.out).mono ?_
 rintro e w1 ⟨rfl,k1⟩
 have HK1:=Qh (HK0.out.trans k1)
 clear k1
 go_wp2
 go_ret
 exact ⟨rfl,HK1.out⟩
end Go.Proofs.YtijkemnhehbchaaGreatDoor
