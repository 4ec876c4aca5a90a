/- MvD: my texts, in their order. -/
import Derived.Test.YtijkemnhehbchaaGreatDoorPkI
namespace Go.Proofs.YtijkemnhehbchaaGreatDoor
open Go.RowKit
set_option linter.unusedVariables false
set_option linter.unusedSimpArgs false
set_option maxRecDepth 100000
theorem file_k (s:Int) (w:World) (h0:0≤s) (h1:s<64):Calls Tryz.prog 95 #[.int .i64 s] w fun e w'=>e=.returned (.int .i64 (s % 8))∧Kept w w' :=
 (file_yes s w h0 h1).mono fun _ _ ⟨a,b⟩=>⟨a,b ▸ Kept.refl _⟩
theorem far_k (a b:Int) (w:World) (a0:0≤a) (a1:a<64) (b0:0≤b) (b1:b<64):Calls Tryz.prog 68 #[.int .i64 a,.int .i64 b] w fun e w'=>e=.returned (.int .i64 (farI a b))∧Kept w w' :=
 (far_yes a b w a0 a1 b0 b1).mono fun _ _ ⟨x,y⟩=>⟨x,y ▸ Kept.refl _⟩
def epTake (p:Ps) (m:Mv):Bool:=pawnB p m && (m.t == p.e) && (m.f % 8 != m.t % 8)
def takeI (p:Ps) (m:Mv):Int:=if bAt p.B m.t≠0 then m.t else if epTake p m then passI p else -1
def takeS (p:Ps) (m:Mv):Int:=if 0≤takeI p m then takeI p m else 0
def takeB (p:Ps) (m:Mv):Bool:=decide (0≤takeI p m)
theorem take_off {p:Ps} {m:Mv} (h:takeI p m=-1):takeS p m=0∧takeB p m=false:=by unfold takeS takeB;rw [h];decide
theorem take_on {p:Ps} {m:Mv} {s:Int} (h:takeI p m=s) (h0:0≤s):takeS p m=s∧takeB p m=true:=by unfold takeS takeB;rw [h,if_pos h0];simpa using h0
theorem take_pass {p:Ps} {m:Mv} (h:takeI p m=passI p):takeS p m=passS p∧takeB p m=passB p:=by unfold takeS takeB passS passB;rw [h];exact ⟨rfl,rfl⟩
set_option maxHeartbeats 2000000 in
theorem taken0 (p:Ps) (hB:Brd p.B) (m:Mv) (ho:On m) (h0:bAt p.B m.t≠0) (w:World) (hT:TabM w) :
  Calls Tryz.prog 112 #[.agg (pl p).toArray,.agg (ml m).toArray] w fun e w'=>e=.returned (.tuple #[.int .i64 (takeS p m),.bool (takeB p m)])∧Kept w w':=by
 obtain ⟨f0,f1,t0,t1⟩:=ho
 have HP:Hid (PAt _ _ p):=⟨hB.1,heap_alloc2_old w (.cells (pl p).toArray 26) (.cells (ml m).toArray 54)⟩
 have HM:Hid (MAt _ _ m):=⟨heap_alloc2_new w (.cells (pl p).toArray 26) (.cells (ml m).toArray 54)⟩
 have HK0:=Qh (((Kept.refl w).alloc (.cells (pl p).toArray 26)).alloc (.cells (ml m).toArray 54))
 have HT:=Qh (hT.kept HK0.out)
 have hpl:Hid (p.B.length=64):=hB.1
 have HB:=Qh hB
 have ct:=HM.out.t
 have HC:=Qh (man_at p.B hB m.t t0 t1)
 have HPw:=Qh (fun w=>pawn_is p hB m f0 f1 w)
 have HF1:=Qh (fun w=>file_k m.f w f0 f1)
 have HF2:=Qh (fun w=>file_k m.t w t0 t1)
 have HPs:=Qh (fun w h=>passed_is p hB w h)
 have HV:=Qh (take_on (p:=p) (m:=m) (s:=m.t) (by unfold takeI;rw [if_pos h0]) t0)
 have hb:(bAt p.B m.t != 0)=true:=bne_iff_ne.2 h0
 generalize bAt p.B m.t=x at *
 clear hB hT f0 f1 t0 t1
 go_enter Tryz.func112,Tryz.ntmps112
 go_wp2_with (first|(refine wpList_load_ps (by rfl) _ rfl _ rfl _ (HP.out) ?_)|(refine wpList_load_pb (by rfl) _ rfl _ rfl _ (HP.out) ?_)|(refine wpList_load_mv (by rfl) _ rfl _ rfl _ (HM.out) ?_))
 refine (HC.out _).mono ?_
 rintro e w1 ⟨rfl,k1⟩
 have HK1:=Qh (HK0.out.trans k1)
 have HP1:=Qh (HP.out.kept k1)
 have HM1:=Qh (MAt.kept HM.out k1)
 have HT1:=Qh (HT.out.kept k1)
 clear k1 ct
 have ct:=HM1.out.t
 go_wp2
 go_ret2
 exact ⟨by rw [HV.out.1,HV.out.2];rfl,HK1.out⟩
set_option maxHeartbeats 2000000 in
theorem taken1 (p:Ps) (hB:Brd p.B) (m:Mv) (ho:On m) (h0:bAt p.B m.t=0) (h1:pawnB p m=false) (w:World) (hT:TabM w) :
  Calls Tryz.prog 112 #[.agg (pl p).toArray,.agg (ml m).toArray] w fun e w'=>e=.returned (.tuple #[.int .i64 (takeS p m),.bool (takeB p m)])∧Kept w w':=by
 obtain ⟨f0,f1,t0,t1⟩:=ho
 have HP:Hid (PAt _ _ p):=⟨hB.1,heap_alloc2_old w (.cells (pl p).toArray 26) (.cells (ml m).toArray 54)⟩
 have HM:Hid (MAt _ _ m):=⟨heap_alloc2_new w (.cells (pl p).toArray 26) (.cells (ml m).toArray 54)⟩
 have HK0:=Qh (((Kept.refl w).alloc (.cells (pl p).toArray 26)).alloc (.cells (ml m).toArray 54))
 have HT:=Qh (hT.kept HK0.out)
 have hpl:Hid (p.B.length=64):=hB.1
 have HB:=Qh hB
 have ct:=HM.out.t
 have HC:=Qh (man_at p.B hB m.t t0 t1)
 have HPw:=Qh (fun w=>pawn_is p hB m f0 f1 w)
 have HF1:=Qh (fun w=>file_k m.f w f0 f1)
 have HF2:=Qh (fun w=>file_k m.t w t0 t1)
 have HPs:=Qh (fun w h=>passed_is p hB w h)
 rw [h0] at HC
 rw [h1] at HPw
 have HV:=Qh (take_off (p:=p) (m:=m) (by unfold takeI epTake;rw [if_neg (by simpa using h0),if_neg (by simp [h1])]))
 clear hB hT f0 f1 t0 t1
 go_enter Tryz.func112,Tryz.ntmps112
 go_wp2_with (first|(refine wpList_load_ps (by rfl) _ rfl _ rfl _ (HP.out) ?_)|(refine wpList_load_pb (by rfl) _ rfl _ rfl _ (HP.out) ?_)|(refine wpList_load_mv (by rfl) _ rfl _ rfl _ (HM.out) ?_))
 refine (HC.out _).mono ?_
 rintro e w1 ⟨rfl,k1⟩
 have HK1:=Qh (HK0.out.trans k1)
 have HP1:=Qh (HP.out.kept k1)
 have HM1:=Qh (MAt.kept HM.out k1)
 have HT1:=Qh (HT.out.kept k1)
 clear k1 ct
 go_wp2
 refine wp_region_held_drew (S:=Kept _) (by kernel_rfl) (Kept.refl _).drew (fun Qj=>?_)
 refine rY 0 16 rfl rfl (take_load_ps (by rfl) _ rfl _ rfl p hpl.out (fun _ h=>(HP1.out).kept h)) Qj ?_
 simp only [pA,pN,sZ,sU]
 refine rY 1 17 rfl rfl (take_load_mv (by rfl) _ rfl _ rfl m (fun _ h=>MAt.kept (HM1.out) h)) Qj ?_
 simp only [pA,pN,sZ,sU]
 refine rR 2 rfl (fun K hK=>?_)
 go_simp
 refine (HPw.out _).mono ?_
 rintro e w2 ⟨rfl,gw2⟩
 refine hK.out _ _ (Qj.trans gw2) (fun _=>?_)
 replace Qj:=Qj.trans gw2
 clear hK K
 refine rT 3 19 (.bool false) rfl rfl Qj ?_
 simp only [pA,pN,sZ,sU]
 refine rN 4 20 rfl rfl Qj ?_
 simp only [pA,pN,sZ,sU]
 refine rN 5 21 rfl rfl Qj ?_
 simp only [pA,pN,sZ,sU]
 refine rN 6 22 rfl rfl Qj ?_
 simp only [pA,pN,sZ,sU]
 refine rN 7 23 rfl rfl Qj ?_
 simp only [pA,pN,sZ,sU]
 refine rN 8 24 rfl rfl Qj ?_
 simp only [pA,pN,sZ,sU]
 refine rT 9 25 (.bool false) rfl rfl Qj ?_
 simp only [pA,pN,sZ,sU]
 refine rT 10 26 (.bool false) rfl rfl Qj ?_
 simp only [pA,pN,sZ,sU]
 refine rN 11 27 rfl rfl Qj ?_
 simp only [pA,pN,sZ,sU]
 refine rN 12 28 rfl rfl Qj ?_
 simp only [pA,pN,sZ,sU]
 refine rN 13 29 rfl rfl Qj ?_
 simp only [pA,pN,sZ,sU]
 refine rN 14 30 rfl rfl Qj ?_
 simp only [pA,pN,sZ,sU]
 refine rN 15 31 rfl rfl Qj ?_
 simp only [pA,pN,sZ,sU]
 refine rN 16 32 rfl rfl Qj ?_
 simp only [pA,pN,sZ,sU]
 refine rN 17 33 rfl rfl Qj ?_
 simp only [pA,pN,sZ,sU]
 refine rT 18 34 (.bool false) rfl rfl Qj ?_
 simp only [pA,pN,sZ,sU]
 refine rT 19 15 (.bool false) rfl rfl Qj ?_
 simp only [pA,pN,sZ,sU]
 refine wpAnyH_done (by kernel_rfl) ?_ _
 go_wp2
 go_ret2
 exact ⟨by rw [HV.out.1,HV.out.2];rfl,HK1.out.trans Qj⟩
set_option maxHeartbeats 2000000 in
theorem taken2 (p:Ps) (hB:Brd p.B) (m:Mv) (ho:On m) (h0:bAt p.B m.t=0) (h1:pawnB p m=true) (h2:(m.t == p.e)=false) (w:World) (hT:TabM w) :
  Calls Tryz.prog 112 #[.agg (pl p).toArray,.agg (ml m).toArray] w fun e w'=>e=.returned (.tuple #[.int .i64 (takeS p m),.bool (takeB p m)])∧Kept w w':=by
 obtain ⟨f0,f1,t0,t1⟩:=ho
 have HP:Hid (PAt _ _ p):=⟨hB.1,heap_alloc2_old w (.cells (pl p).toArray 26) (.cells (ml m).toArray 54)⟩
 have HM:Hid (MAt _ _ m):=⟨heap_alloc2_new w (.cells (pl p).toArray 26) (.cells (ml m).toArray 54)⟩
 have HK0:=Qh (((Kept.refl w).alloc (.cells (pl p).toArray 26)).alloc (.cells (ml m).toArray 54))
 have HT:=Qh (hT.kept HK0.out)
 have hpl:Hid (p.B.length=64):=hB.1
 have HB:=Qh hB
 have ct:=HM.out.t
 have HC:=Qh (man_at p.B hB m.t t0 t1)
 have HPw:=Qh (fun w=>pawn_is p hB m f0 f1 w)
 have HF1:=Qh (fun w=>file_k m.f w f0 f1)
 have HF2:=Qh (fun w=>file_k m.t w t0 t1)
 have HPs:=Qh (fun w h=>passed_is p hB w h)
 rw [h0] at HC
 rw [h1] at HPw
 have HV:=Qh (take_off (p:=p) (m:=m) (by unfold takeI epTake;rw [if_neg (by simpa using h0),if_neg (by simp [h1,h2])]))
 clear hB hT f0 f1 t0 t1
 go_enter Tryz.func112,Tryz.ntmps112
 go_wp2_with (first|(refine wpList_load_ps (by rfl) _ rfl _ rfl _ (HP.out) ?_)|(refine wpList_load_pb (by rfl) _ rfl _ rfl _ (HP.out) ?_)|(refine wpList_load_mv (by rfl) _ rfl _ rfl _ (HM.out) ?_))
 refine (HC.out _).mono ?_
 rintro e w1 ⟨rfl,k1⟩
 have HK1:=Qh (HK0.out.trans k1)
 have HP1:=Qh (HP.out.kept k1)
 have HM1:=Qh (MAt.kept HM.out k1)
 have HT1:=Qh (HT.out.kept k1)
 clear k1 ct
 go_wp2
 refine wp_region_held_drew (S:=Kept _) (by kernel_rfl) (Kept.refl _).drew (fun Qj=>?_)
 refine rY 0 16 rfl rfl (take_load_ps (by rfl) _ rfl _ rfl p hpl.out (fun _ h=>(HP1.out).kept h)) Qj ?_
 simp only [pA,pN,sZ,sU]
 refine rY 1 17 rfl rfl (take_load_mv (by rfl) _ rfl _ rfl m (fun _ h=>MAt.kept (HM1.out) h)) Qj ?_
 simp only [pA,pN,sZ,sU]
 refine rR 2 rfl (fun K hK=>?_)
 go_simp
 refine (HPw.out _).mono ?_
 rintro e w2 ⟨rfl,gw2⟩
 refine hK.out _ _ (Qj.trans gw2) (fun _=>?_)
 replace Qj:=Qj.trans gw2
 clear hK K
 refine rT 3 19 (.bool true) rfl rfl Qj ?_
 simp only [pA,pN,sZ,sU]
 refine rT 4 20 (.pointer (some ⟨w.heap.size+1,1,none⟩)) rfl rfl Qj ?_
 simp only [pA,pN,sZ,sU]
 refine rC 5 21 (.int .i64 m.t) rfl rfl (fun _ h=>kept_cell h (HM1.out.t)) Qj ?_
 simp only [pA,pN,sZ,sU]
 refine rT 6 22 (.pointer (some ⟨w.heap.size,66,none⟩)) rfl rfl Qj ?_
 simp only [pA,pN,sZ,sU]
 refine rC 7 23 (.int .i64 p.e) rfl rfl (fun _ h=>kept_cell h (HP1.out.ep)) Qj ?_
 simp only [pA,pN,sZ,sU]
 refine rT 8 24 (.bool false) rfl rfl Qj ?_
 simp only [pA,pN,sZ,sU]
 refine rT 9 25 (.bool false) rfl rfl Qj ?_
 simp only [pA,pN,sZ,sU]
 refine rT 10 26 (.bool false) rfl rfl Qj ?_
 simp only [pA,pN,sZ,sU]
 refine rN 11 27 rfl rfl Qj ?_
 simp only [pA,pN,sZ,sU]
 refine rN 12 28 rfl rfl Qj ?_
 simp only [pA,pN,sZ,sU]
 refine rN 13 29 rfl rfl Qj ?_
 simp only [pA,pN,sZ,sU]
 refine rN 14 30 rfl rfl Qj ?_
 simp only [pA,pN,sZ,sU]
 refine rN 15 31 rfl rfl Qj ?_
 simp only [pA,pN,sZ,sU]
 refine rN 16 32 rfl rfl Qj ?_
 simp only [pA,pN,sZ,sU]
 refine rN 17 33 rfl rfl Qj ?_
 simp only [pA,pN,sZ,sU]
 refine rT 18 34 (.bool false) rfl rfl Qj ?_
 simp only [pA,pN,sZ,sU]
 refine rT 19 15 (.bool false) rfl rfl Qj ?_
 simp only [pA,pN,sZ,sU]
 refine wpAnyH_done (by kernel_rfl) ?_ _
 go_wp2
 go_ret2
 exact ⟨by rw [HV.out.1,HV.out.2];rfl,HK1.out.trans Qj⟩
set_option maxHeartbeats 2000000 in
theorem taken3 (p:Ps) (hB:Brd p.B) (m:Mv) (ho:On m) (h0:bAt p.B m.t=0) (h1:pawnB p m=true) (h2:(m.t == p.e)=true) (h3:(m.f % 8 != m.t % 8)=false) (w:World) (hT:TabM w) :
  Calls Tryz.prog 112 #[.agg (pl p).toArray,.agg (ml m).toArray] w fun e w'=>e=.returned (.tuple #[.int .i64 (takeS p m),.bool (takeB p m)])∧Kept w w':=by
 obtain ⟨f0,f1,t0,t1⟩:=ho
 have HP:Hid (PAt _ _ p):=⟨hB.1,heap_alloc2_old w (.cells (pl p).toArray 26) (.cells (ml m).toArray 54)⟩
 have HM:Hid (MAt _ _ m):=⟨heap_alloc2_new w (.cells (pl p).toArray 26) (.cells (ml m).toArray 54)⟩
 have HK0:=Qh (((Kept.refl w).alloc (.cells (pl p).toArray 26)).alloc (.cells (ml m).toArray 54))
 have HT:=Qh (hT.kept HK0.out)
 have hpl:Hid (p.B.length=64):=hB.1
 have HB:=Qh hB
 have ct:=HM.out.t
 have HC:=Qh (man_at p.B hB m.t t0 t1)
 have HPw:=Qh (fun w=>pawn_is p hB m f0 f1 w)
 have HF1:=Qh (fun w=>file_k m.f w f0 f1)
 have HF2:=Qh (fun w=>file_k m.t w t0 t1)
 have HPs:=Qh (fun w h=>passed_is p hB w h)
 rw [h0] at HC
 rw [h1] at HPw
 have HV:=Qh (take_off (p:=p) (m:=m) (by unfold takeI epTake;rw [if_neg (by simpa using h0),if_neg (by simp [h1,h2,h3])]))
 clear hB hT f0 f1 t0 t1
 go_enter Tryz.func112,Tryz.ntmps112
 go_wp2_with (first|(refine wpList_load_ps (by rfl) _ rfl _ rfl _ (HP.out) ?_)|(refine wpList_load_pb (by rfl) _ rfl _ rfl _ (HP.out) ?_)|(refine wpList_load_mv (by rfl) _ rfl _ rfl _ (HM.out) ?_))
 refine (HC.out _).mono ?_
 rintro e w1 ⟨rfl,k1⟩
 have HK1:=Qh (HK0.out.trans k1)
 have HP1:=Qh (HP.out.kept k1)
 have HM1:=Qh (MAt.kept HM.out k1)
 have HT1:=Qh (HT.out.kept k1)
 clear k1 ct
 go_wp2
 refine wp_region_held_drew (S:=Kept _) (by kernel_rfl) (Kept.refl _).drew (fun Qj=>?_)
 refine rY 0 16 rfl rfl (take_load_ps (by rfl) _ rfl _ rfl p hpl.out (fun _ h=>(HP1.out).kept h)) Qj ?_
 simp only [pA,pN,sZ,sU]
 refine rY 1 17 rfl rfl (take_load_mv (by rfl) _ rfl _ rfl m (fun _ h=>MAt.kept (HM1.out) h)) Qj ?_
 simp only [pA,pN,sZ,sU]
 refine rR 2 rfl (fun K hK=>?_)
 go_simp
 refine (HPw.out _).mono ?_
 rintro e w2 ⟨rfl,gw2⟩
 refine hK.out _ _ (Qj.trans gw2) (fun _=>?_)
 replace Qj:=Qj.trans gw2
 clear hK K
 refine rT 3 19 (.bool true) rfl rfl Qj ?_
 simp only [pA,pN,sZ,sU]
 refine rT 4 20 (.pointer (some ⟨w.heap.size+1,1,none⟩)) rfl rfl Qj ?_
 simp only [pA,pN,sZ,sU]
 refine rC 5 21 (.int .i64 m.t) rfl rfl (fun _ h=>kept_cell h (HM1.out.t)) Qj ?_
 simp only [pA,pN,sZ,sU]
 refine rT 6 22 (.pointer (some ⟨w.heap.size,66,none⟩)) rfl rfl Qj ?_
 simp only [pA,pN,sZ,sU]
 refine rC 7 23 (.int .i64 p.e) rfl rfl (fun _ h=>kept_cell h (HP1.out.ep)) Qj ?_
 simp only [pA,pN,sZ,sU]
 refine rT 8 24 (.bool true) rfl rfl Qj ?_
 simp only [pA,pN,sZ,sU]
 refine rT 9 25 (.bool true) rfl rfl Qj ?_
 simp only [pA,pN,sZ,sU]
 refine rT 10 26 (.bool true) rfl rfl Qj ?_
 simp only [pA,pN,sZ,sU]
 refine rT 11 27 (.pointer (some ⟨w.heap.size+1,0,none⟩)) rfl rfl Qj ?_
 simp only [pA,pN,sZ,sU]
 refine rC 12 28 (.int .i64 m.f) rfl rfl (fun _ h=>kept_cell h (HM1.out.f)) Qj ?_
 simp only [pA,pN,sZ,sU]
 refine rT 14 30 (.pointer (some ⟨w.heap.size+1,1,none⟩)) rfl rfl Qj ?_
 simp only [pA,pN,sZ,sU]
 refine rC 15 31 (.int .i64 m.t) rfl rfl (fun _ h=>kept_cell h (HM1.out.t)) Qj ?_
 simp only [pA,pN,sZ,sU]
 refine rR 13 rfl (fun K hK=>?_)
 go_simp
 refine (HF1.out _).mono ?_
 rintro e w3 ⟨rfl,gw3⟩
 refine hK.out _ _ (Qj.trans gw3) (fun _=>?_)
 replace Qj:=Qj.trans gw3
 clear hK K
 refine rR 16 rfl (fun K hK=>?_)
 go_simp
 refine (HF2.out _).mono ?_
 rintro e w4 ⟨rfl,gw4⟩
 refine hK.out _ _ (Qj.trans gw4) (fun _=>?_)
 replace Qj:=Qj.trans gw4
 clear hK K
 refine rT 17 33 (.bool false) rfl rfl Qj ?_
 simp only [pA,pN,sZ,sU]
 refine rT 18 34 (.bool false) rfl rfl Qj ?_
 simp only [pA,pN,sZ,sU]
 refine rT 19 15 (.bool false) rfl rfl Qj ?_
 simp only [pA,pN,sZ,sU]
 refine wpAnyH_done (by kernel_rfl) ?_ _
 go_wp2
 go_ret2
 exact ⟨by rw [HV.out.1,HV.out.2];rfl,HK1.out.trans Qj⟩
set_option maxHeartbeats 2000000 in
theorem taken4 (p:Ps) (hB:Brd p.B) (m:Mv) (ho:On m) (h0:bAt p.B m.t=0) (h1:pawnB p m=true) (h2:(m.t == p.e)=true) (h3:(m.f % 8 != m.t % 8)=true) (w:World) (hT:TabM w) :
  Calls Tryz.prog 112 #[.agg (pl p).toArray,.agg (ml m).toArray] w fun e w'=>e=.returned (.tuple #[.int .i64 (takeS p m),.bool (takeB p m)])∧Kept w w':=by
 obtain ⟨f0,f1,t0,t1⟩:=ho
 have HP:Hid (PAt _ _ p):=⟨hB.1,heap_alloc2_old w (.cells (pl p).toArray 26) (.cells (ml m).toArray 54)⟩
 have HM:Hid (MAt _ _ m):=⟨heap_alloc2_new w (.cells (pl p).toArray 26) (.cells (ml m).toArray 54)⟩
 have HK0:=Qh (((Kept.refl w).alloc (.cells (pl p).toArray 26)).alloc (.cells (ml m).toArray 54))
 have HT:=Qh (hT.kept HK0.out)
 have hpl:Hid (p.B.length=64):=hB.1
 have HB:=Qh hB
 have ct:=HM.out.t
 have HC:=Qh (man_at p.B hB m.t t0 t1)
 have HPw:=Qh (fun w=>pawn_is p hB m f0 f1 w)
 have HF1:=Qh (fun w=>file_k m.f w f0 f1)
 have HF2:=Qh (fun w=>file_k m.t w t0 t1)
 have HPs:=Qh (fun w h=>passed_is p hB w h)
 rw [h0] at HC
 rw [h1] at HPw
 have HV:=Qh (take_pass (p:=p) (m:=m) (by unfold takeI epTake;rw [if_neg (by simpa using h0),if_pos (by rw [h1,h2,h3];rfl)]))
 clear hB hT f0 f1 t0 t1
 go_enter Tryz.func112,Tryz.ntmps112
 go_wp2_with (first|(refine wpList_load_ps (by rfl) _ rfl _ rfl _ (HP.out) ?_)|(refine wpList_load_pb (by rfl) _ rfl _ rfl _ (HP.out) ?_)|(refine wpList_load_mv (by rfl) _ rfl _ rfl _ (HM.out) ?_))
 refine (HC.out _).mono ?_
 rintro e w1 ⟨rfl,k1⟩
 have HK1:=Qh (HK0.out.trans k1)
 have HP1:=Qh (HP.out.kept k1)
 have HM1:=Qh (MAt.kept HM.out k1)
 have HT1:=Qh (HT.out.kept k1)
 clear k1 ct
 go_wp2
 refine wp_region_held_drew (S:=Kept _) (by kernel_rfl) (Kept.refl _).drew (fun Qj=>?_)
 refine rY 0 16 rfl rfl (take_load_ps (by rfl) _ rfl _ rfl p hpl.out (fun _ h=>(HP1.out).kept h)) Qj ?_
 simp only [pA,pN,sZ,sU]
 refine rY 1 17 rfl rfl (take_load_mv (by rfl) _ rfl _ rfl m (fun _ h=>MAt.kept (HM1.out) h)) Qj ?_
 simp only [pA,pN,sZ,sU]
 refine rR 2 rfl (fun K hK=>?_)
 go_simp
 refine (HPw.out _).mono ?_
 rintro e w2 ⟨rfl,gw2⟩
 refine hK.out _ _ (Qj.trans gw2) (fun _=>?_)
 replace Qj:=Qj.trans gw2
 clear hK K
 refine rT 3 19 (.bool true) rfl rfl Qj ?_
 simp only [pA,pN,sZ,sU]
 refine rT 4 20 (.pointer (some ⟨w.heap.size+1,1,none⟩)) rfl rfl Qj ?_
 simp only [pA,pN,sZ,sU]
 refine rC 5 21 (.int .i64 m.t) rfl rfl (fun _ h=>kept_cell h (HM1.out.t)) Qj ?_
 simp only [pA,pN,sZ,sU]
 refine rT 6 22 (.pointer (some ⟨w.heap.size,66,none⟩)) rfl rfl Qj ?_
 simp only [pA,pN,sZ,sU]
 refine rC 7 23 (.int .i64 p.e) rfl rfl (fun _ h=>kept_cell h (HP1.out.ep)) Qj ?_
 simp only [pA,pN,sZ,sU]
 refine rT 8 24 (.bool true) rfl rfl Qj ?_
 simp only [pA,pN,sZ,sU]
 refine rT 9 25 (.bool true) rfl rfl Qj ?_
 simp only [pA,pN,sZ,sU]
 refine rT 10 26 (.bool true) rfl rfl Qj ?_
 simp only [pA,pN,sZ,sU]
 refine rT 11 27 (.pointer (some ⟨w.heap.size+1,0,none⟩)) rfl rfl Qj ?_
 simp only [pA,pN,sZ,sU]
 refine rC 12 28 (.int .i64 m.f) rfl rfl (fun _ h=>kept_cell h (HM1.out.f)) Qj ?_
 simp only [pA,pN,sZ,sU]
 refine rT 14 30 (.pointer (some ⟨w.heap.size+1,1,none⟩)) rfl rfl Qj ?_
 simp only [pA,pN,sZ,sU]
 refine rC 15 31 (.int .i64 m.t) rfl rfl (fun _ h=>kept_cell h (HM1.out.t)) Qj ?_
 simp only [pA,pN,sZ,sU]
 refine rR 13 rfl (fun K hK=>?_)
 go_simp
 refine (HF1.out _).mono ?_
 rintro e w3 ⟨rfl,gw3⟩
 refine hK.out _ _ (Qj.trans gw3) (fun _=>?_)
 replace Qj:=Qj.trans gw3
 clear hK K
 refine rR 16 rfl (fun K hK=>?_)
 go_simp
 refine (HF2.out _).mono ?_
 rintro e w4 ⟨rfl,gw4⟩
 refine hK.out _ _ (Qj.trans gw4) (fun _=>?_)
 replace Qj:=Qj.trans gw4
 clear hK K
 refine rT 17 33 (.bool true) rfl rfl Qj ?_
 simp only [pA,pN,sZ,sU]
 refine rT 18 34 (.bool true) rfl rfl Qj ?_
 simp only [pA,pN,sZ,sU]
 refine rT 19 15 (.bool true) rfl rfl Qj ?_
 simp only [pA,pN,sZ,sU]
 refine wpAnyH_done (by kernel_rfl) ?_ _
 have HP4:=Qh (HP1.out.kept Qj)
 have HT4:=Qh (HT1.out.kept Qj)
 have HK4:=Qh (HK1.out.trans Qj)
 clear Qj
 go_wp2_with (first|(refine wpList_load_ps (by rfl) _ rfl _ rfl _ (HP4.out) ?_)|(refine wpList_load_pb (by rfl) _ rfl _ rfl _ (HP4.out) ?_))
 refine (HPs.out _ HT4.out.tabs).mono ?_
 rintro e w5 ⟨rfl,k5⟩
 have HK5:=Qh (HK4.out.trans k5)
 clear k5
 go_wp2
 go_ret2
 exact ⟨by rw [HV.out.1,HV.out.2];rfl,HK5.out⟩
theorem taken_is (p:Ps) (hB:Brd p.B) (m:Mv) (ho:On m) (w:World) (hT:TabM w) :
  Calls Tryz.prog 112 #[.agg (pl p).toArray,.agg (ml m).toArray] w fun e w'=>e=.returned (.tuple #[.int .i64 (takeS p m),.bool (takeB p m)])∧Kept w w':=by
 by_cases h0:bAt p.B m.t=0
 ·cases h1:pawnB p m
  ·exact taken1 p hB m ho h0 h1 w hT
  ·cases h2:(m.t == p.e)
   ·exact taken2 p hB m ho h0 h1 h2 w hT
   ·cases h3:(m.f % 8 != m.t % 8)
    ·exact taken3 p hB m ho h0 h1 h2 h3 w hT
    ·exact taken4 p hB m ho h0 h1 h2 h3 w hT
 ·exact taken0 p hB m ho h0 w hT
def tcB (m:Mv) (k:Nat):Bool:=((m.f == hKg k) || (m.t == hKg k)) || ((m.f == hRk k) || (m.t == hRk k))
def rtN (c:Int) (m:Mv):Nat→Int
 | 0=>c
 | k+1=>if tcB m k then bits .andNot .i64 (rtN c m k) (hR k) else rtN c m k
theorem rtN_yes {c:Int} {m:Mv} {k:Nat} (h:tcB m k=true):rtN c m (k+1)=bits .andNot .i64 (rtN c m k) (hR k):=by rw [rtN,if_pos h]
theorem rtN_no {c:Int} {m:Mv} {k:Nat} (h:tcB m k=false):rtN c m (k+1)=rtN c m k:=by rw [rtN,if_neg (by rw [h];decide)]
set_option maxHeartbeats 2000000 in
theorem rights_is (p:Ps) (hB:Brd p.B) (m:Mv) (w:World) (hT:TabM w) :
  Calls Tryz.prog 87 #[.agg (pl p).toArray,.agg (ml m).toArray] w fun e w'=>e=.returned (.int .i64 (rtN p.c m 4))∧Kept w w':=by
 have HP:Hid (PAt _ _ p):=⟨hB.1,heap_alloc2_old w (.cells (pl p).toArray 26) (.cells (ml m).toArray 54)⟩
 have HM:Hid (MAt _ _ m):=⟨heap_alloc2_new w (.cells (pl p).toArray 26) (.cells (ml m).toArray 54)⟩
 have HK0:=Qh (((Kept.refl w).alloc (.cells (pl p).toArray 26)).alloc (.cells (ml m).toArray 54))
 have HT:=Qh (hT.kept HK0.out)
 have cc:=HP.out.cas
 clear hB hT
 go_enter Tryz.func87,Tryz.ntmps87
 go_wp2_with (refine wpList_load_mid rfl 124 _ rfl 3 0 rfl wiV _ HT.out.wings.range Tryz.underlying124 rfl size_wings ?_)
 clear cc
 generalize (w.alloc (.cells (pl p).toArray 26)).alloc (.cells (ml m).toArray 54)=W at *
 go_loopw [5,11] (fun t5 t11 wr=>∃ k:Nat,k≤4∧t11=.int .i64 k∧t5=.int .i64 (rtN p.c m k)∧Kept W wr) (fun _ t11 _=>4-(intOf t11).toNat)
 case atStart=>exact ⟨0,by omega,rfl,rfl,Kept.refl _⟩
 case round =>
  obtain ⟨k,hk,rfl,rfl,hK⟩:=hrel
  have HK:=Qh hK
  clear hK
  by_cases hlt:k<4
  ·have hx:=run_index_wi k hlt
   have HA:=Qh (HK.out.alloc (.cells (wl k).toArray 121))
   have HMA:=Qh (MAt.kept HM.out HA.out)
   have HWA:Hid (RAt _ _ (wl k) 121):=⟨heap_alloc_new wr (.cells (wl k).toArray 121)⟩
   have HV:Hid (tcB m k=(((m.f == hKg k) || (m.t == hKg k)) || ((m.f == hRk k) || (m.t == hRk k)))):=by rfl
   have HY:=Qh (@rtN_yes p.c m k)
   have HN:=Qh (@rtN_no p.c m k)
   have HC1:=Qh (mtouches_is m (hKg k))
   have HC2:=Qh (mtouches_is m (hRk k))
   have y1:_=some (Value.int .i64 (hKg k)):=HWA.out.cellK 1
   generalize ((m.f == hKg k) || (m.t == hKg k))=b1 at *
   generalize ((m.f == hRk k) || (m.t == hRk k))=b2 at *
   cases b1
   ·go_wp2_with (first|(with_reducible refine wpList_new_wi rfl rfl ?_)|((with_reducible refine wpList_store_newwi rfl _ _ rfl 4 k ?_ ?_ ?_);exact rfl;exact rfl)|(refine wpList_load_mv (by rfl) _ rfl _ rfl _ HMA.out ?_))
    refine (HC1.out _).mono ?_
    rintro e w2 ⟨rfl,k2⟩
    have HK2:=Qh (HA.out.trans k2)
    have HW2:=Qh (HWA.out.kept k2)
    have HM2:=Qh (MAt.kept HMA.out k2)
    have y2:_=some (Value.int .i64 (hRk k)):=HW2.out.cellK 2
    clear k2 y1
    go_wp2_with (refine wpList_load_mv (by rfl) _ rfl _ rfl _ HM2.out ?_)
    refine (HC2.out _).mono ?_
    rintro e w3 ⟨rfl,k3⟩
    have HK3:=Qh (HK2.out.trans k3)
    have HW3:=Qh (HW2.out.kept k3)
    clear k3 y2
    cases b2
    ·have HE:=Qh (HN.out HV.out)
     go_wp2
     go_roundw
     case rel=>exact ⟨k+1,by omega,by go_num,by rw [HE.out],HK3.out⟩
     case measure=>simp [intOf];omega
    ·have HE:=Qh (HY.out HV.out)
     have y0:_=some (Value.int .i64 (hR k)):=HW3.out.cellK 0
     go_wp2
     go_roundw
     case rel=>exact ⟨k+1,by omega,by go_num,by rw [HE.out],HK3.out⟩
     case measure=>simp [intOf];omega
   ·go_wp2_with (first|(with_reducible refine wpList_new_wi rfl rfl ?_)|((with_reducible refine wpList_store_newwi rfl _ _ rfl 4 k ?_ ?_ ?_);exact rfl;exact rfl)|(refine wpList_load_mv (by rfl) _ rfl _ rfl _ HMA.out ?_))
    refine (HC1.out _).mono ?_
    rintro e w2 ⟨rfl,k2⟩
    have HK2:=Qh (HA.out.trans k2)
    have HW2:=Qh (HWA.out.kept k2)
    have HE:=Qh (HY.out (by rw [HV.out];rfl))
    have y0:_=some (Value.int .i64 (hR k)):=HW2.out.cellK 0
    clear k2 y1
    go_wp2
    go_roundw
    case rel=>exact ⟨k+1,by omega,by go_num,by rw [HE.out],HK2.out⟩
    case measure=>simp [intOf];omega
  ·obtain rfl:k=4:=by omega
   go_wp2
   go_ret
   exact ⟨rfl,HK0.out.trans HK.out⟩
def epI (p:Ps) (m:Mv):Int:=if pawnB p m && (m.f % 8 == m.t % 8) && (farI m.f m.t == 2) then (m.f+m.t) / 2 else -1
set_option maxHeartbeats 2000000 in
theorem ep1 (p:Ps) (hB:Brd p.B) (m:Mv) (ho:On m) (h1:pawnB p m=false) (w:World) :
  Calls Tryz.prog 88 #[.agg (pl p).toArray,.agg (ml m).toArray] w fun e w'=>e=.returned (.int .i64 (epI p m))∧Kept w w':=by
 have HP:Hid (PAt _ _ p):=⟨hB.1,heap_alloc2_old w (.cells (pl p).toArray 26) (.cells (ml m).toArray 54)⟩
 have HM:Hid (MAt _ _ m):=⟨heap_alloc2_new w (.cells (pl p).toArray 26) (.cells (ml m).toArray 54)⟩
 have HK0:=Qh (((Kept.refl w).alloc (.cells (pl p).toArray 26)).alloc (.cells (ml m).toArray 54))
 have hpl:Hid (p.B.length=64):=hB.1
 have HPw:=Qh (fun w=>pawn_is p hB m ho.f0 ho.f1 w)
 rw [h1] at HPw
 have HF1:=Qh (fun w=>file_k m.f w ho.f0 ho.f1)
 have HF2:=Qh (fun w=>file_k m.t w ho.t0 ho.t1)
 have HFr:=Qh (fun w=>far_k m.f m.t w ho.f0 ho.f1 ho.t0 ho.t1)
 have HMd:=Qh (fun w=>mid_is m ho w)
 have HV:Hid (epI p m=-1):=by unfold epI;rw [h1];rfl
 clear hB ho
 go_enter Tryz.func88,Tryz.ntmps88
 go_wp2
 generalize (w.alloc (.cells (pl p).toArray 26)).alloc (.cells (ml m).toArray 54)=W at *
 refine wp_region_held_drew (S:=Kept _) (by kernel_rfl) (Kept.refl _).drew (fun Qj=>?_)
 refine rT 0 6 (.pointer (some ⟨w.heap.size+1,0,none⟩)) rfl rfl Qj ?_
 simp only [pA,pN,sZ,sU]
 refine rC 1 7 (.int .i64 m.f) rfl rfl (fun _ h=>kept_cell h (HM.out.f)) Qj ?_
 simp only [pA,pN,sZ,sU]
 refine rT 3 9 (.pointer (some ⟨w.heap.size+1,1,none⟩)) rfl rfl Qj ?_
 simp only [pA,pN,sZ,sU]
 refine rC 4 10 (.int .i64 m.t) rfl rfl (fun _ h=>kept_cell h (HM.out.t)) Qj ?_
 simp only [pA,pN,sZ,sU]
 refine rR 2 rfl (fun K hK=>?_)
 go_simp
 refine (HF1.out _).mono ?_
 rintro e w1 ⟨rfl,gw1⟩
 refine hK.out _ _ (Qj.trans gw1) (fun _=>?_)
 replace Qj:=Qj.trans gw1
 clear hK K
 refine rR 5 rfl (fun K hK=>?_)
 go_simp
 refine (HF2.out _).mono ?_
 rintro e w2 ⟨rfl,gw2⟩
 refine hK.out _ _ (Qj.trans gw2) (fun _=>?_)
 replace Qj:=Qj.trans gw2
 clear hK K
 refine rT 6 12 (.bool (m.f % 8 == m.t % 8)) rfl rfl Qj ?_
 simp only [pA,pN,sZ,sU]
 refine rT 7 5 (.bool (m.f % 8 == m.t % 8)) rfl rfl Qj ?_
 simp only [pA,pN,sZ,sU]
 refine wpAnyH_done (by kernel_rfl) ?_ _
 have HP2:=Qh (HP.out.kept Qj)
 have HM2:=Qh (MAt.kept HM.out Qj)
 have HK2:=Qh (HK0.out.trans Qj)
 clear Qj
 go_wp2_with (first|(refine wpList_load_ps (by rfl) _ rfl _ rfl _ (HP2.out) ?_)|(refine wpList_load_pb (by rfl) _ rfl _ rfl _ (HP2.out) ?_)|(refine wpList_load_mv (by rfl) _ rfl _ rfl _ (HM2.out) ?_))
 refine (HPw.out _).mono ?_
 rintro e w3 ⟨rfl,k3⟩
 have HM3:=Qh (MAt.kept HM2.out k3)
 have HK3:=Qh (HK2.out.trans k3)
 clear k3
 go_wp2
 go_ret
 exact ⟨by rw [HV.out];rfl,HK3.out⟩
set_option maxHeartbeats 2000000 in
theorem ep2 (p:Ps) (hB:Brd p.B) (m:Mv) (ho:On m) (h1:pawnB p m=true) (h2:(m.f % 8 == m.t % 8)=false) (w:World) :
  Calls Tryz.prog 88 #[.agg (pl p).toArray,.agg (ml m).toArray] w fun e w'=>e=.returned (.int .i64 (epI p m))∧Kept w w':=by
 have HP:Hid (PAt _ _ p):=⟨hB.1,heap_alloc2_old w (.cells (pl p).toArray 26) (.cells (ml m).toArray 54)⟩
 have HM:Hid (MAt _ _ m):=⟨heap_alloc2_new w (.cells (pl p).toArray 26) (.cells (ml m).toArray 54)⟩
 have HK0:=Qh (((Kept.refl w).alloc (.cells (pl p).toArray 26)).alloc (.cells (ml m).toArray 54))
 have hpl:Hid (p.B.length=64):=hB.1
 have HPw:=Qh (fun w=>pawn_is p hB m ho.f0 ho.f1 w)
 rw [h1] at HPw
 have HF1:=Qh (fun w=>file_k m.f w ho.f0 ho.f1)
 have HF2:=Qh (fun w=>file_k m.t w ho.t0 ho.t1)
 have HFr:=Qh (fun w=>far_k m.f m.t w ho.f0 ho.f1 ho.t0 ho.t1)
 have HMd:=Qh (fun w=>mid_is m ho w)
 have HV:Hid (epI p m=-1):=by unfold epI;rw [h1,h2];rfl
 clear hB ho
 go_enter Tryz.func88,Tryz.ntmps88
 go_wp2
 generalize (w.alloc (.cells (pl p).toArray 26)).alloc (.cells (ml m).toArray 54)=W at *
 refine wp_region_held_drew (S:=Kept _) (by kernel_rfl) (Kept.refl _).drew (fun Qj=>?_)
 refine rT 0 6 (.pointer (some ⟨w.heap.size+1,0,none⟩)) rfl rfl Qj ?_
 simp only [pA,pN,sZ,sU]
 refine rC 1 7 (.int .i64 m.f) rfl rfl (fun _ h=>kept_cell h (HM.out.f)) Qj ?_
 simp only [pA,pN,sZ,sU]
 refine rT 3 9 (.pointer (some ⟨w.heap.size+1,1,none⟩)) rfl rfl Qj ?_
 simp only [pA,pN,sZ,sU]
 refine rC 4 10 (.int .i64 m.t) rfl rfl (fun _ h=>kept_cell h (HM.out.t)) Qj ?_
 simp only [pA,pN,sZ,sU]
 refine rR 2 rfl (fun K hK=>?_)
 go_simp
 refine (HF1.out _).mono ?_
 rintro e w1 ⟨rfl,gw1⟩
 refine hK.out _ _ (Qj.trans gw1) (fun _=>?_)
 replace Qj:=Qj.trans gw1
 clear hK K
 refine rR 5 rfl (fun K hK=>?_)
 go_simp
 refine (HF2.out _).mono ?_
 rintro e w2 ⟨rfl,gw2⟩
 refine hK.out _ _ (Qj.trans gw2) (fun _=>?_)
 replace Qj:=Qj.trans gw2
 clear hK K
 refine rT 6 12 (.bool (m.f % 8 == m.t % 8)) rfl rfl Qj ?_
 simp only [pA,pN,sZ,sU]
 refine rT 7 5 (.bool (m.f % 8 == m.t % 8)) rfl rfl Qj ?_
 simp only [pA,pN,sZ,sU]
 refine wpAnyH_done (by kernel_rfl) ?_ _
 have HP2:=Qh (HP.out.kept Qj)
 have HM2:=Qh (MAt.kept HM.out Qj)
 have HK2:=Qh (HK0.out.trans Qj)
 clear Qj
 go_wp2_with (first|(refine wpList_load_ps (by rfl) _ rfl _ rfl _ (HP2.out) ?_)|(refine wpList_load_pb (by rfl) _ rfl _ rfl _ (HP2.out) ?_)|(refine wpList_load_mv (by rfl) _ rfl _ rfl _ (HM2.out) ?_))
 refine (HPw.out _).mono ?_
 rintro e w3 ⟨rfl,k3⟩
 have HM3:=Qh (MAt.kept HM2.out k3)
 have HK3:=Qh (HK2.out.trans k3)
 clear k3
 go_wp2
 go_ret
 exact ⟨by rw [HV.out];rfl,HK3.out⟩
set_option maxHeartbeats 2000000 in
theorem ep3 (p:Ps) (hB:Brd p.B) (m:Mv) (ho:On m) (h1:pawnB p m=true) (h2:(m.f % 8 == m.t % 8)=true) (h3:(farI m.f m.t == 2)=false) (w:World) :
  Calls Tryz.prog 88 #[.agg (pl p).toArray,.agg (ml m).toArray] w fun e w'=>e=.returned (.int .i64 (epI p m))∧Kept w w':=by
 have HP:Hid (PAt _ _ p):=⟨hB.1,heap_alloc2_old w (.cells (pl p).toArray 26) (.cells (ml m).toArray 54)⟩
 have HM:Hid (MAt _ _ m):=⟨heap_alloc2_new w (.cells (pl p).toArray 26) (.cells (ml m).toArray 54)⟩
 have HK0:=Qh (((Kept.refl w).alloc (.cells (pl p).toArray 26)).alloc (.cells (ml m).toArray 54))
 have hpl:Hid (p.B.length=64):=hB.1
 have HPw:=Qh (fun w=>pawn_is p hB m ho.f0 ho.f1 w)
 rw [h1] at HPw
 have HF1:=Qh (fun w=>file_k m.f w ho.f0 ho.f1)
 have HF2:=Qh (fun w=>file_k m.t w ho.t0 ho.t1)
 have HFr:=Qh (fun w=>far_k m.f m.t w ho.f0 ho.f1 ho.t0 ho.t1)
 have HMd:=Qh (fun w=>mid_is m ho w)
 have HV:Hid (epI p m=-1):=by unfold epI;rw [h1,h2,h3];rfl
 generalize farI m.f m.t=fr at *
 clear hB ho
 go_enter Tryz.func88,Tryz.ntmps88
 go_wp2
 generalize (w.alloc (.cells (pl p).toArray 26)).alloc (.cells (ml m).toArray 54)=W at *
 refine wp_region_held_drew (S:=Kept _) (by kernel_rfl) (Kept.refl _).drew (fun Qj=>?_)
 refine rT 0 6 (.pointer (some ⟨w.heap.size+1,0,none⟩)) rfl rfl Qj ?_
 simp only [pA,pN,sZ,sU]
 refine rC 1 7 (.int .i64 m.f) rfl rfl (fun _ h=>kept_cell h (HM.out.f)) Qj ?_
 simp only [pA,pN,sZ,sU]
 refine rT 3 9 (.pointer (some ⟨w.heap.size+1,1,none⟩)) rfl rfl Qj ?_
 simp only [pA,pN,sZ,sU]
 refine rC 4 10 (.int .i64 m.t) rfl rfl (fun _ h=>kept_cell h (HM.out.t)) Qj ?_
 simp only [pA,pN,sZ,sU]
 refine rR 2 rfl (fun K hK=>?_)
 go_simp
 refine (HF1.out _).mono ?_
 rintro e w1 ⟨rfl,gw1⟩
 refine hK.out _ _ (Qj.trans gw1) (fun _=>?_)
 replace Qj:=Qj.trans gw1
 clear hK K
 refine rR 5 rfl (fun K hK=>?_)
 go_simp
 refine (HF2.out _).mono ?_
 rintro e w2 ⟨rfl,gw2⟩
 refine hK.out _ _ (Qj.trans gw2) (fun _=>?_)
 replace Qj:=Qj.trans gw2
 clear hK K
 refine rT 6 12 (.bool (m.f % 8 == m.t % 8)) rfl rfl Qj ?_
 simp only [pA,pN,sZ,sU]
 refine rT 7 5 (.bool (m.f % 8 == m.t % 8)) rfl rfl Qj ?_
 simp only [pA,pN,sZ,sU]
 refine wpAnyH_done (by kernel_rfl) ?_ _
 have HP2:=Qh (HP.out.kept Qj)
 have HM2:=Qh (MAt.kept HM.out Qj)
 have HK2:=Qh (HK0.out.trans Qj)
 clear Qj
 go_wp2_with (first|(refine wpList_load_ps (by rfl) _ rfl _ rfl _ (HP2.out) ?_)|(refine wpList_load_pb (by rfl) _ rfl _ rfl _ (HP2.out) ?_)|(refine wpList_load_mv (by rfl) _ rfl _ rfl _ (HM2.out) ?_))
 refine (HPw.out _).mono ?_
 rintro e w3 ⟨rfl,k3⟩
 have HM3:=Qh (MAt.kept HM2.out k3)
 have HK3:=Qh (HK2.out.trans k3)
 clear k3
 have cf:=HM3.out.f
 have ct:=HM3.out.t
 go_wp2_with fail
 refine (HFr.out _).mono ?_
 rintro e w4 ⟨rfl,k4⟩
 have HM4:=Qh (MAt.kept HM3.out k4)
 have HK4:=Qh (HK3.out.trans k4)
 clear k4 cf ct
 go_wp2
 go_ret
 exact ⟨by rw [HV.out];rfl,HK4.out⟩
set_option maxHeartbeats 2000000 in
theorem ep4 (p:Ps) (hB:Brd p.B) (m:Mv) (ho:On m) (h1:pawnB p m=true) (h2:(m.f % 8 == m.t % 8)=true) (h3:(farI m.f m.t == 2)=true) (w:World) :
  Calls Tryz.prog 88 #[.agg (pl p).toArray,.agg (ml m).toArray] w fun e w'=>e=.returned (.int .i64 (epI p m))∧Kept w w':=by
 have HP:Hid (PAt _ _ p):=⟨hB.1,heap_alloc2_old w (.cells (pl p).toArray 26) (.cells (ml m).toArray 54)⟩
 have HM:Hid (MAt _ _ m):=⟨heap_alloc2_new w (.cells (pl p).toArray 26) (.cells (ml m).toArray 54)⟩
 have HK0:=Qh (((Kept.refl w).alloc (.cells (pl p).toArray 26)).alloc (.cells (ml m).toArray 54))
 have hpl:Hid (p.B.length=64):=hB.1
 have HPw:=Qh (fun w=>pawn_is p hB m ho.f0 ho.f1 w)
 rw [h1] at HPw
 have HF1:=Qh (fun w=>file_k m.f w ho.f0 ho.f1)
 have HF2:=Qh (fun w=>file_k m.t w ho.t0 ho.t1)
 have HFr:=Qh (fun w=>far_k m.f m.t w ho.f0 ho.f1 ho.t0 ho.t1)
 have HMd:=Qh (fun w=>mid_is m ho w)
 have HV:Hid (epI p m=(m.f+m.t) / 2):=by unfold epI;rw [h1,h2,h3];rfl
 generalize farI m.f m.t=fr at *
 clear hB ho
 go_enter Tryz.func88,Tryz.ntmps88
 go_wp2
 generalize (w.alloc (.cells (pl p).toArray 26)).alloc (.cells (ml m).toArray 54)=W at *
 refine wp_region_held_drew (S:=Kept _) (by kernel_rfl) (Kept.refl _).drew (fun Qj=>?_)
 refine rT 0 6 (.pointer (some ⟨w.heap.size+1,0,none⟩)) rfl rfl Qj ?_
 simp only [pA,pN,sZ,sU]
 refine rC 1 7 (.int .i64 m.f) rfl rfl (fun _ h=>kept_cell h (HM.out.f)) Qj ?_
 simp only [pA,pN,sZ,sU]
 refine rT 3 9 (.pointer (some ⟨w.heap.size+1,1,none⟩)) rfl rfl Qj ?_
 simp only [pA,pN,sZ,sU]
 refine rC 4 10 (.int .i64 m.t) rfl rfl (fun _ h=>kept_cell h (HM.out.t)) Qj ?_
 simp only [pA,pN,sZ,sU]
 refine rR 2 rfl (fun K hK=>?_)
 go_simp
 refine (HF1.out _).mono ?_
 rintro e w1 ⟨rfl,gw1⟩
 refine hK.out _ _ (Qj.trans gw1) (fun _=>?_)
 replace Qj:=Qj.trans gw1
 clear hK K
 refine rR 5 rfl (fun K hK=>?_)
 go_simp
 refine (HF2.out _).mono ?_
 rintro e w2 ⟨rfl,gw2⟩
 refine hK.out _ _ (Qj.trans gw2) (fun _=>?_)
 replace Qj:=Qj.trans gw2
 clear hK K
 refine rT 6 12 (.bool (m.f % 8 == m.t % 8)) rfl rfl Qj ?_
 simp only [pA,pN,sZ,sU]
 refine rT 7 5 (.bool (m.f % 8 == m.t % 8)) rfl rfl Qj ?_
 simp only [pA,pN,sZ,sU]
 refine wpAnyH_done (by kernel_rfl) ?_ _
 have HP2:=Qh (HP.out.kept Qj)
 have HM2:=Qh (MAt.kept HM.out Qj)
 have HK2:=Qh (HK0.out.trans Qj)
 clear Qj
 go_wp2_with (first|(refine wpList_load_ps (by rfl) _ rfl _ rfl _ (HP2.out) ?_)|(refine wpList_load_pb (by rfl) _ rfl _ rfl _ (HP2.out) ?_)|(refine wpList_load_mv (by rfl) _ rfl _ rfl _ (HM2.out) ?_))
 refine (HPw.out _).mono ?_
 rintro e w3 ⟨rfl,k3⟩
 have HM3:=Qh (MAt.kept HM2.out k3)
 have HK3:=Qh (HK2.out.trans k3)
 clear k3
 have cf:=HM3.out.f
 have ct:=HM3.out.t
 go_wp2_with fail
 refine (HFr.out _).mono ?_
 rintro e w4 ⟨rfl,k4⟩
 have HM4:=Qh (MAt.kept HM3.out k4)
 have HK4:=Qh (HK3.out.trans k4)
 clear k4 cf ct
 go_wp2_with (refine wpList_load_mv (by rfl) _ rfl _ rfl _ HM4.out ?_)
 refine (HMd.out _).mono ?_
 rintro e w5 ⟨rfl,k5⟩
 have HK5:=Qh (HK4.out.trans k5)
 clear k5
 go_wp2
 go_ret
 exact ⟨by rw [HV.out];rfl,HK5.out⟩
theorem epb_is (p:Ps) (hB:Brd p.B) (m:Mv) (ho:On m) (w:World) :
  Calls Tryz.prog 88 #[.agg (pl p).toArray,.agg (ml m).toArray] w fun e w'=>e=.returned (.int .i64 (epI p m))∧Kept w w':=by
 cases h1:pawnB p m
 ·exact ep1 p hB m ho h1 w
 ·cases h2:(m.f % 8 == m.t % 8)
  ·exact ep2 p hB m ho h1 h2 w
  ·cases h3:(farI m.f m.t == 2)
   ·exact ep3 p hB m ho h1 h2 h3 w
   ·exact ep4 p hB m ho h1 h2 h3 w
end Go.Proofs.YtijkemnhehbchaaGreatDoor
