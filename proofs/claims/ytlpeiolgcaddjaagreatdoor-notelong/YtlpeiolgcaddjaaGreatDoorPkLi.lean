/- LeI: my texts, in their order. -/
import Derived.Test.YtlpeiolgcaddjaaGreatDoorPkLh
import Derived.Test.YtlpeiolgcaddjaaGreatDoorPkM
import Derived.Test.YtlpeiolgcaddjaaGreatDoorPkR
namespace Go.Proofs.YtlpeiolgcaddjaaGreatDoor
open Go.RowKit
set_option linter.unusedVariables false
set_option linter.unusedSimpArgs false
set_option maxRecDepth 100000
def playP (p:Ps) (m:Mv):Ps:=if pwI p≠0 then Zp else if legB p m then behP p m else Zp
def playE (p:Ps) (m:Mv):Int:=if pwI p≠0 then pwI p else if legB p m then 0 else 5
theorem playP_in {p:Ps} {m:Mv} (h:pwI p=0):playP p m=if legB p m then behP p m else Zp:=by unfold playP;rw [if_neg (show ¬ pwI p≠0 by omega)]
theorem playE_in {p:Ps} {m:Mv} (h:pwI p=0):playE p m=if legB p m then 0 else 5:=by unfold playE;rw [if_neg (show ¬ pwI p≠0 by omega)]
set_option maxHeartbeats 2000000 in
theorem play_nil (p:Ps) (hB:Brd p.B) (m:Mv) (w:World) :
  Calls Tryz.prog 23 #[.pointer none,.agg (pl p).toArray,.agg (ml m).toArray] w (RetPE w Zp 14):=by
 have HP:Hid (PAt _ _ p):=⟨hB.1,heap_alloc2_old w (.cells (pl p).toArray 26) (.cells (ml m).toArray 28)⟩;have HM:Hid (MAt _ _ m):=⟨heap_alloc2_new w (.cells (pl p).toArray 26) (.cells (ml m).toArray 28)⟩;have HK0:=Qh (((Kept.refl w).alloc (.cells (pl p).toArray 26)).alloc (.cells (ml m).toArray 28));have HK1:=Qh (HK0.out.alloc (.cells (pl Zp).toArray 26));have HR1:Hid (PAt _ _ Zp):=PAt.new ((w.alloc (.cells (pl p).toArray 26)).alloc (.cells (ml m).toArray 28)) Yy;have hsz:((w.alloc (.cells (pl p).toArray 26)).alloc (.cells (ml m).toArray 28)).heap.size=w.heap.size+2:=by simp
 rw [hsz] at HR1;clear hB HP HM HK0 hsz;go_enter Tryz.func23,Tryz.ntmps23;go_wp2_with (first|(with_reducible refine Qy rfl rfl ?_)|(refine wpList_built_p0 (by rfl) rfl ?_)|(refine Yd rfl _ _ rfl (w.heap.size+2) Zp Zp HR1.out Yy rfl rfl ?_))
 refine bodyPost_ret (v:=.tuple #[.agg (pl Zp).toArray,.int .i64 14]) ?_ rfl ⟨rfl,HK1.out.setRow (by omega) _⟩;exact (Jw (s:=6) (t:=7) rfl _ rfl (HR1.out.setRow Yy)).trans rfl
set_option maxHeartbeats 2000000 in
theorem play_wrong (r:Nat) (p:Ps) (hB:Brd p.B) (m:Mv) (h:pwI p≠0) (w:World) (hT:TabG w) :
  Calls Tryz.prog 23 #[.pointer (some ⟨r,0,none⟩),.agg (pl p).toArray,.agg (ml m).toArray] w (RetPE w Zp (pwI p)):=by
 have HP:Hid (PAt _ _ p):=⟨hB.1,heap_alloc2_old w (.cells (pl p).toArray 26) (.cells (ml m).toArray 28)⟩;have HM:Hid (MAt _ _ m):=⟨heap_alloc2_new w (.cells (pl p).toArray 26) (.cells (ml m).toArray 28)⟩;have HK0:=Qh (((Kept.refl w).alloc (.cells (pl p).toArray 26)).alloc (.cells (ml m).toArray 28));have HK1:=Qh (HK0.out.alloc (.cells (pl Zp).toArray 26));have HP1:=Qh (HP.out.kept ((Kept.refl _).alloc (.cells (pl Zp).toArray 26)));have HR1:Hid (PAt _ _ Zp):=PAt.new ((w.alloc (.cells (pl p).toArray 26)).alloc (.cells (ml m).toArray 28)) Yy;have hsz:((w.alloc (.cells (pl p).toArray 26)).alloc (.cells (ml m).toArray 28)).heap.size=w.heap.size+2:=by simp
 rw [hsz] at HR1;have HT:=Qh (hT.kept HK1.out);have HC:=Qh (fun w h=>Jx p hB w h);have hv':(pwI p != 0)=true:=bne_iff_ne.2 h;generalize pwI p=v at *;clear hB hT h HP HM HK0 hsz;go_enter Tryz.func23,Tryz.ntmps23;go_wp2_with (first|(with_reducible refine Qy rfl rfl ?_)|(refine Qc (by rfl) _ rfl _ rfl _ HP1.out ?_))
 refine (HC.out _ HT.out.tabm.tabs).mono ?_;rintro e w1 ⟨rfl,k1⟩;have HK2:=Qh (HK1.out.trans k1);have HR2:=Qh (HR1.out.kept k1);clear k1;go_wp2_with (first|(refine wpList_built_p0 (by rfl) rfl ?_)|(refine Yd rfl _ _ rfl (w.heap.size+2) Zp Zp HR2.out Yy rfl rfl ?_))
 refine bodyPost_ret (v:=.tuple #[.agg (pl Zp).toArray,.int .i64 v]) ?_ rfl ⟨rfl,HK2.out.setRow (by omega) _⟩;exact (Jw (s:=6) (t:=7) rfl _ rfl (HR2.out.setRow Yy)).trans rfl
set_option maxHeartbeats 2000000 in
theorem play_no (r g:Nat) (a b:Addr) (p:Ps) (hB:Brd p.B) (m:Mv) (h:pwI p=0) (hl:legA p m=false) (w:World) (hT:TabG w) (hR:RuAt w r g a b) :
  Calls Tryz.prog 23 #[.pointer (some ⟨r,0,none⟩),.agg (pl p).toArray,.agg (ml m).toArray] w (RetPE w Zp 5):=by
 have HP:Hid (PAt _ _ p):=⟨hB.1,heap_alloc2_old w (.cells (pl p).toArray 26) (.cells (ml m).toArray 28)⟩;have HM:Hid (MAt _ _ m):=⟨heap_alloc2_new w (.cells (pl p).toArray 26) (.cells (ml m).toArray 28)⟩;have HK0:=Qh (((Kept.refl w).alloc (.cells (pl p).toArray 26)).alloc (.cells (ml m).toArray 28));have HK1:=Qh (HK0.out.alloc (.cells (pl Zp).toArray 26));have HP1:=Qh (HP.out.kept ((Kept.refl _).alloc (.cells (pl Zp).toArray 26)));have HM1:=Qh (MAt.kept HM.out ((Kept.refl _).alloc (.cells (pl Zp).toArray 26)));have HR1:Hid (PAt _ _ Zp):=PAt.new ((w.alloc (.cells (pl p).toArray 26)).alloc (.cells (ml m).toArray 28)) Yy;have hsz:((w.alloc (.cells (pl p).toArray 26)).alloc (.cells (ml m).toArray 28)).heap.size=w.heap.size+2:=by simp
 rw [hsz] at HR1;have HT:=Qh (hT.kept HK1.out);have HRu:=Qh (hR.kept HK1.out);have HC:=Qh (fun w h=>Jx p hB w h);have HL:=Qh (fun w hT hR=>legal_is r g a b p hB m w hT hR);rw [h] at HC;rw [hl] at HL;clear hB hT hR h HP HM HK0 hsz hl;go_enter Tryz.func23,Tryz.ntmps23;go_wp2_with (first|(with_reducible refine Qy rfl rfl ?_)|(refine Qc (by rfl) _ rfl _ rfl _ HP1.out ?_))
 refine (HC.out _ HT.out.tabm.tabs).mono ?_;rintro e w1 ⟨rfl,k1⟩;have HK2:=Qh (HK1.out.trans k1);have HR2:=Qh (HR1.out.kept k1);have HP2:=Qh (HP1.out.kept k1);have HM2:=Qh (MAt.kept HM1.out k1);have HT2:=Qh (HT.out.kept k1);have HRu2:=Qh (HRu.out.kept k1);clear k1;go_wp2_with (first|(refine Qc (by rfl) _ rfl _ rfl _ (HP2.out) ?_)|(refine Qd (by rfl) _ rfl _ rfl _ (HP2.out) ?_)|(refine Qe (by rfl) _ rfl _ rfl _ (HM2.out) ?_))
 refine (HL.out _ HT2.out HRu2.out).mono ?_;rintro e w2 ⟨rfl,k2⟩;have HK3:=Qh (HK2.out.trans k2);have HR3:=Qh (HR2.out.kept k2);clear k2;go_wp2_with (first|(refine wpList_built_p0 (by rfl) rfl ?_)|(refine Yd rfl _ _ rfl (w.heap.size+2) Zp Zp HR3.out Yy rfl rfl ?_))
 refine bodyPost_ret (v:=.tuple #[.agg (pl Zp).toArray,.int .i64 5]) ?_ rfl ⟨rfl,HK3.out.setRow (by omega) _⟩;exact (Jw (s:=6) (t:=7) rfl _ rfl (HR3.out.setRow Yy)).trans rfl
set_option maxHeartbeats 2000000 in
theorem play_yes (r g:Nat) (a b:Addr) (p:Ps) (hB:Brd p.B) (m:Mv) (h:pwI p=0) (hl:legA p m=true) (hok:okM p m=true) (w:World) (hT:TabG w) (hR:RuAt w r g a b) :
  Calls Tryz.prog 23 #[.pointer (some ⟨r,0,none⟩),.agg (pl p).toArray,.agg (ml m).toArray] w (RetPE w (behP p m) 0):=by
 have HP:Hid (PAt _ _ p):=⟨hB.1,heap_alloc2_old w (.cells (pl p).toArray 26) (.cells (ml m).toArray 28)⟩;have HM:Hid (MAt _ _ m):=⟨heap_alloc2_new w (.cells (pl p).toArray 26) (.cells (ml m).toArray 28)⟩;have HK0:=Qh (((Kept.refl w).alloc (.cells (pl p).toArray 26)).alloc (.cells (ml m).toArray 28));have HK1:=Qh (HK0.out.alloc (.cells (pl Zp).toArray 26));have HP1:=Qh (HP.out.kept ((Kept.refl _).alloc (.cells (pl Zp).toArray 26)));have HM1:=Qh (MAt.kept HM.out ((Kept.refl _).alloc (.cells (pl Zp).toArray 26)));have HR1:Hid (PAt _ _ Zp):=PAt.new ((w.alloc (.cells (pl p).toArray 26)).alloc (.cells (ml m).toArray 28)) Yy;have hsz:((w.alloc (.cells (pl p).toArray 26)).alloc (.cells (ml m).toArray 28)).heap.size=w.heap.size+2:=by simp
 rw [hsz] at HR1;have HT:=Qh (hT.kept HK1.out);have HRu:=Qh (hR.kept HK1.out);have HC:=Qh (fun w h=>Jx p hB w h);have HL:=Qh (fun w hT hR=>legal_is r g a b p hB m w hT hR);have HMk:=Qh (fun w hw=>make_yes p hB m hok w hw);have hql:Hid ((behP p m).B.length=64):=behB_len hB.1;rw [h] at HC;rw [hl] at HL;generalize behP p m=q at *;clear hB hT hR h HP HM HK0 hsz hl hok;go_enter Tryz.func23,Tryz.ntmps23;go_wp2_with (first|(with_reducible refine Qy rfl rfl ?_)|(refine Qc (by rfl) _ rfl _ rfl _ HP1.out ?_))
 refine (HC.out _ HT.out.tabm.tabs).mono ?_;rintro e w1 ⟨rfl,k1⟩;have HK2:=Qh (HK1.out.trans k1);have HR2:=Qh (HR1.out.kept k1);have HP2:=Qh (HP1.out.kept k1);have HM2:=Qh (MAt.kept HM1.out k1);have HT2:=Qh (HT.out.kept k1);have HRu2:=Qh (HRu.out.kept k1);clear k1;go_wp2_with (first|(refine Qc (by rfl) _ rfl _ rfl _ (HP2.out) ?_)|(refine Qd (by rfl) _ rfl _ rfl _ (HP2.out) ?_)|(refine Qe (by rfl) _ rfl _ rfl _ (HM2.out) ?_))
 refine (HL.out _ HT2.out HRu2.out).mono ?_;rintro e w2 ⟨rfl,k2⟩;have HK3:=Qh (HK2.out.trans k2);have HR3:=Qh (HR2.out.kept k2);have HP3:=Qh (HP2.out.kept k2);have HM3:=Qh (MAt.kept HM2.out k2);have HT3:=Qh (HT2.out.kept k2);clear k2;go_wp2_with (first|(refine Qc (by rfl) _ rfl _ rfl _ (HP3.out) ?_)|(refine Qd (by rfl) _ rfl _ rfl _ (HP3.out) ?_)|(refine Qe (by rfl) _ rfl _ rfl _ (HM3.out) ?_))
 refine (HMk.out _ HT3.out.tabm).mono ?_;rintro e w3 ⟨rfl,k3⟩;have HK4:=Qh (HK3.out.trans k3);have HR4:=Qh (HR3.out.kept k3);clear k3;go_wp2_with (refine Yd rfl _ _ rfl (w.heap.size+2) Zp q HR4.out hql.out rfl rfl ?_)
 refine bodyPost_ret (v:=.tuple #[.agg (pl q).toArray,.int .i64 0]) ?_ rfl ⟨rfl,HK4.out.setRow (by omega) _⟩;exact (Jw (s:=6) (t:=7) rfl _ rfl (HR4.out.setRow hql.out)).trans rfl
theorem play_is (r g:Nat) (a b:Addr) (p:Ps) (hB:Brd p.B) (m:Mv) (w:World) (hT:TabG w) (hR:RuAt w r g a b) :
  Calls Tryz.prog 23 #[.pointer (some ⟨r,0,none⟩),.agg (pl p).toArray,.agg (ml m).toArray] w (RetPE w (playP p m) (playE p m)):=by
 by_cases h:pwI p=0
 ·rw [playP_in h,playE_in h]
  have hA:legA p m=legB p m:=by unfold legA;rw [h];rfl
  cases hl:legB p m
  ·rw [hl] at hA
   exact play_no r g a b p hB m h hA w hT hR
  ·rw [hl] at hA
   exact play_yes r g a b p hB m h hA (Yg hB h hl).2.2 w hT hR
 ·have eP:playP p m=Zp:=by unfold playP;rw [if_pos h]
  have eE:playE p m=pwI p:=by unfold playE;rw [if_pos h]
  rw [eP,eE];exact play_wrong r p hB m h w hT
end Go.Proofs.YtlpeiolgcaddjaaGreatDoor
