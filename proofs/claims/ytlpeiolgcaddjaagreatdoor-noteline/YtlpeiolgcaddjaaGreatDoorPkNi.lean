/- NoI: my texts, in their order. -/
import Derived.Test.YtlpeiolgcaddjaaGreatDoorPkA
import Derived.Test.YtlpeiolgcaddjaaGreatDoorPkF
import Derived.Test.YtlpeiolgcaddjaaGreatDoorPkLh
import Derived.Test.YtlpeiolgcaddjaaGreatDoorPkLi
import Derived.Test.YtlpeiolgcaddjaaGreatDoorPkLj
import Derived.Test.YtlpeiolgcaddjaaGreatDoorPkNa
import Derived.Test.YtlpeiolgcaddjaaGreatDoorPkNd
import Derived.Test.YtlpeiolgcaddjaaGreatDoorPkNf
import Derived.Test.YtlpeiolgcaddjaaGreatDoorPkV
namespace Go.Proofs.YtlpeiolgcaddjaaGreatDoor
open Go.RowKit
set_option linter.unusedVariables false
set_option linter.unusedSimpArgs false
set_option maxRecDepth 100000
theorem riv_first:∀ f:Fin 64,(goesM Fp ⟨(f:Nat),21,0⟩ && (((f:Nat):Int) != 6) && (kdI Fp ⟨(f:Nat),21,0⟩ == 2))=false:=by decide +kernel
theorem leg_nf3:legB Fp ⟨6,21,0⟩=true:=by decide +kernel
theorem leg_e4:legB Fp ⟨12,28,0⟩=true:=by decide +kernel
theorem riv_nf3:rivL Fp ⟨6,21,0⟩ (legL Fp)=[]:=by
 unfold rivL;rw [List.map_eq_nil_iff,List.filter_eq_nil_iff];intro n hn h;obtain ⟨_,_,hok⟩:=Yg Fp_brd Fp_ok ((Qai (Qt Fp_ok).1).1 hn);obtain ⟨f,t,F⟩:=Yt Fp_brd hok;have hg:goesM Fp n=true:=by have:=(Qai (Qt Fp_ok).1).1 hn;unfold legB at this;rw [Bool.and_eq_true] at this;exact this.1
 unfold rivB at h;rw [Bool.and_eq_true,Bool.and_eq_true,beq_iff_eq,beq_iff_eq,bne_iff_ne,show kdI Fp ⟨6,21,0⟩=2 by decide +kernel] at h;obtain ⟨⟨h1,h2⟩,h3⟩:=h;have hp:=promo_none F (by rw [h3];decide);have hn':n=⟨(f:Int),21,0⟩:=mv_ext F.hf h1 hp;have:=riv_first ⟨f,F.f1⟩;dsimp only at this;rw [← hn',hg,h3] at this;have h2':((f:Int) != 6)=true:=by rw [bne_iff_ne];intro e;exact h2 (by rw [F.hf];exact e)
 rw [h2'] at this;exact absurd this (by decide)
theorem nt_nf3:ntB Fp ⟨6,21,0⟩=⟨#[78,102,51]⟩:=by
 have ha:Yh Fp ⟨6,21,0⟩ (legL Fp)=⟨#[]⟩:=by unfold Yh;rw [if_neg (by decide +kernel),riv_nf3];rfl
 have hm:markB (behP Fp ⟨6,21,0⟩)=⟨#[]⟩:=by unfold markB;rw [if_neg (by decide +kernel)]
 unfold ntB shB;rw [ha,hm];decide +kernel
theorem nt_e4:ntB Fp ⟨12,28,0⟩=⟨#[101,52]⟩:=by
 have ha:Yh Fp ⟨12,28,0⟩ (legL Fp)=⟨#[]⟩:=by unfold Yh;rw [if_pos (by decide +kernel),if_neg (by decide +kernel)]
 have hm:markB (behP Fp ⟨12,28,0⟩)=⟨#[]⟩:=by unfold markB;rw [if_neg (by decide +kernel)]
 unfold ntB shB;rw [ha,hm];decide +kernel
theorem Qaq (w:World) (hT:TabG w):Calls Tryz.prog 8 #[] w fun e w'=>e=.returned (.bool true)∧Kept w w':=by
 have HT:=Qh hT;have HA:=Qh (fun w hT=>nshort_yes Fp Fp_brd ⟨6,21,0⟩ Fp_ok leg_nf3 w hT);have HB:=Qh (fun w hT=>nshort_yes Fp Fp_brd ⟨12,28,0⟩ Fp_ok leg_e4 w hT);rw [nt_nf3] at HA;rw [nt_e4] at HB;clear hT;go_enter Tryz.func8,Tryz.ntmps8;go_wp2_with fail
 refine (pfirst_is _).mono ?_;rintro e w1 ⟨rfl,k1⟩;have HK1:=Qh k1;clear k1;go_wp2_with (refine Jm rfl _ _ rfl 6 21 rfl rfl ?_)
 refine (HA.out _ (HT.out.kept HK1.out)).mono ?_;rintro e w2 ⟨rfl,k2⟩;have HK2:=Qh (HK1.out.trans k2);clear k2;go_wp2_with fail
 refine (pfirst_is _).mono ?_;rintro e w3 ⟨rfl,k3⟩;have HK3:=Qh (HK2.out.trans k3);clear k3;go_wp2_with (refine Jm rfl _ _ rfl 12 28 rfl rfl ?_)
 refine (HB.out _ (HT.out.kept HK3.out)).mono ?_;rintro e w4 ⟨rfl,k4⟩;have HK4:=Qh (HK3.out.trans k4);clear k4;go_wp2;go_ret;exact ⟨rfl,HK4.out⟩
end Go.Proofs.YtlpeiolgcaddjaaGreatDoor
