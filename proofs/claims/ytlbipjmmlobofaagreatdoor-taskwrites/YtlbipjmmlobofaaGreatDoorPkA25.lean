/- TsW · TyA · TyB · TyC: my texts, in their order. -/
import Derived.Test.YtlbipjmmlobofaaGreatDoorPkA16
import Derived.Test.YtlbipjmmlobofaaGreatDoorPkA20
import Derived.Test.YtlbipjmmlobofaaGreatDoorPkA21
import Derived.Test.YtlbipjmmlobofaaGreatDoorPkA24
import Derived.Laws.IdiomStrings
namespace Go.Proofs.YtlbipjmmlobofaaGreatDoor
open Go.RowKit
set_option linter.unusedVariables false
set_option linter.unusedSimpArgs false
set_option maxRecDepth 100000
set_option maxHeartbeats 16000000

theorem txK_rd {K:Tk} (hB:Brd K.B) (h:okK K=true):rdz fsL rlL (bs (txK K))=((txK K).size,0)∧rdK (txK K)=K:=by
 have h':=h
 unfold okK at h'
 simp only [Bool.and_eq_true] at h'
 obtain ⟨hb,hs,hw⟩:=h'
 refine rd_all ?_
 rw [txK_bs]
 exact tk_rd fsL rlL 0 (by omega) (writeT K.B) K (writeT_10 (right_all hB.1 hb)) (fsF_is (writeT_reads hB.1 hb)) (okK_T h) (sp_rd hs)
theorem txK_size (K:Tk):(txK K).size=(txR 0 (writeT K.B) K).length:=by rw [← txK_bs,bs_len]
theorem txK_small {K:Tk} (h:okK K=true):(txK K).size≤600:=by
 rw [txK_size]
 refine txR_len K (okK_T h) ?_
 unfold okK at h
 simp only [Bool.and_eq_true] at h
 exact h.2.1
set_option maxHeartbeats 16000000

theorem rrk_b_K (K:Tk) (hB:Brd K.B) (hb:rightB K.B=false) (w:World):Calls Tryz.prog 19 #[kv K] w fun e w'=>e=.returned (.bool (okK K))∧Kept w w':=by
 have H1:=Qh (KAt.new w hB.1)
 have K1:=Qh ((Kept.refl w).alloc (.cells (kcl K).toArray 30))
 have HPL:Hid ((pk K).B.length=64):=Qh hB.1
 have HLB:Hid (K.B.length=64):=Qh hB.1
 have HF:=Qh (fun w=>rright_is K.B hB w)
 have HST:=Qh (fun w=>rright_q K.s w)
 have HNO:=Qh (okW_ff K)
 have HOK:=Qh (okW_iff K)
 have HE:Hid (okK K=false):=Qh (by unfold okK;rw [hb];rfl)
 rw [hb] at HF
 clear hb hB
 obtain ⟨B,tu,ca,ep,s,ty,se,mx,re⟩:=K
 dsimp only at *
 go_enter Tryz.func19,Tryz.ntmps19
 go_upto_region 1 with (refine wpList_box_k rfl _ rfl ⟨B,tu,ca,ep,s,ty,se,mx,re⟩ rfl ?_)
 generalize w.alloc (.cells (kcl ⟨B,tu,ca,ep,s,ty,se,mx,re⟩).toArray 30)=W1 at *
 generalize w.heap.size=g1 at *
 have HP:=Qh (PAt.new W1 HPL.out)
 have K2:=Qh (K1.out.alloc (.cells (pl (pk ⟨B,tu,ca,ep,s,ty,se,mx,re⟩)).toArray 26))
 have H2:=Qh (H1.out.heap ((Kept.refl W1).alloc (.cells (pl (pk ⟨B,tu,ca,ep,s,ty,se,mx,re⟩)).toArray 26)))
 go_upto_region 2 with (first|(refine wpList_load_midw (by rfl) 26 _ rfl g1 0 rfl (pl (pk ⟨B,tu,ca,ep,s,ty,se,mx,re⟩)) _ H1.out.pos Tryz.underlying26 rfl (by rw [sizeP,pl_length HPL.out]) ?_)|(with_reducible refine wpList_new_p rfl rfl ?_)|(refine wpList_store_newp rfl _ _ rfl Zp (pk ⟨B,tu,ca,ep,s,ty,se,mx,re⟩) Zp_len HPL.out rfl rfl ?_))
 generalize W1.alloc (.cells (pl (pk ⟨B,tu,ca,ep,s,ty,se,mx,re⟩)).toArray 26)=W2 at *
 generalize W1.heap.size=g2 at *
 go_wp2_with (refine wpList_load_midw (by rfl) 24 _ rfl g2 0 rfl (cl B) _ HP.out.rangeB Tryz.underlying24 rfl (by rw [size24,cl_length,HLB.out]) ?_)
 refine (HF.out _).mono ?_
 rintro e w3 ⟨rfl,k3⟩
 have K3:=Qh (K2.out.trans k3)
 have H3:=Qh (H2.out.heap k3)
 have HP3:=Qh (HP.out.kept k3)
 clear k3
 go_wp2
 go_ret
 exact ⟨by rw [HE.out];first|done|rfl|exact congrArg (fun b=>Ending.returned (Value.bool b)) (by first|(rw [decide_eq_true_iff];omega)|(rw [decide_eq_false_iff_not];omega)),K3.out⟩
theorem rrk_s_K (K:Tk) (hB:Brd K.B) (hb:rightB K.B=true) (hs:okSt K.s=false) (w:World):Calls Tryz.prog 19 #[kv K] w fun e w'=>e=.returned (.bool (okK K))∧Kept w w':=by
 have H1:=Qh (KAt.new w hB.1)
 have K1:=Qh ((Kept.refl w).alloc (.cells (kcl K).toArray 30))
 have HPL:Hid ((pk K).B.length=64):=Qh hB.1
 have HLB:Hid (K.B.length=64):=Qh hB.1
 have HF:=Qh (fun w=>rright_is K.B hB w)
 have HST:=Qh (fun w=>rright_q K.s w)
 have HNO:=Qh (okW_ff K)
 have HOK:=Qh (okW_iff K)
 have HE:Hid (okK K=false):=Qh (by unfold okK;rw [hb,hs];rfl)
 rw [hb] at HF
 rw [hs] at HST
 clear hb hB hs
 obtain ⟨B,tu,ca,ep,s,ty,se,mx,re⟩:=K
 dsimp only at *
 go_enter Tryz.func19,Tryz.ntmps19
 go_upto_region 1 with (refine wpList_box_k rfl _ rfl ⟨B,tu,ca,ep,s,ty,se,mx,re⟩ rfl ?_)
 generalize w.alloc (.cells (kcl ⟨B,tu,ca,ep,s,ty,se,mx,re⟩).toArray 30)=W1 at *
 generalize w.heap.size=g1 at *
 have HP:=Qh (PAt.new W1 HPL.out)
 have K2:=Qh (K1.out.alloc (.cells (pl (pk ⟨B,tu,ca,ep,s,ty,se,mx,re⟩)).toArray 26))
 have H2:=Qh (H1.out.heap ((Kept.refl W1).alloc (.cells (pl (pk ⟨B,tu,ca,ep,s,ty,se,mx,re⟩)).toArray 26)))
 go_upto_region 2 with (first|(refine wpList_load_midw (by rfl) 26 _ rfl g1 0 rfl (pl (pk ⟨B,tu,ca,ep,s,ty,se,mx,re⟩)) _ H1.out.pos Tryz.underlying26 rfl (by rw [sizeP,pl_length HPL.out]) ?_)|(with_reducible refine wpList_new_p rfl rfl ?_)|(refine wpList_store_newp rfl _ _ rfl Zp (pk ⟨B,tu,ca,ep,s,ty,se,mx,re⟩) Zp_len HPL.out rfl rfl ?_))
 generalize W1.alloc (.cells (pl (pk ⟨B,tu,ca,ep,s,ty,se,mx,re⟩)).toArray 26)=W2 at *
 generalize W1.heap.size=g2 at *
 go_wp2_with (refine wpList_load_midw (by rfl) 24 _ rfl g2 0 rfl (cl B) _ HP.out.rangeB Tryz.underlying24 rfl (by rw [size24,cl_length,HLB.out]) ?_)
 refine (HF.out _).mono ?_
 rintro e w3 ⟨rfl,k3⟩
 have K3:=Qh (K2.out.trans k3)
 have H3:=Qh (H2.out.heap k3)
 have HP3:=Qh (HP.out.kept k3)
 clear k3
 go_wp2_with ((with_reducible refine wpList_load_q rfl _ rfl g1 67 ?_ s H3.out.stip ?_);exact rfl)
 refine (HST.out _).mono ?_
 rintro e w4 ⟨rfl,k4⟩
 have K4:=Qh (K3.out.trans k4)
 have H4:=Qh (H3.out.heap k4)
 have HP4:=Qh (HP3.out.kept k4)
 clear k4
 go_wp2
 go_ret
 exact ⟨by rw [HE.out];first|done|rfl|exact congrArg (fun b=>Ending.returned (Value.bool b)) (by first|(rw [decide_eq_true_iff];omega)|(rw [decide_eq_false_iff_not];omega)),K4.out⟩
theorem rrk_0_K (K:Tk) (hB:Brd K.B) (hb:rightB K.B=true) (hs:okSt K.s=true) (tu0:¬ 0≤K.tu) (w:World):Calls Tryz.prog 19 #[kv K] w fun e w'=>e=.returned (.bool (okK K))∧Kept w w':=by
 have H1:=Qh (KAt.new w hB.1)
 have K1:=Qh ((Kept.refl w).alloc (.cells (kcl K).toArray 30))
 have HPL:Hid ((pk K).B.length=64):=Qh hB.1
 have HLB:Hid (K.B.length=64):=Qh hB.1
 have HF:=Qh (fun w=>rright_is K.B hB w)
 have HST:=Qh (fun w=>rright_q K.s w)
 have HNO:=Qh (okW_ff K)
 have HOK:=Qh (okW_iff K)
 have HE:Hid (okK K=false):=Qh (by
  have hw:=HNO.out (by omega)
  unfold okK
  rw [hb,hs,hw];rfl)
 rw [hb] at HF
 rw [hs] at HST
 clear hb hB hs
 obtain ⟨B,tu,ca,ep,s,ty,se,mx,re⟩:=K
 dsimp only at *
 go_enter Tryz.func19,Tryz.ntmps19
 go_upto_region 1 with (refine wpList_box_k rfl _ rfl ⟨B,tu,ca,ep,s,ty,se,mx,re⟩ rfl ?_)
 generalize w.alloc (.cells (kcl ⟨B,tu,ca,ep,s,ty,se,mx,re⟩).toArray 30)=W1 at *
 generalize w.heap.size=g1 at *
 have HP:=Qh (PAt.new W1 HPL.out)
 have K2:=Qh (K1.out.alloc (.cells (pl (pk ⟨B,tu,ca,ep,s,ty,se,mx,re⟩)).toArray 26))
 have H2:=Qh (H1.out.heap ((Kept.refl W1).alloc (.cells (pl (pk ⟨B,tu,ca,ep,s,ty,se,mx,re⟩)).toArray 26)))
 go_upto_region 2 with (first|(refine wpList_load_midw (by rfl) 26 _ rfl g1 0 rfl (pl (pk ⟨B,tu,ca,ep,s,ty,se,mx,re⟩)) _ H1.out.pos Tryz.underlying26 rfl (by rw [sizeP,pl_length HPL.out]) ?_)|(with_reducible refine wpList_new_p rfl rfl ?_)|(refine wpList_store_newp rfl _ _ rfl Zp (pk ⟨B,tu,ca,ep,s,ty,se,mx,re⟩) Zp_len HPL.out rfl rfl ?_))
 generalize W1.alloc (.cells (pl (pk ⟨B,tu,ca,ep,s,ty,se,mx,re⟩)).toArray 26)=W2 at *
 generalize W1.heap.size=g2 at *
 go_wp2_with (refine wpList_load_midw (by rfl) 24 _ rfl g2 0 rfl (cl B) _ HP.out.rangeB Tryz.underlying24 rfl (by rw [size24,cl_length,HLB.out]) ?_)
 refine (HF.out _).mono ?_
 rintro e w3 ⟨rfl,k3⟩
 have K3:=Qh (K2.out.trans k3)
 have H3:=Qh (H2.out.heap k3)
 have HP3:=Qh (HP.out.kept k3)
 clear k3
 go_wp2_with ((with_reducible refine wpList_load_q rfl _ rfl g1 67 ?_ s H3.out.stip ?_);exact rfl)
 refine (HST.out _).mono ?_
 rintro e w4 ⟨rfl,k4⟩
 have K4:=Qh (K3.out.trans k4)
 have H4:=Qh (H3.out.heap k4)
 have HP4:=Qh (HP3.out.kept k4)
 clear k4
 have c1:w4.cell? ⟨g2,64,none⟩=some (.int .i64 tu):=HP4.out.turn
 have c2:w4.cell? ⟨g2,65,none⟩=some (.int .i64 ca):=HP4.out.cas
 have c3:w4.cell? ⟨g2,66,none⟩=some (.int .i64 ep):=HP4.out.ep
 have c4:w4.cell? ⟨g1,73,none⟩=some (.int .i64 mx):=H4.out.cell 9 rfl
 have c5:w4.cell? ⟨g1,74,none⟩=some (.int .i64 re):=H4.out.cell 10 rfl
 go_wp2
 go_ret
 exact ⟨by rw [HE.out];first|done|rfl|exact congrArg (fun b=>Ending.returned (Value.bool b)) (by first|(rw [decide_eq_true_iff];omega)|(rw [decide_eq_false_iff_not];omega)),K4.out⟩
theorem rrk_1_K (K:Tk) (hB:Brd K.B) (hb:rightB K.B=true) (hs:okSt K.s=true) (tu0:0≤K.tu) (tu1:¬ K.tu≤1) (w:World):Calls Tryz.prog 19 #[kv K] w fun e w'=>e=.returned (.bool (okK K))∧Kept w w':=by
 have H1:=Qh (KAt.new w hB.1)
 have K1:=Qh ((Kept.refl w).alloc (.cells (kcl K).toArray 30))
 have HPL:Hid ((pk K).B.length=64):=Qh hB.1
 have HLB:Hid (K.B.length=64):=Qh hB.1
 have HF:=Qh (fun w=>rright_is K.B hB w)
 have HST:=Qh (fun w=>rright_q K.s w)
 have HNO:=Qh (okW_ff K)
 have HOK:=Qh (okW_iff K)
 have HE:Hid (okK K=false):=Qh (by
  have hw:=HNO.out (by omega)
  unfold okK
  rw [hb,hs,hw];rfl)
 rw [hb] at HF
 rw [hs] at HST
 clear hb hB hs
 obtain ⟨B,tu,ca,ep,s,ty,se,mx,re⟩:=K
 dsimp only at *
 go_enter Tryz.func19,Tryz.ntmps19
 go_upto_region 1 with (refine wpList_box_k rfl _ rfl ⟨B,tu,ca,ep,s,ty,se,mx,re⟩ rfl ?_)
 generalize w.alloc (.cells (kcl ⟨B,tu,ca,ep,s,ty,se,mx,re⟩).toArray 30)=W1 at *
 generalize w.heap.size=g1 at *
 have HP:=Qh (PAt.new W1 HPL.out)
 have K2:=Qh (K1.out.alloc (.cells (pl (pk ⟨B,tu,ca,ep,s,ty,se,mx,re⟩)).toArray 26))
 have H2:=Qh (H1.out.heap ((Kept.refl W1).alloc (.cells (pl (pk ⟨B,tu,ca,ep,s,ty,se,mx,re⟩)).toArray 26)))
 go_upto_region 2 with (first|(refine wpList_load_midw (by rfl) 26 _ rfl g1 0 rfl (pl (pk ⟨B,tu,ca,ep,s,ty,se,mx,re⟩)) _ H1.out.pos Tryz.underlying26 rfl (by rw [sizeP,pl_length HPL.out]) ?_)|(with_reducible refine wpList_new_p rfl rfl ?_)|(refine wpList_store_newp rfl _ _ rfl Zp (pk ⟨B,tu,ca,ep,s,ty,se,mx,re⟩) Zp_len HPL.out rfl rfl ?_))
 generalize W1.alloc (.cells (pl (pk ⟨B,tu,ca,ep,s,ty,se,mx,re⟩)).toArray 26)=W2 at *
 generalize W1.heap.size=g2 at *
 go_wp2_with (refine wpList_load_midw (by rfl) 24 _ rfl g2 0 rfl (cl B) _ HP.out.rangeB Tryz.underlying24 rfl (by rw [size24,cl_length,HLB.out]) ?_)
 refine (HF.out _).mono ?_
 rintro e w3 ⟨rfl,k3⟩
 have K3:=Qh (K2.out.trans k3)
 have H3:=Qh (H2.out.heap k3)
 have HP3:=Qh (HP.out.kept k3)
 clear k3
 go_wp2_with ((with_reducible refine wpList_load_q rfl _ rfl g1 67 ?_ s H3.out.stip ?_);exact rfl)
 refine (HST.out _).mono ?_
 rintro e w4 ⟨rfl,k4⟩
 have K4:=Qh (K3.out.trans k4)
 have H4:=Qh (H3.out.heap k4)
 have HP4:=Qh (HP3.out.kept k4)
 clear k4
 have c1:w4.cell? ⟨g2,64,none⟩=some (.int .i64 tu):=HP4.out.turn
 have c2:w4.cell? ⟨g2,65,none⟩=some (.int .i64 ca):=HP4.out.cas
 have c3:w4.cell? ⟨g2,66,none⟩=some (.int .i64 ep):=HP4.out.ep
 have c4:w4.cell? ⟨g1,73,none⟩=some (.int .i64 mx):=H4.out.cell 9 rfl
 have c5:w4.cell? ⟨g1,74,none⟩=some (.int .i64 re):=H4.out.cell 10 rfl
 go_wp2
 go_ret
 exact ⟨by rw [HE.out];first|done|rfl|exact congrArg (fun b=>Ending.returned (Value.bool b)) (by first|(rw [decide_eq_true_iff];omega)|(rw [decide_eq_false_iff_not];omega)),K4.out⟩
theorem rrk_2_K (K:Tk) (hB:Brd K.B) (hb:rightB K.B=true) (hs:okSt K.s=true) (tu0:0≤K.tu) (tu1:K.tu≤1) (ca0:¬ 0≤K.ca) (w:World):Calls Tryz.prog 19 #[kv K] w fun e w'=>e=.returned (.bool (okK K))∧Kept w w':=by
 have H1:=Qh (KAt.new w hB.1)
 have K1:=Qh ((Kept.refl w).alloc (.cells (kcl K).toArray 30))
 have HPL:Hid ((pk K).B.length=64):=Qh hB.1
 have HLB:Hid (K.B.length=64):=Qh hB.1
 have HF:=Qh (fun w=>rright_is K.B hB w)
 have HST:=Qh (fun w=>rright_q K.s w)
 have HNO:=Qh (okW_ff K)
 have HOK:=Qh (okW_iff K)
 have HE:Hid (okK K=false):=Qh (by
  have hw:=HNO.out (by omega)
  unfold okK
  rw [hb,hs,hw];rfl)
 rw [hb] at HF
 rw [hs] at HST
 clear hb hB hs
 obtain ⟨B,tu,ca,ep,s,ty,se,mx,re⟩:=K
 dsimp only at *
 go_enter Tryz.func19,Tryz.ntmps19
 go_upto_region 1 with (refine wpList_box_k rfl _ rfl ⟨B,tu,ca,ep,s,ty,se,mx,re⟩ rfl ?_)
 generalize w.alloc (.cells (kcl ⟨B,tu,ca,ep,s,ty,se,mx,re⟩).toArray 30)=W1 at *
 generalize w.heap.size=g1 at *
 have HP:=Qh (PAt.new W1 HPL.out)
 have K2:=Qh (K1.out.alloc (.cells (pl (pk ⟨B,tu,ca,ep,s,ty,se,mx,re⟩)).toArray 26))
 have H2:=Qh (H1.out.heap ((Kept.refl W1).alloc (.cells (pl (pk ⟨B,tu,ca,ep,s,ty,se,mx,re⟩)).toArray 26)))
 go_upto_region 2 with (first|(refine wpList_load_midw (by rfl) 26 _ rfl g1 0 rfl (pl (pk ⟨B,tu,ca,ep,s,ty,se,mx,re⟩)) _ H1.out.pos Tryz.underlying26 rfl (by rw [sizeP,pl_length HPL.out]) ?_)|(with_reducible refine wpList_new_p rfl rfl ?_)|(refine wpList_store_newp rfl _ _ rfl Zp (pk ⟨B,tu,ca,ep,s,ty,se,mx,re⟩) Zp_len HPL.out rfl rfl ?_))
 generalize W1.alloc (.cells (pl (pk ⟨B,tu,ca,ep,s,ty,se,mx,re⟩)).toArray 26)=W2 at *
 generalize W1.heap.size=g2 at *
 go_wp2_with (refine wpList_load_midw (by rfl) 24 _ rfl g2 0 rfl (cl B) _ HP.out.rangeB Tryz.underlying24 rfl (by rw [size24,cl_length,HLB.out]) ?_)
 refine (HF.out _).mono ?_
 rintro e w3 ⟨rfl,k3⟩
 have K3:=Qh (K2.out.trans k3)
 have H3:=Qh (H2.out.heap k3)
 have HP3:=Qh (HP.out.kept k3)
 clear k3
 go_wp2_with ((with_reducible refine wpList_load_q rfl _ rfl g1 67 ?_ s H3.out.stip ?_);exact rfl)
 refine (HST.out _).mono ?_
 rintro e w4 ⟨rfl,k4⟩
 have K4:=Qh (K3.out.trans k4)
 have H4:=Qh (H3.out.heap k4)
 have HP4:=Qh (HP3.out.kept k4)
 clear k4
 have c1:w4.cell? ⟨g2,64,none⟩=some (.int .i64 tu):=HP4.out.turn
 have c2:w4.cell? ⟨g2,65,none⟩=some (.int .i64 ca):=HP4.out.cas
 have c3:w4.cell? ⟨g2,66,none⟩=some (.int .i64 ep):=HP4.out.ep
 have c4:w4.cell? ⟨g1,73,none⟩=some (.int .i64 mx):=H4.out.cell 9 rfl
 have c5:w4.cell? ⟨g1,74,none⟩=some (.int .i64 re):=H4.out.cell 10 rfl
 go_wp2
 go_ret
 exact ⟨by rw [HE.out];first|done|rfl|exact congrArg (fun b=>Ending.returned (Value.bool b)) (by first|(rw [decide_eq_true_iff];omega)|(rw [decide_eq_false_iff_not];omega)),K4.out⟩
theorem rrk_3_K (K:Tk) (hB:Brd K.B) (hb:rightB K.B=true) (hs:okSt K.s=true) (tu0:0≤K.tu) (tu1:K.tu≤1) (ca0:0≤K.ca) (ca1:¬ K.ca≤15) (w:World):Calls Tryz.prog 19 #[kv K] w fun e w'=>e=.returned (.bool (okK K))∧Kept w w':=by
 have H1:=Qh (KAt.new w hB.1)
 have K1:=Qh ((Kept.refl w).alloc (.cells (kcl K).toArray 30))
 have HPL:Hid ((pk K).B.length=64):=Qh hB.1
 have HLB:Hid (K.B.length=64):=Qh hB.1
 have HF:=Qh (fun w=>rright_is K.B hB w)
 have HST:=Qh (fun w=>rright_q K.s w)
 have HNO:=Qh (okW_ff K)
 have HOK:=Qh (okW_iff K)
 have HE:Hid (okK K=false):=Qh (by
  have hw:=HNO.out (by omega)
  unfold okK
  rw [hb,hs,hw];rfl)
 rw [hb] at HF
 rw [hs] at HST
 clear hb hB hs
 obtain ⟨B,tu,ca,ep,s,ty,se,mx,re⟩:=K
 dsimp only at *
 go_enter Tryz.func19,Tryz.ntmps19
 go_upto_region 1 with (refine wpList_box_k rfl _ rfl ⟨B,tu,ca,ep,s,ty,se,mx,re⟩ rfl ?_)
 generalize w.alloc (.cells (kcl ⟨B,tu,ca,ep,s,ty,se,mx,re⟩).toArray 30)=W1 at *
 generalize w.heap.size=g1 at *
 have HP:=Qh (PAt.new W1 HPL.out)
 have K2:=Qh (K1.out.alloc (.cells (pl (pk ⟨B,tu,ca,ep,s,ty,se,mx,re⟩)).toArray 26))
 have H2:=Qh (H1.out.heap ((Kept.refl W1).alloc (.cells (pl (pk ⟨B,tu,ca,ep,s,ty,se,mx,re⟩)).toArray 26)))
 go_upto_region 2 with (first|(refine wpList_load_midw (by rfl) 26 _ rfl g1 0 rfl (pl (pk ⟨B,tu,ca,ep,s,ty,se,mx,re⟩)) _ H1.out.pos Tryz.underlying26 rfl (by rw [sizeP,pl_length HPL.out]) ?_)|(with_reducible refine wpList_new_p rfl rfl ?_)|(refine wpList_store_newp rfl _ _ rfl Zp (pk ⟨B,tu,ca,ep,s,ty,se,mx,re⟩) Zp_len HPL.out rfl rfl ?_))
 generalize W1.alloc (.cells (pl (pk ⟨B,tu,ca,ep,s,ty,se,mx,re⟩)).toArray 26)=W2 at *
 generalize W1.heap.size=g2 at *
 go_wp2_with (refine wpList_load_midw (by rfl) 24 _ rfl g2 0 rfl (cl B) _ HP.out.rangeB Tryz.underlying24 rfl (by rw [size24,cl_length,HLB.out]) ?_)
 refine (HF.out _).mono ?_
 rintro e w3 ⟨rfl,k3⟩
 have K3:=Qh (K2.out.trans k3)
 have H3:=Qh (H2.out.heap k3)
 have HP3:=Qh (HP.out.kept k3)
 clear k3
 go_wp2_with ((with_reducible refine wpList_load_q rfl _ rfl g1 67 ?_ s H3.out.stip ?_);exact rfl)
 refine (HST.out _).mono ?_
 rintro e w4 ⟨rfl,k4⟩
 have K4:=Qh (K3.out.trans k4)
 have H4:=Qh (H3.out.heap k4)
 have HP4:=Qh (HP3.out.kept k4)
 clear k4
 have c1:w4.cell? ⟨g2,64,none⟩=some (.int .i64 tu):=HP4.out.turn
 have c2:w4.cell? ⟨g2,65,none⟩=some (.int .i64 ca):=HP4.out.cas
 have c3:w4.cell? ⟨g2,66,none⟩=some (.int .i64 ep):=HP4.out.ep
 have c4:w4.cell? ⟨g1,73,none⟩=some (.int .i64 mx):=H4.out.cell 9 rfl
 have c5:w4.cell? ⟨g1,74,none⟩=some (.int .i64 re):=H4.out.cell 10 rfl
 go_wp2
 go_ret
 exact ⟨by rw [HE.out];first|done|rfl|exact congrArg (fun b=>Ending.returned (Value.bool b)) (by first|(rw [decide_eq_true_iff];omega)|(rw [decide_eq_false_iff_not];omega)),K4.out⟩
theorem rrk_4_K (K:Tk) (hB:Brd K.B) (hb:rightB K.B=true) (hs:okSt K.s=true) (tu0:0≤K.tu) (tu1:K.tu≤1) (ca0:0≤K.ca) (ca1:K.ca≤15) (ep0:¬ -1≤K.ep) (w:World):Calls Tryz.prog 19 #[kv K] w fun e w'=>e=.returned (.bool (okK K))∧Kept w w':=by
 have H1:=Qh (KAt.new w hB.1)
 have K1:=Qh ((Kept.refl w).alloc (.cells (kcl K).toArray 30))
 have HPL:Hid ((pk K).B.length=64):=Qh hB.1
 have HLB:Hid (K.B.length=64):=Qh hB.1
 have HF:=Qh (fun w=>rright_is K.B hB w)
 have HST:=Qh (fun w=>rright_q K.s w)
 have HNO:=Qh (okW_ff K)
 have HOK:=Qh (okW_iff K)
 have HE:Hid (okK K=false):=Qh (by
  have hw:=HNO.out (by omega)
  unfold okK
  rw [hb,hs,hw];rfl)
 rw [hb] at HF
 rw [hs] at HST
 clear hb hB hs
 obtain ⟨B,tu,ca,ep,s,ty,se,mx,re⟩:=K
 dsimp only at *
 go_enter Tryz.func19,Tryz.ntmps19
 go_upto_region 1 with (refine wpList_box_k rfl _ rfl ⟨B,tu,ca,ep,s,ty,se,mx,re⟩ rfl ?_)
 generalize w.alloc (.cells (kcl ⟨B,tu,ca,ep,s,ty,se,mx,re⟩).toArray 30)=W1 at *
 generalize w.heap.size=g1 at *
 have HP:=Qh (PAt.new W1 HPL.out)
 have K2:=Qh (K1.out.alloc (.cells (pl (pk ⟨B,tu,ca,ep,s,ty,se,mx,re⟩)).toArray 26))
 have H2:=Qh (H1.out.heap ((Kept.refl W1).alloc (.cells (pl (pk ⟨B,tu,ca,ep,s,ty,se,mx,re⟩)).toArray 26)))
 go_upto_region 2 with (first|(refine wpList_load_midw (by rfl) 26 _ rfl g1 0 rfl (pl (pk ⟨B,tu,ca,ep,s,ty,se,mx,re⟩)) _ H1.out.pos Tryz.underlying26 rfl (by rw [sizeP,pl_length HPL.out]) ?_)|(with_reducible refine wpList_new_p rfl rfl ?_)|(refine wpList_store_newp rfl _ _ rfl Zp (pk ⟨B,tu,ca,ep,s,ty,se,mx,re⟩) Zp_len HPL.out rfl rfl ?_))
 generalize W1.alloc (.cells (pl (pk ⟨B,tu,ca,ep,s,ty,se,mx,re⟩)).toArray 26)=W2 at *
 generalize W1.heap.size=g2 at *
 go_wp2_with (refine wpList_load_midw (by rfl) 24 _ rfl g2 0 rfl (cl B) _ HP.out.rangeB Tryz.underlying24 rfl (by rw [size24,cl_length,HLB.out]) ?_)
 refine (HF.out _).mono ?_
 rintro e w3 ⟨rfl,k3⟩
 have K3:=Qh (K2.out.trans k3)
 have H3:=Qh (H2.out.heap k3)
 have HP3:=Qh (HP.out.kept k3)
 clear k3
 go_wp2_with ((with_reducible refine wpList_load_q rfl _ rfl g1 67 ?_ s H3.out.stip ?_);exact rfl)
 refine (HST.out _).mono ?_
 rintro e w4 ⟨rfl,k4⟩
 have K4:=Qh (K3.out.trans k4)
 have H4:=Qh (H3.out.heap k4)
 have HP4:=Qh (HP3.out.kept k4)
 clear k4
 have c1:w4.cell? ⟨g2,64,none⟩=some (.int .i64 tu):=HP4.out.turn
 have c2:w4.cell? ⟨g2,65,none⟩=some (.int .i64 ca):=HP4.out.cas
 have c3:w4.cell? ⟨g2,66,none⟩=some (.int .i64 ep):=HP4.out.ep
 have c4:w4.cell? ⟨g1,73,none⟩=some (.int .i64 mx):=H4.out.cell 9 rfl
 have c5:w4.cell? ⟨g1,74,none⟩=some (.int .i64 re):=H4.out.cell 10 rfl
 go_wp2
 go_ret
 exact ⟨by rw [HE.out];first|done|rfl|exact congrArg (fun b=>Ending.returned (Value.bool b)) (by first|(rw [decide_eq_true_iff];omega)|(rw [decide_eq_false_iff_not];omega)),K4.out⟩
theorem rrk_5_K (K:Tk) (hB:Brd K.B) (hb:rightB K.B=true) (hs:okSt K.s=true) (tu0:0≤K.tu) (tu1:K.tu≤1) (ca0:0≤K.ca) (ca1:K.ca≤15) (ep0:-1≤K.ep) (ep1:¬ K.ep≤63) (w:World):Calls Tryz.prog 19 #[kv K] w fun e w'=>e=.returned (.bool (okK K))∧Kept w w':=by
 have H1:=Qh (KAt.new w hB.1)
 have K1:=Qh ((Kept.refl w).alloc (.cells (kcl K).toArray 30))
 have HPL:Hid ((pk K).B.length=64):=Qh hB.1
 have HLB:Hid (K.B.length=64):=Qh hB.1
 have HF:=Qh (fun w=>rright_is K.B hB w)
 have HST:=Qh (fun w=>rright_q K.s w)
 have HNO:=Qh (okW_ff K)
 have HOK:=Qh (okW_iff K)
 have HE:Hid (okK K=false):=Qh (by
  have hw:=HNO.out (by omega)
  unfold okK
  rw [hb,hs,hw];rfl)
 rw [hb] at HF
 rw [hs] at HST
 clear hb hB hs
 obtain ⟨B,tu,ca,ep,s,ty,se,mx,re⟩:=K
 dsimp only at *
 go_enter Tryz.func19,Tryz.ntmps19
 go_upto_region 1 with (refine wpList_box_k rfl _ rfl ⟨B,tu,ca,ep,s,ty,se,mx,re⟩ rfl ?_)
 generalize w.alloc (.cells (kcl ⟨B,tu,ca,ep,s,ty,se,mx,re⟩).toArray 30)=W1 at *
 generalize w.heap.size=g1 at *
 have HP:=Qh (PAt.new W1 HPL.out)
 have K2:=Qh (K1.out.alloc (.cells (pl (pk ⟨B,tu,ca,ep,s,ty,se,mx,re⟩)).toArray 26))
 have H2:=Qh (H1.out.heap ((Kept.refl W1).alloc (.cells (pl (pk ⟨B,tu,ca,ep,s,ty,se,mx,re⟩)).toArray 26)))
 go_upto_region 2 with (first|(refine wpList_load_midw (by rfl) 26 _ rfl g1 0 rfl (pl (pk ⟨B,tu,ca,ep,s,ty,se,mx,re⟩)) _ H1.out.pos Tryz.underlying26 rfl (by rw [sizeP,pl_length HPL.out]) ?_)|(with_reducible refine wpList_new_p rfl rfl ?_)|(refine wpList_store_newp rfl _ _ rfl Zp (pk ⟨B,tu,ca,ep,s,ty,se,mx,re⟩) Zp_len HPL.out rfl rfl ?_))
 generalize W1.alloc (.cells (pl (pk ⟨B,tu,ca,ep,s,ty,se,mx,re⟩)).toArray 26)=W2 at *
 generalize W1.heap.size=g2 at *
 go_wp2_with (refine wpList_load_midw (by rfl) 24 _ rfl g2 0 rfl (cl B) _ HP.out.rangeB Tryz.underlying24 rfl (by rw [size24,cl_length,HLB.out]) ?_)
 refine (HF.out _).mono ?_
 rintro e w3 ⟨rfl,k3⟩
 have K3:=Qh (K2.out.trans k3)
 have H3:=Qh (H2.out.heap k3)
 have HP3:=Qh (HP.out.kept k3)
 clear k3
 go_wp2_with ((with_reducible refine wpList_load_q rfl _ rfl g1 67 ?_ s H3.out.stip ?_);exact rfl)
 refine (HST.out _).mono ?_
 rintro e w4 ⟨rfl,k4⟩
 have K4:=Qh (K3.out.trans k4)
 have H4:=Qh (H3.out.heap k4)
 have HP4:=Qh (HP3.out.kept k4)
 clear k4
 have c1:w4.cell? ⟨g2,64,none⟩=some (.int .i64 tu):=HP4.out.turn
 have c2:w4.cell? ⟨g2,65,none⟩=some (.int .i64 ca):=HP4.out.cas
 have c3:w4.cell? ⟨g2,66,none⟩=some (.int .i64 ep):=HP4.out.ep
 have c4:w4.cell? ⟨g1,73,none⟩=some (.int .i64 mx):=H4.out.cell 9 rfl
 have c5:w4.cell? ⟨g1,74,none⟩=some (.int .i64 re):=H4.out.cell 10 rfl
 go_wp2
 go_ret
 exact ⟨by rw [HE.out];first|done|rfl|exact congrArg (fun b=>Ending.returned (Value.bool b)) (by first|(rw [decide_eq_true_iff];omega)|(rw [decide_eq_false_iff_not];omega)),K4.out⟩
theorem rrk_6_K (K:Tk) (hB:Brd K.B) (hb:rightB K.B=true) (hs:okSt K.s=true) (tu0:0≤K.tu) (tu1:K.tu≤1) (ca0:0≤K.ca) (ca1:K.ca≤15) (ep0:-1≤K.ep) (ep1:K.ep≤63) (mx0:¬ 0≤K.mx) (w:World):Calls Tryz.prog 19 #[kv K] w fun e w'=>e=.returned (.bool (okK K))∧Kept w w':=by
 have H1:=Qh (KAt.new w hB.1)
 have K1:=Qh ((Kept.refl w).alloc (.cells (kcl K).toArray 30))
 have HPL:Hid ((pk K).B.length=64):=Qh hB.1
 have HLB:Hid (K.B.length=64):=Qh hB.1
 have HF:=Qh (fun w=>rright_is K.B hB w)
 have HST:=Qh (fun w=>rright_q K.s w)
 have HNO:=Qh (okW_ff K)
 have HOK:=Qh (okW_iff K)
 have HE:Hid (okK K=false):=Qh (by
  have hw:=HNO.out (by omega)
  unfold okK
  rw [hb,hs,hw];rfl)
 rw [hb] at HF
 rw [hs] at HST
 clear hb hB hs
 obtain ⟨B,tu,ca,ep,s,ty,se,mx,re⟩:=K
 dsimp only at *
 go_enter Tryz.func19,Tryz.ntmps19
 go_upto_region 1 with (refine wpList_box_k rfl _ rfl ⟨B,tu,ca,ep,s,ty,se,mx,re⟩ rfl ?_)
 generalize w.alloc (.cells (kcl ⟨B,tu,ca,ep,s,ty,se,mx,re⟩).toArray 30)=W1 at *
 generalize w.heap.size=g1 at *
 have HP:=Qh (PAt.new W1 HPL.out)
 have K2:=Qh (K1.out.alloc (.cells (pl (pk ⟨B,tu,ca,ep,s,ty,se,mx,re⟩)).toArray 26))
 have H2:=Qh (H1.out.heap ((Kept.refl W1).alloc (.cells (pl (pk ⟨B,tu,ca,ep,s,ty,se,mx,re⟩)).toArray 26)))
 go_upto_region 2 with (first|(refine wpList_load_midw (by rfl) 26 _ rfl g1 0 rfl (pl (pk ⟨B,tu,ca,ep,s,ty,se,mx,re⟩)) _ H1.out.pos Tryz.underlying26 rfl (by rw [sizeP,pl_length HPL.out]) ?_)|(with_reducible refine wpList_new_p rfl rfl ?_)|(refine wpList_store_newp rfl _ _ rfl Zp (pk ⟨B,tu,ca,ep,s,ty,se,mx,re⟩) Zp_len HPL.out rfl rfl ?_))
 generalize W1.alloc (.cells (pl (pk ⟨B,tu,ca,ep,s,ty,se,mx,re⟩)).toArray 26)=W2 at *
 generalize W1.heap.size=g2 at *
 go_wp2_with (refine wpList_load_midw (by rfl) 24 _ rfl g2 0 rfl (cl B) _ HP.out.rangeB Tryz.underlying24 rfl (by rw [size24,cl_length,HLB.out]) ?_)
 refine (HF.out _).mono ?_
 rintro e w3 ⟨rfl,k3⟩
 have K3:=Qh (K2.out.trans k3)
 have H3:=Qh (H2.out.heap k3)
 have HP3:=Qh (HP.out.kept k3)
 clear k3
 go_wp2_with ((with_reducible refine wpList_load_q rfl _ rfl g1 67 ?_ s H3.out.stip ?_);exact rfl)
 refine (HST.out _).mono ?_
 rintro e w4 ⟨rfl,k4⟩
 have K4:=Qh (K3.out.trans k4)
 have H4:=Qh (H3.out.heap k4)
 have HP4:=Qh (HP3.out.kept k4)
 clear k4
 have c1:w4.cell? ⟨g2,64,none⟩=some (.int .i64 tu):=HP4.out.turn
 have c2:w4.cell? ⟨g2,65,none⟩=some (.int .i64 ca):=HP4.out.cas
 have c3:w4.cell? ⟨g2,66,none⟩=some (.int .i64 ep):=HP4.out.ep
 have c4:w4.cell? ⟨g1,73,none⟩=some (.int .i64 mx):=H4.out.cell 9 rfl
 have c5:w4.cell? ⟨g1,74,none⟩=some (.int .i64 re):=H4.out.cell 10 rfl
 go_wp2
 go_ret
 exact ⟨by rw [HE.out];first|done|rfl|exact congrArg (fun b=>Ending.returned (Value.bool b)) (by first|(rw [decide_eq_true_iff];omega)|(rw [decide_eq_false_iff_not];omega)),K4.out⟩
theorem rrk_7_K (K:Tk) (hB:Brd K.B) (hb:rightB K.B=true) (hs:okSt K.s=true) (tu0:0≤K.tu) (tu1:K.tu≤1) (ca0:0≤K.ca) (ca1:K.ca≤15) (ep0:-1≤K.ep) (ep1:K.ep≤63) (mx0:0≤K.mx) (mx1:¬ K.mx≤1000) (w:World):Calls Tryz.prog 19 #[kv K] w fun e w'=>e=.returned (.bool (okK K))∧Kept w w':=by
 have H1:=Qh (KAt.new w hB.1)
 have K1:=Qh ((Kept.refl w).alloc (.cells (kcl K).toArray 30))
 have HPL:Hid ((pk K).B.length=64):=Qh hB.1
 have HLB:Hid (K.B.length=64):=Qh hB.1
 have HF:=Qh (fun w=>rright_is K.B hB w)
 have HST:=Qh (fun w=>rright_q K.s w)
 have HNO:=Qh (okW_ff K)
 have HOK:=Qh (okW_iff K)
 have HE:Hid (okK K=false):=Qh (by
  have hw:=HNO.out (by omega)
  unfold okK
  rw [hb,hs,hw];rfl)
 rw [hb] at HF
 rw [hs] at HST
 clear hb hB hs
 obtain ⟨B,tu,ca,ep,s,ty,se,mx,re⟩:=K
 dsimp only at *
 go_enter Tryz.func19,Tryz.ntmps19
 go_upto_region 1 with (refine wpList_box_k rfl _ rfl ⟨B,tu,ca,ep,s,ty,se,mx,re⟩ rfl ?_)
 generalize w.alloc (.cells (kcl ⟨B,tu,ca,ep,s,ty,se,mx,re⟩).toArray 30)=W1 at *
 generalize w.heap.size=g1 at *
 have HP:=Qh (PAt.new W1 HPL.out)
 have K2:=Qh (K1.out.alloc (.cells (pl (pk ⟨B,tu,ca,ep,s,ty,se,mx,re⟩)).toArray 26))
 have H2:=Qh (H1.out.heap ((Kept.refl W1).alloc (.cells (pl (pk ⟨B,tu,ca,ep,s,ty,se,mx,re⟩)).toArray 26)))
 go_upto_region 2 with (first|(refine wpList_load_midw (by rfl) 26 _ rfl g1 0 rfl (pl (pk ⟨B,tu,ca,ep,s,ty,se,mx,re⟩)) _ H1.out.pos Tryz.underlying26 rfl (by rw [sizeP,pl_length HPL.out]) ?_)|(with_reducible refine wpList_new_p rfl rfl ?_)|(refine wpList_store_newp rfl _ _ rfl Zp (pk ⟨B,tu,ca,ep,s,ty,se,mx,re⟩) Zp_len HPL.out rfl rfl ?_))
 generalize W1.alloc (.cells (pl (pk ⟨B,tu,ca,ep,s,ty,se,mx,re⟩)).toArray 26)=W2 at *
 generalize W1.heap.size=g2 at *
 go_wp2_with (refine wpList_load_midw (by rfl) 24 _ rfl g2 0 rfl (cl B) _ HP.out.rangeB Tryz.underlying24 rfl (by rw [size24,cl_length,HLB.out]) ?_)
 refine (HF.out _).mono ?_
 rintro e w3 ⟨rfl,k3⟩
 have K3:=Qh (K2.out.trans k3)
 have H3:=Qh (H2.out.heap k3)
 have HP3:=Qh (HP.out.kept k3)
 clear k3
 go_wp2_with ((with_reducible refine wpList_load_q rfl _ rfl g1 67 ?_ s H3.out.stip ?_);exact rfl)
 refine (HST.out _).mono ?_
 rintro e w4 ⟨rfl,k4⟩
 have K4:=Qh (K3.out.trans k4)
 have H4:=Qh (H3.out.heap k4)
 have HP4:=Qh (HP3.out.kept k4)
 clear k4
 have c1:w4.cell? ⟨g2,64,none⟩=some (.int .i64 tu):=HP4.out.turn
 have c2:w4.cell? ⟨g2,65,none⟩=some (.int .i64 ca):=HP4.out.cas
 have c3:w4.cell? ⟨g2,66,none⟩=some (.int .i64 ep):=HP4.out.ep
 have c4:w4.cell? ⟨g1,73,none⟩=some (.int .i64 mx):=H4.out.cell 9 rfl
 have c5:w4.cell? ⟨g1,74,none⟩=some (.int .i64 re):=H4.out.cell 10 rfl
 go_wp2
 go_ret
 exact ⟨by rw [HE.out];first|done|rfl|exact congrArg (fun b=>Ending.returned (Value.bool b)) (by first|(rw [decide_eq_true_iff];omega)|(rw [decide_eq_false_iff_not];omega)),K4.out⟩
theorem rrk_8_K (K:Tk) (hB:Brd K.B) (hb:rightB K.B=true) (hs:okSt K.s=true) (tu0:0≤K.tu) (tu1:K.tu≤1) (ca0:0≤K.ca) (ca1:K.ca≤15) (ep0:-1≤K.ep) (ep1:K.ep≤63) (mx0:0≤K.mx) (mx1:K.mx≤1000) (re0:¬ -1≤K.re) (w:World):Calls Tryz.prog 19 #[kv K] w fun e w'=>e=.returned (.bool (okK K))∧Kept w w':=by
 have H1:=Qh (KAt.new w hB.1)
 have K1:=Qh ((Kept.refl w).alloc (.cells (kcl K).toArray 30))
 have HPL:Hid ((pk K).B.length=64):=Qh hB.1
 have HLB:Hid (K.B.length=64):=Qh hB.1
 have HF:=Qh (fun w=>rright_is K.B hB w)
 have HST:=Qh (fun w=>rright_q K.s w)
 have HNO:=Qh (okW_ff K)
 have HOK:=Qh (okW_iff K)
 have HE:Hid (okK K=false):=Qh (by
  have hw:=HNO.out (by omega)
  unfold okK
  rw [hb,hs,hw];rfl)
 rw [hb] at HF
 rw [hs] at HST
 clear hb hB hs
 obtain ⟨B,tu,ca,ep,s,ty,se,mx,re⟩:=K
 dsimp only at *
 go_enter Tryz.func19,Tryz.ntmps19
 go_upto_region 1 with (refine wpList_box_k rfl _ rfl ⟨B,tu,ca,ep,s,ty,se,mx,re⟩ rfl ?_)
 generalize w.alloc (.cells (kcl ⟨B,tu,ca,ep,s,ty,se,mx,re⟩).toArray 30)=W1 at *
 generalize w.heap.size=g1 at *
 have HP:=Qh (PAt.new W1 HPL.out)
 have K2:=Qh (K1.out.alloc (.cells (pl (pk ⟨B,tu,ca,ep,s,ty,se,mx,re⟩)).toArray 26))
 have H2:=Qh (H1.out.heap ((Kept.refl W1).alloc (.cells (pl (pk ⟨B,tu,ca,ep,s,ty,se,mx,re⟩)).toArray 26)))
 go_upto_region 2 with (first|(refine wpList_load_midw (by rfl) 26 _ rfl g1 0 rfl (pl (pk ⟨B,tu,ca,ep,s,ty,se,mx,re⟩)) _ H1.out.pos Tryz.underlying26 rfl (by rw [sizeP,pl_length HPL.out]) ?_)|(with_reducible refine wpList_new_p rfl rfl ?_)|(refine wpList_store_newp rfl _ _ rfl Zp (pk ⟨B,tu,ca,ep,s,ty,se,mx,re⟩) Zp_len HPL.out rfl rfl ?_))
 generalize W1.alloc (.cells (pl (pk ⟨B,tu,ca,ep,s,ty,se,mx,re⟩)).toArray 26)=W2 at *
 generalize W1.heap.size=g2 at *
 go_wp2_with (refine wpList_load_midw (by rfl) 24 _ rfl g2 0 rfl (cl B) _ HP.out.rangeB Tryz.underlying24 rfl (by rw [size24,cl_length,HLB.out]) ?_)
 refine (HF.out _).mono ?_
 rintro e w3 ⟨rfl,k3⟩
 have K3:=Qh (K2.out.trans k3)
 have H3:=Qh (H2.out.heap k3)
 have HP3:=Qh (HP.out.kept k3)
 clear k3
 go_wp2_with ((with_reducible refine wpList_load_q rfl _ rfl g1 67 ?_ s H3.out.stip ?_);exact rfl)
 refine (HST.out _).mono ?_
 rintro e w4 ⟨rfl,k4⟩
 have K4:=Qh (K3.out.trans k4)
 have H4:=Qh (H3.out.heap k4)
 have HP4:=Qh (HP3.out.kept k4)
 clear k4
 have c1:w4.cell? ⟨g2,64,none⟩=some (.int .i64 tu):=HP4.out.turn
 have c2:w4.cell? ⟨g2,65,none⟩=some (.int .i64 ca):=HP4.out.cas
 have c3:w4.cell? ⟨g2,66,none⟩=some (.int .i64 ep):=HP4.out.ep
 have c4:w4.cell? ⟨g1,73,none⟩=some (.int .i64 mx):=H4.out.cell 9 rfl
 have c5:w4.cell? ⟨g1,74,none⟩=some (.int .i64 re):=H4.out.cell 10 rfl
 go_wp2
 go_ret
 exact ⟨by rw [HE.out];first|done|rfl|exact congrArg (fun b=>Ending.returned (Value.bool b)) (by first|(rw [decide_eq_true_iff];omega)|(rw [decide_eq_false_iff_not];omega)),K4.out⟩
theorem rrk_9_K (K:Tk) (hB:Brd K.B) (hb:rightB K.B=true) (hs:okSt K.s=true) (tu0:0≤K.tu) (tu1:K.tu≤1) (ca0:0≤K.ca) (ca1:K.ca≤15) (ep0:-1≤K.ep) (ep1:K.ep≤63) (mx0:0≤K.mx) (mx1:K.mx≤1000) (re0:-1≤K.re) (re1:¬ K.re≤4) (w:World):Calls Tryz.prog 19 #[kv K] w fun e w'=>e=.returned (.bool (okK K))∧Kept w w':=by
 have H1:=Qh (KAt.new w hB.1)
 have K1:=Qh ((Kept.refl w).alloc (.cells (kcl K).toArray 30))
 have HPL:Hid ((pk K).B.length=64):=Qh hB.1
 have HLB:Hid (K.B.length=64):=Qh hB.1
 have HF:=Qh (fun w=>rright_is K.B hB w)
 have HST:=Qh (fun w=>rright_q K.s w)
 have HNO:=Qh (okW_ff K)
 have HOK:=Qh (okW_iff K)
 have HE:Hid (okK K=false):=Qh (by
  have hw:=HNO.out (by omega)
  unfold okK
  rw [hb,hs,hw];rfl)
 rw [hb] at HF
 rw [hs] at HST
 clear hb hB hs
 obtain ⟨B,tu,ca,ep,s,ty,se,mx,re⟩:=K
 dsimp only at *
 go_enter Tryz.func19,Tryz.ntmps19
 go_upto_region 1 with (refine wpList_box_k rfl _ rfl ⟨B,tu,ca,ep,s,ty,se,mx,re⟩ rfl ?_)
 generalize w.alloc (.cells (kcl ⟨B,tu,ca,ep,s,ty,se,mx,re⟩).toArray 30)=W1 at *
 generalize w.heap.size=g1 at *
 have HP:=Qh (PAt.new W1 HPL.out)
 have K2:=Qh (K1.out.alloc (.cells (pl (pk ⟨B,tu,ca,ep,s,ty,se,mx,re⟩)).toArray 26))
 have H2:=Qh (H1.out.heap ((Kept.refl W1).alloc (.cells (pl (pk ⟨B,tu,ca,ep,s,ty,se,mx,re⟩)).toArray 26)))
 go_upto_region 2 with (first|(refine wpList_load_midw (by rfl) 26 _ rfl g1 0 rfl (pl (pk ⟨B,tu,ca,ep,s,ty,se,mx,re⟩)) _ H1.out.pos Tryz.underlying26 rfl (by rw [sizeP,pl_length HPL.out]) ?_)|(with_reducible refine wpList_new_p rfl rfl ?_)|(refine wpList_store_newp rfl _ _ rfl Zp (pk ⟨B,tu,ca,ep,s,ty,se,mx,re⟩) Zp_len HPL.out rfl rfl ?_))
 generalize W1.alloc (.cells (pl (pk ⟨B,tu,ca,ep,s,ty,se,mx,re⟩)).toArray 26)=W2 at *
 generalize W1.heap.size=g2 at *
 go_wp2_with (refine wpList_load_midw (by rfl) 24 _ rfl g2 0 rfl (cl B) _ HP.out.rangeB Tryz.underlying24 rfl (by rw [size24,cl_length,HLB.out]) ?_)
 refine (HF.out _).mono ?_
 rintro e w3 ⟨rfl,k3⟩
 have K3:=Qh (K2.out.trans k3)
 have H3:=Qh (H2.out.heap k3)
 have HP3:=Qh (HP.out.kept k3)
 clear k3
 go_wp2_with ((with_reducible refine wpList_load_q rfl _ rfl g1 67 ?_ s H3.out.stip ?_);exact rfl)
 refine (HST.out _).mono ?_
 rintro e w4 ⟨rfl,k4⟩
 have K4:=Qh (K3.out.trans k4)
 have H4:=Qh (H3.out.heap k4)
 have HP4:=Qh (HP3.out.kept k4)
 clear k4
 have c1:w4.cell? ⟨g2,64,none⟩=some (.int .i64 tu):=HP4.out.turn
 have c2:w4.cell? ⟨g2,65,none⟩=some (.int .i64 ca):=HP4.out.cas
 have c3:w4.cell? ⟨g2,66,none⟩=some (.int .i64 ep):=HP4.out.ep
 have c4:w4.cell? ⟨g1,73,none⟩=some (.int .i64 mx):=H4.out.cell 9 rfl
 have c5:w4.cell? ⟨g1,74,none⟩=some (.int .i64 re):=H4.out.cell 10 rfl
 go_wp2
 go_ret
 exact ⟨by rw [HE.out];first|done|rfl|exact congrArg (fun b=>Ending.returned (Value.bool b)) (by first|(rw [decide_eq_true_iff];omega)|(rw [decide_eq_false_iff_not];omega)),K4.out⟩
theorem rrk_10_K (K:Tk) (hB:Brd K.B) (hb:rightB K.B=true) (hs:okSt K.s=true) (tu0:0≤K.tu) (tu1:K.tu≤1) (ca0:0≤K.ca) (ca1:K.ca≤15) (ep0:-1≤K.ep) (ep1:K.ep≤63) (mx0:0≤K.mx) (mx1:K.mx≤1000) (re0:-1≤K.re) (re1:K.re≤4) (w:World):Calls Tryz.prog 19 #[kv K] w fun e w'=>e=.returned (.bool (okK K))∧Kept w w':=by
 have H1:=Qh (KAt.new w hB.1)
 have K1:=Qh ((Kept.refl w).alloc (.cells (kcl K).toArray 30))
 have HPL:Hid ((pk K).B.length=64):=Qh hB.1
 have HLB:Hid (K.B.length=64):=Qh hB.1
 have HF:=Qh (fun w=>rright_is K.B hB w)
 have HST:=Qh (fun w=>rright_q K.s w)
 have HNO:=Qh (okW_ff K)
 have HOK:=Qh (okW_iff K)
 have HE:Hid (okK K=true):=Qh (by
  have hw:=HOK.out.2 (by omega)
  unfold okK
  rw [hb,hs,hw];rfl)
 rw [hb] at HF
 rw [hs] at HST
 clear hb hB hs
 obtain ⟨B,tu,ca,ep,s,ty,se,mx,re⟩:=K
 dsimp only at *
 go_enter Tryz.func19,Tryz.ntmps19
 go_upto_region 1 with (refine wpList_box_k rfl _ rfl ⟨B,tu,ca,ep,s,ty,se,mx,re⟩ rfl ?_)
 generalize w.alloc (.cells (kcl ⟨B,tu,ca,ep,s,ty,se,mx,re⟩).toArray 30)=W1 at *
 generalize w.heap.size=g1 at *
 have HP:=Qh (PAt.new W1 HPL.out)
 have K2:=Qh (K1.out.alloc (.cells (pl (pk ⟨B,tu,ca,ep,s,ty,se,mx,re⟩)).toArray 26))
 have H2:=Qh (H1.out.heap ((Kept.refl W1).alloc (.cells (pl (pk ⟨B,tu,ca,ep,s,ty,se,mx,re⟩)).toArray 26)))
 go_upto_region 2 with (first|(refine wpList_load_midw (by rfl) 26 _ rfl g1 0 rfl (pl (pk ⟨B,tu,ca,ep,s,ty,se,mx,re⟩)) _ H1.out.pos Tryz.underlying26 rfl (by rw [sizeP,pl_length HPL.out]) ?_)|(with_reducible refine wpList_new_p rfl rfl ?_)|(refine wpList_store_newp rfl _ _ rfl Zp (pk ⟨B,tu,ca,ep,s,ty,se,mx,re⟩) Zp_len HPL.out rfl rfl ?_))
 generalize W1.alloc (.cells (pl (pk ⟨B,tu,ca,ep,s,ty,se,mx,re⟩)).toArray 26)=W2 at *
 generalize W1.heap.size=g2 at *
 go_wp2_with (refine wpList_load_midw (by rfl) 24 _ rfl g2 0 rfl (cl B) _ HP.out.rangeB Tryz.underlying24 rfl (by rw [size24,cl_length,HLB.out]) ?_)
 refine (HF.out _).mono ?_
 rintro e w3 ⟨rfl,k3⟩
 have K3:=Qh (K2.out.trans k3)
 have H3:=Qh (H2.out.heap k3)
 have HP3:=Qh (HP.out.kept k3)
 clear k3
 go_wp2_with ((with_reducible refine wpList_load_q rfl _ rfl g1 67 ?_ s H3.out.stip ?_);exact rfl)
 refine (HST.out _).mono ?_
 rintro e w4 ⟨rfl,k4⟩
 have K4:=Qh (K3.out.trans k4)
 have H4:=Qh (H3.out.heap k4)
 have HP4:=Qh (HP3.out.kept k4)
 clear k4
 have c1:w4.cell? ⟨g2,64,none⟩=some (.int .i64 tu):=HP4.out.turn
 have c2:w4.cell? ⟨g2,65,none⟩=some (.int .i64 ca):=HP4.out.cas
 have c3:w4.cell? ⟨g2,66,none⟩=some (.int .i64 ep):=HP4.out.ep
 have c4:w4.cell? ⟨g1,73,none⟩=some (.int .i64 mx):=H4.out.cell 9 rfl
 have c5:w4.cell? ⟨g1,74,none⟩=some (.int .i64 re):=H4.out.cell 10 rfl
 go_wp2
 go_ret
 exact ⟨by rw [HE.out];first|done|rfl|exact congrArg (fun b=>Ending.returned (Value.bool b)) (by first|(rw [decide_eq_true_iff];omega)|(rw [decide_eq_false_iff_not];omega)),K4.out⟩
theorem rright_k (K:Tk) (hB:Brd K.B) (w:World):Calls Tryz.prog 19 #[kv K] w fun e w'=>e=.returned (.bool (okK K))∧Kept w w':=by
 cases hb:rightB K.B
 ·exact rrk_b_K K hB hb w
 cases hs:okSt K.s
 ·exact rrk_s_K K hB hb hs w
 by_cases tu0:0≤K.tu
 ·skip
  by_cases tu1:K.tu≤1
  ·skip
   by_cases ca0:0≤K.ca
   ·skip
    by_cases ca1:K.ca≤15
    ·skip
     by_cases ep0:-1≤K.ep
     ·skip
      by_cases ep1:K.ep≤63
      ·skip
       by_cases mx0:0≤K.mx
       ·skip
        by_cases mx1:K.mx≤1000
        ·skip
         by_cases re0:-1≤K.re
         ·skip
          by_cases re1:K.re≤4
          ·skip
           exact rrk_10_K K hB hb hs tu0 tu1 ca0 ca1 ep0 ep1 mx0 mx1 re0 re1 w
          ·exact rrk_9_K K hB hb hs tu0 tu1 ca0 ca1 ep0 ep1 mx0 mx1 re0 re1 w
         ·exact rrk_8_K K hB hb hs tu0 tu1 ca0 ca1 ep0 ep1 mx0 mx1 re0 w
        ·exact rrk_7_K K hB hb hs tu0 tu1 ca0 ca1 ep0 ep1 mx0 mx1 w
       ·exact rrk_6_K K hB hb hs tu0 tu1 ca0 ca1 ep0 ep1 mx0 w
      ·exact rrk_5_K K hB hb hs tu0 tu1 ca0 ca1 ep0 ep1 w
     ·exact rrk_4_K K hB hb hs tu0 tu1 ca0 ca1 ep0 w
    ·exact rrk_3_K K hB hb hs tu0 tu1 ca0 ca1 w
   ·exact rrk_2_K K hB hb hs tu0 tu1 ca0 w
  ·exact rrk_1_K K hB hb hs tu0 tu1 w
 ·exact rrk_0_K K hB hb hs tu0 w
set_option maxHeartbeats 4000000

def tenT:ByteArray:=⟨#[48,49,50,51,52,53,54,55,56,57]⟩
theorem ten_cut (k:Nat) (h:k<10):tenT.extract k (k+1)=⟨#[UInt8.ofNat (48+k)]⟩:=by
 have:∀ k:Fin 10,tenT.extract k.val (k.val+1)=⟨#[UInt8.ofNat (48+k.val)]⟩:=by decide +kernel
 exact this ⟨k,h⟩
theorem dT_low (n:Nat) (h:n<10):dT n=⟨#[UInt8.ofNat (48+n)]⟩:=by
 unfold dT;rw [Int.toNat_natCast,dig_1 h]
theorem dT_high (n:Nat) (h:¬ n<10):dT n=dT ((n / 10:Nat):Int)++⟨#[UInt8.ofNat (48+n % 10)]⟩:=by
 apply bs_inj
 rw [bs_append]
 unfold dT
 rw [Int.toNat_natCast,Int.toNat_natCast]
 show Lib.decDigits n=Lib.decDigits (n / 10)++_
 rw [Lib.decDigits,dif_neg h]
 rfl
theorem dT_len (n:Nat):(dT n).size≤n+1:=by
 induction n using Nat.strongRecOn with
 | ind n ih =>
  by_cases h:n<10
  ·rw [dT_low n h];show 1≤_;omega
  ·rw [dT_high n h,ByteArray.size_append]
   have:=ih (n / 10) (by omega)
   show _+1≤_
   omega
theorem kdec_low (n:Nat) (h:n<10) (w:World):Calls Tryz.prog 24 #[.int .i64 n] w fun e w'=>e=.returned (.string (dT n))∧Kept w w':=by
 obtain ⟨c,hc⟩:∃ c,tenT.extract n (n+1)=c:=⟨_,rfl⟩
 have hsl:=lrun_cut tenT n (n+1) n ((n:Int)+1) rfl (by omega) (by omega) (by show n+1≤10;omega) c hc
 rw [dT_low n h,← ten_cut n h,hc]
 clear hc
 unfold tenT at hsl
 have h':(n:Int)<10:=by omega
 go_enter Tryz.func24,Tryz.ntmps24
 go_wp2
 go_ret
 exact ⟨rfl,Kept.refl _⟩
theorem kdec_is:∀ (f n:Nat),n≤f→n≤100000→∀ w,Calls Tryz.prog 24 #[.int .i64 n] w fun e w'=>e=.returned (.string (dT n))∧Kept w w':=by
 intro f
 induction f with
 | zero =>
  intro n h0 hn w
  exact kdec_low n (by omega) w
 | succ f ih =>
  intro n h0 hn w
  by_cases h:n<10
  ·exact kdec_low n h w
  ·have hlt:n % 10<10:=Nat.mod_lt _ (by omega)
   have HI:=Qh (ih (n / 10) (by omega) (by omega))
   have hl:=dT_len (n / 10)
   have hD:=dT_high n h
   rw [← ten_cut (n % 10) hlt] at hD
   obtain ⟨c,hc⟩:∃ c,tenT.extract (n % 10) (n % 10+1)=c:=⟨_,rfl⟩
   have hsl:=lrun_cut tenT (n % 10) (n % 10+1) ((n % 10:Nat):Int) (((n % 10:Nat):Int)+1) rfl (by omega) (by omega) (by show n % 10+1≤10;omega) c hc
   have hcs:c.size=1:=by rw [← hc,ten_cut (n % 10) hlt];rfl
   unfold tenT at hsl
   rw [hc] at hD
   rw [hD]
   have h':¬ (n:Int)<10:=by omega
   have e1:(n:Int).tdiv 10=((n / 10:Nat):Int):=by rw [Int.tdiv_eq_ediv_of_nonneg (by omega)];omega
   have e2:(n:Int).tmod 10=((n % 10:Nat):Int):=by rw [Int.tmod_eq_emod_of_nonneg (by omega)];omega
   have hs:(dT ((n / 10:Nat):Int)).size+1≤9223372036854775807:=by omega
   have wq:IntKind.i64.wrap ((n / 10:Nat):Int)=((n / 10:Nat):Int):=IntWalk.i64_in _ (by omega)
   have wr:IntKind.i64.wrap (((n % 10:Nat):Int)+1)=((n % 10:Nat):Int)+1:=IntWalk.i64_in _ (by omega)
   generalize dT ((n / 10:Nat):Int)=D at *
   generalize n / 10=q at *
   generalize n % 10=r at *
   clear h hD hc
   go_enter Tryz.func24,Tryz.ntmps24
   go_upto_region 4 with fail
   refine wp_region_held_drew (S:=Kept _) (by kernel_rfl) (Kept.refl _).drew (fun Qj=>?_)
   refine rT 0 11 (.int .i64 n) rfl rfl Qj ?_
   simp only [pA,pN,sZ,sU]
   refine rT 1 12 (.int .i64 q) rfl rfl Qj ?_
   simp only [pA,pN,sZ,sU]
   refine rT 3 14 (.string ⟨#[48,49,50,51,52,53,54,55,56,57]⟩) rfl rfl Qj ?_
   simp only [pA,pN,sZ,sU]
   refine rT 4 15 (.int .i64 n) rfl rfl Qj ?_
   simp only [pA,pN,sZ,sU]
   refine rT 5 16 (.int .i64 r) rfl rfl Qj ?_
   simp only [pA,pN,sZ,sU]
   refine rT 6 17 (.int .i64 n) rfl rfl Qj ?_
   simp only [pA,pN,sZ,sU]
   refine rT 7 18 (.int .i64 r) rfl rfl Qj ?_
   simp only [pA,pN,sZ,sU]
   refine rT 8 19 (.int .i64 ((r:Int)+1)) rfl rfl Qj ?_
   simp only [pA,pN,sZ,sU]
   refine rT 9 20 (.string c) rfl rfl Qj ?_
   simp only [pA,pN,sZ,sU]
   refine wpAnyH_ready (rs:=[2]) (by kernel_rfl) (by simp) ?_
   refine AllReadyH.cons rfl (fun K' hK'=>?_) AllReadyH.nil
   go_simp
   refine (HI.out _).mono ?_
   rintro e w1 ⟨rfl,k1⟩
   refine hK'.out _ _ (Qj.trans k1) (fun _=>?_)
   replace Qj:=Qj.trans k1
   clear hK' K' k1
   refine rT 10 21 (.string (D++c)) rfl rfl Qj ?_
   simp only [pA,pN,sZ,sU]
   refine rT 11 2 (.string (D++c)) rfl rfl Qj ?_
   try simp only [Act.put,sA,pA,pN,sZ,sU]
   refine wpAnyH_done (by kernel_rfl) ?_ _
   go_wp2
   go_ret
   exact ⟨rfl,Qj⟩
theorem decimal_k (n:Nat) (hn:n≤100000) (w:World):Calls Tryz.prog 24 #[.int .i64 n] w fun e w'=>e=.returned (.string (dT n))∧Kept w w':=kdec_is n n (Nat.le_refl _) hn w
set_option maxHeartbeats 4000000

theorem rnames_k (w:World):Calls Tryz.prog 23 #[] w fun e w'=>∃ g,e=.returned (.slice (some ⟨g,0,none⟩) 8 8)∧w'.cell? ⟨g,2,none⟩=some (.string ⟨#[115,105,100,101,32,119,104,105,116,101,10]⟩)∧w'.cell? ⟨g,3,none⟩=some (.string ⟨#[115,105,100,101,32,98,108,97,99,107,10]⟩)∧Kept w w':=by
 go_enter Tryz.func23,Tryz.ntmps23
 go_wp2
 go_ret
 exact ⟨_,rfl,(cell_of_row _ _ 2 _ _ (0,0) (heap_alloc_new _ _)).trans rfl,(cell_of_row _ _ 3 _ _ (0,0) (heap_alloc_new _ _)).trans rfl,(Kept.refl _).alloc _⟩
end Go.Proofs.YtlbipjmmlobofaaGreatDoor
