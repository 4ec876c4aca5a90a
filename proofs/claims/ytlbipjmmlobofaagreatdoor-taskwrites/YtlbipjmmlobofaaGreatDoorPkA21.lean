/- TsR: my texts, in their order. -/
import Derived.Test.YtlbipjmmlobofaaGreatDoorPkA06
import Derived.Test.YtlbipjmmlobofaaGreatDoorPkA19
import Derived.Test.YtlbipjmmlobofaaGreatDoorPkA20
namespace Go.Proofs.YtlbipjmmlobofaaGreatDoor
open Go.RowKit
set_option linter.unusedVariables false
set_option linter.unusedSimpArgs false
set_option maxRecDepth 100000
set_option maxHeartbeats 16000000

theorem sp_rd {s:Stp} (hs:okSt s=true):spz (bs (txT s)++[10])=⟨(bs (txT s)).length,s,0⟩:=by
 have h1:=rd_whole hs 10 (by decide) (by decide)
 have h2:=stip_up (t:=txT s++⟨#[10]⟩) (i:=0) (Nat.zero_le _)
 rw [show ((0:Nat):Int)=0 from rfl,h1,List.drop_zero,bs_append] at h2
 have h3:=Prod.mk.inj h2
 have h4:=Sp.mk.inj h3.2
 refine Pz.eq3 ?_ h3.1.symm h4.2.2.symm
 have:=h4.1
 rw [Nat.zero_add] at this
 have e:bs ⟨#[10]⟩=[10]:=rfl
 rw [e] at this
 rw [bs_len]
 omega
def wkT:ByteArray:=⟨#[98,101,103,105,110,10,102,111,114,115,121,116,104,32,56,47,56,47,56,47,56,47,56,47,49,75,54,47,56,47,107,54,82,10,115,116,105,112,32,35,49,10,101,110,100,10]⟩
def wkB:List UInt8:=[56,47,56,47,56,47,56,47,56,47,49,75,54,47,56,47,107,54,82]
def wkL:List Int:=List.replicate 40 0++([0,6,0,0,0,0,0,0]++(List.replicate 8 0++[-6,0,0,0,0,0,0,4]))
def KW:Tk:=⟨bd wkL,0,0,-1,⟨1,1,1,false⟩,false,false,0,-1⟩
theorem wk_says:says wkB=some (wkL,7,8):=by decide +kernel
theorem wk_fs:fsF wkB=(bd wkL,wkB.length,0):=fsF_is (.inr ⟨(wkL,7,8),wk_says,rfl,.inr ⟨by decide,rfl,rfl⟩⟩)
theorem wk_st:bs (txT KW.s)=[35,49]:=by
 show bs (txT ⟨1,1,1,false⟩)=_
 unfold txT
 rw [if_neg (by simp),bs_append,bs_dT,show (1:Int).toNat=1 from rfl,dig_1 (by omega)]
 rfl
theorem wk_op:opL7 KW=[]:=rfl
theorem wk_bs:bs wkT=txR 0 wkB KW:=by
 unfold txR txA txO
 rw [wk_st,wk_op]
 rfl
theorem KW_ok:OkT KW:=⟨.inl rfl,by decide,by decide,by decide,by decide,by decide⟩
theorem wk_tk:tkz fsL rlL (bs wkT)=⟨(bs wkT).length,KW,0⟩:=by
 rw [wk_bs]
 exact tk_rd fsL rlL 0 (by omega) wkB KW (by decide) wk_fs KW_ok (sp_rd (by decide))
theorem rd_all {t:ByteArray} {K:Tk} (h:tkz fsL rlL (bs t)=⟨(bs t).length,K,0⟩):rdz fsL rlL (bs t)=(t.size,0)∧rdK t=K:=by
 have h1:rdz fsL rlL (bs t)=(t.size,0):=by
  have:=rdz_all (F:=fsL) (P:=rlL) (m:=bs t) (by rw [h]) (by rw [h];exact Nat.lt_irrefl _)
  rw [this,h,bs_len]
 exact ⟨h1,by unfold rdK;rw [h1,if_pos rfl,h]⟩
theorem wk_rd:rdz fsL rlL (bs wkT)=(wkT.size,0)∧rdK wkT=KW:=rd_all wk_tk
theorem wpList_bt_q3w {ops:Array Oper} {rest:List Oper} {o:Oper} {a:Act} {w:World} {Q:Exit→Act→World→Prop} (hw:Region.wanted o (yielded ops a.tmps)=true) (x0 x1 x2:Operand) (ho:o.op=.build 28 #[(0,x0),(1,x1),(2,x2)]) (i j k:Int)
  (h0:a.eval x0=.int .i64 i) (h1:a.eval x1=.int .i64 j) (h2:a.eval x2=.int .i64 k)
  (h:wpList Tryz.prog ops Q rest (a.put o.dst (qv ⟨i,j,k,false⟩)) w):wpList Tryz.prog ops Q (o::rest) a w :=
 wpList_step fun _ hK=>by
  rw [if_pos hw]
  have hf:Tryz.prog.built 28 ((#[(0,x0),(1,x1),(2,x2)]:Array (Nat × Operand)).map fun (i,x)=>(i,a.eval x)).toList=some (ql ⟨i,j,k,false⟩).toArray:=by
   have:((#[(0,x0),(1,x1),(2,x2)]:Array (Nat × Operand)).map fun (i,x)=>(i,a.eval x)).toList=[(0,.int .i64 i),(1,.int .i64 j),(2,.int .i64 k)]:=by simp [h0,h1,h2]
   rw [this];exact bt_q3 i j k
  exact wp_build _ _ ho (by rw [hf];rfl) (by rw [hf];exact hK _ _ h)
theorem KAt.stip {w:World} {g:Nat} {K:Tk} (h:KAt w g K):w.rangeAt g 67 (ql K.s):=by
 intro j v hv
 have hj:j<4:=by
  obtain ⟨hj,_⟩:=List.getElem?_eq_some_iff.1 hv
  exact hj
 have h1:=h.cell (k:=3+j) (v:=v) (by
  have:j=0∨j=1∨j=2∨j=3:=by omega
  rcases this with rfl|rfl|rfl|rfl <;> exact hv)
 rw [show 67+j=64+(3+j) by omega]
 exact h1
theorem task_wakes (w:World) (hT:TabS w):Calls Tryz.prog 7 #[] w fun e w'=>e=.returned (.bool true)∧Kept w w':=by
 have HRd:=Qh (fun w hT=>taskread_is wkT (by decide) w hT)
 have HT:=Qh hT
 clear hT
 go_enter Tryz.func7,Tryz.ntmps7
 go_wp2_with fail
 refine (HRd.out _ HT.out).mono ?_
 rintro e w1 ⟨rfl,_,k1⟩
 rw [wk_rd.1,wk_rd.2]
 dsimp only
 have hl:KW.B.length=64:=bd_length _
 have H1:=Qh (KAt.new w1 hl)
 have HK:=Qh (k1.alloc (.cells (kcl KW).toArray 30))
 have c0:=H1.out.cell 0 rfl
 have c2:=H1.out.cell 2 rfl
 have c10:=H1.out.cell 10 rfl
 have hs:KW.s=⟨1,1,1,false⟩:=rfl
 have HRg:=Qh H1.out.stip
 rw [hs] at HRg
 have HL:=Qh hl
 clear k1 hs hl
 go_upto_region 2 with (first|(with_reducible refine wpList_new_k rfl rfl ?_)|(refine wpList_store_newk rfl _ _ rfl Z75 KW Z75_len HL.out rfl rfl ?_))
 generalize w1.alloc (.cells (kcl KW).toArray 30)=W1 at *
 generalize w1.heap.size=g at *
 have e0:KW.tu=0:=rfl
 have e2:KW.ep=-1:=rfl
 have e10:KW.re=-1:=rfl
 rw [e0] at c0
 rw [e2] at c2
 rw [e10] at c10
 go_wp2_with (first|(refine wpList_load_q (by rfl) _ rfl g 67 rfl ⟨1,1,1,false⟩ HRg.out ?_)|(refine wpList_bt_q3w (by rfl) _ _ _ rfl 1 1 1 rfl rfl rfl ?_)|(refine wpList_eql_q (by rfl) _ _ _ rfl ⟨1,1,1,false⟩ rfl rfl ?_))
 go_ret
 exact ⟨rfl,HK.out⟩
end Go.Proofs.YtlbipjmmlobofaaGreatDoor
