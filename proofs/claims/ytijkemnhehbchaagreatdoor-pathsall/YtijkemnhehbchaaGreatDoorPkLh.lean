/- LeL · LeH: my texts, in their order. -/
import Derived.Test.YtijkemnhehbchaaGreatDoorPkGe
import Derived.Test.YtijkemnhehbchaaGreatDoorPkLa
import Derived.Test.YtijkemnhehbchaaGreatDoorPkLf
import Derived.Test.YtijkemnhehbchaaGreatDoorPkLg
namespace Go.Proofs.YtijkemnhehbchaaGreatDoor
open Go.RowKit
set_option linter.unusedVariables false
set_option linter.unusedSimpArgs false
set_option maxRecDepth 100000
theorem allR_in {p:Ps} {m:Mv} (h:m ∈ allR p):pwI p=0∧goesM p m=true:=by
 unfold allR at h
 split at h
 ·next hr=>exact ⟨hr,(mem_allN (right_t hr).1).1 h⟩
 ·cases h
theorem legR_is (p:Ps) (hB:Brd p.B):(allR p).filter (fun m=>!barsB p m)=legR p:=by
 unfold allR legR legL
 split
 ·next hr =>
  apply List.filter_congr
  intro m hm
  rw [bars_stay hB hr ((mem_allN (right_t hr).1).1 hm),Bool.not_not]
 ·rfl
theorem legR_long (p:Ps):(legR p).length≤24576:=by
 unfold legR legL;split
 ·exact Nat.le_trans (List.length_filter_le _ _) (allN_len p 64)
 ·simp
def TellF (w:World) (L:List Mv) (e:Ending) (w':World):Prop:=∃ v g,e=.returned v∧LsM w' g v L∧Kept w w'∧w.heap.size≤g
theorem OwnM.lst {w:World} {base:Nat} {v:Value} {l:List Mv} (h:OwnM w base v l) :
  ∃ g,base≤g∧LsM w g v l∧(∀ off cap,v=.slice (some ⟨g,off,none⟩) l.length cap→w.there g off (l.length*3))∧(0<l.length→g<w.heap.size):=by
 obtain ⟨g0,hls,hlow⟩:=h.ls
 rcases h.2 with ⟨e,h0⟩|⟨g,cap,cur,e,hb,hh,hnc,hcm,hcs,ht⟩
 ·refine ⟨base,Nat.le_refl _,.inl ⟨e,List.eq_nil_of_length_eq_zero h0⟩,fun off cap he=>?_,fun hl=>by omega⟩
  rw [e] at he
  simp at he
 ·refine ⟨g,hb,?_,fun off cap' he=>?_,fun _=>lt_of_heap hh⟩
  ·rcases hls with ⟨e',h0⟩|⟨off,cap',e',q⟩
   ·rw [e] at e';simp at e'
   ·rw [e] at e'
    injection e' with e1 e2 e3
    injection e1 with e1
    injection e1 with e1 e4
    subst e1
    exact .inr ⟨off,cap',by rw [e,← e4,← e3],q⟩
  ·rw [e] at he
   injection he with e1 e2 e3
   injection e1 with e1
   injection e1 with e1 e4
   subst e4
   intro j hj
   have hsz:j<cur.size:=by
    have:=congrArg List.length ht
    rw [List.length_take,mlL_len,Array.length_toList] at this
    omega
   rw [Nat.zero_add,cell_of_row w g j cur _ (0,0) hh]
   exact ⟨by simp [hsz],by simp [World.frozen?,hh]⟩
theorem bar_kb {W x w:World} {p:Ps} {gk gc gb gp r g gl:Nat} {a b:Addr} (hBr:Bar x p gk gc gb gp r g a b) (h:KB x gl w) (k:Kept W x) (hW:W.heap.size≤gl) (hT:TabG W) (hR:RuAt W r g a b)
  (n1:gk≠gl) (n2:gc≠gl) (n3:gb≠gl) (n4:gp≠gl):Bar w p gk gc gb gp r g a b :=
 ⟨hT.kept (h.below k hW),hR.kept (h.below k hW),hBr.pos.kb h n4,h.cell n1 hBr.kg,h.cell n2 hBr.ck,h.cell n3 hBr.rr⟩
theorem bar_enters (args:Array Value) (w:World):(callFunc 107 args).run Tryz.prog w=.ok (.enter 107 args) w :=
 fun_enters Tryz.func107 (by kernel_rfl) rfl args w
set_option maxHeartbeats 2000000 in
theorem moves_f (r g:Nat) (a b:Addr) (p:Ps) (hB:Brd p.B) (w:World) (hT:TabG w) (hR:RuAt w r g a b) :
  Calls Tryz.prog 73 #[.pointer (some ⟨r,0,none⟩),.agg (pl p).toArray] w (TellF w (legR p)):=by
 have HP:=Qh (PAt.new w hB.1)
 have HK0:=Qh ((Kept.refl w).alloc (.cells (pl p).toArray 26))
 have HT:=Qh (hT.kept HK0.out)
 have HR:=Qh (hR.kept HK0.out)
 have hpl:Hid (p.B.length=64):=hB.1
 have HAl:=Qh (fun w hT hE=>all_is g a p hB w hT hE)
 have HBs:=Qh (fun w hT hR=>bars_is r g a b p hB w hT hR)
 have HIn:Hid (∀ m,m ∈ allR p→∀ gk gc gb gp w,Bar w p gk gc gb gp r g a b→Calls Tryz.prog 107 (#[.agg (ml m).toArray]++barV gk gc gb gp) w fun e w'=>e=.returned (.bool (barsB p m))∧Kept w w') :=
  fun m hm gk gc gb gp w hBr=>bars1_is gk gc gb gp r g a b p hB (allR_in hm).1 m (allR_in hm).2 w hBr
 have HLg:=Qh (legR_is p hB)
 generalize hL:allR p=L at *
 clear hB hT hR hL
 go_enter Tryz.func73,Tryz.ntmps73
 go_wp2
 generalize hW:w.alloc (.cells (pl p).toArray 26)=W at *
 clear hW
 refine wp_region_held_drew (S:=Kept _) (by kernel_rfl) (Kept.refl _).drew (fun Qj=>?_)
 refine rT 0 7 (.pointer (some ⟨r,0,none⟩)) rfl rfl Qj ?_
 simp only [pA,pN,sZ,sU]
 refine rT 1 8 (.pointer (some ⟨r,0,none⟩)) rfl rfl Qj ?_
 simp only [pA,pN,sZ,sU]
 refine rT 2 9 (.pointer (some ⟨r,0,none⟩)) rfl rfl Qj ?_
 simp only [pA,pN,sZ,sU]
 refine rC 3 10 (.pointer (some ⟨g,0,none⟩)) rfl rfl (fun _ h=>kept_cell h (HR.out.gen)) Qj ?_
 simp only [pA,pN,sZ,sU]
 refine rY 4 11 rfl rfl (take_load_ps (by rfl) _ rfl _ rfl p hpl.out (fun _ h=>(HP.out).kept h)) Qj ?_
 simp only [pA,pN,sZ,sU]
 refine rT 6 13 (.pointer (some ⟨r,0,none⟩)) rfl rfl Qj ?_
 simp only [pA,pN,sZ,sU]
 refine rY 7 14 rfl rfl (take_load_ps (by rfl) _ rfl _ rfl p hpl.out (fun _ h=>(HP.out).kept h)) Qj ?_
 simp only [pA,pN,sZ,sU]
 have HB0:=Qh Qj.size
 refine rR 5 rfl (fun K hK=>?_)
 go_simp
 refine (HAl.out _ (HT.out.kept Qj) (HR.out.ey.kept Qj)).mono ?_
 rintro e x1 ⟨vx1,rfl,hox1,gx1⟩
 obtain ⟨ax1,cx1,rfl⟩:=hox1.slice
 have HOx1:=Qh hox1
 clear hox1
 refine hK.out _ _ (Qj.trans gx1) (fun _=>?_)
 replace Qj:=Qj.trans gx1
 clear hK K
 refine rR 8 rfl (fun K hK=>?_)
 go_simp
 refine (HBs.out _ (HT.out.kept Qj) (HR.out.kept Qj)).mono ?_
 rintro e x2 ⟨gk,gc,gb,gp,rfl,hBr,⟨l1,l2,l3,l4⟩,kx⟩
 refine hK.out _ _ (Qj.trans kx) (fun _=>?_)
 replace Qj:=Qj.trans kx
 clear hK K
 obtain ⟨gl,hbl,hls,hth,hlow⟩:=HOx1.out.lst
 have hWl:W.heap.size≤gl:=Nat.le_trans HB0.out hbl
 have hAsk:Asks x2 gl 107 (barV gk gc gb gp) L (barsB p):=by
  refine ⟨bar_enters,fun m hm w' hKB=>?_⟩
  have hpos:0<L.length:=List.length_pos_of_mem hm
  have:=hlow hpos
  exact HIn.out m hm gk gc gb gp w' (bar_kb hBr hKB Qj hWl HT.out HR.out (by omega) (by omega) (by omega) (by omega))
 have HDl:=Qh (deleteF_is x2 gl _ _ L (barsB p) hAsk _ x2 (KB.refl _ _) (hls.kept kx) (fun off cap he=>there_kept (hth off cap he) kx))
 clear hAsk hls hth hlow hbl l1 l2 l3 l4 hBr kx gx1
 refine rR 9 rfl (fun K hK=>?_)
 go_simp
 refine HDl.out.mono ?_
 rintro e x3 ⟨u,rfl,hlu,hkb⟩
 have hk3:Kept W x3:=hkb.below Qj hWl
 refine hK.out _ _ hk3 (fun _=>?_)
 replace Qj:=hk3
 have HU:=Qh hlu
 clear hK K hlu hkb hk3
 refine rT 10 4 u rfl rfl Qj ?_
 simp only [pA,pN,sZ,sU]
 refine wpAnyH_done (by kernel_rfl) ?_ _
 go_wp2
 go_ret
 exact ⟨u,gl,rfl,by rw [← HLg.out];exact HU.out,HK0.out.trans Qj,Nat.le_trans HK0.out.size hWl⟩
end Go.Proofs.YtijkemnhehbchaaGreatDoor
