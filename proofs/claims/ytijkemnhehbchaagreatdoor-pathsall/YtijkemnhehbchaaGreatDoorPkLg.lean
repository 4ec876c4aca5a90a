/- LeG: my texts, in their order. -/
import Derived.Test.YtijkemnhehbchaaGreatDoorPkLe
namespace Go.Proofs.YtijkemnhehbchaaGreatDoor
open Go.RowKit
set_option linter.unusedVariables false
set_option linter.unusedSimpArgs false
set_option maxRecDepth 100000
def Bx (w:World) (g:Nat) (v:Value) (T:TypeId):Prop:=w.heap[g]?=some (.cells #[v] T (0,0))
theorem Bx.kept {w w':World} {g:Nat} {v:Value} {T:TypeId} (h:Bx w g v T) (k:Kept w w'):Bx w' g v T:=k.heap h
theorem Bx.set {w:World} {g:Nat} {v:Value} {T:TypeId} (h:Bx w g v T) (u:Value):Bx (w.setCell ⟨g,0,none⟩ u) g u T:=by
 unfold Bx at *
 rw [heap_setCell_same _ _ _ _ _ _ h];rfl
theorem Bx.other {w:World} {g g':Nat} {v:Value} {T:TypeId} (h:Bx w g v T) (u:Value) (hne:g≠g'):Bx (w.setCell ⟨g',0,none⟩ u) g v T:=by
 unfold Bx at *
 rw [heap_setCell_other _ _ _ _ (by simpa using hne)];exact h
theorem Bx.ne {w:World} {g g':Nat} {v v':Value} (h:Bx w g v 3) (h':Bx w g' v' 4):g≠g':=by
 rintro rfl
 unfold Bx at h h'
 rw [h] at h'
 simp at h'
theorem kept_set {w w':World} (k:Kept w w') {g:Nat} (hg:w.heap.size≤g) (u:Value):Kept w (w'.setCell ⟨g,0,none⟩ u):=by
 refine ⟨k.os,k.output,by have:=k.size;simpa [World.setCell] using this,fun i hi=>?_⟩
 rw [heap_setCell_other _ _ _ _ (by show i≠g;omega)]
 exact k.block i hi
set_option maxHeartbeats 8000000 in
theorem bars_is (r g:Nat) (a b:Addr) (p:Ps) (hB:Brd p.B) (w:World) (hT:TabG w) (hR:RuAt w r g a b) :
  Calls Tryz.prog 84 #[.pointer (some ⟨r,0,none⟩),.agg (pl p).toArray] w fun e w'=>∃ gk gc gb gp,e=.returned (.func (.func 107) #[] (barV gk gc gb gp))∧Bar w' p gk gc gb gp r g a b∧(w.heap.size≤gk∧w.heap.size≤gc∧w.heap.size≤gb∧w.heap.size≤gp)∧Kept w w':=by
 have HP:Hid (PAt _ _ p):=⟨hB.1,heap_alloc2_new w (.cells #[.pointer (some ⟨r,0,none⟩)] 63) (.cells (pl p).toArray 26)⟩
 have hrb:Bx _ _ _ _:=heap_alloc2_old w (.cells #[.pointer (some ⟨r,0,none⟩)] 63) (.cells (pl p).toArray 26)
 have HRb:=Qh hrb
 have HK0:=Qh (((Kept.refl w).alloc (.cells #[.pointer (some ⟨r,0,none⟩)] 63)).alloc (.cells (pl p).toArray 26))
 have HT:=Qh (hT.kept HK0.out)
 have HR:=Qh (hR.kept HK0.out)
 have HKg:=Qh (fun w=>king_any p.B hB p.t w)
 have HCk:=Qh (fun w hS hR=>rchk_is r g a b p hB w hS hR)
 have hpl:Hid (p.B.length=64):=hB.1
 have HVk:Hid (∃ x,kingI p.B p.t=x):=⟨_,rfl⟩
 have HVc:Hid (∃ x,checkB p.B p.t=x):=⟨_,rfl⟩
 obtain ⟨kI,hkI⟩:=HVk.out
 obtain ⟨cB,hcB⟩:=HVc.out
 rw [hkI] at HKg
 rw [hcB] at HCk
 have HkI:=Qh hkI
 have HcB:=Qh hcB
 clear hB hT hR hkI hcB HVk HVc hrb
 go_enter Tryz.func84,Tryz.ntmps84
 go_wp2
 generalize hW:(w.alloc (.cells #[.pointer (some ⟨r,0,none⟩)] 63)).alloc (.cells (pl p).toArray 26)=W at *
 clear hW
 refine wp_region_held_drew (S:=Kept _) (by kernel_rfl) (Kept.refl _).drew (fun Qj=>?_)
 refine rT 0 7 (.pointer (some ⟨w.heap.size+1,0,none⟩)) rfl rfl Qj ?_
 simp only [pA,pN,sZ,sU]
 refine rY 1 8 rfl rfl (take_load_pb (by rfl) _ rfl _ rfl p hpl.out (fun _ h=>(HP.out).kept h)) Qj ?_
 simp only [pA,pN,sZ,sU]
 refine rT 2 9 (.pointer (some ⟨w.heap.size+1,64,none⟩)) rfl rfl Qj ?_
 simp only [pA,pN,sZ,sU]
 refine rC 3 10 (.int .i64 p.t) rfl rfl (fun _ h=>kept_cell h (HP.out.turn)) Qj ?_
 simp only [pA,pN,sZ,sU]
 refine rC 5 12 (.pointer (some ⟨r,0,none⟩)) rfl rfl (fun _ h=>kept_cell h ((cell_box HRb.out))) Qj ?_
 simp only [pA,pN,sZ,sU]
 refine rY 6 13 rfl rfl (take_load_ps (by rfl) _ rfl _ rfl p hpl.out (fun _ h=>(HP.out).kept h)) Qj ?_
 simp only [pA,pN,sZ,sU]
 generalize hWd:W.drew=Wd at *
 clear hWd
 refine wpAnyH_ready (rs:=[4,8,9]) (by kernel_rfl) (by simp) ?_
 refine AllReadyH.cons rfl (fun K hK=>?_) (AllReadyH.cons rfl (fun K hK=>?_) (AllReadyH.cons rfl (fun K hK=>?_) AllReadyH.nil))
 ·skip
  go_simp
  refine (HKg.out _).mono ?_
  rintro e v1 ⟨rfl,kx⟩
  refine hK.out _ _ (Qj.trans kx) (fun _=>?_)
  replace Qj:=Qj.trans kx
  clear hK K kx
  refine wpAnyH_ready (rs:=[7,8,9]) (by kernel_rfl) (by simp) ?_
  refine AllReadyH.cons rfl (fun K hK=>?_) (AllReadyH.cons rfl (fun K hK=>?_) (AllReadyH.cons rfl (fun K hK=>?_) AllReadyH.nil))
  ·skip
   go_simp
   refine (HCk.out _ (HT.out.tabm.tabs.steps.kept Qj) (HR.out.kept Qj)).mono ?_
   rintro e v2 ⟨rfl,kx⟩
   refine hK.out _ _ (Qj.trans kx) (fun _=>?_)
   replace Qj:=Qj.trans kx
   clear hK K kx
   refine wpAnyH_ready (rs:=[8,9]) (by kernel_rfl) (by simp) ?_
   refine AllReadyH.cons rfl (fun K hK=>?_) (AllReadyH.cons rfl (fun K hK=>?_) AllReadyH.nil)
   ·skip
    go_simp
    have hX5:Bx _ _ _ _:=heap_alloc_new v2 (.cells #[.int .i64 0] 3)
    have hLg5:W.heap.size≤v2.heap.size:=Qj.size
    refine hK.out _ _ (Qj.alloc _) (fun _=>?_)
    replace Qj:=Qj.alloc (.cells #[.int .i64 0] 3)
    clear hK K
    try simp only [List.getElem_toArray,List.getElem_cons_succ,List.getElem_cons_zero,Act.put,List.setIfInBounds_toArray,List.set_cons_zero,List.set_cons_succ]
    generalize v2.alloc (.cells #[.int .i64 0] 3)=v3 at *
    generalize v2.heap.size=g5 at *
    refine rR 9 rfl (fun K hK=>?_)
    go_simp
    have hX6:Bx _ _ _ _:=heap_alloc_new v3 (.cells #[.bool false] 4)
    replace hX5:=hX5.kept ((Kept.refl v3).alloc (.cells #[.bool false] 4))
    have hLg6:W.heap.size≤v3.heap.size:=Qj.size
    refine hK.out _ _ (Qj.alloc _) (fun _=>?_)
    replace Qj:=Qj.alloc (.cells #[.bool false] 4)
    clear hK K
    try simp only [List.getElem_toArray,List.getElem_cons_succ,List.getElem_cons_zero,Act.put,List.setIfInBounds_toArray,List.set_cons_zero,List.set_cons_succ]
    generalize v3.alloc (.cells #[.bool false] 4)=v4 at *
    generalize v3.heap.size=g6 at *
    refine rR 10 rfl (fun K hK=>?_)
    have hne:=hX5.ne hX6
    have c5:=cell_box hX5
    have f5:=frozen_box hX5
    go_simp
    refine hK.out _ _ (kept_set Qj hLg5 (.int .i64 kI)) (fun _=>?_)
    replace Qj:=kept_set Qj hLg5 (.int .i64 kI)
    replace hX6:=hX6.other (.int .i64 kI) hne.symm
    replace hX5:=hX5.set (.int .i64 kI)
    clear hK K c5 f5
    generalize v4.setCell ⟨g5,0,none⟩ (.int .i64 kI)=v5 at *
    refine rR 11 rfl (fun K hK=>?_)
    have c6:=cell_box hX6
    have f6:=frozen_box hX6
    go_simp
    refine hK.out _ _ (kept_set Qj hLg6 (.bool cB)) (fun _=>?_)
    replace Qj:=kept_set Qj hLg6 (.bool cB)
    replace hX5:=hX5.other (.bool cB) hne
    replace hX6:=hX6.set (.bool cB)
    clear hK K c6 f6
    generalize v5.setCell ⟨g6,0,none⟩ (.bool cB)=v6 at *
    refine wpAnyH_done (by kernel_rfl) ?_ _
    have HF:Hid (Bar v6 p g5 g6 w.heap.size (w.heap.size+1) r g a b):=⟨HT.out.kept Qj,HR.out.kept Qj,HP.out.kept Qj,by rw [HkI.out];exact cell_box hX5,by rw [HcB.out];exact cell_box hX6,cell_box (HRb.out.kept Qj)⟩
    have HKf:=Qh (HK0.out.trans Qj)
    have HL:Hid (w.heap.size≤g5∧w.heap.size≤g6):=⟨Nat.le_trans HK0.out.size hLg5,Nat.le_trans HK0.out.size hLg6⟩
    clear Qj hX5 hX6 hne hLg5 hLg6
    go_wp2
    go_ret
    exact ⟨g5,g6,w.heap.size,w.heap.size+1,rfl,HF.out,⟨HL.out.1,HL.out.2,Nat.le_refl _,Nat.le_succ _⟩,HKf.out⟩
   ·skip
    go_simp
    have hX6:Bx _ _ _ _:=heap_alloc_new v2 (.cells #[.bool false] 4)
    have hLg6:W.heap.size≤v2.heap.size:=Qj.size
    refine hK.out _ _ (Qj.alloc _) (fun _=>?_)
    replace Qj:=Qj.alloc (.cells #[.bool false] 4)
    clear hK K
    try simp only [List.getElem_toArray,List.getElem_cons_succ,List.getElem_cons_zero,Act.put,List.setIfInBounds_toArray,List.set_cons_zero,List.set_cons_succ]
    generalize v2.alloc (.cells #[.bool false] 4)=v3 at *
    generalize v2.heap.size=g6 at *
    refine rR 8 rfl (fun K hK=>?_)
    go_simp
    have hX5:Bx _ _ _ _:=heap_alloc_new v3 (.cells #[.int .i64 0] 3)
    replace hX6:=hX6.kept ((Kept.refl v3).alloc (.cells #[.int .i64 0] 3))
    have hLg5:W.heap.size≤v3.heap.size:=Qj.size
    refine hK.out _ _ (Qj.alloc _) (fun _=>?_)
    replace Qj:=Qj.alloc (.cells #[.int .i64 0] 3)
    clear hK K
    try simp only [List.getElem_toArray,List.getElem_cons_succ,List.getElem_cons_zero,Act.put,List.setIfInBounds_toArray,List.set_cons_zero,List.set_cons_succ]
    generalize v3.alloc (.cells #[.int .i64 0] 3)=v4 at *
    generalize v3.heap.size=g5 at *
    refine rR 10 rfl (fun K hK=>?_)
    have hne:=hX5.ne hX6
    have c5:=cell_box hX5
    have f5:=frozen_box hX5
    go_simp
    refine hK.out _ _ (kept_set Qj hLg5 (.int .i64 kI)) (fun _=>?_)
    replace Qj:=kept_set Qj hLg5 (.int .i64 kI)
    replace hX6:=hX6.other (.int .i64 kI) hne.symm
    replace hX5:=hX5.set (.int .i64 kI)
    clear hK K c5 f5
    generalize v4.setCell ⟨g5,0,none⟩ (.int .i64 kI)=v5 at *
    refine rR 11 rfl (fun K hK=>?_)
    have c6:=cell_box hX6
    have f6:=frozen_box hX6
    go_simp
    refine hK.out _ _ (kept_set Qj hLg6 (.bool cB)) (fun _=>?_)
    replace Qj:=kept_set Qj hLg6 (.bool cB)
    replace hX5:=hX5.other (.bool cB) hne
    replace hX6:=hX6.set (.bool cB)
    clear hK K c6 f6
    generalize v5.setCell ⟨g6,0,none⟩ (.bool cB)=v6 at *
    refine wpAnyH_done (by kernel_rfl) ?_ _
    have HF:Hid (Bar v6 p g5 g6 w.heap.size (w.heap.size+1) r g a b):=⟨HT.out.kept Qj,HR.out.kept Qj,HP.out.kept Qj,by rw [HkI.out];exact cell_box hX5,by rw [HcB.out];exact cell_box hX6,cell_box (HRb.out.kept Qj)⟩
    have HKf:=Qh (HK0.out.trans Qj)
    have HL:Hid (w.heap.size≤g5∧w.heap.size≤g6):=⟨Nat.le_trans HK0.out.size hLg5,Nat.le_trans HK0.out.size hLg6⟩
    clear Qj hX5 hX6 hne hLg5 hLg6
    go_wp2
    go_ret
    exact ⟨g5,g6,w.heap.size,w.heap.size+1,rfl,HF.out,⟨HL.out.1,HL.out.2,Nat.le_refl _,Nat.le_succ _⟩,HKf.out⟩
  ·skip
   go_simp
   have hX5:Bx _ _ _ _:=heap_alloc_new v1 (.cells #[.int .i64 0] 3)
   have hLg5:W.heap.size≤v1.heap.size:=Qj.size
   refine hK.out _ _ (Qj.alloc _) (fun _=>?_)
   replace Qj:=Qj.alloc (.cells #[.int .i64 0] 3)
   clear hK K
   try simp only [List.getElem_toArray,List.getElem_cons_succ,List.getElem_cons_zero,Act.put,List.setIfInBounds_toArray,List.set_cons_zero,List.set_cons_succ]
   generalize v1.alloc (.cells #[.int .i64 0] 3)=v2 at *
   generalize v1.heap.size=g5 at *
   refine wpAnyH_ready (rs:=[7,9]) (by kernel_rfl) (by simp) ?_
   refine AllReadyH.cons rfl (fun K hK=>?_) (AllReadyH.cons rfl (fun K hK=>?_) AllReadyH.nil)
   ·skip
    go_simp
    refine (HCk.out _ (HT.out.tabm.tabs.steps.kept Qj) (HR.out.kept Qj)).mono ?_
    rintro e v3 ⟨rfl,kx⟩
    replace hX5:=hX5.kept kx
    refine hK.out _ _ (Qj.trans kx) (fun _=>?_)
    replace Qj:=Qj.trans kx
    clear hK K kx
    refine rR 9 rfl (fun K hK=>?_)
    go_simp
    have hX6:Bx _ _ _ _:=heap_alloc_new v3 (.cells #[.bool false] 4)
    replace hX5:=hX5.kept ((Kept.refl v3).alloc (.cells #[.bool false] 4))
    have hLg6:W.heap.size≤v3.heap.size:=Qj.size
    refine hK.out _ _ (Qj.alloc _) (fun _=>?_)
    replace Qj:=Qj.alloc (.cells #[.bool false] 4)
    clear hK K
    try simp only [List.getElem_toArray,List.getElem_cons_succ,List.getElem_cons_zero,Act.put,List.setIfInBounds_toArray,List.set_cons_zero,List.set_cons_succ]
    generalize v3.alloc (.cells #[.bool false] 4)=v4 at *
    generalize v3.heap.size=g6 at *
    refine rR 10 rfl (fun K hK=>?_)
    have hne:=hX5.ne hX6
    have c5:=cell_box hX5
    have f5:=frozen_box hX5
    go_simp
    refine hK.out _ _ (kept_set Qj hLg5 (.int .i64 kI)) (fun _=>?_)
    replace Qj:=kept_set Qj hLg5 (.int .i64 kI)
    replace hX6:=hX6.other (.int .i64 kI) hne.symm
    replace hX5:=hX5.set (.int .i64 kI)
    clear hK K c5 f5
    generalize v4.setCell ⟨g5,0,none⟩ (.int .i64 kI)=v5 at *
    refine rR 11 rfl (fun K hK=>?_)
    have c6:=cell_box hX6
    have f6:=frozen_box hX6
    go_simp
    refine hK.out _ _ (kept_set Qj hLg6 (.bool cB)) (fun _=>?_)
    replace Qj:=kept_set Qj hLg6 (.bool cB)
    replace hX5:=hX5.other (.bool cB) hne
    replace hX6:=hX6.set (.bool cB)
    clear hK K c6 f6
    generalize v5.setCell ⟨g6,0,none⟩ (.bool cB)=v6 at *
    refine wpAnyH_done (by kernel_rfl) ?_ _
    have HF:Hid (Bar v6 p g5 g6 w.heap.size (w.heap.size+1) r g a b):=⟨HT.out.kept Qj,HR.out.kept Qj,HP.out.kept Qj,by rw [HkI.out];exact cell_box hX5,by rw [HcB.out];exact cell_box hX6,cell_box (HRb.out.kept Qj)⟩
    have HKf:=Qh (HK0.out.trans Qj)
    have HL:Hid (w.heap.size≤g5∧w.heap.size≤g6):=⟨Nat.le_trans HK0.out.size hLg5,Nat.le_trans HK0.out.size hLg6⟩
    clear Qj hX5 hX6 hne hLg5 hLg6
    go_wp2
    go_ret
    exact ⟨g5,g6,w.heap.size,w.heap.size+1,rfl,HF.out,⟨HL.out.1,HL.out.2,Nat.le_refl _,Nat.le_succ _⟩,HKf.out⟩
   ·skip
    go_simp
    have hX6:Bx _ _ _ _:=heap_alloc_new v2 (.cells #[.bool false] 4)
    replace hX5:=hX5.kept ((Kept.refl v2).alloc (.cells #[.bool false] 4))
    have hLg6:W.heap.size≤v2.heap.size:=Qj.size
    refine hK.out _ _ (Qj.alloc _) (fun _=>?_)
    replace Qj:=Qj.alloc (.cells #[.bool false] 4)
    clear hK K
    try simp only [List.getElem_toArray,List.getElem_cons_succ,List.getElem_cons_zero,Act.put,List.setIfInBounds_toArray,List.set_cons_zero,List.set_cons_succ]
    generalize v2.alloc (.cells #[.bool false] 4)=v3 at *
    generalize v2.heap.size=g6 at *
    refine rR 7 rfl (fun K hK=>?_)
    go_simp
    refine (HCk.out _ (HT.out.tabm.tabs.steps.kept Qj) (HR.out.kept Qj)).mono ?_
    rintro e v4 ⟨rfl,kx⟩
    replace hX5:=hX5.kept kx
    replace hX6:=hX6.kept kx
    refine hK.out _ _ (Qj.trans kx) (fun _=>?_)
    replace Qj:=Qj.trans kx
    clear hK K kx
    refine rR 10 rfl (fun K hK=>?_)
    have hne:=hX5.ne hX6
    have c5:=cell_box hX5
    have f5:=frozen_box hX5
    go_simp
    refine hK.out _ _ (kept_set Qj hLg5 (.int .i64 kI)) (fun _=>?_)
    replace Qj:=kept_set Qj hLg5 (.int .i64 kI)
    replace hX6:=hX6.other (.int .i64 kI) hne.symm
    replace hX5:=hX5.set (.int .i64 kI)
    clear hK K c5 f5
    generalize v4.setCell ⟨g5,0,none⟩ (.int .i64 kI)=v5 at *
    refine rR 11 rfl (fun K hK=>?_)
    have c6:=cell_box hX6
    have f6:=frozen_box hX6
    go_simp
    refine hK.out _ _ (kept_set Qj hLg6 (.bool cB)) (fun _=>?_)
    replace Qj:=kept_set Qj hLg6 (.bool cB)
    replace hX5:=hX5.other (.bool cB) hne
    replace hX6:=hX6.set (.bool cB)
    clear hK K c6 f6
    generalize v5.setCell ⟨g6,0,none⟩ (.bool cB)=v6 at *
    refine wpAnyH_done (by kernel_rfl) ?_ _
    have HF:Hid (Bar v6 p g5 g6 w.heap.size (w.heap.size+1) r g a b):=⟨HT.out.kept Qj,HR.out.kept Qj,HP.out.kept Qj,by rw [HkI.out];exact cell_box hX5,by rw [HcB.out];exact cell_box hX6,cell_box (HRb.out.kept Qj)⟩
    have HKf:=Qh (HK0.out.trans Qj)
    have HL:Hid (w.heap.size≤g5∧w.heap.size≤g6):=⟨Nat.le_trans HK0.out.size hLg5,Nat.le_trans HK0.out.size hLg6⟩
    clear Qj hX5 hX6 hne hLg5 hLg6
    go_wp2
    go_ret
    exact ⟨g5,g6,w.heap.size,w.heap.size+1,rfl,HF.out,⟨HL.out.1,HL.out.2,Nat.le_refl _,Nat.le_succ _⟩,HKf.out⟩
  ·skip
   go_simp
   have hX6:Bx _ _ _ _:=heap_alloc_new v1 (.cells #[.bool false] 4)
   have hLg6:W.heap.size≤v1.heap.size:=Qj.size
   refine hK.out _ _ (Qj.alloc _) (fun _=>?_)
   replace Qj:=Qj.alloc (.cells #[.bool false] 4)
   clear hK K
   try simp only [List.getElem_toArray,List.getElem_cons_succ,List.getElem_cons_zero,Act.put,List.setIfInBounds_toArray,List.set_cons_zero,List.set_cons_succ]
   generalize v1.alloc (.cells #[.bool false] 4)=v2 at *
   generalize v1.heap.size=g6 at *
   refine wpAnyH_ready (rs:=[7,8]) (by kernel_rfl) (by simp) ?_
   refine AllReadyH.cons rfl (fun K hK=>?_) (AllReadyH.cons rfl (fun K hK=>?_) AllReadyH.nil)
   ·skip
    go_simp
    refine (HCk.out _ (HT.out.tabm.tabs.steps.kept Qj) (HR.out.kept Qj)).mono ?_
    rintro e v3 ⟨rfl,kx⟩
    replace hX6:=hX6.kept kx
    refine hK.out _ _ (Qj.trans kx) (fun _=>?_)
    replace Qj:=Qj.trans kx
    clear hK K kx
    refine rR 8 rfl (fun K hK=>?_)
    go_simp
    have hX5:Bx _ _ _ _:=heap_alloc_new v3 (.cells #[.int .i64 0] 3)
    replace hX6:=hX6.kept ((Kept.refl v3).alloc (.cells #[.int .i64 0] 3))
    have hLg5:W.heap.size≤v3.heap.size:=Qj.size
    refine hK.out _ _ (Qj.alloc _) (fun _=>?_)
    replace Qj:=Qj.alloc (.cells #[.int .i64 0] 3)
    clear hK K
    try simp only [List.getElem_toArray,List.getElem_cons_succ,List.getElem_cons_zero,Act.put,List.setIfInBounds_toArray,List.set_cons_zero,List.set_cons_succ]
    generalize v3.alloc (.cells #[.int .i64 0] 3)=v4 at *
    generalize v3.heap.size=g5 at *
    refine rR 10 rfl (fun K hK=>?_)
    have hne:=hX5.ne hX6
    have c5:=cell_box hX5
    have f5:=frozen_box hX5
    go_simp
    refine hK.out _ _ (kept_set Qj hLg5 (.int .i64 kI)) (fun _=>?_)
    replace Qj:=kept_set Qj hLg5 (.int .i64 kI)
    replace hX6:=hX6.other (.int .i64 kI) hne.symm
    replace hX5:=hX5.set (.int .i64 kI)
    clear hK K c5 f5
    generalize v4.setCell ⟨g5,0,none⟩ (.int .i64 kI)=v5 at *
    refine rR 11 rfl (fun K hK=>?_)
    have c6:=cell_box hX6
    have f6:=frozen_box hX6
    go_simp
    refine hK.out _ _ (kept_set Qj hLg6 (.bool cB)) (fun _=>?_)
    replace Qj:=kept_set Qj hLg6 (.bool cB)
    replace hX5:=hX5.other (.bool cB) hne
    replace hX6:=hX6.set (.bool cB)
    clear hK K c6 f6
    generalize v5.setCell ⟨g6,0,none⟩ (.bool cB)=v6 at *
    refine wpAnyH_done (by kernel_rfl) ?_ _
    have HF:Hid (Bar v6 p g5 g6 w.heap.size (w.heap.size+1) r g a b):=⟨HT.out.kept Qj,HR.out.kept Qj,HP.out.kept Qj,by rw [HkI.out];exact cell_box hX5,by rw [HcB.out];exact cell_box hX6,cell_box (HRb.out.kept Qj)⟩
    have HKf:=Qh (HK0.out.trans Qj)
    have HL:Hid (w.heap.size≤g5∧w.heap.size≤g6):=⟨Nat.le_trans HK0.out.size hLg5,Nat.le_trans HK0.out.size hLg6⟩
    clear Qj hX5 hX6 hne hLg5 hLg6
    go_wp2
    go_ret
    exact ⟨g5,g6,w.heap.size,w.heap.size+1,rfl,HF.out,⟨HL.out.1,HL.out.2,Nat.le_refl _,Nat.le_succ _⟩,HKf.out⟩
   ·skip
    go_simp
    have hX5:Bx _ _ _ _:=heap_alloc_new v2 (.cells #[.int .i64 0] 3)
    replace hX6:=hX6.kept ((Kept.refl v2).alloc (.cells #[.int .i64 0] 3))
    have hLg5:W.heap.size≤v2.heap.size:=Qj.size
    refine hK.out _ _ (Qj.alloc _) (fun _=>?_)
    replace Qj:=Qj.alloc (.cells #[.int .i64 0] 3)
    clear hK K
    try simp only [List.getElem_toArray,List.getElem_cons_succ,List.getElem_cons_zero,Act.put,List.setIfInBounds_toArray,List.set_cons_zero,List.set_cons_succ]
    generalize v2.alloc (.cells #[.int .i64 0] 3)=v3 at *
    generalize v2.heap.size=g5 at *
    refine rR 7 rfl (fun K hK=>?_)
    go_simp
    refine (HCk.out _ (HT.out.tabm.tabs.steps.kept Qj) (HR.out.kept Qj)).mono ?_
    rintro e v4 ⟨rfl,kx⟩
    replace hX5:=hX5.kept kx
    replace hX6:=hX6.kept kx
    refine hK.out _ _ (Qj.trans kx) (fun _=>?_)
    replace Qj:=Qj.trans kx
    clear hK K kx
    refine rR 10 rfl (fun K hK=>?_)
    have hne:=hX5.ne hX6
    have c5:=cell_box hX5
    have f5:=frozen_box hX5
    go_simp
    refine hK.out _ _ (kept_set Qj hLg5 (.int .i64 kI)) (fun _=>?_)
    replace Qj:=kept_set Qj hLg5 (.int .i64 kI)
    replace hX6:=hX6.other (.int .i64 kI) hne.symm
    replace hX5:=hX5.set (.int .i64 kI)
    clear hK K c5 f5
    generalize v4.setCell ⟨g5,0,none⟩ (.int .i64 kI)=v5 at *
    refine rR 11 rfl (fun K hK=>?_)
    have c6:=cell_box hX6
    have f6:=frozen_box hX6
    go_simp
    refine hK.out _ _ (kept_set Qj hLg6 (.bool cB)) (fun _=>?_)
    replace Qj:=kept_set Qj hLg6 (.bool cB)
    replace hX5:=hX5.other (.bool cB) hne
    replace hX6:=hX6.set (.bool cB)
    clear hK K c6 f6
    generalize v5.setCell ⟨g6,0,none⟩ (.bool cB)=v6 at *
    refine wpAnyH_done (by kernel_rfl) ?_ _
    have HF:Hid (Bar v6 p g5 g6 w.heap.size (w.heap.size+1) r g a b):=⟨HT.out.kept Qj,HR.out.kept Qj,HP.out.kept Qj,by rw [HkI.out];exact cell_box hX5,by rw [HcB.out];exact cell_box hX6,cell_box (HRb.out.kept Qj)⟩
    have HKf:=Qh (HK0.out.trans Qj)
    have HL:Hid (w.heap.size≤g5∧w.heap.size≤g6):=⟨Nat.le_trans HK0.out.size hLg5,Nat.le_trans HK0.out.size hLg6⟩
    clear Qj hX5 hX6 hne hLg5 hLg6
    go_wp2
    go_ret
    exact ⟨g5,g6,w.heap.size,w.heap.size+1,rfl,HF.out,⟨HL.out.1,HL.out.2,Nat.le_refl _,Nat.le_succ _⟩,HKf.out⟩
 ·skip
  go_simp
  have hX5:Bx _ _ _ _:=heap_alloc_new Wd (.cells #[.int .i64 0] 3)
  have hLg5:W.heap.size≤Wd.heap.size:=Qj.size
  refine hK.out _ _ (Qj.alloc _) (fun _=>?_)
  replace Qj:=Qj.alloc (.cells #[.int .i64 0] 3)
  clear hK K
  try simp only [List.getElem_toArray,List.getElem_cons_succ,List.getElem_cons_zero,Act.put,List.setIfInBounds_toArray,List.set_cons_zero,List.set_cons_succ]
  generalize Wd.alloc (.cells #[.int .i64 0] 3)=v1 at *
  generalize Wd.heap.size=g5 at *
  refine wpAnyH_ready (rs:=[4,9]) (by kernel_rfl) (by simp) ?_
  refine AllReadyH.cons rfl (fun K hK=>?_) (AllReadyH.cons rfl (fun K hK=>?_) AllReadyH.nil)
  ·skip
   go_simp
   refine (HKg.out _).mono ?_
   rintro e v2 ⟨rfl,kx⟩
   replace hX5:=hX5.kept kx
   refine hK.out _ _ (Qj.trans kx) (fun _=>?_)
   replace Qj:=Qj.trans kx
   clear hK K kx
   refine wpAnyH_ready (rs:=[7,9]) (by kernel_rfl) (by simp) ?_
   refine AllReadyH.cons rfl (fun K hK=>?_) (AllReadyH.cons rfl (fun K hK=>?_) AllReadyH.nil)
   ·skip
    go_simp
    refine (HCk.out _ (HT.out.tabm.tabs.steps.kept Qj) (HR.out.kept Qj)).mono ?_
    rintro e v3 ⟨rfl,kx⟩
    replace hX5:=hX5.kept kx
    refine hK.out _ _ (Qj.trans kx) (fun _=>?_)
    replace Qj:=Qj.trans kx
    clear hK K kx
    refine rR 9 rfl (fun K hK=>?_)
    go_simp
    have hX6:Bx _ _ _ _:=heap_alloc_new v3 (.cells #[.bool false] 4)
    replace hX5:=hX5.kept ((Kept.refl v3).alloc (.cells #[.bool false] 4))
    have hLg6:W.heap.size≤v3.heap.size:=Qj.size
    refine hK.out _ _ (Qj.alloc _) (fun _=>?_)
    replace Qj:=Qj.alloc (.cells #[.bool false] 4)
    clear hK K
    try simp only [List.getElem_toArray,List.getElem_cons_succ,List.getElem_cons_zero,Act.put,List.setIfInBounds_toArray,List.set_cons_zero,List.set_cons_succ]
    generalize v3.alloc (.cells #[.bool false] 4)=v4 at *
    generalize v3.heap.size=g6 at *
    refine rR 10 rfl (fun K hK=>?_)
    have hne:=hX5.ne hX6
    have c5:=cell_box hX5
    have f5:=frozen_box hX5
    go_simp
    refine hK.out _ _ (kept_set Qj hLg5 (.int .i64 kI)) (fun _=>?_)
    replace Qj:=kept_set Qj hLg5 (.int .i64 kI)
    replace hX6:=hX6.other (.int .i64 kI) hne.symm
    replace hX5:=hX5.set (.int .i64 kI)
    clear hK K c5 f5
    generalize v4.setCell ⟨g5,0,none⟩ (.int .i64 kI)=v5 at *
    refine rR 11 rfl (fun K hK=>?_)
    have c6:=cell_box hX6
    have f6:=frozen_box hX6
    go_simp
    refine hK.out _ _ (kept_set Qj hLg6 (.bool cB)) (fun _=>?_)
    replace Qj:=kept_set Qj hLg6 (.bool cB)
    replace hX5:=hX5.other (.bool cB) hne
    replace hX6:=hX6.set (.bool cB)
    clear hK K c6 f6
    generalize v5.setCell ⟨g6,0,none⟩ (.bool cB)=v6 at *
    refine wpAnyH_done (by kernel_rfl) ?_ _
    have HF:Hid (Bar v6 p g5 g6 w.heap.size (w.heap.size+1) r g a b):=⟨HT.out.kept Qj,HR.out.kept Qj,HP.out.kept Qj,by rw [HkI.out];exact cell_box hX5,by rw [HcB.out];exact cell_box hX6,cell_box (HRb.out.kept Qj)⟩
    have HKf:=Qh (HK0.out.trans Qj)
    have HL:Hid (w.heap.size≤g5∧w.heap.size≤g6):=⟨Nat.le_trans HK0.out.size hLg5,Nat.le_trans HK0.out.size hLg6⟩
    clear Qj hX5 hX6 hne hLg5 hLg6
    go_wp2
    go_ret
    exact ⟨g5,g6,w.heap.size,w.heap.size+1,rfl,HF.out,⟨HL.out.1,HL.out.2,Nat.le_refl _,Nat.le_succ _⟩,HKf.out⟩
   ·skip
    go_simp
    have hX6:Bx _ _ _ _:=heap_alloc_new v2 (.cells #[.bool false] 4)
    replace hX5:=hX5.kept ((Kept.refl v2).alloc (.cells #[.bool false] 4))
    have hLg6:W.heap.size≤v2.heap.size:=Qj.size
    refine hK.out _ _ (Qj.alloc _) (fun _=>?_)
    replace Qj:=Qj.alloc (.cells #[.bool false] 4)
    clear hK K
    try simp only [List.getElem_toArray,List.getElem_cons_succ,List.getElem_cons_zero,Act.put,List.setIfInBounds_toArray,List.set_cons_zero,List.set_cons_succ]
    generalize v2.alloc (.cells #[.bool false] 4)=v3 at *
    generalize v2.heap.size=g6 at *
    refine rR 7 rfl (fun K hK=>?_)
    go_simp
    refine (HCk.out _ (HT.out.tabm.tabs.steps.kept Qj) (HR.out.kept Qj)).mono ?_
    rintro e v4 ⟨rfl,kx⟩
    replace hX5:=hX5.kept kx
    replace hX6:=hX6.kept kx
    refine hK.out _ _ (Qj.trans kx) (fun _=>?_)
    replace Qj:=Qj.trans kx
    clear hK K kx
    refine rR 10 rfl (fun K hK=>?_)
    have hne:=hX5.ne hX6
    have c5:=cell_box hX5
    have f5:=frozen_box hX5
    go_simp
    refine hK.out _ _ (kept_set Qj hLg5 (.int .i64 kI)) (fun _=>?_)
    replace Qj:=kept_set Qj hLg5 (.int .i64 kI)
    replace hX6:=hX6.other (.int .i64 kI) hne.symm
    replace hX5:=hX5.set (.int .i64 kI)
    clear hK K c5 f5
    generalize v4.setCell ⟨g5,0,none⟩ (.int .i64 kI)=v5 at *
    refine rR 11 rfl (fun K hK=>?_)
    have c6:=cell_box hX6
    have f6:=frozen_box hX6
    go_simp
    refine hK.out _ _ (kept_set Qj hLg6 (.bool cB)) (fun _=>?_)
    replace Qj:=kept_set Qj hLg6 (.bool cB)
    replace hX5:=hX5.other (.bool cB) hne
    replace hX6:=hX6.set (.bool cB)
    clear hK K c6 f6
    generalize v5.setCell ⟨g6,0,none⟩ (.bool cB)=v6 at *
    refine wpAnyH_done (by kernel_rfl) ?_ _
    have HF:Hid (Bar v6 p g5 g6 w.heap.size (w.heap.size+1) r g a b):=⟨HT.out.kept Qj,HR.out.kept Qj,HP.out.kept Qj,by rw [HkI.out];exact cell_box hX5,by rw [HcB.out];exact cell_box hX6,cell_box (HRb.out.kept Qj)⟩
    have HKf:=Qh (HK0.out.trans Qj)
    have HL:Hid (w.heap.size≤g5∧w.heap.size≤g6):=⟨Nat.le_trans HK0.out.size hLg5,Nat.le_trans HK0.out.size hLg6⟩
    clear Qj hX5 hX6 hne hLg5 hLg6
    go_wp2
    go_ret
    exact ⟨g5,g6,w.heap.size,w.heap.size+1,rfl,HF.out,⟨HL.out.1,HL.out.2,Nat.le_refl _,Nat.le_succ _⟩,HKf.out⟩
  ·skip
   go_simp
   have hX6:Bx _ _ _ _:=heap_alloc_new v1 (.cells #[.bool false] 4)
   replace hX5:=hX5.kept ((Kept.refl v1).alloc (.cells #[.bool false] 4))
   have hLg6:W.heap.size≤v1.heap.size:=Qj.size
   refine hK.out _ _ (Qj.alloc _) (fun _=>?_)
   replace Qj:=Qj.alloc (.cells #[.bool false] 4)
   clear hK K
   try simp only [List.getElem_toArray,List.getElem_cons_succ,List.getElem_cons_zero,Act.put,List.setIfInBounds_toArray,List.set_cons_zero,List.set_cons_succ]
   generalize v1.alloc (.cells #[.bool false] 4)=v2 at *
   generalize v1.heap.size=g6 at *
   refine rR 4 rfl (fun K hK=>?_)
   go_simp
   refine (HKg.out _).mono ?_
   rintro e v3 ⟨rfl,kx⟩
   replace hX5:=hX5.kept kx
   replace hX6:=hX6.kept kx
   refine hK.out _ _ (Qj.trans kx) (fun _=>?_)
   replace Qj:=Qj.trans kx
   clear hK K kx
   refine rR 7 rfl (fun K hK=>?_)
   go_simp
   refine (HCk.out _ (HT.out.tabm.tabs.steps.kept Qj) (HR.out.kept Qj)).mono ?_
   rintro e v4 ⟨rfl,kx⟩
   replace hX5:=hX5.kept kx
   replace hX6:=hX6.kept kx
   refine hK.out _ _ (Qj.trans kx) (fun _=>?_)
   replace Qj:=Qj.trans kx
   clear hK K kx
   refine rR 10 rfl (fun K hK=>?_)
   have hne:=hX5.ne hX6
   have c5:=cell_box hX5
   have f5:=frozen_box hX5
   go_simp
   refine hK.out _ _ (kept_set Qj hLg5 (.int .i64 kI)) (fun _=>?_)
   replace Qj:=kept_set Qj hLg5 (.int .i64 kI)
   replace hX6:=hX6.other (.int .i64 kI) hne.symm
   replace hX5:=hX5.set (.int .i64 kI)
   clear hK K c5 f5
   generalize v4.setCell ⟨g5,0,none⟩ (.int .i64 kI)=v5 at *
   refine rR 11 rfl (fun K hK=>?_)
   have c6:=cell_box hX6
   have f6:=frozen_box hX6
   go_simp
   refine hK.out _ _ (kept_set Qj hLg6 (.bool cB)) (fun _=>?_)
   replace Qj:=kept_set Qj hLg6 (.bool cB)
   replace hX5:=hX5.other (.bool cB) hne
   replace hX6:=hX6.set (.bool cB)
   clear hK K c6 f6
   generalize v5.setCell ⟨g6,0,none⟩ (.bool cB)=v6 at *
   refine wpAnyH_done (by kernel_rfl) ?_ _
   have HF:Hid (Bar v6 p g5 g6 w.heap.size (w.heap.size+1) r g a b):=⟨HT.out.kept Qj,HR.out.kept Qj,HP.out.kept Qj,by rw [HkI.out];exact cell_box hX5,by rw [HcB.out];exact cell_box hX6,cell_box (HRb.out.kept Qj)⟩
   have HKf:=Qh (HK0.out.trans Qj)
   have HL:Hid (w.heap.size≤g5∧w.heap.size≤g6):=⟨Nat.le_trans HK0.out.size hLg5,Nat.le_trans HK0.out.size hLg6⟩
   clear Qj hX5 hX6 hne hLg5 hLg6
   go_wp2
   go_ret
   exact ⟨g5,g6,w.heap.size,w.heap.size+1,rfl,HF.out,⟨HL.out.1,HL.out.2,Nat.le_refl _,Nat.le_succ _⟩,HKf.out⟩
 ·skip
  go_simp
  have hX6:Bx _ _ _ _:=heap_alloc_new Wd (.cells #[.bool false] 4)
  have hLg6:W.heap.size≤Wd.heap.size:=Qj.size
  refine hK.out _ _ (Qj.alloc _) (fun _=>?_)
  replace Qj:=Qj.alloc (.cells #[.bool false] 4)
  clear hK K
  try simp only [List.getElem_toArray,List.getElem_cons_succ,List.getElem_cons_zero,Act.put,List.setIfInBounds_toArray,List.set_cons_zero,List.set_cons_succ]
  generalize Wd.alloc (.cells #[.bool false] 4)=v1 at *
  generalize Wd.heap.size=g6 at *
  refine wpAnyH_ready (rs:=[4,8]) (by kernel_rfl) (by simp) ?_
  refine AllReadyH.cons rfl (fun K hK=>?_) (AllReadyH.cons rfl (fun K hK=>?_) AllReadyH.nil)
  ·skip
   go_simp
   refine (HKg.out _).mono ?_
   rintro e v2 ⟨rfl,kx⟩
   replace hX6:=hX6.kept kx
   refine hK.out _ _ (Qj.trans kx) (fun _=>?_)
   replace Qj:=Qj.trans kx
   clear hK K kx
   refine wpAnyH_ready (rs:=[7,8]) (by kernel_rfl) (by simp) ?_
   refine AllReadyH.cons rfl (fun K hK=>?_) (AllReadyH.cons rfl (fun K hK=>?_) AllReadyH.nil)
   ·skip
    go_simp
    refine (HCk.out _ (HT.out.tabm.tabs.steps.kept Qj) (HR.out.kept Qj)).mono ?_
    rintro e v3 ⟨rfl,kx⟩
    replace hX6:=hX6.kept kx
    refine hK.out _ _ (Qj.trans kx) (fun _=>?_)
    replace Qj:=Qj.trans kx
    clear hK K kx
    refine rR 8 rfl (fun K hK=>?_)
    go_simp
    have hX5:Bx _ _ _ _:=heap_alloc_new v3 (.cells #[.int .i64 0] 3)
    replace hX6:=hX6.kept ((Kept.refl v3).alloc (.cells #[.int .i64 0] 3))
    have hLg5:W.heap.size≤v3.heap.size:=Qj.size
    refine hK.out _ _ (Qj.alloc _) (fun _=>?_)
    replace Qj:=Qj.alloc (.cells #[.int .i64 0] 3)
    clear hK K
    try simp only [List.getElem_toArray,List.getElem_cons_succ,List.getElem_cons_zero,Act.put,List.setIfInBounds_toArray,List.set_cons_zero,List.set_cons_succ]
    generalize v3.alloc (.cells #[.int .i64 0] 3)=v4 at *
    generalize v3.heap.size=g5 at *
    refine rR 10 rfl (fun K hK=>?_)
    have hne:=hX5.ne hX6
    have c5:=cell_box hX5
    have f5:=frozen_box hX5
    go_simp
    refine hK.out _ _ (kept_set Qj hLg5 (.int .i64 kI)) (fun _=>?_)
    replace Qj:=kept_set Qj hLg5 (.int .i64 kI)
    replace hX6:=hX6.other (.int .i64 kI) hne.symm
    replace hX5:=hX5.set (.int .i64 kI)
    clear hK K c5 f5
    generalize v4.setCell ⟨g5,0,none⟩ (.int .i64 kI)=v5 at *
    refine rR 11 rfl (fun K hK=>?_)
    have c6:=cell_box hX6
    have f6:=frozen_box hX6
    go_simp
    refine hK.out _ _ (kept_set Qj hLg6 (.bool cB)) (fun _=>?_)
    replace Qj:=kept_set Qj hLg6 (.bool cB)
    replace hX5:=hX5.other (.bool cB) hne
    replace hX6:=hX6.set (.bool cB)
    clear hK K c6 f6
    generalize v5.setCell ⟨g6,0,none⟩ (.bool cB)=v6 at *
    refine wpAnyH_done (by kernel_rfl) ?_ _
    have HF:Hid (Bar v6 p g5 g6 w.heap.size (w.heap.size+1) r g a b):=⟨HT.out.kept Qj,HR.out.kept Qj,HP.out.kept Qj,by rw [HkI.out];exact cell_box hX5,by rw [HcB.out];exact cell_box hX6,cell_box (HRb.out.kept Qj)⟩
    have HKf:=Qh (HK0.out.trans Qj)
    have HL:Hid (w.heap.size≤g5∧w.heap.size≤g6):=⟨Nat.le_trans HK0.out.size hLg5,Nat.le_trans HK0.out.size hLg6⟩
    clear Qj hX5 hX6 hne hLg5 hLg6
    go_wp2
    go_ret
    exact ⟨g5,g6,w.heap.size,w.heap.size+1,rfl,HF.out,⟨HL.out.1,HL.out.2,Nat.le_refl _,Nat.le_succ _⟩,HKf.out⟩
   ·skip
    go_simp
    have hX5:Bx _ _ _ _:=heap_alloc_new v2 (.cells #[.int .i64 0] 3)
    replace hX6:=hX6.kept ((Kept.refl v2).alloc (.cells #[.int .i64 0] 3))
    have hLg5:W.heap.size≤v2.heap.size:=Qj.size
    refine hK.out _ _ (Qj.alloc _) (fun _=>?_)
    replace Qj:=Qj.alloc (.cells #[.int .i64 0] 3)
    clear hK K
    try simp only [List.getElem_toArray,List.getElem_cons_succ,List.getElem_cons_zero,Act.put,List.setIfInBounds_toArray,List.set_cons_zero,List.set_cons_succ]
    generalize v2.alloc (.cells #[.int .i64 0] 3)=v3 at *
    generalize v2.heap.size=g5 at *
    refine rR 7 rfl (fun K hK=>?_)
    go_simp
    refine (HCk.out _ (HT.out.tabm.tabs.steps.kept Qj) (HR.out.kept Qj)).mono ?_
    rintro e v4 ⟨rfl,kx⟩
    replace hX5:=hX5.kept kx
    replace hX6:=hX6.kept kx
    refine hK.out _ _ (Qj.trans kx) (fun _=>?_)
    replace Qj:=Qj.trans kx
    clear hK K kx
    refine rR 10 rfl (fun K hK=>?_)
    have hne:=hX5.ne hX6
    have c5:=cell_box hX5
    have f5:=frozen_box hX5
    go_simp
    refine hK.out _ _ (kept_set Qj hLg5 (.int .i64 kI)) (fun _=>?_)
    replace Qj:=kept_set Qj hLg5 (.int .i64 kI)
    replace hX6:=hX6.other (.int .i64 kI) hne.symm
    replace hX5:=hX5.set (.int .i64 kI)
    clear hK K c5 f5
    generalize v4.setCell ⟨g5,0,none⟩ (.int .i64 kI)=v5 at *
    refine rR 11 rfl (fun K hK=>?_)
    have c6:=cell_box hX6
    have f6:=frozen_box hX6
    go_simp
    refine hK.out _ _ (kept_set Qj hLg6 (.bool cB)) (fun _=>?_)
    replace Qj:=kept_set Qj hLg6 (.bool cB)
    replace hX5:=hX5.other (.bool cB) hne
    replace hX6:=hX6.set (.bool cB)
    clear hK K c6 f6
    generalize v5.setCell ⟨g6,0,none⟩ (.bool cB)=v6 at *
    refine wpAnyH_done (by kernel_rfl) ?_ _
    have HF:Hid (Bar v6 p g5 g6 w.heap.size (w.heap.size+1) r g a b):=⟨HT.out.kept Qj,HR.out.kept Qj,HP.out.kept Qj,by rw [HkI.out];exact cell_box hX5,by rw [HcB.out];exact cell_box hX6,cell_box (HRb.out.kept Qj)⟩
    have HKf:=Qh (HK0.out.trans Qj)
    have HL:Hid (w.heap.size≤g5∧w.heap.size≤g6):=⟨Nat.le_trans HK0.out.size hLg5,Nat.le_trans HK0.out.size hLg6⟩
    clear Qj hX5 hX6 hne hLg5 hLg6
    go_wp2
    go_ret
    exact ⟨g5,g6,w.heap.size,w.heap.size+1,rfl,HF.out,⟨HL.out.1,HL.out.2,Nat.le_refl _,Nat.le_succ _⟩,HKf.out⟩
  ·skip
   go_simp
   have hX5:Bx _ _ _ _:=heap_alloc_new v1 (.cells #[.int .i64 0] 3)
   replace hX6:=hX6.kept ((Kept.refl v1).alloc (.cells #[.int .i64 0] 3))
   have hLg5:W.heap.size≤v1.heap.size:=Qj.size
   refine hK.out _ _ (Qj.alloc _) (fun _=>?_)
   replace Qj:=Qj.alloc (.cells #[.int .i64 0] 3)
   clear hK K
   try simp only [List.getElem_toArray,List.getElem_cons_succ,List.getElem_cons_zero,Act.put,List.setIfInBounds_toArray,List.set_cons_zero,List.set_cons_succ]
   generalize v1.alloc (.cells #[.int .i64 0] 3)=v2 at *
   generalize v1.heap.size=g5 at *
   refine rR 4 rfl (fun K hK=>?_)
   go_simp
   refine (HKg.out _).mono ?_
   rintro e v3 ⟨rfl,kx⟩
   replace hX5:=hX5.kept kx
   replace hX6:=hX6.kept kx
   refine hK.out _ _ (Qj.trans kx) (fun _=>?_)
   replace Qj:=Qj.trans kx
   clear hK K kx
   refine rR 7 rfl (fun K hK=>?_)
   go_simp
   refine (HCk.out _ (HT.out.tabm.tabs.steps.kept Qj) (HR.out.kept Qj)).mono ?_
   rintro e v4 ⟨rfl,kx⟩
   replace hX5:=hX5.kept kx
   replace hX6:=hX6.kept kx
   refine hK.out _ _ (Qj.trans kx) (fun _=>?_)
   replace Qj:=Qj.trans kx
   clear hK K kx
   refine rR 10 rfl (fun K hK=>?_)
   have hne:=hX5.ne hX6
   have c5:=cell_box hX5
   have f5:=frozen_box hX5
   go_simp
   refine hK.out _ _ (kept_set Qj hLg5 (.int .i64 kI)) (fun _=>?_)
   replace Qj:=kept_set Qj hLg5 (.int .i64 kI)
   replace hX6:=hX6.other (.int .i64 kI) hne.symm
   replace hX5:=hX5.set (.int .i64 kI)
   clear hK K c5 f5
   generalize v4.setCell ⟨g5,0,none⟩ (.int .i64 kI)=v5 at *
   refine rR 11 rfl (fun K hK=>?_)
   have c6:=cell_box hX6
   have f6:=frozen_box hX6
   go_simp
   refine hK.out _ _ (kept_set Qj hLg6 (.bool cB)) (fun _=>?_)
   replace Qj:=kept_set Qj hLg6 (.bool cB)
   replace hX5:=hX5.other (.bool cB) hne
   replace hX6:=hX6.set (.bool cB)
   clear hK K c6 f6
   generalize v5.setCell ⟨g6,0,none⟩ (.bool cB)=v6 at *
   refine wpAnyH_done (by kernel_rfl) ?_ _
   have HF:Hid (Bar v6 p g5 g6 w.heap.size (w.heap.size+1) r g a b):=⟨HT.out.kept Qj,HR.out.kept Qj,HP.out.kept Qj,by rw [HkI.out];exact cell_box hX5,by rw [HcB.out];exact cell_box hX6,cell_box (HRb.out.kept Qj)⟩
   have HKf:=Qh (HK0.out.trans Qj)
   have HL:Hid (w.heap.size≤g5∧w.heap.size≤g6):=⟨Nat.le_trans HK0.out.size hLg5,Nat.le_trans HK0.out.size hLg6⟩
   clear Qj hX5 hX6 hne hLg5 hLg6
   go_wp2
   go_ret
   exact ⟨g5,g6,w.heap.size,w.heap.size+1,rfl,HF.out,⟨HL.out.1,HL.out.2,Nat.le_refl _,Nat.le_succ _⟩,HKf.out⟩
end Go.Proofs.YtijkemnhehbchaaGreatDoor
