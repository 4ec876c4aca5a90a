/- MvK · MvLn · MvL · MvN · GeI: my texts, in their order. -/
import Derived.Test.YtijkemnhehbchaaGreatDoorPkXAE0
import Derived.Test.YtijkemnhehbchaaGreatDoorPkXAE1
import Derived.Test.YtijkemnhehbchaaGreatDoorPkA
import Derived.Test.YtijkemnhehbchaaGreatDoorPkB
import Derived.Test.YtijkemnhehbchaaGreatDoorPkC
import Derived.Test.YtijkemnhehbchaaGreatDoorPkD
import Derived.Test.YtijkemnhehbchaaGreatDoorPkE
import Derived.Test.YtijkemnhehbchaaGreatDoorPkF
import Derived.Test.YtijkemnhehbchaaGreatDoorPkGa
import Derived.Test.YtijkemnhehbchaaGreatDoorPkGb
import Derived.Test.YtijkemnhehbchaaGreatDoorPkGc
import Derived.Test.YtijkemnhehbchaaGreatDoorPkGd
import Derived.Test.YtijkemnhehbchaaGreatDoorPkGe
import Derived.Test.YtijkemnhehbchaaGreatDoorPkH
import Derived.Test.YtijkemnhehbchaaGreatDoorPkI
import Derived.Test.YtijkemnhehbchaaGreatDoorPkJ
import Derived.Test.YtijkemnhehbchaaGreatDoorPkK
import Derived.Test.YtijkemnhehbchaaGreatDoorPkL
import Derived.Test.YtijkemnhehbchaaGreatDoorPkM
import Derived.Test.YtijkemnhehbchaaGreatDoorPkR
namespace Go.Proofs.YtijkemnhehbchaaGreatDoor
open Go.RowKit
set_option linter.unusedVariables false
set_option linter.unusedSimpArgs false
set_option maxRecDepth 100000
def rlL:List Int:=[1,4,6,2,4,2,4,60,62,8,60,58]
def rlV:List Value:=rlL.map (Value.int .i64)
theorem rl_at (k:Nat) (hk:k<4):rlL.getD (3*k) 0=hR k∧rlL.getD (3*k+1) 0=hKg k∧rlL.getD (3*k+2) 0=wTo k:=by
 have:k=0∨k=1∨k=2∨k=3:=by omega
 rcases this with rfl|rfl|rfl|rfl <;> exact ⟨rfl,rfl,rfl⟩
theorem rl_cell {w:World} {g:Nat} (h:w.heap[g]?=some (.cells rlV.toArray 3 (0,0))) (j:Nat) (hj:j<12):w.cell? ⟨g,j,none⟩=some (.int .i64 (rlL.getD j 0)):=by
 rw [cell_of_row _ _ j _ _ (0,0) h]
 have:j<rlL.length:=hj
 simp [rlV,List.getD,List.getElem?_eq_getElem this]
theorem hR_18 (k:Nat) (hk:k<4):1≤hR k∧hR k≤8:=by
 have:k=0∨k=1∨k=2∨k=3:=by omega
 rcases this with rfl|rfl|rfl|rfl <;> decide
set_option maxHeartbeats 8000000 in
theorem rightR_is (p:Ps) (hB:Brd p.B) (c0:0≤p.c) (c1:p.c≤15) (hcas:casB p=true) (m:Mv) (f t:Nat) (hf:m.f=f) (ht:m.t=t) (f1:f<64) (t1:t<64) (w:World) :
  Calls Tryz.prog 53 #[.agg (pl p).toArray,.agg (ml m).toArray] w fun e w'=>e=.returned (.int .i64 (hR (castN p m)))∧Kept w w':=by
 have HP:Hid (PAt _ _ p):=⟨hB.1,heap_alloc2_old w (.cells (pl p).toArray 26) (.cells (ml m).toArray 54)⟩
 have HM:Hid (MAt _ _ m):=⟨heap_alloc2_new w (.cells (pl p).toArray 26) (.cells (ml m).toArray 54)⟩
 have HK0:=Qh (((Kept.refl w).alloc (.cells (pl p).toArray 26)).alloc (.cells (ml m).toArray 54))
 have hpl:Hid (p.B.length=64):=hB.1
 have HB:=Qh hB
 have HHas:=Qh (fun k (hk:k<4) w=>rhas_is p.c (hR k) w c0 c1 (hR_18 k hk).1 (hR_18 k hk).2)
 have HKing:=Qh (fun k (hk:k<4) hr=>(cas_king hcas hk hr).1)
 have HFt:Hid (m.f=f∧m.t=t):=⟨hf,ht⟩
 have xf:=HM.out.f
 rw [hf] at xf
 have hcf:=Qh xf
 have xt:=HM.out.t
 rw [ht] at xt
 have hct:=Qh xt
 have hfI:(f:Int)<64:=by omega
 have HSq:=Qh (HP.out.sq f f1)
 have HL:Hid (_=_):=heap_alloc_new ((w.alloc (.cells (pl p).toArray 26)).alloc (.cells (ml m).toArray 54)) (.cells rlV.toArray 3)
 have KL:=Qh ((Kept.refl ((w.alloc (.cells (pl p).toArray 26)).alloc (.cells (ml m).toArray 54))).alloc (.cells rlV.toArray 3))
 have hsz:((w.alloc (.cells (pl p).toArray 26)).alloc (.cells (ml m).toArray 54)).heap.size=w.heap.size+2:=by simp
 rw [hsz] at HL
 clear hB c0 c1 hcas hf ht xf xt hsz
 go_enter Tryz.func53,Tryz.ntmps53
 go_wp2
 go_loopw [6] (fun t6 wr=>∃ k:Nat,k≤4∧t6=.int .i64 ((3*k:Nat):Int)∧(∀ j,j<k→castB p m j=false)∧Kept (((w.alloc (.cells (pl p).toArray 26)).alloc (.cells (ml m).toArray 54)).alloc (.cells rlV.toArray 3)) wr) (fun t6 _=>12-(intOf t6).toNat)
 case atStart=>exact ⟨0,by omega,rfl,fun j hj=>by omega,Kept.refl _⟩
 case round =>
  obtain ⟨k,hk,rfl,hno,hK⟩:=hrel
  have HNo:=Qh hno
  have HK:=Qh (KL.out.trans hK)
  have HLr:Hid (_=_):=hK.heap HL.out
  have HKr:=Qh hK
  clear hno hK
  by_cases hlt:k<4
  ·have HP2:=Qh (HP.out.kept HK.out)
   have HM2:=Qh (MAt.kept HM.out HK.out)
   have hcf2:=Qh (kept_cell HK.out hcf.out)
   have hct2:=Qh (kept_cell HK.out hct.out)
   have HSq2:=Qh (kept_cell HK.out HSq.out)
   obtain ⟨r1,r2,r3⟩:=rl_at k hlt
   have y1:=rl_cell HLr.out (3*k) (by omega)
   have y2:=rl_cell HLr.out (3*k+1) (by omega)
   have y3:=rl_cell HLr.out (3*k+2) (by omega)
   rw [r1] at y1
   rw [r2] at y2
   rw [r3] at y3
   obtain ⟨i,hi⟩:∃ i,i=3*k:=⟨_,rfl⟩
   obtain ⟨i1,hi1⟩:∃ i,i=3*k+1:=⟨_,rfl⟩
   obtain ⟨i2,hi2⟩:∃ i,i=3*k+2:=⟨_,rfl⟩
   obtain ⟨i3,hi3⟩:∃ i,i=3*(k+1):=⟨_,rfl⟩
   have b0:(i:Int)<12:=by omega
   have b1:(i1:Int)<12:=by omega
   have b2:(i2:Int)<12:=by omega
   have e1:IntKind.i64.wrap ((i:Int)+1)=(i1:Int):=by rw [IntWalk.i64_in _ (by omega)];omega
   have e2:IntKind.i64.wrap ((i:Int)+2)=(i2:Int):=by rw [IntWalk.i64_in _ (by omega)];omega
   have e3:IntKind.i64.wrap ((i:Int)+3)=(i3:Int):=by rw [IntWalk.i64_in _ (by omega)];omega
   have HI3:=Qh hi3
   have HI:Hid (i=3*k):=hi
   rw [← hi] at y1
   rw [← hi1] at y2
   rw [← hi2] at y3
   have Y1:=Qh y1
   have Y2:=Qh y2
   have Y3:=Qh y3
   have HV:Hid (castB p m k=(rgtB p.c (hR k) && ((f:Int) == hKg k) && ((t:Int) == wTo k) && freeB p.B k)):=by show _=_;unfold castB;rw [HFt.out.1,HFt.out.2]
   have HHk:=Qh (HHas.out k hlt)
   have HCl:=Qh (rclear_is p.B HB.out k hlt)
   have HKk:=Qh (HKing.out k hlt)
   have HSp:Hid ((k<2→kgm k=6∧(i:Int)<6)∧(¬ k<2→kgm k=-6∧6≤(i:Int))):=by
    have:k=0∨k=1∨k=2∨k=3:=by omega
    constructor
    ·intro h2
     refine ⟨?_,by omega⟩
     rcases this with rfl|rfl|rfl|rfl <;> first|rfl|omega
    ·intro h2
     refine ⟨?_,by omega⟩
     rcases this with rfl|rfl|rfl|rfl <;> first|rfl|omega
   rw [← hi]
   clear r1 r2 r3 y1 y2 y3 hi1 hi2 hi3 hi HHas HKing
   generalize freeB p.B k=fr at *
   by_cases h2:k<2
   ·obtain ⟨hkg,hi6⟩:=HSp.out.1 h2
    have Hkg:=Qh hkg
    clear hkg h2
    go_wp2
    cases h3:rgtB p.c (hR k)
    ·rw [h3] at HHk HV
     clear h3
     refine wp_region_held_drew (S:=Kept _) (by kernel_rfl) (Kept.refl _).drew (fun Qj=>?_)
     refine rT 0 15 (.pointer (some ⟨w.heap.size,65,none⟩)) rfl rfl Qj ?_
     simp only [pA,pN,sZ,sU]
     refine rC 1 16 (.int .i64 p.c) rfl rfl (fun _ h=>kept_cell h (HP2.out.cas)) Qj ?_
     simp only [pA,pN,sZ,sU]
     refine rT 2 17 (.slice (some ⟨w.heap.size+2,0,none⟩) 12 12) rfl rfl Qj ?_
     simp only [pA,pN,sZ,sU]
     refine rT 3 18 (.int .i64 ↑i) rfl rfl Qj ?_
     simp only [pA,pN,sZ,sU]
     refine rT 4 19 (.pointer (some ⟨w.heap.size+2,i,none⟩)) rfl rfl Qj ?_
     simp only [pA,pN,sZ,sU]
     refine rC 5 20 (.int .i64 (hR k)) rfl rfl (fun _ h=>kept_cell h (Y1.out)) Qj ?_
     simp only [pA,pN,sZ,sU]
     refine rR 6 rfl (fun K hK=>?_)
     go_simp
     refine (HHk.out _).mono ?_
     rintro e v1 ⟨rfl,gv1⟩
     refine hK.out _ _ (Qj.trans gv1) (fun _=>?_)
     replace Qj:=Qj.trans gv1
     clear hK K
     refine rT 7 22 (.bool false) rfl rfl Qj ?_
     simp only [pA,pN,sZ,sU]
     refine rN 8 23 rfl rfl Qj ?_
     simp only [pA,pN,sZ,sU]
     refine rN 9 24 rfl rfl Qj ?_
     simp only [pA,pN,sZ,sU]
     refine rN 10 25 rfl rfl Qj ?_
     simp only [pA,pN,sZ,sU]
     refine rN 11 26 rfl rfl Qj ?_
     simp only [pA,pN,sZ,sU]
     refine rN 12 27 rfl rfl Qj ?_
     simp only [pA,pN,sZ,sU]
     refine rN 13 28 rfl rfl Qj ?_
     simp only [pA,pN,sZ,sU]
     refine rN 14 29 rfl rfl Qj ?_
     simp only [pA,pN,sZ,sU]
     refine rN 15 30 rfl rfl Qj ?_
     simp only [pA,pN,sZ,sU]
     refine rT 16 31 (.bool false) rfl rfl Qj ?_
     simp only [pA,pN,sZ,sU]
     refine rT 17 32 (.bool false) rfl rfl Qj ?_
     simp only [pA,pN,sZ,sU]
     refine rN 18 33 rfl rfl Qj ?_
     simp only [pA,pN,sZ,sU]
     refine rN 19 34 rfl rfl Qj ?_
     simp only [pA,pN,sZ,sU]
     refine rN 20 35 rfl rfl Qj ?_
     simp only [pA,pN,sZ,sU]
     refine rN 21 36 rfl rfl Qj ?_
     simp only [pA,pN,sZ,sU]
     refine rN 22 37 rfl rfl Qj ?_
     simp only [pA,pN,sZ,sU]
     refine rN 23 38 rfl rfl Qj ?_
     simp only [pA,pN,sZ,sU]
     refine rN 24 39 rfl rfl Qj ?_
     simp only [pA,pN,sZ,sU]
     refine rN 25 40 rfl rfl Qj ?_
     simp only [pA,pN,sZ,sU]
     refine rT 26 41 (.bool false) rfl rfl Qj ?_
     simp only [pA,pN,sZ,sU]
     refine rT 27 42 (.bool false) rfl rfl Qj ?_
     simp only [pA,pN,sZ,sU]
     refine rN 28 43 rfl rfl Qj ?_
     simp only [pA,pN,sZ,sU]
     refine rN 29 44 rfl rfl Qj ?_
     simp only [pA,pN,sZ,sU]
     refine rN 30 45 rfl rfl Qj ?_
     simp only [pA,pN,sZ,sU]
     refine rN 31 46 rfl rfl Qj ?_
     simp only [pA,pN,sZ,sU]
     refine rN 32 47 rfl rfl Qj ?_
     simp only [pA,pN,sZ,sU]
     refine rN 33 48 rfl rfl Qj ?_
     simp only [pA,pN,sZ,sU]
     refine rN 34 49 rfl rfl Qj ?_
     simp only [pA,pN,sZ,sU]
     refine rT 35 50 (.bool false) rfl rfl Qj ?_
     simp only [pA,pN,sZ,sU]
     refine rT 36 51 (.bool false) rfl rfl Qj ?_
     simp only [pA,pN,sZ,sU]
     refine rN 37 52 rfl rfl Qj ?_
     simp only [pA,pN,sZ,sU]
     refine rN 38 53 rfl rfl Qj ?_
     simp only [pA,pN,sZ,sU]
     refine rN 39 54 rfl rfl Qj ?_
     simp only [pA,pN,sZ,sU]
     refine rN 40 55 rfl rfl Qj ?_
     simp only [pA,pN,sZ,sU]
     refine rN 41 56 rfl rfl Qj ?_
     simp only [pA,pN,sZ,sU]
     refine rN 42 57 rfl rfl Qj ?_
     simp only [pA,pN,sZ,sU]
     refine rN 43 58 rfl rfl Qj ?_
     simp only [pA,pN,sZ,sU]
     refine rT 44 59 (.bool false) rfl rfl Qj ?_
     simp only [pA,pN,sZ,sU]
     refine wpAnyH_done (by kernel_rfl) ?_ _
     have HKf:=Qh (HKr.out.trans Qj)
     clear Qj
     go_wp2
     go_roundw
     case rel=>exact ⟨k+1,by omega,by rw [← HI3.out],fun j hj=>by rcases Nat.lt_succ_iff_lt_or_eq.1 hj with h|h;exact HNo.out j h;rw [h,HV.out];simp only [Bool.and_false,Bool.false_and,Bool.and_true,Bool.true_and],HKf.out⟩
     case measure=>have:=HI.out;have:=HI3.out;simp [intOf];omega
    ·have HKz:=Qh (HKk.out h3)
     rw [h3] at HHk HV
     clear h3
     cases h4:((f:Int) == hKg k)
     ·rw [h4] at HV
      refine wp_region_held_drew (S:=Kept _) (by kernel_rfl) (Kept.refl _).drew (fun Qj=>?_)
      refine rT 0 15 (.pointer (some ⟨w.heap.size,65,none⟩)) rfl rfl Qj ?_
      simp only [pA,pN,sZ,sU]
      refine rC 1 16 (.int .i64 p.c) rfl rfl (fun _ h=>kept_cell h (HP2.out.cas)) Qj ?_
      simp only [pA,pN,sZ,sU]
      refine rT 2 17 (.slice (some ⟨w.heap.size+2,0,none⟩) 12 12) rfl rfl Qj ?_
      simp only [pA,pN,sZ,sU]
      refine rT 3 18 (.int .i64 ↑i) rfl rfl Qj ?_
      simp only [pA,pN,sZ,sU]
      refine rT 4 19 (.pointer (some ⟨w.heap.size+2,i,none⟩)) rfl rfl Qj ?_
      simp only [pA,pN,sZ,sU]
      refine rC 5 20 (.int .i64 (hR k)) rfl rfl (fun _ h=>kept_cell h (Y1.out)) Qj ?_
      simp only [pA,pN,sZ,sU]
      refine rR 6 rfl (fun K hK=>?_)
      go_simp
      refine (HHk.out _).mono ?_
      rintro e v1 ⟨rfl,gv1⟩
      refine hK.out _ _ (Qj.trans gv1) (fun _=>?_)
      replace Qj:=Qj.trans gv1
      clear hK K
      refine rT 7 22 (.bool true) rfl rfl Qj ?_
      simp only [pA,pN,sZ,sU]
      refine rT 8 23 (.pointer (some ⟨w.heap.size+1,0,none⟩)) rfl rfl Qj ?_
      simp only [pA,pN,sZ,sU]
      refine rC 9 24 (.int .i64 ↑f) rfl rfl (fun _ h=>kept_cell h (hcf2.out)) Qj ?_
      simp only [pA,pN,sZ,sU]
      refine rT 10 25 (.slice (some ⟨w.heap.size+2,0,none⟩) 12 12) rfl rfl Qj ?_
      simp only [pA,pN,sZ,sU]
      refine rT 11 26 (.int .i64 ↑i) rfl rfl Qj ?_
      simp only [pA,pN,sZ,sU]
      refine rT 12 27 (.int .i64 ↑i1) rfl rfl Qj ?_
      simp only [pA,pN,sZ,sU]
      refine rT 13 28 (.pointer (some ⟨w.heap.size+2,i1,none⟩)) rfl rfl Qj ?_
      simp only [pA,pN,sZ,sU]
      refine rC 14 29 (.int .i64 ↑(hKg k)) rfl rfl (fun _ h=>kept_cell h (Y2.out)) Qj ?_
      simp only [pA,pN,sZ,sU]
      refine rT 15 30 (.bool false) rfl rfl Qj ?_
      simp only [pA,pN,sZ,sU]
      refine rT 16 31 (.bool false) rfl rfl Qj ?_
      simp only [pA,pN,sZ,sU]
      refine rT 17 32 (.bool false) rfl rfl Qj ?_
      simp only [pA,pN,sZ,sU]
      refine rN 18 33 rfl rfl Qj ?_
      simp only [pA,pN,sZ,sU]
      refine rN 19 34 rfl rfl Qj ?_
      simp only [pA,pN,sZ,sU]
      refine rN 20 35 rfl rfl Qj ?_
      simp only [pA,pN,sZ,sU]
      refine rN 21 36 rfl rfl Qj ?_
      simp only [pA,pN,sZ,sU]
      refine rN 22 37 rfl rfl Qj ?_
      simp only [pA,pN,sZ,sU]
      refine rN 23 38 rfl rfl Qj ?_
      simp only [pA,pN,sZ,sU]
      refine rN 24 39 rfl rfl Qj ?_
      simp only [pA,pN,sZ,sU]
      refine rN 25 40 rfl rfl Qj ?_
      simp only [pA,pN,sZ,sU]
      refine rT 26 41 (.bool false) rfl rfl Qj ?_
      simp only [pA,pN,sZ,sU]
      refine rT 27 42 (.bool false) rfl rfl Qj ?_
      simp only [pA,pN,sZ,sU]
      refine rN 28 43 rfl rfl Qj ?_
      simp only [pA,pN,sZ,sU]
      refine rN 29 44 rfl rfl Qj ?_
      simp only [pA,pN,sZ,sU]
      refine rN 30 45 rfl rfl Qj ?_
      simp only [pA,pN,sZ,sU]
      refine rN 31 46 rfl rfl Qj ?_
      simp only [pA,pN,sZ,sU]
      refine rN 32 47 rfl rfl Qj ?_
      simp only [pA,pN,sZ,sU]
      refine rN 33 48 rfl rfl Qj ?_
      simp only [pA,pN,sZ,sU]
      refine rN 34 49 rfl rfl Qj ?_
      simp only [pA,pN,sZ,sU]
      refine rT 35 50 (.bool false) rfl rfl Qj ?_
      simp only [pA,pN,sZ,sU]
      refine rT 36 51 (.bool false) rfl rfl Qj ?_
      simp only [pA,pN,sZ,sU]
      refine rN 37 52 rfl rfl Qj ?_
      simp only [pA,pN,sZ,sU]
      refine rN 38 53 rfl rfl Qj ?_
      simp only [pA,pN,sZ,sU]
      refine rN 39 54 rfl rfl Qj ?_
      simp only [pA,pN,sZ,sU]
      refine rN 40 55 rfl rfl Qj ?_
      simp only [pA,pN,sZ,sU]
      refine rN 41 56 rfl rfl Qj ?_
      simp only [pA,pN,sZ,sU]
      refine rN 42 57 rfl rfl Qj ?_
      simp only [pA,pN,sZ,sU]
      refine rN 43 58 rfl rfl Qj ?_
      simp only [pA,pN,sZ,sU]
      refine rT 44 59 (.bool false) rfl rfl Qj ?_
      simp only [pA,pN,sZ,sU]
      refine wpAnyH_done (by kernel_rfl) ?_ _
      have HKf:=Qh (HKr.out.trans Qj)
      clear Qj
      go_wp2
      go_roundw
      case rel=>exact ⟨k+1,by omega,by rw [← HI3.out],fun j hj=>by rcases Nat.lt_succ_iff_lt_or_eq.1 hj with h|h;exact HNo.out j h;rw [h,HV.out];simp only [Bool.and_false,Bool.false_and,Bool.and_true,Bool.true_and],HKf.out⟩
      case measure=>have:=HI.out;have:=HI3.out;simp [intOf];omega
     ·rw [h4] at HV
      have HSk:Hid (wr.cell? ⟨w.heap.size,f,none⟩=some (.int .i8 (6))):=by
       have hfk:f=hKg k:=by have:=beq_iff_eq.1 h4;omega
       have:=HSq2.out
       rw [hfk,HKz.out,Hkg.out,← hfk] at this
       exact this
      cases h5:((t:Int) == wTo k)
      ·rw [h5] at HV
       refine wp_region_held_drew (S:=Kept _) (by kernel_rfl) (Kept.refl _).drew (fun Qj=>?_)
       refine rT 0 15 (.pointer (some ⟨w.heap.size,65,none⟩)) rfl rfl Qj ?_
       simp only [pA,pN,sZ,sU]
       refine rC 1 16 (.int .i64 p.c) rfl rfl (fun _ h=>kept_cell h (HP2.out.cas)) Qj ?_
       simp only [pA,pN,sZ,sU]
       refine rT 2 17 (.slice (some ⟨w.heap.size+2,0,none⟩) 12 12) rfl rfl Qj ?_
       simp only [pA,pN,sZ,sU]
       refine rT 3 18 (.int .i64 ↑i) rfl rfl Qj ?_
       simp only [pA,pN,sZ,sU]
       refine rT 4 19 (.pointer (some ⟨w.heap.size+2,i,none⟩)) rfl rfl Qj ?_
       simp only [pA,pN,sZ,sU]
       refine rC 5 20 (.int .i64 (hR k)) rfl rfl (fun _ h=>kept_cell h (Y1.out)) Qj ?_
       simp only [pA,pN,sZ,sU]
       refine rR 6 rfl (fun K hK=>?_)
       go_simp
       refine (HHk.out _).mono ?_
       rintro e v1 ⟨rfl,gv1⟩
       refine hK.out _ _ (Qj.trans gv1) (fun _=>?_)
       replace Qj:=Qj.trans gv1
       clear hK K
       refine rT 7 22 (.bool true) rfl rfl Qj ?_
       simp only [pA,pN,sZ,sU]
       refine rT 8 23 (.pointer (some ⟨w.heap.size+1,0,none⟩)) rfl rfl Qj ?_
       simp only [pA,pN,sZ,sU]
       refine rC 9 24 (.int .i64 ↑f) rfl rfl (fun _ h=>kept_cell h (hcf2.out)) Qj ?_
       simp only [pA,pN,sZ,sU]
       refine rT 10 25 (.slice (some ⟨w.heap.size+2,0,none⟩) 12 12) rfl rfl Qj ?_
       simp only [pA,pN,sZ,sU]
       refine rT 11 26 (.int .i64 ↑i) rfl rfl Qj ?_
       simp only [pA,pN,sZ,sU]
       refine rT 12 27 (.int .i64 ↑i1) rfl rfl Qj ?_
       simp only [pA,pN,sZ,sU]
       refine rT 13 28 (.pointer (some ⟨w.heap.size+2,i1,none⟩)) rfl rfl Qj ?_
       simp only [pA,pN,sZ,sU]
       refine rC 14 29 (.int .i64 ↑(hKg k)) rfl rfl (fun _ h=>kept_cell h (Y2.out)) Qj ?_
       simp only [pA,pN,sZ,sU]
       refine rT 15 30 (.bool true) rfl rfl Qj ?_
       simp only [pA,pN,sZ,sU]
       refine rT 16 31 (.bool true) rfl rfl Qj ?_
       simp only [pA,pN,sZ,sU]
       refine rT 17 32 (.bool true) rfl rfl Qj ?_
       simp only [pA,pN,sZ,sU]
       refine rT 18 33 (.pointer (some ⟨w.heap.size+1,1,none⟩)) rfl rfl Qj ?_
       simp only [pA,pN,sZ,sU]
       refine rC 19 34 (.int .i64 ↑t) rfl rfl (fun _ h=>kept_cell h (hct2.out)) Qj ?_
       simp only [pA,pN,sZ,sU]
       refine rT 20 35 (.slice (some ⟨w.heap.size+2,0,none⟩) 12 12) rfl rfl Qj ?_
       simp only [pA,pN,sZ,sU]
       refine rT 21 36 (.int .i64 ↑i) rfl rfl Qj ?_
       simp only [pA,pN,sZ,sU]
       refine rT 22 37 (.int .i64 ↑i2) rfl rfl Qj ?_
       simp only [pA,pN,sZ,sU]
       refine rT 23 38 (.pointer (some ⟨w.heap.size+2,i2,none⟩)) rfl rfl Qj ?_
       simp only [pA,pN,sZ,sU]
       refine rC 24 39 (.int .i64 ↑(wTo k)) rfl rfl (fun _ h=>kept_cell h (Y3.out)) Qj ?_
       simp only [pA,pN,sZ,sU]
       refine rT 25 40 (.bool false) rfl rfl Qj ?_
       simp only [pA,pN,sZ,sU]
       refine rT 26 41 (.bool false) rfl rfl Qj ?_
       simp only [pA,pN,sZ,sU]
       refine rT 27 42 (.bool false) rfl rfl Qj ?_
       simp only [pA,pN,sZ,sU]
       refine rN 28 43 rfl rfl Qj ?_
       simp only [pA,pN,sZ,sU]
       refine rN 29 44 rfl rfl Qj ?_
       simp only [pA,pN,sZ,sU]
       refine rN 30 45 rfl rfl Qj ?_
       simp only [pA,pN,sZ,sU]
       refine rN 31 46 rfl rfl Qj ?_
       simp only [pA,pN,sZ,sU]
       refine rN 32 47 rfl rfl Qj ?_
       simp only [pA,pN,sZ,sU]
       refine rN 33 48 rfl rfl Qj ?_
       simp only [pA,pN,sZ,sU]
       refine rN 34 49 rfl rfl Qj ?_
       simp only [pA,pN,sZ,sU]
       refine rT 35 50 (.bool false) rfl rfl Qj ?_
       simp only [pA,pN,sZ,sU]
       refine rT 36 51 (.bool false) rfl rfl Qj ?_
       simp only [pA,pN,sZ,sU]
       refine rN 37 52 rfl rfl Qj ?_
       simp only [pA,pN,sZ,sU]
       refine rN 38 53 rfl rfl Qj ?_
       simp only [pA,pN,sZ,sU]
       refine rN 39 54 rfl rfl Qj ?_
       simp only [pA,pN,sZ,sU]
       refine rN 40 55 rfl rfl Qj ?_
       simp only [pA,pN,sZ,sU]
       refine rN 41 56 rfl rfl Qj ?_
       simp only [pA,pN,sZ,sU]
       refine rN 42 57 rfl rfl Qj ?_
       simp only [pA,pN,sZ,sU]
       refine rN 43 58 rfl rfl Qj ?_
       simp only [pA,pN,sZ,sU]
       refine rT 44 59 (.bool false) rfl rfl Qj ?_
       simp only [pA,pN,sZ,sU]
       refine wpAnyH_done (by kernel_rfl) ?_ _
       have HKf:=Qh (HKr.out.trans Qj)
       clear Qj
       go_wp2
       go_roundw
       case rel=>exact ⟨k+1,by omega,by rw [← HI3.out],fun j hj=>by rcases Nat.lt_succ_iff_lt_or_eq.1 hj with h|h;exact HNo.out j h;rw [h,HV.out];simp only [Bool.and_false,Bool.false_and,Bool.and_true,Bool.true_and],HKf.out⟩
       case measure=>have:=HI.out;have:=HI3.out;simp [intOf];omega
      ·rw [h5] at HV
       cases fr
       ·skip
        refine wp_region_held_drew (S:=Kept _) (by kernel_rfl) (Kept.refl _).drew (fun Qj=>?_)
        refine rT 0 15 (.pointer (some ⟨w.heap.size,65,none⟩)) rfl rfl Qj ?_
        simp only [pA,pN,sZ,sU]
        refine rC 1 16 (.int .i64 p.c) rfl rfl (fun _ h=>kept_cell h (HP2.out.cas)) Qj ?_
        simp only [pA,pN,sZ,sU]
        refine rT 2 17 (.slice (some ⟨w.heap.size+2,0,none⟩) 12 12) rfl rfl Qj ?_
        simp only [pA,pN,sZ,sU]
        refine rT 3 18 (.int .i64 ↑i) rfl rfl Qj ?_
        simp only [pA,pN,sZ,sU]
        refine rT 4 19 (.pointer (some ⟨w.heap.size+2,i,none⟩)) rfl rfl Qj ?_
        simp only [pA,pN,sZ,sU]
        refine rC 5 20 (.int .i64 (hR k)) rfl rfl (fun _ h=>kept_cell h (Y1.out)) Qj ?_
        simp only [pA,pN,sZ,sU]
        refine rR 6 rfl (fun K hK=>?_)
        go_simp
        refine (HHk.out _).mono ?_
        rintro e v1 ⟨rfl,gv1⟩
        refine hK.out _ _ (Qj.trans gv1) (fun _=>?_)
        replace Qj:=Qj.trans gv1
        clear hK K
        refine rT 7 22 (.bool true) rfl rfl Qj ?_
        simp only [pA,pN,sZ,sU]
        refine rT 8 23 (.pointer (some ⟨w.heap.size+1,0,none⟩)) rfl rfl Qj ?_
        simp only [pA,pN,sZ,sU]
        refine rC 9 24 (.int .i64 ↑f) rfl rfl (fun _ h=>kept_cell h (hcf2.out)) Qj ?_
        simp only [pA,pN,sZ,sU]
        refine rT 10 25 (.slice (some ⟨w.heap.size+2,0,none⟩) 12 12) rfl rfl Qj ?_
        simp only [pA,pN,sZ,sU]
        refine rT 11 26 (.int .i64 ↑i) rfl rfl Qj ?_
        simp only [pA,pN,sZ,sU]
        refine rT 12 27 (.int .i64 ↑i1) rfl rfl Qj ?_
        simp only [pA,pN,sZ,sU]
        refine rT 13 28 (.pointer (some ⟨w.heap.size+2,i1,none⟩)) rfl rfl Qj ?_
        simp only [pA,pN,sZ,sU]
        refine rC 14 29 (.int .i64 ↑(hKg k)) rfl rfl (fun _ h=>kept_cell h (Y2.out)) Qj ?_
        simp only [pA,pN,sZ,sU]
        refine rT 15 30 (.bool true) rfl rfl Qj ?_
        simp only [pA,pN,sZ,sU]
        refine rT 16 31 (.bool true) rfl rfl Qj ?_
        simp only [pA,pN,sZ,sU]
        refine rT 17 32 (.bool true) rfl rfl Qj ?_
        simp only [pA,pN,sZ,sU]
        refine rT 18 33 (.pointer (some ⟨w.heap.size+1,1,none⟩)) rfl rfl Qj ?_
        simp only [pA,pN,sZ,sU]
        refine rC 19 34 (.int .i64 ↑t) rfl rfl (fun _ h=>kept_cell h (hct2.out)) Qj ?_
        simp only [pA,pN,sZ,sU]
        refine rT 20 35 (.slice (some ⟨w.heap.size+2,0,none⟩) 12 12) rfl rfl Qj ?_
        simp only [pA,pN,sZ,sU]
        refine rT 21 36 (.int .i64 ↑i) rfl rfl Qj ?_
        simp only [pA,pN,sZ,sU]
        refine rT 22 37 (.int .i64 ↑i2) rfl rfl Qj ?_
        simp only [pA,pN,sZ,sU]
        refine rT 23 38 (.pointer (some ⟨w.heap.size+2,i2,none⟩)) rfl rfl Qj ?_
        simp only [pA,pN,sZ,sU]
        refine rC 24 39 (.int .i64 ↑(wTo k)) rfl rfl (fun _ h=>kept_cell h (Y3.out)) Qj ?_
        simp only [pA,pN,sZ,sU]
        refine rT 25 40 (.bool true) rfl rfl Qj ?_
        simp only [pA,pN,sZ,sU]
        refine rT 26 41 (.bool true) rfl rfl Qj ?_
        simp only [pA,pN,sZ,sU]
        refine rT 27 42 (.bool true) rfl rfl Qj ?_
        simp only [pA,pN,sZ,sU]
        refine rT 28 43 (.pointer (some ⟨w.heap.size+1,0,none⟩)) rfl rfl Qj ?_
        simp only [pA,pN,sZ,sU]
        refine rC 29 44 (.int .i64 ↑f) rfl rfl (fun _ h=>kept_cell h (hcf2.out)) Qj ?_
        simp only [pA,pN,sZ,sU]
        refine rT 30 45 (.pointer (some ⟨w.heap.size,0,none⟩)) rfl rfl Qj ?_
        simp only [pA,pN,sZ,sU]
        refine rT 31 46 (.pointer (some ⟨w.heap.size,f,none⟩)) rfl rfl Qj ?_
        simp only [pA,pN,sZ,sU]
        refine rC 32 47 (.int .i8 6) rfl rfl (fun _ h=>kept_cell h (HSk.out)) Qj ?_
        simp only [pA,pN,sZ,sU]
        refine rT 33 48 (.int .i8 6) rfl rfl Qj ?_
        simp only [pA,pN,sZ,sU]
        refine rT 34 49 (.bool true) rfl rfl Qj ?_
        simp only [pA,pN,sZ,sU]
        refine rT 35 50 (.bool true) rfl rfl Qj ?_
        simp only [pA,pN,sZ,sU]
        refine rT 36 51 (.bool true) rfl rfl Qj ?_
        simp only [pA,pN,sZ,sU]
        refine rT 37 52 (.pointer (some ⟨w.heap.size,0,none⟩)) rfl rfl Qj ?_
        simp only [pA,pN,sZ,sU]
        refine rY 38 53 rfl rfl (take_load_pb (by rfl) _ rfl _ rfl p hpl.out (fun _ h=>(HP2.out).kept h)) Qj ?_
        simp only [pA,pN,sZ,sU]
        refine rT 39 54 (.slice (some ⟨w.heap.size+2,0,none⟩) 12 12) rfl rfl Qj ?_
        simp only [pA,pN,sZ,sU]
        refine rT 40 55 (.int .i64 ↑i) rfl rfl Qj ?_
        simp only [pA,pN,sZ,sU]
        refine rT 41 56 (.pointer (some ⟨w.heap.size+2,i,none⟩)) rfl rfl Qj ?_
        simp only [pA,pN,sZ,sU]
        refine rC 42 57 (.int .i64 (hR k)) rfl rfl (fun _ h=>kept_cell h (Y1.out)) Qj ?_
        simp only [pA,pN,sZ,sU]
        refine rR 43 rfl (fun K hK=>?_)
        go_simp
        refine (HCl.out _).mono ?_
        rintro e v2 ⟨rfl,gv2⟩
        refine hK.out _ _ (Qj.trans gv2) (fun _=>?_)
        replace Qj:=Qj.trans gv2
        clear hK K
        refine rT 44 59 (.bool false) rfl rfl Qj ?_
        simp only [pA,pN,sZ,sU]
        refine wpAnyH_done (by kernel_rfl) ?_ _
        have HKf:=Qh (HKr.out.trans Qj)
        clear Qj
        go_wp2
        go_roundw
        case rel=>exact ⟨k+1,by omega,by rw [← HI3.out],fun j hj=>by rcases Nat.lt_succ_iff_lt_or_eq.1 hj with h|h;exact HNo.out j h;rw [h,HV.out];simp only [Bool.and_false,Bool.false_and,Bool.and_true,Bool.true_and],HKf.out⟩
        case measure=>have:=HI.out;have:=HI3.out;simp [intOf];omega
       ·have HE:=Qh (cast_at hlt HV.out HNo.out)
        refine wp_region_held_drew (S:=Kept _) (by kernel_rfl) (Kept.refl _).drew (fun Qj=>?_)
        refine rT 0 15 (.pointer (some ⟨w.heap.size,65,none⟩)) rfl rfl Qj ?_
        simp only [pA,pN,sZ,sU]
        refine rC 1 16 (.int .i64 p.c) rfl rfl (fun _ h=>kept_cell h (HP2.out.cas)) Qj ?_
        simp only [pA,pN,sZ,sU]
        refine rT 2 17 (.slice (some ⟨w.heap.size+2,0,none⟩) 12 12) rfl rfl Qj ?_
        simp only [pA,pN,sZ,sU]
        refine rT 3 18 (.int .i64 ↑i) rfl rfl Qj ?_
        simp only [pA,pN,sZ,sU]
        refine rT 4 19 (.pointer (some ⟨w.heap.size+2,i,none⟩)) rfl rfl Qj ?_
        simp only [pA,pN,sZ,sU]
        refine rC 5 20 (.int .i64 (hR k)) rfl rfl (fun _ h=>kept_cell h (Y1.out)) Qj ?_
        simp only [pA,pN,sZ,sU]
        refine rR 6 rfl (fun K hK=>?_)
        go_simp
        refine (HHk.out _).mono ?_
        rintro e v1 ⟨rfl,gv1⟩
        refine hK.out _ _ (Qj.trans gv1) (fun _=>?_)
        replace Qj:=Qj.trans gv1
        clear hK K
        refine rT 7 22 (.bool true) rfl rfl Qj ?_
        simp only [pA,pN,sZ,sU]
        refine rT 8 23 (.pointer (some ⟨w.heap.size+1,0,none⟩)) rfl rfl Qj ?_
        simp only [pA,pN,sZ,sU]
        refine rC 9 24 (.int .i64 ↑f) rfl rfl (fun _ h=>kept_cell h (hcf2.out)) Qj ?_
        simp only [pA,pN,sZ,sU]
        refine rT 10 25 (.slice (some ⟨w.heap.size+2,0,none⟩) 12 12) rfl rfl Qj ?_
        simp only [pA,pN,sZ,sU]
        refine rT 11 26 (.int .i64 ↑i) rfl rfl Qj ?_
        simp only [pA,pN,sZ,sU]
        refine rT 12 27 (.int .i64 ↑i1) rfl rfl Qj ?_
        simp only [pA,pN,sZ,sU]
        refine rT 13 28 (.pointer (some ⟨w.heap.size+2,i1,none⟩)) rfl rfl Qj ?_
        simp only [pA,pN,sZ,sU]
        refine rC 14 29 (.int .i64 ↑(hKg k)) rfl rfl (fun _ h=>kept_cell h (Y2.out)) Qj ?_
        simp only [pA,pN,sZ,sU]
        refine rT 15 30 (.bool true) rfl rfl Qj ?_
        simp only [pA,pN,sZ,sU]
        refine rT 16 31 (.bool true) rfl rfl Qj ?_
        simp only [pA,pN,sZ,sU]
        refine rT 17 32 (.bool true) rfl rfl Qj ?_
        simp only [pA,pN,sZ,sU]
        refine rT 18 33 (.pointer (some ⟨w.heap.size+1,1,none⟩)) rfl rfl Qj ?_
        simp only [pA,pN,sZ,sU]
        refine rC 19 34 (.int .i64 ↑t) rfl rfl (fun _ h=>kept_cell h (hct2.out)) Qj ?_
        simp only [pA,pN,sZ,sU]
        refine rT 20 35 (.slice (some ⟨w.heap.size+2,0,none⟩) 12 12) rfl rfl Qj ?_
        simp only [pA,pN,sZ,sU]
        refine rT 21 36 (.int .i64 ↑i) rfl rfl Qj ?_
        simp only [pA,pN,sZ,sU]
        refine rT 22 37 (.int .i64 ↑i2) rfl rfl Qj ?_
        simp only [pA,pN,sZ,sU]
        refine rT 23 38 (.pointer (some ⟨w.heap.size+2,i2,none⟩)) rfl rfl Qj ?_
        simp only [pA,pN,sZ,sU]
        refine rC 24 39 (.int .i64 ↑(wTo k)) rfl rfl (fun _ h=>kept_cell h (Y3.out)) Qj ?_
        simp only [pA,pN,sZ,sU]
        refine rT 25 40 (.bool true) rfl rfl Qj ?_
        simp only [pA,pN,sZ,sU]
        refine rT 26 41 (.bool true) rfl rfl Qj ?_
        simp only [pA,pN,sZ,sU]
        refine rT 27 42 (.bool true) rfl rfl Qj ?_
        simp only [pA,pN,sZ,sU]
        refine rT 28 43 (.pointer (some ⟨w.heap.size+1,0,none⟩)) rfl rfl Qj ?_
        simp only [pA,pN,sZ,sU]
        refine rC 29 44 (.int .i64 ↑f) rfl rfl (fun _ h=>kept_cell h (hcf2.out)) Qj ?_
        simp only [pA,pN,sZ,sU]
        refine rT 30 45 (.pointer (some ⟨w.heap.size,0,none⟩)) rfl rfl Qj ?_
        simp only [pA,pN,sZ,sU]
        refine rT 31 46 (.pointer (some ⟨w.heap.size,f,none⟩)) rfl rfl Qj ?_
        simp only [pA,pN,sZ,sU]
        refine rC 32 47 (.int .i8 6) rfl rfl (fun _ h=>kept_cell h (HSk.out)) Qj ?_
        simp only [pA,pN,sZ,sU]
        refine rT 33 48 (.int .i8 6) rfl rfl Qj ?_
        simp only [pA,pN,sZ,sU]
        refine rT 34 49 (.bool true) rfl rfl Qj ?_
        simp only [pA,pN,sZ,sU]
        refine rT 35 50 (.bool true) rfl rfl Qj ?_
        simp only [pA,pN,sZ,sU]
        refine rT 36 51 (.bool true) rfl rfl Qj ?_
        simp only [pA,pN,sZ,sU]
        refine rT 37 52 (.pointer (some ⟨w.heap.size,0,none⟩)) rfl rfl Qj ?_
        simp only [pA,pN,sZ,sU]
        refine rY 38 53 rfl rfl (take_load_pb (by rfl) _ rfl _ rfl p hpl.out (fun _ h=>(HP2.out).kept h)) Qj ?_
        simp only [pA,pN,sZ,sU]
        refine rT 39 54 (.slice (some ⟨w.heap.size+2,0,none⟩) 12 12) rfl rfl Qj ?_
        simp only [pA,pN,sZ,sU]
        refine rT 40 55 (.int .i64 ↑i) rfl rfl Qj ?_
        simp only [pA,pN,sZ,sU]
        refine rT 41 56 (.pointer (some ⟨w.heap.size+2,i,none⟩)) rfl rfl Qj ?_
        simp only [pA,pN,sZ,sU]
        refine rC 42 57 (.int .i64 (hR k)) rfl rfl (fun _ h=>kept_cell h (Y1.out)) Qj ?_
        simp only [pA,pN,sZ,sU]
        refine rR 43 rfl (fun K hK=>?_)
        go_simp
        refine (HCl.out _).mono ?_
        rintro e v2 ⟨rfl,gv2⟩
        refine hK.out _ _ (Qj.trans gv2) (fun _=>?_)
        replace Qj:=Qj.trans gv2
        clear hK K
        refine rT 44 59 (.bool true) rfl rfl Qj ?_
        simp only [pA,pN,sZ,sU]
        refine wpAnyH_done (by kernel_rfl) ?_ _
        have yy:=kept_cell Qj Y1.out
        have HKf:=Qh (HK.out.trans Qj)
        clear Qj
        go_wp2
        go_ret
        exact ⟨by rw [HE.out];rfl,HK0.out.trans HKf.out⟩
   ·obtain ⟨hkg,hi6⟩:=HSp.out.2 h2
    have Hkg:=Qh hkg
    clear hkg h2
    go_wp2
    cases h3:rgtB p.c (hR k)
    ·rw [h3] at HHk HV
     clear h3
     refine wp_region_held_drew (S:=Kept _) (by kernel_rfl) (Kept.refl _).drew (fun Qj=>?_)
     refine rT 0 15 (.pointer (some ⟨w.heap.size,65,none⟩)) rfl rfl Qj ?_
     simp only [pA,pN,sZ,sU]
     refine rC 1 16 (.int .i64 p.c) rfl rfl (fun _ h=>kept_cell h (HP2.out.cas)) Qj ?_
     simp only [pA,pN,sZ,sU]
     refine rT 2 17 (.slice (some ⟨w.heap.size+2,0,none⟩) 12 12) rfl rfl Qj ?_
     simp only [pA,pN,sZ,sU]
     refine rT 3 18 (.int .i64 ↑i) rfl rfl Qj ?_
     simp only [pA,pN,sZ,sU]
     refine rT 4 19 (.pointer (some ⟨w.heap.size+2,i,none⟩)) rfl rfl Qj ?_
     simp only [pA,pN,sZ,sU]
     refine rC 5 20 (.int .i64 (hR k)) rfl rfl (fun _ h=>kept_cell h (Y1.out)) Qj ?_
     simp only [pA,pN,sZ,sU]
     refine rR 6 rfl (fun K hK=>?_)
     go_simp
     refine (HHk.out _).mono ?_
     rintro e v1 ⟨rfl,gv1⟩
     refine hK.out _ _ (Qj.trans gv1) (fun _=>?_)
     replace Qj:=Qj.trans gv1
     clear hK K
     refine rT 7 22 (.bool false) rfl rfl Qj ?_
     simp only [pA,pN,sZ,sU]
     refine rN 8 23 rfl rfl Qj ?_
     simp only [pA,pN,sZ,sU]
     refine rN 9 24 rfl rfl Qj ?_
     simp only [pA,pN,sZ,sU]
     refine rN 10 25 rfl rfl Qj ?_
     simp only [pA,pN,sZ,sU]
     refine rN 11 26 rfl rfl Qj ?_
     simp only [pA,pN,sZ,sU]
     refine rN 12 27 rfl rfl Qj ?_
     simp only [pA,pN,sZ,sU]
     refine rN 13 28 rfl rfl Qj ?_
     simp only [pA,pN,sZ,sU]
     refine rN 14 29 rfl rfl Qj ?_
     simp only [pA,pN,sZ,sU]
     refine rN 15 30 rfl rfl Qj ?_
     simp only [pA,pN,sZ,sU]
     refine rT 16 31 (.bool false) rfl rfl Qj ?_
     simp only [pA,pN,sZ,sU]
     refine rT 17 32 (.bool false) rfl rfl Qj ?_
     simp only [pA,pN,sZ,sU]
     refine rN 18 33 rfl rfl Qj ?_
     simp only [pA,pN,sZ,sU]
     refine rN 19 34 rfl rfl Qj ?_
     simp only [pA,pN,sZ,sU]
     refine rN 20 35 rfl rfl Qj ?_
     simp only [pA,pN,sZ,sU]
     refine rN 21 36 rfl rfl Qj ?_
     simp only [pA,pN,sZ,sU]
     refine rN 22 37 rfl rfl Qj ?_
     simp only [pA,pN,sZ,sU]
     refine rN 23 38 rfl rfl Qj ?_
     simp only [pA,pN,sZ,sU]
     refine rN 24 39 rfl rfl Qj ?_
     simp only [pA,pN,sZ,sU]
     refine rN 25 40 rfl rfl Qj ?_
     simp only [pA,pN,sZ,sU]
     refine rT 26 41 (.bool false) rfl rfl Qj ?_
     simp only [pA,pN,sZ,sU]
     refine rT 27 42 (.bool false) rfl rfl Qj ?_
     simp only [pA,pN,sZ,sU]
     refine rN 28 43 rfl rfl Qj ?_
     simp only [pA,pN,sZ,sU]
     refine rN 29 44 rfl rfl Qj ?_
     simp only [pA,pN,sZ,sU]
     refine rN 30 45 rfl rfl Qj ?_
     simp only [pA,pN,sZ,sU]
     refine rN 31 46 rfl rfl Qj ?_
     simp only [pA,pN,sZ,sU]
     refine rN 32 47 rfl rfl Qj ?_
     simp only [pA,pN,sZ,sU]
     refine rN 33 48 rfl rfl Qj ?_
     simp only [pA,pN,sZ,sU]
     refine rN 34 49 rfl rfl Qj ?_
     simp only [pA,pN,sZ,sU]
     refine rT 35 50 (.bool false) rfl rfl Qj ?_
     simp only [pA,pN,sZ,sU]
     refine rT 36 51 (.bool false) rfl rfl Qj ?_
     simp only [pA,pN,sZ,sU]
     refine rN 37 52 rfl rfl Qj ?_
     simp only [pA,pN,sZ,sU]
     refine rN 38 53 rfl rfl Qj ?_
     simp only [pA,pN,sZ,sU]
     refine rN 39 54 rfl rfl Qj ?_
     simp only [pA,pN,sZ,sU]
     refine rN 40 55 rfl rfl Qj ?_
     simp only [pA,pN,sZ,sU]
     refine rN 41 56 rfl rfl Qj ?_
     simp only [pA,pN,sZ,sU]
     refine rN 42 57 rfl rfl Qj ?_
     simp only [pA,pN,sZ,sU]
     refine rN 43 58 rfl rfl Qj ?_
     simp only [pA,pN,sZ,sU]
     refine rT 44 59 (.bool false) rfl rfl Qj ?_
     simp only [pA,pN,sZ,sU]
     refine wpAnyH_done (by kernel_rfl) ?_ _
     have HKf:=Qh (HKr.out.trans Qj)
     clear Qj
     go_wp2
     go_roundw
     case rel=>exact ⟨k+1,by omega,by rw [← HI3.out],fun j hj=>by rcases Nat.lt_succ_iff_lt_or_eq.1 hj with h|h;exact HNo.out j h;rw [h,HV.out];simp only [Bool.and_false,Bool.false_and,Bool.and_true,Bool.true_and],HKf.out⟩
     case measure=>have:=HI.out;have:=HI3.out;simp [intOf];omega
    ·have HKz:=Qh (HKk.out h3)
     rw [h3] at HHk HV
     clear h3
     cases h4:((f:Int) == hKg k)
     ·rw [h4] at HV
      refine wp_region_held_drew (S:=Kept _) (by kernel_rfl) (Kept.refl _).drew (fun Qj=>?_)
      refine rT 0 15 (.pointer (some ⟨w.heap.size,65,none⟩)) rfl rfl Qj ?_
      simp only [pA,pN,sZ,sU]
      refine rC 1 16 (.int .i64 p.c) rfl rfl (fun _ h=>kept_cell h (HP2.out.cas)) Qj ?_
      simp only [pA,pN,sZ,sU]
      refine rT 2 17 (.slice (some ⟨w.heap.size+2,0,none⟩) 12 12) rfl rfl Qj ?_
      simp only [pA,pN,sZ,sU]
      refine rT 3 18 (.int .i64 ↑i) rfl rfl Qj ?_
      simp only [pA,pN,sZ,sU]
      refine rT 4 19 (.pointer (some ⟨w.heap.size+2,i,none⟩)) rfl rfl Qj ?_
      simp only [pA,pN,sZ,sU]
      refine rC 5 20 (.int .i64 (hR k)) rfl rfl (fun _ h=>kept_cell h (Y1.out)) Qj ?_
      simp only [pA,pN,sZ,sU]
      refine rR 6 rfl (fun K hK=>?_)
      go_simp
      refine (HHk.out _).mono ?_
      rintro e v1 ⟨rfl,gv1⟩
      refine hK.out _ _ (Qj.trans gv1) (fun _=>?_)
      replace Qj:=Qj.trans gv1
      clear hK K
      refine rT 7 22 (.bool true) rfl rfl Qj ?_
      simp only [pA,pN,sZ,sU]
      refine rT 8 23 (.pointer (some ⟨w.heap.size+1,0,none⟩)) rfl rfl Qj ?_
      simp only [pA,pN,sZ,sU]
      refine rC 9 24 (.int .i64 ↑f) rfl rfl (fun _ h=>kept_cell h (hcf2.out)) Qj ?_
      simp only [pA,pN,sZ,sU]
      refine rT 10 25 (.slice (some ⟨w.heap.size+2,0,none⟩) 12 12) rfl rfl Qj ?_
      simp only [pA,pN,sZ,sU]
      refine rT 11 26 (.int .i64 ↑i) rfl rfl Qj ?_
      simp only [pA,pN,sZ,sU]
      refine rT 12 27 (.int .i64 ↑i1) rfl rfl Qj ?_
      simp only [pA,pN,sZ,sU]
      refine rT 13 28 (.pointer (some ⟨w.heap.size+2,i1,none⟩)) rfl rfl Qj ?_
      simp only [pA,pN,sZ,sU]
      refine rC 14 29 (.int .i64 ↑(hKg k)) rfl rfl (fun _ h=>kept_cell h (Y2.out)) Qj ?_
      simp only [pA,pN,sZ,sU]
      refine rT 15 30 (.bool false) rfl rfl Qj ?_
      simp only [pA,pN,sZ,sU]
      refine rT 16 31 (.bool false) rfl rfl Qj ?_
      simp only [pA,pN,sZ,sU]
      refine rT 17 32 (.bool false) rfl rfl Qj ?_
      simp only [pA,pN,sZ,sU]
      refine rN 18 33 rfl rfl Qj ?_
      simp only [pA,pN,sZ,sU]
      refine rN 19 34 rfl rfl Qj ?_
      simp only [pA,pN,sZ,sU]
      refine rN 20 35 rfl rfl Qj ?_
      simp only [pA,pN,sZ,sU]
      refine rN 21 36 rfl rfl Qj ?_
      simp only [pA,pN,sZ,sU]
      refine rN 22 37 rfl rfl Qj ?_
      simp only [pA,pN,sZ,sU]
      refine rN 23 38 rfl rfl Qj ?_
      simp only [pA,pN,sZ,sU]
      refine rN 24 39 rfl rfl Qj ?_
      simp only [pA,pN,sZ,sU]
      refine rN 25 40 rfl rfl Qj ?_
      simp only [pA,pN,sZ,sU]
      refine rT 26 41 (.bool false) rfl rfl Qj ?_
      simp only [pA,pN,sZ,sU]
      refine rT 27 42 (.bool false) rfl rfl Qj ?_
      simp only [pA,pN,sZ,sU]
      refine rN 28 43 rfl rfl Qj ?_
      simp only [pA,pN,sZ,sU]
      refine rN 29 44 rfl rfl Qj ?_
      simp only [pA,pN,sZ,sU]
      refine rN 30 45 rfl rfl Qj ?_
      simp only [pA,pN,sZ,sU]
      refine rN 31 46 rfl rfl Qj ?_
      simp only [pA,pN,sZ,sU]
      refine rN 32 47 rfl rfl Qj ?_
      simp only [pA,pN,sZ,sU]
      refine rN 33 48 rfl rfl Qj ?_
      simp only [pA,pN,sZ,sU]
      refine rN 34 49 rfl rfl Qj ?_
      simp only [pA,pN,sZ,sU]
      refine rT 35 50 (.bool false) rfl rfl Qj ?_
      simp only [pA,pN,sZ,sU]
      refine rT 36 51 (.bool false) rfl rfl Qj ?_
      simp only [pA,pN,sZ,sU]
      refine rN 37 52 rfl rfl Qj ?_
      simp only [pA,pN,sZ,sU]
      refine rN 38 53 rfl rfl Qj ?_
      simp only [pA,pN,sZ,sU]
      refine rN 39 54 rfl rfl Qj ?_
      simp only [pA,pN,sZ,sU]
      refine rN 40 55 rfl rfl Qj ?_
      simp only [pA,pN,sZ,sU]
      refine rN 41 56 rfl rfl Qj ?_
      simp only [pA,pN,sZ,sU]
      refine rN 42 57 rfl rfl Qj ?_
      simp only [pA,pN,sZ,sU]
      refine rN 43 58 rfl rfl Qj ?_
      simp only [pA,pN,sZ,sU]
      refine rT 44 59 (.bool false) rfl rfl Qj ?_
      simp only [pA,pN,sZ,sU]
      refine wpAnyH_done (by kernel_rfl) ?_ _
      have HKf:=Qh (HKr.out.trans Qj)
      clear Qj
      go_wp2
      go_roundw
      case rel=>exact ⟨k+1,by omega,by rw [← HI3.out],fun j hj=>by rcases Nat.lt_succ_iff_lt_or_eq.1 hj with h|h;exact HNo.out j h;rw [h,HV.out];simp only [Bool.and_false,Bool.false_and,Bool.and_true,Bool.true_and],HKf.out⟩
      case measure=>have:=HI.out;have:=HI3.out;simp [intOf];omega
     ·rw [h4] at HV
      have HSk:Hid (wr.cell? ⟨w.heap.size,f,none⟩=some (.int .i8 ((-6)))):=by
       have hfk:f=hKg k:=by have:=beq_iff_eq.1 h4;omega
       have:=HSq2.out
       rw [hfk,HKz.out,Hkg.out,← hfk] at this
       exact this
      cases h5:((t:Int) == wTo k)
      ·rw [h5] at HV
       refine wp_region_held_drew (S:=Kept _) (by kernel_rfl) (Kept.refl _).drew (fun Qj=>?_)
       refine rT 0 15 (.pointer (some ⟨w.heap.size,65,none⟩)) rfl rfl Qj ?_
       simp only [pA,pN,sZ,sU]
       refine rC 1 16 (.int .i64 p.c) rfl rfl (fun _ h=>kept_cell h (HP2.out.cas)) Qj ?_
       simp only [pA,pN,sZ,sU]
       refine rT 2 17 (.slice (some ⟨w.heap.size+2,0,none⟩) 12 12) rfl rfl Qj ?_
       simp only [pA,pN,sZ,sU]
       refine rT 3 18 (.int .i64 ↑i) rfl rfl Qj ?_
       simp only [pA,pN,sZ,sU]
       refine rT 4 19 (.pointer (some ⟨w.heap.size+2,i,none⟩)) rfl rfl Qj ?_
       simp only [pA,pN,sZ,sU]
       refine rC 5 20 (.int .i64 (hR k)) rfl rfl (fun _ h=>kept_cell h (Y1.out)) Qj ?_
       simp only [pA,pN,sZ,sU]
       refine rR 6 rfl (fun K hK=>?_)
       go_simp
       refine (HHk.out _).mono ?_
       rintro e v1 ⟨rfl,gv1⟩
       refine hK.out _ _ (Qj.trans gv1) (fun _=>?_)
       replace Qj:=Qj.trans gv1
       clear hK K
       refine rT 7 22 (.bool true) rfl rfl Qj ?_
       simp only [pA,pN,sZ,sU]
       refine rT 8 23 (.pointer (some ⟨w.heap.size+1,0,none⟩)) rfl rfl Qj ?_
       simp only [pA,pN,sZ,sU]
       refine rC 9 24 (.int .i64 ↑f) rfl rfl (fun _ h=>kept_cell h (hcf2.out)) Qj ?_
       simp only [pA,pN,sZ,sU]
       refine rT 10 25 (.slice (some ⟨w.heap.size+2,0,none⟩) 12 12) rfl rfl Qj ?_
       simp only [pA,pN,sZ,sU]
       refine rT 11 26 (.int .i64 ↑i) rfl rfl Qj ?_
       simp only [pA,pN,sZ,sU]
       refine rT 12 27 (.int .i64 ↑i1) rfl rfl Qj ?_
       simp only [pA,pN,sZ,sU]
       refine rT 13 28 (.pointer (some ⟨w.heap.size+2,i1,none⟩)) rfl rfl Qj ?_
       simp only [pA,pN,sZ,sU]
       refine rC 14 29 (.int .i64 ↑(hKg k)) rfl rfl (fun _ h=>kept_cell h (Y2.out)) Qj ?_
       simp only [pA,pN,sZ,sU]
       refine rT 15 30 (.bool true) rfl rfl Qj ?_
       simp only [pA,pN,sZ,sU]
       refine rT 16 31 (.bool true) rfl rfl Qj ?_
       simp only [pA,pN,sZ,sU]
       refine rT 17 32 (.bool true) rfl rfl Qj ?_
       simp only [pA,pN,sZ,sU]
       refine rT 18 33 (.pointer (some ⟨w.heap.size+1,1,none⟩)) rfl rfl Qj ?_
       simp only [pA,pN,sZ,sU]
       refine rC 19 34 (.int .i64 ↑t) rfl rfl (fun _ h=>kept_cell h (hct2.out)) Qj ?_
       simp only [pA,pN,sZ,sU]
       refine rT 20 35 (.slice (some ⟨w.heap.size+2,0,none⟩) 12 12) rfl rfl Qj ?_
       simp only [pA,pN,sZ,sU]
       refine rT 21 36 (.int .i64 ↑i) rfl rfl Qj ?_
       simp only [pA,pN,sZ,sU]
       refine rT 22 37 (.int .i64 ↑i2) rfl rfl Qj ?_
       simp only [pA,pN,sZ,sU]
       refine rT 23 38 (.pointer (some ⟨w.heap.size+2,i2,none⟩)) rfl rfl Qj ?_
       simp only [pA,pN,sZ,sU]
       refine rC 24 39 (.int .i64 ↑(wTo k)) rfl rfl (fun _ h=>kept_cell h (Y3.out)) Qj ?_
       simp only [pA,pN,sZ,sU]
       refine rT 25 40 (.bool false) rfl rfl Qj ?_
       simp only [pA,pN,sZ,sU]
       refine rT 26 41 (.bool false) rfl rfl Qj ?_
       simp only [pA,pN,sZ,sU]
       refine rT 27 42 (.bool false) rfl rfl Qj ?_
       simp only [pA,pN,sZ,sU]
       refine rN 28 43 rfl rfl Qj ?_
       simp only [pA,pN,sZ,sU]
       refine rN 29 44 rfl rfl Qj ?_
       simp only [pA,pN,sZ,sU]
       refine rN 30 45 rfl rfl Qj ?_
       simp only [pA,pN,sZ,sU]
       refine rN 31 46 rfl rfl Qj ?_
       simp only [pA,pN,sZ,sU]
       refine rN 32 47 rfl rfl Qj ?_
       simp only [pA,pN,sZ,sU]
       refine rN 33 48 rfl rfl Qj ?_
       simp only [pA,pN,sZ,sU]
       refine rN 34 49 rfl rfl Qj ?_
       simp only [pA,pN,sZ,sU]
       refine rT 35 50 (.bool false) rfl rfl Qj ?_
       simp only [pA,pN,sZ,sU]
       refine rT 36 51 (.bool false) rfl rfl Qj ?_
       simp only [pA,pN,sZ,sU]
       refine rN 37 52 rfl rfl Qj ?_
       simp only [pA,pN,sZ,sU]
       refine rN 38 53 rfl rfl Qj ?_
       simp only [pA,pN,sZ,sU]
       refine rN 39 54 rfl rfl Qj ?_
       simp only [pA,pN,sZ,sU]
       refine rN 40 55 rfl rfl Qj ?_
       simp only [pA,pN,sZ,sU]
       refine rN 41 56 rfl rfl Qj ?_
       simp only [pA,pN,sZ,sU]
       refine rN 42 57 rfl rfl Qj ?_
       simp only [pA,pN,sZ,sU]
       refine rN 43 58 rfl rfl Qj ?_
       simp only [pA,pN,sZ,sU]
       refine rT 44 59 (.bool false) rfl rfl Qj ?_
       simp only [pA,pN,sZ,sU]
       refine wpAnyH_done (by kernel_rfl) ?_ _
       have HKf:=Qh (HKr.out.trans Qj)
       clear Qj
       go_wp2
       go_roundw
       case rel=>exact ⟨k+1,by omega,by rw [← HI3.out],fun j hj=>by rcases Nat.lt_succ_iff_lt_or_eq.1 hj with h|h;exact HNo.out j h;rw [h,HV.out];simp only [Bool.and_false,Bool.false_and,Bool.and_true,Bool.true_and],HKf.out⟩
       case measure=>have:=HI.out;have:=HI3.out;simp [intOf];omega
      ·rw [h5] at HV
       cases fr
       ·skip
        refine wp_region_held_drew (S:=Kept _) (by kernel_rfl) (Kept.refl _).drew (fun Qj=>?_)
        refine rT 0 15 (.pointer (some ⟨w.heap.size,65,none⟩)) rfl rfl Qj ?_
        simp only [pA,pN,sZ,sU]
        refine rC 1 16 (.int .i64 p.c) rfl rfl (fun _ h=>kept_cell h (HP2.out.cas)) Qj ?_
        simp only [pA,pN,sZ,sU]
        refine rT 2 17 (.slice (some ⟨w.heap.size+2,0,none⟩) 12 12) rfl rfl Qj ?_
        simp only [pA,pN,sZ,sU]
        refine rT 3 18 (.int .i64 ↑i) rfl rfl Qj ?_
        simp only [pA,pN,sZ,sU]
        refine rT 4 19 (.pointer (some ⟨w.heap.size+2,i,none⟩)) rfl rfl Qj ?_
        simp only [pA,pN,sZ,sU]
        refine rC 5 20 (.int .i64 (hR k)) rfl rfl (fun _ h=>kept_cell h (Y1.out)) Qj ?_
        simp only [pA,pN,sZ,sU]
        refine rR 6 rfl (fun K hK=>?_)
        go_simp
        refine (HHk.out _).mono ?_
        rintro e v1 ⟨rfl,gv1⟩
        refine hK.out _ _ (Qj.trans gv1) (fun _=>?_)
        replace Qj:=Qj.trans gv1
        clear hK K
        refine rT 7 22 (.bool true) rfl rfl Qj ?_
        simp only [pA,pN,sZ,sU]
        refine rT 8 23 (.pointer (some ⟨w.heap.size+1,0,none⟩)) rfl rfl Qj ?_
        simp only [pA,pN,sZ,sU]
        refine rC 9 24 (.int .i64 ↑f) rfl rfl (fun _ h=>kept_cell h (hcf2.out)) Qj ?_
        simp only [pA,pN,sZ,sU]
        refine rT 10 25 (.slice (some ⟨w.heap.size+2,0,none⟩) 12 12) rfl rfl Qj ?_
        simp only [pA,pN,sZ,sU]
        refine rT 11 26 (.int .i64 ↑i) rfl rfl Qj ?_
        simp only [pA,pN,sZ,sU]
        refine rT 12 27 (.int .i64 ↑i1) rfl rfl Qj ?_
        simp only [pA,pN,sZ,sU]
        refine rT 13 28 (.pointer (some ⟨w.heap.size+2,i1,none⟩)) rfl rfl Qj ?_
        simp only [pA,pN,sZ,sU]
        refine rC 14 29 (.int .i64 ↑(hKg k)) rfl rfl (fun _ h=>kept_cell h (Y2.out)) Qj ?_
        simp only [pA,pN,sZ,sU]
        refine rT 15 30 (.bool true) rfl rfl Qj ?_
        simp only [pA,pN,sZ,sU]
        refine rT 16 31 (.bool true) rfl rfl Qj ?_
        simp only [pA,pN,sZ,sU]
        refine rT 17 32 (.bool true) rfl rfl Qj ?_
        simp only [pA,pN,sZ,sU]
        refine rT 18 33 (.pointer (some ⟨w.heap.size+1,1,none⟩)) rfl rfl Qj ?_
        simp only [pA,pN,sZ,sU]
        refine rC 19 34 (.int .i64 ↑t) rfl rfl (fun _ h=>kept_cell h (hct2.out)) Qj ?_
        simp only [pA,pN,sZ,sU]
        refine rT 20 35 (.slice (some ⟨w.heap.size+2,0,none⟩) 12 12) rfl rfl Qj ?_
        simp only [pA,pN,sZ,sU]
        refine rT 21 36 (.int .i64 ↑i) rfl rfl Qj ?_
        simp only [pA,pN,sZ,sU]
        refine rT 22 37 (.int .i64 ↑i2) rfl rfl Qj ?_
        simp only [pA,pN,sZ,sU]
        refine rT 23 38 (.pointer (some ⟨w.heap.size+2,i2,none⟩)) rfl rfl Qj ?_
        simp only [pA,pN,sZ,sU]
        refine rC 24 39 (.int .i64 ↑(wTo k)) rfl rfl (fun _ h=>kept_cell h (Y3.out)) Qj ?_
        simp only [pA,pN,sZ,sU]
        refine rT 25 40 (.bool true) rfl rfl Qj ?_
        simp only [pA,pN,sZ,sU]
        refine rT 26 41 (.bool true) rfl rfl Qj ?_
        simp only [pA,pN,sZ,sU]
        refine rT 27 42 (.bool true) rfl rfl Qj ?_
        simp only [pA,pN,sZ,sU]
        refine rT 28 43 (.pointer (some ⟨w.heap.size+1,0,none⟩)) rfl rfl Qj ?_
        simp only [pA,pN,sZ,sU]
        refine rC 29 44 (.int .i64 ↑f) rfl rfl (fun _ h=>kept_cell h (hcf2.out)) Qj ?_
        simp only [pA,pN,sZ,sU]
        refine rT 30 45 (.pointer (some ⟨w.heap.size,0,none⟩)) rfl rfl Qj ?_
        simp only [pA,pN,sZ,sU]
        refine rT 31 46 (.pointer (some ⟨w.heap.size,f,none⟩)) rfl rfl Qj ?_
        simp only [pA,pN,sZ,sU]
        refine rC 32 47 (.int .i8 (-6)) rfl rfl (fun _ h=>kept_cell h (HSk.out)) Qj ?_
        simp only [pA,pN,sZ,sU]
        refine rT 33 48 (.int .i8 (-6)) rfl rfl Qj ?_
        simp only [pA,pN,sZ,sU]
        refine rT 34 49 (.bool true) rfl rfl Qj ?_
        simp only [pA,pN,sZ,sU]
        refine rT 35 50 (.bool true) rfl rfl Qj ?_
        simp only [pA,pN,sZ,sU]
        refine rT 36 51 (.bool true) rfl rfl Qj ?_
        simp only [pA,pN,sZ,sU]
        refine rT 37 52 (.pointer (some ⟨w.heap.size,0,none⟩)) rfl rfl Qj ?_
        simp only [pA,pN,sZ,sU]
        refine rY 38 53 rfl rfl (take_load_pb (by rfl) _ rfl _ rfl p hpl.out (fun _ h=>(HP2.out).kept h)) Qj ?_
        simp only [pA,pN,sZ,sU]
        refine rT 39 54 (.slice (some ⟨w.heap.size+2,0,none⟩) 12 12) rfl rfl Qj ?_
        simp only [pA,pN,sZ,sU]
        refine rT 40 55 (.int .i64 ↑i) rfl rfl Qj ?_
        simp only [pA,pN,sZ,sU]
        refine rT 41 56 (.pointer (some ⟨w.heap.size+2,i,none⟩)) rfl rfl Qj ?_
        simp only [pA,pN,sZ,sU]
        refine rC 42 57 (.int .i64 (hR k)) rfl rfl (fun _ h=>kept_cell h (Y1.out)) Qj ?_
        simp only [pA,pN,sZ,sU]
        refine rR 43 rfl (fun K hK=>?_)
        go_simp
        refine (HCl.out _).mono ?_
        rintro e v2 ⟨rfl,gv2⟩
        refine hK.out _ _ (Qj.trans gv2) (fun _=>?_)
        replace Qj:=Qj.trans gv2
        clear hK K
        refine rT 44 59 (.bool false) rfl rfl Qj ?_
        simp only [pA,pN,sZ,sU]
        refine wpAnyH_done (by kernel_rfl) ?_ _
        have HKf:=Qh (HKr.out.trans Qj)
        clear Qj
        go_wp2
        go_roundw
        case rel=>exact ⟨k+1,by omega,by rw [← HI3.out],fun j hj=>by rcases Nat.lt_succ_iff_lt_or_eq.1 hj with h|h;exact HNo.out j h;rw [h,HV.out];simp only [Bool.and_false,Bool.false_and,Bool.and_true,Bool.true_and],HKf.out⟩
        case measure=>have:=HI.out;have:=HI3.out;simp [intOf];omega
       ·have HE:=Qh (cast_at hlt HV.out HNo.out)
        refine wp_region_held_drew (S:=Kept _) (by kernel_rfl) (Kept.refl _).drew (fun Qj=>?_)
        refine rT 0 15 (.pointer (some ⟨w.heap.size,65,none⟩)) rfl rfl Qj ?_
        simp only [pA,pN,sZ,sU]
        refine rC 1 16 (.int .i64 p.c) rfl rfl (fun _ h=>kept_cell h (HP2.out.cas)) Qj ?_
        simp only [pA,pN,sZ,sU]
        refine rT 2 17 (.slice (some ⟨w.heap.size+2,0,none⟩) 12 12) rfl rfl Qj ?_
        simp only [pA,pN,sZ,sU]
        refine rT 3 18 (.int .i64 ↑i) rfl rfl Qj ?_
        simp only [pA,pN,sZ,sU]
        refine rT 4 19 (.pointer (some ⟨w.heap.size+2,i,none⟩)) rfl rfl Qj ?_
        simp only [pA,pN,sZ,sU]
        refine rC 5 20 (.int .i64 (hR k)) rfl rfl (fun _ h=>kept_cell h (Y1.out)) Qj ?_
        simp only [pA,pN,sZ,sU]
        refine rR 6 rfl (fun K hK=>?_)
        go_simp
        refine (HHk.out _).mono ?_
        rintro e v1 ⟨rfl,gv1⟩
        refine hK.out _ _ (Qj.trans gv1) (fun _=>?_)
        replace Qj:=Qj.trans gv1
        clear hK K
        refine rT 7 22 (.bool true) rfl rfl Qj ?_
        simp only [pA,pN,sZ,sU]
        refine rT 8 23 (.pointer (some ⟨w.heap.size+1,0,none⟩)) rfl rfl Qj ?_
        simp only [pA,pN,sZ,sU]
        refine rC 9 24 (.int .i64 ↑f) rfl rfl (fun _ h=>kept_cell h (hcf2.out)) Qj ?_
        simp only [pA,pN,sZ,sU]
        refine rT 10 25 (.slice (some ⟨w.heap.size+2,0,none⟩) 12 12) rfl rfl Qj ?_
        simp only [pA,pN,sZ,sU]
        refine rT 11 26 (.int .i64 ↑i) rfl rfl Qj ?_
        simp only [pA,pN,sZ,sU]
        refine rT 12 27 (.int .i64 ↑i1) rfl rfl Qj ?_
        simp only [pA,pN,sZ,sU]
        refine rT 13 28 (.pointer (some ⟨w.heap.size+2,i1,none⟩)) rfl rfl Qj ?_
        simp only [pA,pN,sZ,sU]
        refine rC 14 29 (.int .i64 ↑(hKg k)) rfl rfl (fun _ h=>kept_cell h (Y2.out)) Qj ?_
        simp only [pA,pN,sZ,sU]
        refine rT 15 30 (.bool true) rfl rfl Qj ?_
        simp only [pA,pN,sZ,sU]
        refine rT 16 31 (.bool true) rfl rfl Qj ?_
        simp only [pA,pN,sZ,sU]
        refine rT 17 32 (.bool true) rfl rfl Qj ?_
        simp only [pA,pN,sZ,sU]
        refine rT 18 33 (.pointer (some ⟨w.heap.size+1,1,none⟩)) rfl rfl Qj ?_
        simp only [pA,pN,sZ,sU]
        refine rC 19 34 (.int .i64 ↑t) rfl rfl (fun _ h=>kept_cell h (hct2.out)) Qj ?_
        simp only [pA,pN,sZ,sU]
        refine rT 20 35 (.slice (some ⟨w.heap.size+2,0,none⟩) 12 12) rfl rfl Qj ?_
        simp only [pA,pN,sZ,sU]
        refine rT 21 36 (.int .i64 ↑i) rfl rfl Qj ?_
        simp only [pA,pN,sZ,sU]
        refine rT 22 37 (.int .i64 ↑i2) rfl rfl Qj ?_
        simp only [pA,pN,sZ,sU]
        refine rT 23 38 (.pointer (some ⟨w.heap.size+2,i2,none⟩)) rfl rfl Qj ?_
        simp only [pA,pN,sZ,sU]
        refine rC 24 39 (.int .i64 ↑(wTo k)) rfl rfl (fun _ h=>kept_cell h (Y3.out)) Qj ?_
        simp only [pA,pN,sZ,sU]
        refine rT 25 40 (.bool true) rfl rfl Qj ?_
        simp only [pA,pN,sZ,sU]
        refine rT 26 41 (.bool true) rfl rfl Qj ?_
        simp only [pA,pN,sZ,sU]
        refine rT 27 42 (.bool true) rfl rfl Qj ?_
        simp only [pA,pN,sZ,sU]
        refine rT 28 43 (.pointer (some ⟨w.heap.size+1,0,none⟩)) rfl rfl Qj ?_
        simp only [pA,pN,sZ,sU]
        refine rC 29 44 (.int .i64 ↑f) rfl rfl (fun _ h=>kept_cell h (hcf2.out)) Qj ?_
        simp only [pA,pN,sZ,sU]
        refine rT 30 45 (.pointer (some ⟨w.heap.size,0,none⟩)) rfl rfl Qj ?_
        simp only [pA,pN,sZ,sU]
        refine rT 31 46 (.pointer (some ⟨w.heap.size,f,none⟩)) rfl rfl Qj ?_
        simp only [pA,pN,sZ,sU]
        refine rC 32 47 (.int .i8 (-6)) rfl rfl (fun _ h=>kept_cell h (HSk.out)) Qj ?_
        simp only [pA,pN,sZ,sU]
        refine rT 33 48 (.int .i8 (-6)) rfl rfl Qj ?_
        simp only [pA,pN,sZ,sU]
        refine rT 34 49 (.bool true) rfl rfl Qj ?_
        simp only [pA,pN,sZ,sU]
        refine rT 35 50 (.bool true) rfl rfl Qj ?_
        simp only [pA,pN,sZ,sU]
        refine rT 36 51 (.bool true) rfl rfl Qj ?_
        simp only [pA,pN,sZ,sU]
        refine rT 37 52 (.pointer (some ⟨w.heap.size,0,none⟩)) rfl rfl Qj ?_
        simp only [pA,pN,sZ,sU]
        refine rY 38 53 rfl rfl (take_load_pb (by rfl) _ rfl _ rfl p hpl.out (fun _ h=>(HP2.out).kept h)) Qj ?_
        simp only [pA,pN,sZ,sU]
        refine rT 39 54 (.slice (some ⟨w.heap.size+2,0,none⟩) 12 12) rfl rfl Qj ?_
        simp only [pA,pN,sZ,sU]
        refine rT 40 55 (.int .i64 ↑i) rfl rfl Qj ?_
        simp only [pA,pN,sZ,sU]
        refine rT 41 56 (.pointer (some ⟨w.heap.size+2,i,none⟩)) rfl rfl Qj ?_
        simp only [pA,pN,sZ,sU]
        refine rC 42 57 (.int .i64 (hR k)) rfl rfl (fun _ h=>kept_cell h (Y1.out)) Qj ?_
        simp only [pA,pN,sZ,sU]
        refine rR 43 rfl (fun K hK=>?_)
        go_simp
        refine (HCl.out _).mono ?_
        rintro e v2 ⟨rfl,gv2⟩
        refine hK.out _ _ (Qj.trans gv2) (fun _=>?_)
        replace Qj:=Qj.trans gv2
        clear hK K
        refine rT 44 59 (.bool true) rfl rfl Qj ?_
        simp only [pA,pN,sZ,sU]
        refine wpAnyH_done (by kernel_rfl) ?_ _
        have yy:=kept_cell Qj Y1.out
        have HKf:=Qh (HK.out.trans Qj)
        clear Qj
        go_wp2
        go_ret
        exact ⟨by rw [HE.out];rfl,HK0.out.trans HKf.out⟩
  ·have HE:=Qh (cast_none (p:=p) (m:=m) (fun j hj=>HNo.out j (by omega)))
   obtain rfl:k=4:=by omega
   go_wp2
   go_ret
   exact ⟨by rw [HE.out];rfl,HK0.out.trans HK.out⟩
def rs2 (p:Ps) (f t:Nat) (B:List Int):List Int:=B.set t (p.B.getD f 0)
def rs3 (p:Ps) (m:Mv) (t:Nat) (B:List Int):List Int:=if 0<m.p then B.set t (mkI m.p p.t) else B
def rs5 (p:Ps) (m:Mv) (f:Nat) (B:List Int):List Int:=if castN p m=0∨castN p m=2 then (B.set (f+1) (mkI 4 p.t)).set (f+3) 0 else B
def rs6 (p:Ps) (m:Mv) (f:Nat) (B:List Int):List Int:=if castN p m=1∨castN p m=3 then (B.set (f-1) (mkI 4 p.t)).set (f-4) 0 else B
def rbehB (p:Ps) (m:Mv) (f t:Nat):List Int:=rs6 p m f (rs5 p m f ((rs3 p m t (rs2 p f t (st1 p m))).set f 0))
def keepB (c:Int) (f t:Nat) (k:Nat):Bool:=rgtB c (hR k) && (lostI f / hR k % 2 == 0) && (lostI t / hR k % 2 == 0)
def qN (c:Int) (f t:Nat):Nat→Int
 | 0=>0
 | k+1=>if keepB c f t k then qN c f t k+hR k else qN c f t k
theorem qN_bd (c:Int) (f t:Nat):∀ k,k≤4→0≤qN c f t k∧qN c f t k≤8*k
 | 0,_=>by simp [qN]
 | k+1,h=>by
  have:=qN_bd c f t k (by omega)
  have:=hR_bd k
  rw [qN]
  split <;> omega
def repI (p:Ps) (m:Mv) (f t:Nat):Int:=if pawnB p m && (((t:Int)-f == 16) || ((f:Int)-t == 16)) then ((f:Int)+t) / 2 else -1
def rbehP (p:Ps) (m:Mv) (f t:Nat):Ps:=⟨rbehB p m f t,1-p.t,qN p.c f t 4,repI p m f t⟩
theorem mk_all:∀ n:Fin 4,∀ s:Fin 2,IntKind.i64.wrap (2*((s:Nat):Int))=2*((s:Nat):Int)∧IntKind.i64.wrap (2*((s:Nat):Int)*((((n:Nat)):Int)+2))=2*((s:Nat):Int)*((((n:Nat)):Int)+2) ∧
  IntKind.i64.wrap (((((n:Nat)):Int)+2)-2*((s:Nat):Int)*((((n:Nat)):Int)+2))=mkI ((((n:Nat)):Int)+2) ((s:Nat):Int)∧IntKind.i8.wrap (mkI ((((n:Nat)):Int)+2) ((s:Nat):Int))=mkI ((((n:Nat)):Int)+2) ((s:Nat):Int):=by decide +kernel
theorem mk_at {n s:Int} (h2:2≤n) (h5:n≤5) (hs:s=0∨s=1):IntKind.i64.wrap (2*s)=2*s∧IntKind.i64.wrap (2*s*n)=2*s*n∧IntKind.i64.wrap (n-2*s*n)=mkI n s∧IntKind.i8.wrap (mkI n s)=mkI n s:=by
 have:=mk_all ⟨(n-2).toNat,by omega⟩ ⟨s.toNat,by omega⟩
 simp only [show (((n-2).toNat:Nat):Int)+2=n by omega,show ((s.toNat:Nat):Int)=s by omega] at this
 exact this
theorem rook_at {s:Int} (hs:s=0∨s=1):IntKind.i64.wrap (8*s)=8*s∧IntKind.i64.wrap (4-8*s)=4-8*s∧IntKind.i8.wrap (4-8*s)=mkI 4 s:=by
 rcases hs with rfl|rfl <;> decide
theorem lost_all:∀ s:Fin 64,0≤lostI ((s:Nat):Int)∧lostI ((s:Nat):Int)≤12:=by decide +kernel
theorem lost_bd {s:Nat} (h:s<64):0≤lostI (s:Int)∧lostI (s:Int)≤12:=lost_all ⟨s,h⟩
theorem quo_hr {x:Int} (h0:0≤x) (h1:x≤15) (k:Nat) (hk:k<4):IntKind.i64.wrap (x.tdiv (hR k))=x / hR k∧(x / hR k).tmod 2=x / hR k % 2:=by
 have h:=hR_18 k hk
 have hq0:0≤x / hR k:=Int.ediv_nonneg h0 (by omega)
 have hq1:x / hR k≤15:=Int.le_trans (Int.ediv_le_self _ h0) h1
 rw [Int.tdiv_eq_ediv_of_nonneg h0,Int.tmod_eq_emod_of_nonneg hq0]
 exact ⟨IntWalk.i64_in _ (by omega),rfl⟩
theorem cast_f {p:Ps} {m:Mv} {f:Nat} (hf:m.f=f) {k:Nat} (hk:k<4) (h:castN p m=k):f=hKg k:=by
 have:=cast_is hk h
 unfold castB at this
 simp only [Bool.and_eq_true,beq_iff_eq] at this
 have:=this.1.1.2
 omega
theorem PAt.setSq {w:World} {g:Nat} {p:Ps} (h:PAt w g p) (k:Nat) (hk:k<64) (x:Int):PAt (w.setCell ⟨g,k,none⟩ (.int .i8 x)) g ⟨p.B.set k x,p.t,p.c,p.e⟩:=by
 refine ⟨by simpa using h.len,?_⟩
 have hl:(cl p.B).length=64:=by rw [cl_length,h.len]
 rw [heap_setCell_same w g k _ _ _ h.at_]
 congr 2
 unfold pl
 rw [List.setIfInBounds_toArray,List.set_append_left _ _ (by omega),cl_set]
 rfl
theorem stopAt {ops:Array Oper} {rest:List Oper} {o:Oper} {a:Act} {w:World} {Q:Exit→Act→World→Prop} (n:Nat) (hd:o.dst=some n) (h:Hid (wpList Tryz.prog ops Q (o::rest) a w)):wpList Tryz.prog ops Q (o::rest) a w:=h
structure Qb (w0:World) (p:Ps) (m:Mv) (f t:Nat) (W:World) (q:Ps):Prop where
 hp:PAt W w0.heap.size p
 hm:MAt W (w0.heap.size+1) m
 ef:m.f=f
 et:m.t=t
 hr:PAt W (w0.heap.size+2) Zp
 hq:PAt W (w0.heap.size+3) q
 hk:Kept w0 W
theorem Qb.kept {w0 W W':World} {p:Ps} {m:Mv} {f t:Nat} {q:Ps} (h:Qb w0 p m f t W q) (k:Kept W W'):Qb w0 p m f t W' q :=
 ⟨h.hp.kept k,h.hm.kept k,h.ef,h.et,h.hr.kept k,h.hq.kept k,h.hk.trans k⟩
theorem Qb.cf {w0 W:World} {p:Ps} {m:Mv} {f t:Nat} {q:Ps} (h:Qb w0 p m f t W q):W.cell? ⟨w0.heap.size+1,0,none⟩=some (.int .i64 (f:Int)):=by rw [← h.ef];exact h.hm.f
theorem Qb.ct {w0 W:World} {p:Ps} {m:Mv} {f t:Nat} {q:Ps} (h:Qb w0 p m f t W q):W.cell? ⟨w0.heap.size+1,1,none⟩=some (.int .i64 (t:Int)):=by rw [← h.et];exact h.hm.t
theorem Qb.upd {w0 W:World} {p:Ps} {m:Mv} {f t:Nat} {q q':Ps} (h:Qb w0 p m f t W q) (k:Nat) (u:Value) (hq:PAt (W.setCell ⟨w0.heap.size+3,k,none⟩ u) (w0.heap.size+3) q'):Qb w0 p m f t (W.setCell ⟨w0.heap.size+3,k,none⟩ u) q':=by
 have hn:∀ j,j<w0.heap.size+3→(W.setCell ⟨w0.heap.size+3,k,none⟩ u).heap[j]?=W.heap[j]?:=fun j hj=>heap_setCell_other W ⟨w0.heap.size+3,k,none⟩ j u (by show j≠w0.heap.size+3;omega)
 exact ⟨⟨h.hp.len,(hn _ (by omega)).trans h.hp.at_⟩,⟨(hn _ (by omega)).trans h.hm.at_⟩,h.ef,h.et,⟨h.hr.len,(hn _ (by omega)).trans h.hr.at_⟩,hq,h.hk.setCell (p:=⟨w0.heap.size+3,k,none⟩) (by show w0.heap.size≤w0.heap.size+3;omega) _⟩
theorem Qb.sq {w0 W:World} {p:Ps} {m:Mv} {f t:Nat} {B:List Int} {a c e:Int} (h:Qb w0 p m f t W ⟨B,a,c,e⟩) (k:Nat) (hk:k<64) (x:Int):Qb w0 p m f t (W.setCell ⟨w0.heap.size+3,k,none⟩ (.int .i8 x)) ⟨B.set k x,a,c,e⟩:=h.upd k _ (h.hq.setSq k hk x)
theorem Qb.cas {w0 W:World} {p:Ps} {m:Mv} {f t:Nat} {B:List Int} {a c e:Int} (h:Qb w0 p m f t W ⟨B,a,c,e⟩) (x:Int):Qb w0 p m f t (W.setCell ⟨w0.heap.size+3,65,none⟩ (.int .i64 x)) ⟨B,a,x,e⟩:=h.upd 65 _ (h.hq.set 1 _ rfl rfl)
theorem Qb.ep {w0 W:World} {p:Ps} {m:Mv} {f t:Nat} {B:List Int} {a c e:Int} (h:Qb w0 p m f t W ⟨B,a,c,e⟩) (x:Int):Qb w0 p m f t (W.setCell ⟨w0.heap.size+3,66,none⟩ (.int .i64 x)) ⟨B,a,c,x⟩:=h.upd 66 _ (h.hq.set 2 _ rfl rfl)
set_option maxHeartbeats 16000000 in
theorem behind_is (p:Ps) (hB:Brd p.B) (t01:p.t=0∨p.t=1) (c0:0≤p.c) (c1:p.c≤15) (hcas:casB p=true) (m:Mv) (ho:On m) (hpr:promoB m.p=true) (f t:Nat) (hf:m.f=f) (ht:m.t=t) (w:World) :
  Calls Tryz.prog 29 #[.agg (pl p).toArray,.agg (ml m).toArray] w (RetP w (rbehP p m f t)):=by
 have HP:Hid (PAt _ _ p):=⟨hB.1,heap_alloc2_old w (.cells (pl p).toArray 26) (.cells (ml m).toArray 54)⟩
 have HM:Hid (MAt _ _ m):=⟨heap_alloc2_new w (.cells (pl p).toArray 26) (.cells (ml m).toArray 54)⟩
 have HK0:=Qh (((Kept.refl w).alloc (.cells (pl p).toArray 26)).alloc (.cells (ml m).toArray 54))
 have f1:f<64:=by have:=ho.f1;omega
 have t1:t<64:=by have:=ho.t1;omega
 have hpl:Hid (p.B.length=64):=hB.1
 have hql:Hid ((⟨p.B,1-p.t,0,-1⟩:Ps).B.length=64):=hB.1
 have HP3:=Qh (HP.out.kept ((Kept.refl _).alloc (.cells (pl Zp).toArray 26)))
 have HQ0:Hid (Qb w p m f t ((((w.alloc (.cells (pl p).toArray 26)).alloc (.cells (ml m).toArray 54)).alloc (.cells (pl Zp).toArray 26)).alloc (.cells (pl ⟨p.B,1-p.t,0,-1⟩).toArray 26)) ⟨p.B,1-p.t,0,-1⟩):=by
  have k2:=(((Kept.refl ((w.alloc (.cells (pl p).toArray 26)).alloc (.cells (ml m).toArray 54))).alloc (.cells (pl Zp).toArray 26)).alloc (.cells (pl ⟨p.B,1-p.t,0,-1⟩).toArray 26))
  have a2:=heap_alloc2_old ((w.alloc (.cells (pl p).toArray 26)).alloc (.cells (ml m).toArray 54)) (.cells (pl Zp).toArray 26) (.cells (pl ⟨p.B,1-p.t,0,-1⟩).toArray 26)
  have a3:=heap_alloc2_new ((w.alloc (.cells (pl p).toArray 26)).alloc (.cells (ml m).toArray 54)) (.cells (pl Zp).toArray 26) (.cells (pl ⟨p.B,1-p.t,0,-1⟩).toArray 26)
  have hsz:((w.alloc (.cells (pl p).toArray 26)).alloc (.cells (ml m).toArray 54)).heap.size=w.heap.size+2:=by simp
  rw [hsz] at a2 a3
  exact ⟨HP.out.kept k2,MAt.kept HM.out k2,hf,ht,⟨Zp_len,a2⟩,⟨hB.1,a3⟩,HK0.out.trans k2⟩
 have HTk:=Qh (fun w=>rtakes_is p hB m ho w)
 have HRt:=Qh (fun w=>rightR_is p hB c0 c1 hcas m f t hf ht f1 t1 w)
 have HPw:=Qh (rpawn_is p.B hB f f1)
 have HTl:=Qh (take_lt (p:=p) ho)
 have HHas:=Qh (fun k (hk:k<4) w=>rhas_is p.c (hR k) w c0 c1 (hR_18 k hk).1 (hR_18 k hk).2)
 have ep:pawnB p m=(kindI (p.B.getD f 0) == 1):=by unfold pawnB bAt;rw [hf,Int.toNat_natCast]
 rw [← ep] at HPw
 have HFt:Hid (m.f=f∧m.t=t):=⟨hf,ht⟩
 have HPr:=Qh hpr
 have HT01:=Qh t01
 have hwr:IntKind.i64.wrap (1-p.t)=1-p.t:=by rcases t01 with h|h <;> rw [h] <;> decide
 obtain ⟨z1,z2,z3⟩:=rook_at t01
 have ct3:=HP3.out.turn
 have HFin:Hid (rbehB p m f t=rs6 p m f (rs5 p m f ((rs3 p m t (rs2 p f t (st1 p m))).set f 0))):=rfl
 have HRep:Hid (repI p m f t=if pawnB p m && (((t:Int)-f == 16) || ((f:Int)-t == 16)) then ((f:Int)+t) / 2 else -1):=rfl
 have HL1:=Qh (lost_bd f1)
 have HL2:=Qh (lost_bd t1)
 have HCF:=Qh (fun k=>@cast_f p m f hf k)
 have HN4:=Qh (castN_le p m)
 have hne1:w.heap.size+1≠w.heap.size+3:=by omega
 have hne0:w.heap.size≠w.heap.size+3:=by omega
 have hfI:(f:Int)<64:=by omega
 have htI:(t:Int)<64:=by omega
 clear hB c0 c1 ho hf ht hpr t01 HP HM HK0 hcas ep
 go_enter Tryz.func29,Tryz.ntmps29
 go_wp2_with (first
  | (with_reducible refine wpList_new_p rfl rfl ?_)
  | ((with_reducible refine wpList_store_newp rfl _ _ rfl Zp ⟨p.B,1-p.t,0,-1⟩ Zp_len hql.out ?_ ?_ ?_);exact rfl;exact rfl)
  | (refine wpList_load_pb (by rfl) _ rfl _ rfl _ HP3.out ?_)
  | (refine wpList_built_p3 rfl _ _ _ rfl p.B (1-p.t) (-1) hpl.out rfl rfl rfl ?_)
  | (refine wpList_load_ps (by rfl) _ rfl _ rfl _ HQ0.out.hp ?_)
  | (refine wpList_load_mv (by rfl) _ rfl _ rfl _ HQ0.out.hm ?_))
 refine (HTk.out _).mono ?_
 rintro e w1 ⟨rfl,k1⟩
 have H1:=Qh (HQ0.out.kept k1)
 clear k1 HQ0 HP3 ct3 hwr
 go_upto_if 20 with fail
 go_cut [] from 6 (fun wc=>Qb w p m f t wc ⟨st1 p m,1-p.t,0,-1⟩)
 case first =>
  by_cases hz:0≤takeI p m
  ·obtain ⟨k,hk⟩:=Int.eq_ofNat_of_zero_le hz
   have hk':=(take_on hk (by omega))
   have hk64:k<64:=by have:=HTl.out.2;rw [hk'.1] at this;omega
   have HE:Hid (st1 p m=p.B.set k 0):=by show _=_;unfold st1;rw [hk'.1,hk'.2,Int.toNat_natCast];rfl
   rw [hk]
   have hkI:(k:Int)<64:=by omega
   have x1:=H1.out.hq.sq k hk64
   have x2:=H1.out.hq.frozen k
   have H2:=Qh (H1.out.sq k hk64 0)
   clear hk hk' hz
   generalize (Ps.B ⟨p.B,1-p.t,0,-1⟩).getD k 0=y at *
   go_wp2
   go_meet
   case rel=>rw [HE.out];exact H2.out
  ·have HE:Hid (st1 p m=p.B):=by show _=_;unfold st1 takeB;rw [decide_eq_false hz];rfl
   generalize takeI p m=x at *
   go_wp2
   go_meet
   case rel=>rw [HE.out];exact H1.out
 case rest =>
 have H2:=Qh hcut
 clear hcut H1 HTl HTk
 generalize st1 p m=B1 at *
 have HX:=Qh (H2.out.hp.sq f f1)
 have HE2:Hid (rs2 p f t B1=B1.set t (p.B.getD f 0)):=rfl
 generalize p.B.getD f 0=x at *
 go_wp2
 refine wp_region_held_drew (S:=KB (wc) (w.heap.size+3)) (by kernel_rfl) ((KB.refl _ _).kept (Kept.refl _).drew) (fun Qj=>?_)
 have hKp:=(Kept.refl (wc)).drew
 refine rT 0 24 (.pointer (some ⟨w.heap.size+1,1,none⟩)) rfl rfl Qj ?_
 simp only [Act.put,sA,sZ,sU]
 refine rC 1 25 (.int .i64 ↑t) rfl rfl (fun _ h=>KB.cell h (hne1) (H2.out.ct)) Qj ?_
 simp only [pA,pN,sZ,sU]
 refine rT 2 26 (.pointer (some ⟨w.heap.size+1,0,none⟩)) rfl rfl Qj ?_
 simp only [pA,pN,sZ,sU]
 refine rC 3 27 (.int .i64 ↑f) rfl rfl (fun _ h=>KB.cell h (hne1) (H2.out.cf)) Qj ?_
 simp only [pA,pN,sZ,sU]
 refine rT 4 28 (.pointer (some ⟨w.heap.size,0,none⟩)) rfl rfl Qj ?_
 simp only [pA,pN,sZ,sU]
 refine rT 5 29 (.pointer (some ⟨w.heap.size,f,none⟩)) rfl rfl Qj ?_
 simp only [pA,pN,sZ,sU]
 refine rC 6 30 (.int .i8 x) rfl rfl (fun _ h=>KB.cell h (hne0) (HX.out)) Qj ?_
 simp only [pA,pN,sZ,sU]
 refine rT 7 31 (.pointer (some ⟨w.heap.size+3,0,none⟩)) rfl rfl Qj ?_
 simp only [pA,pN,sZ,sU]
 refine rT 8 32 (.pointer (some ⟨w.heap.size+3,t,none⟩)) rfl rfl Qj ?_
 simp only [pA,pN,sZ,sU]
 generalize wc.drew=w8 at *
 have H3:=Qh (H2.out.kept hKp)
 have a9:=H3.out.hq.sq t t1
 have f9:=H3.out.hq.frozen t
 refine rR 9 rfl (fun K hK=>?_)
 go_simp
 have H4:=Qh (H3.out.sq t t1 x)
 rw [← HE2.out] at H4
 refine hK.out _ _ (KB.set Qj t (.int .i8 x)) (fun Qj=>?_)
 clear hK K a9 f9
 generalize w8.setCell ⟨w.heap.size+3,t,none⟩ (.int .i8 x)=w9 at *
 refine wpAnyH_done (by kernel_rfl) ?_ _
 clear H2 H3 HX Qj hKp HE2
 generalize rs2 p f t B1=B2 at *
 have cp:=H4.out.hm.p
 go_upto_if 35 with fail
 clear cp
 go_cut [] from 6 (fun wd=>Qb w p m f t wd ⟨rs3 p m t B2,1-p.t,0,-1⟩)
 case first =>
  by_cases hz:0<m.p
  ·have hp25:Hid (2≤m.p∧m.p≤5):=by
    have h1:=HPr.out
    unfold promoB at h1
    simp only [Bool.or_eq_true,Bool.and_eq_true,beq_iff_eq,decide_eq_true_eq] at h1
    exact h1.resolve_left (by omega)
   obtain ⟨u1,u2,u3,u4⟩:=mk_at hp25.out.1 hp25.out.2 HT01.out
   have HE:Hid (rs3 p m t B2=B2.set t (mkI m.p p.t)):=by show _=_;unfold rs3;rw [if_pos hz]
   generalize mkI m.p p.t=x at *
   have d1:=H4.out.ct
   have d2:=H4.out.hm.p
   have d3:=H4.out.hp.turn
   have x1:=H4.out.hq.sq t t1
   have x2:=H4.out.hq.frozen t
   have H5:=Qh (H4.out.sq t t1 x)
   generalize (Ps.B ⟨B2,1-p.t,0,-1⟩).getD t 0=y at *
   go_wp2
   go_meet
   case rel=>rw [HE.out];exact H5.out
  ·have HE:Hid (rs3 p m t B2=B2):=by show _=_;unfold rs3;rw [if_neg hz]
   go_wp2
   go_meet
   case rel=>rw [HE.out];exact H4.out
 case rest =>
 have H5:=Qh hcut
 clear hcut H4
 generalize rs3 p m t B2=B3 at *
 have d1:=H5.out.cf
 have x1:=H5.out.hq.sq f f1
 have x2:=H5.out.hq.frozen f
 have H6:=Qh (H5.out.sq f f1 0)
 generalize (Ps.B ⟨B3,1-p.t,0,-1⟩).getD f 0=y at *
 generalize B3.set f 0=B4 at *
 go_wp2_with (first
  | (refine wpList_load_ps (by rfl) _ rfl _ rfl _ H6.out.hp ?_)
  | (refine wpList_load_mv (by rfl) _ rfl _ rfl _ H6.out.hm ?_))
 refine (HRt.out _).mono ?_
 rintro e w10 ⟨rfl,k10⟩
 have H7:=Qh (H6.out.kept k10)
 clear k10 H6 H5 d1 x1 x2 HRt
 have HS5:Hid (∀ B,rs5 p m f B=if castN p m=0∨castN p m=2 then (B.set (f+1) (mkI 4 p.t)).set (f+3) 0 else B):=fun _=>rfl
 have HS6:Hid (∀ B,rs6 p m f B=if castN p m=1∨castN p m=3 then (B.set (f-1) (mkI 4 p.t)).set (f-4) 0 else B):=fun _=>rfl
 generalize castN p m=cn at *
 generalize mkI 4 p.t=rook at *
 have d3:=H7.out.hp.turn
 go_upto_region 11 with fail
 go_cut [7,67] from 9 (fun s7 sb wd=>s7=.int .i64 (hR cn)∧sb=.bool (decide (cn=0∨cn=2))∧wd=w10)
 case first =>
  have hbb:decide (cn=0∨cn=2)=((hR cn == 1) || (hR cn == 4)):=by
   have:cn=0∨cn=1∨cn=2∨cn=3∨cn=4:=by have:=HN4.out;omega
   rcases this with rfl|rfl|rfl|rfl|rfl <;> rfl
  have HBB:=Qh hbb
  clear hbb
  cases hb1:(hR cn == 1)
  ·rw [hb1] at HBB
   go_wp2
   go_meet
   case rel=>exact ⟨rfl,by rw [HBB.out];rfl,rfl⟩
  ·rw [hb1] at HBB
   go_wp2
   go_meet
   case rel=>exact ⟨rfl,by rw [HBB.out];rfl,rfl⟩
 case rest =>
 obtain ⟨rfl,rfl,rfl⟩:=hcut
 clear d3
 go_upto_if 67 with fail
 go_cut [7] from 9 (fun s7 wd=>s7=.int .i64 (hR cn)∧Qb w p m f t wd ⟨rs5 p m f B4,1-p.t,0,-1⟩)
 case first =>
  by_cases hc:cn=0∨cn=2
  ·have HE:=Qh (HS5.out B4)
   rw [if_pos hc] at HE
   have hfk:f=4∨f=60:=by
    rcases hc with h|h
    ·exact .inl (HCF.out 0 (by omega) h)
    ·exact .inr (HCF.out 2 (by omega) h)
   obtain ⟨g1,hg1⟩:∃ g,g=f+1:=⟨_,rfl⟩
   obtain ⟨g2,hg2⟩:∃ g,g=f+3:=⟨_,rfl⟩
   rw [← hg1,← hg2] at HE
   have b1:g1<64:=by omega
   have b2:g2<64:=by omega
   have c1:(g1:Int)<64:=by omega
   have c2:(g2:Int)<64:=by omega
   have e1:IntKind.i64.wrap ((f:Int)+1)=(g1:Int):=by rw [IntWalk.i64_in _ (by omega)];omega
   have e2:IntKind.i64.wrap ((f:Int)+3)=(g2:Int):=by rw [IntWalk.i64_in _ (by omega)];omega
   have d1:=H7.out.cf
   have x1:=H7.out.hq.sq g1 b1
   have x2:=H7.out.hq.frozen g1
   have HY:=Qh (H7.out.sq g1 b1 rook)
   have d2:=HY.out.cf
   have x3:=HY.out.hq.sq g2 b2
   have x4:=HY.out.hq.frozen g2
   have HZ:=Qh (HY.out.sq g2 b2 0)
   generalize (Ps.B ⟨B4,1-p.t,0,-1⟩).getD g1 0=y1 at *
   generalize (Ps.B ⟨B4.set g1 rook,1-p.t,0,-1⟩).getD g2 0=y2 at *
   rw [decide_eq_true hc]
   clear hg1 hg2 hfk hc
   go_wp2
   go_meet
   case rel=>exact ⟨rfl,by rw [HE.out];exact HZ.out⟩
  ·have HE:=Qh (HS5.out B4)
   rw [if_neg hc] at HE
   rw [decide_eq_false hc]
   clear hc
   go_wp2
   go_meet
   case rel=>exact ⟨rfl,by rw [HE.out];exact H7.out⟩
 case rest =>
 obtain ⟨rfl,hcut⟩:=hcut
 have H8:=Qh hcut
 clear hcut H7 HS5
 generalize rs5 p m f B4=B5 at *
 go_upto_region 14 with fail
 go_cut [7,84] from 9 (fun s7 sb wd=>s7=.int .i64 (hR cn)∧sb=.bool (decide (cn=1∨cn=3))∧wd=wc)
 case first =>
  have hbb:decide (cn=1∨cn=3)=((hR cn == 2) || (hR cn == 8)):=by
   have:cn=0∨cn=1∨cn=2∨cn=3∨cn=4:=by have:=HN4.out;omega
   rcases this with rfl|rfl|rfl|rfl|rfl <;> rfl
  have HBB:=Qh hbb
  clear hbb
  cases hb1:(hR cn == 2)
  ·rw [hb1] at HBB
   go_wp2
   go_meet
   case rel=>exact ⟨rfl,by rw [HBB.out];rfl,rfl⟩
  ·rw [hb1] at HBB
   go_wp2
   go_meet
   case rel=>exact ⟨rfl,by rw [HBB.out];rfl,rfl⟩
 case rest =>
 obtain ⟨rfl,rfl,rfl⟩:=hcut
 go_upto_if 84 with fail
 go_cut [7] from 9 (fun s7 wd=>s7=.int .i64 (hR cn)∧Qb w p m f t wd ⟨rs6 p m f B5,1-p.t,0,-1⟩)
 case first =>
  by_cases hc:cn=1∨cn=3
  ·have HE:=Qh (HS6.out B5)
   rw [if_pos hc] at HE
   have hfk:f=4∨f=60:=by
    rcases hc with h|h
    ·exact .inl (HCF.out 1 (by omega) h)
    ·exact .inr (HCF.out 3 (by omega) h)
   obtain ⟨g1,hg1⟩:∃ g,g=f-1:=⟨_,rfl⟩
   obtain ⟨g2,hg2⟩:∃ g,g=f-4:=⟨_,rfl⟩
   rw [← hg1,← hg2] at HE
   have b1:g1<64:=by omega
   have b2:g2<64:=by omega
   have c1:(g1:Int)<64:=by omega
   have c2:(g2:Int)<64:=by omega
   have e1:IntKind.i64.wrap ((f:Int)-1)=(g1:Int):=by rw [IntWalk.i64_in _ (by omega)];omega
   have e2:IntKind.i64.wrap ((f:Int)-4)=(g2:Int):=by rw [IntWalk.i64_in _ (by omega)];omega
   have d1:=H8.out.cf
   have x1:=H8.out.hq.sq g1 b1
   have x2:=H8.out.hq.frozen g1
   have HY:=Qh (H8.out.sq g1 b1 rook)
   have d2:=HY.out.cf
   have x3:=HY.out.hq.sq g2 b2
   have x4:=HY.out.hq.frozen g2
   have HZ:=Qh (HY.out.sq g2 b2 0)
   generalize (Ps.B ⟨B5,1-p.t,0,-1⟩).getD g1 0=y1 at *
   generalize (Ps.B ⟨B5.set g1 rook,1-p.t,0,-1⟩).getD g2 0=y2 at *
   rw [decide_eq_true hc]
   clear hg1 hg2 hfk hc
   go_wp2
   go_meet
   case rel=>exact ⟨rfl,by rw [HE.out];exact HZ.out⟩
  ·have HE:=Qh (HS6.out B5)
   rw [if_neg hc] at HE
   rw [decide_eq_false hc]
   clear hc
   go_wp2
   go_meet
   case rel=>exact ⟨rfl,by rw [HE.out];exact H8.out⟩
 case rest =>
 obtain ⟨rfl,hcut⟩:=hcut
 have H9:=Qh hcut
 clear hcut H8 HS6
 generalize rs6 p m f B5=B6 at *
 have HQN:=Qh (qN_bd p.c f t)
 go_wp2
 go_loopw [9] (fun t9 wr=>∃ k:Nat,k≤4∧t9=.int .i64 (rg k)∧Qb w p m f t wr ⟨B6,1-p.t,qN p.c f t k,-1⟩) (fun t9 _=>16-(intOf t9).toNat)
 case atStart=>exact ⟨0,by omega,rfl,H9.out⟩
 case round =>
  obtain ⟨k,hk,rfl,hQ⟩:=hrel
  have H:=Qh hQ
  clear hQ
  by_cases hlt:k<4
  ·have hrk:rg k=hR k:=by
    have:k=0∨k=1∨k=2∨k=3:=by omega
    rcases this with rfl|rfl|rfl|rfl <;> rfl
   have hnx:IntKind.i64.wrap (2*hR k)=rg (k+1):=by
    have:k=0∨k=1∨k=2∨k=3:=by omega
    rcases this with rfl|rfl|rfl|rfl <;> rfl
   have HRg:Hid (hR k<rg (k+1)∧1≤hR k∧hR k≤8∧hR k=rg k):=by
    have:k=0∨k=1∨k=2∨k=3:=by omega
    rcases this with rfl|rfl|rfl|rfl <;> exact ⟨by decide,by decide,by decide,rfl⟩
   have hr8:hR k≤8:=HRg.out.2.2.1
   have hrz:(hR k == 0)=false:=beq_eq_false_iff_ne.2 (by have:=HRg.out;omega)
   have hrz':hR k≠0:=by have:=HRg.out;omega
   obtain ⟨q1,q2⟩:=quo_hr HL1.out.1 (by have:=HL1.out;omega) k hlt
   obtain ⟨q3,q4⟩:=quo_hr HL2.out.1 (by have:=HL2.out;omega) k hlt
   have hsum:IntKind.i64.wrap (qN p.c f t k+hR k)=qN p.c f t k+hR k:=IntWalk.i64_in _ (by have:=HQN.out k (by omega);have:=HRg.out;omega)
   have HKp:Hid (keepB p.c f t k=(rgtB p.c (hR k) && (lostI f / hR k % 2 == 0) && (lostI t / hR k % 2 == 0))):=rfl
   have HQs:Hid (qN p.c f t (k+1)=if keepB p.c f t k then qN p.c f t k+hR k else qN p.c f t k):=rfl
   have HHk:=Qh (HHas.out k hlt)
   have HLf:=Qh (lost_is (f:Int))
   have HLt:=Qh (lost_is (t:Int))
   rw [hrk]
   clear hrk
   have d1:=H.out.hp.cas
   generalize lostI (f:Int) / hR k=lf at *
   generalize lostI (t:Int) / hR k=lt at *
   generalize lostI (f:Int)=l1 at *
   generalize lostI (t:Int)=l2 at *
   generalize qN p.c f t k=qn at *
   cases h1:rgtB p.c (hR k)
   ·rw [h1] at HHk HKp
    rw [HKp.out] at HQs
    have HQs':Hid (qN p.c f t (k+1)=qn):=HQs.out
    go_wp2_with fail
    refine (HHk.out _).mono ?_
    rintro e v1 ⟨rfl,k1⟩
    have H1:=Qh (H.out.kept k1)
    clear k1 d1
    go_wp2
    go_roundw
    case rel=>exact ⟨k+1,by omega,rfl,by rw [HQs'.out];exact H1.out⟩
    case measure=>have:=HRg.out;simp [intOf];omega
   ·rw [h1] at HHk HKp
    go_wp2_with fail
    refine (HHk.out _).mono ?_
    rintro e v1 ⟨rfl,k1⟩
    have H1:=Qh (H.out.kept k1)
    have d2:=H1.out.cf
    clear k1 d1
    go_wp2_with fail
    refine (HLf.out _).mono ?_
    rintro e v2 ⟨rfl,k2⟩
    have H2:=Qh (H1.out.kept k2)
    have d3:=H2.out.ct
    clear k2 d2
    cases h2:(lf % 2 == 0)
    ·rw [h2] at HKp
     rw [HKp.out] at HQs
     have HQs':Hid (qN p.c f t (k+1)=qn):=HQs.out
     go_wp2
     go_roundw
     case rel=>exact ⟨k+1,by omega,rfl,by rw [HQs'.out];exact H2.out⟩
     case measure=>have:=HRg.out;simp [intOf];omega
    ·rw [h2] at HKp
     go_wp2_with fail
     refine (HLt.out _).mono ?_
     rintro e v3 ⟨rfl,k3⟩
     have H3:=Qh (H2.out.kept k3)
     clear k3 d3
     cases h3:(lt % 2 == 0)
     ·rw [h3] at HKp
      rw [HKp.out] at HQs
      have HQs':Hid (qN p.c f t (k+1)=qn):=HQs.out
      go_wp2
      go_roundw
      case rel=>exact ⟨k+1,by omega,rfl,by rw [HQs'.out];exact H3.out⟩
      case measure=>have:=HRg.out;simp [intOf];omega
     ·rw [h3] at HKp
      rw [HKp.out] at HQs
      have HQs':Hid (qN p.c f t (k+1)=qn+hR k):=HQs.out
      have x1:=H3.out.hq.cas
      have x2:=H3.out.hq.frozen 65
      have H4:=Qh (H3.out.cas (qn+hR k))
      go_wp2
      go_roundw
      case rel=>exact ⟨k+1,by omega,rfl,by rw [HQs'.out];exact H4.out⟩
      case measure=>have:=HRg.out;simp [intOf];omega
  ·obtain rfl:k=4:=by omega
   have e16:rg 4=16:=rfl
   rw [e16]
   have HQL:Hid (B6.length=64):=H.out.hq.len
   have HFin4:Hid (rbehP p m f t=⟨B6,1-p.t,qN p.c f t 4,repI p m f t⟩):=by show _=_;unfold rbehP;rw [HFin.out]
   generalize qN p.c f t 4=q4 at *
   have d1:=H.out.cf
   go_wp2_with (refine wpList_load_pb (by rfl) _ rfl _ rfl _ H.out.hp ?_)
   refine (HPw.out _).mono ?_
   rintro e v1 ⟨rfl,k1⟩
   have H1:=Qh (H.out.kept k1)
   clear k1 d1
   have d1:=H1.out.cf
   have d2:=H1.out.ct
   have e1:IntKind.i64.wrap ((t:Int)-f)=(t:Int)-f:=IntWalk.i64_in _ (by omega)
   have e2:IntKind.i64.wrap ((f:Int)-t)=(f:Int)-t:=IntWalk.i64_in _ (by omega)
   have e3:IntKind.i64.wrap ((f:Int)+t)=(f:Int)+t:=IntWalk.i64_in _ (by omega)
   have e4:IntKind.i64.wrap (((f:Int)+t).tdiv 2)=((f:Int)+t) / 2:=by
    rw [Int.tdiv_eq_ediv_of_nonneg (by omega)];exact IntWalk.i64_in _ (by omega)
   cases h1:pawnB p m
   ·skip
    have HRp:Hid (repI p m f t=-1):=by show _=_;rw [HRep.out,h1];rfl
    have HQa:Hid (PAt _ (w.heap.size+1+1+1) ⟨B6,1-p.t,q4,-1⟩):=H1.out.hq
    have HRa:Hid (PAt _ (w.heap.size+1+1) Zp):=H1.out.hr
    go_wp2_with (with_reducible refine stopAt 155 rfl ?_)
    refine Qh ?_
    refine wpList_load_ps rfl _ rfl (w.heap.size+1+1+1) rfl ⟨B6,1-p.t,q4,-1⟩ HQa.out ?_
    simp only [Act.put,sA,sZ,sU]
    refine wpList_store_ps rfl _ _ rfl (w.heap.size+1+1) Zp ⟨B6,1-p.t,q4,-1⟩ HRa.out HQL.out rfl rfl ?_
    go_wp2
    refine bodyPost_ret (v:=.agg (pl ⟨B6,1-p.t,q4,-1⟩).toArray) ?_ rfl ⟨by rw [HFin4.out,HRp.out],H1.out.hk.setRow (by omega) _⟩
    exact results_p rfl _ rfl (H1.out.hr.setRow HQL.out)
   ·cases h2:((t:Int)-f == 16)
    ·cases h3:((f:Int)-t == 16)
     ·skip
      have HRp:Hid (repI p m f t=-1):=by show _=_;rw [HRep.out,h1,h2,h3];rfl
      have HQa:Hid (PAt _ (w.heap.size+1+1+1) ⟨B6,1-p.t,q4,-1⟩):=H1.out.hq
      have HRa:Hid (PAt _ (w.heap.size+1+1) Zp):=H1.out.hr
      go_wp2_with (with_reducible refine stopAt 155 rfl ?_)
      refine Qh ?_
      refine wpList_load_ps rfl _ rfl (w.heap.size+1+1+1) rfl ⟨B6,1-p.t,q4,-1⟩ HQa.out ?_
      simp only [Act.put,sA,sZ,sU]
      refine wpList_store_ps rfl _ _ rfl (w.heap.size+1+1) Zp ⟨B6,1-p.t,q4,-1⟩ HRa.out HQL.out rfl rfl ?_
      go_wp2
      refine bodyPost_ret (v:=.agg (pl ⟨B6,1-p.t,q4,-1⟩).toArray) ?_ rfl ⟨by rw [HFin4.out,HRp.out],H1.out.hk.setRow (by omega) _⟩
      exact results_p rfl _ rfl (H1.out.hr.setRow HQL.out)
     ·have HRp:Hid (repI p m f t=((f:Int)+t) / 2):=by show _=_;rw [HRep.out,h1,h2,h3];rfl
      have x1:=H1.out.hq.ep
      have x2:=H1.out.hq.frozen 66
      have H2:=Qh (H1.out.ep (((f:Int)+t) / 2))
      generalize ((f:Int)+t) / 2=md at *
      have HQa:Hid (PAt _ (w.heap.size+1+1+1) ⟨B6,1-p.t,q4,md⟩):=H2.out.hq
      have HRa:Hid (PAt _ (w.heap.size+1+1) Zp):=H2.out.hr
      go_wp2_with (with_reducible refine stopAt 155 rfl ?_)
      refine Qh ?_
      refine wpList_load_ps rfl _ rfl (w.heap.size+1+1+1) rfl ⟨B6,1-p.t,q4,md⟩ HQa.out ?_
      simp only [Act.put,sA,sZ,sU]
      refine wpList_store_ps rfl _ _ rfl (w.heap.size+1+1) Zp ⟨B6,1-p.t,q4,md⟩ HRa.out HQL.out rfl rfl ?_
      go_wp2
      refine bodyPost_ret (v:=.agg (pl ⟨B6,1-p.t,q4,md⟩).toArray) ?_ rfl ⟨by rw [HFin4.out,HRp.out],H2.out.hk.setRow (by omega) _⟩
      exact results_p rfl _ rfl (H2.out.hr.setRow HQL.out)
    ·have HRp:Hid (repI p m f t=((f:Int)+t) / 2):=by show _=_;rw [HRep.out,h1,h2];rfl
     have x1:=H1.out.hq.ep
     have x2:=H1.out.hq.frozen 66
     have H2:=Qh (H1.out.ep (((f:Int)+t) / 2))
     generalize ((f:Int)+t) / 2=md at *
     have HQa:Hid (PAt _ (w.heap.size+1+1+1) ⟨B6,1-p.t,q4,md⟩):=H2.out.hq
     have HRa:Hid (PAt _ (w.heap.size+1+1) Zp):=H2.out.hr
     go_wp2_with (with_reducible refine stopAt 155 rfl ?_)
     refine Qh ?_
     refine wpList_load_ps rfl _ rfl (w.heap.size+1+1+1) rfl ⟨B6,1-p.t,q4,md⟩ HQa.out ?_
     simp only [Act.put,sA,sZ,sU]
     refine wpList_store_ps rfl _ _ rfl (w.heap.size+1+1) Zp ⟨B6,1-p.t,q4,md⟩ HRa.out HQL.out rfl rfl ?_
     go_wp2
     refine bodyPost_ret (v:=.agg (pl ⟨B6,1-p.t,q4,md⟩).toArray) ?_ rfl ⟨by rw [HFin4.out,HRp.out],H2.out.hk.setRow (by omega) _⟩
     exact results_p rfl _ rfl (H2.out.hr.setRow HQL.out)
theorem lostB_all:∀ s:Fin 64,∀ k:Fin 4,(lostI ((s:Nat):Int) / hR k % 2 == 0)=!((((s:Nat):Int) == hKg k) || (((s:Nat):Int) == hRk k)):=by decide +kernel
theorem lostB {s:Nat} (hs:s<64) {k:Nat} (hk:k<4):(lostI (s:Int) / hR k % 2 == 0)=!(((s:Int) == hKg k) || ((s:Int) == hRk k)):=lostB_all ⟨s,hs⟩ ⟨k,hk⟩
theorem tc_keep {c:Int} {m:Mv} {f t:Nat} (hf:m.f=f) (ht:m.t=t) (f1:f<64) (t1:t<64) {k:Nat} (hk:k<4):keepB c f t k=(rgtB c (hR k) && !tcB m k):=by
 unfold keepB tcB
 rw [lostB f1 hk,lostB t1 hk,hf,ht]
 generalize ((f:Int) == hKg k)=a
 generalize ((f:Int) == hRk k)=b
 generalize ((t:Int) == hKg k)=c'
 generalize ((t:Int) == hRk k)=d
 cases rgtB c (hR k) <;> cases a <;> cases b <;> cases c' <;> cases d <;> rfl
theorem qN_is {c:Int} {m:Mv} {f t:Nat} (hf:m.f=f) (ht:m.t=t) (f1:f<64) (t1:t<64):qN c f t 4=qB c (tcB m 0) (tcB m 1) (tcB m 2) (tcB m 3):=by
 have k0:=tc_keep (c:=c) hf ht f1 t1 (k:=0) (by omega)
 have k1:=tc_keep (c:=c) hf ht f1 t1 (k:=1) (by omega)
 have k2:=tc_keep (c:=c) hf ht f1 t1 (k:=2) (by omega)
 have k3:=tc_keep (c:=c) hf ht f1 t1 (k:=3) (by omega)
 unfold qN qN qN qN qN qB
 rw [k0,k1,k2,k3]
 rfl
theorem ep_eq {p:Ps} {m:Mv} {f t:Nat} (hf:m.f=f) (ht:m.t=t):repI p m f t=epI p m:=by
 unfold repI epI
 rw [hf,ht]
 have e:(((t:Int)-f == 16) || ((f:Int)-t == 16))=(((f:Int) % 8 == (t:Int) % 8) && (farI (f:Int) (t:Int) == 2)):=by
  rw [Bool.eq_iff_iff]
  simp only [Bool.or_eq_true,Bool.and_eq_true,beq_iff_eq,farI]
  generalize hx:(f:Int) % 8=x
  generalize hy:(t:Int) % 8=y
  generalize hu:(f:Int) / 8=u
  generalize hv:(t:Int) / 8=v
  constructor
  ·intro h;omega
  ·intro h;omega
 rw [e,Bool.and_assoc]
theorem beh_plain {p:Ps} {m:Mv} {f t:Nat} (h:Fm p m f t) (hc:castN p m=4):rbehB p m f t=behB p m:=by
 have hl1:(st1 p m).length=64:=st1_len h.brd.1
 have s2:st2 p m (st1 p m)=st1 p m:=by unfold st2;rw [hc,if_neg (by omega)]
 have r5:∀ B,rs5 p m f B=B:=fun B=>by unfold rs5;rw [hc,if_neg (by omega)]
 have r6:∀ B,rs6 p m f B=B:=fun B=>by unfold rs6;rw [hc,if_neg (by omega)]
 unfold rbehB behB
 rw [s2,r5,r6]
 have e0:(st1 p m).getD f 0=p.B.getD f 0:=by
  unfold st1
  split
  ·next ht =>
   rw [getD_set _ _ _ _ (by have:=take_lt (p:=p) (m:=m) ⟨by have:=h.hf;omega,by have:=h.hf;have:=h.f1;omega,by have:=h.ht;omega,by have:=h.ht;have:=h.t1;omega⟩;rw [h.brd.1];omega),if_neg]
   intro e
   
   unfold takeB at ht
   have ht':0≤takeI p m:=by simpa using ht
   have hs:takeS p m=takeI p m:=by unfold takeS;rw [if_pos ht']
   have hi:takeI p m=(f:Int):=by have:(takeS p m).toNat=f:=e;omega
   unfold takeI at hi
   split at hi
   ·exact h.ne (by have:=h.ht;omega)
   ·split at hi
    ·
     next he =>
     have ho:=h.own
     unfold passI at hi
     split at hi
     ·next hp =>
      obtain ⟨q0,q1,q2,q3,q4,q5⟩:=hp
      have:bAt p.B (p.e-8)=p.B.getD f 0:=by unfold bAt;rw [hi,Int.toNat_natCast]
      rw [← this,q5,q0] at ho
      exact absurd ho (by decide)
     ·split at hi
      ·next hp =>
       obtain ⟨q0,q1,q2,q3,q4,q5⟩:=hp
       have:bAt p.B (p.e+8)=p.B.getD f 0:=by unfold bAt;rw [hi,Int.toNat_natCast]
       rw [← this,q5,q0] at ho
       exact absurd ho (by decide)
      ·omega
    ·omega
  ·rfl
 have hft:=h.ne
 have ff:m.f.toNat=f:=by rw [h.hf,Int.toNat_natCast]
 have tt:m.t.toNat=t:=by rw [h.ht,Int.toNat_natCast]
 generalize hS1:st1 p m=B1 at *
 have hf1:=h.f1
 have ht1:=h.t1
 have hp0:(0<m.p)↔(m.p != 0)=true:=by
  have:=promo_five' h.prm
  rw [bne_iff_ne];omega
 refine ext_getD ?_ ?_ ?_
 ·unfold rs3 rs2;split <;> simp [hl1]
 ·exact st4_len (st3_len hl1)
 ·intro j hj
  unfold rs3 rs2 st4 st3
  rw [ff,tt,e0]
  by_cases hm:0<m.p
  ·rw [if_pos hm,if_pos (hp0.1 hm)]
   rw [getD_set _ _ _ _ (by simp [hl1];omega),getD_set _ _ _ _ (by simp [hl1];omega),getD_set _ _ _ _ (by omega),getD_set _ _ _ _ (by simp [hl1];omega),getD_set _ _ _ _ (by simp [hl1];omega),getD_set _ _ _ _ (by omega)]
   by_cases a:f=j
   ·subst a;simp [hft.symm]
   ·by_cases b:t=j
    ·subst b;simp [hft]
    ·simp [a,b]
  ·rw [if_neg hm,if_neg (fun e=>hm (hp0.2 e))]
   rw [getD_set _ _ _ _ (by simp [hl1];omega),getD_set _ _ _ _ (by omega),getD_set _ _ _ _ (by simp [hl1];omega),getD_set _ _ _ _ (by omega)]
   by_cases a:f=j
   ·subst a;simp [hft.symm]
   ·by_cases b:t=j
    ·subst b;simp [hft]
    ·simp [a,b]
theorem beh_cast {p:Ps} {m:Mv} {f t:Nat} (h:Fm p m f t) {k:Nat} (hk:k<4) (hc:castN p m=k):rbehB p m f t=behB p m:=by
 have c:=cast_of h hk hc
 have s1:st1 p m=p.B:=by unfold st1 takeB;rw [c.no_take h];rfl
 have hl:=h.brd.1
 have hp:=c.no_promo h
 have ff:m.f.toNat=f:=by rw [h.hf,Int.toNat_natCast]
 have tt:m.t.toNat=t:=by rw [h.ht,Int.toNat_natCast]
 have md:((m.f+m.t) / 2).toNat=(f+t) / 2:=by rw [h.hf,h.ht];omega
 have s4:∀ B,st4 p m B=B:=fun B=>by unfold st4;rw [hp];rfl
 have r3:∀ B,rs3 p m t B=B:=fun B=>by unfold rs3;rw [hp];rfl
 have e1:=c.ef
 have e2:=c.et
 have er:=c.rook
 unfold rbehB behB st3 st2 rs2 rs5 rs6
 rw [s4,r3,s1,hc,if_pos hk,ff,tt,md,er]
 generalize mkI 4 p.t=r at *
 clear s4 r3 s1 hp ff tt md er c
 have:k=0∨k=1∨k=2∨k=3:=by omega
 rcases this with rfl|rfl|rfl|rfl
 ·have e1':f=4:=e1
  have e2':t=6:=e2
  subst e1' e2'
  rw [if_neg (by omega),if_pos (by omega)]
  refine ext_getD (by simp [hl]) (by simp [hl]) fun j hj=>?_
  rw [show hRk 0=7 from rfl,show (4+6) / 2=5 from rfl]
  rw [getD_set _ _ _ _ (by simp [hl]),getD_set _ _ _ _ (by simp [hl]),getD_set _ _ _ _ (by simp [hl]),getD_set _ _ _ _ (by simp [hl]),getD_set _ _ _ _ (by simp [hl]),getD_set _ _ _ _ (by simp [hl]),getD_set _ _ _ _ (by simp [hl]),getD_set _ _ _ _ (by simp [hl]),getD_set _ _ _ _ (by simp [hl]),getD_set _ _ _ _ (by simp [hl])]
  by_cases a0:4=j
  ·subst a0;rfl
  ·by_cases a1:6=j
   ·subst a1;rfl
   ·by_cases a2:5=j
    ·subst a2;rfl
    ·by_cases a3:7=j
     ·subst a3;rfl
     ·simp only [a0,a1,a2,a3,if_false]
 ·have e1':f=4:=e1
  have e2':t=2:=e2
  subst e1' e2'
  rw [if_pos (by omega),if_neg (by omega)]
  refine ext_getD (by simp [hl]) (by simp [hl]) fun j hj=>?_
  rw [show hRk 1=0 from rfl,show (4+2) / 2=3 from rfl]
  rw [getD_set _ _ _ _ (by simp [hl]),getD_set _ _ _ _ (by simp [hl]),getD_set _ _ _ _ (by simp [hl]),getD_set _ _ _ _ (by simp [hl]),getD_set _ _ _ _ (by simp [hl]),getD_set _ _ _ _ (by simp [hl]),getD_set _ _ _ _ (by simp [hl]),getD_set _ _ _ _ (by simp [hl]),getD_set _ _ _ _ (by simp [hl]),getD_set _ _ _ _ (by simp [hl])]
  by_cases a0:4=j
  ·subst a0;rfl
  ·by_cases a1:2=j
   ·subst a1;rfl
   ·by_cases a2:3=j
    ·subst a2;rfl
    ·by_cases a3:0=j
     ·subst a3;rfl
     ·simp only [a0,a1,a2,a3,if_false]
 ·have e1':f=60:=e1
  have e2':t=62:=e2
  subst e1' e2'
  rw [if_neg (by omega),if_pos (by omega)]
  refine ext_getD (by simp [hl]) (by simp [hl]) fun j hj=>?_
  rw [show hRk 2=63 from rfl,show (60+62) / 2=61 from rfl]
  rw [getD_set _ _ _ _ (by simp [hl]),getD_set _ _ _ _ (by simp [hl]),getD_set _ _ _ _ (by simp [hl]),getD_set _ _ _ _ (by simp [hl]),getD_set _ _ _ _ (by simp [hl]),getD_set _ _ _ _ (by simp [hl]),getD_set _ _ _ _ (by simp [hl]),getD_set _ _ _ _ (by simp [hl]),getD_set _ _ _ _ (by simp [hl]),getD_set _ _ _ _ (by simp [hl])]
  by_cases a0:60=j
  ·subst a0;rfl
  ·by_cases a1:62=j
   ·subst a1;rfl
   ·by_cases a2:61=j
    ·subst a2;rfl
    ·by_cases a3:63=j
     ·subst a3;rfl
     ·simp only [a0,a1,a2,a3,if_false]
 ·have e1':f=60:=e1
  have e2':t=58:=e2
  subst e1' e2'
  rw [if_pos (by omega),if_neg (by omega)]
  refine ext_getD (by simp [hl]) (by simp [hl]) fun j hj=>?_
  rw [show hRk 3=56 from rfl,show (60+58) / 2=59 from rfl]
  rw [getD_set _ _ _ _ (by simp [hl]),getD_set _ _ _ _ (by simp [hl]),getD_set _ _ _ _ (by simp [hl]),getD_set _ _ _ _ (by simp [hl]),getD_set _ _ _ _ (by simp [hl]),getD_set _ _ _ _ (by simp [hl]),getD_set _ _ _ _ (by simp [hl]),getD_set _ _ _ _ (by simp [hl]),getD_set _ _ _ _ (by simp [hl]),getD_set _ _ _ _ (by simp [hl])]
  by_cases a0:60=j
  ·subst a0;rfl
  ·by_cases a1:58=j
   ·subst a1;rfl
   ·by_cases a2:59=j
    ·subst a2;rfl
    ·by_cases a3:56=j
     ·subst a3;rfl
     ·simp only [a0,a1,a2,a3,if_false]
theorem behB_eq {p:Ps} {m:Mv} {f t:Nat} (h:Fm p m f t):rbehB p m f t=behB p m:=by
 by_cases hc:castN p m<4
 ·exact beh_cast h hc rfl
 ·exact beh_plain h (by have:=castN_le p m;omega)
theorem behP_eq {p:Ps} {m:Mv} {f t:Nat} (h:Fm p m f t):rbehP p m f t=behP p m:=by
 obtain ⟨t01,⟨c0,c1⟩,_⟩:=right_t h.right
 unfold rbehP behP
 rw [behB_eq h,other_at t01,ep_eq h.hf h.ht,rtN_is,qN_is h.hf h.ht h.f1 h.t1,(rt_q c0 c1 _ _ _ _).1]
theorem range_i {w:World} {g off:Nat} {l:List Mv} (h:w.rangeAt g off (mlL l)) {i:Nat} {m:Mv} (hi:l[i]?=some m):w.rangeAt g (off+i*3) (ml m):=by
 have:=range_mv h hi
 rwa [Nat.mul_comm] at this
end Go.Proofs.YtijkemnhehbchaaGreatDoor
