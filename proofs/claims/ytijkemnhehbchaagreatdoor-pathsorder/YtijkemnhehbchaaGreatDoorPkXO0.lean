/- MvH · PaA · PaB · PaK: my texts, in their order. -/
import Derived.Test.YtijkemnhehbchaaGreatDoorPkXAO0
import Derived.Test.YtijkemnhehbchaaGreatDoorPkA
import Derived.Test.YtijkemnhehbchaaGreatDoorPkB
import Derived.Test.YtijkemnhehbchaaGreatDoorPkC
import Derived.Test.YtijkemnhehbchaaGreatDoorPkD
import Derived.Test.YtijkemnhehbchaaGreatDoorPkE
import Derived.Test.YtijkemnhehbchaaGreatDoorPkF
import Derived.Test.YtijkemnhehbchaaGreatDoorPkGa
import Derived.Test.YtijkemnhehbchaaGreatDoorPkGb
import Derived.Test.YtijkemnhehbchaaGreatDoorPkGc
import Derived.Test.YtijkemnhehbchaaGreatDoorPkGd
import Derived.Test.YtijkemnhehbchaaGreatDoorPkGe
import Derived.Test.YtijkemnhehbchaaGreatDoorPkGh
import Derived.Test.YtijkemnhehbchaaGreatDoorPkH
import Derived.Test.YtijkemnhehbchaaGreatDoorPkI
import Derived.Test.YtijkemnhehbchaaGreatDoorPkJ
import Derived.Test.YtijkemnhehbchaaGreatDoorPkK
import Derived.Test.YtijkemnhehbchaaGreatDoorPkL
import Derived.Test.YtijkemnhehbchaaGreatDoorPkLa
import Derived.Test.YtijkemnhehbchaaGreatDoorPkLd
import Derived.Test.YtijkemnhehbchaaGreatDoorPkLe
import Derived.Test.YtijkemnhehbchaaGreatDoorPkLf
import Derived.Test.YtijkemnhehbchaaGreatDoorPkLg
import Derived.Test.YtijkemnhehbchaaGreatDoorPkLh
import Derived.Test.YtijkemnhehbchaaGreatDoorPkM
import Derived.Test.YtijkemnhehbchaaGreatDoorPkR
import Derived.Test.YtijkemnhehbchaaGreatDoorPkRa
import Derived.Test.YtijkemnhehbchaaGreatDoorPkRb
import Derived.Test.YtijkemnhehbchaaGreatDoorPkRd
import Derived.Test.YtijkemnhehbchaaGreatDoorPkRe
import Derived.Test.YtijkemnhehbchaaGreatDoorPkRf
import Derived.Test.YtijkemnhehbchaaGreatDoorPkRg
import Derived.Test.YtijkemnhehbchaaGreatDoorPkRh
import Derived.Test.YtijkemnhehbchaaGreatDoorPkRk
namespace Go.Proofs.YtijkemnhehbchaaGreatDoor
open Go.RowKit
set_option linter.unusedVariables false
set_option linter.unusedSimpArgs false
set_option maxRecDepth 100000
theorem rless_is (a b:Mv) (w:World):Calls Tryz.prog 39 #[.agg (ml a).toArray,.agg (ml b).toArray] w fun e w'=>e=.returned (.bool (lessB a b))∧Kept w w':=by
 have HA:Hid (MAt _ _ a):=⟨heap_alloc2_old w (.cells (ml a).toArray 54) (.cells (ml b).toArray 54)⟩
 have HB:Hid (MAt _ _ b):=⟨heap_alloc2_new w (.cells (ml a).toArray 54) (.cells (ml b).toArray 54)⟩
 have HK0:=Qh (((Kept.refl w).alloc (.cells (ml a).toArray 54)).alloc (.cells (ml b).toArray 54))
 have a1:=HA.out.f
 have a2:=HA.out.t
 have a3:=HA.out.p
 have b1:=HB.out.f
 have b2:=HB.out.t
 have b3:=HB.out.p
 by_cases h1:a.f=b.f
 ·have e1:(a.f != b.f)=false:=by rw [h1];simp
  by_cases h2:a.t=b.t
  ·have e2:(a.t != b.t)=false:=by rw [h2];simp
   have HV:Hid (lessB a b=decide (b.p<a.p)):=by show _=_;unfold lessB;rw [if_neg (by simpa using h1),if_neg (by simpa using h2)]
   clear h1 h2
   go_enter Tryz.func39,Tryz.ntmps39
   go_wp2
   go_ret
   exact ⟨by rw [HV.out];rfl,HK0.out⟩
  ·have e2:(a.t != b.t)=true:=bne_iff_ne.2 h2
   have HV:Hid (lessB a b=decide (a.t<b.t)):=by show _=_;unfold lessB;rw [if_neg (by simpa using h1),if_pos h2]
   clear h1 h2
   go_enter Tryz.func39,Tryz.ntmps39
   go_wp2
   go_ret
   exact ⟨by rw [HV.out];rfl,HK0.out⟩
 ·have e1:(a.f != b.f)=true:=bne_iff_ne.2 h1
  have HV:Hid (lessB a b=decide (a.f<b.f)):=by show _=_;unfold lessB;rw [if_pos h1]
  clear h1
  go_enter Tryz.func39,Tryz.ntmps39
  go_wp2
  go_ret
  exact ⟨by rw [HV.out];rfl,HK0.out⟩
theorem beqM_sym (x y:Mv):beqM x y=beqM y x:=by
 rw [Bool.eq_iff_iff,beqM_iff,beqM_iff];exact eq_comm
theorem lessP_law:∀ a b:List Mv,(lessP a b && lessP b a)=false∧(lessP a b || lessP b a)=!sameP a b
 | [],[]=>by decide
 | [],y::b=>by simp [lessP,sameP]
 | x::a,[]=>by simp [lessP,sameP]
 | x::a,y::b=>by
  cases h:beqM x y
  ·have h':beqM y x=false:=by rw [beqM_sym];exact h
   rw [lessP_diff a b h,lessP_diff b a h',sameP,h,Bool.false_and]
   cases h1:lessB x y
   ·cases h2:lessB y x
    ·rw [less_eq h1 h2] at h;cases h
    ·decide
   ·rw [(less_not h1).1];decide
  ·have h':beqM y x=true:=by rw [beqM_sym];exact h
   rw [lessP_same a b h,lessP_same b a h',sameP,h,Bool.true_and]
   exact lessP_law a b
theorem sameP_iff:∀ a b:List Mv,sameP a b=true↔a=b
 | [],b=>by cases b <;> simp [sameP]
 | x::a,[]=>by simp [sameP]
 | x::a,y::b=>by rw [sameP,Bool.and_eq_true,beqM_iff,sameP_iff a b,List.cons.injEq]
set_option maxHeartbeats 4000000 in
theorem rpless_is (ga gb:Nat) (va vb:Value) (a b:List Mv) (w:World) (ha:LsM w ga va a) (hb:LsM w gb vb b) :
  Calls Tryz.prog 15 #[va,vb] w fun e w'=>e=.returned (.bool (lessP a b))∧Kept w w':=by
 obtain ⟨aa,ca,rfl⟩:=ha.slice
 obtain ⟨ab,cb,rfl⟩:=hb.slice
 have HLa:=Qh ha
 have HLb:=Qh hb
 have HMa:Hid (a.length≤maxLen):=by
  by_cases h:0<a.length
  ·obtain ⟨_,_,_,h1,h2,_⟩:=ha.full h;exact Nat.le_trans h1 h2
  ·show _≤_;omega
 generalize hla:a.length=la at *
 generalize hlb:b.length=lb at *
 have HA:=Qh hla
 have HB:=Qh hlb
 have hma:=HMa.out
 unfold maxLen at hma
 clear hla hlb ha hb
 go_enter Tryz.func15,Tryz.ntmps15
 go_wp2
 go_loopw [5] (fun t5 wr=>∃ k:Nat,k≤la∧k≤lb∧t5=.int .i64 k∧a.take k=b.take k∧Kept w wr) (fun t5 _=>la-(intOf t5).toNat)
 case atStart=>exact ⟨0,Nat.zero_le _,Nat.zero_le _,rfl,by simp,Kept.refl _⟩
 case round =>
  obtain ⟨k,hk1,hk2,rfl,hT,hK⟩:=hrel
  have HT:=Qh hT
  have HK:=Qh hK
  clear hT
  by_cases hka:k<la
  ·by_cases hkb:k<lb
   ·have hka':(k:Int)<(la:Int):=by omega
    have hkb':(k:Int)<(lb:Int):=by omega
    obtain ⟨x,hx⟩:∃ x,a[k]?=some x:=⟨_,List.getElem?_eq_getElem (by have:=HA.out;omega)⟩
    obtain ⟨y,hy⟩:∃ y,b[k]?=some y:=⟨_,List.getElem?_eq_getElem (by have:=HB.out;omega)⟩
    obtain ⟨oa,ca',ea,a1,a2,a3⟩:=HLa.out.full (by have:=HA.out;omega)
    obtain ⟨ob,cb',eb,b1,b2,b3⟩:=HLb.out.full (by have:=HB.out;omega)
    rw [HA.out] at ea a1
    rw [HB.out] at eb b1
    injection ea with ea1 ea2 ea3
    injection eb with eb1 eb2 eb3
    subst ea1 ea3 eb1 eb3
    unfold maxLen at a2 b2
    clear ea2 eb2
    have HX:=Qh hx
    have HY:=Qh hy
    have HRx:=Qh (range_ij (range_kept a3 hK) hx)
    have HRy:=Qh (range_ij (range_kept b3 hK) hy)
    clear hx hy hK a3 b3
    go_wp2
    refine wp_region_held_drew (S:=Kept _) (by kernel_rfl) (Kept.refl _).drew (fun Qj=>?_)
    refine rT 0 18 (.slice (some ⟨ga,oa,none⟩) la ca) rfl rfl Qj ?_
    simp only [pA,pN,sZ,sU]
    refine rT 1 19 (.int .i64 (k:Int)) rfl rfl Qj ?_
    simp only [pA,pN,sZ,sU]
    refine rT 2 20 (.pointer (some ⟨ga,oa+k*3,none⟩)) rfl rfl Qj ?_
    simp only [pA,pN,sZ,sU]
    refine rY 3 21 rfl rfl (take_load_mvi (by rfl) _ rfl ga (oa+k*3) rfl x (fun _ h=>range_kept (HRx.out) h)) Qj ?_
    simp only [pA,pN,sZ,sU]
    refine rT 4 22 (.slice (some ⟨gb,ob,none⟩) lb cb) rfl rfl Qj ?_
    simp only [pA,pN,sZ,sU]
    refine rT 5 23 (.int .i64 (k:Int)) rfl rfl Qj ?_
    simp only [pA,pN,sZ,sU]
    refine rT 6 24 (.pointer (some ⟨gb,ob+k*3,none⟩)) rfl rfl Qj ?_
    simp only [pA,pN,sZ,sU]
    refine rY 7 25 rfl rfl (take_load_mvi (by rfl) _ rfl gb (ob+k*3) rfl y (fun _ h=>range_kept (HRy.out) h)) Qj ?_
    simp only [pA,pN,sZ,sU]
    refine rR 8 rfl (fun K hK=>?_)
    go_simp
    refine (rless_is x y _).mono ?_
    rintro e x1 ⟨rfl,gx1⟩
    refine hK.out _ _ (Qj.trans gx1) (fun _=>?_)
    replace Qj:=Qj.trans gx1
    clear hK K
    refine wpAnyH_done (by kernel_rfl) ?_ _
    have HK1:=Qh (HK.out.trans Qj)
    have HRx1:=Qh (range_kept HRx.out Qj)
    have HRy1:=Qh (range_kept HRy.out Qj)
    clear Qj gx1
    cases h1:lessB x y
    ·have H1:=Qh h1
     clear h1
     go_wp2
     refine wp_region_held_drew (S:=Kept _) (by kernel_rfl) (Kept.refl _).drew (fun Qj=>?_)
     refine rT 0 27 (.slice (some ⟨gb,ob,none⟩) lb cb) rfl rfl Qj ?_
     simp only [pA,pN,sZ,sU]
     refine rT 1 28 (.int .i64 (k:Int)) rfl rfl Qj ?_
     simp only [pA,pN,sZ,sU]
     refine rT 2 29 (.pointer (some ⟨gb,ob+k*3,none⟩)) rfl rfl Qj ?_
     simp only [pA,pN,sZ,sU]
     refine rY 3 30 rfl rfl (take_load_mvi (by rfl) _ rfl gb (ob+k*3) rfl y (fun _ h=>range_kept (HRy1.out) h)) Qj ?_
     simp only [pA,pN,sZ,sU]
     refine rT 4 31 (.slice (some ⟨ga,oa,none⟩) la ca) rfl rfl Qj ?_
     simp only [pA,pN,sZ,sU]
     refine rT 5 32 (.int .i64 (k:Int)) rfl rfl Qj ?_
     simp only [pA,pN,sZ,sU]
     refine rT 6 33 (.pointer (some ⟨ga,oa+k*3,none⟩)) rfl rfl Qj ?_
     simp only [pA,pN,sZ,sU]
     refine rY 7 34 rfl rfl (take_load_mvi (by rfl) _ rfl ga (oa+k*3) rfl x (fun _ h=>range_kept (HRx1.out) h)) Qj ?_
     simp only [pA,pN,sZ,sU]
     refine rR 8 rfl (fun K hK=>?_)
     go_simp
     refine (rless_is y x _).mono ?_
     rintro e x2 ⟨rfl,gx2⟩
     refine hK.out _ _ (Qj.trans gx2) (fun _=>?_)
     replace Qj:=Qj.trans gx2
     clear hK K
     refine wpAnyH_done (by kernel_rfl) ?_ _
     have HK2:=Qh (HK1.out.trans Qj)
     clear Qj gx2
     cases h2:lessB y x
     ·have HV:=Qh (take_same HX.out HY.out (less_eq H1.out h2) HT.out)
      clear h2
      go_wp2
      go_roundw
      case rel=>exact ⟨k+1,by omega,by omega,by go_num,HV.out,HK2.out⟩
      case measure=>simp [intOf];omega
     ·have HV:=Qh (lessP_at HX.out HY.out HT.out (by rw [beqM_sym];exact (less_not h2).2)).1
      clear h2
      go_wp2
      go_ret
      exact ⟨by rw [HV.out,H1.out];rfl,HK2.out⟩
    ·have HV:=Qh (lessP_at HX.out HY.out HT.out (less_not h1).2).1
     rw [h1] at HV
     clear h1
     go_wp2
     go_ret
     exact ⟨by rw [HV.out];rfl,HK1.out⟩
   ·have hkb':¬ (k:Int)<(lb:Int):=by omega
    have hka':(k:Int)<(la:Int):=by omega
    clear hK
    obtain rfl:k=lb:=by omega
    have HV:=Qh (lessP_short (a:=a) (b:=b) (k:=k) (.inr HB.out.symm) (by rw [HA.out];omega) (by rw [HB.out];omega) HT.out)
    rw [HA.out,HB.out] at HV
    go_wp2
    go_ret
    exact ⟨by rw [HV.out];rfl,HK.out⟩
  ·have hka':¬ (k:Int)<(la:Int):=by omega
   clear hK
   obtain rfl:k=la:=by omega
   have HV:=Qh (lessP_short (a:=a) (b:=b) (k:=k) (.inl HA.out.symm) (by rw [HA.out];omega) (by rw [HB.out];omega) HT.out)
   rw [HA.out,HB.out] at HV
   go_wp2
   go_ret
   exact ⟨by rw [HV.out];rfl,HK.out⟩
theorem sameP_ne {a b:List Mv} (h:a.length≠b.length):sameP a b=false:=by
 rw [Bool.eq_false_iff]
 intro hs
 rw [(sameP_iff a b).1 hs] at h
 exact h rfl
set_option maxHeartbeats 4000000 in
theorem rsame_is (ga gb:Nat) (va vb:Value) (a b:List Mv) (w:World) (ha:LsM w ga va a) (hb:LsM w gb vb b) :
  Calls Tryz.prog 10 #[va,vb] w fun e w'=>e=.returned (.bool (sameP a b))∧Kept w w':=by
 obtain ⟨aa,ca,rfl⟩:=ha.slice
 obtain ⟨ab,cb,rfl⟩:=hb.slice
 by_cases hne:a.length=b.length
 ·have HLa:=Qh ha
  have HLb:=Qh hb
  have HMa:Hid (a.length≤maxLen):=by
   by_cases h:0<a.length
   ·obtain ⟨_,_,_,h1,h2,_⟩:=ha.full h;exact Nat.le_trans h1 h2
   ·show _≤_;omega
  rw [← hne]
  rw [← hne] at HLb
  have HB:=Qh hne
  generalize hla:a.length=n at *
  have HA:=Qh hla
  have hma:=HMa.out
  unfold maxLen at hma
  clear hla ha hb hne
  go_enter Tryz.func10,Tryz.ntmps10
  go_wp2
  go_loopw [5] (fun t5 wr=>∃ k:Nat,k≤n∧t5=.int .i64 k∧a.take k=b.take k∧Kept w wr) (fun t5 _=>n-(intOf t5).toNat)
  case atStart=>exact ⟨0,Nat.zero_le _,rfl,by simp,Kept.refl _⟩
  case round =>
   obtain ⟨k,hk,rfl,hT,hK⟩:=hrel
   have HT:=Qh hT
   have HK:=Qh hK
   clear hT
   by_cases hka:k<n
   ·have hka':(k:Int)<(n:Int):=by omega
    obtain ⟨x,hx⟩:∃ x,a[k]?=some x:=⟨_,List.getElem?_eq_getElem (by have:=HA.out;omega)⟩
    obtain ⟨y,hy⟩:∃ y,b[k]?=some y:=⟨_,List.getElem?_eq_getElem (by have:=HB.out;omega)⟩
    obtain ⟨oa,ca',ea,a1,a2,a3⟩:=HLa.out.full (by have:=HA.out;omega)
    obtain ⟨ob,cb',eb,b1,b2,b3⟩:=HLb.out.full (by have:=HB.out;omega)
    rw [HA.out] at ea a1
    rw [← HB.out] at eb b1
    injection ea with ea1 ea2 ea3
    injection eb with eb1 eb2 eb3
    subst ea1 ea3 eb1 eb3
    unfold maxLen at a2 b2
    clear ea2 eb2
    have HX:=Qh hx
    have HY:=Qh hy
    have HRx:=Qh (range_ij (range_kept a3 hK) hx)
    have HRy:=Qh (range_ij (range_kept b3 hK) hy)
    clear hx hy hK a3 b3
    go_wp2
    refine wp_region_held_drew (S:=Kept _) (by kernel_rfl) (Kept.refl _).drew (fun Qj=>?_)
    refine rT 0 17 (.slice (some ⟨ga,oa,none⟩) n ca) rfl rfl Qj ?_
    simp only [pA,pN,sZ,sU]
    refine rT 1 18 (.int .i64 (k:Int)) rfl rfl Qj ?_
    simp only [pA,pN,sZ,sU]
    refine rT 2 19 (.pointer (some ⟨ga,oa+k*3,none⟩)) rfl rfl Qj ?_
    simp only [pA,pN,sZ,sU]
    refine rY 3 20 rfl rfl (take_load_mvi (by rfl) _ rfl ga (oa+k*3) rfl x (fun _ h=>range_kept (HRx.out) h)) Qj ?_
    simp only [pA,pN,sZ,sU]
    refine rT 4 21 (.slice (some ⟨gb,ob,none⟩) n cb) rfl rfl Qj ?_
    simp only [pA,pN,sZ,sU]
    refine rT 5 22 (.int .i64 (k:Int)) rfl rfl Qj ?_
    simp only [pA,pN,sZ,sU]
    refine rT 6 23 (.pointer (some ⟨gb,ob+k*3,none⟩)) rfl rfl Qj ?_
    simp only [pA,pN,sZ,sU]
    refine rY 7 24 rfl rfl (take_load_mvi (by rfl) _ rfl gb (ob+k*3) rfl y (fun _ h=>range_kept (HRy.out) h)) Qj ?_
    simp only [pA,pN,sZ,sU]
    cases hbm:beqM x y
    ·skip
     refine rY 8 25 rfl rfl (take_neq_mv (by rfl) _ _ _ rfl x y rfl rfl ((show (!beqM x y)=true by rw [hbm];rfl))) Qj ?_
     simp only [pA,pN,sZ,sU]
     refine wpAnyH_done (by kernel_rfl) ?_ _
     have HK1:=Qh (HK.out.trans Qj)
     have HV:=Qh (lessP_at HX.out HY.out HT.out hbm).2
     clear Qj hbm
     go_wp2
     go_ret
     exact ⟨by rw [HV.out];rfl,HK1.out⟩
    ·skip
     refine rY 8 25 rfl rfl (take_neq_mv (by rfl) _ _ _ rfl x y rfl rfl ((show (!beqM x y)=false by rw [hbm];rfl))) Qj ?_
     simp only [pA,pN,sZ,sU]
     refine wpAnyH_done (by kernel_rfl) ?_ _
     have HK1:=Qh (HK.out.trans Qj)
     have HV:=Qh (take_same HX.out HY.out hbm HT.out)
     clear Qj hbm
     go_wp2
     go_roundw
     case rel=>exact ⟨k+1,by omega,by go_num,HV.out,HK1.out⟩
     case measure=>simp [intOf];omega
   ·have hka':¬ (k:Int)<(n:Int):=by omega
    clear hK
    obtain rfl:k=n:=by omega
    have HV:=Qh (show sameP a b=true by
     rw [sameP_iff]
     have h:=HT.out
     rwa [List.take_of_length_le (by rw [HA.out];exact Nat.le_refl _),List.take_of_length_le (by rw [← HB.out];exact Nat.le_refl _)] at h)
    go_wp2
    go_ret
    exact ⟨by rw [HV.out];rfl,HK.out⟩
 ·have HV:=Qh (sameP_ne hne)
  have hb':((a.length:Int) != (b.length:Int))=true:=bne_iff_ne.2 (by omega)
  have hb2:(a.length != b.length)=true:=bne_iff_ne.2 hne
  generalize a.length=n1 at *
  generalize b.length=n2 at *
  clear hne ha hb
  go_enter Tryz.func10,Tryz.ntmps10
  go_wp2
  go_ret
  exact ⟨by rw [HV.out];rfl,Kept.refl _⟩
set_option maxHeartbeats 4000000 in
theorem walkPathsOrder (ga:Nat) (va:Value) (a:List Mv) (gb:Nat) (vb:Value) (b:List Mv) (w:World) (hT:TabG w) (hla:LsM w ga va a) (hlb:LsM w gb vb b) :
  Calls Tryz.prog 5 #[va,vb] w fun e w'=>e=.returned (.bool true)∧Kept w w':=by
 have HLa:=Qh hla
 have HLb:=Qh hlb
 have HT:=Qh hT
 have HAB:=Qh (fun w h1 h2=>pless_is ga gb va vb a b w h1 h2)
 have HBA:=Qh (fun w h1 h2=>pless_is gb ga vb va b a w h1 h2)
 have HRab:=Qh (fun w h1 h2=>rpless_is ga gb va vb a b w h1 h2)
 have HRba:=Qh (fun w h1 h2=>rpless_is gb ga vb va b a w h1 h2)
 have HSm:=Qh (fun w h1 h2=>rsame_is ga gb va vb a b w h1 h2)
 obtain ⟨law1,law2⟩:=lessP_law a b
 obtain ⟨aa,ca,rfl⟩:=hla.slice
 obtain ⟨ab,cb,rfl⟩:=hlb.slice
 generalize lessP a b=x at *
 generalize lessP b a=y at *
 generalize sameP a b=z at *
 have hb1:a.length≤maxLen:=by
  by_cases h:0<a.length
  ·obtain ⟨_,_,_,h1,h2,_⟩:=hla.full h;exact Nat.le_trans h1 h2
  ·omega
 have hb2:b.length≤maxLen:=by
  by_cases h:0<b.length
  ·obtain ⟨_,_,_,h1,h2,_⟩:=hlb.full h;exact Nat.le_trans h1 h2
  ·omega
 generalize a.length=n1 at *
 generalize b.length=n2 at *
 unfold maxLen at hb1 hb2
 clear hla hlb hT
 by_cases h1:50<n1
 ·have h1':(50:Int)<(n1:Int):=by omega
  go_enter Tryz.func5,Tryz.ntmps5
  go_wp2_with fail
  refine (paths_wake _ HT.out).mono ?_
  rintro e w1 ⟨rfl,k1⟩
  have HK1:=Qh k1
  clear k1
  go_wp2
  go_ret
  exact ⟨rfl,HK1.out⟩
 ·by_cases h2:50<n2
  ·have h1':¬ (50:Int)<(n1:Int):=by omega
   have h2':(50:Int)<(n2:Int):=by omega
   go_enter Tryz.func5,Tryz.ntmps5
   go_wp2_with fail
   refine (paths_wake _ HT.out).mono ?_
   rintro e w1 ⟨rfl,k1⟩
   have HK1:=Qh k1
   clear k1
   go_wp2
   go_ret
   exact ⟨rfl,HK1.out⟩
  ·have h1':¬ (50:Int)<(n1:Int):=by omega
   have h2':¬ (50:Int)<(n2:Int):=by omega
   have hxy:(x=false∧y=false∧z=true)∨(x=true∧y=false∧z=false)∨(x=false∧y=true∧z=false):=by
    cases x <;> cases y <;> cases z <;> simp_all
   clear law1 law2
   rcases hxy with ⟨rfl,rfl,rfl⟩|⟨rfl,rfl,rfl⟩|⟨rfl,rfl,rfl⟩
   all_goals
    go_enter Tryz.func5,Tryz.ntmps5
    go_wp2_with fail
    refine (paths_wake _ HT.out).mono ?_
    rintro e w1 ⟨rfl,k1⟩
    have HK1:=Qh k1
    clear k1
    go_wp2_with fail
    refine (HAB.out _ (HLa.out.kept HK1.out) (HLb.out.kept HK1.out)).mono ?_
    rintro e w2 ⟨rfl,k2⟩
    have HK2:=Qh (HK1.out.trans k2)
    clear k2
    go_wp2_with fail
    refine (HBA.out _ (HLb.out.kept HK2.out) (HLa.out.kept HK2.out)).mono ?_
    rintro e w3 ⟨rfl,k3⟩
    have HK3:=Qh (HK2.out.trans k3)
    clear k3
    go_wp2_with fail
    refine (HRab.out _ (HLa.out.kept HK3.out) (HLb.out.kept HK3.out)).mono ?_
    rintro e w4 ⟨rfl,k4⟩
    have HK4:=Qh (HK3.out.trans k4)
    clear k4
    go_wp2_with fail
    refine (HRba.out _ (HLb.out.kept HK4.out) (HLa.out.kept HK4.out)).mono ?_
    rintro e w5 ⟨rfl,k5⟩
    have HK5:=Qh (HK4.out.trans k5)
    clear k5
    go_wp2_with fail
    refine (HSm.out _ (HLa.out.kept HK5.out) (HLb.out.kept HK5.out)).mono ?_
    rintro e w6 ⟨rfl,k6⟩
    have HK6:=Qh (HK5.out.trans k6)
    clear k6
    go_wp2
    go_ret
    exact ⟨rfl,HK6.out⟩
end Go.Proofs.YtijkemnhehbchaaGreatDoor
