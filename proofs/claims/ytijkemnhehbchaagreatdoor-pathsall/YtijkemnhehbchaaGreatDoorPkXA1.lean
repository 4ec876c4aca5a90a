/- PaP: my texts, in their order. -/
import Derived.Test.YtijkemnhehbchaaGreatDoorPkXAE0
import Derived.Test.YtijkemnhehbchaaGreatDoorPkXAE1
import Derived.Test.YtijkemnhehbchaaGreatDoorPkXAE2
import Derived.Test.YtijkemnhehbchaaGreatDoorPkXAO0
import Derived.Test.YtijkemnhehbchaaGreatDoorPkXA0
import Derived.Test.YtijkemnhehbchaaGreatDoorPkA
import Derived.Test.YtijkemnhehbchaaGreatDoorPkB
import Derived.Test.YtijkemnhehbchaaGreatDoorPkC
import Derived.Test.YtijkemnhehbchaaGreatDoorPkD
import Derived.Test.YtijkemnhehbchaaGreatDoorPkE
import Derived.Test.YtijkemnhehbchaaGreatDoorPkF
import Derived.Test.YtijkemnhehbchaaGreatDoorPkGa
import Derived.Test.YtijkemnhehbchaaGreatDoorPkGb
import Derived.Test.YtijkemnhehbchaaGreatDoorPkGc
import Derived.Test.YtijkemnhehbchaaGreatDoorPkGd
import Derived.Test.YtijkemnhehbchaaGreatDoorPkGe
import Derived.Test.YtijkemnhehbchaaGreatDoorPkGh
import Derived.Test.YtijkemnhehbchaaGreatDoorPkH
import Derived.Test.YtijkemnhehbchaaGreatDoorPkI
import Derived.Test.YtijkemnhehbchaaGreatDoorPkJ
import Derived.Test.YtijkemnhehbchaaGreatDoorPkK
import Derived.Test.YtijkemnhehbchaaGreatDoorPkL
import Derived.Test.YtijkemnhehbchaaGreatDoorPkLa
import Derived.Test.YtijkemnhehbchaaGreatDoorPkLd
import Derived.Test.YtijkemnhehbchaaGreatDoorPkLe
import Derived.Test.YtijkemnhehbchaaGreatDoorPkLf
import Derived.Test.YtijkemnhehbchaaGreatDoorPkLg
import Derived.Test.YtijkemnhehbchaaGreatDoorPkLh
import Derived.Test.YtijkemnhehbchaaGreatDoorPkM
import Derived.Test.YtijkemnhehbchaaGreatDoorPkR
import Derived.Test.YtijkemnhehbchaaGreatDoorPkRa
import Derived.Test.YtijkemnhehbchaaGreatDoorPkRb
import Derived.Test.YtijkemnhehbchaaGreatDoorPkRd
import Derived.Test.YtijkemnhehbchaaGreatDoorPkRe
import Derived.Test.YtijkemnhehbchaaGreatDoorPkRf
import Derived.Test.YtijkemnhehbchaaGreatDoorPkRg
import Derived.Test.YtijkemnhehbchaaGreatDoorPkRh
import Derived.Test.YtijkemnhehbchaaGreatDoorPkRk
namespace Go.Proofs.YtijkemnhehbchaaGreatDoor
open Go.RowKit
set_option linter.unusedVariables false
set_option linter.unusedSimpArgs false
set_option maxRecDepth 100000
set_option maxHeartbeats 4000000 in
theorem pathsAll_some (p:Ps) (hB:Brd p.B) (n m:Int) (h1:(2:Int)<n) (h2:n≤8) (w:World) (hT:TabG w) :
  Calls Tryz.prog 3 #[.agg (pl p).toArray,.int .i64 n,.int .i64 m] w fun e w'=>e=.returned (.bool true)∧Kept w w':=by
 have HK0:=Qh ((Kept.refl w).alloc (.cells (pl p).toArray 26))
 have HT:=Qh (hT.kept HK0.out)
 clear hB hT
 go_enter Tryz.func3,Tryz.ntmps3
 go_wp2_with fail
 refine (paths_wake _ HT.out).mono ?_
 rintro e w1 ⟨rfl,k1⟩
 have HK1:=Qh (HK0.out.trans k1)
 clear k1
 go_wp2
 go_ret
 exact ⟨rfl,HK1.out⟩
set_option maxHeartbeats 8000000 in
theorem pathsAll_wrong (p:Ps) (hB:Brd p.B) (n m:Int) (hn:¬ (2:Int)<n∨((2:Int)<n∧¬ n≤8)) (hr:pwI p≠0) (w:World) (hT:TabG w) :
  Calls Tryz.prog 3 #[.agg (pl p).toArray,.int .i64 n,.int .i64 m] w fun e w'=>e=.returned (.bool true)∧Kept w w':=by
 have HP0:=Qh (PAt.new w hB.1)
 have HK0:=Qh ((Kept.refl w).alloc (.cells (pl p).toArray 26))
 have HT:=Qh (hT.kept HK0.out)
 have HA:=Qh (fun w hT=>all_wr p hB n m (by rw [wrE_p hr];exact hr) w hT)
 rw [wrE_p hr] at HA
 have HW:=Qh (fun w=>rpwrong_is p hB w)
 have hv:(pwI p != 0)=true:=bne_iff_ne.2 hr
 generalize pwI p=x at *
 clear hB hT hr
 rcases hn with hn|⟨hn,hn8⟩
 all_goals
  go_enter Tryz.func3,Tryz.ntmps3
  go_wp2_with fail
  refine (paths_wake _ HT.out).mono ?_
  rintro e w1 ⟨rfl,k1⟩
  have HK1:=Qh (HK0.out.trans k1)
  have HP1:=Qh (HP0.out.kept k1)
  have HT1:=Qh (HT.out.kept k1)
  clear k1
  go_wp2_with (first|(refine wpList_load_ps (by rfl) _ rfl _ rfl _ (HP1.out) ?_)|(refine wpList_load_pb (by rfl) _ rfl _ rfl _ (HP1.out) ?_))
  refine (HA.out _ HT1.out).mono ?_
  rintro e w2 ⟨v,rfl,hro,k2⟩
  obtain ⟨a,c,rfl⟩:∃ a c,v=.slice a 0 c:=hro.slice
  have HK2:=Qh (HK1.out.trans k2)
  have HP2:=Qh (HP1.out.kept k2)
  clear k2 hro
  go_wp2_with (first|(refine wpList_load_ps (by rfl) _ rfl _ rfl _ (HP2.out) ?_)|(refine wpList_load_pb (by rfl) _ rfl _ rfl _ (HP2.out) ?_))
  refine (HW.out _).mono ?_
  rintro e w3 ⟨rfl,k3⟩
  have HK3:=Qh (HK2.out.trans k3)
  clear k3
  go_wp2
  go_ret
  exact ⟨rfl,HK3.out⟩
set_option maxHeartbeats 8000000 in
theorem pathsAll_three (p:Ps) (hB:Brd p.B) (n m:Int) (hr:pwI p=0)
  (hn:(¬ (2:Int)<n∧n<0)∨((2:Int)<n∧¬ n≤8∧¬ n<0∧8<n)∨(¬ (2:Int)<n∧¬ n<0∧¬ 8<n∧m<0)∨(¬ (2:Int)<n∧¬ n<0∧¬ 8<n∧¬ m<0∧10000<m)) (w:World) (hT:TabG w)
  (hA:∀ w,TabG w→Calls Tryz.prog 7 #[.agg (pl p).toArray,.int .i64 n,.int .i64 m] w (AllE w [] 3)) :
  Calls Tryz.prog 3 #[.agg (pl p).toArray,.int .i64 n,.int .i64 m] w fun e w'=>e=.returned (.bool true)∧Kept w w':=by
 have HP0:=Qh (PAt.new w hB.1)
 have HK0:=Qh ((Kept.refl w).alloc (.cells (pl p).toArray 26))
 have HT:=Qh (hT.kept HK0.out)
 have HA:=Qh hA
 have HW:=Qh (fun w=>rpwrong_is p hB w)
 rw [hr] at HW
 clear hB hT hr hA
 rcases hn with ⟨q1,q2⟩|⟨q1,q2,q3,q4⟩|⟨q1,q2,q3,q4⟩|⟨q1,q2,q3,q4,q5⟩
 all_goals
  go_enter Tryz.func3,Tryz.ntmps3
  go_wp2_with fail
  refine (paths_wake _ HT.out).mono ?_
  rintro e w1 ⟨rfl,k1⟩
  have HK1:=Qh (HK0.out.trans k1)
  have HP1:=Qh (HP0.out.kept k1)
  have HT1:=Qh (HT.out.kept k1)
  clear k1
  go_wp2_with (first|(refine wpList_load_ps (by rfl) _ rfl _ rfl _ (HP1.out) ?_)|(refine wpList_load_pb (by rfl) _ rfl _ rfl _ (HP1.out) ?_))
  refine (HA.out _ HT1.out).mono ?_
  rintro e w2 ⟨v,rfl,hro,k2⟩
  obtain ⟨a,c,rfl⟩:∃ a c,v=.slice a 0 c:=hro.slice
  have HK2:=Qh (HK1.out.trans k2)
  have HP2:=Qh (HP1.out.kept k2)
  clear k2 hro
  go_wp2_with (first|(refine wpList_load_ps (by rfl) _ rfl _ rfl _ (HP2.out) ?_)|(refine wpList_load_pb (by rfl) _ rfl _ rfl _ (HP2.out) ?_))
  refine (HW.out _).mono ?_
  rintro e w3 ⟨rfl,k3⟩
  have HK3:=Qh (HK2.out.trans k3)
  clear k3
  go_wp2
  go_ret
  exact ⟨rfl,HK3.out⟩
set_option maxHeartbeats 16000000 in
theorem pathsAll_in (p:Ps) (hB:Brd p.B) (hr:pwI p=0) (n m:Nat) (hn:n≤2) (hm:m≤10000) (w:World) (hT:TabG w) :
  Calls Tryz.prog 3 #[.agg (pl p).toArray,.int .i64 n,.int .i64 m] w fun e w'=>e=.returned (.bool true)∧Kept w w':=by
 have HP0:=Qh (PAt.new w hB.1)
 have HK0:=Qh ((Kept.refl w).alloc (.cells (pl p).toArray 26))
 have HT:=Qh (hT.kept HK0.out)
 have HA:=Qh (fun w hT=>pall_in p hB hr n m (by omega) hm w hT)
 have HW:=Qh (fun w=>rpwrong_is p hB w)
 rw [hr] at HW
 have HRa:=Qh (fun w=>rpall_is p hB hr n hn w)
 have HNe:=Qh (fun (i:Nat) (a b:List Mv) (h1:(refL n p)[i]?=some a) (h2:(refL n p)[i+1]?=some b)=>refL_next h1 h2)
 generalize refL n p=L at *
 have q1:¬ (2:Int)<(n:Int):=by omega
 have q2:¬ (n:Int)<0:=by omega
 have q3:¬ (8:Int)<(n:Int):=by omega
 have q4:¬ (m:Int)<0:=by omega
 have q5:¬ (10000:Int)<(m:Int):=by omega
 clear hB hT hr hn hm
 by_cases hlm:L.length≤m
 ·rw [if_pos hlm,if_pos hlm] at HA
  have hlm':¬ (m:Int)<(L.length:Int):=by omega
  clear hlm
  go_enter Tryz.func3,Tryz.ntmps3
  go_wp2_with fail
  refine (paths_wake _ HT.out).mono ?_
  rintro e w1 ⟨rfl,k1⟩
  have HK1:=Qh (HK0.out.trans k1)
  have HP1:=Qh (HP0.out.kept k1)
  have HT1:=Qh (HT.out.kept k1)
  clear k1
  go_wp2_with (first|(refine wpList_load_ps (by rfl) _ rfl _ rfl _ (HP1.out) ?_)|(refine wpList_load_pb (by rfl) _ rfl _ rfl _ (HP1.out) ?_))
  refine (HA.out _ HT1.out).mono ?_
  rintro e w2 ⟨v,rfl,hro,k2⟩
  obtain ⟨aA,cA,rfl⟩:=hro.slice
  have HK2:=Qh (HK1.out.trans k2)
  have HP2:=Qh (HP1.out.kept k2)
  have HR2:=Qh hro
  clear k2 hro
  go_wp2_with (first|(refine wpList_load_ps (by rfl) _ rfl _ rfl _ (HP2.out) ?_)|(refine wpList_load_pb (by rfl) _ rfl _ rfl _ (HP2.out) ?_))
  refine (HW.out _).mono ?_
  rintro e w3 ⟨rfl,k3⟩
  have HK3:=Qh (HK2.out.trans k3)
  have HP3:=Qh (HP2.out.kept k3)
  have HR3:=Qh (HR2.out.kept k3)
  clear k3
  go_wp2_with (first|(refine wpList_load_ps (by rfl) _ rfl _ rfl _ (HP3.out) ?_)|(refine wpList_load_pb (by rfl) _ rfl _ rfl _ (HP3.out) ?_))
  refine (HRa.out _).mono ?_
  rintro e w4 ⟨v,s,rfl,hro,k4⟩
  obtain ⟨aB,cB,rfl⟩:=hro.slice
  have KA:=Qh (k4.alloc (.cells (fdl (.slice aB L.length cB) s).toArray 34))
  have HK4:=Qh (HK3.out.trans KA.out)
  have HA4:=Qh (HR3.out.kept KA.out)
  have HB4:=Qh (hro.kept ((Kept.refl w4).alloc (.cells (fdl (.slice aB L.length cB) s).toArray 34)))
  have HF4:Hid (RAt (w4.alloc (.cells (fdl (.slice aB L.length cB) s).toArray 34)) w4.heap.size (fdl (.slice aB L.length cB) s) 34):=⟨heap_alloc_new w4 _⟩
  have z10:(w4.alloc (.cells (fdl (.slice aB L.length cB) s).toArray 34)).cell? ⟨w4.heap.size,0,none⟩=some (.slice aB L.length cB):=HF4.out.cellK 0
  clear k4 hro KA
  generalize hN:L.length=N at *
  have HN:=Qh hN
  clear hN
  go_wp2_with (first|(with_reducible refine wpList_new_fd rfl rfl ?_)|((with_reducible refine wpList_store_newfd rfl _ _ rfl aB N cB s ?_ ?_ ?_);exact rfl;exact rfl))
  generalize w4.alloc (.cells (fdl (.slice aB N cB) s).toArray 34)=W5 at *
  generalize w4.heap.size=g10 at *
  go_loopw [87] (fun t87 wr=>∃ i:Nat,i≤N∧t87=.int .i64 i∧Kept W5 wr) (fun t87 _=>N-(intOf t87).toNat)
  case atStart=>exact ⟨0,Nat.zero_le _,rfl,Kept.refl _⟩
  case round =>
   obtain ⟨i,hi,rfl,hk⟩:=hrel
   have HK:=Qh hk
   have z10w:=kept_cell hk z10
   clear hk
   by_cases hlt:i<N
   ·have hlt':(i:Int)<(N:Int):=by omega
    obtain ⟨x,hx⟩:∃ x,L[i]?=some x:=⟨_,List.getElem?_eq_getElem (by have:=HN.out;omega)⟩
    obtain ⟨ga,ca,ua,gua,e1,e2,e3,za,hla⟩:=(HA4.out.kept HK.out).at_ hx
    obtain ⟨gb,cb,ub,gub,e4,e5,e6,zb,hlb⟩:=(HB4.out.kept HK.out).at_ hx
    rw [HN.out] at e1 e2 e4 e5
    injection e1 with j1 j2 j3
    injection e4 with j4 j5 j6
    subst j1 j3 j4 j6
    unfold maxLen at e3 e6
    obtain ⟨aua,cua,rfl⟩:=hla.slice
    obtain ⟨aub,cub,rfl⟩:=hlb.slice
    have HLa:=Qh hla
    have HLb:=Qh hlb
    have HX:=Qh hx
    clear j2 j5 hla hlb hx z10
    by_cases hi0:i=0
    ·have hi1:¬ (0:Int)<(i:Int):=by omega
     have hi2:¬ 0<i:=by omega
     clear hi0
     go_upto_region 19 with fail
     refine wp_region_held_drew (S:=Kept _) (by kernel_rfl) (Kept.refl _).drew (fun Qj=>?_)
     have HKV:=Qh Qj
     refine rT 0 90 (.slice (some ⟨ga,0,none⟩) N cA) rfl rfl Qj ?_
     simp only [Act.put,sA,sZ,sU]
     refine rT 1 91 (.int .i64 (i:Int)) rfl rfl Qj ?_
     simp only [pA,pN,sZ,sU]
     refine rT 2 92 (.pointer (some ⟨ga,i,none⟩)) rfl rfl Qj ?_
     simp only [pA,pN,sZ,sU]
     refine rC 3 93 (.slice aua x.length cua) rfl rfl (fun _ h=>kept_cell h (za)) Qj ?_
     simp only [pA,pN,sZ,sU]
     refine rT 4 94 (.pointer (some ⟨g10,0,none⟩)) rfl rfl Qj ?_
     simp only [pA,pN,sZ,sU]
     refine rC 5 95 (.slice (some ⟨gb,0,none⟩) N cB) rfl rfl (fun _ h=>kept_cell h (z10w)) Qj ?_
     simp only [pA,pN,sZ,sU]
     refine rT 6 96 (.int .i64 (i:Int)) rfl rfl Qj ?_
     simp only [pA,pN,sZ,sU]
     refine rT 7 97 (.pointer (some ⟨gb,i,none⟩)) rfl rfl Qj ?_
     simp only [pA,pN,sZ,sU]
     refine rC 8 98 (.slice aub x.length cub) rfl rfl (fun _ h=>kept_cell h (zb)) Qj ?_
     simp only [pA,pN,sZ,sU]
     refine rR 9 rfl (fun K hK=>?_)
     go_simp
     refine ((sameM_yes gua gub _ _ x _ (HLa.out.kept Qj) (HLb.out.kept Qj))).mono ?_
     rintro e w6 ⟨rfl,gw6⟩
     refine hK.out _ _ (Qj.trans gw6) (fun _=>?_)
     replace Qj:=Qj.trans gw6
     clear hK K
     refine rT 10 100 (.bool false) rfl rfl Qj ?_
     simp only [pA,pN,sZ,sU]
     refine rT 11 101 (.bool false) rfl rfl Qj ?_
     simp only [pA,pN,sZ,sU]
     refine rT 12 102 (.int .i64 (i:Int)) rfl rfl Qj ?_
     simp only [pA,pN,sZ,sU]
     refine rT 13 103 (.bool false) rfl rfl Qj ?_
     simp only [pA,pN,sZ,sU]
     refine rT 14 104 (.bool false) rfl rfl Qj ?_
     simp only [pA,pN,sZ,sU]
     refine rN 15 105 rfl rfl Qj ?_
     simp only [pA,pN,sZ,sU]
     refine rN 16 106 rfl rfl Qj ?_
     simp only [pA,pN,sZ,sU]
     refine rN 17 107 rfl rfl Qj ?_
     simp only [pA,pN,sZ,sU]
     refine rN 18 108 rfl rfl Qj ?_
     simp only [pA,pN,sZ,sU]
     refine rN 19 109 rfl rfl Qj ?_
     simp only [pA,pN,sZ,sU]
     refine rN 20 110 rfl rfl Qj ?_
     simp only [pA,pN,sZ,sU]
     refine rN 21 111 rfl rfl Qj ?_
     simp only [pA,pN,sZ,sU]
     refine rN 22 112 rfl rfl Qj ?_
     simp only [pA,pN,sZ,sU]
     refine rN 23 113 rfl rfl Qj ?_
     simp only [pA,pN,sZ,sU]
     refine rN 24 114 rfl rfl Qj ?_
     simp only [pA,pN,sZ,sU]
     refine rN 25 115 rfl rfl Qj ?_
     simp only [pA,pN,sZ,sU]
     refine rT 26 116 (.bool false) rfl rfl Qj ?_
     simp only [pA,pN,sZ,sU]
     refine rT 27 117 (.bool false) rfl rfl Qj ?_
     simp only [pA,pN,sZ,sU]
     have HKe:=Qh (HK.out.trans Qj)
     clear Qj
     refine wpAnyH_done (by kernel_rfl) ?_ _
     go_wp2
     go_roundw
     case rel=>exact ⟨_,_,_,⟨i+1,by omega,by go_num,HKe.out⟩,rfl,rfl,rfl⟩
     case measure=>simp [intOf];omega
    ·obtain ⟨j,hj⟩:∃ j,i=j+1:=⟨i-1,by omega⟩
     have hi1:(0:Int)<(i:Int):=by omega
     have hi2:0<i:=by omega
     have hij:IntKind.i64.wrap ((i:Int)-1)=(j:Int):=by rw [show (i:Int)-1=(j:Int) by omega];exact IntWalk.i64_in _ (by omega)
     have hj':(j:Int)<(N:Int):=by omega
     have hjn:j<N:=by omega
     obtain ⟨y,hy⟩:∃ y,L[j]?=some y:=⟨_,List.getElem?_eq_getElem (by have:=HN.out;omega)⟩
     obtain ⟨gc,cc,uy,guy,e7,e8,e9,zy,hly⟩:=(HA4.out.kept HK.out).at_ hy
     rw [HN.out] at e7
     injection e7 with j7 j8 j9
     injection j7 with j7
     injection j7 with j7
     subst j7
     obtain ⟨auy,cuy,rfl⟩:=hly.slice
     have HLy:=Qh hly
     have HLs:=Qh (show lessP y x=true from HNe.out j y x hy (by rw [← hj];exact HX.out))
     clear j8 j9 e8 e9 hly hy hj
     go_upto_region 19 with fail
     refine wp_region_held_drew (S:=Kept _) (by kernel_rfl) (Kept.refl _).drew (fun Qj=>?_)
     have HKV:=Qh Qj
     refine rT 0 90 (.slice (some ⟨ga,0,none⟩) N cA) rfl rfl Qj ?_
     simp only [pA,pN,sZ,sU]
     refine rT 1 91 (.int .i64 (i:Int)) rfl rfl Qj ?_
     simp only [pA,pN,sZ,sU]
     refine rT 2 92 (.pointer (some ⟨ga,i,none⟩)) rfl rfl Qj ?_
     simp only [pA,pN,sZ,sU]
     refine rC 3 93 (.slice aua x.length cua) rfl rfl (fun _ h=>kept_cell h (za)) Qj ?_
     simp only [pA,pN,sZ,sU]
     refine rT 4 94 (.pointer (some ⟨g10,0,none⟩)) rfl rfl Qj ?_
     simp only [pA,pN,sZ,sU]
     refine rC 5 95 (.slice (some ⟨gb,0,none⟩) N cB) rfl rfl (fun _ h=>kept_cell h (z10w)) Qj ?_
     simp only [pA,pN,sZ,sU]
     refine rT 6 96 (.int .i64 (i:Int)) rfl rfl Qj ?_
     simp only [pA,pN,sZ,sU]
     refine rT 7 97 (.pointer (some ⟨gb,i,none⟩)) rfl rfl Qj ?_
     simp only [pA,pN,sZ,sU]
     refine rC 8 98 (.slice aub x.length cub) rfl rfl (fun _ h=>kept_cell h (zb)) Qj ?_
     simp only [pA,pN,sZ,sU]
     refine rR 9 rfl (fun K hK=>?_)
     go_simp
     refine ((sameM_yes gua gub _ _ x _ (HLa.out.kept Qj) (HLb.out.kept Qj))).mono ?_
     rintro e w6 ⟨rfl,gw6⟩
     refine hK.out _ _ (Qj.trans gw6) (fun _=>?_)
     replace Qj:=Qj.trans gw6
     clear hK K
     refine rT 10 100 (.bool false) rfl rfl Qj ?_
     simp only [pA,pN,sZ,sU]
     refine rT 11 101 (.bool false) rfl rfl Qj ?_
     simp only [pA,pN,sZ,sU]
     refine rT 12 102 (.int .i64 (i:Int)) rfl rfl Qj ?_
     simp only [pA,pN,sZ,sU]
     refine rT 13 103 (.bool true) rfl rfl Qj ?_
     simp only [pA,pN,sZ,sU]
     refine rT 14 104 (.bool true) rfl rfl Qj ?_
     simp only [pA,pN,sZ,sU]
     refine rT 15 105 (.slice (some ⟨ga,0,none⟩) N cA) rfl rfl Qj ?_
     simp only [pA,pN,sZ,sU]
     refine rT 16 106 (.int .i64 (i:Int)) rfl rfl Qj ?_
     simp only [pA,pN,sZ,sU]
     refine rT 17 107 (.int .i64 (j:Int)) rfl rfl Qj ?_
     simp only [pA,pN,sZ,sU]
     refine rT 18 108 (.pointer (some ⟨ga,j,none⟩)) rfl rfl Qj ?_
     simp only [pA,pN,sZ,sU]
     refine rC 19 109 (.slice auy y.length cuy) rfl rfl (fun _ h=>kept_cell h (zy)) Qj ?_
     simp only [pA,pN,sZ,sU]
     refine rT 20 110 (.slice (some ⟨ga,0,none⟩) N cA) rfl rfl Qj ?_
     simp only [pA,pN,sZ,sU]
     refine rT 21 111 (.int .i64 (i:Int)) rfl rfl Qj ?_
     simp only [pA,pN,sZ,sU]
     refine rT 22 112 (.pointer (some ⟨ga,i,none⟩)) rfl rfl Qj ?_
     simp only [pA,pN,sZ,sU]
     refine rC 23 113 (.slice aua x.length cua) rfl rfl (fun _ h=>kept_cell h (za)) Qj ?_
     simp only [pA,pN,sZ,sU]
     refine rR 24 rfl (fun K hK=>?_)
     rw [if_pos (by rfl)]
     go_simp
     refine ((pless_is guy gua _ _ y x _ (HLy.out.kept Qj) (HLa.out.kept Qj))).mono ?_
     rintro e w7 ⟨rfl,gw7⟩
     refine hK.out _ _ (Qj.trans gw7) (fun _=>?_)
     replace Qj:=Qj.trans gw7
     clear hK K
     rw [HLs.out]
     refine rT 25 115 (.bool false) rfl rfl Qj ?_
     simp only [pA,pN,sZ,sU]
     refine rT 26 116 (.bool false) rfl rfl Qj ?_
     simp only [pA,pN,sZ,sU]
     refine rT 27 117 (.bool false) rfl rfl Qj ?_
     simp only [pA,pN,sZ,sU]
     have HKe:=Qh (HK.out.trans Qj)
     clear Qj
     refine wpAnyH_done (by kernel_rfl) ?_ _
     go_wp2
     go_roundw
     case rel=>exact ⟨_,_,_,⟨i+1,by omega,by go_num,HKe.out⟩,rfl,rfl,rfl⟩
     case measure=>simp [intOf];omega
   ·have hie:i=N:=by omega
    subst hie
    have hlt':¬ (i:Int)<(i:Int):=by omega
    go_wp2
    go_ret
    exact ⟨rfl,HK4.out.trans HK.out⟩
 ·rw [if_neg hlm,if_neg hlm] at HA
  have hlm':(m:Int)<(L.length:Int):=by omega
  clear hlm
  go_enter Tryz.func3,Tryz.ntmps3
  go_wp2_with fail
  refine (paths_wake _ HT.out).mono ?_
  rintro e w1 ⟨rfl,k1⟩
  have HK1:=Qh (HK0.out.trans k1)
  have HP1:=Qh (HP0.out.kept k1)
  have HT1:=Qh (HT.out.kept k1)
  clear k1
  go_wp2_with (first|(refine wpList_load_ps (by rfl) _ rfl _ rfl _ (HP1.out) ?_)|(refine wpList_load_pb (by rfl) _ rfl _ rfl _ (HP1.out) ?_))
  refine (HA.out _ HT1.out).mono ?_
  rintro e w2 ⟨v,rfl,hro,k2⟩
  obtain ⟨aA,cA,rfl⟩:∃ a c,v=.slice a 0 c:=hro.slice
  have HK2:=Qh (HK1.out.trans k2)
  have HP2:=Qh (HP1.out.kept k2)
  have HR2:=Qh hro
  clear k2 hro
  go_wp2_with (first|(refine wpList_load_ps (by rfl) _ rfl _ rfl _ (HP2.out) ?_)|(refine wpList_load_pb (by rfl) _ rfl _ rfl _ (HP2.out) ?_))
  refine (HW.out _).mono ?_
  rintro e w3 ⟨rfl,k3⟩
  have HK3:=Qh (HK2.out.trans k3)
  have HP3:=Qh (HP2.out.kept k3)
  have HR3:=Qh (HR2.out.kept k3)
  clear k3
  go_wp2_with (first|(refine wpList_load_ps (by rfl) _ rfl _ rfl _ (HP3.out) ?_)|(refine wpList_load_pb (by rfl) _ rfl _ rfl _ (HP3.out) ?_))
  refine (HRa.out _).mono ?_
  rintro e w4 ⟨v,s,rfl,hro,k4⟩
  obtain ⟨aB,cB,rfl⟩:=hro.slice
  have KA:=Qh (k4.alloc (.cells (fdl (.slice aB L.length cB) s).toArray 34))
  have HK4:=Qh (HK3.out.trans KA.out)
  have HF4:Hid (RAt (w4.alloc (.cells (fdl (.slice aB L.length cB) s).toArray 34)) w4.heap.size (fdl (.slice aB L.length cB) s) 34):=⟨heap_alloc_new w4 _⟩
  have z10:(w4.alloc (.cells (fdl (.slice aB L.length cB) s).toArray 34)).cell? ⟨w4.heap.size,0,none⟩=some (.slice aB L.length cB):=HF4.out.cellK 0
  clear k4 hro KA
  generalize hN:L.length=N at *
  clear hN
  go_wp2_with (first|(with_reducible refine wpList_new_fd rfl rfl ?_)|((with_reducible refine wpList_store_newfd rfl _ _ rfl aB N cB s ?_ ?_ ?_);exact rfl;exact rfl))
  go_ret
  exact ⟨rfl,HK4.out⟩
theorem walkPathsAll (p:Ps) (hB:Brd p.B) (n:Int) (w1:(Lit.int .i64 n).wf=true) (m:Int) (w2:(Lit.int .i64 m).wf=true) (w:World) (hT:TabG w) :
  Calls Tryz.prog 3 #[.agg (pl p).toArray,.int .i64 n,.int .i64 m] w fun e w'=>e=.returned (.bool true)∧Kept w w':=by
 by_cases h1:2<n
 ·by_cases h2:n≤8
  ·exact pathsAll_some p hB n m h1 h2 w hT
  ·by_cases hr:pwI p=0
   ·refine pathsAll_three p hB n m hr (.inr (.inl ⟨h1,h2,by omega,by omega⟩)) w hT (fun w hT=>?_)
    have h:=all_wr p hB n m (by rw [wrE_n hr (.inr (by omega))];decide) w hT
    rwa [wrE_n hr (.inr (by omega))] at h
   ·exact pathsAll_wrong p hB n m (.inr ⟨h1,h2⟩) hr w hT
 ·by_cases hr:pwI p=0
  ·by_cases h0:n<0
   ·refine pathsAll_three p hB n m hr (.inl ⟨h1,h0⟩) w hT (fun w hT=>?_)
    have h:=all_wr p hB n m (by rw [wrE_n hr (.inl h0)];decide) w hT
    rwa [wrE_n hr (.inl h0)] at h
   ·by_cases hm:m<0
    ·exact pathsAll_three p hB n m hr (.inr (.inr (.inl ⟨h1,h0,by omega,hm⟩))) w hT (fun w hT=>all_mo p hB n m (wrE_ok hr (by omega) (by omega)) (.inl hm) w hT)
    ·by_cases hm2:10000<m
     ·exact pathsAll_three p hB n m hr (.inr (.inr (.inr ⟨h1,h0,by omega,hm,hm2⟩))) w hT (fun w hT=>all_mo p hB n m (wrE_ok hr (by omega) (by omega)) (.inr hm2) w hT)
     ·obtain ⟨n',rfl⟩:=Int.eq_ofNat_of_zero_le (show 0≤n by omega)
      obtain ⟨m',rfl⟩:=Int.eq_ofNat_of_zero_le (show 0≤m by omega)
      exact pathsAll_in p hB hr n' m' (by omega) (by omega) w hT
  ·exact pathsAll_wrong p hB n m (.inl h1) hr w hT
end Go.Proofs.YtijkemnhehbchaaGreatDoor
