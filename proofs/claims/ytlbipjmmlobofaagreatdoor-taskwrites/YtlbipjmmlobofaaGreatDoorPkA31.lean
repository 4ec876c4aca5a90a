/- RaY · AtF · AtG · AtH: my texts, in their order. -/
import Derived.Test.YtlbipjmmlobofaaGreatDoorPkA15
import Derived.Test.YtlbipjmmlobofaaGreatDoorPkA29
import Derived.Test.YtlbipjmmlobofaaGreatDoorPkA30
namespace Go.Proofs.YtlbipjmmlobofaaGreatDoor
open Go.RowKit
set_option linter.unusedVariables false
set_option linter.unusedSimpArgs false
theorem ofR_snoc (m s:Int) (P:List (Int × Int)) (p:Int × Int):ofR m s (P++[p])=ofR m s P++oneL (cutL m (rayL s p.1 p.2)):=by
 unfold ofR;simp
theorem ofR_len (m s:Int):∀ P:List (Int × Int),(ofR m s P).length≤P.length
 | []=>Nat.le_refl _
 | p::P=>by
  have:=ofR_len m s P
  unfold ofR at this ⊢
  rw [List.flatMap_cons,List.length_append,List.length_cons]
  have h1:(oneL (cutL m (rayL s p.1 p.2))).length≤1:=by unfold oneL;split <;> simp
  omega
theorem take_snoc_at {α:Type} (P:List α) (j:Nat) (p:α) (h:P[j]?=some p):P.take (j+1)=P.take j++[p]:=by
 obtain ⟨hj,e⟩:=List.getElem?_eq_some_iff.1 h
 rw [List.take_succ_eq_append_getElem hj,e]
theorem rray_low (s f r:Int) (w W:World) (k:Kept W w) :
  Calls Tryz.prog 161 #[.int .i64 s,.int .i64 f,.int .i64 r] w fun e w'=>∃ v,e=.returned v∧OwnZ w' w.heap.size v (rayL s f r)∧Kept w w':=rray_is s f r w
theorem cut_yes {m:Int} {l:List Int} (h:slidesB m=true):cutL m l=l:=by unfold cutL;rw [h];simp
theorem cut_no {m:Int} {l:List Int} (h:slidesB m=false):cutL m l=l.take 1:=by unfold cutL;rw [h];simp
theorem cut_short {m:Int} {l:List Int} (h:l.length≤1):cutL m l=l:=by
 unfold cutL
 split
 ·rfl
 ·exact List.take_of_length_le h
set_option maxRecDepth 100000 in
set_option maxHeartbeats 2000000 in
theorem rof_is (m s:Int) (w:World):Calls Tryz.prog 140 #[.int .i64 m,.int .i64 s] w (NewR 71 w (ofL m s)):=by
 obtain ⟨i0,hi0,hz0,hz1,hz2⟩:=partsZ infoRow
 have HI:=Qh hi0
 have HZ:=Qh hz0
 have HZ1:=Qh hz1
 have HZ2:=Qh hz2
 have HEnd:=Qh (ofR_is m s)
 have hlenP:=stepsL_len m
 have HFL:=Qh (stZ_len m)
 have HAt:=Qh (show ∀ (j:Nat) (p:Int × Int),(stepsL m)[j]?=some p→(stZ m)[2*j]?=some p.1∧(stZ m)[2*j+1]?=some p.2 from flat_at (stepsL m))
 clear hi0 hz0 hz1 hz2
 go_enter Tryz.func140,Tryz.ntmps140
 go_wp2_with fail
 refine (rsteps_is m _).mono ?_
 rintro e W ⟨v6,rfl,hown6,k6⟩
 obtain ⟨a6,c6,rfl⟩:=hown6.slice
 obtain ⟨g6,hl6,_⟩:=hown6.ls
 have HL6:=Qh hl6
 have HK6:=Qh k6
 clear hown6 hl6 k6
 generalize hn6:(stZ m).length=n6 at *
 have HN6:=Qh hn6
 clear hn6
 go_wp2
 go_loopw [5,7] (fun t5 t7 wr=>∃ i j:Nat,i=2*j∧j≤(stepsL m).length∧t7=.int .i64 i∧RowsZ 71 wr W.heap.size t5 (ofR m s ((stepsL m).take j))∧Kept W wr) (fun _ t7 _=>n6-(intOf t7).toNat)
 case atStart=>exact ⟨0,0,rfl,by omega,rfl,RowsZ.nil _ _ _,Kept.refl _⟩
 case round =>
  obtain ⟨i,j,hij,hj,rfl,hR,hK⟩:=hrel
  obtain ⟨a5,c5,rfl⟩:=hR.slice
  have HIJ:=Qh hij
  have HR:=Qh hR
  have HK:=Qh hK
  have hNN:n6=2*(stepsL m).length:=HFL.out
  by_cases hlt:i<n6
  ·have hlt':(i:Int)<(n6:Int):=by omega
   have hlt1:(i:Int)+1<(n6:Int):=by omega
   have hsm:(i:Int)≤100:=by omega
   obtain ⟨p,hp⟩:∃ p,(stepsL m)[j]?=some p:=⟨_,List.getElem?_eq_getElem (by omega)⟩
   obtain ⟨q1,q2⟩:=HAt.out j p hp
   rw [← hij] at q1 q2
   obtain ⟨off,c6',e6,hk1,hk2,hcell⟩:=HL6.out.full (by have:=HN6.out;omega)
   injection e6 with e61 e62 e63
   subst e61 e63
   have d1:=kept_cell HK.out (hcell i _ q1)
   have d2:=kept_cell HK.out (hcell (i+1) _ q2)
   have hLj:=Qh (ofR_len m s ((stepsL m).take j))
   have HTk:=Qh (show ofR m s ((stepsL m).take (j+1))=ofR m s ((stepsL m).take j)++oneL (cutL m (rayL s p.1 p.2)) by rw [take_snoc_at _ j p hp,ofR_snoc])
   have hj1:j+1≤(stepsL m).length:=by omega
   have hLj2:(ofR m s ((stepsL m).take j)).length≤1000:=by have:=hLj.out;rw [List.length_take] at this;omega
   obtain ⟨pf,pr⟩:=p
   dsimp only at *
   clear hij hR hK hp q1 q2 hcell hLj hk1 hk2 e62 hNN
   generalize (stepsL m).take j=PJ at *
   generalize hRL:rayL s pf pr=RL at *
   have HRay:=Qh (rray_low s pf pr)
   rw [hRL] at HRay
   have hrl8:RL.length≤8:=by rw [← hRL];exact rayL_len _ _ _
   clear hRL
   generalize hN5:(ofR m s PJ).length=N5 at *
   have HN5:=Qh hN5
   clear hN5
   have wr1:IntKind.i64.wrap ((i:Int)+1)=(i:Int)+1:=IntWalk.i64_in _ (by omega)
   have tn1:((i:Int)+1).toNat=i+1:=by omega
   have ge1:(0:Int)≤(i:Int)+1:=by omega
   go_wp2
   refine wp_region_held_drew (S:=Kept _) (by kernel_rfl) (Kept.refl _).drew (fun Qj=>?_)
   refine rT 0 17 (.int .i64 s) rfl rfl Qj ?_
   simp only [pA,pN,sZ,sU]
   refine rT 1 18 (.slice (some ⟨g6,off,none⟩) n6 c6) rfl rfl Qj ?_
   simp only [pA,pN,sZ,sU]
   refine rT 2 19 (.int .i64 (i:Int)) rfl rfl Qj ?_
   simp only [pA,pN,sZ,sU]
   refine rT 3 20 (.pointer (some ⟨g6,off+i,none⟩)) rfl rfl Qj ?_
   simp only [pA,pN,sZ,sU]
   refine rC 4 21 (.int .i64 pf) rfl rfl (fun _ h=>kept_cell h (d1)) Qj ?_
   simp only [pA,pN,sZ,sU]
   refine rT 5 22 (.slice (some ⟨g6,off,none⟩) n6 c6) rfl rfl Qj ?_
   simp only [pA,pN,sZ,sU]
   refine rT 6 23 (.int .i64 (i:Int)) rfl rfl Qj ?_
   simp only [pA,pN,sZ,sU]
   refine rT 7 24 (.int .i64 ((i:Int)+1)) rfl rfl Qj ?_
   simp only [pA,pN,sZ,sU]
   refine rT 8 25 (.pointer (some ⟨g6,off+(i+1),none⟩)) rfl rfl Qj ?_
   simp only [pA,pN,sZ,sU]
   refine rC 9 26 (.int .i64 pr) rfl rfl (fun _ h=>kept_cell h (d2)) Qj ?_
   simp only [pA,pN,sZ,sU]
   refine rR 10 rfl (fun K hK=>?_)
   go_simp
   have HK0:=Qh Qj
   refine (HRay.out _ _ Qj).mono ?_
   rintro e w1 ⟨v,rfl,hown,g1⟩
   obtain ⟨a,cap,rfl⟩:=hown.slice
   refine hK.out _ _ (Qj.trans g1) (fun _=>?_)
   replace Qj:=Qj.trans g1
   clear hK K
   have HO:=Qh hown
   have HG1:=Qh g1
   clear hown g1
   refine rT 11 8 (.slice a RL.length cap) rfl rfl Qj ?_
   simp only [pA,pN,sZ,sU]
   refine wpAnyH_done (by kernel_rfl) ?_ _
   have HRX:=Qh (HR.out.kept HK0.out)
   by_cases h1:1<RL.length
   ·have h1':(1:Int)<(RL.length:Int):=by omega
    have h0':(0:Int)<(RL.length:Int):=by omega
    go_wp2_with fail
    refine (rslides_is m _).mono ?_
    cases hsl:slidesB m
    ·have HT1:=HTk.out
     rw [cut_no hsl,show oneL (RL.take 1)=[RL.take 1] by unfold oneL;rw [if_neg (by rw [List.length_take];omega)]] at HT1
     replace HTk:=Qh HT1
     clear HT1 hsl
     rintro e w' ⟨rfl,rfl⟩
     obtain ⟨g8,cap8,cur8,e8,_,_,hnc8,hcm8,_,_⟩:=HO.out.blk (by omega)
     injection e8 with e81 e82 e83
     subst e81 e83
     have hr:∀ w,(Instr.sliceAt 71 (.slice (some ⟨g8,0,none⟩) RL.length cap) none (some (.int .i64 1)) none).run Tryz.prog w=.ok (.slice (some ⟨g8,0,none⟩) 1 cap) w:=run_head g8 0 RL.length cap 1 (by omega)
     have HO8:=Qh (HO.out.take 1 (by omega))
     have hpos8:0<(RL.take 1).length:=by rw [List.length_take];omega
     clear hnc8 hcm8
     go_wp2_with (at_builtin;refine RowsAt.append Tryz.underlying153 HI.out HZ.out HZ1.out HZ2.out rfl (by decide) rfl _ _ rfl W.heap.size _ _ (ofR m s PJ) (RL.take 1) rfl rfl HRX.out HG1.out HO8.out hpos8 ?c1 ?d1 ?_)
     case c1=>have:=HK.out.size;have:=HK0.out.size;omega
     case d1=>rw [HN5.out];omega
     intro v' w4 hR4 hk4
     obtain ⟨a4,c4,rfl⟩:=hR4.slice
     have HR4:=Qh hR4
     have HK4:=Qh (hk4 W ((HK.out.trans HK0.out).trans HG1.out) (Nat.le_refl _))
     clear hR4 hk4
     generalize (ofR m s PJ++[(RL.take 1)]).length=N4 at *
     go_wp2
     go_roundw
     case rel=>exact ⟨i+2,j+1,by have:=HIJ.out;omega,hj1,by go_num,by rw [HTk.out];exact HR4.out,HK4.out⟩
     case measure=>simp [intOf];omega
    ·have HT1:=HTk.out
     rw [cut_yes hsl,show oneL RL=[RL] by unfold oneL;rw [if_neg (by omega)]] at HT1
     replace HTk:=Qh HT1
     clear HT1 hsl
     rintro e w' ⟨rfl,rfl⟩
     have hpos8:0<RL.length:=by omega
     go_wp2_with (at_builtin;refine RowsAt.append Tryz.underlying153 HI.out HZ.out HZ1.out HZ2.out rfl (by decide) rfl _ _ rfl W.heap.size _ _ (ofR m s PJ) RL rfl rfl HRX.out HG1.out HO.out hpos8 ?c2 ?d2 ?_)
     case c2=>have:=HK.out.size;have:=HK0.out.size;omega
     case d2=>rw [HN5.out];omega
     intro v' w4 hR4 hk4
     obtain ⟨a4,c4,rfl⟩:=hR4.slice
     have HR4:=Qh hR4
     have HK4:=Qh (hk4 W ((HK.out.trans HK0.out).trans HG1.out) (Nat.le_refl _))
     clear hR4 hk4
     generalize (ofR m s PJ++[RL]).length=N4 at *
     go_wp2
     go_roundw
     case rel=>exact ⟨i+2,j+1,by have:=HIJ.out;omega,hj1,by go_num,by rw [HTk.out];exact HR4.out,HK4.out⟩
     case measure=>simp [intOf];omega
   ·have h1':¬ (1:Int)<(RL.length:Int):=by omega
    by_cases h0:0<RL.length
    ·have h0':(0:Int)<(RL.length:Int):=by omega
     have HT1:=HTk.out
     rw [cut_short (by omega),show oneL RL=[RL] by unfold oneL;rw [if_neg (by omega)]] at HT1
     replace HTk:=Qh HT1
     clear HT1
     go_wp2_with (at_builtin;refine RowsAt.append Tryz.underlying153 HI.out HZ.out HZ1.out HZ2.out rfl (by decide) rfl _ _ rfl W.heap.size _ _ (ofR m s PJ) RL rfl rfl HRX.out HG1.out HO.out h0 ?c3 ?d3 ?_)
     case c3=>have:=HK.out.size;have:=HK0.out.size;omega
     case d3=>rw [HN5.out];omega
     intro v' w4 hR4 hk4
     obtain ⟨a4,c4,rfl⟩:=hR4.slice
     have HR4:=Qh hR4
     have HK4:=Qh (hk4 W ((HK.out.trans HK0.out).trans HG1.out) (Nat.le_refl _))
     clear hR4 hk4
     generalize (ofR m s PJ++[RL]).length=N4 at *
     go_wp2
     go_roundw
     case rel=>exact ⟨i+2,j+1,by have:=HIJ.out;omega,hj1,by go_num,by rw [HTk.out];exact HR4.out,HK4.out⟩
     case measure=>simp [intOf];omega
    ·have h0':¬ (0:Int)<(RL.length:Int):=by omega
     have HT1:=HTk.out
     rw [cut_short (by omega),show oneL RL=[] by unfold oneL;rw [if_pos (by omega)]] at HT1
     replace HTk:=Qh HT1
     have HR9:=Qh (HRX.out.kept HG1.out)
     have HK9:=Qh ((HK.out.trans HK0.out).trans HG1.out)
     clear HT1
     go_wp2
     go_roundw
     case rel=>exact ⟨i+2,j+1,by have:=HIJ.out;omega,hj1,by go_num,by rw [HTk.out];simpa using HR9.out,HK9.out⟩
     case measure=>simp [intOf];omega
  ·have hlt':¬ (i:Int)<(n6:Int):=by omega
   have HT:=Qh (show ofR m s ((stepsL m).take j)=ofL m s by rw [List.take_of_length_le (by omega)];exact HEnd.out)
   clear hij hR hK hNN
   go_wp2
   go_ret
   exact ⟨_,rfl,by rw [← HT.out];exact HR.out.low HK6.out.size,HK6.out.trans HK.out⟩
theorem RowsZ.read {e:TypeId} {w:World} {base:Nat} {v:Value} {L:List (List Int)} (h:RowsZ e w base v L) (hL:0<L.length) :
  ∃ go cap,v=.slice (some ⟨go,0,none⟩) L.length cap∧L.length≤cap∧cap≤maxLen∧∀ (i:Nat) (l:List Int),L[i]?=some l→∃ u g,w.cell? ⟨go,i,none⟩=some u∧LsZ w g u l∧(0<l.length→base≤g∧g<w.heap.size):=by
 obtain ⟨vs,gs,h⟩:=h
 have hnv:=h.len
 have hng:=h.ngs
 rcases h.own.2 with ⟨ev,h0⟩|⟨go,cap,cur,ev,hb,hh,hnc,hcm,hcs,ht⟩
 ·omega
 ·refine ⟨go,cap,ev,hnc,hcm,fun i l hl=>?_⟩
  obtain ⟨hi,_⟩:=List.getElem?_eq_some_iff.1 hl
  obtain ⟨u,hu⟩:∃ u,vs[i]?=some u:=⟨_,List.getElem?_eq_getElem (by omega)⟩
  obtain ⟨gg,hg⟩:∃ g,gs[i]?=some g:=⟨_,List.getElem?_eq_getElem (by omega)⟩
  obtain ⟨q1,_⟩:=h.each i u gg l hu hg hl
  obtain ⟨g,q2,q3⟩:=q1.ls
  refine ⟨u,g,?_,q2,q3⟩
  rw [cell_of_row w go i cur _ (0,0) hh]
  have h2:(cur.toList.take (L.length*1))[i]?=vs[i]?:=by rw [ht]
  rw [List.getElem?_take,if_pos (by omega)] at h2
  simp only [Array.getElem?_toList] at h2
  rw [h2,hu]
theorem rside_any (m:Int) (w:World):Calls Tryz.prog 102 #[.int .i64 m] w fun e w'=>e=.returned (.int .i64 (sideI m))∧w=w':=by
 have hk:=Qh (rknd_any m)
 unfold sideI
 by_cases h:manB m=true
 ·have hm:=(manB_iff m).1 h
  have h0:(knd m == 0)=false:=by
   unfold knd
   rw [if_neg (by omega)]
   split <;> simp <;> omega
  rw [if_pos h]
  generalize knd m=q at *
  by_cases hp:0<m
  ·have hp':¬ m<0:=by omega
   rw [if_pos hp]
   clear h hm
   go_enter Tryz.func102,Tryz.ntmps102
   go_wp2_with fail
   refine (hk.out _).mono ?_
   rintro e w' ⟨rfl,rfl⟩
   go_wp2
   go_ret
   exact ⟨rfl,rfl⟩
  ·have hp':m<0:=by omega
   rw [if_neg hp]
   clear h hm
   go_enter Tryz.func102,Tryz.ntmps102
   go_wp2_with fail
   refine (hk.out _).mono ?_
   rintro e w' ⟨rfl,rfl⟩
   go_wp2
   go_ret
   exact ⟨rfl,rfl⟩
 ·have hm:=(manB_not m).1 (by simpa using h)
  rw [if_neg h]
  rw [knd_none hm] at hk
  clear h hm
  go_enter Tryz.func102,Tryz.ntmps102
  go_wp2_with fail
  refine (hk.out _).mono ?_
  rintro e w' ⟨rfl,rfl⟩
  go_wp2
  go_ret
  exact ⟨rfl,rfl⟩
theorem ofL_mem {m s:Int} {l:List Int} (h:l ∈ ofL m s) {x:Int} (hx:x ∈ l):0≤x∧x<64:=by
 unfold ofL ofN at h
 obtain ⟨way,_,hl⟩:=List.mem_flatMap.1 h
 unfold oneL at hl
 split at hl
 ·cases hl
 ·rw [List.mem_singleton] at hl
  subst hl
  unfold cutL at hx
  split at hx
  ·exact alongL_mem hx
  ·exact alongL_mem (List.mem_of_mem_take hx)
theorem hit_found {B:List Int} {s tq:Int} {i k:Nat} {l:List Int} (hl:(ofL (bAt B s) s)[i]?=some l) (hk:l[k]?=some tq) (hc:∀ j,j<k→∀ y,l[j]?=some y→bAt B y=0):hitB B s tq=true:=by
 rw [hitB_iff]
 unfold strikeL
 rw [List.mem_flatMap]
 exact ⟨l,List.mem_of_getElem? hl,(mem_upto B tq l).2 ⟨k,hk,hc⟩⟩
theorem hit_none {B:List Int} {s tq:Int} (h:∀ (i:Nat) (l:List Int),(ofL (bAt B s) s)[i]?=some l→tq ∉ uptoL B l):hitB B s tq=false:=by
 rw [Bool.eq_false_iff]
 intro hc
 rw [hitB_iff] at hc
 unfold strikeL at hc
 obtain ⟨l,hl,hx⟩:=List.mem_flatMap.1 hc
 obtain ⟨i,hi,e⟩:=List.mem_iff_getElem.1 hl
 exact h i l (by rw [List.getElem?_eq_getElem hi,e]) hx
theorem upto_end {B:List Int} {tq:Int} {l:List Int} (h:∀ j,j<l.length→l[j]?≠some tq):tq ∉ uptoL B l:=by
 rw [mem_upto]
 rintro ⟨i,hi,_⟩
 obtain ⟨hlt,_⟩:=List.getElem?_eq_some_iff.1 hi
 exact h i hlt hi
theorem upto_stop {B:List Int} {tq y:Int} {l:List Int} {k:Nat} (h:∀ j,j<k→l[j]?≠some tq) (hy:l[k]?=some y) (hne:y≠tq) (hb:bAt B y≠0):tq ∉ uptoL B l:=by
 rw [mem_upto]
 rintro ⟨i,hi,hc⟩
 by_cases h1:i<k
 ·exact h i h1 hi
 ·by_cases h2:i=k
  ·subst h2;rw [hy] at hi;exact hne (Option.some.inj hi)
  ·exact hb (hc k (by omega) y hy)
set_option maxRecDepth 100000 in
set_option maxHeartbeats 2000000 in
theorem hits_is (B:List Int) (hB:Brd B) (s:Nat) (hs:s<64) (tq:Int) (w:World) :
  Calls Tryz.prog 103 #[.agg (cl B).toArray,.int .i64 (s:Int),.int .i64 tq] w fun e w'=>e=.returned (.bool (hitB B (s:Int) tq))∧Kept w w':=by
 have hbl:=heap_alloc_new w (.cells (cl B).toArray 24)
 have hc0:=board_cell hB hbl s hs
 obtain ⟨hb1,hb2⟩:=hB.2 s hs
 have HB:=Qh hB
 have HBl:=Qh hbl
 have HF:=Qh (fun (i k:Nat) (l:List Int)=>hit_found (B:=B) (s:=(s:Int)) (tq:=tq) (i:=i) (k:=k) (l:=l))
 have HN:=Qh (hit_none (B:=B) (s:=(s:Int)) (tq:=tq))
 have HMem:=Qh (fun (l:List Int) (h:l ∈ ofL (bAt B (s:Int)) (s:Int)) (x:Int) (hx:x ∈ l)=>ofL_mem h hx)
 have hx:bAt B (s:Int)=B.getD s 0:=rfl
 rw [hx] at HF HN HMem
 have hOf:=Qh (rof_is (B.getD s 0) (s:Int))
 generalize hitB B (s:Int) tq=hb at *
 generalize B.getD s 0=x at *
 clear hB hbl hx
 generalize ofL x (s:Int)=L at *
 go_enter Tryz.func103,Tryz.ntmps103
 go_wp2_with fail
 refine (hOf.out _).mono ?_
 rintro e W ⟨v,rfl,hR,hK⟩
 have HK:=Qh (((Kept.refl w).alloc _).trans hK)
 have HBW:=Qh (hK.heap HBl.out)
 clear hK
 by_cases hL:0<L.length
 ·obtain ⟨g7,c7,rfl,hn1,hn2,hrow⟩:=hR.read hL
  unfold maxLen at hn2
  have HRow:=Qh hrow
  generalize hN:L.length=N at *
  have HNN:=Qh hN
  clear hR hrow hN hc0
  go_wp2
  go_loop [8] (fun t8=>∃ i:Nat,i≤N∧t8=.int .i64 i∧∀ j l,j<i→L[j]?=some l→tq ∉ uptoL B l) (fun t8=>N-(intOf t8).toNat)
  case atStart=>exact ⟨0,by omega,rfl,fun j l hj=>by omega⟩
  case round =>
   obtain ⟨i,hi,rfl,hno⟩:=hrel
   have HNo:=Qh hno
   clear hno
   by_cases hlt:i<N
   ·have hlt':(i:Int)<(N:Int):=by omega
    obtain ⟨l,hl⟩:∃ l,L[i]?=some l:=⟨_,List.getElem?_eq_getElem (by have:=HNN.out;omega)⟩
    obtain ⟨u,g,hcu,hls,_⟩:=HRow.out i l hl
    have HMl:=Qh (HMem.out l (List.mem_of_getElem? hl))
    have Hl:=Qh hl
    clear hl
    obtain ⟨au,cu,rfl⟩:=hls.slice
    have HLs:=Qh hls
    clear hls
    generalize hM:l.length=M at *
    have HMM:=Qh hM
    clear hM
    go_wp2
    go_loop [9] (fun t9=>∃ k:Nat,k≤M∧t9=.int .i64 k∧∀ j,j<k→l[j]?≠some tq∧∀ y,l[j]?=some y→bAt B y=0) (fun t9=>M-(intOf t9).toNat)
    case atStart=>exact ⟨0,by omega,rfl,fun j hj=>by omega⟩
    case round =>
     obtain ⟨k,hk,rfl,hin⟩:=hrel
     have HIn:=Qh hin
     clear hin
     by_cases hkl:k<M
     ·have hkl':(k:Int)<(M:Int):=by omega
      obtain ⟨y,hy⟩:∃ y,l[k]?=some y:=⟨_,List.getElem?_eq_getElem (by have:=HMM.out;omega)⟩
      obtain ⟨off,cu',e6,hk1,hk2,hcell⟩:=HLs.out.full (by have:=HMM.out;omega)
      injection e6 with e61 e62 e63
      have HE62:=Qh e62
      subst e61 e63
      clear e62
      have d1:=hcell k _ hy
      obtain ⟨y0,y1⟩:=HMl.out y (List.mem_of_getElem? hy)
      obtain ⟨yn,rfl⟩:=Int.eq_ofNat_of_zero_le y0
      have hyn:yn<64:=by omega
      have d2:=board_cell HB.out HBW.out yn hyn
      have HY:=Qh hy
      have hbm:M≤9223372036854775807:=by unfold maxLen at hk2;have:=HMM.out;omega
      clear hy hcell hk1 hk2
      by_cases hto:(yn:Int)=tq
      ·have b0:((yn:Int) == tq)=true:=by simpa using hto
       have HE:=Qh (HF.out i k l Hl.out (by rw [HY.out,hto]) (fun j hj y hy=>(HIn.out j hj).2 y hy))
       clear hto d2
       go_wp2
       go_ret
       exact ⟨by rw [HE.out];rfl,HK.out⟩
      ·have b0:((yn:Int) == tq)=false:=by simpa using hto
       have HTo:=Qh hto
       clear hto
       obtain ⟨z,hz⟩:∃ z,B.getD yn 0=z:=⟨_,rfl⟩
       rw [hz] at d2
       by_cases h0:z=0
       ·have b1:(z != 0)=false:=by simpa using h0
        have HZ:=Qh (show bAt B (yn:Int)=0 by show B.getD yn 0=0;rw [hz];exact h0)
        clear h0 hz
        go_wp2
        go_round
        case rel=>exact ⟨k+1,by omega,by go_num,fun j hj=>by
         by_cases hji:j<k
         ·exact HIn.out j hji
         ·obtain rfl:j=k:=by omega
          rw [HY.out]
          exact ⟨fun e=>HTo.out (Option.some.inj e),fun y e=>by rw [← Option.some.inj e];exact HZ.out⟩⟩
        case measure=>simp [intOf];omega
       ·have b1:(z != 0)=true:=by simpa using h0
        have HSt:=Qh (upto_stop (fun j hj=>(HIn.out j hj).1) HY.out HTo.out (show bAt B (yn:Int)≠0 by show B.getD yn 0≠0;rw [hz];exact h0))
        clear h0 hz
        go_wp2
        go_round
        case rel=>exact ⟨i+1,by omega,by go_num,fun j l' hj hl'=>by
         by_cases hji:j<i
         ·exact HNo.out j l' hji hl'
         ·obtain rfl:j=i:=by omega
          rw [Hl.out] at hl'
          rw [← Option.some.inj hl']
          exact HSt.out⟩
        case measure=>simp [intOf];omega
     ·have hkl':¬ (k:Int)<(M:Int):=by omega
      have HSt:=Qh (upto_end (B:=B) (tq:=tq) (l:=l) (fun j hj=>(HIn.out j (by have:=HMM.out;omega)).1))
      go_wp2
      go_round
      case rel=>exact ⟨i+1,by omega,by go_num,fun j l' hj hl'=>by
       by_cases hji:j<i
       ·exact HNo.out j l' hji hl'
       ·obtain rfl:j=i:=by omega
        rw [Hl.out] at hl'
        rw [← Option.some.inj hl']
        exact HSt.out⟩
      case measure=>simp [intOf];omega
   ·have hlt':¬ (i:Int)<(N:Int):=by omega
    have HE:=Qh (HN.out (fun j l hl=>HNo.out j l (by obtain ⟨h,_⟩:=List.getElem?_eq_some_iff.1 hl;have:=HNN.out;omega) hl))
    go_wp2
    go_ret
    exact ⟨by rw [HE.out];rfl,HK.out⟩
 ·have h0:L=[]:=List.eq_nil_of_length_eq_zero (by omega)
  subst h0
  obtain ⟨a7,c7,rfl⟩:=hR.slice
  have HE:=Qh (HN.out (fun j l hl=>by simp at hl))
  clear hR hc0
  go_wp2
  go_loop [8] (fun t8=>t8=.int .i64 0) (fun _=>0)
  case atStart=>exact rfl
  case round =>
   obtain rfl:=hrel
   go_wp2
   go_ret
   exact ⟨by rw [HE.out];rfl,HK.out⟩
theorem zn_yes {p:Nat→Bool} {k:Nat} (h:p k=true):zn (sel p (k+1))=zn (sel p k)++[(k:Int)]:=by unfold zn;rw [sel_yes h];simp
theorem zn_no {p:Nat→Bool} {k:Nat} (h:p k=false):zn (sel p (k+1))=zn (sel p k):=by rw [sel_no h]
theorem zn_len (p:Nat→Bool) (k:Nat):(zn (sel p k)).length≤k:=by unfold zn;rw [List.length_map];exact sel_le p k
set_option maxRecDepth 100000 in
set_option maxHeartbeats 2000000 in
theorem rby_is (B:List Int) (hB:Brd B) (s side:Int) (w:World) :
  Calls Tryz.prog 68 #[.agg (cl B).toArray,.int .i64 s,.int .i64 side] w (NewZ w (if okS s && rightB B then zn (byN B s side) else [])):=by
 have hz:=Qh (size_cl hB.1)
 have hbl:=Qh (heap_alloc_new w (.cells (cl B).toArray 24))
 have HB:=Qh hB
 have hRt:=Qh (rright_is B hB)
 clear hB
 by_cases hs:s<0∨64≤s
 ·rw [okS_no hs,Bool.false_and,if_neg (by simp)]
  rcases hs with hs|hs
  ·go_enter Tryz.func68,Tryz.ntmps68
   go_wp2
   go_ret
   exact ⟨_,rfl,OwnZ.nil _ _,(Kept.refl _).alloc _⟩
  ·have hs':¬ s<0:=by omega
   have hs2:63<s:=by omega
   go_enter Tryz.func68,Tryz.ntmps68
   go_wp2
   go_ret
   exact ⟨_,rfl,OwnZ.nil _ _,(Kept.refl _).alloc _⟩
 ·have hs':¬ s<0:=by omega
  have hs2:¬ 63<s:=by omega
  rw [okS_yes (by omega) (by omega),Bool.true_and]
  cases hr:rightB B
  ·rw [hr] at hRt
   rw [if_neg (by simp)]
   clear hr hs
   go_enter Tryz.func68,Tryz.ntmps68
   go_wp2_with (refine wpList_load_w (by rfl) _ rfl _ rfl _ (hbl.out) hz.out ?_)
   refine (hRt.out _).mono ?_
   rintro e w1 ⟨rfl,k1⟩
   have HK:=Qh (((Kept.refl w).alloc _).trans k1)
   clear k1
   go_wp2
   go_ret
   exact ⟨_,rfl,OwnZ.nil _ _,HK.out⟩
  ·rw [hr] at hRt
   rw [if_pos rfl]
   have HHit:=Qh (fun (k:Nat) (hk:k<64)=>hits_is B HB.out k hk s)
   obtain ⟨p,hp⟩:∃ p:Nat→Bool,p=fun (k:Nat)=>(sideI (B.getD k 0) == side) && hitB B (k:Int) s:=⟨_,rfl⟩
   have HM:Hid (zn (byN B s side)=zn (sel p 64)):=by rw [hp];rfl
   have HP:=Qh (fun k=>congrFun hp k)
   clear hr hs hp
   go_enter Tryz.func68,Tryz.ntmps68
   go_wp2_with (refine wpList_load_w (by rfl) _ rfl _ rfl _ (hbl.out) hz.out ?_)
   refine (hRt.out _).mono ?_
   rintro e W ⟨rfl,k1⟩
   have HBW:=Qh (k1.heap hbl.out)
   have HKW:=Qh (((Kept.refl w).alloc _).trans k1)
   clear k1
   go_wp2
   go_loopw [7,8] (fun t7 t8 wr=>∃ k:Nat,k≤64∧t8=.int .i64 k∧OwnZ wr W.heap.size t7 (zn (sel p k))∧Kept W wr) (fun _ t8 _=>64-(intOf t8).toNat)
   case atStart=>exact ⟨0,by omega,rfl,OwnZ.nil _ _,Kept.refl _⟩
   case round =>
    obtain ⟨k,hk,rfl,hown,hK⟩:=hrel
    obtain ⟨a,cap,rfl⟩:=hown.slice
    have hlen:=zn_len p k
    have HO:=Qh hown
    have HK:=Qh hK
    clear hown hK
    by_cases hlt:k<64
    ·have hlt':(k:Int)<64:=by omega
     have hc0:=board_cell HB.out (HK.out.heap HBW.out) k hlt
     obtain ⟨hb1,hb2⟩:=HB.out.2 k hlt
     have hh:=HHit.out k hlt
     have hpk:=HP.out k
     generalize hitB B (k:Int) s=hb at *
     generalize B.getD k 0=x at *
     cases hsd:(sideI x == side)
     ·rw [hsd,Bool.false_and] at hpk
      have HE:=Qh (zn_no hpk)
      clear hh hpk
      generalize (zn (sel p k)).length=N at *
      go_wp2_with fail
      refine (rside_any x _).mono ?_
      rintro e w' ⟨rfl,rfl⟩
      go_wp2
      go_roundw
      case rel=>exact ⟨k+1,by omega,by go_num,by rw [HE.out];exact HO.out,HK.out⟩
      case measure=>simp [intOf];omega
     ·rw [hsd,Bool.true_and] at hpk
      have Hh:=Qh hh
      have hsz0:=HBW.out
      clear hh
      cases hb
      ·have HE:=Qh (zn_no hpk)
       clear hpk
       generalize (zn (sel p k)).length=N at *
       go_wp2_with fail
       refine (rside_any x _).mono ?_
       rintro e w' ⟨rfl,rfl⟩
       go_wp2_with (refine wpList_load_w (by rfl) _ rfl _ rfl _ (HK.out.heap HBW.out) hz.out ?_)
       refine (Hh.out _).mono ?_
       rintro e w2 ⟨rfl,k2⟩
       have HO2:=Qh (HO.out.kept k2)
       have HK2:=Qh (HK.out.trans k2)
       clear k2 hc0
       go_wp2
       go_roundw
       case rel=>exact ⟨k+1,by omega,by go_num,by rw [HE.out];exact HO2.out,HK2.out⟩
       case measure=>simp [intOf];omega
      ·have HE:=Qh (zn_yes hpk)
       clear hpk
       generalize hN:(zn (sel p k)).length=N at *
       go_wp2_with fail
       refine (rside_any x _).mono ?_
       rintro e w' ⟨rfl,rfl⟩
       go_wp2_with (refine wpList_load_w (by rfl) _ rfl _ rfl _ (HK.out.heap HBW.out) hz.out ?_)
       refine (Hh.out _).mono ?_
       rintro e w2 ⟨rfl,k2⟩
       have HK2:=Qh (HK.out.trans k2)
       have HA:=Qh (HK2.out.alloc (.cells #[.int .i64 (k:Int)] 3))
       have HOA:=Qh (HO.out.kept (k2.alloc (.cells #[.int .i64 (k:Int)] 3)))
       clear k2 hc0
       go_wp2_with (at_builtin;refine wpList_append_z rfl _ _ rfl W.heap.size w2.heap.size _ _ (zn (sel p k)) [(k:Int)] rfl rfl HOA.out (LsZ.lit _ [(k:Int)] (by simp)) ?c1 ?c2 ?_)
       case c1=>simp;omega
       case c2=>exact HA.out.size
       intro v' w3 hown' hg
       have HK3:=Qh (HOA.out.grown HA.out (Nat.le_refl _) hg)
       obtain ⟨a',cap',rfl⟩:=hown'.slice
       have HO3:=Qh hown'
       clear hown' hg hN
       generalize (zn (sel p k)++[(k:Int)]).length=N2 at *
       go_wp2
       go_roundw
       case rel=>exact ⟨k+1,by omega,by go_num,by rw [HE.out];exact HO3.out,HK3.out⟩
       case measure=>simp [intOf];omega
    ·have hlt':¬ (k:Int)<64:=by omega
     have HE:=Qh (show zn (byN B s side)=zn (sel p k) by rw [HM.out,show 64=k by omega])
     generalize (zn (sel p k)).length=N at *
     go_wp2
     go_ret
     exact ⟨_,rfl,by rw [HE.out];exact HO.out.low HKW.out.size,HKW.out.trans HK.out⟩
def kingI (B:List Int) (side:Int):Int:=if side=0 then headI (whereL B 6) else if side=1 then headI (whereL B (-6)) else -1
theorem kingI_bd (B:List Int) (side:Int):-1≤kingI B side∧kingI B side<64:=by
 unfold kingI
 split
 ·exact headI_bd B 6
 ·split
  ·exact headI_bd B (-6)
  ·omega
theorem king_any (B:List Int) (hB:Brd B) (side:Int) (w:World) :
  Calls Tryz.prog 97 #[.agg (cl B).toArray,.int .i64 side] w fun e w'=>e=.returned (.int .i64 (kingI B side))∧Kept w w':=by
 unfold kingI
 by_cases h0:side=0
 ·subst h0;rw [if_pos rfl];exact king_w B hB w
 ·rw [if_neg h0]
  by_cases h1:side=1
  ·subst h1;rw [if_pos rfl];exact king_b B hB w
  ·rw [if_neg h1];exact king_no B side h0 h1 w
def otherI (side:Int):Int:=if side=0 then 1 else if side=1 then 0 else -1
theorem other_any (side:Int) (w:World):Calls Tryz.prog 46 #[.int .i64 side] w fun e w'=>e=.returned (.int .i64 (otherI side))∧Kept w w':=by
 unfold otherI
 by_cases h0:side=0
 ·subst h0;rw [if_pos rfl];exact (other_w w).mono fun _ _ ⟨a,b⟩=>⟨a,b ▸ Kept.refl _⟩
 ·rw [if_neg h0]
  by_cases h1:side=1
  ·subst h1;rw [if_pos rfl];exact (other_b w).mono fun _ _ ⟨a,b⟩=>⟨a,b ▸ Kept.refl _⟩
  ·rw [if_neg h1];exact (other_no side w h0 h1).mono fun _ _ ⟨a,b⟩=>⟨a,b ▸ Kept.refl _⟩
def checkB (B:List Int) (side:Int):Bool:=struckB B (kingI B side) (otherI side)
set_option maxHeartbeats 1000000 in
theorem check_is (a:Addr) (B:List Int) (hB:Brd B) (side:Int) (w:World) (hS:Steps w) :
  Calls Tryz.prog 99 #[.pointer (some a),.agg (cl B).toArray,.int .i64 side] w fun e w'=>e=.returned (.bool (checkB B side))∧Kept w w':=by
 have hbl:=Qh (heap_alloc_new w (.cells (cl B).toArray 24))
 have HB:=Qh hB
 have HSt:=Qh (hS.kept ((Kept.refl w).alloc (.cells (cl B).toArray 24)))
 clear hB hS
 unfold checkB
 go_enter Tryz.func99,Tryz.ntmps99
 go_wp2
 refine wp_region_held_drew (S:=Kept _) (by kernel_rfl) (Kept.refl _).drew (fun Qj=>?_)
 refine rT 0 7 (.pointer (some a)) rfl rfl Qj ?_
 simp only [pA,pN,sZ,sU]
 refine rY 1 8 rfl rfl (take_load (by rfl) _ rfl _ rfl B HB.out.1 (fun _ h=>h.heap (hbl.out))) Qj ?_
 simp only [pA,pN,sZ,sU]
 refine rY 2 9 rfl rfl (take_load (by rfl) _ rfl _ rfl B HB.out.1 (fun _ h=>h.heap (hbl.out))) Qj ?_
 simp only [pA,pN,sZ,sU]
 refine rT 3 10 (.int .i64 side) rfl rfl Qj ?_
 simp only [pA,pN,sZ,sU]
 refine rT 5 12 (.int .i64 side) rfl rfl Qj ?_
 simp only [pA,pN,sZ,sU]
 refine rR 4 rfl (fun K hK=>?_)
 go_simp
 refine (king_any B HB.out side _).mono ?_
 rintro e w1 ⟨rfl,gw1⟩
 refine hK.out _ _ (Qj.trans gw1) (fun _=>?_)
 replace Qj:=Qj.trans gw1
 clear hK K
 refine rR 6 rfl (fun K hK=>?_)
 go_simp
 refine (other_any side _).mono ?_
 rintro e w2 ⟨rfl,gw2⟩
 refine hK.out _ _ (Qj.trans gw2) (fun _=>?_)
 replace Qj:=Qj.trans gw2
 clear hK K
 refine rR 7 rfl (fun K hK=>?_)
 go_simp
 refine (struck_is a B HB.out (kingI B side) (otherI side) _ (HSt.out.kept Qj)).mono ?_
 rintro e w3 ⟨rfl,gw3⟩
 refine hK.out _ _ (Qj.trans gw3) (fun _=>?_)
 replace Qj:=Qj.trans gw3
 clear hK K
 refine rT 8 6 (.bool (struckB B (kingI B side) (otherI side))) rfl rfl Qj ?_
 simp only [pA,pN,sZ,sU]
 refine wpAnyH_done (by kernel_rfl) ?_ _
 go_wp2
 go_ret
 exact ⟨rfl,((Kept.refl _).alloc _).trans Qj⟩
theorem headI_none {l:List Nat} (h:l.length=0):headI l=-1:=by rw [List.eq_nil_of_length_eq_zero h];rfl
theorem headI_some {l:List Nat} (h:0<l.length):headI l=(l.getD 0 0:Nat):=by
 cases l with
 | nil=>simp at h
 | cons a l=>rfl
set_option maxRecDepth 100000 in
set_option maxHeartbeats 1000000 in
theorem rking_is (B:List Int) (hB:Brd B) (side:Int) (w:World) :
  Calls Tryz.prog 29 #[.agg (cl B).toArray,.int .i64 side] w fun e w'=>e=.returned (.int .i64 (kingI B side))∧Kept w w':=by
 have hz:=Qh (size_cl hB.1)
 have hbl:=Qh (heap_alloc_new w (.cells (cl B).toArray 24))
 have HW:=Qh (rwhere_is B hB)
 have HLen:=Qh (fun m=>(show (whereL B m).length≤64 from sel_le _ 64))
 clear hB
 have hcase:side=1∨side=0∨side<0∨1<side:=by omega
 by_cases h1:side=1
 ·subst h1
  have hk:kingI B 1=headI (whereL B (-6)):=rfl
  rw [hk]
  by_cases hl:0<(whereL B (-6)).length
  ·rw [headI_some hl]
   have HLn:=Qh (HLen.out (-6))
   have HWm:=Qh (HW.out (-6))
   generalize whereL B (-6)=Lw at *
   obtain ⟨y,hy⟩:∃ y,Lw.getD 0 0=y:=⟨_,rfl⟩
   rw [hy]
   go_enter Tryz.func29,Tryz.ntmps29
   go_wp2_with (refine wpList_load_w (by rfl) _ rfl _ rfl _ (hbl.out) hz.out ?_)
   refine (HWm.out _).mono ?_
   rintro e w1 ⟨v,rfl,hown,k1⟩
   obtain ⟨a,cap,rfl⟩:=hown.slice
   obtain ⟨g,rfl,hc⟩:=hown.at_ 0 hl
   rw [hy] at hc
   have HK:=Qh (((Kept.refl w).alloc _).trans k1)
   skip
   have hl2:((Lw.length:Int) == 0)=false:=by rw [beq_eq_false_iff_ne];omega
   clear hown k1 hy
   generalize Lw.length=N at *
   go_wp2
   go_ret
   exact ⟨rfl,HK.out⟩
  ·rw [headI_none (by omega)]
   have hl0:(whereL B (-6)).length=0:=by omega
   go_enter Tryz.func29,Tryz.ntmps29
   go_wp2_with (refine wpList_load_w (by rfl) _ rfl _ rfl _ (hbl.out) hz.out ?_)
   refine (HW.out (-6) _).mono ?_
   rintro e w1 ⟨v,rfl,hown,k1⟩
   obtain ⟨a,cap,rfl⟩:=hown.slice
   have HK:=Qh (((Kept.refl w).alloc _).trans k1)
   clear hown k1
   rw [hl0]
   clear hl0 hl
   go_wp2
   go_ret
   exact ⟨rfl,HK.out⟩
 ·have h1':(side == 1)=false:=by simpa using h1
  by_cases h0:side=0
  ·subst h0
   have hk:kingI B 0=headI (whereL B 6):=rfl
   rw [hk]
   by_cases hl:0<(whereL B 6).length
   ·rw [headI_some hl]
    have HLn:=Qh (HLen.out 6)
    have HWm:=Qh (HW.out 6)
    generalize whereL B 6=Lw at *
    obtain ⟨y,hy⟩:∃ y,Lw.getD 0 0=y:=⟨_,rfl⟩
    rw [hy]
    go_enter Tryz.func29,Tryz.ntmps29
    go_wp2_with (refine wpList_load_w (by rfl) _ rfl _ rfl _ (hbl.out) hz.out ?_)
    refine (HWm.out _).mono ?_
    rintro e w1 ⟨v,rfl,hown,k1⟩
    obtain ⟨a,cap,rfl⟩:=hown.slice
    obtain ⟨g,rfl,hc⟩:=hown.at_ 0 hl
    rw [hy] at hc
    have HK:=Qh (((Kept.refl w).alloc _).trans k1)
    have hl2:((Lw.length:Int) == 0)=false:=by rw [beq_eq_false_iff_ne];omega
    clear hown k1 hy
    generalize Lw.length=N at *
    go_wp2
    go_ret
    exact ⟨rfl,HK.out⟩
   ·rw [headI_none (by omega)]
    have hl0:(whereL B 6).length=0:=by omega
    go_enter Tryz.func29,Tryz.ntmps29
    go_wp2_with (refine wpList_load_w (by rfl) _ rfl _ rfl _ (hbl.out) hz.out ?_)
    refine (HW.out 6 _).mono ?_
    rintro e w1 ⟨v,rfl,hown,k1⟩
    obtain ⟨a,cap,rfl⟩:=hown.slice
    have HK:=Qh (((Kept.refl w).alloc _).trans k1)
    clear hown k1
    rw [hl0]
    clear hl0 hl
    go_wp2
    go_ret
    exact ⟨rfl,HK.out⟩
  ·have hk:kingI B side=-1:=by unfold kingI;rw [if_neg h0,if_neg h1]
   rw [hk]
   have HLn:=Qh (HLen.out 6)
   go_enter Tryz.func29,Tryz.ntmps29
   go_wp2_with (refine wpList_load_w (by rfl) _ rfl _ rfl _ (hbl.out) hz.out ?_)
   refine (HW.out 6 _).mono ?_
   rintro e w1 ⟨v,rfl,hown,k1⟩
   obtain ⟨a,cap,rfl⟩:=hown.slice
   have HK:=Qh (((Kept.refl w).alloc _).trans k1)
   clear hown k1 hk
   generalize (whereL B 6).length=N at *
   by_cases hN:N=0
   ·subst hN
    go_wp2
    go_ret
    exact ⟨rfl,HK.out⟩
   ·have hN':((N:Int) == 0)=false:=by simp;omega
    by_cases hs:side<0
    ·go_wp2
     go_ret
     exact ⟨rfl,HK.out⟩
    ·have hs2:1<side:=by omega
     go_wp2
     go_ret
     exact ⟨rfl,HK.out⟩
theorem struck_by (B:List Int) (k side:Int):decide (0<(if okS k && rightB B then zn (byN B k side) else ([]:List Int)).length)=struckB B k side:=by
 unfold struckB
 cases h:okS k && rightB B
 ·simp
 ·obtain ⟨h0,h1⟩:=okS_iff.1 (Bool.and_eq_true _ _ ▸ h).1
  have e:=tell_by B k side h0 h1
  rw [if_pos rfl,Bool.true_and]
  unfold zn
  rw [List.length_map,← e]
  cases tellL B k side <;> simp
set_option maxRecDepth 100000 in
set_option maxHeartbeats 1000000 in
theorem rcheck_is (B:List Int) (hB:Brd B) (side:Int) (hs:side=0∨side=1) (w:World) :
  Calls Tryz.prog 30 #[.agg (cl B).toArray,.int .i64 side] w fun e w'=>e=.returned (.bool (checkB B side))∧Kept w w':=by
 have hz:=Qh (size_cl hB.1)
 have hbl:=Qh (heap_alloc_new w (.cells (cl B).toArray 24))
 have HKg:=Qh (rking_is B hB side)
 have ho:otherI side=1-side:=by rcases hs with rfl|rfl <;> rfl
 have HBy:=Qh (rby_is B hB (kingI B side) (1-side))
 have HE:=Qh (struck_by B (kingI B side) (1-side))
 have hlen:(if okS (kingI B side) && rightB B then zn (byN B (kingI B side) (1-side)) else ([]:List Int)).length≤64:=by
  split
  ·exact zn_len _ 64
  ·simp
 unfold checkB
 rw [ho]
 have hno:kingI B side<0→struckB B (kingI B side) (1-side)=false:=by
  intro h
  unfold struckB
  rw [okS_no (.inl h)]
  rfl
 obtain ⟨kb1,kb2⟩:=kingI_bd B side
 generalize struckB B (kingI B side) (1-side)=sb at *
 generalize (if okS (kingI B side) && rightB B then zn (byN B (kingI B side) (1-side)) else ([]:List Int))=Z at *
 generalize kingI B side=k at *
 clear hB ho
 by_cases hk:k<0
 ·have HN:=Qh (hno hk)
  have hk':¬ 0≤k:=by omega
  clear hno HE HBy
  go_enter Tryz.func30,Tryz.ntmps30
  go_wp2_with (refine wpList_load_w (by rfl) _ rfl _ rfl _ (hbl.out) hz.out ?_)
  refine (HKg.out _).mono ?_
  rintro e w1 ⟨rfl,k1⟩
  have HK:=Qh (((Kept.refl w).alloc _).trans k1)
  clear k1
  go_wp2
  go_ret
  exact ⟨by rw [HN.out];rfl,HK.out⟩
 ·have hk':0≤k:=by omega
  clear hno
  go_enter Tryz.func30,Tryz.ntmps30
  go_wp2_with (refine wpList_load_w (by rfl) _ rfl _ rfl _ (hbl.out) hz.out ?_)
  refine (HKg.out _).mono ?_
  rintro e w1 ⟨rfl,k1⟩
  have HK:=Qh (((Kept.refl w).alloc _).trans k1)
  have hb1:=Qh (k1.heap hbl.out)
  clear k1
  go_wp2_with (refine wpList_load_w (by rfl) _ rfl _ rfl _ (hb1.out) hz.out ?_)
  refine (HBy.out _).mono ?_
  rintro e w2 ⟨v,rfl,hown,k2⟩
  obtain ⟨a,cap,rfl⟩:=hown.slice
  have HK2:=Qh (HK.out.trans k2)
  clear hown k2
  generalize Z.length=N at *
  go_wp2
  go_ret
  exact ⟨by rw [← HE.out];simp,HK2.out⟩
end Go.Proofs.YtlbipjmmlobofaaGreatDoor
