/- MeO · SiI · SiJ · SiK: my texts, in their order. -/
import Derived.Test.YtlbipjmmlobofaaGreatDoorPkA07
import Derived.Test.YtlbipjmmlobofaaGreatDoorPkA14
namespace Go.Proofs.YtlbipjmmlobofaaGreatDoor
open Go.RowKit
set_option linter.unusedVariables false
theorem other_w (w:World):Calls Tryz.prog 46 #[.int .i64 0] w fun e w'=>e=.returned (.int .i64 1)∧w=w':=by
 go_enter Tryz.func46,Tryz.ntmps46
 go_wp2
 go_ret
 exact ⟨rfl,rfl⟩
theorem other_b (w:World):Calls Tryz.prog 46 #[.int .i64 1] w fun e w'=>e=.returned (.int .i64 0)∧w=w':=by
 go_enter Tryz.func46,Tryz.ntmps46
 go_wp2
 go_ret
 exact ⟨rfl,rfl⟩
theorem other_no (s:Int) (w:World) (h0:s≠0) (h1:s≠1):Calls Tryz.prog 46 #[.int .i64 s] w fun e w'=>e=.returned (.int .i64 (-1))∧w=w':=by
 have b0:(s == 0)=false:=beq_eq_false_iff_ne.2 h0
 have b1:(s == 1)=false:=beq_eq_false_iff_ne.2 h1
 clear h0 h1
 go_enter Tryz.func46,Tryz.ntmps46
 go_wp2
 go_ret
 exact ⟨rfl,rfl⟩
set_option linter.unusedSimpArgs false
set_option maxRecDepth 100000
set_option maxHeartbeats 4000000

theorem begI_no {s:Stp} (h:okSt s=false):begI s=-1:=by unfold begI;rw [if_neg (by rw [h];simp)]
theorem begI_is {s:Stp} (h:okSt s=true):begI s=if s.k=6∨(s.k=5∧s.h=false) then 1 else 0:=by unfold begI;rw [if_pos h]
theorem begins_q (s:Stp) (w:World):Calls Tryz.prog 48 #[qv s] w fun e w'=>e=.returned (.int .i64 (begI s))∧Kept w w':=by
 have HW:=Qh (TAt.new w s)
 have HK:=Qh ((Kept.refl w).alloc (.cells (ql s).toArray 28))
 obtain ⟨k,g,n,h⟩:=s
 unfold qv
 unfold ql at HK
 dsimp only at HK ⊢
 have HR:=Qh (right_is ⟨k,g,n,h⟩)
 obtain ⟨b,hb⟩:∃ b,okSt ⟨k,g,n,h⟩=b:=⟨_,rfl⟩
 have HB:=Qh hb
 cases b
 ·have HE:=Qh (begI_no hb)
  clear hb
  go_enter Tryz.func48,Tryz.ntmps48
  go_wp2_with (refine wpList_load_q (by rfl) _ rfl _ 0 rfl ⟨k,g,n,h⟩ HW.out.range ?_)
  refine (HR.out _).mono ?_
  rw [HB.out]
  rintro e w2 ⟨rfl,g2⟩
  have HK2:=Qh (HK.out.trans g2)
  clear g2
  go_wp2
  go_ret
  exact ⟨by rw [HE.out];first|done|rfl,HK2.out⟩
 ·have he:=begI_is hb
  dsimp only at he
  clear hb
  by_cases h6:k=6
  ·have HE:=Qh (he.trans (if_pos (.inl h6)))
   have b6:(k == 6)=true:=beq_iff_eq.2 h6
   clear he h6
   go_enter Tryz.func48,Tryz.ntmps48
   go_wp2_with (refine wpList_load_q (by rfl) _ rfl _ 0 rfl ⟨k,g,n,h⟩ HW.out.range ?_)
   refine (HR.out _).mono ?_
   rw [HB.out]
   rintro e w2 ⟨rfl,g2⟩
   have HK2:=Qh (HK.out.trans g2)
   have hk:=(HW.out.kept g2).k
   clear g2
   go_wp2
   go_ret
   exact ⟨by rw [HE.out];first|done|rfl,HK2.out⟩
  ·have b6:(k == 6)=false:=beq_eq_false_iff_ne.2 h6
   by_cases h5:k=5
   ·have b5:(k == 5)=true:=beq_iff_eq.2 h5
    cases h
    ·have HE:=Qh (he.trans (if_pos (.inr ⟨h5,rfl⟩)))
     clear he h6 h5
     go_enter Tryz.func48,Tryz.ntmps48
     go_wp2_with (refine wpList_load_q (by rfl) _ rfl _ 0 rfl ⟨k,g,n,false⟩ HW.out.range ?_)
     refine (HR.out _).mono ?_
     rw [HB.out]
     rintro e w2 ⟨rfl,g2⟩
     have HK2:=Qh (HK.out.trans g2)
     have hk:=(HW.out.kept g2).k
     have hh:=(HW.out.kept g2).h
     clear g2
     go_wp2
     go_ret
     exact ⟨by rw [HE.out];first|done|rfl,HK2.out⟩
    ·have HE:=Qh (he.trans (if_neg (fun x=>x.elim h6 (fun y=>absurd y.2 (by simp)))))
     clear he h6 h5
     go_enter Tryz.func48,Tryz.ntmps48
     go_wp2_with (refine wpList_load_q (by rfl) _ rfl _ 0 rfl ⟨k,g,n,true⟩ HW.out.range ?_)
     refine (HR.out _).mono ?_
     rw [HB.out]
     rintro e w2 ⟨rfl,g2⟩
     have HK2:=Qh (HK.out.trans g2)
     have hk:=(HW.out.kept g2).k
     have hh:=(HW.out.kept g2).h
     clear g2
     go_wp2
     go_ret
     exact ⟨by rw [HE.out];first|done|rfl,HK2.out⟩
   ·have b5:(k == 5)=false:=beq_eq_false_iff_ne.2 h5
    have HE:=Qh (he.trans (if_neg (fun x=>x.elim h6 (fun y=>h5 y.1))))
    clear he h6 h5
    go_enter Tryz.func48,Tryz.ntmps48
    go_wp2_with (refine wpList_load_q (by rfl) _ rfl _ 0 rfl ⟨k,g,n,h⟩ HW.out.range ?_)
    refine (HR.out _).mono ?_
    rw [HB.out]
    rintro e w2 ⟨rfl,g2⟩
    have HK2:=Qh (HK.out.trans g2)
    have hk:=(HW.out.kept g2).k
    clear g2
    go_wp2
    go_ret
    exact ⟨by rw [HE.out];first|done|rfl,HK2.out⟩
set_option maxHeartbeats 4000000

theorem other_side (f:Int) (h:f=0∨f=1) (w:World):Calls Tryz.prog 46 #[.int .i64 f] w fun e w'=>e=.returned (.int .i64 (1-f))∧w=w':=by
 rcases h with rfl|rfl
 ·exact other_w w
 ·exact other_b w
set_option maxHeartbeats 4000000

theorem okS_tt (k g n:Int):okSt ⟨k,g,n,true⟩=true↔((k=8∧g=0)∨((1≤k∧k≤7)∧(1≤g∧g≤2)))∧(k=5∧0≤n∧n≤64):=by
 unfold okSt
 rw [Bool.and_eq_true,okG_t,okN_t]
 simp only [Bool.and_eq_true,decide_eq_true_eq]
theorem okS_tf (k g n:Int):okSt ⟨k,g,n,false⟩=true↔((k=8∧g=0)∨((1≤k∧k≤7)∧(1≤g∧g≤2)))∧(0<n∧n≤64):=by
 unfold okSt
 rw [Bool.and_eq_true,okG_t,okN_n]
 simp only [Bool.and_eq_true,decide_eq_true_eq]
theorem okS_ft (k g n:Int):okSt ⟨k,g,n,true⟩=false↔¬ (((k=8∧g=0)∨((1≤k∧k≤7)∧(1≤g∧g≤2)))∧(k=5∧0≤n∧n≤64)):=by rw [← okS_tt,Bool.not_eq_true]
theorem okS_ff (k g n:Int):okSt ⟨k,g,n,false⟩=false↔¬ (((k=8∧g=0)∨((1≤k∧k≤7)∧(1≤g∧g≤2)))∧(0<n∧n≤64)):=by rw [← okS_tf,Bool.not_eq_true]
theorem rright_q (s:Stp) (w:World):Calls Tryz.prog 55 #[qv s] w fun e w'=>e=.returned (.bool (okSt s))∧Kept w w':=by
 have HK:=Qh ((Kept.refl w).alloc (.cells (ql s).toArray 28))
 obtain ⟨k,g,n,h⟩:=s
 unfold qv
 unfold ql at HK
 dsimp only at HK ⊢
 cases h
 ·skip
  by_cases h0:k<1
  ·skip
   have HE:=Qh (show okSt ⟨k,g,n,false⟩=false by rw [okS_ff];omega)
   go_enter Tryz.func55,Tryz.ntmps55
   go_wp2
   go_ret
   exact ⟨by rw [HE.out];first|done|rfl|go_num,HK.out⟩
  ·skip
   by_cases h1:8<k
   ·skip
    have HE:=Qh (show okSt ⟨k,g,n,false⟩=false by rw [okS_ff];omega)
    go_enter Tryz.func55,Tryz.ntmps55
    go_wp2
    go_ret
    exact ⟨by rw [HE.out];first|done|rfl|go_num,HK.out⟩
   ·skip
    by_cases h2:n<0
    ·skip
     have HE:=Qh (show okSt ⟨k,g,n,false⟩=false by rw [okS_ff];omega)
     go_enter Tryz.func55,Tryz.ntmps55
     go_wp2
     go_ret
     exact ⟨by rw [HE.out];first|done|rfl|go_num,HK.out⟩
    ·skip
     by_cases h3:64<n
     ·skip
      have HE:=Qh (show okSt ⟨k,g,n,false⟩=false by rw [okS_ff];omega)
      go_enter Tryz.func55,Tryz.ntmps55
      go_wp2
      go_ret
      exact ⟨by rw [HE.out];first|done|rfl|go_num,HK.out⟩
     ·skip
      by_cases h4:k=8
      ·have bh4:(k == 8)=true:=beq_iff_eq.2 h4
       by_cases h5:g=0
       ·have bh5:(g == 0)=true:=beq_iff_eq.2 h5
        have nh5:(g != 0)=false:=by rw [bne_eq_false_iff_eq];exact h5
        by_cases h6:0<n
        ·skip
         have HE:=Qh (show okSt ⟨k,g,n,false⟩=true by rw [okS_tf];omega)
         clear h4 h5
         go_enter Tryz.func55,Tryz.ntmps55
         go_wp2
         go_ret
         exact ⟨by rw [HE.out];first|done|rfl|go_num,HK.out⟩
        ·skip
         have HE:=Qh (show okSt ⟨k,g,n,false⟩=false by rw [okS_ff];omega)
         clear h4 h5
         go_enter Tryz.func55,Tryz.ntmps55
         go_wp2
         go_ret
         exact ⟨by rw [HE.out];first|done|rfl|go_num,HK.out⟩
       ·have bh5:(g == 0)=false:=beq_eq_false_iff_ne.2 h5
        have nh5:(g != 0)=true:=bne_iff_ne.2 h5
        have HE:=Qh (show okSt ⟨k,g,n,false⟩=false by rw [okS_ff];omega)
        clear h4 h5
        go_enter Tryz.func55,Tryz.ntmps55
        go_wp2
        go_ret
        exact ⟨by rw [HE.out];first|done|rfl|go_num,HK.out⟩
      ·have bh4:(k == 8)=false:=beq_eq_false_iff_ne.2 h4
       by_cases h5:g=1
       ·have bh5:(g == 1)=true:=beq_iff_eq.2 h5
        have nh5:(g != 1)=false:=by rw [bne_eq_false_iff_eq];exact h5
        by_cases h6:0<n
        ·skip
         have HE:=Qh (show okSt ⟨k,g,n,false⟩=true by rw [okS_tf];omega)
         clear h4 h5
         go_enter Tryz.func55,Tryz.ntmps55
         go_wp2
         go_ret
         exact ⟨by rw [HE.out];first|done|rfl|go_num,HK.out⟩
        ·skip
         have HE:=Qh (show okSt ⟨k,g,n,false⟩=false by rw [okS_ff];omega)
         clear h4 h5
         go_enter Tryz.func55,Tryz.ntmps55
         go_wp2
         go_ret
         exact ⟨by rw [HE.out];first|done|rfl|go_num,HK.out⟩
       ·have bh5:(g == 1)=false:=beq_eq_false_iff_ne.2 h5
        have nh5:(g != 1)=true:=bne_iff_ne.2 h5
        by_cases h6:g=2
        ·have bh6:(g == 2)=true:=beq_iff_eq.2 h6
         have nh6:(g != 2)=false:=by rw [bne_eq_false_iff_eq];exact h6
         by_cases h7:0<n
         ·skip
          have HE:=Qh (show okSt ⟨k,g,n,false⟩=true by rw [okS_tf];omega)
          clear h4 h5 h6
          go_enter Tryz.func55,Tryz.ntmps55
          go_wp2
          go_ret
          exact ⟨by rw [HE.out];first|done|rfl|go_num,HK.out⟩
         ·skip
          have HE:=Qh (show okSt ⟨k,g,n,false⟩=false by rw [okS_ff];omega)
          clear h4 h5 h6
          go_enter Tryz.func55,Tryz.ntmps55
          go_wp2
          go_ret
          exact ⟨by rw [HE.out];first|done|rfl|go_num,HK.out⟩
        ·have bh6:(g == 2)=false:=beq_eq_false_iff_ne.2 h6
         have nh6:(g != 2)=true:=bne_iff_ne.2 h6
         have HE:=Qh (show okSt ⟨k,g,n,false⟩=false by rw [okS_ff];omega)
         clear h4 h5 h6
         go_enter Tryz.func55,Tryz.ntmps55
         go_wp2
         go_ret
         exact ⟨by rw [HE.out];first|done|rfl|go_num,HK.out⟩
 ·skip
  by_cases h0:k<1
  ·skip
   have HE:=Qh (show okSt ⟨k,g,n,true⟩=false by rw [okS_ft];omega)
   go_enter Tryz.func55,Tryz.ntmps55
   go_wp2
   go_ret
   exact ⟨by rw [HE.out];first|done|rfl|go_num,HK.out⟩
  ·skip
   by_cases h1:8<k
   ·skip
    have HE:=Qh (show okSt ⟨k,g,n,true⟩=false by rw [okS_ft];omega)
    go_enter Tryz.func55,Tryz.ntmps55
    go_wp2
    go_ret
    exact ⟨by rw [HE.out];first|done|rfl|go_num,HK.out⟩
   ·skip
    by_cases h2:n<0
    ·skip
     have HE:=Qh (show okSt ⟨k,g,n,true⟩=false by rw [okS_ft];omega)
     go_enter Tryz.func55,Tryz.ntmps55
     go_wp2
     go_ret
     exact ⟨by rw [HE.out];first|done|rfl|go_num,HK.out⟩
    ·skip
     by_cases h3:64<n
     ·skip
      have HE:=Qh (show okSt ⟨k,g,n,true⟩=false by rw [okS_ft];omega)
      go_enter Tryz.func55,Tryz.ntmps55
      go_wp2
      go_ret
      exact ⟨by rw [HE.out];first|done|rfl|go_num,HK.out⟩
     ·skip
      by_cases h4:k=8
      ·have bh4:(k == 8)=true:=beq_iff_eq.2 h4
       by_cases h5:g=0
       ·have bh5:(g == 0)=true:=beq_iff_eq.2 h5
        have nh5:(g != 0)=false:=by rw [bne_eq_false_iff_eq];exact h5
        by_cases h6:0<n
        ·skip
         have HE:=Qh (show okSt ⟨k,g,n,true⟩=false by rw [okS_ft];omega)
         clear h4 h5
         go_enter Tryz.func55,Tryz.ntmps55
         go_wp2
         go_ret
         exact ⟨by rw [HE.out];first|done|rfl|go_num,HK.out⟩
        ·skip
         have HE:=Qh (show okSt ⟨k,g,n,true⟩=false by rw [okS_ft];omega)
         clear h4 h5
         go_enter Tryz.func55,Tryz.ntmps55
         go_wp2
         go_ret
         exact ⟨by rw [HE.out];first|done|rfl|go_num,HK.out⟩
       ·have bh5:(g == 0)=false:=beq_eq_false_iff_ne.2 h5
        have nh5:(g != 0)=true:=bne_iff_ne.2 h5
        have HE:=Qh (show okSt ⟨k,g,n,true⟩=false by rw [okS_ft];omega)
        clear h4 h5
        go_enter Tryz.func55,Tryz.ntmps55
        go_wp2
        go_ret
        exact ⟨by rw [HE.out];first|done|rfl|go_num,HK.out⟩
      ·have bh4:(k == 8)=false:=beq_eq_false_iff_ne.2 h4
       by_cases h5:g=1
       ·have bh5:(g == 1)=true:=beq_iff_eq.2 h5
        have nh5:(g != 1)=false:=by rw [bne_eq_false_iff_eq];exact h5
        by_cases h6:k=5
        ·have bh6:(k == 5)=true:=beq_iff_eq.2 h6
         have HE:=Qh (show okSt ⟨k,g,n,true⟩=true by rw [okS_tt];omega)
         clear h4 h5 h6
         go_enter Tryz.func55,Tryz.ntmps55
         go_wp2
         go_ret
         exact ⟨by rw [HE.out];first|done|rfl|go_num,HK.out⟩
        ·have bh6:(k == 5)=false:=beq_eq_false_iff_ne.2 h6
         have HE:=Qh (show okSt ⟨k,g,n,true⟩=false by rw [okS_ft];omega)
         clear h4 h5 h6
         go_enter Tryz.func55,Tryz.ntmps55
         go_wp2
         go_ret
         exact ⟨by rw [HE.out];first|done|rfl|go_num,HK.out⟩
       ·have bh5:(g == 1)=false:=beq_eq_false_iff_ne.2 h5
        have nh5:(g != 1)=true:=bne_iff_ne.2 h5
        by_cases h6:g=2
        ·have bh6:(g == 2)=true:=beq_iff_eq.2 h6
         have nh6:(g != 2)=false:=by rw [bne_eq_false_iff_eq];exact h6
         by_cases h7:k=5
         ·have bh7:(k == 5)=true:=beq_iff_eq.2 h7
          have HE:=Qh (show okSt ⟨k,g,n,true⟩=true by rw [okS_tt];omega)
          clear h4 h5 h6 h7
          go_enter Tryz.func55,Tryz.ntmps55
          go_wp2
          go_ret
          exact ⟨by rw [HE.out];first|done|rfl|go_num,HK.out⟩
         ·have bh7:(k == 5)=false:=beq_eq_false_iff_ne.2 h7
          have HE:=Qh (show okSt ⟨k,g,n,true⟩=false by rw [okS_ft];omega)
          clear h4 h5 h6 h7
          go_enter Tryz.func55,Tryz.ntmps55
          go_wp2
          go_ret
          exact ⟨by rw [HE.out];first|done|rfl|go_num,HK.out⟩
        ·have bh6:(g == 2)=false:=beq_eq_false_iff_ne.2 h6
         have nh6:(g != 2)=true:=bne_iff_ne.2 h6
         have HE:=Qh (show okSt ⟨k,g,n,true⟩=false by rw [okS_ft];omega)
         clear h4 h5 h6
         go_enter Tryz.func55,Tryz.ntmps55
         go_wp2
         go_ret
         exact ⟨by rw [HE.out];first|done|rfl|go_num,HK.out⟩
theorem rbegins_q (s:Stp) (hs:okSt s=true) (w:World):Calls Tryz.prog 22 #[qv s] w fun e w'=>e=.returned (.int .i64 (begI s))∧Kept w w':=by
 have HK:=Qh ((Kept.refl w).alloc (.cells (ql s).toArray 28))
 have he:=begI_is hs
 clear hs
 obtain ⟨k,g,n,h⟩:=s
 unfold qv
 unfold ql at HK
 dsimp only at HK he ⊢
 cases h
 ·skip
  by_cases h0:k=6
  ·have bh0:(k == 6)=true:=beq_iff_eq.2 h0
   have HE:=Qh (he.trans (if_pos (.inl h0)))
   clear he h0
   go_enter Tryz.func22,Tryz.ntmps22
   go_wp2
   go_ret
   exact ⟨by rw [HE.out];first|done|rfl|go_num,HK.out⟩
  ·have bh0:(k == 6)=false:=beq_eq_false_iff_ne.2 h0
   by_cases h1:k=5
   ·have bh1:(k == 5)=true:=beq_iff_eq.2 h1
    have HE:=Qh (he.trans (if_pos (.inr ⟨h1,rfl⟩)))
    clear he h0 h1
    go_enter Tryz.func22,Tryz.ntmps22
    go_wp2
    go_ret
    exact ⟨by rw [HE.out];first|done|rfl|go_num,HK.out⟩
   ·have bh1:(k == 5)=false:=beq_eq_false_iff_ne.2 h1
    have HE:=Qh (he.trans (if_neg (fun x=>x.elim h0 (fun y=>h1 y.1))))
    clear he h0 h1
    go_enter Tryz.func22,Tryz.ntmps22
    go_wp2
    go_ret
    exact ⟨by rw [HE.out];first|done|rfl|go_num,HK.out⟩
 ·skip
  by_cases h0:k=6
  ·have bh0:(k == 6)=true:=beq_iff_eq.2 h0
   have HE:=Qh (he.trans (if_pos (.inl h0)))
   clear he h0
   go_enter Tryz.func22,Tryz.ntmps22
   go_wp2
   go_ret
   exact ⟨by rw [HE.out];first|done|rfl|go_num,HK.out⟩
  ·have bh0:(k == 6)=false:=beq_eq_false_iff_ne.2 h0
   by_cases h1:k=5
   ·have bh1:(k == 5)=true:=beq_iff_eq.2 h1
    have HE:=Qh (he.trans (if_neg (fun x=>x.elim h0 (fun y=>absurd y.2 (by simp)))))
    clear he h0 h1
    go_enter Tryz.func22,Tryz.ntmps22
    go_wp2
    go_ret
    exact ⟨by rw [HE.out];first|done|rfl|go_num,HK.out⟩
   ·have bh1:(k == 5)=false:=beq_eq_false_iff_ne.2 h1
    have HE:=Qh (he.trans (if_neg (fun x=>x.elim h0 (fun y=>h1 y.1))))
    clear he h0 h1
    go_enter Tryz.func22,Tryz.ntmps22
    go_wp2
    go_ret
    exact ⟨by rw [HE.out];first|done|rfl|go_num,HK.out⟩
theorem rkT_is (k:Int) (w:World):Calls Tryz.prog 56 #[.int .i64 k] w fun e w'=>e=.returned (.string (kT k))∧Kept w w':=by
 by_cases h0:k=2
 ·have bh0:(k == 2)=true:=beq_iff_eq.2 h0
  have HE:=Qh (show kT k=⟨#[115]⟩ by unfold kT;rw [if_pos h0])
  clear h0
  go_enter Tryz.func56,Tryz.ntmps56
  go_wp2
  go_ret
  exact ⟨by rw [HE.out];first|done|rfl|go_num,Kept.refl _⟩
 ·have bh0:(k == 2)=false:=beq_eq_false_iff_ne.2 h0
  by_cases h1:k=3
  ·have bh1:(k == 3)=true:=beq_iff_eq.2 h1
   have HE:=Qh (show kT k=⟨#[114]⟩ by unfold kT;rw [if_neg h0,if_pos h1])
   clear h0 h1
   go_enter Tryz.func56,Tryz.ntmps56
   go_wp2
   go_ret
   exact ⟨by rw [HE.out];first|done|rfl|go_num,Kept.refl _⟩
  ·have bh1:(k == 3)=false:=beq_eq_false_iff_ne.2 h1
   by_cases h2:k=4
   ·have bh2:(k == 4)=true:=beq_iff_eq.2 h2
    have HE:=Qh (show kT k=⟨#[115,101,109,105,45,114]⟩ by unfold kT;rw [if_neg h0,if_neg h1,if_pos h2])
    clear h0 h1 h2
    go_enter Tryz.func56,Tryz.ntmps56
    go_wp2
    go_ret
    exact ⟨by rw [HE.out];first|done|rfl|go_num,Kept.refl _⟩
   ·have bh2:(k == 4)=false:=beq_eq_false_iff_ne.2 h2
    by_cases h3:k=5
    ·have bh3:(k == 5)=true:=beq_iff_eq.2 h3
     have HE:=Qh (show kT k=⟨#[104]⟩ by unfold kT;rw [if_neg h0,if_neg h1,if_neg h2,if_pos h3])
     clear h0 h1 h2 h3
     go_enter Tryz.func56,Tryz.ntmps56
     go_wp2
     go_ret
     exact ⟨by rw [HE.out];first|done|rfl|go_num,Kept.refl _⟩
    ·have bh3:(k == 5)=false:=beq_eq_false_iff_ne.2 h3
     by_cases h4:k=6
     ·have bh4:(k == 6)=true:=beq_iff_eq.2 h4
      have HE:=Qh (show kT k=⟨#[115,101,114,45,104]⟩ by unfold kT;rw [if_neg h0,if_neg h1,if_neg h2,if_neg h3,if_pos h4])
      clear h0 h1 h2 h3 h4
      go_enter Tryz.func56,Tryz.ntmps56
      go_wp2
      go_ret
      exact ⟨by rw [HE.out];first|done|rfl|go_num,Kept.refl _⟩
     ·have bh4:(k == 6)=false:=beq_eq_false_iff_ne.2 h4
      by_cases h5:k=7
      ·have bh5:(k == 7)=true:=beq_iff_eq.2 h5
       have HE:=Qh (show kT k=⟨#[115,101,114,45]⟩ by unfold kT;rw [if_neg h0,if_neg h1,if_neg h2,if_neg h3,if_neg h4,if_pos h5])
       clear h0 h1 h2 h3 h4 h5
       go_enter Tryz.func56,Tryz.ntmps56
       go_wp2
       go_ret
       exact ⟨by rw [HE.out];first|done|rfl|go_num,Kept.refl _⟩
      ·have bh5:(k == 7)=false:=beq_eq_false_iff_ne.2 h5
       by_cases h6:k=8
       ·have bh6:(k == 8)=true:=beq_iff_eq.2 h6
        have HE:=Qh (show kT k=⟨#[100,105,97,32]⟩ by unfold kT;rw [if_neg h0,if_neg h1,if_neg h2,if_neg h3,if_neg h4,if_neg h5,if_pos h6])
        clear h0 h1 h2 h3 h4 h5 h6
        go_enter Tryz.func56,Tryz.ntmps56
        go_wp2
        go_ret
        exact ⟨by rw [HE.out];first|done|rfl|go_num,Kept.refl _⟩
       ·have bh6:(k == 8)=false:=beq_eq_false_iff_ne.2 h6
        have HE:=Qh (show kT k=⟨#[]⟩ by unfold kT;rw [if_neg h0,if_neg h1,if_neg h2,if_neg h3,if_neg h4,if_neg h5,if_neg h6])
        clear h0 h1 h2 h3 h4 h5 h6
        go_enter Tryz.func56,Tryz.ntmps56
        go_wp2
        go_ret
        exact ⟨by rw [HE.out];first|done|rfl|go_num,Kept.refl _⟩
theorem rgT_is (g:Int) (w:World):Calls Tryz.prog 57 #[.int .i64 g] w fun e w'=>e=.returned (.string (gT g))∧Kept w w':=by
 by_cases h0:g=1
 ·have bh0:(g == 1)=true:=beq_iff_eq.2 h0
  have nh0:(g != 1)=false:=by rw [bne_eq_false_iff_eq];exact h0
  have HE:=Qh (show gT g=⟨#[35]⟩ by unfold gT;rw [if_pos h0])
  clear h0
  go_enter Tryz.func57,Tryz.ntmps57
  go_wp2
  go_ret
  exact ⟨by rw [HE.out];first|done|rfl|go_num,Kept.refl _⟩
 ·have bh0:(g == 1)=false:=beq_eq_false_iff_ne.2 h0
  have nh0:(g != 1)=true:=bne_iff_ne.2 h0
  by_cases h1:g=2
  ·have bh1:(g == 2)=true:=beq_iff_eq.2 h1
   have nh1:(g != 2)=false:=by rw [bne_eq_false_iff_eq];exact h1
   have HE:=Qh (show gT g=⟨#[61]⟩ by unfold gT;rw [if_neg h0,if_pos h1])
   clear h0 h1
   go_enter Tryz.func57,Tryz.ntmps57
   go_wp2
   go_ret
   exact ⟨by rw [HE.out];first|done|rfl|go_num,Kept.refl _⟩
  ·have bh1:(g == 2)=false:=beq_eq_false_iff_ne.2 h1
   have nh1:(g != 2)=true:=bne_iff_ne.2 h1
   have HE:=Qh (show gT g=⟨#[]⟩ by unfold gT;rw [if_neg h0,if_neg h1])
   clear h0 h1
   go_enter Tryz.func57,Tryz.ntmps57
   go_wp2
   go_ret
   exact ⟨by rw [HE.out];first|done|rfl|go_num,Kept.refl _⟩
end Go.Proofs.YtlbipjmmlobofaaGreatDoor
