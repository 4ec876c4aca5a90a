/- LxK · SiB · SiC · SiD: my texts, in their order. -/
import Derived.Test.YtlbipjmmlobofaaGreatDoorPkA03
namespace Go.Proofs.YtlbipjmmlobofaaGreatDoor
open Go.RowKit
set_option linter.unusedVariables false
set_option linter.unusedSimpArgs false
set_option maxRecDepth 100000
set_option maxHeartbeats 4000000

theorem oneGo_yes {z:Nat} {i:Int} {M:List UInt8} {w:ByteArray} {ws:List ByteArray} {k far:Nat} (h:cmn M (bs w)=w.size):oneGo z i M (w::ws) k far=⟨i+cmn M (bs w),k,0⟩:=by
 simp only [oneGo];rw [if_pos h]
theorem oneGo_no {z:Nat} {i:Int} {M:List UInt8} {w:ByteArray} {ws:List ByteArray} {k far:Nat} (h:¬ cmn M (bs w)=w.size):oneGo z i M (w::ws) k far=oneGo z i M ws (k+1) (max far (cmn M (bs w))):=by
 simp only [oneGo];rw [if_neg h]
theorem oneGo_end (z:Nat) (i:Int) (M:List UInt8) (k far:Nat):oneGo z i M [] k far=stk z (i+far):=rfl
theorem dropT {ws:List ByteArray} {k:Nat} {x:ByteArray} (h:ws[k]?=some x):ws.drop k=x::ws.drop (k+1):=by
 obtain ⟨l1,e1⟩:=List.getElem?_eq_some_iff.1 h
 rw [List.drop_eq_getElem_cons l1,e1]
theorem oneP_no {t:ByteArray} {ws:List ByteArray} {i:Int} (h:¬ (inB t i=true∧apB ws=true)):oneP t ws i=argS:=by unfold oneP;rw [if_neg h]
theorem oneP_yes {t:ByteArray} {ws:List ByteArray} {m:Nat} (h:inB t m=true) (h2:apB ws=true):oneP t ws m=oneGo t.size m ((bs t).drop m) ws 0 0:=by unfold oneP;rw [if_pos ⟨h,h2⟩];rfl
theorem oneOf_is (t:ByteArray) (i:Int) (ws:List ByteArray) (v:Value) (w:World) (hv:LsT w v ws) (ht:t.size≤1000) (hn:ws.length≤20) (hw:∀ (j:Nat) (x:ByteArray),ws[j]?=some x→x.size≤1000) :
  Calls Tryz.prog 73 #[.string t,.int .i64 i,v] w fun e w'=>e=.returned (sv (oneP t ws i))∧Kept w w':=by
 obtain ⟨a,cap,rfl⟩:=hv.slice
 have HV:=Qh hv
 have HW:=Qh hw
 have HS:=Qh (SAt.new w Zs)
 have HI:=Qh (lwithin_is t i)
 have HA:Hid (∀ w1,Kept w w1→Calls Tryz.prog 104 #[.slice a ws.length cap] w1 fun e w'=>e=.returned (.bool (apB ws))∧Kept w1 w'):=fun w1 k=>apart_is ws _ w1 (HV.out.kept k) hn
 clear hv hw
 cases hb:inB t i with
 | false =>
  rw [hb] at HI
  have HE:=Qh (oneP_no (t:=t) (ws:=ws) (i:=i) (by rw [hb];simp))
  clear hb
  go_enter Tryz.func73,Tryz.ntmps73
  go_wp2_with (with_reducible refine wpList_new_sp rfl rfl ?_)
  refine (HI.out _).mono ?_
  rintro e w1 ⟨rfl,rfl⟩
  go_wp2_with fail
  refine (refused_is _).mono ?_
  rintro e w2 ⟨rfl,k2⟩
  have H2:=Qh (HS.out.kept k2)
  have K2:=Qh (((Kept.refl w).alloc _).trans k2)
  clear k2
  go_wp2_with (refine wpList_store_sp rfl _ _ rfl w.heap.size Zs argS H2.out rfl rfl ?_)
  refine bodyPost_ret (v:=sv argS) ?_ rfl ⟨by rw [HE.out],K2.out.setRow (by omega) _⟩
  exact (ret_sp rfl H2.out rfl).trans rfl
 | true =>
  rw [hb] at HI
  cases hb2:apB ws with
  | false =>
   have HA2:Hid (∀ w1,Kept w w1→Calls Tryz.prog 104 #[.slice a ws.length cap] w1 fun e w'=>e=.returned (.bool false)∧Kept w1 w'):=by
    intro w1 k
    have:=HA.out w1 k
    rw [hb2] at this
    exact this
   have HE:=Qh (oneP_no (t:=t) (ws:=ws) (i:=i) (by rw [hb2];simp))
   clear hb hb2 HA
   go_enter Tryz.func73,Tryz.ntmps73
   go_wp2_with (with_reducible refine wpList_new_sp rfl rfl ?_)
   refine (HI.out _).mono ?_
   rintro e w1 ⟨rfl,rfl⟩
   go_wp2_with fail
   refine (HA2.out _ ((Kept.refl w).alloc _)).mono ?_
   rintro e w1 ⟨rfl,k1⟩
   have H1:=Qh (HS.out.kept k1)
   have K1:=Qh (((Kept.refl w).alloc _).trans k1)
   clear k1
   go_wp2_with fail
   refine (refused_is _).mono ?_
   rintro e w2 ⟨rfl,k2⟩
   have H2:=Qh (H1.out.kept k2)
   have K2:=Qh (K1.out.trans k2)
   clear k2
   go_wp2_with (refine wpList_store_sp rfl _ _ rfl w.heap.size Zs argS H2.out rfl rfl ?_)
   refine bodyPost_ret (v:=sv argS) ?_ rfl ⟨by rw [HE.out],K2.out.setRow (by omega) _⟩
   exact (ret_sp rfl H2.out rfl).trans rfl
  | true =>
   have HA2:Hid (∀ w1,Kept w w1→Calls Tryz.prog 104 #[.slice a ws.length cap] w1 fun e w'=>e=.returned (.bool true)∧Kept w1 w'):=by
    intro w1 k
    have:=HA.out w1 k
    rw [hb2] at this
    exact this
   obtain ⟨m,rfl,hm⟩:=inB_yes hb
   have HG0:=Qh (oneP_yes hb hb2)
   have HQ:=Qh (stuck_is t)
   obtain ⟨s,hs⟩:∃ s,t.extract m t.size=s:=⟨_,rfl⟩
   have hsl:=lrun_rest t m hm s hs
   have HC:Hid (∀ v:ByteArray,v.size≤1000→∀ w,Calls Tryz.prog 71 #[.string s,.string v] w fun e w'=>e=.returned (.int .i64 (cmn ((bs t).drop m) (bs v):Nat))∧Kept w w'):=by
    intro v hv w
    rw [← hs]
    exact common_at t v m hm ht hv w
   have HR:Hid (∀ v:ByteArray,cmn ((bs t).drop m) (bs v)≤v.size∧m+cmn ((bs t).drop m) (bs v)≤t.size):=fun v=>cmn_room t v m hm
   generalize (bs t).drop m=M at *
   generalize oneP t ws m=G at *
   clear hb hb2 HA hs
   go_enter Tryz.func73,Tryz.ntmps73
   go_wp2_with (with_reducible refine wpList_new_sp rfl rfl ?_)
   refine (HI.out _).mono ?_
   rintro e w1 ⟨rfl,rfl⟩
   go_wp2_with fail
   refine (HA2.out _ ((Kept.refl w).alloc _)).mono ?_
   rintro e w1 ⟨rfl,k1⟩
   have H1:=Qh (HS.out.kept k1)
   have K1:=Qh (((Kept.refl w).alloc _).trans k1)
   clear k1
   go_wp2
   go_loopw [7,23] (fun t7 t23 wr=>∃ k far:Nat,t7=.int .i64 far∧t23=.int .i64 k∧k≤ws.length∧m+far≤t.size∧G=oneGo t.size m M (ws.drop k) k far∧SAt wr w.heap.size Zs∧Kept w wr) (fun _ t23 _=>20-(intOf t23).toNat)
   case atStart=>exact ⟨0,0,rfl,rfl,by omega,by omega,HG0.out,H1.out,K1.out⟩
   case round =>
    obtain ⟨k,far,rfl,rfl,hk,hfar,hG,hS,hK⟩:=hrel
    have HG:=Qh hG
    have HSr:=Qh hS
    have HK:=Qh hK
    clear hG hS hK
    by_cases hlt:k<ws.length
    ·have HWr:=Qh (HV.out.kept HK.out)
     obtain ⟨g,off,cap',ea,hg,hcap,hcell⟩:=HWr.out.at_ (by omega)
     obtain ⟨rfl,rfl⟩:a=some ⟨g,off,none⟩∧cap=cap':=by simpa using ea
     obtain ⟨x,hx⟩:∃ x,ws[k]?=some x:=⟨_,List.getElem?_eq_getElem hlt⟩
     have hcx:=hcell k x hx
     have hxs:=HW.out k x hx
     have HD:=Qh (dropT hx)
     have hr:=HR.out x
     have HCx:=Qh (HC.out x hxs)
     clear ea hcell hx
     have HG1:=Qh (show G=oneGo t.size m M (x::ws.drop (k+1)) k far by rw [HG.out,HD.out])
     by_cases hc:cmn M (bs x)=x.size
     ·have HE:=Qh (HG1.out.trans (oneGo_yes hc))
      generalize cmn M (bs x)=n at *
      have hb:((n:Int) == (x.size:Int))=true:=beq_iff_eq.2 (by omega)
      clear hc
      go_wp2_with fail
      refine (HCx.out _).mono ?_
      rintro e w3 ⟨rfl,k3⟩
      have H3:=Qh (HSr.out.kept k3)
      have K3:=Qh (HK.out.trans k3)
      clear k3
      go_wp2_with (first|(refine wpList_bt_sn rfl _ _ rfl ((m:Int)+n) k rfl rfl ?_)|(refine wpList_store_sp rfl _ _ rfl w.heap.size Zs ⟨(m:Int)+n,k,0⟩ H3.out rfl rfl ?_))
      refine bodyPost_ret (v:=sv ⟨(m:Int)+n,k,0⟩) ?_ rfl ⟨by rw [HE.out],K3.out.setRow (by omega) _⟩
      exact (ret_sp rfl H3.out rfl).trans rfl
     ·have HE:=Qh (HG1.out.trans (oneGo_no hc))
      generalize cmn M (bs x)=n at *
      have hb:((n:Int) == (x.size:Int))=false:=beq_eq_false_iff_ne.2 (by omega)
      clear hc
      rcases Nat.lt_or_ge far n with hmx|hmx
      ·have HE2:=Qh (show G=oneGo t.size m M (ws.drop (k+1)) (k+1) n by rw [HE.out,Nat.max_eq_right (by omega)])
       go_wp2_with fail
       refine (HCx.out _).mono ?_
       rintro e w3 ⟨rfl,k3⟩
       have H3:=Qh (HSr.out.kept k3)
       have K3:=Qh (HK.out.trans k3)
       clear k3
       go_wp2
       go_roundw
       case rel=>exact ⟨k+1,n,by rw [show max (far:Int) (n:Int)=n by omega],by go_num,by omega,by omega,HE2.out,H3.out,K3.out⟩
       case measure=>simp [intOf];omega
      ·have HE2:=Qh (show G=oneGo t.size m M (ws.drop (k+1)) (k+1) far by rw [HE.out,Nat.max_eq_left (by omega)])
       go_wp2_with fail
       refine (HCx.out _).mono ?_
       rintro e w3 ⟨rfl,k3⟩
       have H3:=Qh (HSr.out.kept k3)
       have K3:=Qh (HK.out.trans k3)
       clear k3
       go_wp2
       go_roundw
       case rel=>exact ⟨k+1,far,by rw [show max (far:Int) (n:Int)=far by omega],by go_num,by omega,by omega,HE2.out,H3.out,K3.out⟩
       case measure=>simp [intOf];omega
    ·have HE:=Qh (show G=stk t.size ((m:Int)+far) by rw [HG.out,List.drop_eq_nil_of_le (by omega),oneGo_end])
     go_wp2_with fail
     refine (HQ.out _ _).mono ?_
     rintro e w3 ⟨rfl,k3⟩
     have H3:=Qh (HSr.out.kept k3)
     have K3:=Qh (HK.out.trans k3)
     clear k3
     go_wp2_with (refine wpList_store_sp rfl _ _ rfl w.heap.size Zs _ H3.out rfl rfl ?_)
     refine bodyPost_ret (v:=sv (stk t.size ((m:Int)+far))) ?_ rfl ⟨by rw [HE.out],K3.out.setRow (by omega) _⟩
     exact (ret_sp rfl H3.out rfl).trans rfl
def hdD (m:List UInt8):Bool:=match m with
 | []=>false
 | d::_=>isD d
def refN (z:Nat) (i:Int) (hB:Bool) (m:List UInt8):Option (Nat × Bool) × Sp :=
 if (nmP hB m).2.1=(nmP hB m).1∧((nmP hB m).2.2.2=true∨hdD (m.drop (nmP hB m).1)=false) then (some ((nmP hB m).2.2.1,(nmP hB m).2.2.2),⟨i+(nmP hB m).1,0,0⟩)
 else (none,stk z (i+(nmP hB m).1))
def prE (z:Nat) (i:Int) (hB:Bool) (n:Int) (m:List UInt8):Option (Nat × Bool) × Sp :=
 if hB=true∧(n=0∨cmn m [46]=1) then (if cmn m [46,53]=2 then (some (n.toNat,true),⟨i+2,0,0⟩) else (none,stk z (i+cmn m [46,53])))
 else (some (n.toNat,false),⟨i,0,0⟩)
def lstI (hB:Bool):Int:=if hB=true then 0 else 1
def prN (z:Nat) (i:Int) (hB:Bool) (m:List UInt8):Option (Nat × Bool) × Sp :=
 if (numGo z i (lstI hB) 64 m 0 0).e≠0 then (none,numGo z i (lstI hB) 64 m 0 0)
 else prE z (numGo z i (lstI hB) 64 m 0 0).a hB (numGo z i (lstI hB) 64 m 0 0).n (m.drop ((numGo z i (lstI hB) 64 m 0 0).a-i).toNat)
theorem prN_bad {z:Nat} {i:Int} {hB:Bool} {m:List UInt8} {x:Sp} (h:numGo z i (lstI hB) 64 m 0 0=x) (he:x.e≠0):prN z i hB m=(none,x):=by
 unfold prN;rw [h,if_pos he]
theorem prN_ok {z:Nat} {i:Int} {hB:Bool} {m:List UInt8} {p:Nat} {n:Int} (h:numGo z i (lstI hB) 64 m 0 0=⟨i+p,n,0⟩):prN z i hB m=prE z (i+p) hB n (m.drop p):=by
 unfold prN;rw [h,if_neg (by simp)]
 show prE z (i+p) hB n (m.drop (i+p-i).toNat)=_
 rw [show (i+(p:Int)-i).toNat=p by omega]
theorem c53 (m:List UInt8):cmn m [46,53]=cmnU m [46,53]:=cmnU_is m [46,53] (by intro y hy;simp at hy;omega)
theorem c46 (m:List UInt8):cmn m [46]=cmnU m [46]:=cmnU_is m [46] (by intro y hy;simp at hy;omega)
theorem c46_53 (m:List UInt8):(cmnU m [46]=1↔1≤cmnU m [46,53])∧(cmnU m [46]=0∨cmnU m [46]=1):=by
 rcases m with _|⟨a,r⟩
 ·simp [cmnU]
 ·rw [cmnU_cc,cmnU_cc,cmnU_nil2]
  split
  ·exact ⟨⟨fun _=>by omega,fun _=>by omega⟩,.inr rfl⟩
  ·exact ⟨⟨fun h=>by omega,fun h=>by omega⟩,.inl rfl⟩
theorem refN_fin {z:Nat} {i:Int} {hB:Bool} {M:List UInt8} {x:Nat × Int × Nat × Bool} (h:nmP hB M=x) :
  refN z i hB M=if x.2.1=x.1∧(x.2.2.2=true∨hdD (M.drop x.1)=false) then (some (x.2.2.1,x.2.2.2),⟨i+x.1,0,0⟩) else (none,stk z (i+x.1)):=by
 unfold refN;rw [h]
theorem fin_eq (z:Nat) (i:Int) (hB:Bool) (p n:Nat) (pre m:List UInt8) (hp:pre.length=p) (hn:n=0→hB=true) (hd:hdD m=false)
  (hx:nmP hB (pre++m)=fin hB p n m):prE z (i+p) hB n m=refN z i hB (pre++m):=by
 rw [refN_fin hx]
 unfold fin
 dsimp only
 have hle:=tl5_le hB m
 have h6:=c46_53 m
 have hdrop:(pre++m).drop p=m:=by rw [← hp,List.drop_left]
 unfold prE
 rw [c53,c46,show ((n:Int)).toNat=n from rfl]
 cases hB
 ·have e0:tl5 false m=0:=rfl
  have hn0:n≠0:=fun e=>absurd (hn e) (by simp)
  rw [if_neg (by simp),e0]
  simp only [Nat.add_zero,show ¬ (0=2) by omega,if_false,hn0,hdrop,hd]
  rw [if_pos ⟨trivial,.inr trivial⟩]
  rfl
 ·have e0:tl5 true m=cmnU m [46,53]:=rfl
  rw [e0] at hle ⊢
  by_cases h2:cmnU m [46,53]=2
  ·rw [if_pos ⟨rfl,.inr (h6.1.2 (by omega))⟩,if_pos h2,h2,if_pos rfl,if_pos ⟨rfl,.inl rfl⟩]
   rw [show i+(p:Int)+2=i+((p+2:Nat):Int) by omega]
   rfl
  ·rw [if_neg h2,if_neg h2]
   by_cases h1:cmnU m [46,53]=1
   ·rw [if_pos ⟨rfl,.inr (h6.1.2 (by omega))⟩,h1,if_neg (by intro ⟨e,_⟩;split at e <;> omega)]
    rw [show i+(p:Int)+((1:Nat):Int)=i+((p+1:Nat):Int) by omega]
   ·have h0:cmnU m [46,53]=0:=by omega
    rw [h0]
    by_cases hn0:n=0
    ·rw [if_pos ⟨rfl,.inl (by omega)⟩,if_pos hn0,if_neg (by intro ⟨e,_⟩;omega)]
     rw [show i+(p:Int)+((0:Nat):Int)=i+((p+0:Nat):Int) by omega]
    ·have:¬ cmnU m [46]=1:=fun e=>by have:=h6.1.1 e;omega
     have h7:¬ (true=true∧((n:Int)=0∨cmnU m [46]=1)):=by
      rintro ⟨_,e|e⟩
      ·omega
      ·exact this e
     rw [if_neg h7,if_neg hn0]
     simp only [Nat.add_zero,hdrop,hd]
     rw [if_pos ⟨trivial,.inr trivial⟩]
     rfl

theorem hdD_tl5 {hB:Bool} {m:List UInt8} (h:hdD m=true):tl5 hB m=0:=by
 rcases m with _|⟨d,r⟩
 ·simp [hdD] at h
 ·cases hB
  ·rfl
  ·show cmnU (d::r) [46,53]=0
   rw [cmnU_cc,if_neg]
   intro e
   have h':isD d=true:=h
   unfold isD at h'
   rw [e] at h'
   simp at h'
theorem fin_bad (z:Nat) (i:Int) (hB:Bool) (p n:Nat) (pre m:List UInt8) (hp:pre.length=p) (hz:z=i+p+m.length) (hd:hdD m=true)
  (hx:nmP hB (pre++m)=fin hB p n m):refN z i hB (pre++m)=(none,⟨i+p,0,2⟩):=by
 rw [refN_fin hx]
 unfold fin
 dsimp only
 have hdrop:(pre++m).drop p=m:=by rw [← hp,List.drop_left]
 have hl:0<m.length:=by
  rcases m with _|⟨d,r⟩
  ·simp [hdD] at hd
  ·simp
 rw [hdD_tl5 hd]
 simp only [Nat.add_zero,hdrop,hd]
 rw [if_neg (by rintro ⟨_,e|e⟩ <;> simp at e)]
 unfold stk
 rw [if_neg (by omega)]
theorem isD_iff (b:UInt8):isD b=true↔48≤b.toNat∧b.toNat≤57:=by unfold isD;simp
theorem prN_is (z:Nat) (i:Int) (hB:Bool) (m:List UInt8) (hz:(z:Int)=i+m.length):prN z i hB m=refN z i hB m:=by
 rcases m with _|⟨b,r⟩
 ·rw [prN_bad (nG_end_no (by omega)) (by simp),refN_fin (nmP_nil hB),if_neg (by rintro ⟨e,_⟩;simp at e)]
  unfold stk
  rw [if_pos (by simp at hz ⊢;omega)]
 ·by_cases h:b.toNat<48∨57<b.toNat∨(b.toNat=48∧hB=false)
  ·have hg:numGo z i (lstI hB) 64 (b::r) 0 0=⟨i+(0:Nat),0,2⟩:=by
    by_cases hb:isD b=true
    ·refine nG_over hb (by omega) (.inr ⟨rfl,?_,?_⟩)
     ·rw [isD_iff] at hb;omega
     ·rw [isD_iff] at hb
      have:hB=false:=by
       rcases h with h|h|h
       ·omega
       ·omega
       ·exact h.2
      rw [this];decide
    ·exact nG_far_no hb (by omega)
   rw [prN_bad hg (by simp),refN_fin (nmP_no h),if_neg (by rintro ⟨e,_⟩;simp at e)]
   unfold stk
   rw [if_neg (by simp at hz ⊢;omega)]
  ·have hz0:b.toNat=48→hB=true:=by
    intro e
    cases hB
    ·exact absurd (.inr (.inr ⟨e,rfl⟩)) h
    ·rfl
   have hb:isD b=true:=by rw [isD_iff];omega
   obtain ⟨N,hN⟩:∃ N,b.toNat-48=N:=⟨_,rfl⟩
   have hll:lstI hB≤N:=by
    cases hB
    ·show (1:Int)≤N
     have:b.toNat≠48:=fun e=>absurd (hz0 e) (by simp)
     omega
    ·show (0:Int)≤N
     omega
   have hg:numGo z i (lstI hB) 64 (b::r) 0 0=numGo z i (lstI hB) 64 r 1 N:=by
    rw [nG_next hb (by omega),show (10*(0:Int)+((b.toNat:Int)-48))=N by omega]
    rintro (e|⟨_,e,e2⟩)
    ·omega
    ·have:N=0:=by omega
     have:lstI hB=0:=by rw [hz0 (by omega)];rfl
     omega
   rcases r with _|⟨c,r⟩
   ·have hx:=nmP_end h
    rw [hN] at hx
    rw [prN_ok (p:=1) (hg.trans (nG_end_yes ⟨by omega,hll⟩))]
    exact fin_eq z i hB 1 N [b] [] rfl (fun e=>hz0 (by omega)) rfl hx
   ·by_cases h2:48<b.toNat∧48≤c.toNat∧c.toNat≤57∧10*(b.toNat-48)+(c.toNat-48)≤64
    ·have hx:=nmP_two (r:=r) h h2
     obtain ⟨N2,hN2⟩:∃ N2,10*(b.toNat-48)+(c.toNat-48)=N2:=⟨_,rfl⟩
     rw [hN2] at hx
     have hg2:numGo z i (lstI hB) 64 (b::c::r) 0 0=numGo z i (lstI hB) 64 r 2 N2:=by
      rw [hg,nG_next (by rw [isD_iff];omega) (by omega) (by rintro (e|⟨e,_⟩) <;> omega),show (10*(N:Int)+((c.toNat:Int)-48))=N2 by omega]
     have hl1:lstI hB≤1:=by cases hB <;> decide
     have hl2:lstI hB≤N2:=by omega
     rcases r with _|⟨d,r⟩
     ·rw [prN_ok (p:=2) (hg2.trans (nG_end_yes ⟨by omega,hl2⟩))]
      exact fin_eq z i hB 2 N2 [b,c] [] rfl (fun e=>by omega) rfl hx
     ·by_cases hd:isD d=true
      ·rw [prN_bad (hg2.trans (nG_over hd (by omega) (.inl (by rw [isD_iff] at hd;omega)))) (by simp)]
       exact (fin_bad z i hB 2 N2 [b,c] (d::r) rfl (by simp at hz ⊢;omega) hd hx).symm
      ·rw [prN_ok (p:=2) (hg2.trans (nG_far_yes hd ⟨by omega,hl2⟩))]
       exact fin_eq z i hB 2 N2 [b,c] (d::r) rfl (fun e=>by omega) (by simpa [hdD] using hd) hx
    ·have hx:=nmP_one (r:=r) h h2
     rw [hN] at hx
     by_cases hc:isD c=true
     ·have hg2:numGo z i (lstI hB) 64 (b::c::r) 0 0=⟨i+(1:Nat),0,2⟩:=by
       rw [hg]
       by_cases h0:N=0
       ·exact nG_lead hc ⟨by omega,by omega⟩
       ·exact nG_over hc (by omega) (.inl (by rw [isD_iff] at hc;omega))
      rw [prN_bad hg2 (by simp)]
      exact (fin_bad z i hB 1 N [b] (c::r) rfl (by simp at hz ⊢;omega) hc hx).symm
     ·rw [prN_ok (p:=1) (hg.trans (nG_far_yes hc ⟨by omega,hll⟩))]
      exact fin_eq z i hB 1 N [b] (c::r) rfl (fun e=>hz0 (by omega)) (by simpa [hdD] using hc) hx
def hdL:List (Int × Int):=[(1,1),(1,2),(2,1),(2,2),(3,1),(3,2),(4,1),(4,2),(5,1),(5,2),(6,1),(6,2),(7,1),(7,2),(8,0)]
def opL (p:Int × Int):List UInt8:=bs (kT p.1)++bs (gT p.2)
def txL (s:Stp):List UInt8:=opL (s.k,s.g)++nmL s.n s.h
theorem bs_opT (k g:Int):bs (opT k g)=opL (k,g):=bs_append _ _
theorem bs_txT (s:Stp):bs (txT s)=txL s:=by
 unfold txT txL nmL
 cases h:s.h
 ·rw [if_neg (by simp),bs_append,bs_opT,if_neg (by simp),List.append_nil]
 ·rw [if_pos rfl,bs_append,bs_append,bs_opT,if_pos rfl,List.append_assoc]
theorem okG_iff (k g:Int):okG k g=true↔(k,g) ∈ hdL:=by
 have e:okG k g=true↔(k=8∧g=0)∨((1≤k∧k≤7)∧(1≤g∧g≤2)):=by unfold okG;simp only [Bool.or_eq_true,Bool.and_eq_true,decide_eq_true_eq]
 rw [e]
 constructor
 ·rintro (⟨rfl,rfl⟩|⟨⟨h1,h2⟩,h3,h4⟩)
  ·decide
  ·have a:k=1∨k=2∨k=3∨k=4∨k=5∨k=6∨k=7:=by omega
   have b:g=1∨g=2:=by omega
   rcases a with rfl|rfl|rfl|rfl|rfl|rfl|rfl <;> rcases b with rfl|rfl <;> decide
 ·intro h
  unfold hdL at h
  simp only [List.mem_cons,Prod.mk.injEq,List.not_mem_nil,or_false] at h
  rcases h with ⟨rfl,rfl⟩|⟨rfl,rfl⟩|⟨rfl,rfl⟩|⟨rfl,rfl⟩|⟨rfl,rfl⟩|⟨rfl,rfl⟩|⟨rfl,rfl⟩|⟨rfl,rfl⟩|⟨rfl,rfl⟩|⟨rfl,rfl⟩|⟨rfl,rfl⟩|⟨rfl,rfl⟩|⟨rfl,rfl⟩|⟨rfl,rfl⟩|⟨rfl,rfl⟩ <;> decide
theorem hdL_chk:(hdL.all fun p=>hdL.all fun q=>p == q || !(opL p).isPrefixOf (opL q))=true:=by decide +kernel
theorem hdL_chk2:(hdL.all fun p=>decide ((opL p).getLast?≠some 46) && decide (0<(opL p).length) && decide ((opL p).length<10))=true:=by decide +kernel
theorem hdL_apart {p q:Int × Int} (hp:p ∈ hdL) (hq:q ∈ hdL) (h:p≠q):¬ opL p <+: opL q:=by
 have h1:=List.all_eq_true.1 (List.all_eq_true.1 hdL_chk p hp) q hq
 rw [Bool.or_eq_true] at h1
 rcases h1 with h1|h1
 ·exact absurd (by simpa using h1) h
 ·intro h2
  rw [Bool.not_eq_true',← Bool.not_eq_true] at h1
  exact h1 (List.isPrefixOf_iff_prefix.2 h2)
theorem hdL_last {p:Int × Int} (hp:p ∈ hdL):(opL p).getLast?≠some 46∧0<(opL p).length∧(opL p).length<10:=by
 have:=List.all_eq_true.1 hdL_chk2 p hp
 simp only [Bool.and_eq_true,decide_eq_true_eq] at this
 exact ⟨this.1.1,this.1.2,this.2⟩
theorem cmn_short:∀ (a b c:List UInt8),cmn a b<b.length→cmn a (b++c)=cmn a b
 | [],b,c,h=>by rw [cmn_nil,cmn_nil]
 | x::a,[],c,h=>by simp at h
 | x::a,y::b,c,h=>by
  rw [List.cons_append,cmn_cc,cmn_cc]
  rw [cmn_cc] at h
  split
  ·next e =>
   rw [if_pos e] at h
   rw [cmn_short a b c (by simpa using h)]
  ·rfl
theorem cmn_pre:∀ (o m c:List UInt8),cmn (o++m) (o++c)=o.length+cmn m c
 | [],m,c=>by simp
 | x::o,m,c=>by rw [List.cons_append,List.cons_append,cmn_cc,if_pos rfl,cmn_pre o m c,List.length_cons];omega
theorem cmn_take:∀ (a b:List UInt8) (k:Nat),k≤cmn a b→a.take k=b.take k
 | [],b,k,h=>by
  rw [cmn_nil] at h
  rw [show k=0 by omega];rfl
 | x::a,[],k,h=>by
  rw [cmn_nil2] at h
  rw [show k=0 by omega];rfl
 | x::a,y::b,0,h=>by simp
 | x::a,y::b,k+1,h=>by
  rw [cmn_cc] at h
  split at h
  ·next e=>rw [List.take_succ_cons,List.take_succ_cons,e,cmn_take a b k (by omega)]
  ·omega
theorem cmn_other {p q:Int × Int} (hp:p ∈ hdL) (hq:q ∈ hdL) (h:q≠p) (m c:List UInt8):cmn (opL p++m) (opL q++c)<(opL p).length:=by
 have a1:=hdL_apart hp hq (Ne.symm h)
 have a2:=hdL_apart hq hp h
 have n1:¬ opL q <+: opL p++m:=by
  intro x
  rcases List.prefix_or_prefix_of_prefix x (List.prefix_append (opL p) m) with y|y
  ·exact a2 y
  ·exact a1 y
 have l1:=cmn_r (opL p++m) (opL q)
 have n2:cmn (opL p++m) (opL q)<(opL q).length:=by
  rcases Nat.lt_or_ge (cmn (opL p++m) (opL q)) (opL q).length with x|x
  ·exact x
  ·exact absurd ((cmn_full _ _).1 (by omega)) n1
 rw [cmn_short _ _ _ n2]
 rcases Nat.lt_or_ge (cmn (opL p++m) (opL q)) (opL p).length with x|x
 ·exact x
 ·exfalso
  have:=cmn_take _ _ _ x
  rw [List.take_left] at this
  exact a1 (by rw [this];exact List.take_prefix _ _)

structure Top (M:List UInt8) (P:Stp→Prop) (x:Stp × Int × Nat):Prop where
 up:∀ s,P s→cmn M (txL s)≤x.2.2
 at_:x.2.2=0∨∃ s,P s∧cmn M (txL s)=x.2.2
 no:x.2.1=-1→x.1=Zt∧∀ s,P s→cmn M (txL s)≠(txL s).length
 yes:x.2.1≠-1→P x.1∧x.2.1=((txL x.1).length:Nat)∧cmn M (txL x.1)=(txL x.1).length∧∀ s,P s→cmn M (txL s)=(txL s).length→(txL s).length≤(txL x.1).length
def stpGo (M:List UInt8) (s:Stp) (x:Stp × Int × Nat):Stp × Int × Nat :=
 (if cmn M (txL s)=(txL s).length∧x.2.1<cmn M (txL s) then s else x.1,if cmn M (txL s)=(txL s).length∧x.2.1<cmn M (txL s) then (cmn M (txL s):Int) else x.2.1,
  if x.2.2<cmn M (txL s) then cmn M (txL s) else x.2.2)
def rfGo (M:List UInt8):List Stp→Stp × Int × Nat→Stp × Int × Nat
 | [],x=>x
 | s::L,x=>rfGo M L (stpGo M s x)
theorem Top.step {M:List UInt8} {P:Stp→Prop} {x:Stp × Int × Nat} (h:Top M P x) (a:Stp):Top M (fun s=>P s∨s=a) (stpGo M a x):=by
 obtain ⟨b,m,f⟩:=x
 obtain ⟨h1,h2,h3,h4⟩:=h
 dsimp only at h1 h2 h3 h4
 have hf:(stpGo M a (b,m,f)).2.2=if f<cmn M (txL a) then cmn M (txL a) else f:=rfl
 have hm:(stpGo M a (b,m,f)).2.1=if cmn M (txL a)=(txL a).length∧m<cmn M (txL a) then (cmn M (txL a):Int) else m:=rfl
 have hb:(stpGo M a (b,m,f)).1=if cmn M (txL a)=(txL a).length∧m<cmn M (txL a) then a else b:=rfl
 constructor
 ·rw [hf]
  rintro s (hs|rfl)
  ·have:=h1 s hs;split <;> omega
  ·split <;> omega
 ·rw [hf]
  split
  ·exact .inr ⟨a,.inr rfl,rfl⟩
  ·rcases h2 with h2|⟨s,hs,e⟩
   ·exact .inl h2
   ·exact .inr ⟨s,.inl hs,e⟩
 ·rw [hm,hb]
  by_cases c:cmn M (txL a)=(txL a).length∧m<cmn M (txL a)
  ·rw [if_pos c];intro e;omega
  ·rw [if_neg c,if_neg c]
   intro e
   obtain ⟨e1,e2⟩:=h3 e
   refine ⟨e1,?_⟩
   rintro s (hs|rfl)
   ·exact e2 s hs
   ·intro e3;exact c ⟨e3,by omega⟩
 ·rw [hm,hb]
  by_cases c:cmn M (txL a)=(txL a).length∧m<cmn M (txL a)
  ·rw [if_pos c,if_pos c]
   intro _
   refine ⟨.inr rfl,by rw [c.1],c.1,?_⟩
   rintro s (hs|rfl) e
   ·by_cases e1:m=-1
    ·exact absurd e ((h3 e1).2 s hs)
    ·obtain ⟨_,e2,_,e3⟩:=h4 e1
     have:=e3 s hs e
     omega
   ·exact Nat.le_refl _
  ·rw [if_neg c,if_neg c]
   intro e1
   obtain ⟨e2,e3,e4,e5⟩:=h4 e1
   refine ⟨.inl e2,e3,e4,?_⟩
   rintro s (hs|rfl) e
   ·exact e5 s hs e
   ·have:¬ m<cmn M (txL s):=fun x=>c ⟨e,x⟩
    omega
theorem Top.congr {M:List UInt8} {P Q:Stp→Prop} {x:Stp × Int × Nat} (h:Top M P x) (e:∀ s,P s↔Q s):Top M Q x:=by
 have:P=Q:=funext fun s=>propext (e s)
 rw [← this];exact h
theorem rf_top (M:List UInt8):∀ (L:List Stp) (P:Stp→Prop) (x:Stp × Int × Nat),Top M P x→Top M (fun s=>P s∨s ∈ L) (rfGo M L x)
 | [],P,x,h=>h.congr fun s=>by simp
 | a::L,P,x,h=>(rf_top M L _ _ (h.step a)).congr fun s=>by simp [or_assoc]
def optS (s:Stp):List Stp:=if okSt s=true then [s] else []
def allN (k g:Int):Nat→List Stp
 | 0=>[]
 | n+1=>allN k g n++optS ⟨k,g,n,false⟩++optS ⟨k,g,n,true⟩
def allG (k:Int):Nat→List Stp
 | 0=>[]
 | g+1=>allG k g++allN k g 65
def allK:Nat→List Stp
 | 0=>[]
 | k+1=>allK k++allG ((k:Int)+1) 3
def allS:List Stp:=allK 8
theorem mem_optS (s a:Stp):s ∈ optS a↔okSt a=true∧s=a:=by
 unfold optS
 by_cases h:okSt a=true
 ·rw [if_pos h];simp [h]
 ·rw [if_neg h];simp [h]
theorem mem_allN (k g:Int) (s:Stp):∀ n:Nat,s ∈ allN k g n↔okSt s=true∧s.k=k∧s.g=g∧0≤s.n∧s.n<n
 | 0=>by
  unfold allN
  refine ⟨fun h=>by simp at h,fun ⟨_,_,_,h1,h2⟩=>by omega⟩
 | n+1=>by
  unfold allN
  rw [List.mem_append,List.mem_append,mem_allN k g s n,mem_optS,mem_optS]
  obtain ⟨sk,sg,sn,sh⟩:=s
  dsimp only
  constructor
  ·rintro ((⟨h1,h2,h3,h4,h5⟩|⟨h1,h2⟩)|⟨h1,h2⟩)
   ·exact ⟨h1,h2,h3,h4,by omega⟩
   ·have h3:=h2
    simp only [Stp.mk.injEq] at h3
    obtain ⟨rfl,rfl,rfl,rfl⟩:=h3
    exact ⟨h1,rfl,rfl,by omega,by omega⟩
   ·have h3:=h2
    simp only [Stp.mk.injEq] at h3
    obtain ⟨rfl,rfl,rfl,rfl⟩:=h3
    exact ⟨h1,rfl,rfl,by omega,by omega⟩
  ·rintro ⟨h1,rfl,rfl,h4,h5⟩
   by_cases e:sn=n
   ·subst e
    cases sh
    ·exact .inl (.inr ⟨h1,rfl⟩)
    ·exact .inr ⟨h1,rfl⟩
   ·exact .inl (.inl ⟨h1,rfl,rfl,h4,by omega⟩)
theorem okS_bounds {s:Stp} (h:okSt s=true):1≤s.k∧s.k≤8∧0≤s.g∧s.g≤2∧0≤s.n∧s.n≤64:=by
 unfold okSt okG okN at h
 simp only [Bool.and_eq_true,Bool.or_eq_true,decide_eq_true_eq] at h
 obtain ⟨h1,h2⟩:=h
 split at h2
 ·simp only [Bool.and_eq_true,decide_eq_true_eq] at h2;omega
 ·simp only [Bool.and_eq_true,decide_eq_true_eq] at h2;omega
theorem mem_allG (k:Int) (s:Stp):∀ g:Nat,s ∈ allG k g↔okSt s=true∧s.k=k∧0≤s.g∧s.g<g
 | 0=>by
  unfold allG
  refine ⟨fun h=>by simp at h,fun ⟨_,_,h1,h2⟩=>by omega⟩
 | g+1=>by
  unfold allG
  rw [List.mem_append,mem_allG k s g,mem_allN]
  constructor
  ·rintro (⟨h1,h2,h3,h4⟩|⟨h1,h2,h3,h4,h5⟩)
   ·exact ⟨h1,h2,h3,by omega⟩
   ·exact ⟨h1,h2,by omega,by omega⟩
  ·rintro ⟨h1,h2,h3,h4⟩
   have:=okS_bounds h1
   by_cases e:s.g=g
   ·exact .inr ⟨h1,h2,e,by omega,by omega⟩
   ·exact .inl ⟨h1,h2,h3,by omega⟩
theorem mem_allK (s:Stp):∀ k:Nat,s ∈ allK k↔okSt s=true∧s.k≤k
 | 0=>by
  unfold allK
  refine ⟨fun h=>by simp at h,fun ⟨h1,h2⟩=>by have:=okS_bounds h1;omega⟩
 | k+1=>by
  unfold allK
  rw [List.mem_append,mem_allK s k,mem_allG]
  constructor
  ·rintro (⟨h1,h2⟩|⟨h1,h2,h3,h4⟩)
   ·exact ⟨h1,by omega⟩
   ·exact ⟨h1,by omega⟩
  ·rintro ⟨h1,h2⟩
   have:=okS_bounds h1
   by_cases e:s.k=(k:Int)+1
   ·exact .inr ⟨h1,e,by omega,by omega⟩
   ·exact .inl ⟨h1,by omega⟩
theorem mem_allS (s:Stp):s ∈ allS↔okSt s=true:=by
 unfold allS
 rw [mem_allK]
 refine ⟨fun h=>h.1,fun h=>⟨h,?_⟩⟩
 have:=okS_bounds h
 omega
theorem all_top (M:List UInt8):Top M (fun s=>okSt s=true) (rfGo M allS (Zt,-1,0)) :=
 (rf_top M allS (fun _=>False) (Zt,-1,0) ⟨fun _ h=>h.elim,.inl rfl,fun _=>⟨rfl,fun _ h=>h.elim⟩,fun h=>absurd rfl h⟩).congr fun s=>by rw [mem_allS];simp
theorem okS_hd {s:Stp} (h:okSt s=true):(s.k,s.g) ∈ hdL:=by
 unfold okSt at h
 rw [Bool.and_eq_true] at h
 exact (okG_iff _ _).1 h.1
theorem okN_iff (k n:Int) (h:Bool):okN k n h=true↔0≤n∧okM (decide (k=5)) n.toNat h:=by
 unfold okN okM
 cases h
 ·rw [if_neg (by simp)]
  simp only [Bool.and_eq_true,decide_eq_true_eq]
  constructor
  ·rintro ⟨h1,h2⟩;exact ⟨by omega,by omega,fun e=>by simp at e,fun _=>by omega⟩
  ·rintro ⟨h1,h2,_,h4⟩;have:=h4 trivial;omega
 ·rw [if_pos rfl]
  simp only [Bool.and_eq_true,decide_eq_true_eq]
  constructor
  ·rintro ⟨h1,h2,h3⟩;exact ⟨h2,by omega,fun _=>h1,fun e=>by simp at e⟩
  ·rintro ⟨h1,h2,h3,_⟩;exact ⟨h3 trivial,h1,by omega⟩
theorem okS_mk {p:Int × Int} (hp:p ∈ hdL) {n:Nat} {h:Bool} (hv:okM (decide (p.1=5)) n h):okSt ⟨p.1,p.2,n,h⟩=true:=by
 unfold okSt
 rw [Bool.and_eq_true]
 exact ⟨(okG_iff _ _).2 hp,(okN_iff _ _ _).2 ⟨Int.natCast_nonneg _,hv⟩⟩
theorem okS_M {s:Stp} (h:okSt s=true):0≤s.n∧okM (decide (s.k=5)) s.n.toNat s.h:=by
 unfold okSt at h
 rw [Bool.and_eq_true] at h
 exact (okN_iff _ _ _).1 h.2
theorem okM_one (b:Bool):okM b 1 false:=⟨by omega,fun e=>by simp at e,fun _=>by omega⟩
theorem tx_same {p:Int × Int} {s:Stp} (e:(s.k,s.g)=p) (h:okSt s=true) (m:List UInt8) :
  cmn (opL p++m) (txL s)=(opL p).length+cmnU m (nmN s.n.toNat s.h)∧(txL s).length=(opL p).length+(nmN s.n.toNat s.h).length:=by
 obtain ⟨h1,h2,_⟩:=okS_M h
 have e1:nmL s.n s.h=nmL (s.n.toNat:Int) s.h:=by rw [show ((s.n.toNat:Nat):Int)=s.n by omega]
 unfold txL
 rw [e,cmn_pre,e1,cmn_nm _ _ (by omega),List.length_append,nm_len _ (by omega)]
 exact ⟨rfl,rfl⟩
theorem cmn_other2 {p q:Int × Int} (hp:p ∈ hdL) (hq:q ∈ hdL) (h:q≠p) (m c:List UInt8):cmn (opL p++m) (opL q++c)<(opL q).length:=by
 have a1:=hdL_apart hp hq (Ne.symm h)
 have a2:=hdL_apart hq hp h
 have n1:¬ opL q <+: opL p++m:=by
  intro x
  rcases List.prefix_or_prefix_of_prefix x (List.prefix_append (opL p) m) with y|y
  ·exact a2 y
  ·exact a1 y
 have l1:=cmn_r (opL p++m) (opL q)
 have n2:cmn (opL p++m) (opL q)<(opL q).length:=by
  rcases Nat.lt_or_ge (cmn (opL p++m) (opL q)) (opL q).length with x|x
  ·exact x
  ·exact absurd ((cmn_full _ _).1 (by omega)) n1
 rw [cmn_short _ _ _ n2]
 exact n2
theorem top_none {M:List UInt8} {x:Stp × Int × Nat} (h:Top M (fun s=>okSt s=true) x) (hn:∀ p ∈ hdL,¬ opL p <+: M) (mx:Nat) (hu:∀ p ∈ hdL,cmn M (opL p)≤mx)
  (hw:mx=0∨∃ p ∈ hdL,cmn M (opL p)=mx):x=(Zt,-1,mx):=by
 have lt:∀ p ∈ hdL,cmn M (opL p)<(opL p).length:=by
  intro p hp
  have l1:=cmn_r M (opL p)
  rcases Nat.lt_or_ge (cmn M (opL p)) (opL p).length with y|y
  ·exact y
  ·exact absurd ((cmn_full _ _).1 (by omega)) (hn p hp)
 have e:∀ s,okSt s=true→cmn M (txL s)=cmn M (opL (s.k,s.g)):=fun s hs=>cmn_short _ _ _ (lt _ (okS_hd hs))
 obtain ⟨b,m,f⟩:=x
 have hm:m=-1:=by
  apply Classical.byContradiction
  intro hm
  obtain ⟨h1,_,h3,_⟩:=h.yes hm
  have:=lt _ (okS_hd h1)
  rw [e _ h1] at h3
  rw [h3] at this
  unfold txL at this
  rw [List.length_append] at this
  omega
 have hb:=(h.no hm).1
 have hf:f=mx:=by
  have h1:=h.up
  have h2:=h.at_
  dsimp only at h1 h2
  refine Nat.le_antisymm ?_ ?_
  ·rcases h2 with h2|⟨s,hs,h2⟩
   ·omega
   ·have:=hu _ (okS_hd hs)
    rw [← e s hs] at this
    omega
  ·rcases hw with hw|⟨p,hp,hw⟩
   ·omega
   ·have:=h1 _ (okS_mk hp (okM_one _))
    rw [e _ (okS_mk hp (okM_one _))] at this
    change cmn M (opL p)≤f at this
    omega
 dsimp only at hb
 rw [hb,hm,hf]
theorem top_some {p:Int × Int} (hp:p ∈ hdL) {m:List UInt8} {x:Stp × Int × Nat} (h:Top (opL p++m) (fun s=>okSt s=true) x) {F:Nat} {K:Int} {n:Nat} {hf:Bool}
  (hN:TopN (decide (p.1=5)) m (F,K,n,hf)):x.2.2=(opL p).length+F∧((K=-1∧x.2.1=-1∧x.1=Zt)∨(K≠-1∧x.2.1=(opL p).length+K∧x.1=⟨p.1,p.2,n,hf⟩)):=by
 obtain ⟨N1,N2,N3,N4⟩:=hN
 dsimp only at N1 N2 N3 N4
 have one:=okS_mk hp (okM_one _)
 have ones:=(tx_same (p:=p) rfl one m).1
 have hsame:∀ s,okSt s=true→(s.k,s.g)=p→okM (decide (p.1=5)) s.n.toNat s.h:=by
  intro s hs e
  have:=(okS_M hs).2
  rw [← e];exact this
 refine ⟨?_,?_⟩
 ·have h1:=h.up
  have h2:=h.at_
  refine Nat.le_antisymm ?_ ?_
  ·rcases h2 with h2|⟨s,hs,h2⟩
   ·omega
   ·by_cases e:(s.k,s.g)=p
    ·rw [(tx_same e hs m).1] at h2
     have:=N1 _ _ (hsame s hs e)
     omega
    ·have:=cmn_other hp (okS_hd hs) e m (nmL s.n s.h)
     unfold txL at h2
     omega
  ·rcases N2 with N2|⟨n',h',v,N2⟩
   ·have:=h1 _ one
    rw [ones] at this
    omega
   ·have hk:=okS_mk hp v
    have:=h1 _ hk
    rw [(tx_same (p:=p) rfl hk m).1] at this
    change (opL p).length+cmnU m (nmN n' h')≤x.2.2 at this
    omega
 ·by_cases hK:K=-1
  ·left
   have hm:x.2.1=-1:=by
    apply Classical.byContradiction
    intro hm
    obtain ⟨h1,_,h3,_⟩:=h.yes hm
    by_cases e:(x.1.k,x.1.g)=p
    ·obtain ⟨t1,t2⟩:=tx_same e h1 m
     rw [t1,t2] at h3
     exact N3 hK _ _ (hsame _ h1 e) (by omega)
    ·have:=cmn_other2 hp (okS_hd h1) e m (nmL x.1.n x.1.h)
     unfold txL at h3
     rw [List.length_append] at h3
     omega
   exact ⟨hK,hm,(h.no hm).1⟩
  ·right
   obtain ⟨v,e1,e2,e3⟩:=N4 hK
   have hk:=okS_mk hp v
   obtain ⟨t1,t2⟩:=tx_same (p:=p) rfl hk m
   dsimp only [Int.toNat_natCast] at t1 t2
   have hm:x.2.1≠-1:=by
    intro hm
    refine (h.no hm).2 _ hk ?_
    rw [t1,t2,e2]
   obtain ⟨h1,h2,h3,h4⟩:=h.yes hm
   have big:=h4 _ hk (by rw [t1,t2,e2])
   have e:(x.1.k,x.1.g)=p:=by
    apply Classical.byContradiction
    intro e
    have:=cmn_other2 hp (okS_hd h1) e m (nmL x.1.n x.1.h)
    unfold txL at h3
    rw [List.length_append] at h3
    omega
   obtain ⟨s1,s2⟩:=tx_same e h1 m
   have w:=e3 _ _ (hsame _ h1 e) (by rw [s1,s2] at h3;omega)
   rw [t2,s2] at big
   obtain ⟨w1,w2⟩:=w.2 (by omega)
   refine ⟨hK,?_,?_⟩
   ·rw [h2,s2,w1,w2,e1];omega
   ·generalize x.1=y at *
    obtain ⟨xk,xg,xn,xh⟩:=y
    dsimp only at w1 w2 e
    have h0:=(okS_M h1).1
    dsimp only at h0
    rw [← e,← w1,w2]
    congr 1
    omega
def digB (t:ByteArray) (p:Int):Bool:=match (bs t)[p.toNat]? with
 | none=>false
 | some b=>isD b && (decide (p<2) || !((bs t)[(p-2).toNat]? == some 46))
def refE (t:ByteArray) (i:Int) (x:Stp × Int × Nat):Stp × Sp :=
 if 0≤x.2.1∧(x.2.2:Int)=x.2.1∧digB t (i+x.2.2)=false then (x.1,⟨i+x.2.1,0,0⟩)
 else if i+x.2.2=t.size∧x.2.1<x.2.2 then (Zt,⟨i+x.2.2,0,1⟩) else (Zt,⟨i+x.2.2,0,2⟩)
def refP (t:ByteArray) (i:Int):Stp × Sp:=if inB t i=true then refE t i (rfGo ((bs t).drop i.toNat) allS (Zt,-1,0)) else (Zt,argS)
def hdS:List Stp:=hdL.map fun p=>⟨p.1,p.2,0,false⟩
def hdT:List ByteArray:=hdL.map fun p=>opT p.1 p.2
def dotT:ByteArray:=⟨#[46]⟩
def goB (s:Stp) (t:ByteArray) (a:Int):Bool:=decide (s.k=5) && (decide (s.n=0) || decide ((wordP t dotT a).e=0))
def rdW (s:Stp) (e:Sp):Stp × Sp:=if e.e≠0 then (Zt,e) else (⟨s.k,s.g,s.n,true⟩,e)
def rdV (t:ByteArray) (s:Stp) (u:Sp):Stp × Sp :=
 if u.e≠0 then (Zt,u) else if goB ⟨s.k,s.g,u.n,s.h⟩ t u.a=true then rdW ⟨s.k,s.g,u.n,s.h⟩ (wordP t hfT u.a) else (⟨s.k,s.g,u.n,s.h⟩,⟨u.a,0,0⟩)
def rdO (t:ByteArray) (o:Sp):Stp × Sp :=
 if o.e≠0 then (Zt,o) else rdV t (hdS.getD o.n.toNat Zt) (numP t o.a (lstI (decide ((hdS.getD o.n.toNat Zt).k=5))) 64)
noncomputable def rdP (t:ByteArray) (i:Int):Stp × Sp:=rdO t (oneP t hdT i)
def wrap (p:Int × Int):Option (Nat × Bool) × Sp→Stp × Sp
 | (some (n,h),e)=>(⟨p.1,p.2,n,h⟩,e)
 | (none,e)=>(Zt,e)
theorem stk_e (z:Nat) (i:Int):(stk z i).e≠0:=by unfold stk;split <;> simp
theorem cmnU_at:∀ (m:List UInt8) (l:List Nat),cmnU m l=l.length→∀ (j y:Nat),l[j]?=some y→∃ b:UInt8,m[j]?=some b∧b.toNat=y
 | _,[],_,j,y,h=>by simp at h
 | [],z::l,h,_,_,_=>by rw [cmnU_nil] at h;simp at h
 | x::m,z::l,h,j,y,hy=>by
  rw [cmnU_cc] at h
  by_cases e:x.toNat=z
  ·rw [if_pos e] at h
   rcases j with _|j
   ·simp at hy;exact ⟨x,rfl,by omega⟩
   ·exact cmnU_at m l (by simpa using h) j y (by simpa using hy)
  ·rw [if_neg e] at h;simp at h
theorem get_rest (t:ByteArray) (i k:Nat):(bs t)[i+k]?=((bs t).drop i)[k]?:=by rw [List.getElem?_drop]
theorem hdD_get (m:List UInt8) (F:Nat):hdD (m.drop F)=match m[F]? with
  | none=>false
  | some b=>isD b:=by
 rw [show m[F]?=(m.drop F)[0]? by rw [List.getElem?_drop,Nat.add_zero]]
 rcases m.drop F with _|⟨d,r⟩ <;> rfl
theorem dig_tail {p:Int × Int} (hp:p ∈ hdL) {t:ByteArray} {i:Nat} {m:List UInt8} (hM:(bs t).drop i=opL p++m) {F n:Nat} {hf:Bool}
  (hv:okM (decide (p.1=5)) n hf) (hF:(nmN n hf).length=F) (hw:cmnU m (nmN n hf)=F):digB t ((i:Int)+((opL p).length+F:Nat))=(!hf && hdD (m.drop F)):=by
 obtain ⟨o1,o2,o3⟩:=hdL_last hp
 have hF1:1≤F:=by
  obtain ⟨x,l,e,_⟩:=nmN_ne n hf
  rw [← hF,e];simp
 have e1:(bs t)[((i:Int)+((opL p).length+F:Nat)).toNat]?=m[F]?:=by
  rw [show ((i:Int)+((opL p).length+F:Nat)).toNat=i+((opL p).length+F) by omega,get_rest,hM,List.getElem?_append_right (by omega)]
  congr 1;omega
 have e2:(bs t)[((i:Int)+((opL p).length+F:Nat)-2).toNat]?=(opL p++m)[(opL p).length+F-2]?:=by
  rw [show ((i:Int)+((opL p).length+F:Nat)-2).toNat=i+((opL p).length+F-2) by omega,get_rest,hM]
 have e3:decide ((i:Int)+((opL p).length+F:Nat)<2)=false:=decide_eq_false (by omega)
 have e4:((opL p++m)[(opL p).length+F-2]? == some 46)=hf:=by
  rcases @nmN_cases n hf with ⟨a1,a2,a3⟩|⟨a1,a2,a3⟩|⟨a1,a2,a3⟩|⟨a1,a2,a3⟩
  ·rw [a3] at hF
   simp at hF
   rw [a2,List.getElem?_append_left (by omega),show (opL p).length+F-2=(opL p).length-1 by omega,← List.getLast?_eq_getElem?]
   simpa using o1
  ·rw [a3] at hF hw
   simp at hF
   obtain ⟨b,b1,b2⟩:=cmnU_at _ _ (hw.trans hF.symm) 1 46 rfl
   rw [a2,List.getElem?_append_right (by omega),show (opL p).length+F-2-(opL p).length=1 by omega,b1]
   rw [show b=46 from UInt8.toNat.inj b2];rfl
  ·rw [a3] at hF hw
   simp at hF
   obtain ⟨b,b1,b2⟩:=cmnU_at _ _ (hw.trans hF.symm) 0 (48+n / 10) rfl
   rw [a2,List.getElem?_append_right (by omega),show (opL p).length+F-2-(opL p).length=0 by omega,b1]
   have:b≠46:=by intro e;rw [e] at b2;simp at b2;omega
   simpa using this
  ·rw [a3] at hF hw
   simp at hF
   obtain ⟨b,b1,b2⟩:=cmnU_at _ _ (hw.trans hF.symm) 2 46 rfl
   rw [a2,List.getElem?_append_right (by omega),show (opL p).length+F-2-(opL p).length=2 by omega,b1]
   rw [show b=46 from UInt8.toNat.inj b2];rfl
 unfold digB
 rw [e1,e2,e3,e4,hdD_get]
 cases m[F]? with
 | none=>cases hf <;> rfl
 | some b=>cases hf <;> simp
theorem refE_some {p:Int × Int} (hp:p ∈ hdL) {t:ByteArray} {i:Nat} {m:List UInt8} (hM:(bs t).drop i=opL p++m) (hi:i≤t.size) {x:Stp × Int × Nat}
  (h:Top (opL p++m) (fun s=>okSt s=true) x):refE t i x=wrap p (refN t.size ((i:Int)+(opL p).length) (decide (p.1=5)) m):=by
 rcases hx:nmP (decide (p.1=5)) m with ⟨F,K,n,hf⟩
 have hN:=nmP_top (decide (p.1=5)) m
 rw [hx] at hN
 obtain ⟨t1,t2⟩:=top_some hp h hN
 rw [refN_fin hx]
 dsimp only
 have hz:(t.size:Int)=i+(opL p).length+m.length:=by
  have:=congrArg List.length hM
  rw [List.length_drop,List.length_append,bs_len] at this
  omega
 have hl:(((opL p).length+F:Nat):Int)=(opL p).length+F:=by omega
 unfold refE
 rw [t1]
 rcases t2 with ⟨k1,k2,k3⟩|⟨k1,k2,k3⟩
 ·have hC:¬ (K=(F:Int)∧(hf=true∨hdD (m.drop F)=false)):=by rintro ⟨e,_⟩;omega
  rw [k2,if_neg (by rintro ⟨e,_⟩;omega)]
  by_cases e:(i:Int)+((opL p).length+F:Nat)=t.size
  ·rw [if_pos ⟨e,by omega⟩,if_neg hC]
   unfold stk wrap
   dsimp only
   rw [if_pos (by omega),hl,← Int.add_assoc]
  ·rw [if_neg (fun x=>e x.1),if_neg hC]
   unfold stk wrap
   dsimp only
   rw [if_neg (by omega),hl,← Int.add_assoc]
 ·obtain ⟨v,w1,w2,_⟩:=hN.yes k1
  dsimp only at v w1 w2
  have hup:=hN.up _ _ v
  dsimp only at hup
  rw [k2,k3]
  by_cases e:K=F
  ·have hd:=dig_tail hp hM v (F:=F) (by omega) (by omega)
   rw [hd]
   by_cases e2:(!hf && hdD (m.drop F))=false
   ·have e3:hf=true∨hdD (m.drop F)=false:=by
     cases hf
     ·right;simpa using e2
     ·left;rfl
    rw [if_pos ⟨by omega,by omega,e2⟩,if_pos ⟨e,e3⟩]
    unfold wrap
    dsimp only
    rw [e,← Int.add_assoc]
   ·have e3:¬ (hf=true∨hdD (m.drop F)=false):=by
     rintro (e3|e3)
     ·rw [e3] at e2;simp at e2
     ·rw [e3] at e2;simp at e2
    have e4:F<m.length:=by
     rcases Nat.lt_or_ge F m.length with y|y
     ·exact y
     ·rw [List.drop_eq_nil_of_le y] at e3;exact absurd (.inr rfl) e3
    rw [if_neg (fun x=>e2 x.2.2),if_neg (by rintro ⟨y,_⟩;omega),if_neg (fun x=>e3 x.2)]
    unfold stk wrap
    dsimp only
    rw [if_neg (by omega),hl,← Int.add_assoc]
  ·have hC:¬ (K=(F:Int)∧(hf=true∨hdD (m.drop F)=false)):=fun y=>e y.1
   rw [if_neg (by rintro ⟨_,y,_⟩;omega)]
   by_cases y:(i:Int)+((opL p).length+F:Nat)=t.size
   ·rw [if_pos ⟨y,by omega⟩,if_neg hC]
    unfold stk wrap
    dsimp only
    rw [if_pos (by omega),hl,← Int.add_assoc]
   ·rw [if_neg (fun x=>y x.1),if_neg hC]
    unfold stk wrap
    dsimp only
    rw [if_neg (by omega),hl,← Int.add_assoc]
theorem oneGo_none (z:Nat) (i:Int) (M:List UInt8):∀ (ws:List ByteArray) (k far:Nat),(∀ w ∈ ws,cmn M (bs w)≠w.size) →
  ∃ mx:Nat,oneGo z i M ws k far=stk z (i+mx)∧far≤mx∧(∀ w ∈ ws,cmn M (bs w)≤mx)∧(mx=far∨∃ w ∈ ws,cmn M (bs w)=mx)
 | [],k,far,_=>⟨far,rfl,Nat.le_refl _,fun w hw=>by simp at hw,.inl rfl⟩
 | w::ws,k,far,h=>by
  obtain ⟨mx,h1,h2,h3,h4⟩:=oneGo_none z i M ws (k+1) (max far (cmn M (bs w))) (fun x hx=>h x (by simp [hx]))
  refine ⟨mx,(oneGo_no (h w (by simp))).trans h1,by omega,?_,?_⟩
  ·intro x hx
   rcases List.mem_cons.1 hx with rfl|hx
   ·omega
   ·exact h3 x hx
  ·rcases h4 with h4|⟨x,hx,h4⟩
   ·rcases Nat.le_total far (cmn M (bs w)) with y|y
    ·exact .inr ⟨w,by simp,by rw [h4,Nat.max_eq_right y]⟩
    ·exact .inl (by rw [h4,Nat.max_eq_left y])
   ·exact .inr ⟨x,by simp [hx],h4⟩
theorem oneGo_some (z:Nat) (i:Int) (M:List UInt8):∀ (ws:List ByteArray) (k far j:Nat) (w:ByteArray),ws[j]?=some w→cmn M (bs w)=w.size →
  (∀ j',j'<j→∀ w',ws[j']?=some w'→cmn M (bs w')≠w'.size)→oneGo z i M ws k far=⟨i+w.size,((k+j:Nat):Int),0⟩
 | [],k,far,j,w,h,_,_=>by simp at h
 | a::ws,k,far,0,w,h,h1,_=>by
  simp at h
  rw [h,oneGo_yes h1,h1];rfl
 | a::ws,k,far,j+1,w,h,h1,h2=>by
  rw [oneGo_no (h2 0 (by omega) a rfl),oneGo_some z i M ws (k+1) _ j w (by simpa using h) h1 (fun j' hj w' hw'=>h2 (j'+1) (by omega) w' (by simpa using hw'))]
  rw [show k+1+j=k+(j+1) by omega]
theorem hdT_at {j:Nat} {p:Int × Int} (h:hdL[j]?=some p):hdT[j]?=some (opT p.1 p.2):=by unfold hdT;rw [List.getElem?_map,h];rfl
theorem hdS_at {j:Nat} {p:Int × Int} (h:hdL[j]?=some p):hdS.getD j Zt=⟨p.1,p.2,0,false⟩:=by unfold hdS;rw [List.getD,List.getElem?_map,h];rfl
theorem hdT_mem {w:ByteArray} (h:w ∈ hdT):∃ p ∈ hdL,w=opT p.1 p.2:=by
 unfold hdT at h
 obtain ⟨p,hp,e⟩:=List.mem_map.1 h
 exact ⟨p,hp,e.symm⟩
theorem opT_bs (p:Int × Int):bs (opT p.1 p.2)=opL p:=bs_opT _ _
theorem opT_size (p:Int × Int):(opT p.1 p.2).size=(opL p).length:=by rw [← bs_len,opT_bs]
theorem hd_apart:apB hdT=true:=by
 rw [apB_iff]
 refine ⟨by simp [hdT,hdL],?_,?_⟩
 ·intro x hx e
  obtain ⟨p,hp,rfl⟩:=hdT_mem hx
  rw [opT_bs] at e
  have:=(hdL_last hp).2.1
  rw [e] at this;simp at this
 ·unfold hdT
  rw [List.pairwise_map]
  have hnd:hdL.Nodup:=by decide
  have:=List.Pairwise.and_mem.1 hnd
  refine this.imp ?_
  rintro p q ⟨hp,hq,hne⟩
  rw [opT_bs,opT_bs]
  exact ⟨hdL_apart hp hq hne,hdL_apart hq hp (Ne.symm hne)⟩
theorem one_first {M:List UInt8} {p:Int × Int} (hp:p ∈ hdL) (h:opL p <+: M):∃ j:Nat,hdL[j]?=some p∧∀ (z:Nat) (i:Int),oneGo z i M hdT 0 0=⟨i+(opL p).length,(j:Int),0⟩:=by
 obtain ⟨j,hj,e⟩:=List.getElem_of_mem hp
 have hj2:hdL[j]?=some p:=by rw [List.getElem?_eq_getElem hj,e]
 refine ⟨j,hj2,fun z i=>?_⟩
 rw [oneGo_some z i M hdT 0 0 j _ (hdT_at hj2) (by rw [opT_bs,opT_size];exact (cmn_full _ _).2 h) ?_,opT_size,Nat.zero_add]
 intro j' hj' w' hw' hc
 obtain ⟨q,hq⟩:∃ q,hdL[j']?=some q:=⟨_,List.getElem?_eq_getElem (by omega)⟩
 rw [hdT_at hq] at hw'
 obtain rfl:opT q.1 q.2=w':=by simpa using hw'
 rw [opT_bs,opT_size] at hc
 have hpre:=(cmn_full _ _).1 hc
 have hne:q≠p:=by
  intro eq
  have hnd:hdL.Nodup:=by decide
  obtain ⟨l1,q1⟩:=List.getElem?_eq_some_iff.1 hq
  have:=(List.pairwise_iff_getElem.1 hnd) j' j l1 hj hj'
  exact this (by rw [q1,e,eq])
 rcases List.prefix_or_prefix_of_prefix hpre h with y|y
 ·exact hdL_apart (List.mem_of_getElem? hq) hp hne y
 ·exact hdL_apart hp (List.mem_of_getElem? hq) (Ne.symm hne) y
theorem numGo_ok (z:Nat) (i l u:Int):∀ (M:List UInt8) (j:Nat) (n:Int),0≤n→(numGo z i l u M j n).e=0 →
  ∃ q:Nat,(numGo z i l u M j n).a=i+q∧q≤j+M.length∧0≤(numGo z i l u M j n).n
 | [],j,n,hn,he=>by
  simp only [numGo] at he ⊢
  by_cases h:0<j∧l≤n
  ·rw [if_pos h];exact ⟨j,rfl,by omega,hn⟩
  ·rw [if_neg h] at he;simp at he
 | b::r,j,n,hn,he=>by
  by_cases hb:isD b=true
  ·by_cases h1:0<j∧n=0
   ·rw [nG_lead hb h1] at he;simp at he
   ·by_cases h2:u<10*n+(b.toNat-48)∨(j=0∧10*n+((b.toNat:Int)-48)=0∧0<l)
    ·rw [nG_over hb h1 h2] at he;simp at he
    ·rw [nG_next hb h1 h2] at he ⊢
     rw [isD_iff] at hb
     obtain ⟨q,q1,q2,q3⟩:=numGo_ok z i l u r (j+1) _ (by omega) he
     exact ⟨q,q1,by simp;omega,q3⟩
  ·by_cases h:0<j∧l≤n
   ·rw [nG_far_yes hb h];exact ⟨j,rfl,by omega,hn⟩
   ·rw [nG_far_no hb h] at he;simp at he
theorem word_at {t:ByteArray} {a:Nat} (h:a≤t.size) (w:ByteArray):wordP t w a=if cmn ((bs t).drop a) (bs w)=w.size then ⟨a+cmn ((bs t).drop a) (bs w),0,0⟩ else stk t.size (a+cmn ((bs t).drop a) (bs w)):=by
 unfold wordP
 rw [if_pos (by unfold inB;simp;omega)]
 rfl
theorem rdV_is {p:Int × Int} {t:ByteArray} {i:Nat} {m:List UInt8} (hM:(bs t).drop i=m) (hi:i≤t.size) :
  rdV t ⟨p.1,p.2,0,false⟩ (numGo t.size i (lstI (decide (p.1=5))) 64 m 0 0)=wrap p (prN t.size i (decide (p.1=5)) m):=by
 unfold rdV prN
 have hz:(t.size:Nat)=i+m.length:=by
  have:=congrArg List.length hM
  rw [List.length_drop,bs_len] at this
  omega
 by_cases he:(numGo t.size i (lstI (decide (p.1=5))) 64 m 0 0).e≠0
 ·rw [if_pos he,if_pos he];rfl
 ·rw [if_neg he,if_neg he]
  obtain ⟨q,q1,q2,q3⟩:=numGo_ok t.size i (lstI (decide (p.1=5))) 64 m 0 0 (by omega) (by simpa using he)
  generalize numGo t.size i (lstI (decide (p.1=5))) 64 m 0 0=u at *
  obtain ⟨ua,un,ue⟩:=u
  dsimp only at q1 q3 ⊢
  subst q1
  obtain ⟨N,rfl⟩:∃ N:Nat,un=N:=⟨un.toNat,by omega⟩
  have hq:(i:Int)+(q:Int)=((i+q:Nat):Int):=by omega
  have hd:(bs t).drop (i+q)=m.drop q:=by rw [← hM,List.drop_drop]
  rw [show ((i:Int)+q-i).toNat=q by omega]
  rw [hq]
  unfold goB
  rw [word_at (by omega),word_at (by omega),hd]
  have e1:bs dotT=[46]:=rfl
  have e2:bs hfT=[46,53]:=rfl
  have s1:dotT.size=1:=rfl
  have s2:hfT.size=2:=rfl
  rw [e1,e2,s1,s2]
  unfold prE
  dsimp only
  rw [show ((N:Int)).toNat=N from rfl]
  have g:(decide (p.1=5) && (decide ((N:Int)=0) || decide ((if cmn (m.drop q) [46]=1 then (⟨((i+q:Nat):Int)+cmn (m.drop q) [46],0,0⟩:Sp) else stk t.size (((i+q:Nat):Int)+cmn (m.drop q) [46])).e=0)))=true ↔
    (decide (p.1=5)=true∧((N:Int)=0∨cmn (m.drop q) [46]=1)):=by
   rw [Bool.and_eq_true,Bool.or_eq_true,decide_eq_true_eq (p:=(N:Int)=0)]
   refine and_congr_right fun _=>or_congr_right ?_
   rw [decide_eq_true_eq]
   by_cases c:cmn (m.drop q) [46]=1
   ·rw [if_pos c];simp [c]
   ·rw [if_neg c]
    exact ⟨fun h=>absurd h (stk_e _ _),fun h=>absurd h c⟩
  by_cases c:decide (p.1=5)=true∧((N:Int)=0∨cmn (m.drop q) [46]=1)
  ·rw [if_pos (g.2 c),if_pos c]
   unfold rdW
   by_cases c2:cmn (m.drop q) [46,53]=2
   ·rw [if_pos c2,if_neg (by simp),if_pos c2,c2];rfl
   ·rw [if_neg c2,if_pos (stk_e _ _),if_neg c2];rfl
  ·rw [if_neg (fun h=>c (g.1 h)),if_neg c];rfl
theorem read_eq (t:ByteArray) (i:Int):rdP t i=refP t i:=by
 unfold rdP refP
 by_cases hi:inB t i=true
 ·obtain ⟨a,rfl,ha⟩:=inB_yes hi
  rw [if_pos hi,oneP_yes hi hd_apart]
  show rdO t (oneGo t.size a ((bs t).drop a) hdT 0 0)=refE t a (rfGo ((bs t).drop a) allS (Zt,-1,0))
  have hT:=all_top ((bs t).drop a)
  by_cases h:∃ p ∈ hdL,opL p <+: (bs t).drop a
  ·obtain ⟨p,hp,hpre⟩:=h
   obtain ⟨m,hm⟩:=hpre
   obtain ⟨j,hj,ho⟩:=one_first hp (⟨m,hm⟩:opL p <+: (bs t).drop a)
   rw [ho,refE_some hp hm.symm ha (by rw [hm];exact hT)]
   unfold rdO
   rw [if_neg (by simp)]
   show rdV t (hdS.getD j Zt) (numP t ((a:Int)+(opL p).length) (lstI (decide ((hdS.getD j Zt).k=5))) 64)=_
   rw [hdS_at hj]
   have hz:(t.size:Nat)=a+(opL p).length+m.length:=by
    have:=congrArg List.length hm
    rw [List.length_drop,bs_len,List.length_append] at this
    omega
   have hd:(bs t).drop (a+(opL p).length)=m:=by rw [← List.drop_drop,← hm,List.drop_left]
   have hnum:numP t ((a:Int)+(opL p).length) (lstI (decide (p.1=5))) 64=numGo t.size ((a+(opL p).length:Nat):Int) (lstI (decide (p.1=5))) 64 m 0 0:=by
    unfold numP
    rw [if_pos,show ((a:Int)+(opL p).length).toNat=a+(opL p).length by omega,hd]
    ·rfl
    ·unfold numB inB
     have:(0:Int)≤lstI (decide (p.1=5))∧lstI (decide (p.1=5))≤1:=by cases decide (p.1=5) <;> decide
     simp
     omega
   dsimp only
   rw [hnum,rdV_is hd (by omega),prN_is _ _ _ _ (by omega)]
   rw [show ((a+(opL p).length:Nat):Int)=(a:Int)+(opL p).length by omega]
  ·have hno:∀ p ∈ hdL,¬ opL p <+: (bs t).drop a:=fun p hp hx=>h ⟨p,hp,hx⟩
   obtain ⟨mx,h1,h2,h3,h4⟩:=oneGo_none t.size a ((bs t).drop a) hdT 0 0 (by
    intro w hw e
    obtain ⟨p,hp,rfl⟩:=hdT_mem hw
    rw [opT_bs,opT_size] at e
    exact hno p hp ((cmn_full _ _).1 e))
   have hx:=top_none hT hno mx (by
     intro p hp
     have:=h3 (opT p.1 p.2) (List.mem_map.2 ⟨p,hp,rfl⟩)
     rwa [opT_bs] at this) (by
     rcases h4 with h4|⟨w,hw,h4⟩
     ·exact .inl h4
     ·obtain ⟨p,hp,rfl⟩:=hdT_mem hw
      rw [opT_bs] at h4
      exact .inr ⟨p,hp,h4⟩)
   rw [h1,hx]
   unfold rdO refE
   rw [if_pos (stk_e _ _),if_neg (by rintro ⟨y,_⟩;simp at y)]
   unfold stk
   dsimp only
   by_cases y:(a:Int)+mx=t.size
   ·rw [if_pos y,if_pos ⟨y,by omega⟩]
   ·rw [if_neg y,if_neg (fun z=>y z.1)]
 ·rw [if_neg hi]
  rw [oneP_no (fun h=>hi h.1)]
  rfl
end Go.Proofs.YtlbipjmmlobofaaGreatDoor
