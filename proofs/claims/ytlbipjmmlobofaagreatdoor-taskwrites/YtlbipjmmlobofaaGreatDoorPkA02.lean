/- LxC · LxD · LxE · LxG: my texts, in their order. -/
import Derived.Test.YtlbipjmmlobofaaGreatDoorPkA01
namespace Go.Proofs.YtlbipjmmlobofaaGreatDoor
open Go.RowKit
set_option linter.unusedVariables false
set_option linter.unusedSimpArgs false
set_option maxRecDepth 100000
set_option maxHeartbeats 4000000

theorem common_at (t v:ByteArray) (m:Nat) (hm:m≤t.size) (ht:t.size≤1000) (hv:v.size≤1000) (w:World) :
  Calls Tryz.prog 71 #[.string (t.extract m t.size),.string v] w fun e w'=>e=.returned (.int .i64 (cmn ((bs t).drop m) (bs v):Nat))∧Kept w w':=by
 rw [← bs_rest]
 refine common_is _ v ?_ hv w
 rw [ByteArray.size_extract];omega
theorem inB_yes {t:ByteArray} {i:Int} (h:inB t i=true):∃ m:Nat,i=m∧m≤t.size:=by
 simp [inB] at h
 obtain ⟨m,rfl⟩:=Int.eq_ofNat_of_zero_le h.1
 exact ⟨m,rfl,by omega⟩
theorem cmn_room (t v:ByteArray) (m:Nat) (hm:m≤t.size):cmn ((bs t).drop m) (bs v)≤v.size∧m+cmn ((bs t).drop m) (bs v)≤t.size:=by
 have h1:=cmn_l ((bs t).drop m) (bs v)
 have h2:=cmn_r ((bs t).drop m) (bs v)
 rw [List.length_drop,bs_len] at h1
 rw [bs_len] at h2
 omega
theorem word_is (t v:ByteArray) (i:Int) (ht:t.size≤1000) (hv:v.size≤1000) (w:World) :
  Calls Tryz.prog 34 #[.string t,.int .i64 i,.string v] w fun e w'=>e=.returned (sv (wordP t v i))∧Kept w w':=by
 have HS:=Qh (SAt.new w Zs)
 have HI:=Qh (lwithin_is t i)
 cases hb:inB t i with
 | false =>
  rw [hb] at HI
  have HE:=Qh (show wordP t v i=argS by unfold wordP;rw [if_neg (by rw [hb];decide)])
  clear hb
  go_enter Tryz.func34,Tryz.ntmps34
  go_wp2_with (with_reducible refine wpList_new_sp rfl rfl ?_)
  refine (HI.out _).mono ?_
  rintro e w1 ⟨rfl,rfl⟩
  go_wp2_with fail
  refine (refused_is _).mono ?_
  rintro e w2 ⟨rfl,k2⟩
  have H2:=Qh (HS.out.kept k2)
  have K2:=Qh (((Kept.refl w).alloc _).trans k2)
  clear k2
  go_wp2_with (refine wpList_store_sp rfl _ _ rfl w.heap.size Zs argS H2.out rfl rfl ?_)
  refine bodyPost_ret (v:=sv argS) ?_ rfl ⟨by rw [HE.out],K2.out.setRow (by omega) _⟩
  exact (ret_sp rfl H2.out rfl).trans rfl
 | true =>
  rw [hb] at HI
  obtain ⟨m,rfl,hm⟩:=inB_yes hb
  have HC:=Qh (common_at t v m hm ht hv)
  have hr:=cmn_room t v m hm
  have HE:=Qh (show wordP t v m=if cmn ((bs t).drop m) (bs v)=v.size then ⟨(m:Int)+(cmn ((bs t).drop m) (bs v):Nat),0,0⟩ else stk t.size ((m:Int)+(cmn ((bs t).drop m) (bs v):Nat)) by unfold wordP;rw [if_pos hb];rfl)
  clear hb
  generalize cmn ((bs t).drop m) (bs v)=n at *
  by_cases hn:n=v.size
  ·have HE':=Qh (HE.out.trans (if_pos hn))
   have hlt:¬ (n:Int)<v.size:=by omega
   clear HE hn
   go_enter Tryz.func34,Tryz.ntmps34
   go_wp2_with (with_reducible refine wpList_new_sp rfl rfl ?_)
   refine (HI.out _).mono ?_
   rintro e w1 ⟨rfl,rfl⟩
   go_wp2_with fail
   refine (HC.out _).mono ?_
   rintro e w2 ⟨rfl,k2⟩
   have H2:=Qh (HS.out.kept k2)
   have K2:=Qh (((Kept.refl w).alloc _).trans k2)
   clear k2
   go_wp2_with (first|(refine wpList_bt_sa rfl _ rfl ((m:Int)+n) rfl ?_)|(refine wpList_store_sp rfl _ _ rfl w.heap.size Zs ⟨(m:Int)+n,0,0⟩ H2.out rfl rfl ?_))
   refine bodyPost_ret (v:=sv ⟨(m:Int)+n,0,0⟩) ?_ rfl ⟨by rw [HE'.out],K2.out.setRow (by omega) _⟩
   exact (ret_sp rfl H2.out rfl).trans rfl
  ·have HE':=Qh (HE.out.trans (if_neg hn))
   have hlt:(n:Int)<v.size:=by omega
   have HQ:=Qh (stuck_is t ((m:Int)+n))
   clear HE hn
   go_enter Tryz.func34,Tryz.ntmps34
   go_wp2_with (with_reducible refine wpList_new_sp rfl rfl ?_)
   refine (HI.out _).mono ?_
   rintro e w1 ⟨rfl,rfl⟩
   go_wp2_with fail
   refine (HC.out _).mono ?_
   rintro e w2 ⟨rfl,k2⟩
   have H2:=Qh (HS.out.kept k2)
   have K2:=Qh (((Kept.refl w).alloc _).trans k2)
   clear k2
   go_wp2_with fail
   refine (HQ.out _).mono ?_
   rintro e w3 ⟨rfl,k3⟩
   have H3:=Qh (H2.out.kept k3)
   have K3:=Qh (K2.out.trans k3)
   clear k3
   go_wp2_with (refine wpList_store_sp rfl _ _ rfl w.heap.size Zs _ H3.out rfl rfl ?_)
   refine bodyPost_ret (v:=sv (stk t.size ((m:Int)+n))) ?_ rfl ⟨by rw [HE'.out],K3.out.setRow (by omega) _⟩
   exact (ret_sp rfl H3.out rfl).trans rfl
set_option maxHeartbeats 4000000

structure It (w wr:World) (s:ByteArray) (p:Nat):Prop where
 kept:Kept w wr
 cell:SAt wr w.heap.size Zs
 iter:wr.heap[w.heap.size+1]?=some (.stringIter s p)
theorem It.start (w:World) (s:ByteArray):It w ((w.alloc (.cells (sl Zs).toArray 64)).iter s 0) s 0:=by
 have hs:(w.alloc (.cells (sl Zs).toArray 64)).heap.size=w.heap.size+1:=by show (w.heap.push _).size=_;simp
 refine ⟨(Kept.refl w).alloc _ |>.trans (Kept.of_grown (grown_iter _ _ _)),(SAt.new w Zs).kept (Kept.of_grown (grown_iter _ _ _)),?_⟩
 have:=World.iter_heap (w.alloc (.cells (sl Zs).toArray 64)) s 0
 rwa [hs] at this
theorem It.next {w wr:World} {s:ByteArray} {p:Nat} (h:It w wr s p) (q:Nat):It w (iterAt wr (w.heap.size+1) s q) s q:=by
 refine ⟨h.kept.iterAt (by omega) s q,⟨?_⟩,iterAt_heap h.iter s q⟩
 show (wr.heap.setIfInBounds (w.heap.size+1) _)[w.heap.size]?=_
 rw [Array.getElem?_setIfInBounds_ne (by omega)]
 exact h.cell.at_
theorem sign_at (s:ByteArray) (p:Nat) (hp:p<s.size):∃ q k b,Utf8.decode s p=(q,k)∧(bs s)[p]?=some b∧1≤k∧q≤2147483647∧((q<128∧q=b.toNat∧k=1)∨(128≤q∧128≤b.toNat)) ∧
  (∀ j,p<j→j<p+k→∃ c,(bs s)[j]?=some c∧128≤c.toNat):=by
 refine ⟨(Utf8.decode s p).1,(Utf8.decode s p).2,s[p]'hp,rfl,bs_getq s p hp,width_pos s p hp,decode_le s p,?_,?_⟩
 ·by_cases h:(s[p]'hp).toNat<128
  ·left;rw [decode_ascii s p hp h];exact ⟨h,rfl,rfl⟩
  ·right;exact ⟨(decode_high s p hp (by omega)).1,by omega⟩
 ·intro j h1 h2
  by_cases h:(s[p]'hp).toNat<128
  ·rw [decode_ascii s p hp h] at h2;omega
  ·exact sign_high s p hp h j (by omega) h2

theorem sqP_in {t:ByteArray} {m:Nat} (hm:m≤t.size):sqP t m=sqGo m ((bs t).drop m):=by
 unfold sqP
 rw [if_pos (by simp [inB];omega)]
 rfl
theorem sq_end {t:ByteArray} {m:Nat} (h:m=t.size):sqP t m=⟨m,0,1⟩:=by
 rw [sqP_in (by omega),List.drop_eq_nil_of_le (by rw [bs_len];omega)]
 rfl
theorem sq_far {t:ByteArray} {m:Nat} {a:UInt8} (h:(bs t)[m]?=some a) (ha:a.toNat<97∨104<a.toNat):sqP t m=⟨m,0,2⟩:=by
 obtain ⟨l1,e1⟩:=List.getElem?_eq_some_iff.1 h
 have:=bs_len t
 rw [sqP_in (by omega),List.drop_eq_getElem_cons l1,e1]
 dsimp only [sqGo]
 rw [if_pos ha]
theorem sq_one {t:ByteArray} {m:Nat} {a:UInt8} (h:(bs t)[m]?=some a) (a0:97≤a.toNat) (a1:a.toNat≤104) (he:m+1=t.size):sqP t m=⟨(m:Int)+1,0,1⟩:=by
 obtain ⟨l1,e1⟩:=List.getElem?_eq_some_iff.1 h
 have:=bs_len t
 rw [sqP_in (by omega),List.drop_eq_getElem_cons l1,e1,List.drop_eq_nil_of_le (by omega)]
 dsimp only [sqGo]
 rw [if_neg (by omega)]
theorem sq_bad {t:ByteArray} {m:Nat} {a b:UInt8} (h:(bs t)[m]?=some a) (h2:(bs t)[m+1]?=some b) (a0:97≤a.toNat) (a1:a.toNat≤104) (hb:b.toNat<49∨56<b.toNat):sqP t m=⟨(m:Int)+1,0,2⟩:=by
 obtain ⟨l1,e1⟩:=List.getElem?_eq_some_iff.1 h
 obtain ⟨l2,e2⟩:=List.getElem?_eq_some_iff.1 h2
 have:=bs_len t
 rw [sqP_in (by omega),List.drop_eq_getElem_cons l1,e1,List.drop_eq_getElem_cons l2,e2]
 dsimp only [sqGo]
 rw [if_neg (by omega)]
 rw [if_pos hb]
theorem sq_yes {t:ByteArray} {m:Nat} {a b:UInt8} (h:(bs t)[m]?=some a) (h2:(bs t)[m+1]?=some b) (a0:97≤a.toNat) (a1:a.toNat≤104) (b0:49≤b.toNat) (b1:b.toNat≤56):sqP t m=⟨(m:Int)+2,((8*(b.toNat-49)+(a.toNat-97):Nat):Int),0⟩:=by
 obtain ⟨l1,e1⟩:=List.getElem?_eq_some_iff.1 h
 obtain ⟨l2,e2⟩:=List.getElem?_eq_some_iff.1 h2
 have:=bs_len t
 rw [sqP_in (by omega),List.drop_eq_getElem_cons l1,e1,List.drop_eq_getElem_cons l2,e2]
 dsimp only [sqGo]
 rw [if_neg (by omega)]
 rw [if_neg (by omega)]
 congr 1
 omega
set_option maxHeartbeats 4000000

theorem lrun_rest (t:ByteArray) (m:Nat) (hm:m≤t.size) (s:ByteArray) (hs:t.extract m t.size=s) (w:World) :
  (Instr.slice 9 (.string t) (some (.int .i64 m)) none none).run Tryz.prog w=.ok (.string s) w:=by
 rw [run_slice_string_from_if (h:=Tryz.underlying9),if_pos (by omega),← hs]
 rfl
theorem rest_facts {t s:ByteArray} {m:Nat} (hm:m≤t.size) (hs:t.extract m t.size=s):s.size=t.size-m∧bs s=(bs t).drop m:=by
 subst hs
 exact ⟨by rw [ByteArray.size_extract];omega,bs_rest t m⟩
theorem square_is (t:ByteArray) (i:Int) (ht:t.size≤1000) (w:World) :
  Calls Tryz.prog 123 #[.string t,.int .i64 i] w fun e w'=>e=.returned (sv (sqP t i))∧Kept w w':=by
 have HS:=Qh (SAt.new w Zs)
 have HI:=Qh (lwithin_is t i)
 cases hb:inB t i with
 | false =>
  rw [hb] at HI
  have HE:=Qh (show sqP t i=argS by unfold sqP;rw [if_neg (by rw [hb];decide)])
  clear hb
  go_enter Tryz.func123,Tryz.ntmps123
  go_wp2_with (with_reducible refine wpList_new_sp rfl rfl ?_)
  refine (HI.out _).mono ?_
  rintro e w1 ⟨rfl,rfl⟩
  go_wp2_with fail
  refine (refused_is _).mono ?_
  rintro e w2 ⟨rfl,k2⟩
  have H2:=Qh (HS.out.kept k2)
  have K2:=Qh (((Kept.refl w).alloc _).trans k2)
  clear k2
  go_wp2_with (refine wpList_store_sp rfl _ _ rfl w.heap.size Zs argS H2.out rfl rfl ?_)
  refine bodyPost_ret (v:=sv argS) ?_ rfl ⟨by rw [HE.out],K2.out.setRow (by omega) _⟩
  exact (ret_sp rfl H2.out rfl).trans rfl
 | true =>
  rw [hb] at HI
  obtain ⟨m,rfl,hm⟩:=inB_yes hb
  clear hb
  obtain ⟨s,hs⟩:∃ s,t.extract m t.size=s:=⟨_,rfl⟩
  obtain ⟨hz,hbs⟩:=rest_facts hm hs
  have hsl:=lrun_rest t m hm s hs
  have HB:=Qh (show ∀ p,(bs t)[m+p]?=(bs s)[p]? from fun p=>by rw [hbs,List.getElem?_drop])
  have HQ:=Qh (stuck_is t)
  clear hs hbs
  go_enter Tryz.func123,Tryz.ntmps123
  go_wp2_with (with_reducible refine wpList_new_sp rfl rfl ?_)
  refine (HI.out _).mono ?_
  rintro e w1 ⟨rfl,rfl⟩
  go_wp2
  go_loopw [5] (fun t5 wr=>∃ (p:Nat) (f:Int),t5=.int .i64 f∧It w wr s p∧((p=0∧f=0)∨(p=1∧∃ a,(bs s)[0]?=some a∧97≤a.toNat∧a.toNat≤104∧f=a.toNat-97))) (fun _ wr=>s.size-wr.iterPos (w.heap.size+1))
  case atStart=>exact ⟨0,0,rfl,It.start w s,.inl ⟨rfl,rfl⟩⟩
  case round =>
   obtain ⟨p,f,rfl,hIt,hst⟩:=hrel
   have HIt:=Qh hIt
   clear hIt
   by_cases hp:p<s.size
   ·obtain ⟨q,k,b,hd,hb,hk,hq,hqb,_⟩:=sign_at s p hp
    have hnx:=fun ty=>next_at (P:=Tryz.prog) wr (w.heap.size+1) s p ty HIt.out.iter hp
    simp only [hd] at hnx
    clear hd
    rcases hst with ⟨rfl,rfl⟩|⟨rfl,a,ha,a0,a1,rfl⟩
    ·by_cases hr:97≤q∧q≤104
     ·obtain ⟨r0,r1⟩:=hr
      obtain ⟨_,rfl,rfl⟩:q<128∧q=b.toNat∧k=1:=by omega
      have HN:=Qh (HIt.out.next 1)
      have HbB:=Qh hb
      clear hb hqb
      go_wp2_with fail
      refine (at_yes _ _ _ (by omega) (by omega) (by omega) (by omega)).mono ?_
      rintro e w2 ⟨rfl,rfl⟩
      go_wp2
      go_roundw
      case rel=>exact ⟨1,_,rfl,HN.out,.inr ⟨rfl,b,HbB.out,r0,r1,rfl⟩⟩
      case measure=>simp [World.iterPos,HN.out.iter,HIt.out.iter];omega
     ·have hbr:b.toNat<97∨104<b.toNat:=by omega
      have HE:=Qh (sq_far ((show (bs t)[m]?=(bs s)[0]? from HB.out 0).trans hb) hbr)
      have HN:=Qh (HIt.out.next k)
      have HV:=Qh (show stk t.size m=⟨m,0,2⟩ from if_neg (by omega))
      have hr':(q:Int)-97<0∨8≤(q:Int)-97∨(0:Int)<0∨8≤(0:Int):=by omega
      clear hb hqb hbr hr
      go_wp2_with fail
      refine (at_no _ _ _ hr').mono ?_
      rintro e w2 ⟨rfl,rfl⟩
      go_wp2_with fail
      refine (HQ.out _ _).mono ?_
      rintro e w3 ⟨rfl,k3⟩
      have H3:=Qh (HN.out.cell.kept k3)
      have K3:=Qh (HN.out.kept.trans k3)
      clear k3
      go_wp2_with (refine wpList_store_sp rfl _ _ rfl w.heap.size Zs _ H3.out rfl rfl ?_)
      refine bodyPost_ret (v:=sv (stk t.size m)) ?_ rfl ⟨by rw [HE.out,HV.out];first|done|rfl,K3.out.setRow (by omega) _⟩
      exact (ret_sp rfl H3.out rfl).trans rfl
    ·have HA:=Qh ha
     clear ha
     by_cases hr:49≤q∧q≤56
     ·obtain ⟨r0,r1⟩:=hr
      obtain ⟨_,rfl,rfl⟩:q<128∧q=b.toNat∧k=1:=by omega
      have HE:=Qh (sq_yes ((show (bs t)[m]?=(bs s)[0]? from HB.out 0).trans HA.out) ((HB.out 1).trans hb) a0 a1 r0 r1)
      have HN:=Qh (HIt.out.next 2)
      clear hb hqb
      go_wp2_with fail
      refine (at_yes _ _ _ (by omega) (by omega) (by omega) (by omega)).mono ?_
      rintro e w2 ⟨rfl,rfl⟩
      have H3:=Qh HN.out.cell
      have K3:=Qh HN.out.kept
      go_wp2_with (first|(refine wpList_bt_sn rfl _ _ rfl _ _ rfl rfl ?_)|(refine wpList_store_sp rfl _ _ rfl w.heap.size Zs _ H3.out rfl rfl ?_))
      refine bodyPost_ret (v:=sv (sqP t m)) ?_ rfl ⟨rfl,K3.out.setRow (by omega) _⟩
      rw [HE.out]
      refine (ret_sp rfl H3.out rfl).trans ?_
      simp [sv];omega
     ·have hbr:b.toNat<49∨56<b.toNat:=by omega
      have HE:=Qh (sq_bad ((show (bs t)[m]?=(bs s)[0]? from HB.out 0).trans HA.out) ((HB.out 1).trans hb) a0 a1 hbr)
      have HN:=Qh (HIt.out.next (1+k))
      have HV:=Qh (show stk t.size ((m:Int)+1)=⟨(m:Int)+1,0,2⟩ from if_neg (by omega))
      have hr':(a.toNat:Int)-97<0∨8≤(a.toNat:Int)-97∨(q:Int)-49<0∨8≤(q:Int)-49:=by omega
      clear hb hqb hbr hr
      go_wp2_with fail
      refine (at_no _ _ _ hr').mono ?_
      rintro e w2 ⟨rfl,rfl⟩
      go_wp2_with fail
      refine (HQ.out _ _).mono ?_
      rintro e w3 ⟨rfl,k3⟩
      have H3:=Qh (HN.out.cell.kept k3)
      have K3:=Qh (HN.out.kept.trans k3)
      clear k3
      go_wp2_with (refine wpList_store_sp rfl _ _ rfl w.heap.size Zs _ H3.out rfl rfl ?_)
      refine bodyPost_ret (v:=sv (stk t.size ((m:Int)+1))) ?_ rfl ⟨by rw [HE.out,HV.out];first|done|rfl,K3.out.setRow (by omega) _⟩
      exact (ret_sp rfl H3.out rfl).trans rfl
   ·have hnx:=fun ty=>next_at_end (P:=Tryz.prog) wr (w.heap.size+1) s p ty HIt.out.iter hp
    have HE:Hid (sqP t m=⟨t.size,0,1⟩):=by
     rcases hst with ⟨rfl,rfl⟩|⟨rfl,a,ha,a0,a1,rfl⟩
     ·show _=_
      rw [sq_end (by omega),show m=t.size by omega]
     ·have h1:0<s.size:=by
       have:=(List.getElem?_eq_some_iff.1 ha).1
       rw [bs_len] at this;exact this
      show _=_
      rw [sq_one ((show (bs t)[m]?=(bs s)[0]? from HB.out 0).trans ha) a0 a1 (by omega),show (t.size:Int)=m+1 by omega]
    have HV:=Qh (show stk t.size t.size=⟨t.size,0,1⟩ from if_pos rfl)
    clear hst
    go_wp2_with fail
    refine (HQ.out _ _).mono ?_
    rintro e w3 ⟨rfl,k3⟩
    have H3:=Qh (HIt.out.cell.kept k3)
    have K3:=Qh (HIt.out.kept.trans k3)
    clear k3
    go_wp2_with (refine wpList_store_sp rfl _ _ rfl w.heap.size Zs _ H3.out rfl rfl ?_)
    refine bodyPost_ret (v:=sv (stk t.size t.size)) ?_ rfl ⟨by rw [HE.out,HV.out];first|done|rfl,K3.out.setRow (by omega) _⟩
    exact (ret_sp rfl H3.out rfl).trans rfl
set_option maxHeartbeats 4000000

theorem drop_of {l:List UInt8} {p:Nat} {b:UInt8} (h:l[p]?=some b):l.drop p=b::l.drop (p+1):=by
 obtain ⟨l1,e1⟩:=List.getElem?_eq_some_iff.1 h
 rw [List.drop_eq_getElem_cons l1,e1]
section
variable {z j:Nat} {i l u n:Int} {b:UInt8} {r:List UInt8}
theorem isD_yes (h0:48≤b.toNat) (h1:b.toNat≤57):isD b=true:=by simp [isD,h0,h1]
theorem isD_no (h:b.toNat<48∨57<b.toNat):¬ isD b=true:=by simp [isD];omega
theorem nG_end_no (h:¬ (0<j∧l≤n)):numGo z i l u [] j n=⟨i+j,0,1⟩:=by simp only [numGo];rw [if_neg h]
theorem nG_end_yes (h:0<j∧l≤n):numGo z i l u [] j n=⟨i+j,n,0⟩:=by simp only [numGo];rw [if_pos h]
theorem nG_far_no (hb:¬ isD b=true) (h:¬ (0<j∧l≤n)):numGo z i l u (b::r) j n=⟨i+j,0,2⟩:=by simp only [numGo];rw [if_neg hb,if_neg h]
theorem nG_far_yes (hb:¬ isD b=true) (h:0<j∧l≤n):numGo z i l u (b::r) j n=⟨i+j,n,0⟩:=by simp only [numGo];rw [if_neg hb,if_pos h]
theorem nG_lead (hb:isD b=true) (h:0<j∧n=0):numGo z i l u (b::r) j n=⟨i+j,0,2⟩:=by simp only [numGo];rw [if_pos hb,if_pos h]
theorem nG_over (hb:isD b=true) (h:¬ (0<j∧n=0)) (h2:u<10*n+(b.toNat-48)∨(j=0∧10*n+((b.toNat:Int)-48)=0∧0<l)):numGo z i l u (b::r) j n=⟨i+j,0,2⟩:=by simp only [numGo];rw [if_pos hb,if_neg h,if_pos h2]
theorem nG_next (hb:isD b=true) (h:¬ (0<j∧n=0)) (h2:¬ (u<10*n+(b.toNat-48)∨(j=0∧10*n+((b.toNat:Int)-48)=0∧0<l))):numGo z i l u (b::r) j n=numGo z i l u r (j+1) (10*n+(b.toNat-48)):=by
 simp only [numGo];rw [if_pos hb,if_neg h,if_neg h2]
end
theorem num_no {t:ByteArray} {i l u:Int} (h:numB t i l u=false):inB t i=false∨(inB t i=true∧l<0)∨(inB t i=true∧0≤l∧u<l)∨(inB t i=true∧0≤l∧l≤u∧1000000<u):=by
 unfold numB at h
 cases hb:inB t i with
 | false=>exact .inl rfl
 | true =>
  rw [hb] at h
  simp at h
  by_cases h1:l<0
  ·exact .inr (.inl ⟨rfl,h1⟩)
  ·by_cases h2:u<l
   ·exact .inr (.inr (.inl ⟨rfl,by omega,h2⟩))
   ·exact .inr (.inr (.inr ⟨rfl,by omega,by omega,h (by omega) (by omega)⟩))
theorem num_yes {t:ByteArray} {i l u:Int} (h:numB t i l u=true):inB t i=true∧0≤l∧l≤u∧u≤1000000:=by
 unfold numB at h
 simp at h
 exact ⟨h.1,h.2.1,h.2.2.1,h.2.2.2⟩
theorem number_is (t:ByteArray) (i l u:Int) (ht:t.size≤1000) (w:World) :
  Calls Tryz.prog 111 #[.string t,.int .i64 i,.int .i64 l,.int .i64 u] w fun e w'=>e=.returned (sv (numP t i l u))∧Kept w w':=by
 have HS:=Qh (SAt.new w Zs)
 have HI:=Qh (lwithin_is t i)
 cases hb:numB t i l u with
 | false =>
  have HE:=Qh (show numP t i l u=argS by unfold numP;rw [if_neg (by rw [hb];decide)])
  rcases num_no hb with h|⟨h,h0⟩|⟨h,h0,h1⟩|⟨h,h0,h1,h2⟩
  ·rw [h] at HI
   clear hb h
   go_enter Tryz.func111,Tryz.ntmps111
   go_wp2_with (with_reducible refine wpList_new_sp rfl rfl ?_)
   refine (HI.out _).mono ?_
   rintro e w1 ⟨rfl,rfl⟩
   go_wp2_with fail
   refine (refused_is _).mono ?_
   rintro e w2 ⟨rfl,k2⟩
   have H2:=Qh (HS.out.kept k2)
   have K2:=Qh (((Kept.refl w).alloc _).trans k2)
   clear k2
   go_wp2_with (refine wpList_store_sp rfl _ _ rfl w.heap.size Zs argS H2.out rfl rfl ?_)
   refine bodyPost_ret (v:=sv argS) ?_ rfl ⟨by rw [HE.out],K2.out.setRow (by omega) _⟩
   exact (ret_sp rfl H2.out rfl).trans rfl
  ·rw [h] at HI
   clear hb h
   go_enter Tryz.func111,Tryz.ntmps111
   go_wp2_with (with_reducible refine wpList_new_sp rfl rfl ?_)
   refine (HI.out _).mono ?_
   rintro e w1 ⟨rfl,rfl⟩
   go_wp2_with fail
   refine (refused_is _).mono ?_
   rintro e w2 ⟨rfl,k2⟩
   have H2:=Qh (HS.out.kept k2)
   have K2:=Qh (((Kept.refl w).alloc _).trans k2)
   clear k2
   go_wp2_with (refine wpList_store_sp rfl _ _ rfl w.heap.size Zs argS H2.out rfl rfl ?_)
   refine bodyPost_ret (v:=sv argS) ?_ rfl ⟨by rw [HE.out],K2.out.setRow (by omega) _⟩
   exact (ret_sp rfl H2.out rfl).trans rfl
  ·rw [h] at HI
   clear hb h
   go_enter Tryz.func111,Tryz.ntmps111
   go_wp2_with (with_reducible refine wpList_new_sp rfl rfl ?_)
   refine (HI.out _).mono ?_
   rintro e w1 ⟨rfl,rfl⟩
   go_wp2_with fail
   refine (refused_is _).mono ?_
   rintro e w2 ⟨rfl,k2⟩
   have H2:=Qh (HS.out.kept k2)
   have K2:=Qh (((Kept.refl w).alloc _).trans k2)
   clear k2
   go_wp2_with (refine wpList_store_sp rfl _ _ rfl w.heap.size Zs argS H2.out rfl rfl ?_)
   refine bodyPost_ret (v:=sv argS) ?_ rfl ⟨by rw [HE.out],K2.out.setRow (by omega) _⟩
   exact (ret_sp rfl H2.out rfl).trans rfl
  ·rw [h] at HI
   clear hb h
   go_enter Tryz.func111,Tryz.ntmps111
   go_wp2_with (with_reducible refine wpList_new_sp rfl rfl ?_)
   refine (HI.out _).mono ?_
   rintro e w1 ⟨rfl,rfl⟩
   go_wp2_with fail
   refine (refused_is _).mono ?_
   rintro e w2 ⟨rfl,k2⟩
   have H2:=Qh (HS.out.kept k2)
   have K2:=Qh (((Kept.refl w).alloc _).trans k2)
   clear k2
   go_wp2_with (refine wpList_store_sp rfl _ _ rfl w.heap.size Zs argS H2.out rfl rfl ?_)
   refine bodyPost_ret (v:=sv argS) ?_ rfl ⟨by rw [HE.out],K2.out.setRow (by omega) _⟩
   exact (ret_sp rfl H2.out rfl).trans rfl
 | true =>
  obtain ⟨hi,l0,l1,u1⟩:=num_yes hb
  rw [hi] at HI
  obtain ⟨m,rfl,hm⟩:=inB_yes hi
  have HG0:=Qh (show numP t m l u=numGo t.size m l u ((bs t).drop m) 0 0 by unfold numP;rw [if_pos hb];rfl)
  clear hb hi
  obtain ⟨s,hs⟩:∃ s,t.extract m t.size=s:=⟨_,rfl⟩
  obtain ⟨hz,hbs⟩:=rest_facts hm hs
  have hsl:=lrun_rest t m hm s hs
  rw [← hbs] at HG0
  have HQ:=Qh (stuck_is t)
  generalize numP t m l u=G at *
  clear hs hbs
  go_enter Tryz.func111,Tryz.ntmps111
  go_wp2_with (with_reducible refine wpList_new_sp rfl rfl ?_)
  refine (HI.out _).mono ?_
  rintro e w1 ⟨rfl,rfl⟩
  go_wp2
  go_loopw [9,10] (fun t9 t10 wr=>∃ (p:Nat) (n:Int),t9=.int .i64 n∧t10=.int .i64 t.size∧It w wr s p∧p≤s.size∧0≤n∧n≤u∧G=numGo t.size m l u ((bs s).drop p) p n) (fun _ _ wr=>s.size-wr.iterPos (w.heap.size+1))
  case atStart=>exact ⟨0,0,rfl,rfl,It.start w s,by omega,by omega,by omega,HG0.out⟩
  case round =>
   obtain ⟨p,n,rfl,rfl,hIt,hps,n0,n1,hG⟩:=hrel
   have HIt:=Qh hIt
   have HG:=Qh hG
   clear hIt hG
   by_cases hp:p<s.size
   ·obtain ⟨q,k,b,hd,hb,hk,hq,hqb,_⟩:=sign_at s p hp
    have hnx:=fun ty=>next_at (P:=Tryz.prog) wr (w.heap.size+1) s p ty HIt.out.iter hp
    simp only [hd] at hnx
    have HC:=Qh (show G=numGo t.size m l u (b::(bs s).drop (p+1)) p n by rw [HG.out,drop_of hb])
    have HV:=Qh (show stk t.size ((m:Int)+p)=⟨(m:Int)+p,0,2⟩ from if_neg (by omega))
    clear hd hb
    by_cases hr:48≤q∧q≤57
    ·obtain ⟨r0,r1⟩:=hr
     obtain ⟨_,rfl,rfl⟩:q<128∧q=b.toNat∧k=1:=by omega
     have hD:=isD_yes r0 r1
     have HN:=Qh (HIt.out.next (p+1))
     clear hqb
     by_cases hz0:0<p∧n=0
     ·have HE:=Qh (HC.out.trans (nG_lead hD hz0))
      obtain ⟨z0,rfl⟩:=hz0
      clear hD
      go_wp2_with fail
      refine (HQ.out _ _).mono ?_
      rintro e w3 ⟨rfl,k3⟩
      have H3:=Qh (HN.out.cell.kept k3)
      have K3:=Qh (HN.out.kept.trans k3)
      clear k3
      go_wp2_with (refine wpList_store_sp rfl _ _ rfl w.heap.size Zs _ H3.out rfl rfl ?_)
      refine bodyPost_ret (v:=sv (stk t.size ((m:Int)+p))) ?_ rfl ⟨by rw [HE.out,HV.out];first|done|rfl,K3.out.setRow (by omega) _⟩
      exact (ret_sp rfl H3.out rfl).trans rfl
     ·by_cases hov:u<10*n+((b.toNat:Int)-48)
      ·have HE:=Qh (HC.out.trans (nG_over hD hz0 (.inl hov)))
       have hlt:p=0∨(0<p∧n≠0):=by omega
       clear hD hz0
       rcases hlt with rfl|⟨z0,z1⟩
       ·skip
        go_wp2_with fail
        refine (HQ.out _ _).mono ?_
        rintro e w3 ⟨rfl,k3⟩
        have H3:=Qh (HN.out.cell.kept k3)
        have K3:=Qh (HN.out.kept.trans k3)
        clear k3
        go_wp2_with (refine wpList_store_sp rfl _ _ rfl w.heap.size Zs _ H3.out rfl rfl ?_)
        refine bodyPost_ret (v:=sv (stk t.size m)) ?_ rfl ⟨by rw [show (m:Int)=(m:Int)+((0:Nat):Int) by omega,HE.out,HV.out],K3.out.setRow (by omega) _⟩
        exact (ret_sp rfl H3.out rfl).trans rfl
       ·have b0:(n == 0)=false:=beq_eq_false_iff_ne.2 z1
        go_wp2_with fail
        refine (HQ.out _ _).mono ?_
        rintro e w3 ⟨rfl,k3⟩
        have H3:=Qh (HN.out.cell.kept k3)
        have K3:=Qh (HN.out.kept.trans k3)
        clear k3
        go_wp2_with (refine wpList_store_sp rfl _ _ rfl w.heap.size Zs _ H3.out rfl rfl ?_)
        refine bodyPost_ret (v:=sv (stk t.size ((m:Int)+p))) ?_ rfl ⟨by rw [HE.out,HV.out];first|done|rfl,K3.out.setRow (by omega) _⟩
        exact (ret_sp rfl H3.out rfl).trans rfl
      ·by_cases hze:10*n+((b.toNat:Int)-48)=0∧0<l
       ·obtain ⟨ze,zl⟩:=hze
        have hp0:p=0:=by omega
        have HE:=Qh (HC.out.trans (nG_over hD hz0 (.inr ⟨hp0,ze,zl⟩)))
        subst hp0
        have b0:((10*n+((b.toNat:Int)-48)) == 0)=true:=beq_iff_eq.2 ze
        clear hD hz0
        go_wp2_with fail
        refine (HQ.out _ _).mono ?_
        rintro e w3 ⟨rfl,k3⟩
        have H3:=Qh (HN.out.cell.kept k3)
        have K3:=Qh (HN.out.kept.trans k3)
        clear k3
        go_wp2_with (refine wpList_store_sp rfl _ _ rfl w.heap.size Zs _ H3.out rfl rfl ?_)
        refine bodyPost_ret (v:=sv (stk t.size m)) ?_ rfl ⟨by rw [show (m:Int)=(m:Int)+((0:Nat):Int) by omega,HE.out,HV.out],K3.out.setRow (by omega) _⟩
        exact (ret_sp rfl H3.out rfl).trans rfl
       ·have HX:=Qh (HC.out.trans (nG_next hD hz0 (by omega)))
        have hlt:(p=0∨(0<p∧n≠0))∧(10*n+((b.toNat:Int)-48)≠0∨(10*n+((b.toNat:Int)-48)=0∧l≤0)):=by omega
        clear hD hz0 hze
        rcases hlt with ⟨rfl|⟨z0,z1⟩,y1|⟨y1,y2⟩⟩
        ·skip
         have b1:((10*n+((b.toNat:Int)-48)) == 0)=false:=beq_eq_false_iff_ne.2 y1
         go_wp2
         go_roundw
         case rel=>exact ⟨0+1,_,rfl,rfl,HN.out,by omega,by omega,by omega,HX.out⟩
         case measure=>simp [World.iterPos,HN.out.iter,HIt.out.iter];omega
        ·skip
         have b1:((10*n+((b.toNat:Int)-48)) == 0)=true:=beq_iff_eq.2 y1
         have HX2:=Qh (show G=numGo t.size m l u ((bs s).drop (0+1)) (0+1) 0 from by have h:=HX.out;rw [y1] at h;exact h)
         go_wp2
         go_roundw
         case rel=>exact ⟨0+1,_,rfl,rfl,HN.out,by omega,by omega,by omega,HX2.out⟩
         case measure=>simp [World.iterPos,HN.out.iter,HIt.out.iter];omega
        ·have b0:(n == 0)=false:=beq_eq_false_iff_ne.2 z1
         have b1:((10*n+((b.toNat:Int)-48)) == 0)=false:=beq_eq_false_iff_ne.2 y1
         go_wp2
         go_roundw
         case rel=>exact ⟨p+1,_,rfl,rfl,HN.out,by omega,by omega,by omega,HX.out⟩
         case measure=>simp [World.iterPos,HN.out.iter,HIt.out.iter];omega
        ·exfalso;omega
    ·have hbr:b.toNat<48∨57<b.toNat:=by omega
     have hD:=isD_no hbr
     have hqr:(q:Int)<48∨57<(q:Int):=by omega
     have HN:=Qh (HIt.out.next (p+k))
     clear hqb hr hbr
     by_cases hp0:p=0
     ·have HE:=Qh (HC.out.trans (nG_far_no hD (by omega)))
      subst hp0
      have HN:=Qh (HIt.out.next k)
      clear hD
      rcases hqr with hqr|hqr
      ·go_wp2_with fail
       refine (HQ.out _ _).mono ?_
       rintro e w3 ⟨rfl,k3⟩
       have H3:=Qh (HN.out.cell.kept k3)
       have K3:=Qh (HN.out.kept.trans k3)
       clear k3
       go_wp2_with (refine wpList_store_sp rfl _ _ rfl w.heap.size Zs _ H3.out rfl rfl ?_)
       refine bodyPost_ret (v:=sv (stk t.size m)) ?_ rfl ⟨by rw [show (m:Int)=(m:Int)+((0:Nat):Int) by omega,HE.out,HV.out],K3.out.setRow (by omega) _⟩
       exact (ret_sp rfl H3.out rfl).trans rfl
      ·go_wp2_with fail
       refine (HQ.out _ _).mono ?_
       rintro e w3 ⟨rfl,k3⟩
       have H3:=Qh (HN.out.cell.kept k3)
       have K3:=Qh (HN.out.kept.trans k3)
       clear k3
       go_wp2_with (refine wpList_store_sp rfl _ _ rfl w.heap.size Zs _ H3.out rfl rfl ?_)
       refine bodyPost_ret (v:=sv (stk t.size m)) ?_ rfl ⟨by rw [show (m:Int)=(m:Int)+((0:Nat):Int) by omega,HE.out,HV.out],K3.out.setRow (by omega) _⟩
       exact (ret_sp rfl H3.out rfl).trans rfl
     ·have be:(((m:Int)+p) == m)=false:=beq_eq_false_iff_ne.2 (by omega)
      by_cases hl:n<l
      ·have HE:=Qh (HC.out.trans (nG_far_no hD (by omega)))
       clear hD
       rcases hqr with hqr|hqr
       ·go_wp2_with fail
        refine (HQ.out _ _).mono ?_
        rintro e w3 ⟨rfl,k3⟩
        have H3:=Qh (HN.out.cell.kept k3)
        have K3:=Qh (HN.out.kept.trans k3)
        clear k3
        go_wp2_with (refine wpList_store_sp rfl _ _ rfl w.heap.size Zs _ H3.out rfl rfl ?_)
        refine bodyPost_ret (v:=sv (stk t.size ((m:Int)+p))) ?_ rfl ⟨by rw [HE.out,HV.out];first|done|rfl,K3.out.setRow (by omega) _⟩
        exact (ret_sp rfl H3.out rfl).trans rfl
       ·go_wp2_with fail
        refine (HQ.out _ _).mono ?_
        rintro e w3 ⟨rfl,k3⟩
        have H3:=Qh (HN.out.cell.kept k3)
        have K3:=Qh (HN.out.kept.trans k3)
        clear k3
        go_wp2_with (refine wpList_store_sp rfl _ _ rfl w.heap.size Zs _ H3.out rfl rfl ?_)
        refine bodyPost_ret (v:=sv (stk t.size ((m:Int)+p))) ?_ rfl ⟨by rw [HE.out,HV.out];first|done|rfl,K3.out.setRow (by omega) _⟩
        exact (ret_sp rfl H3.out rfl).trans rfl
      ·have HE:=Qh (HC.out.trans (nG_far_yes hD (by omega)))
       clear hD
       rcases hqr with hqr|hqr
       ·have H3:=Qh HN.out.cell
        have K3:=Qh HN.out.kept
        go_wp2_with (first|(refine wpList_bt_sn rfl _ _ rfl ((m:Int)+p) (n) rfl rfl ?_)|(refine wpList_store_sp rfl _ _ rfl w.heap.size Zs ⟨(m:Int)+p,n,0⟩ H3.out rfl rfl ?_))
        refine bodyPost_ret (v:=sv ⟨(m:Int)+p,n,0⟩) ?_ rfl ⟨by rw [HE.out];first|done|rfl,K3.out.setRow (by omega) _⟩
        exact (ret_sp rfl H3.out rfl).trans rfl
       ·have H3:=Qh HN.out.cell
        have K3:=Qh HN.out.kept
        go_wp2_with (first|(refine wpList_bt_sn rfl _ _ rfl ((m:Int)+p) (n) rfl rfl ?_)|(refine wpList_store_sp rfl _ _ rfl w.heap.size Zs ⟨(m:Int)+p,n,0⟩ H3.out rfl rfl ?_))
        refine bodyPost_ret (v:=sv ⟨(m:Int)+p,n,0⟩) ?_ rfl ⟨by rw [HE.out];first|done|rfl,K3.out.setRow (by omega) _⟩
        exact (ret_sp rfl H3.out rfl).trans rfl
   ·have hnx:=fun ty=>next_at_end (P:=Tryz.prog) wr (w.heap.size+1) s p ty HIt.out.iter hp
    have HC:=Qh (show G=numGo t.size m l u [] p n by rw [HG.out,show (bs s).drop p=[] from List.drop_eq_nil_of_le (by rw [bs_len];omega)])
    have HV:=Qh (show stk t.size t.size=⟨t.size,0,1⟩ from if_pos rfl)
    have hmp:(m:Int)+p=t.size:=by omega
    by_cases hp0:p=0
    ·have HE:=Qh (HC.out.trans (nG_end_no (by omega)))
     rw [hmp] at HE
     have be:((t.size:Int) == m)=true:=beq_iff_eq.2 (by omega)
     go_wp2_with fail
     refine (HQ.out _ _).mono ?_
     rintro e w3 ⟨rfl,k3⟩
     have H3:=Qh (HIt.out.cell.kept k3)
     have K3:=Qh (HIt.out.kept.trans k3)
     clear k3
     go_wp2_with (refine wpList_store_sp rfl _ _ rfl w.heap.size Zs _ H3.out rfl rfl ?_)
     refine bodyPost_ret (v:=sv (stk t.size t.size)) ?_ rfl ⟨by rw [HE.out,HV.out];first|done|rfl,K3.out.setRow (by omega) _⟩
     exact (ret_sp rfl H3.out rfl).trans rfl
    ·have be:((t.size:Int) == m)=false:=beq_eq_false_iff_ne.2 (by omega)
     by_cases hl:n<l
     ·have HE:=Qh (HC.out.trans (nG_end_no (by omega)))
      rw [hmp] at HE
      go_wp2_with fail
      refine (HQ.out _ _).mono ?_
      rintro e w3 ⟨rfl,k3⟩
      have H3:=Qh (HIt.out.cell.kept k3)
      have K3:=Qh (HIt.out.kept.trans k3)
      clear k3
      go_wp2_with (refine wpList_store_sp rfl _ _ rfl w.heap.size Zs _ H3.out rfl rfl ?_)
      refine bodyPost_ret (v:=sv (stk t.size t.size)) ?_ rfl ⟨by rw [HE.out,HV.out];first|done|rfl,K3.out.setRow (by omega) _⟩
      exact (ret_sp rfl H3.out rfl).trans rfl
     ·have HE:=Qh (HC.out.trans (nG_end_yes (by omega)))
      rw [hmp] at HE
      have H3:=Qh HIt.out.cell
      have K3:=Qh HIt.out.kept
      go_wp2_with (first|(refine wpList_bt_sn rfl _ _ rfl (t.size) (n) rfl rfl ?_)|(refine wpList_store_sp rfl _ _ rfl w.heap.size Zs ⟨t.size,n,0⟩ H3.out rfl rfl ?_))
      refine bodyPost_ret (v:=sv ⟨t.size,n,0⟩) ?_ rfl ⟨by rw [HE.out];first|done|rfl,K3.out.setRow (by omega) _⟩
      exact (ret_sp rfl H3.out rfl).trans rfl
end Go.Proofs.YtlbipjmmlobofaaGreatDoor
