/- NoH · NoI: my texts, in their order. -/
import Derived.Test.YtlpeiolgcaddjaaGreatDoorPkXWRLo0
import Derived.Test.YtlpeiolgcaddjaaGreatDoorPkXRBo0
import Derived.Test.YtlpeiolgcaddjaaGreatDoorPkXRB0
import Derived.Test.YtlpeiolgcaddjaaGreatDoorPkA
import Derived.Test.YtlpeiolgcaddjaaGreatDoorPkB
import Derived.Test.YtlpeiolgcaddjaaGreatDoorPkC
import Derived.Test.YtlpeiolgcaddjaaGreatDoorPkD
import Derived.Test.YtlpeiolgcaddjaaGreatDoorPkE
import Derived.Test.YtlpeiolgcaddjaaGreatDoorPkF
import Derived.Test.YtlpeiolgcaddjaaGreatDoorPkGa
import Derived.Test.YtlpeiolgcaddjaaGreatDoorPkGb
import Derived.Test.YtlpeiolgcaddjaaGreatDoorPkGc
import Derived.Test.YtlpeiolgcaddjaaGreatDoorPkGd
import Derived.Test.YtlpeiolgcaddjaaGreatDoorPkGe
import Derived.Test.YtlpeiolgcaddjaaGreatDoorPkGf
import Derived.Test.YtlpeiolgcaddjaaGreatDoorPkGg
import Derived.Test.YtlpeiolgcaddjaaGreatDoorPkGh
import Derived.Test.YtlpeiolgcaddjaaGreatDoorPkGj
import Derived.Test.YtlpeiolgcaddjaaGreatDoorPkH
import Derived.Test.YtlpeiolgcaddjaaGreatDoorPkI
import Derived.Test.YtlpeiolgcaddjaaGreatDoorPkJ
import Derived.Test.YtlpeiolgcaddjaaGreatDoorPkK
import Derived.Test.YtlpeiolgcaddjaaGreatDoorPkL
import Derived.Test.YtlpeiolgcaddjaaGreatDoorPkLa
import Derived.Test.YtlpeiolgcaddjaaGreatDoorPkLd
import Derived.Test.YtlpeiolgcaddjaaGreatDoorPkLe
import Derived.Test.YtlpeiolgcaddjaaGreatDoorPkLf
import Derived.Test.YtlpeiolgcaddjaaGreatDoorPkLg
import Derived.Test.YtlpeiolgcaddjaaGreatDoorPkLh
import Derived.Test.YtlpeiolgcaddjaaGreatDoorPkLi
import Derived.Test.YtlpeiolgcaddjaaGreatDoorPkLj
import Derived.Test.YtlpeiolgcaddjaaGreatDoorPkM
import Derived.Test.YtlpeiolgcaddjaaGreatDoorPkN
import Derived.Test.YtlpeiolgcaddjaaGreatDoorPkNa
import Derived.Test.YtlpeiolgcaddjaaGreatDoorPkNb
import Derived.Test.YtlpeiolgcaddjaaGreatDoorPkNc
import Derived.Test.YtlpeiolgcaddjaaGreatDoorPkNd
import Derived.Test.YtlpeiolgcaddjaaGreatDoorPkNf
import Derived.Test.YtlpeiolgcaddjaaGreatDoorPkNi
import Derived.Test.YtlpeiolgcaddjaaGreatDoorPkO
import Derived.Test.YtlpeiolgcaddjaaGreatDoorPkP
import Derived.Test.YtlpeiolgcaddjaaGreatDoorPkQ
import Derived.Test.YtlpeiolgcaddjaaGreatDoorPkR
import Derived.Test.YtlpeiolgcaddjaaGreatDoorPkU
import Derived.Test.YtlpeiolgcaddjaaGreatDoorPkV
namespace Go.Proofs.YtlpeiolgcaddjaaGreatDoor
open Go.RowKit
set_option linter.unusedVariables false
set_option linter.unusedSimpArgs false
set_option maxRecDepth 100000
set_option maxHeartbeats 8000000 in
theorem nread_wrong (p:Ps) (hB:Brd p.B) (t:ByteArray) (h:pwI p≠0) (w:World) (hT:TabG w):Calls Tryz.prog 15 #[.agg (pl p).toArray,.string t] w (RetME w Zm (pwI p)):=by
 have HK1:=Qh (((Kept.refl w).alloc (.cells (pl p).toArray 26)).alloc (.cells (ml Zm).toArray 28));have HP1:=Qh ((PAt.new w hB.1).kept ((Kept.refl _).alloc (.cells (ml Zm).toArray 28)));have HR1:Hid (MAt _ _ Zm):=MAt.new (w.alloc (.cells (pl p).toArray 26)) Zm;have hsz:(w.alloc (.cells (pl p).toArray 26)).heap.size=w.heap.size+1:=by simp
 rw [hsz] at HR1;have HT:=Qh (hT.kept HK1.out);have hpl:Hid (p.B.length=64):=hB.1;have HC:=Qh (fun w h=>Jx p hB w h);have hv:(pwI p != 0)=true:=bne_iff_ne.2 h;generalize pwI p=v at *;clear hB hT h hsz;go_enter Tryz.func15,Tryz.ntmps15;go_wp2_with (first|(with_reducible refine Ql rfl rfl ?_)|(refine Qc (by rfl) _ rfl _ rfl _ HP1.out ?_))
 refine (HC.out _ HT.out.tabm.tabs).mono ?_;rintro e w1 ⟨rfl,k1⟩;have HK2:=Qh (HK1.out.trans k1);have HR2:=Qh (MAt.kept HR1.out k1);clear k1;go_wp2_with (first|(refine Qat (by rfl) rfl ?_)|(refine wpList_store_mv rfl _ _ rfl (w.heap.size+1) Zm Zm HR2.out rfl rfl ?_))
 refine bodyPost_ret (v:=.tuple #[.agg (ml Zm).toArray,.int .i64 v]) ?_ rfl ⟨rfl,HK2.out.setRow (by omega) _⟩;exact (results_mv_tmp (s:=4) (t:=5) rfl _ rfl (MAt.row HR2.out Zm)).trans rfl
set_option maxHeartbeats 8000000 in
theorem reads_long (p:Ps) (hB:Brd p.B) (t:ByteArray) (h50:50<t.size) (w:World) (hT:TabG w) :
  Calls Tryz.prog 4 #[.agg (pl p).toArray,.string t] w fun e w'=>e=.returned (.bool true)∧Kept w w':=by
 have HP:=Qh (PAt.new w hB.1);have HK0:=Qh ((Kept.refl w).alloc (.cells (pl p).toArray 26));have HT:=Qh (hT.kept HK0.out);have hq:(50:Int)<(t.size:Int):=by omega
 clear h50 hB hT;go_enter Tryz.func4,Tryz.ntmps4;go_wp2_with fail
 refine (Qaq _ HT.out).mono ?_;rintro e w1 ⟨rfl,k1⟩;have HK1:=Qh (HK0.out.trans k1);have HP1:=Qh (HP.out.kept k1);have HT1:=Qh (HT.out.kept k1);clear k1;go_wp2;go_ret;exact ⟨rfl,HK1.out⟩
set_option maxHeartbeats 8000000 in
theorem reads_wrong (p:Ps) (hB:Brd p.B) (t:ByteArray) (h50:t.size≤50) (h:pwI p≠0) (w:World) (hT:TabG w) :
  Calls Tryz.prog 4 #[.agg (pl p).toArray,.string t] w fun e w'=>e=.returned (.bool true)∧Kept w w':=by
 have HP:=Qh (PAt.new w hB.1);have HK0:=Qh ((Kept.refl w).alloc (.cells (pl p).toArray 26));have HT:=Qh (hT.kept HK0.out);have hq:¬ (50:Int)<(t.size:Int):=by omega
 have hq':decide ((50:Int)<(t.size:Int))=false:=decide_eq_false hq;have HRd:=Qh (fun w hT=>nread_wrong p hB t h w hT);have HWr:=Qh (fun w=>Qaz p hB w);have hv:(pwI p != 0)=true:=bne_iff_ne.2 h;generalize pwI p=v at *;clear h50 hB hT h;go_enter Tryz.func4,Tryz.ntmps4;go_wp2_with fail
 refine (Qaq _ HT.out).mono ?_;rintro e w1 ⟨rfl,k1⟩;have HK1:=Qh (HK0.out.trans k1);have HP1:=Qh (HP.out.kept k1);have HT1:=Qh (HT.out.kept k1);clear k1;go_wp2_with (refine Qc (by rfl) _ rfl _ rfl _ HP1.out ?_)
 refine (HRd.out _ HT1.out).mono ?_;rintro e w2 ⟨rfl,k2⟩;have KA:=Qh (k2.alloc (.cells (ml Zm).toArray 28));have HK2:=Qh (HK1.out.trans KA.out);have HP2:=Qh (HP1.out.kept KA.out);have HN2:=Qh (MAt.new w2 Zm);clear k2 KA;go_wp2_with (first|(with_reducible refine Ql rfl rfl ?_)|((with_reducible refine Qg rfl _ _ rfl Zm Zm ?_ ?_ ?_);exact rfl;exact rfl)|(refine Qc (by rfl) _ rfl _ rfl _ HP2.out ?_))
 generalize w2.alloc (.cells (ml Zm).toArray 28)=W2 at *;generalize w2.heap.size=gn at *;refine (HWr.out _).mono ?_;rintro e w3 ⟨rfl,k3⟩;have HK3:=Qh (HK2.out.trans k3);have HP3:=Qh (HP2.out.kept k3);have HN3:=Qh (MAt.kept HN2.out k3);clear k3;go_wp2_with (first|(refine Qe (by rfl) _ rfl _ rfl _ HN3.out ?_)|(refine Qat (by rfl) rfl ?_)|(refine wpList_eql_mv (by rfl) _ _ _ rfl _ _ rfl rfl (beqM_refl _) ?_))
 go_ret;exact ⟨rfl,HK3.out⟩
set_option maxHeartbeats 8000000 in
theorem reads_right (p:Ps) (hB:Brd p.B) (t:ByteArray) (h50:t.size≤50) (h:pwI p=0) (w:World) (hT:TabG w) :
  Calls Tryz.prog 4 #[.agg (pl p).toArray,.string t] w fun e w'=>e=.returned (.bool true)∧Kept w w':=by
 have HP:=Qh (PAt.new w hB.1);have HK0:=Qh ((Kept.refl w).alloc (.cells (pl p).toArray 26));have HT:=Qh (hT.kept HK0.out);have hq:¬ (50:Int)<(t.size:Int):=by omega
 have hq':decide ((50:Int)<(t.size:Int))=false:=decide_eq_false hq;have HRd:=Qh (fun w hT=>nread_right p hB t h w hT);have HWr:=Qh (fun w=>Qaz p hB w);rw [h] at HWr;have HMv:=Qh (fun w=>rmoves_is p hB h w);have HBr:=Qh (fun x (hx:x ∈ legL p) w=>(Yt hB (Yg hB h ((Qai (Qt h).1).1 hx)).2.2).elim fun f q=>q.elim fun u F=>rbare_is p hB h x f u F w);have HMk:=Qh (fun x (hx:x ∈ legL p) w=>rmark_is p hB h x ((Qai (Qt h).1).1 hx) w);have HV:Hid (rdM p t=(legL p).find? (readQ p t)):=rfl;have HVe:Hid (rdE p t=if (rdM p t).isSome then 0 else 4):=rfl;have HRq:=Qh (fun x=>show readQ p t x=decide (t=shB p x (legL p)∨t=shB p x (legL p)++markB (behP p x)) from rfl);have HSz:=Qh (fun x=>sh_size p x (legL p));have HMz:=Qh (fun x=>mk_size (behP p x));clear h50 hB hT h;generalize hRe:rdE p t=re at *;generalize hRM:(rdM p t).getD Zm=rm at *;have HRM:Hid ((rdM p t).getD Zm=rm):=hRM;clear hRe hRM;generalize rdM p t=rd at *;generalize legL p=L at *;go_enter Tryz.func4,Tryz.ntmps4;go_wp2_with fail
 refine (Qaq _ HT.out).mono ?_;rintro e w1 ⟨rfl,k1⟩;have HK1:=Qh (HK0.out.trans k1);have HP1:=Qh (HP.out.kept k1);have HT1:=Qh (HT.out.kept k1);clear k1;go_wp2_with (refine Qc (by rfl) _ rfl _ rfl _ HP1.out ?_)
 refine (HRd.out _ HT1.out).mono ?_;rintro e w2 ⟨rfl,k2⟩;have KA:=Qh (k2.alloc (.cells (ml rm).toArray 28));have HK2:=Qh (HK1.out.trans KA.out);have HP2:=Qh (HP1.out.kept KA.out);have HN2:=Qh (MAt.new w2 rm);clear k2 KA;go_wp2_with (first|(with_reducible refine Ql rfl rfl ?_)|((with_reducible refine Qg rfl _ _ rfl Zm rm ?_ ?_ ?_);exact rfl;exact rfl)|(refine Qc (by rfl) _ rfl _ rfl _ HP2.out ?_))
 generalize w2.alloc (.cells (ml rm).toArray 28)=W2 at *;generalize w2.heap.size=gn at *;refine (HWr.out _).mono ?_;rintro e w3 ⟨rfl,k3⟩;have HK3:=Qh (HK2.out.trans k3);have HP3:=Qh (HP2.out.kept k3);have HN3:=Qh (MAt.kept HN2.out k3);clear k3;go_wp2_with (refine Qc (by rfl) _ rfl _ rfl _ HP3.out ?_)
 refine (HMv.out _).mono ?_;rintro e X ⟨v4,rfl,hown,k4⟩;obtain ⟨gl,hls,_⟩:=hown.ls;obtain ⟨a4,c4,rfl⟩:=hown.slice;have HLs:=Qh hls;have HKX:=Qh (HK3.out.trans k4);have HPX:=Qh (HP3.out.kept k4);have HNX:=Qh (MAt.kept HN3.out k4);generalize hn:L.length=n at *;have HN:=Qh hn;clear hown hls k4 hn;go_wp2
 go_loopw [37] (fun t37 wr=>∃ k:Nat,k≤n∧t37=.int .i64 k∧(L.take k).find? (readQ p t)=none∧Kept X wr) (fun t37 _=>n-(intOf t37).toNat)
 case atStart=>exact ⟨0,Nat.zero_le _,rfl,rfl,Kept.refl _⟩
 case round =>
  obtain ⟨k,hk,rfl,hno,hK⟩:=hrel;have HK:=Qh hK;have HNo:=Qh hno;clear hno;by_cases hlt:k<n
  ·have hlt':(k:Int)<(n:Int):=by omega
   obtain ⟨x,hx⟩:∃ x,L[k]?=some x:=⟨_,List.getElem?_eq_getElem (by have:=HN.out;omega)⟩;have hmx:=List.mem_of_getElem? hx;obtain ⟨off,cap,he,hc1,hc2,h3⟩:=HLs.out.full (by have:=HN.out;omega);rw [HN.out] at he;injection he with he1 he2 he3
   subst he1 he3;rw [HN.out] at hc1;unfold maxLen at hc2;have HX:=Qh hx;have HRx:=Qh (range_i (Yf h3 hK) hx);have KB0:=Qh ((Kept.refl wr).alloc (.cells (ml x).toArray 28));have HMb:=Qh (MAt.new wr x);have HRn:=Qh (RAt.range HMb.out);have HKb:=Qh (hK.trans KB0.out);have HPb:=Qh (HPX.out.kept HKb.out);have HNb:=Qh (MAt.kept HNX.out HKb.out);have HBrx:=Qh (HBr.out x hmx);have HMkx:=Qh (HMk.out x hmx);have HRqx:=Qh (HRq.out x);have s1:=HSz.out x;have s2:=HMz.out x;clear h3 hx hK hmx;generalize shB p x L=S at *;generalize markB (behP p x)=M at *;have z1:¬ 9223372036854775807<S.size+M.size:=by omega
   clear s1 s2;go_wp2_with (first|((with_reducible refine Qn rfl _ rfl gl (off+k*3) ?_ x HRx.out ?_);exact rfl)|(with_reducible refine Ql rfl rfl ?_)|((with_reducible refine Qg rfl _ _ rfl Zm x ?_ ?_ ?_);exact rfl;exact rfl)|((with_reducible refine Qn rfl _ rfl wr.heap.size 0 ?_ x HRn.out ?_);exact rfl)|(refine Qc (by rfl) _ rfl _ rfl _ HPb.out ?_))
   refine (HBrx.out _).mono ?_;rintro e w5 ⟨rfl,k5⟩;have HK5:=Qh (HKb.out.trans k5);have HP5:=Qh (HPb.out.kept k5);have HN5:=Qh (MAt.kept HNb.out k5);have HM5:=Qh (MAt.kept HMb.out k5);clear k5;by_cases hb:t=S
   ·have HY:=Qh (find_yes HNo.out HX.out (show readQ p t x=true by rw [HRqx.out];exact decide_eq_true (.inl hb)))
    have hz:(t.toList == S.toList)=true:=by rw [hb];simp
    have HV2:Hid (rm=x):=by show _=_;rw [← HRM.out,HV.out,HY.out];rfl
    have HVe2:Hid (re=0):=by show _=_;rw [HVe.out,HV.out,HY.out];rfl
    obtain rfl:=HVe2.out;obtain rfl:=HV2.out;clear hb;go_wp2_with (first|(refine Qe (by rfl) _ rfl _ rfl _ HN5.out ?_)|(refine Qe (by rfl) _ rfl _ rfl _ HM5.out ?_)|(refine wpList_eql_mv (by rfl) _ _ _ rfl _ _ rfl rfl (beqM_refl _) ?_))
    go_ret;exact ⟨rfl,HKX.out.trans HK5.out⟩
   ·have hz:=str_eq_false hb
    go_wp2_with (first|(refine Qe (by rfl) _ rfl _ rfl _ HM5.out ?_)|(refine Qc (by rfl) _ rfl _ rfl _ HP5.out ?_))
    refine (HMkx.out _).mono ?_;rintro e w6 ⟨rfl,k6⟩;have HK6:=Qh (HK5.out.trans k6);have HN6:=Qh (MAt.kept HN5.out k6);have HM6:=Qh (MAt.kept HM5.out k6);clear k6;by_cases hc:t=S++M
    ·have HY:=Qh (find_yes HNo.out HX.out (show readQ p t x=true by rw [HRqx.out];exact decide_eq_true (.inr hc)))
     have hz2:(t.toList == (S++M).toList)=true:=by rw [hc];simp
     have HV2:Hid (rm=x):=by show _=_;rw [← HRM.out,HV.out,HY.out];rfl
     have HVe2:Hid (re=0):=by show _=_;rw [HVe.out,HV.out,HY.out];rfl
     obtain rfl:=HVe2.out;obtain rfl:=HV2.out;clear hb hc;go_wp2_with (first|(refine Qe (by rfl) _ rfl _ rfl _ HN6.out ?_)|(refine Qe (by rfl) _ rfl _ rfl _ HM6.out ?_)|(refine wpList_eql_mv (by rfl) _ _ _ rfl _ _ rfl rfl (beqM_refl _) ?_))
     go_ret;exact ⟨rfl,HKX.out.trans HK6.out⟩
    ·have HY:=Qh (find_no HNo.out HX.out (show readQ p t x=false by rw [HRqx.out];exact decide_eq_false (fun q=>q.elim hb hc)))
     have hz2:=str_eq_false hc;clear hb hc;go_wp2;go_roundw
     case rel=>exact ⟨k+1,by omega,by go_num,HY.out,HK6.out⟩
     case measure=>simp [intOf];omega
  ·clear hK
   obtain rfl:k=n:=by omega
   have HY:Hid (L.find? (readQ p t)=none):=by have:=HNo.out;rw [← HN.out,List.take_length] at this;exact this
   have HV2:Hid (rm=Zm):=by show _=_;rw [← HRM.out,HV.out,HY.out];rfl
   have HVe2:Hid (re=4):=by show _=_;rw [HVe.out,HV.out,HY.out];rfl
   obtain rfl:=HVe2.out;obtain rfl:=HV2.out;have HNe:=Qh (MAt.kept HNX.out HK.out);go_wp2_with (first|(refine Qe (by rfl) _ rfl _ rfl _ HNe.out ?_)|(refine Qat (by rfl) rfl ?_)|(refine wpList_eql_mv (by rfl) _ _ _ rfl _ _ rfl rfl (beqM_refl _) ?_))
   go_ret;exact ⟨rfl,HKX.out.trans HK.out⟩
theorem walkNoteReads (p:Ps) (hB:Brd p.B) (t:ByteArray) (wt:t.size≤maxLen) (w:World) (hT:TabG w) :
  Calls Tryz.prog 4 #[.agg (pl p).toArray,.string t] w fun e w'=>e=.returned (.bool true)∧Kept w w':=by
 by_cases h50:t.size≤50
 ·by_cases h:pwI p=0
  ·exact reads_right p hB t h50 h w hT
  ·exact reads_wrong p hB t h50 h w hT
 ·exact reads_long p hB t (by omega) w hT
end Go.Proofs.YtlpeiolgcaddjaaGreatDoor
