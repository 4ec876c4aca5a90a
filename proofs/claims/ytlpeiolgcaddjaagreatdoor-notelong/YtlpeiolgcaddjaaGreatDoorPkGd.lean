/- GeF · GeG: my texts, in their order. -/
import Derived.Test.YtlpeiolgcaddjaaGreatDoorPkGb
import Derived.Test.YtlpeiolgcaddjaaGreatDoorPkGc
namespace Go.Proofs.YtlpeiolgcaddjaaGreatDoor
open Go.RowKit
set_option linter.unusedVariables false
set_option linter.unusedSimpArgs false
set_option maxRecDepth 100000
theorem take_at {α:Type} (P:List α) (j:Nat) (p:α) (h:P[j]?=some p):P.take (j+1)=P.take j++[p]:=by
 rw [List.take_add_one,h];rfl
theorem strikes_on (a:Addr) (p:Ps) (hB:Brd p.B) (hr:pwI p=0) (s:Nat) (hs:s<64) (w:World) (hS:Steps w) :
  Calls Tryz.prog 178 #[.pointer (some a),.agg (cl p.B).toArray,.int .i64 (s:Int)] w (NewZ w (zn (Yv p.B (s:Int)))):=by
 have:=strikes_is a p.B hB (s:Int) w hS;rwa [if_pos (by rw [okS_yes (by omega) (by omega),(king_one (Yj hr).1).1];rfl)] at this
def offP (p:Ps) (s:Nat) (L:List Int) (k:Nat):List Mv:=((L.take k).filter (offOk p)).map fun x=>⟨(s:Int),x,0⟩
theorem offP_yes {p:Ps} {s:Nat} {L:List Int} {k:Nat} {x:Int} (h:L[k]?=some x) (ho:offOk p x=true):offP p s L (k+1)=offP p s L k++[⟨s,x,0⟩]:=by
 unfold offP;rw [take_at L k x h];simp [ho]
theorem offP_no {p:Ps} {s:Nat} {L:List Int} {k:Nat} {x:Int} (h:L[k]?=some x) (ho:offOk p x=false):offP p s L (k+1)=offP p s L k:=by
 unfold offP;rw [take_at L k x h];simp [ho]
theorem offP_len (p:Ps) (s:Nat) (L:List Int) (k:Nat) (hL:L.length≤64):(offP p s L k).length≤64:=by
 unfold offP;rw [List.length_map];have:=List.length_filter_le (offOk p) (L.take k);rw [List.length_take] at this;omega
set_option maxHeartbeats 4000000 in
theorem officer_is (g:Nat) (a:Addr) (p:Ps) (hB:Brd p.B) (hr:pwI p=0) (s:Nat) (hs:s<64) (w:World) (hT:TabG w) (hE:EyeAt w g a) :
  Calls Tryz.prog 164 #[.pointer (some ⟨g,0,none⟩),.agg (pl p).toArray,.int .i64 (s:Int)] w (NewM w (offN p s)):=by
 have HP:=Qh (PAt.new w hB.1);have HK0:=Qh ((Kept.refl w).alloc (.cells (pl p).toArray 26));have HT:=Qh (hT.kept HK0.out);have HE:=Qh (hE.kept HK0.out);have hpl:Hid (p.B.length=64):=hB.1;have HStr:=Qh (fun w hS=>strikes_on a p hB hr s hs w hS);have HC:=Qh (fun x h0 h1 w=>Je p.B hB x h0 h1 w);have HLn:=Qh (zs_len p.B (s:Int));have HMem:=Qh (fun x (hx:x ∈ zn (Yv p.B (s:Int)))=>((mem_zs (B:=p.B) (s:=s) x).1 hx).1);have HV:Hid (offN p s=offP p s (zn (Yv p.B (s:Int))) (zn (Yv p.B (s:Int))).length):=by show _=_;unfold offP offN;rw [List.take_length]
 generalize zn (Yv p.B (s:Int))=L at *;clear hB hr hT hE hs;go_enter Tryz.func164,Tryz.ntmps164;go_wp2;refine wp_region_held_drew (S:=Kept _) (by kernel_rfl) (Kept.refl _).drew (fun Qj=>?_);refine rT 0 10 (.pointer (some ⟨g,0,none⟩)) rfl rfl Qj ?_;simp only [pA,pN,sZ,sU];refine rT 1 11 (.pointer (some ⟨g,0,none⟩)) rfl rfl Qj ?_;simp only [pA,pN,sZ,sU];refine rT 2 12 (.pointer (some ⟨g,0,none⟩)) rfl rfl Qj ?_;simp only [pA,pN,sZ,sU];refine rC 3 13 (.pointer (some a)) rfl rfl (fun _ h=>Qa h (HE.out)) Qj ?_;simp only [pA,pN,sZ,sU];refine rT 4 14 (.pointer (some ⟨w.heap.size,0,none⟩)) rfl rfl Qj ?_;simp only [pA,pN,sZ,sU];refine rY 5 15 rfl rfl (Qp (by rfl) _ rfl _ rfl p hpl.out (fun _ h=>(HP.out).kept h)) Qj ?_;simp only [pA,pN,sZ,sU];refine rT 6 16 (.int .i64 (s:Int)) rfl rfl Qj ?_;simp only [pA,pN,sZ,sU];refine rT 9 19 (.int .i64 0) rfl rfl Qj ?_;simp only [pA,pN,sZ,sU];refine rR 7 rfl (fun K hK=>?_);go_simp;refine (HStr.out _ (HT.out.tabm.tabs.steps.kept Qj)).mono ?_;rintro e X ⟨vX,rfl,hoX,gX⟩;obtain ⟨aX,cX,rfl⟩:=hoX.slice;have HOX:=Qh hoX;clear hoX;refine hK.out _ _ (Qj.trans gX) (fun _=>?_);replace Qj:=Qj.trans gX;clear hK K;refine rT 8 18 (.int .i64 (L.length:Int)) rfl rfl Qj ?_;simp only [pA,pN,sZ,sU];refine wpAnyH_done (by kernel_rfl) ?_ _;have HKX:=Qh Qj;obtain ⟨gl,hls,_⟩:=HOX.out.ls;have HLs:=Qh hls;have HPX:=Qh (HP.out.kept Qj);generalize hn:L.length=n at *;have HN:=Qh hn;clear Qj hls hn gX;go_wp2
 go_loopw [7,19] (fun t7 t19 wr=>∃ k:Nat,k≤n∧t19=.int .i64 k∧OwnM wr X.heap.size t7 (offP p s L k)∧Kept X wr) (fun _ t19 _=>n-(intOf t19).toNat)
 case atStart=>exact ⟨0,Nat.zero_le _,rfl,OwnM.nil _ _,Kept.refl _⟩
 case round =>
  obtain ⟨k,hk,rfl,hO,hK⟩:=hrel;obtain ⟨ao,co,rfl⟩:=hO.slice;have HO:=Qh hO;have HK:=Qh hK;have HPr:=Qh (HPX.out.kept hK);have hLk:=Qh (offP_len p s L k (by have:=HN.out;have:=HLn.out;omega));clear hO;by_cases hlt:k<n
  ·have hlt':(k:Int)<(n:Int):=by omega
   obtain ⟨x,hx⟩:∃ x,L[k]?=some x:=⟨_,List.getElem?_eq_getElem (by have:=HN.out;omega)⟩;obtain ⟨x0,x1⟩:=HMem.out x (List.mem_of_getElem? hx);obtain ⟨off,cap,he,hc1,hc2,h3⟩:=HLs.out.full (by have:=HN.out;omega);rw [HN.out] at he;injection he with he1 he2 he3
   subst he1 he3;have e1:=Qa hK (h3 k x hx);rw [HN.out] at hc1;unfold maxLen at hc2;have HX:=Qh hx;have HCx:=Qh (HC.out x x0 x1);have HOk:Hid (offOk p x=(sideI (bAt p.B x) != p.t)):=by show _=_;unfold offOk;rfl
   generalize bAt p.B x=y at *;generalize hln:(offP p s L k).length=q at *;have HQ:=Qh hln;clear hx h3 hK x0 x1 hln
   cases hy:(sideI y != p.t)
   ·rw [hy] at HOk
    have HS:=Qh (offP_no (s:=s) HX.out HOk.out);go_wp2;refine wp_region_held_drew (S:=Kept _) (by kernel_rfl) (Kept.refl _).drew (fun Qj=>?_);refine rT 0 23 (.pointer (some ⟨w.heap.size,0,none⟩)) rfl rfl Qj ?_;simp only [pA,pN,sZ,sU];refine rY 1 24 rfl rfl (Qp (by rfl) _ rfl _ rfl p hpl.out (fun _ h=>(HPr.out).kept h)) Qj ?_;simp only [pA,pN,sZ,sU];refine rT 2 25 (.int .i64 x) rfl rfl Qj ?_;simp only [pA,pN,sZ,sU];refine rT 5 28 (.pointer (some ⟨w.heap.size,64,none⟩)) rfl rfl Qj ?_;simp only [pA,pN,sZ,sU];refine rC 6 29 (.int .i64 p.t) rfl rfl (fun _ h=>Qa h (HPr.out.turn)) Qj ?_;simp only [pA,pN,sZ,sU];refine rR 3 rfl (fun K hK=>?_);go_simp;refine (HCx.out _).mono ?_;rintro e w2 ⟨rfl,gw2⟩;refine hK.out _ _ (Qj.trans gw2) (fun _=>?_);replace Qj:=Qj.trans gw2;clear hK K;refine rR 4 rfl (fun K hK=>?_);go_simp;refine (Qav y _).mono ?_;rintro e w3 ⟨rfl,gw3⟩;refine hK.out _ _ (Qj.trans gw3) (fun _=>?_);replace Qj:=Qj.trans gw3;clear hK K;refine rT 7 30 (.bool false) rfl rfl Qj ?_;simp only [pA,pN,sZ,sU];refine wpAnyH_done (by kernel_rfl) ?_ _;have HK3:=Qh (HK.out.trans Qj);have HO3:=Qh (HO.out.kept Qj);clear Qj;go_wp2;go_roundw
    case rel=>exact ⟨k+1,by omega,by go_num,by rw [HS.out];exact HO3.out,HK3.out⟩
    case measure=>simp [intOf];omega
   ·rw [hy] at HOk
    have HS:=Qh (offP_yes (s:=s) HX.out HOk.out);go_wp2;refine wp_region_held_drew (S:=Kept _) (by kernel_rfl) (Kept.refl _).drew (fun Qj=>?_);refine rT 0 23 (.pointer (some ⟨w.heap.size,0,none⟩)) rfl rfl Qj ?_;simp only [pA,pN,sZ,sU];refine rY 1 24 rfl rfl (Qp (by rfl) _ rfl _ rfl p hpl.out (fun _ h=>(HPr.out).kept h)) Qj ?_;simp only [pA,pN,sZ,sU];refine rT 2 25 (.int .i64 x) rfl rfl Qj ?_;simp only [pA,pN,sZ,sU];refine rT 5 28 (.pointer (some ⟨w.heap.size,64,none⟩)) rfl rfl Qj ?_;simp only [pA,pN,sZ,sU];refine rC 6 29 (.int .i64 p.t) rfl rfl (fun _ h=>Qa h (HPr.out.turn)) Qj ?_;simp only [pA,pN,sZ,sU];refine rR 3 rfl (fun K hK=>?_);go_simp;refine (HCx.out _).mono ?_;rintro e w2 ⟨rfl,gw2⟩;refine hK.out _ _ (Qj.trans gw2) (fun _=>?_);replace Qj:=Qj.trans gw2;clear hK K;refine rR 4 rfl (fun K hK=>?_);go_simp;refine (Qav y _).mono ?_;rintro e w3 ⟨rfl,gw3⟩;refine hK.out _ _ (Qj.trans gw3) (fun _=>?_);replace Qj:=Qj.trans gw3;clear hK K;refine rT 7 30 (.bool true) rfl rfl Qj ?_;simp only [pA,pN,sZ,sU];refine wpAnyH_done (by kernel_rfl) ?_ _;have HK3:=Qh (HK.out.trans Qj);have HO3:=Qh (HO.out.kept Qj);have KA:=Qh ((Kept.refl w3).alloc (.cells (ml ⟨s,x,0⟩).toArray 28));clear Qj;go_wp2_with (first|(refine Jm rfl _ _ rfl (s:Int) x rfl rfl ?_)|(refine Ym rfl _ rfl ⟨s,x,0⟩ rfl ?_)|(at_builtin;refine Yl rfl _ _ rfl X.heap.size w3.heap.size _ _ (offP p s L k) [⟨s,x,0⟩] rfl rfl (HO3.out.kept KA.out) (LsM.lit _ _) ?c1 ?c2 ?_))
    case c1=>have:=hLk.out;have:=HQ.out;simp;omega
    case c2=>have:=HK3.out.size;simp;omega
    intro v' w4 hO' hg;have hK4:=(HO3.out.kept KA.out).grown (HK3.out.trans KA.out) (Nat.le_refl _) hg;rw [← HS.out] at hO';obtain ⟨a',cap',rfl⟩:=hO'.slice;have HO4:=Qh hO';have HK4:=Qh hK4;clear hO' hK4 hg;generalize (offP p s L (k+1)).length=q' at *;go_wp2;go_roundw
    case rel=>exact ⟨k+1,by omega,by go_num,HO4.out,HK4.out⟩
    case measure=>simp [intOf];omega
  ·obtain rfl:k=n:=by omega
   go_wp2;go_ret;exact ⟨_,rfl,by rw [HV.out];exact HO.out.low (HK0.out.trans HKX.out).size,(HK0.out.trans HKX.out).trans HK.out⟩
theorem castles_is (p:Ps) (hB:Brd p.B) (m:Mv) (w:World) (hT:TabM w) :
  Calls Tryz.prog 64 #[.agg (pl p).toArray,.agg (ml m).toArray] w fun e w'=>e=.returned (.bool (okM p m && decide (castN p m<4)))∧Kept w w':=by
 cases h:okM p m
 ·exact castles_no p hB m h w hT
 ·exact castles_yes p hB m h w hT
def kgP (p:Ps) (s:Nat) (k:Nat):List Mv:=if k=0 then offN p s else if k=1 then offN p s++csN p s (-2) else offN p s++csN p s (-2)++csN p s 2
theorem kgP_step (p:Ps) (s k:Nat) (hk:k<2):kgP p s (k+1)=kgP p s k++csN p s (swL.getD k 0):=by
 have:k=0∨k=1:=by omega
 rcases this with rfl|rfl <;> rfl
theorem kgP_len (p:Ps) (s k:Nat):(kgP p s k).length≤66:=by
 have h1:=off_len p s;have h2:=cs_len p s (-2);have h3:=cs_len p s 2;unfold kgP;split
 ·omega
 ·split
  ·rw [List.length_append];omega
  ·rw [List.length_append,List.length_append];omega
theorem cs_off {p:Ps} {s:Nat} {d:Int} (h:stI s d 0=-1):csN p s d=[]:=by unfold csN;rw [if_neg (fun q=>q.1 h)]
theorem cs_yes {p:Ps} {s:Nat} {d t:Int} (h:stI s d 0=t) (h0:0≤t) (hc:(okM p ⟨s,t,0⟩ && decide (castN p ⟨s,t,0⟩<4))=true):csN p s d=[⟨s,t,0⟩]:=by
 unfold csN;rw [h];rw [Bool.and_eq_true,decide_eq_true_eq] at hc;rw [if_pos ⟨by omega,hc⟩]
theorem cs_no {p:Ps} {s:Nat} {d t:Int} (h:stI s d 0=t) (hc:(okM p ⟨s,t,0⟩ && decide (castN p ⟨s,t,0⟩<4))=false):csN p s d=[]:=by
 unfold csN;rw [h];rw [if_neg];rintro ⟨_,a,b⟩;rw [a,show decide (castN p ⟨s,t,0⟩<4)=true by simpa using b] at hc
 cases hc
set_option maxHeartbeats 4000000 in
theorem king_go (g:Nat) (a:Addr) (p:Ps) (hB:Brd p.B) (hr:pwI p=0) (s:Nat) (hs:s<64) (w:World) (hT:TabG w) (hE:EyeAt w g a) :
  Calls Tryz.prog 165 #[.pointer (some ⟨g,0,none⟩),.agg (pl p).toArray,.int .i64 (s:Int)] w (NewM w (kingN p s)):=by
 have HP:=Qh (PAt.new w hB.1);have HK0:=Qh ((Kept.refl w).alloc (.cells (pl p).toArray 26));obtain ⟨W,eW⟩:∃ W,W=w.alloc (.cells (pl p).toArray 26):=⟨_,rfl⟩;have HW:=Qh eW;rw [← eW] at HP HK0;have HT:=Qh (hT.kept HK0.out);have HE:=Qh (hE.kept HK0.out);have HOf:=Qh (fun w hT hE=>officer_is g a p hB hr s hs w hT hE);have HCs:=Qh (fun m w hT=>castles_is p hB m w hT);have HSt:=Qh (fun (d:Int) (hd:(Lit.int .i64 d).wf=true) w=>step_any (s:Int) d 0 w hd (by decide));have hcas:=HP.out.cas;have HLn:=Qh (off_len p s);by_cases hc0:p.c=0
 ·have hV:Hid (kingN p s=offN p s):=by show _=_;unfold kingN;rw [if_pos hc0]
  have hb:(p.c == 0)=true:=by rw [hc0];rfl
  clear hB hr hT hE hs eW hcas hc0;go_enter Tryz.func165,Tryz.ntmps165;go_wp2_with (rw [← HW.out] at *;refine Qc (by rfl) _ rfl _ rfl _ HP.out ?_)
  refine (HOf.out _ HT.out HE.out).mono ?_;rintro e w1 ⟨v1,rfl,hO1,k1⟩;obtain ⟨a1,c1,rfl⟩:=hO1.slice;have HO1:=Qh hO1;have HK1:=Qh k1;have hcas:=(HP.out.kept k1).cas;clear hO1 k1;go_wp2;go_ret;exact ⟨_,rfl,by rw [hV.out];exact HO1.out.low HK0.out.size,HK0.out.trans HK1.out⟩
 ·have hV:Hid (kingN p s=kgP p s 2):=by show _=_;unfold kingN;rw [if_neg hc0];rfl
  have hb:(p.c == 0)=false:=beq_eq_false_iff_ne.2 hc0;have h0:Hid (offN p s=kgP p s 0):=by rfl
  clear hB hr hT hE hs eW hcas hc0;go_enter Tryz.func165,Tryz.ntmps165;go_wp2_with (rw [← HW.out] at *;refine Qc (by rfl) _ rfl _ rfl _ HP.out ?_)
  refine (HOf.out _ HT.out HE.out).mono ?_;rintro e w1 ⟨v1,rfl,hO1,k1⟩;obtain ⟨a1,c1,rfl⟩:=hO1.slice;have HO1:=Qh hO1;have HK1:=Qh k1;have HT1:=Qh (HT.out.kept k1);have hcas:=(HP.out.kept k1).cas;clear hO1 k1;generalize hln:(offN p s).length=n0 at *;have HN0:=Qh hln;clear hln;go_wp2_with (refine wpList_load_mid rfl 126 _ rfl 6 0 rfl swV _ HT1.out.sideR Tryz.underlying126 rfl size_sw ?_)
  go_loopw [7,22] (fun t7 t22 wr=>∃ k:Nat,k≤2∧t22=.int .i64 k∧OwnM wr W.heap.size t7 (kgP p s k)∧Kept W wr) (fun _ t22 _=>2-(intOf t22).toNat)
  case atStart=>exact ⟨0,Nat.zero_le _,rfl,by rw [← h0.out];exact HO1.out,HK1.out⟩
  case round =>
   obtain ⟨k,hk,rfl,hO,hK⟩:=hrel;obtain ⟨ao,co,rfl⟩:=hO.slice;have HO:=Qh hO;have HK:=Qh hK;have hLk:=Qh (kgP_len p s k);generalize hln:(kgP p s k).length=q at *;have HQ:=Qh hln;clear hO hK hcas hln;by_cases hlt:k<2
   ·have hlt':(k:Int)<2:=by omega
    have hx:=run_index_sw k hlt;have HS:=Qh (kgP_step p s k hlt)
    have hwf:(Lit.int .i64 (swL.getD k 0)).wf=true:=by
     have:k=0∨k=1:=by omega
     rcases this with rfl|rfl <;> decide
    have HSd:=Qh (HSt.out _ hwf);generalize swL.getD k 0=d at *;clear hwf;go_wp2_with fail
    refine (HSd.out _).mono ?_;rintro e w' ⟨⟨t,on,rfl,ht⟩,rfl⟩;have KB0:=Qh ((Kept.refl wr).alloc (.cells (ml ⟨s,t,0⟩).toArray 28));have HPb:=Qh (HP.out.kept (HK.out.trans KB0.out));have HMb:Hid (MAt _ _ _):=MAt.new wr ⟨s,t,0⟩;have HTb:=Qh (HT.out.kept (HK.out.trans KB0.out));have HOb:=Qh (HO.out.kept KB0.out);have HKb:=Qh (HK.out.trans KB0.out);rcases ht with ⟨rfl,b0,b1,b2,b3,b4,b5,b6⟩|⟨rfl,hno⟩
    ·have hst:stI s d 0=t:=by
      rcases stI_cases s d 0 with ⟨_,_,_,_,_,_,e⟩|⟨_,q⟩
      ·rw [e,b6]
      ·omega
     have ht0:0≤t:=by omega
     have HCm:=Qh (HCs.out ⟨s,t,0⟩)
     cases hcm:(okM p ⟨s,t,0⟩ && decide (castN p ⟨s,t,0⟩<4))
     ·rw [hcm] at HCm
      have HC0:=Qh (cs_no (p:=p) hst hcm);clear hst ht0 hcm b0 b1 b2 b3 b4 b5 b6;go_wp2_with (first|(refine Jm rfl _ _ rfl (s:Int) t rfl rfl ?_)|(with_reducible refine Ql rfl rfl ?_)|((with_reducible refine Qg rfl _ _ rfl Zm ⟨s,t,0⟩ ?_ ?_ ?_);exact rfl;exact rfl)|(refine Qc (by rfl) _ rfl _ rfl _ HPb.out ?_)|(refine Qe (by rfl) _ rfl _ rfl _ HMb.out ?_))
      refine (HCm.out _ HTb.out.tabm).mono ?_;rintro e w3 ⟨rfl,k3⟩;have HK3:=Qh (HKb.out.trans k3);have HO3:=Qh (HOb.out.kept k3);clear k3;go_wp2;go_roundw
      case rel=>exact ⟨k+1,by omega,by go_num,by rw [HS.out,HC0.out,List.append_nil];exact HO3.out,HK3.out⟩
      case measure=>simp [intOf];omega
     ·rw [hcm] at HCm
      have HC0:=Qh (cs_yes (p:=p) hst ht0 hcm);clear hst ht0 hcm b0 b1 b2 b3 b4 b5 b6;go_wp2_with (first|(refine Jm rfl _ _ rfl (s:Int) t rfl rfl ?_)|(with_reducible refine Ql rfl rfl ?_)|((with_reducible refine Qg rfl _ _ rfl Zm ⟨s,t,0⟩ ?_ ?_ ?_);exact rfl;exact rfl)|(refine Qc (by rfl) _ rfl _ rfl _ HPb.out ?_)|(refine Qe (by rfl) _ rfl _ rfl _ HMb.out ?_))
      refine (HCm.out _ HTb.out.tabm).mono ?_;rintro e w3 ⟨rfl,k3⟩;have HK3:=Qh (HKb.out.trans k3);have HO3:=Qh (HOb.out.kept k3);have HM3:=Qh (MAt.kept HMb.out k3);have KA:=Qh ((Kept.refl w3).alloc (.cells (ml ⟨s,t,0⟩).toArray 28));clear k3;go_wp2_with (first|(refine Qe (by rfl) _ rfl _ rfl _ HM3.out ?_)|(refine Ym rfl _ rfl ⟨s,t,0⟩ rfl ?_)|(at_builtin;refine Yl rfl _ _ rfl W.heap.size w3.heap.size _ _ (kgP p s k) [⟨s,t,0⟩] rfl rfl (HO3.out.kept KA.out) (LsM.lit _ _) ?c1 ?c2 ?_))
      case c1=>have:=hLk.out;have:=HQ.out;simp;omega
      case c2=>have:=HK3.out.size;simp;omega
      intro v' w4 hO' hg;have hK4:=(HO3.out.kept KA.out).grown (HK3.out.trans KA.out) (Nat.le_refl _) hg;rw [← HC0.out,← HS.out] at hO';obtain ⟨a',cap',rfl⟩:=hO'.slice;have HO4:=Qh hO';have HK4:=Qh hK4;clear hO' hK4 hg;generalize (kgP p s (k+1)).length=q' at *;go_wp2;go_roundw
      case rel=>exact ⟨k+1,by omega,by go_num,HO4.out,HK4.out⟩
      case measure=>simp [intOf];omega
    ·have HC0:=Qh (cs_off (p:=p) hno)
     clear hno;go_wp2_with (first|(refine Jm rfl _ _ rfl (s:Int) t rfl rfl ?_)|(with_reducible refine Ql rfl rfl ?_)|((with_reducible refine Qg rfl _ _ rfl Zm ⟨s,t,0⟩ ?_ ?_ ?_);exact rfl;exact rfl))
     go_roundw
     case rel=>exact ⟨k+1,by omega,by go_num,by rw [HS.out,HC0.out,List.append_nil];exact HOb.out,HKb.out⟩
     case measure=>simp [intOf];omega
   ·obtain rfl:k=2:=by omega
    go_wp2;go_ret;exact ⟨_,rfl,by rw [hV.out];exact HO.out.low HK0.out.size,HK0.out.trans HK.out⟩
def flP (p:Ps) (s:Nat) (L:List Int) (k:Nat):List Mv:=(L.take k).flatMap (arrN p s)
theorem flP_step {p:Ps} {s:Nat} {L:List Int} {k:Nat} {x:Int} (h:L[k]?=some x):flP p s L (k+1)=flP p s L k++arrN p s x:=by
 unfold flP;rw [take_at L k x h];simp
theorem flP_len (p:Ps) (s:Nat) (L:List Int) (k:Nat) (hL:L.length≤64):(flP p s L k).length≤256:=by
 have:=flatM_len (arrN p s) 4 (arr_len p s) (L.take k);rw [List.length_take] at this;unfold flP;omega
def cpP (p:Ps) (s:Nat) (L:List Int) (k:Nat):List Mv:=((L.take k).filter (capB p)).flatMap (arrN p s)
theorem cpP_yes {p:Ps} {s:Nat} {L:List Int} {k:Nat} {x:Int} (h:L[k]?=some x) (ho:capB p x=true):cpP p s L (k+1)=cpP p s L k++arrN p s x:=by
 unfold cpP;rw [take_at L k x h];simp [ho]
theorem cpP_no {p:Ps} {s:Nat} {L:List Int} {k:Nat} {x:Int} (h:L[k]?=some x) (ho:capB p x=false):cpP p s L (k+1)=cpP p s L k:=by
 unfold cpP;rw [take_at L k x h];simp [ho]
theorem cpP_len (p:Ps) (s:Nat) (L:List Int) (k:Nat) (hL:L.length≤64):(cpP p s L k).length≤256:=by
 have h1:=flatM_len (arrN p s) 4 (arr_len p s) ((L.take k).filter (capB p));have h2:=List.length_filter_le (capB p) (L.take k);rw [List.length_take] at h2;unfold cpP;omega
theorem OwnZ.beside {w w':World} {b b':Nat} {v vm:Value} {L:List Int} {M:List Mv} (h:OwnZ w b v L) (hm:OwnM w b' vm M) (hg:w.grownBy w' vm.ownBlock):OwnZ w' b v L:=by
 obtain ⟨h1,h2⟩:=h;refine ⟨h1,?_⟩;rcases h2 with h2|⟨g,cap,cur,e1,e2,e3,e4⟩
 ·exact .inl h2
 ·refine .inr ⟨g,cap,cur,e1,e2,(hg.block g (Yc e3) (fun e=>?_)).trans e3,e4⟩
  rcases hm.2 with ⟨q,_⟩|⟨gm,cm,curm,q1,_,q3,_⟩
  ·rw [q] at e;cases e
  ·rw [q1] at e
   have:g=gm:=by simpa [Value.ownBlock] using e
   rw [this,q3] at e3;simp at e3
set_option maxHeartbeats 4000000 in
theorem pawn_go (g:Nat) (a:Addr) {p:Ps} {s:Nat} (hPw:Pw p s) (w:World) (hT:TabG w) (hE:EyeAt w g a) :
  Calls Tryz.prog 163 #[.pointer (some ⟨g,0,none⟩),.agg (pl p).toArray,.int .i64 (s:Int)] w (NewM w (pawnN p s)):=by
 have HP:=Qh (PAt.new w hPw.brd.1);have HK0:=Qh ((Kept.refl w).alloc (.cells (pl p).toArray 26));have HT:=Qh (hT.kept HK0.out);have HE:=Qh (hE.kept HK0.out);have hpl:Hid (p.B.length=64):=hPw.brd.1;have HStr:=Qh (fun w hS=>strikes_on a p hPw.brd hPw.right s hPw.s1 w hS);have HAh:=Qh (fun w hT=>ahead_is hPw w hT);have HCp:=Qh (fun x h0 h1 w=>captures_is p hPw.brd x h0 h1 w);have HAr:=Qh (fun x h0 h1 w hT=>arrive_is p hPw.brd (Qt hPw.right).1 s x h0 h1 w hT);have HLn:=Qh (zs_len p.B (s:Int));have HLa:=Qh (ah_len p s);have HMem:=Qh (fun x (hx:x ∈ zn (Yv p.B (s:Int)))=>((mem_zs (B:=p.B) (s:=s) x).1 hx).1);have HMa:=Qh (fun x (hx:x ∈ ahN p s)=>(hPw.ahead hx).1);have HV:Hid (pawnN p s=flP p s (ahN p s) (ahN p s).length++cpP p s (zn (Yv p.B (s:Int))) (zn (Yv p.B (s:Int))).length):=by show _=_;unfold flP cpP pawnN;rw [List.take_length,List.take_length]
 generalize zn (Yv p.B (s:Int))=L at *;generalize ahN p s=A at *;clear hPw hT hE;go_enter Tryz.func163,Tryz.ntmps163;go_wp2_with (first|(refine Qc (by rfl) _ rfl _ rfl _ (HP.out) ?_)|(refine Qd (by rfl) _ rfl _ rfl _ (HP.out) ?_))
 refine (HAh.out _ HT.out).mono ?_;rintro e X ⟨vA,rfl,hOA,kA⟩;obtain ⟨aA,cA,rfl⟩:=hOA.slice;obtain ⟨ga,hla,_⟩:=hOA.ls;have HLsA:=Qh hla;have HKX:=Qh kA;generalize hnA:A.length=nA at *;have HNA:=Qh hnA;clear hOA hla kA hnA;go_wp2
 go_loopw [7,16] (fun t7 t16 wr=>∃ k:Nat,k≤nA∧t16=.int .i64 k∧OwnM wr X.heap.size t7 (flP p s A k)∧Kept X wr) (fun _ t16 _=>nA-(intOf t16).toNat)
 case atStart=>exact ⟨0,Nat.zero_le _,rfl,OwnM.nil _ _,Kept.refl _⟩
 case round =>
  obtain ⟨k,hk,rfl,hO,hK⟩:=hrel;obtain ⟨ao,co,rfl⟩:=hO.slice;have HO:=Qh hO;have HK:=Qh hK;have HPr:=Qh (HP.out.kept (HKX.out.trans hK));have HTr:=Qh (HT.out.kept (HKX.out.trans hK));have HEr:=Qh (HE.out.kept (HKX.out.trans hK));have hLk:=Qh (flP_len p s A k (by have:=HNA.out;have:=HLa.out;omega));generalize hln:(flP p s A k).length=q at *;have HQ:=Qh hln;clear hO hln;by_cases hlt:k<nA
  ·have hlt':(k:Int)<(nA:Int):=by omega
   obtain ⟨x,hx⟩:∃ x,A[k]?=some x:=⟨_,List.getElem?_eq_getElem (by have:=HNA.out;omega)⟩;obtain ⟨x0,x1⟩:=HMa.out x (List.mem_of_getElem? hx);obtain ⟨off,cap,he,hc1,hc2,h3⟩:=HLsA.out.full (by have:=HNA.out;omega);rw [HNA.out] at he;injection he with he1 he2 he3
   subst he1 he3;have e1:=Qa hK (h3 k x hx);rw [HNA.out] at hc1;unfold maxLen at hc2;have HS:=Qh (flP_step (p:=p) (s:=s) hx);have HArx:=Qh (HAr.out x x0 x1);have HAl:=Qh (arr_len p s x);generalize arrN p s x=R at *;clear hx h3 hK x0 x1;go_wp2_with (first|(refine Qc (by rfl) _ rfl _ rfl _ (HPr.out) ?_)|(refine Qd (by rfl) _ rfl _ rfl _ (HPr.out) ?_))
   refine (HArx.out _ HTr.out).mono ?_;rintro e w2 ⟨v2,rfl,hO2,k2⟩;obtain ⟨a2,c2,rfl⟩:=hO2.slice;obtain ⟨g2,hl2,_⟩:=hO2.ls;have HL2:=Qh hl2;have HK2:=Qh (HK.out.trans k2);have HO3:=Qh (HO.out.kept k2);generalize hR:R.length=r at *;have HR:=Qh hR;clear hO2 hl2 k2 hR;go_wp2_with (at_builtin;refine Yl rfl _ _ rfl X.heap.size g2 _ _ (flP p s A k) R rfl rfl HO3.out HL2.out ?c1 ?c2 ?_)
   case c1=>have:=hLk.out;have:=HQ.out;have:=HAl.out;have:=HR.out;omega
   case c2=>exact HK2.out.size
   intro v' w4 hO' hg;have hK4:=HO3.out.grown HK2.out (Nat.le_refl _) hg;rw [← HS.out] at hO';obtain ⟨a',cap',rfl⟩:=hO'.slice;have HO4:=Qh hO';have HK4:=Qh hK4;clear hO' hK4 hg;generalize (flP p s A (k+1)).length=q' at *;go_wp2;go_roundw
   case rel=>exact ⟨k+1,by omega,by go_num,HO4.out,HK4.out⟩
   case measure=>simp [intOf];omega
  ·obtain rfl:k=nA:=by omega
   clear hK;generalize flP p s A k=F at *;go_wp2;refine wp_region_held_drew (S:=Kept _) (by kernel_rfl) (Kept.refl _).drew (fun Qj=>?_);refine rT 0 27 (.pointer (some ⟨g,0,none⟩)) rfl rfl Qj ?_;simp only [Act.put,sA,sZ,sU];refine rT 1 28 (.pointer (some ⟨g,0,none⟩)) rfl rfl Qj ?_;simp only [pA,pN,sZ,sU];refine rT 2 29 (.pointer (some ⟨g,0,none⟩)) rfl rfl Qj ?_;simp only [pA,pN,sZ,sU];refine rC 3 30 (.pointer (some a)) rfl rfl (fun _ h=>Qa h (HEr.out)) Qj ?_;simp only [pA,pN,sZ,sU];refine rT 4 31 (.pointer (some ⟨w.heap.size,0,none⟩)) rfl rfl Qj ?_;simp only [pA,pN,sZ,sU];refine rY 5 32 rfl rfl (Qp (by rfl) _ rfl _ rfl p hpl.out (fun _ h=>(HPr.out).kept h)) Qj ?_;simp only [pA,pN,sZ,sU];refine rT 6 33 (.int .i64 (s:Int)) rfl rfl Qj ?_;simp only [pA,pN,sZ,sU];refine rT 9 36 (.int .i64 0) rfl rfl Qj ?_;simp only [pA,pN,sZ,sU];refine rR 7 rfl (fun K hK=>?_);go_simp;refine (HStr.out _ (HTr.out.tabm.tabs.steps.kept Qj)).mono ?_;rintro e Y ⟨vY,rfl,hoY,gY⟩;obtain ⟨aY,cY,rfl⟩:=hoY.slice;have HOY:=Qh hoY;clear hoY;refine hK.out _ _ (Qj.trans gY) (fun _=>?_);replace Qj:=Qj.trans gY;clear hK K;refine rT 8 35 (.int .i64 (L.length:Int)) rfl rfl Qj ?_;simp only [pA,pN,sZ,sU];refine wpAnyH_done (by kernel_rfl) ?_ _;have HZY:=Qh (HOY.out.low (Nat.zero_le _));have HPY:=Qh (HPr.out.kept Qj);have HTY:=Qh (HTr.out.kept Qj);have HKXY:=Qh (HK.out.trans Qj);have HOYm:=Qh (HO.out.kept Qj);generalize hn:L.length=n at *;have HN:=Qh hn;have HFl:Hid (F.length≤256):=by show _≤_;have:=hLk.out;have:=HQ.out;omega
   clear Qj hn gY HPr HTr HEr HK HO;go_wp2
   go_loopw [7,36] (fun t7 t36 wr=>∃ k:Nat,k≤n∧t36=.int .i64 k∧OwnM wr X.heap.size t7 (F++cpP p s L k)∧Kept X wr∧OwnZ wr 0 (.slice aY n cY) L) (fun _ t36 _=>n-(intOf t36).toNat)
   case atStart=>exact ⟨0,Nat.zero_le _,rfl,by rw [show cpP p s L 0=[] from rfl,List.append_nil];exact HOYm.out,HKXY.out,HZY.out⟩
   case round =>
    obtain ⟨k,hk,rfl,hO,hK,hZ⟩:=hrel;obtain ⟨ao,co,rfl⟩:=hO.slice;have HO:=Qh hO;have HK:=Qh hK;have HZ:=Qh hZ;have HPr:=Qh (HP.out.kept (HKX.out.trans hK));have HTr:=Qh (HT.out.kept (HKX.out.trans hK));have hLk:=Qh (cpP_len p s L k (by have:=HN.out;have:=HLn.out;omega));generalize hln:(F++cpP p s L k).length=q at *;have HQ2:=Qh hln;clear hO hln hK;by_cases hlt:k<n
    ·have hlt':(k:Int)<(n:Int):=by omega
     obtain ⟨x,hx⟩:∃ x,L[k]?=some x:=⟨_,List.getElem?_eq_getElem (by have:=HN.out;omega)⟩;obtain ⟨x0,x1⟩:=HMem.out x (List.mem_of_getElem? hx);obtain ⟨gl,hls,_⟩:=hZ.ls;obtain ⟨off,cap,he,hc1,hc2,h3⟩:=hls.full (by have:=HN.out;omega);rw [HN.out] at he;injection he with he1 he2 he3
     have e1:=h3 k x hx;subst he1 he3;rw [HN.out] at hc1;unfold maxLen at hc2;have HX:=Qh hx;have HArx:=Qh (HAr.out x x0 x1);have HCpx:=Qh (HCp.out x x0 x1);have HAl:=Qh (arr_len p s x);clear hx h3 x0 x1 hZ hls
     cases hcp:capB p x
     ·rw [hcp] at HCpx
      have HS:=Qh (cpP_no (p:=p) (s:=s) HX.out hcp);clear hcp;go_wp2_with (first|(refine Qc (by rfl) _ rfl _ rfl _ (HPr.out) ?_)|(refine Qd (by rfl) _ rfl _ rfl _ (HPr.out) ?_))
      refine (HCpx.out _).mono ?_;rintro e w2 ⟨rfl,k2⟩;have HK2:=Qh (HK.out.trans k2);have HO2:=Qh (HO.out.kept k2);have HZ2:=Qh (HZ.out.kept k2);clear k2;go_wp2;go_roundw
      case rel=>exact ⟨k+1,by omega,by go_num,by rw [HS.out];exact HO2.out,HK2.out,HZ2.out⟩
      case measure=>simp [intOf];omega
     ·rw [hcp] at HCpx
      have HS:=Qh (cpP_yes (p:=p) (s:=s) HX.out hcp);clear hcp;generalize arrN p s x=R at *;go_wp2_with (first|(refine Qc (by rfl) _ rfl _ rfl _ (HPr.out) ?_)|(refine Qd (by rfl) _ rfl _ rfl _ (HPr.out) ?_))
      refine (HCpx.out _).mono ?_;rintro e w2 ⟨rfl,k2⟩;have HK2:=Qh (HK.out.trans k2);have HO2:=Qh (HO.out.kept k2);have HZ2:=Qh (HZ.out.kept k2);have HP2:=Qh (HPr.out.kept k2);have HT2:=Qh (HTr.out.kept k2);clear k2 e1;go_wp2_with (first|(refine Qc (by rfl) _ rfl _ rfl _ (HP2.out) ?_)|(refine Qd (by rfl) _ rfl _ rfl _ (HP2.out) ?_))
      refine (HArx.out _ HT2.out).mono ?_;rintro e w3 ⟨v3,rfl,hO3,k3⟩;obtain ⟨a3,c3,rfl⟩:=hO3.slice;obtain ⟨g3,hl3,_⟩:=hO3.ls;have HL3:=Qh hl3;have HK3:=Qh (HK2.out.trans k3);have HO3:=Qh (HO2.out.kept k3);have HZ3:=Qh (HZ2.out.kept k3);generalize hR:R.length=r at *;have HR:=Qh hR;clear hO3 hl3 k3 hR;go_wp2_with (at_builtin;refine Yl rfl _ _ rfl X.heap.size g3 _ _ (F++cpP p s L k) R rfl rfl HO3.out HL3.out ?c1 ?c2 ?_)
      case c1=>have:=hLk.out;have:=HFl.out;have:=HAl.out;have:=HR.out;rw [List.length_append];omega
      case c2=>exact HK3.out.size
      intro v' w4 hO' hg;have hK4:=HO3.out.grown HK3.out (Nat.le_refl _) hg;have HZ4:=Qh (HZ3.out.beside HO3.out hg);rw [← HS.out] at hO';obtain ⟨a',cap',rfl⟩:=hO'.slice;have HO4:=Qh hO';have HK4:=Qh hK4;clear hO' hK4 hg;generalize (F++cpP p s L (k+1)).length=q' at *;go_wp2;go_roundw
      case rel=>exact ⟨k+1,by omega,by go_num,HO4.out,HK4.out,HZ4.out⟩
      case measure=>simp [intOf];omega
    ·obtain rfl:k=n:=by omega
     clear hZ;go_wp2;go_ret;exact ⟨_,rfl,by rw [HV.out];exact HO.out.low (HK0.out.trans HKX.out).size,(HK0.out.trans HKX.out).trans HK.out⟩
end Go.Proofs.YtlpeiolgcaddjaaGreatDoor
