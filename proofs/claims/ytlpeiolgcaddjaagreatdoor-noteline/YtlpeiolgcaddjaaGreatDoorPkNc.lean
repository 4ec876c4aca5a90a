/- NoC: my texts, in their order. -/
import Derived.Test.YtlpeiolgcaddjaaGreatDoorPkLf
import Derived.Test.YtlpeiolgcaddjaaGreatDoorPkNb
namespace Go.Proofs.YtlpeiolgcaddjaaGreatDoor
open Go.RowKit
set_option linter.unusedVariables false
set_option linter.unusedSimpArgs false
set_option maxRecDepth 100000
set_option maxHeartbeats 2000000 in
theorem indexFZ (k:Nat) (cb:Array Value) (L:List Int) (pd:Int→Bool) (W:World) (hent:∀ args w,(callFunc k args).run Tryz.prog w=.ok (.enter k args) w)
  (hcall:∀ s,s ∈ L→∀ w,Kept W w→Calls Tryz.prog k (#[.int .i64 s]++cb) w fun e w'=>e=.returned (.bool (pd s))∧Kept w w') (g:Nat) (v:Value) (h:LsZ W g v L) :
  Calls Tryz.prog 162 #[v,.func (.func k) #[] cb] W fun e w'=>(∃ i:Int,e=.returned (.int .i64 i)∧decide (0≤i)=L.any pd)∧Kept W w':=by
 have HC:=Qh hcall;clear hcall;by_cases hl:0<L.length
 ·obtain ⟨off,cap,rfl,h1,h2,h3⟩:=h.full hl
  have H3:=Qh h3;generalize hn:L.length=n at *;have HN:=Qh hn;have hm:n≤maxLen:=by omega
  unfold maxLen at hm;clear h h3 hn h2;go_enter Tryz.func162,Tryz.ntmps162;go_wp2
  go_loopw [8] (fun t8 wr=>∃ i:Nat,i≤n∧t8=.int .i64 i∧(∀ (j:Nat) (s:Int),j<i→L[j]?=some s→pd s=false)∧Kept W wr) (fun t8 _=>n-(intOf t8).toNat)
  case atStart=>exact ⟨0,Nat.zero_le _,rfl,fun j s hj=>by omega,Kept.refl _⟩
  case round =>
   obtain ⟨i,hi,rfl,hno,hK⟩:=hrel;have HO:=Qh hno;have HK:=Qh hK;clear hno;by_cases hlt:i<n
   ·have hlt':(i:Int)<(n:Int):=by omega
    obtain ⟨x,hx⟩:∃ x,L[i]?=some x:=⟨_,List.getElem?_eq_getElem (by have:=HN.out;omega)⟩;have hcl:=Qa hK (H3.out i x hx);have HX:=Qh hx;have HCx:=Qh (HC.out x (List.mem_of_getElem? hx) wr hK);clear hx hK
    cases hb:pd x
    ·rw [hb] at HCx
     have Hb:=Qh hb;clear hb;go_wp2_with fail
     refine HCx.out.mono ?_;rintro e w1 ⟨rfl,k1⟩;have HK1:=Qh (HK.out.trans k1);clear k1 hcl;go_wp2;go_roundw
     case rel=>exact ⟨i+1,by omega,by go_num,fun j s hj hjm=>by
      by_cases hji:j<i
      ·exact HO.out j s hji hjm
      ·obtain rfl:j=i:=by omega
       rw [HX.out] at hjm;rw [← Option.some.inj hjm];exact Hb.out,HK1.out⟩
     case measure=>simp [intOf];omega
    ·rw [hb] at HCx
     have Hb:=Qh hb;clear hb;go_wp2_with fail
     refine HCx.out.mono ?_;rintro e w1 ⟨rfl,k1⟩;have HK1:=Qh (HK.out.trans k1);clear k1 hcl;go_wp2;go_ret;exact ⟨⟨(i:Int),rfl,by rw [decide_eq_true (by omega),List.any_eq_true.2 ⟨x,List.mem_of_getElem? HX.out,Hb.out⟩]⟩,HK1.out⟩
   ·clear hK
    go_wp2;go_ret;refine ⟨⟨-1,rfl,?_⟩,HK.out⟩;rw [decide_eq_false (by omega),eq_comm,List.any_eq_false];intro s hs;obtain ⟨j,hj⟩:=List.getElem?_of_mem hs;rw [HO.out j s (by have:=(List.getElem?_eq_some_iff.1 hj).1;have:=HN.out;omega) hj];decide
 ·have h0:L=[]:=List.eq_nil_of_length_eq_zero (by omega)
  subst h0;obtain ⟨a1,c1,rfl⟩:=h.slice;go_enter Tryz.func162,Tryz.ntmps162;go_wp2
  go_loopw [8] (fun t8 wr=>t8=.int .i64 0∧wr=W) (fun _ _=>0)
  case atStart=>exact ⟨rfl,rfl⟩
  case round =>
   obtain ⟨rfl,rfl⟩:=hrel;go_wp2;go_ret;exact ⟨⟨-1,rfl,rfl⟩,Kept.refl _⟩
theorem containsFZ (k:Nat) (cb:Array Value) (L:List Int) (pd:Int→Bool) (W:World) (hent:∀ args w,(callFunc k args).run Tryz.prog w=.ok (.enter k args) w)
  (hcall:∀ s,s ∈ L→∀ w,Kept W w→Calls Tryz.prog k (#[.int .i64 s]++cb) w fun e w'=>e=.returned (.bool (pd s))∧Kept w w') (g:Nat) (v:Value) (h:LsZ W g v L) :
  Calls Tryz.prog 141 #[v,.func (.func k) #[] cb] W fun e w'=>e=.returned (.bool (L.any pd))∧Kept W w':=by
 have HI:=Qh (indexFZ k cb L pd W hent hcall g v h);obtain ⟨a1,c1,rfl⟩:=h.slice;clear hent hcall h;generalize L.length=n at *;generalize L.any pd=ay at *;go_enter Tryz.func141,Tryz.ntmps141;go_wp2_with fail
 refine HI.out.mono ?_;rintro e w1 ⟨⟨i,rfl,hi⟩,k1⟩;have HKe:=Qh k1;have HE:=Qh hi;clear k1 hi;go_wp2;go_ret;exact ⟨by rw [HE.out];first|done|rfl,HKe.out⟩
theorem stands1_is (f:Nat) (lv:Int→Int) (hent:∀ args w,(callFunc f args).run Tryz.prog w=.ok (.enter f args) w) (x s:Int) (hx:∀ w,Calls Tryz.prog f #[.int .i64 x] w fun e w'=>e=.returned (.int .i64 (lv x))∧Kept w w')
  (hs:∀ w,Calls Tryz.prog f #[.int .i64 s] w fun e w'=>e=.returned (.int .i64 (lv s))∧Kept w w') (ga gb:Nat) (w:World) (ha:w.cell? ⟨ga,0,none⟩=some (.func (.func f) #[] #[])) (hb:w.cell? ⟨gb,0,none⟩=some (.int .i64 s)) :
  Calls Tryz.prog 142 #[.int .i64 x,.pointer (some ⟨ga,0,none⟩),.pointer (some ⟨gb,0,none⟩)] w fun e w'=>e=.returned (.bool (lv x == lv s))∧Kept w w':=by
 have HX:=Qh hx;have HS:=Qh hs;have HA:=Qh ha;have HB:=Qh hb;clear hx hs ha hb;generalize lv x=lx at *;generalize lv s=ls at *;go_enter Tryz.func142,Tryz.ntmps142;go_wp2;refine wp_region_held_drew (S:=Kept _) (by kernel_rfl) (Kept.refl _).drew (fun Qj=>?_);refine rC 0 5 (.func (.func f) #[] #[]) rfl rfl (fun _ h=>Qa h (HA.out)) Qj ?_;simp only [pA,pN,sZ,sU];refine rT 1 6 (.int .i64 x) rfl rfl Qj ?_;simp only [pA,pN,sZ,sU];refine rC 3 8 (.func (.func f) #[] #[]) rfl rfl (fun _ h=>Qa h (HA.out)) Qj ?_;simp only [pA,pN,sZ,sU];refine rC 4 9 (.int .i64 s) rfl rfl (fun _ h=>Qa h (HB.out)) Qj ?_;simp only [pA,pN,sZ,sU];refine rR 2 rfl (fun K hK=>?_);go_simp;refine (HX.out _).mono ?_;rintro e x1 ⟨rfl,gx1⟩;refine hK.out _ _ (Qj.trans gx1) (fun _=>?_);replace Qj:=Qj.trans gx1;clear hK K;refine rR 5 rfl (fun K hK=>?_);go_simp;refine (HS.out _).mono ?_;rintro e x2 ⟨rfl,gx2⟩;refine hK.out _ _ (Qj.trans gx2) (fun _=>?_);replace Qj:=Qj.trans gx2;clear hK K;refine rT 6 11 (.bool (lx == ls)) rfl rfl Qj ?_;simp only [pA,pN,sZ,sU];refine rT 7 4 (.bool (lx == ls)) rfl rfl Qj ?_;simp only [pA,pN,sZ,sU];refine wpAnyH_done (by kernel_rfl) ?_ _;go_wp2;go_ret;exact ⟨rfl,Qj⟩
theorem stands_is (f:Nat) (lv:Int→Int) (hent:∀ args w,(callFunc f args).run Tryz.prog w=.ok (.enter f args) w) (L:List Int) (s:Int)
  (hf:∀ x,(x=s∨x ∈ L)→∀ w,Calls Tryz.prog f #[.int .i64 x] w fun e w'=>e=.returned (.int .i64 (lv x))∧Kept w w') (g:Nat) (v:Value) (w:World) (h:LsZ w g v L) :
  Calls Tryz.prog 103 #[v,.func (.func f) #[] #[],.int .i64 s] w fun e w'=>e=.returned (.bool (L.any fun x=>lv x == lv s))∧Kept w w':=by
 have KA:=(Kept.refl w).alloc (.cells #[.func (.func f) #[] #[]] 68);have KB:=KA.alloc (.cells #[.int .i64 s] 3);have ha:((w.alloc (.cells #[.func (.func f) #[] #[]] 68)).alloc (.cells #[.int .i64 s] 3)).cell? ⟨w.heap.size,0,none⟩=some (.func (.func f) #[] #[]):=by simp [go_sem]
 have hb:((w.alloc (.cells #[.func (.func f) #[] #[]] 68)).alloc (.cells #[.int .i64 s] 3)).cell? ⟨w.heap.size+1,0,none⟩=some (.int .i64 s):=by simp [go_sem]
 have HC:=Qh (containsFZ 142 #[.pointer (some ⟨w.heap.size,0,none⟩),.pointer (some ⟨w.heap.size+1,0,none⟩)] L (fun x=>lv x == lv s) _ (fun args w=>Qac Tryz.func142 (by kernel_rfl) rfl args w)
  (fun x hx w' k=>stands1_is f lv hent x s (hf x (.inr hx)) (hf s (.inl rfl)) w.heap.size (w.heap.size+1) w' (Qa k ha) (Qa k hb)) g v (h.kept KB))
 have HKB:=Qh KB;obtain ⟨a1,c1,rfl⟩:=h.slice;clear KA KB ha hb hent hf h;generalize L.length=n at *;generalize (L.any fun x=>lv x == lv s)=ay at *;go_enter Tryz.func103,Tryz.ntmps103;go_wp2_with fail
 refine HC.out.mono ?_;rintro e w1 ⟨rfl,k1⟩;have HKe:=Qh (HKB.out.trans k1);clear k1;go_wp2;go_ret;exact ⟨rfl,HKe.out⟩
theorem rivL_take_yes {p:Ps} {m x:Mv} {L:List Mv} {k:Nat} (h:L[k]?=some x) (hb:rivB p m x=true):rivL p m (L.take (k+1))=rivL p m (L.take k)++[x.f]:=by
 unfold rivL;rw [take_one h];simp [hb]
theorem Qba {p:Ps} {m x:Mv} {L:List Mv} {k:Nat} (h:L[k]?=some x) (hb:rivB p m x=false):rivL p m (L.take (k+1))=rivL p m (L.take k):=by
 unfold rivL;rw [take_one h];simp [hb]
theorem rivL_len (p:Ps) (m:Mv) (L:List Mv) (k:Nat):(rivL p m (L.take k)).length≤k:=by
 unfold rivL;rw [List.length_map];refine Nat.le_trans (List.length_filter_le _ _) ?_;rw [List.length_take];omega
set_option maxHeartbeats 4000000 in
theorem rivals_is (p:Ps) (hB:Brd p.B) (m:Mv) (ho:On m) (L:List Mv) (hL:∀ n,n ∈ L→On n) (hlen:L.length≤24576) (gl:Nat) (v:Value) (w:World) (h:LsM w gl v L) :
  Calls Tryz.prog 102 #[.agg (pl p).toArray,.agg (ml m).toArray,v] w (NewZ w (rivL p m L)):=by
 have HP:Hid (PAt _ _ p):=⟨hB.1,heap_alloc2_old w (.cells (pl p).toArray 26) (.cells (ml m).toArray 28)⟩;have HM:Hid (MAt _ _ m):=⟨heap_alloc2_new w (.cells (pl p).toArray 26) (.cells (ml m).toArray 28)⟩;have HK0:=Qh (((Kept.refl w).alloc (.cells (pl p).toArray 26)).alloc (.cells (ml m).toArray 28));have hpl:Hid (p.B.length=64):=hB.1;have HLs:=Qh (h.kept HK0.out);have HKm:=Qh (fun w=>kind_is p hB m ho w);have HKx0:=Qh (fun x (hx:x ∈ L) w=>kind_is p hB x (hL x hx) w);have HFe:=Qh (show rivL p m (L.take L.length)=rivL p m L by rw [List.take_length]);obtain ⟨a0,c0,rfl⟩:=h.slice;have HLl:=Qh hlen;generalize hn:L.length=n at *;have HN:=Qh hn;clear hB ho hL hlen h hn;go_enter Tryz.func102,Tryz.ntmps102;go_wp2;generalize hW:(w.alloc (.cells (pl p).toArray 26)).alloc (.cells (ml m).toArray 28)=W at *;have HWs:Hid (W.heap.size=w.heap.size+2):=by show _=_;rw [← hW];simp
 clear hW
 go_loopw [7,12] (fun t7 t12 wr=>∃ k:Nat,k≤n∧t12=.int .i64 k∧OwnZ wr W.heap.size t7 (rivL p m (L.take k))∧Kept W wr) (fun _ t12 _=>n-(intOf t12).toNat)
 case atStart=>exact ⟨0,Nat.zero_le _,rfl,OwnZ.nil _ _,Kept.refl _⟩
 case round =>
  obtain ⟨k,hk,rfl,hown,hK⟩:=hrel;obtain ⟨a7,c7,rfl⟩:=hown.slice;have HK:=Qh hK;have HO:=Qh hown;have HLn:=Qh (rivL_len p m L k);clear hown;by_cases hlt:k<n
  ·have hlt':(k:Int)<(n:Int):=by omega
   obtain ⟨x,hx⟩:∃ x,L[k]?=some x:=⟨_,List.getElem?_eq_getElem (by have:=HN.out;omega)⟩;have hmx:=List.mem_of_getElem? hx;obtain ⟨off,cap,he,hc1,hc2,h3⟩:=HLs.out.full (by have:=HN.out;omega);rw [HN.out] at he;injection he with he1 he2 he3
   subst he1 he3;rw [HN.out] at hc1;unfold maxLen at hc2;have HX:=Qh hx;have HRx:=Qh (range_i (Yf h3 hK) hx);have KB0:=Qh ((Kept.refl wr).alloc (.cells (ml x).toArray 28));have HMb:=Qh (MAt.new wr x);have HKb:=Qh (hK.trans KB0.out);have HMk:=Qh (MAt.kept HM.out HKb.out);have HPk:=Qh (HP.out.kept HKb.out);have HOb:=Qh (HO.out.kept KB0.out);have HKx:=Qh (HKx0.out x hmx);have HRiv:Hid (rivB p m x=(((x.t == m.t) && (x.f != m.f)) && (kdI p x == kdI p m))):=rfl;clear h3 hx hK hmx
   cases hb1:(x.t == m.t)
   ·have b1:(x.t == m.t)=false:=hb1
    have HY:=Qh (Qba HX.out (by rw [HRiv.out,hb1];rfl));clear HRiv;generalize hNn:(rivL p m (L.take k)).length=N at *;go_wp2_with (first|((with_reducible refine Qn rfl _ rfl gl (off+k*3) ?_ x HRx.out ?_);exact rfl)|(with_reducible refine Ql rfl rfl ?_)|((with_reducible refine Qg rfl _ _ rfl Zm x ?_ ?_ ?_);exact rfl;exact rfl))
    generalize wr.alloc (.cells (ml x).toArray 28)=wb at *;refine wp_region_held_drew (S:=Kept _) (by kernel_rfl) (Kept.refl _).drew (fun Qj=>?_);refine rT 0 16 (.pointer (some ⟨wr.heap.size,1,none⟩)) rfl rfl Qj ?_;simp only [Act.put,sA,sZ,sU];refine rC 1 17 (.int .i64 x.t) rfl rfl (fun _ h=>Qa h (HMb.out.t)) Qj ?_;simp only [pA,pN,sZ,sU];refine rT 2 18 (.pointer (some ⟨w.heap.size+1,1,none⟩)) rfl rfl Qj ?_;simp only [pA,pN,sZ,sU];refine rC 3 19 (.int .i64 m.t) rfl rfl (fun _ h=>Qa h (HMk.out.t)) Qj ?_;simp only [pA,pN,sZ,sU];refine rT 4 20 (.bool false) rfl rfl Qj ?_;simp only [pA,pN,sZ,sU];refine rT 5 21 (.bool false) rfl rfl Qj ?_;simp only [pA,pN,sZ,sU];refine rN 6 22 rfl rfl Qj ?_;simp only [pA,pN,sZ,sU];refine rN 7 23 rfl rfl Qj ?_;simp only [pA,pN,sZ,sU];refine rN 8 24 rfl rfl Qj ?_;simp only [pA,pN,sZ,sU];refine rN 9 25 rfl rfl Qj ?_;simp only [pA,pN,sZ,sU];refine rN 10 26 rfl rfl Qj ?_;simp only [pA,pN,sZ,sU];refine rT 11 27 (.bool false) rfl rfl Qj ?_;simp only [pA,pN,sZ,sU];refine rT 12 28 (.bool false) rfl rfl Qj ?_;simp only [pA,pN,sZ,sU];refine rN 13 29 rfl rfl Qj ?_;simp only [pA,pN,sZ,sU];refine rN 14 30 rfl rfl Qj ?_;simp only [pA,pN,sZ,sU];refine rN 15 31 rfl rfl Qj ?_;simp only [pA,pN,sZ,sU];refine rN 16 32 rfl rfl Qj ?_;simp only [pA,pN,sZ,sU];refine rN 17 33 rfl rfl Qj ?_;simp only [pA,pN,sZ,sU];refine rN 18 34 rfl rfl Qj ?_;simp only [pA,pN,sZ,sU];refine rN 19 35 rfl rfl Qj ?_;simp only [pA,pN,sZ,sU];refine rT 20 36 (.bool false) rfl rfl Qj ?_;simp only [pA,pN,sZ,sU];refine wpAnyH_done (by kernel_rfl) ?_ _;have HK1:=Qh (HKb.out.trans Qj);have HO1:=Qh (HOb.out.kept Qj);clear Qj hNn;go_wp2;go_roundw
    case rel=>exact ⟨k+1,by omega,by go_num,by rw [HY.out];exact HO1.out,HK1.out⟩
    case measure=>simp [intOf];omega
   ·cases hb2:(x.f != m.f)
    ·have HY:=Qh (Qba HX.out (by rw [HRiv.out,hb1,hb2];rfl))
     clear HRiv;generalize hNn:(rivL p m (L.take k)).length=N at *;go_wp2_with (first|((with_reducible refine Qn rfl _ rfl gl (off+k*3) ?_ x HRx.out ?_);exact rfl)|(with_reducible refine Ql rfl rfl ?_)|((with_reducible refine Qg rfl _ _ rfl Zm x ?_ ?_ ?_);exact rfl;exact rfl))
     generalize wr.alloc (.cells (ml x).toArray 28)=wb at *;refine wp_region_held_drew (S:=Kept _) (by kernel_rfl) (Kept.refl _).drew (fun Qj=>?_);refine rT 0 16 (.pointer (some ⟨wr.heap.size,1,none⟩)) rfl rfl Qj ?_;simp only [Act.put,sA,sZ,sU];refine rC 1 17 (.int .i64 x.t) rfl rfl (fun _ h=>Qa h (HMb.out.t)) Qj ?_;simp only [pA,pN,sZ,sU];refine rT 2 18 (.pointer (some ⟨w.heap.size+1,1,none⟩)) rfl rfl Qj ?_;simp only [pA,pN,sZ,sU];refine rC 3 19 (.int .i64 m.t) rfl rfl (fun _ h=>Qa h (HMk.out.t)) Qj ?_;simp only [pA,pN,sZ,sU];refine rT 4 20 (.bool true) rfl rfl Qj ?_;simp only [pA,pN,sZ,sU];refine rT 5 21 (.bool true) rfl rfl Qj ?_;simp only [pA,pN,sZ,sU];refine rT 6 22 (.pointer (some ⟨wr.heap.size,0,none⟩)) rfl rfl Qj ?_;simp only [pA,pN,sZ,sU];refine rC 7 23 (.int .i64 x.f) rfl rfl (fun _ h=>Qa h (HMb.out.f)) Qj ?_;simp only [pA,pN,sZ,sU];refine rT 8 24 (.pointer (some ⟨w.heap.size+1,0,none⟩)) rfl rfl Qj ?_;simp only [pA,pN,sZ,sU];refine rC 9 25 (.int .i64 m.f) rfl rfl (fun _ h=>Qa h (HMk.out.f)) Qj ?_;simp only [pA,pN,sZ,sU];refine rT 10 26 (.bool false) rfl rfl Qj ?_;simp only [pA,pN,sZ,sU];refine rT 11 27 (.bool false) rfl rfl Qj ?_;simp only [pA,pN,sZ,sU];refine rT 12 28 (.bool false) rfl rfl Qj ?_;simp only [pA,pN,sZ,sU];refine rN 13 29 rfl rfl Qj ?_;simp only [pA,pN,sZ,sU];refine rN 14 30 rfl rfl Qj ?_;simp only [pA,pN,sZ,sU];refine rN 15 31 rfl rfl Qj ?_;simp only [pA,pN,sZ,sU];refine rN 16 32 rfl rfl Qj ?_;simp only [pA,pN,sZ,sU];refine rN 17 33 rfl rfl Qj ?_;simp only [pA,pN,sZ,sU];refine rN 18 34 rfl rfl Qj ?_;simp only [pA,pN,sZ,sU];refine rN 19 35 rfl rfl Qj ?_;simp only [pA,pN,sZ,sU];refine rT 20 36 (.bool false) rfl rfl Qj ?_;simp only [pA,pN,sZ,sU];refine wpAnyH_done (by kernel_rfl) ?_ _;have HK1:=Qh (HKb.out.trans Qj);have HO1:=Qh (HOb.out.kept Qj);clear Qj hNn;go_wp2;go_roundw
     case rel=>exact ⟨k+1,by omega,by go_num,by rw [HY.out];exact HO1.out,HK1.out⟩
     case measure=>simp [intOf];omega
    ·cases hb3:(kdI p x == kdI p m)
     ·have HY:=Qh (Qba HX.out (by rw [HRiv.out,hb1,hb2,hb3];rfl))
      clear HRiv;generalize hNn:(rivL p m (L.take k)).length=N at *;generalize kdI p x=kx at *;generalize kdI p m=km at *;go_wp2_with (first|((with_reducible refine Qn rfl _ rfl gl (off+k*3) ?_ x HRx.out ?_);exact rfl)|(with_reducible refine Ql rfl rfl ?_)|((with_reducible refine Qg rfl _ _ rfl Zm x ?_ ?_ ?_);exact rfl;exact rfl))
      generalize wr.alloc (.cells (ml x).toArray 28)=wb at *;refine wp_region_held_drew (S:=Kept _) (by kernel_rfl) (Kept.refl _).drew (fun Qj=>?_);refine rT 0 16 (.pointer (some ⟨wr.heap.size,1,none⟩)) rfl rfl Qj ?_;simp only [Act.put,sA,sZ,sU];refine rC 1 17 (.int .i64 x.t) rfl rfl (fun _ h=>Qa h (HMb.out.t)) Qj ?_;simp only [pA,pN,sZ,sU];refine rT 2 18 (.pointer (some ⟨w.heap.size+1,1,none⟩)) rfl rfl Qj ?_;simp only [pA,pN,sZ,sU];refine rC 3 19 (.int .i64 m.t) rfl rfl (fun _ h=>Qa h (HMk.out.t)) Qj ?_;simp only [pA,pN,sZ,sU];refine rT 4 20 (.bool true) rfl rfl Qj ?_;simp only [pA,pN,sZ,sU];refine rT 5 21 (.bool true) rfl rfl Qj ?_;simp only [pA,pN,sZ,sU];refine rT 6 22 (.pointer (some ⟨wr.heap.size,0,none⟩)) rfl rfl Qj ?_;simp only [pA,pN,sZ,sU];refine rC 7 23 (.int .i64 x.f) rfl rfl (fun _ h=>Qa h (HMb.out.f)) Qj ?_;simp only [pA,pN,sZ,sU];refine rT 8 24 (.pointer (some ⟨w.heap.size+1,0,none⟩)) rfl rfl Qj ?_;simp only [pA,pN,sZ,sU];refine rC 9 25 (.int .i64 m.f) rfl rfl (fun _ h=>Qa h (HMk.out.f)) Qj ?_;simp only [pA,pN,sZ,sU];refine rT 10 26 (.bool true) rfl rfl Qj ?_;simp only [pA,pN,sZ,sU];refine rT 11 27 (.bool true) rfl rfl Qj ?_;simp only [pA,pN,sZ,sU];refine rT 12 28 (.bool true) rfl rfl Qj ?_;simp only [pA,pN,sZ,sU];refine rY 13 29 rfl rfl (Qk (by rfl) _ rfl _ rfl p hpl.out (fun _ h=>(HPk.out).kept h)) Qj ?_;simp only [pA,pN,sZ,sU];refine rY 14 30 rfl rfl (Qm (by rfl) _ rfl _ rfl x (fun _ h=>MAt.kept (HMb.out) h)) Qj ?_;simp only [pA,pN,sZ,sU];refine rY 16 32 rfl rfl (Qk (by rfl) _ rfl _ rfl p hpl.out (fun _ h=>(HPk.out).kept h)) Qj ?_;simp only [pA,pN,sZ,sU];refine rY 17 33 rfl rfl (Qm (by rfl) _ rfl _ rfl m (fun _ h=>MAt.kept (HMk.out) h)) Qj ?_;simp only [pA,pN,sZ,sU];refine rR 15 rfl (fun K hK=>?_);rw [if_pos (by rfl)];go_simp;refine (HKx.out _).mono ?_;rintro e x1 ⟨rfl,gx1⟩;refine hK.out _ _ (Qj.trans gx1) (fun _=>?_);replace Qj:=Qj.trans gx1;clear hK K;refine rR 18 rfl (fun K hK=>?_);rw [if_pos (by rfl)];go_simp;refine (HKm.out _).mono ?_;rintro e x2 ⟨rfl,gx2⟩;refine hK.out _ _ (Qj.trans gx2) (fun _=>?_);replace Qj:=Qj.trans gx2;clear hK K;refine rT 19 35 (.bool false) rfl rfl Qj ?_;simp only [pA,pN,sZ,sU];refine rT 20 36 (.bool false) rfl rfl Qj ?_;simp only [pA,pN,sZ,sU];refine wpAnyH_done (by kernel_rfl) ?_ _;have HK1:=Qh (HKb.out.trans Qj);have HO1:=Qh (HOb.out.kept Qj);have HM1:=Qh (MAt.kept HMb.out Qj);clear Qj hNn;go_wp2;go_roundw
      case rel=>exact ⟨k+1,by omega,by go_num,by rw [HY.out];exact HO1.out,HK1.out⟩
      case measure=>simp [intOf];omega
     ·have HY:=Qh (rivL_take_yes HX.out (by rw [HRiv.out,hb1,hb2,hb3];rfl))
      clear HRiv;generalize hNn:(rivL p m (L.take k)).length=N at *;generalize kdI p x=kx at *;generalize kdI p m=km at *;go_wp2_with (first|((with_reducible refine Qn rfl _ rfl gl (off+k*3) ?_ x HRx.out ?_);exact rfl)|(with_reducible refine Ql rfl rfl ?_)|((with_reducible refine Qg rfl _ _ rfl Zm x ?_ ?_ ?_);exact rfl;exact rfl))
      generalize wr.alloc (.cells (ml x).toArray 28)=wb at *;refine wp_region_held_drew (S:=Kept _) (by kernel_rfl) (Kept.refl _).drew (fun Qj=>?_);refine rT 0 16 (.pointer (some ⟨wr.heap.size,1,none⟩)) rfl rfl Qj ?_;simp only [Act.put,sA,sZ,sU];refine rC 1 17 (.int .i64 x.t) rfl rfl (fun _ h=>Qa h (HMb.out.t)) Qj ?_;simp only [pA,pN,sZ,sU];refine rT 2 18 (.pointer (some ⟨w.heap.size+1,1,none⟩)) rfl rfl Qj ?_;simp only [pA,pN,sZ,sU];refine rC 3 19 (.int .i64 m.t) rfl rfl (fun _ h=>Qa h (HMk.out.t)) Qj ?_;simp only [pA,pN,sZ,sU];refine rT 4 20 (.bool true) rfl rfl Qj ?_;simp only [pA,pN,sZ,sU];refine rT 5 21 (.bool true) rfl rfl Qj ?_;simp only [pA,pN,sZ,sU];refine rT 6 22 (.pointer (some ⟨wr.heap.size,0,none⟩)) rfl rfl Qj ?_;simp only [pA,pN,sZ,sU];refine rC 7 23 (.int .i64 x.f) rfl rfl (fun _ h=>Qa h (HMb.out.f)) Qj ?_;simp only [pA,pN,sZ,sU];refine rT 8 24 (.pointer (some ⟨w.heap.size+1,0,none⟩)) rfl rfl Qj ?_;simp only [pA,pN,sZ,sU];refine rC 9 25 (.int .i64 m.f) rfl rfl (fun _ h=>Qa h (HMk.out.f)) Qj ?_;simp only [pA,pN,sZ,sU];refine rT 10 26 (.bool true) rfl rfl Qj ?_;simp only [pA,pN,sZ,sU];refine rT 11 27 (.bool true) rfl rfl Qj ?_;simp only [pA,pN,sZ,sU];refine rT 12 28 (.bool true) rfl rfl Qj ?_;simp only [pA,pN,sZ,sU];refine rY 13 29 rfl rfl (Qk (by rfl) _ rfl _ rfl p hpl.out (fun _ h=>(HPk.out).kept h)) Qj ?_;simp only [pA,pN,sZ,sU];refine rY 14 30 rfl rfl (Qm (by rfl) _ rfl _ rfl x (fun _ h=>MAt.kept (HMb.out) h)) Qj ?_;simp only [pA,pN,sZ,sU];refine rY 16 32 rfl rfl (Qk (by rfl) _ rfl _ rfl p hpl.out (fun _ h=>(HPk.out).kept h)) Qj ?_;simp only [pA,pN,sZ,sU];refine rY 17 33 rfl rfl (Qm (by rfl) _ rfl _ rfl m (fun _ h=>MAt.kept (HMk.out) h)) Qj ?_;simp only [pA,pN,sZ,sU];refine rR 15 rfl (fun K hK=>?_);rw [if_pos (by rfl)];go_simp;refine (HKx.out _).mono ?_;rintro e x1 ⟨rfl,gx1⟩;refine hK.out _ _ (Qj.trans gx1) (fun _=>?_);replace Qj:=Qj.trans gx1;clear hK K;refine rR 18 rfl (fun K hK=>?_);rw [if_pos (by rfl)];go_simp;refine (HKm.out _).mono ?_;rintro e x2 ⟨rfl,gx2⟩;refine hK.out _ _ (Qj.trans gx2) (fun _=>?_);replace Qj:=Qj.trans gx2;clear hK K;refine rT 19 35 (.bool true) rfl rfl Qj ?_;simp only [pA,pN,sZ,sU];refine rT 20 36 (.bool true) rfl rfl Qj ?_;simp only [pA,pN,sZ,sU];refine wpAnyH_done (by kernel_rfl) ?_ _;have HK1:=Qh (HKb.out.trans Qj);have HO1:=Qh (HOb.out.kept Qj);have HM1:=Qh (MAt.kept HMb.out Qj);clear Qj gx1 gx2;have y1:=HM1.out.f;have HA:=Qh (HK1.out.alloc (.cells #[.int .i64 x.f] 3));have HOA:=Qh (HO1.out.kept ((Kept.refl _).alloc (.cells #[.int .i64 x.f] 3)));have HLe:Hid ((rivL p m (L.take k)).length=N):=hNn;clear hNn;go_wp2_with (at_builtin;refine Qs rfl _ _ rfl W.heap.size x2.heap.size _ _ (rivL p m (L.take k)) [x.f] rfl rfl HOA.out (LsZ.lit _ [x.f] (by simp)) ?c1 ?c2 ?_)
      case c1=>have:=HLl.out;have:=HN.out;have:=HLn.out;have:=HLe.out;simp;omega
      case c2=>exact HA.out.size
      intro v' w4 hown' hg;have HK4:=Qh (HOA.out.grown HA.out (Nat.le_refl _) hg);rw [← HY.out] at hown';obtain ⟨a',cap',rfl⟩:=hown'.slice;have HO4:=Qh hown';clear hown' hg y1;generalize (rivL p m (L.take (k+1))).length=N2 at *;go_wp2;go_roundw
      case rel=>exact ⟨k+1,by omega,by go_num,HO4.out,HK4.out⟩
      case measure=>simp [intOf];omega
  ·clear hK
   obtain rfl:k=n:=by omega
   generalize hNn:(rivL p m (L.take k)).length=N at *;clear hNn;go_wp2;go_ret;exact ⟨_,rfl,by rw [← HFe.out];exact HO.out.low HK0.out.size,HK0.out.trans HK.out⟩
end Go.Proofs.YtlpeiolgcaddjaaGreatDoor
