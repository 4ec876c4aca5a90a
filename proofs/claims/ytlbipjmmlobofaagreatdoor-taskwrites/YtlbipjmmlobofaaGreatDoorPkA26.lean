/- TyD · FoN · TyE · TsY: my texts, in their order. -/
import Derived.Test.YtlbipjmmlobofaaGreatDoorPkA23
import Derived.Test.YtlbipjmmlobofaaGreatDoorPkA25
import Derived.Deep.Cut
namespace Go.Proofs.YtlbipjmmlobofaaGreatDoor
open Go.RowKit
set_option linter.unusedVariables false
set_option linter.unusedSimpArgs false
set_option maxRecDepth 100000
set_option maxHeartbeats 4000000

def oLn (K:Tk) (i:Nat):ByteArray:=if toldB i K=true then ⟨(olL i (toldV K i)).toArray⟩ else ⟨#[]⟩
def upO (K:Tk):Nat→ByteArray
 | 0=>⟨#[98,101,103,105,110,10,102,111,114,115,121,116,104,32]⟩++⟨(writeT K.B).toArray⟩++⟨#[10,115,116,105,112,32]⟩++txT K.s++⟨#[10]⟩
 | j+1=>upO K j++oLn K j
theorem oLn_bs (K:Tk) (i:Nat):bs (oLn K i)=if toldB i K=true then olL i (toldV K i) else []:=by
 unfold oLn;split <;> rfl
theorem upO_7 (K:Tk):upO K 7++⟨#[101,110,100,10]⟩=txK K:=by
 apply bs_inj
 rw [txK_bs]
 have e0:bs (upO K 0)=begL++(rowW 0++(writeT K.B++10::(aimL++(bs (txT K.s)++[10])))):=by
  unfold upO
  rw [bs_append,bs_append,bs_append,bs_append]
  simp only [List.append_assoc]
  rfl
 have eo:txO K=bs (oLn K 0)++(bs (oLn K 1)++(bs (oLn K 2)++(bs (oLn K 3)++(bs (oLn K 4)++(bs (oLn K 5)++bs (oLn K 6)))))):=by
  have fl:∀ (L:List Nat),(L.filter fun i=>toldB i K).flatMap (fun i=>olL i (toldV K i))=L.flatMap fun i=>bs (oLn K i):=by
   intro L
   induction L with
   | nil=>rfl
   | cons i L ih =>
    rw [List.flatMap_cons,← ih,List.filter_cons,oLn_bs]
    cases h:toldB i K
    ·rfl
    ·simp
  have:=fl op7
  refine this.trans ?_
  show ([0,1,2,3,4,5,6]:List Nat).flatMap (fun i=>bs (oLn K i))=_
  simp only [List.flatMap_cons,List.flatMap_nil,List.append_nil]
 unfold txR txA
 rw [eo]
 rw [bs_append]
 simp only [upO,bs_append] at e0 ⊢
 rw [← List.append_assoc] at e0
 simp only [List.append_assoc] at e0 ⊢
 have e1:begL++(rowW 0++(writeT K.B++10::(aimL++(bs (txT K.s)++10::(bs (oLn K 0)++(bs (oLn K 1)++(bs (oLn K 2)++(bs (oLn K 3)++(bs (oLn K 4)++(bs (oLn K 5)++(bs (oLn K 6)++endL)))))))))))
   = (begL++(rowW 0++(writeT K.B++10::(aimL++(bs (txT K.s)++[10])))))++(bs (oLn K 0)++(bs (oLn K 1)++(bs (oLn K 2)++(bs (oLn K 3)++(bs (oLn K 4)++(bs (oLn K 5)++(bs (oLn K 6)++endL))))))):=by
  simp only [List.append_assoc,List.cons_append,List.nil_append]
 rw [e1,← e0]
 simp only [List.append_assoc]
 rfl
theorem rkwrite_no (K:Tk) (hB:Brd K.B) (h:okK K=false) (w:World) :
  Calls Tryz.prog 9 #[kv K] w fun e w'=>e=.returned (.tuple #[.string ⟨#[]⟩,.int .i64 5])∧Kept w w':=by
 have H1:=Qh (KAt.new w hB.1)
 have K1:=Qh ((Kept.refl w).alloc (.cells (kcl K).toArray 30))
 have HR:=Qh (fun w=>rright_k K hB w)
 rw [h] at HR
 clear h hB
 go_enter Tryz.func9,Tryz.ntmps9
 go_upto_region 1 with (refine wpList_box_k rfl _ rfl K rfl ?_)
 generalize w.alloc (.cells (kcl K).toArray 30)=W1 at *
 generalize w.heap.size=g at *
 go_wp2_with (refine wpList_load_k (by rfl) _ rfl g rfl K H1.out ?_)
 refine (HR.out _).mono ?_
 rintro e w2 ⟨rfl,k2⟩
 have K2:=Qh (K1.out.trans k2)
 clear k2
 go_wp2
 go_ret2
 exact ⟨rfl,K2.out⟩
theorem rletter_any (m:Int) (h:okB m=true) (w:World) :
  Calls Tryz.prog 40 #[.int .i64 m] w fun e w'=>e=.returned (.string ⟨(lettM m).toArray⟩)∧w=w':=by
 unfold lettM
 by_cases h0:m=0
 ·rw [if_pos h0]
  exact rletter_no m w (by omega)
 ·rw [if_neg h0]
  have hm:manB m=true:=by
   unfold okB at h
   have:(m == 0)=false:=by simpa using h0
   simpa [this] using h
  obtain ⟨h1,h2⟩:=ordN_lt m hm
  have:=rletter_yes (ordN m) h1 w
  rw [h2] at this
  exact this
theorem cut_digit (g:Nat) (h:1≤g) (h8:g≤8):(⟨#[48,49,50,51,52,53,54,55,56]⟩:ByteArray).extract g (g+1)=⟨(dig g).toArray⟩:=by
 have:g=1∨g=2∨g=3∨g=4∨g=5∨g=6∨g=7∨g=8:=by omega
 rcases this with rfl|rfl|rfl|rfl|rfl|rfl|rfl|rfl <;> decide +kernel
theorem dig_one (g:Nat) (h:1≤g):(dig g).length=1:=by
 unfold dig;rw [if_neg (by omega)];rfl
def upto (B:List Int) (k:Nat):List UInt8:=if k=8 then writeT B else txt B k
theorem rwrite_no (B:List Int) (hB:Brd B) (hR:rightB B=false) (w:World) :
  Calls Tryz.prog 20 #[.agg (cl B).toArray] w fun e w'=>e=.returned (.tuple #[.string ⟨#[]⟩,.int .i64 5])∧Kept w w':=by
 have hbl:=heap_alloc_new w (.cells (cl B).toArray 24)
 have hz:=Qh (size_cl hB.1)
 have H:=Qh hB
 clear hB
 go_enter Tryz.func20,Tryz.ntmps20
 go_wp2_with (refine wpList_load_w (by rfl) _ rfl _ rfl _ (hbl) hz.out ?_)
 refine (rright_is B H.out _).mono ?_
 rw [hR]
 rintro e w1 ⟨rfl,g1⟩
 go_wp2
 go_ret2
 exact ⟨rfl,((Kept.refl w).alloc _).trans g1⟩
set_option maxHeartbeats 1000000 in
theorem rwrite_yes (B:List Int) (hB:Brd B) (hR:rightB B=true) (w:World) :
  Calls Tryz.prog 20 #[.agg (cl B).toArray] w fun e w'=>e=.returned (.tuple #[.string ⟨(writeT B).toArray⟩,.int .i64 0])∧Kept w w':=by
 have hbl:=Qh (heap_alloc_new w (.cells (cl B).toArray 24))
 have hz:=Qh (size_cl hB.1)
 have H:=Qh hB
 have HR:=Qh hR
 have HOK:=Qh ((rightB_iff B hB.1).1 hR)
 obtain ⟨W,eW⟩:∃ W,W=w.alloc (.cells (cl B).toArray 24):=⟨_,rfl⟩
 have hkW:=Qh (show Kept w W by rw [eW];exact (Kept.refl w).alloc _)
 have hbW:=Qh (show W.heap[w.heap.size]?=some (.cells (cl B).toArray 24 (0,0)) by rw [eW];exact hbl.out)
 have HW:=Qh eW
 clear hB hR eW
 go_enter Tryz.func20,Tryz.ntmps20
 go_wp2_with (refine wpList_load_w (by rfl) _ rfl _ rfl _ (hbl.out) hz.out ?_)
 refine (rright_is B H.out _).mono ?_
 rw [HR.out]
 rintro e w1 ⟨rfl,g1⟩
 have HK1:=Qh (show Kept W w1 by rw [HW.out];exact g1)
 clear g1
 go_wp2
 go_loopw [4,5] (fun t4 t5 wr=>∃ (k:Nat) (tx:ByteArray),k≤8∧t5=.int .i64 (7-(k:Int))∧t4=.string tx∧tx.data.toList=upto B k∧Kept W wr) (fun _ t5 _=>(intOf t5+1).toNat)
 case atStart=>exact ⟨0,⟨#[]⟩,by omega,rfl,rfl,rfl,HK1.out⟩
 case round =>
  obtain ⟨k,tx,hk,rfl,rfl,ht,hK⟩:=hrel
  have HT:=Qh ht
  have HK:=Qh hK
  clear ht hK
  by_cases hl:k<8
  ·have hl':(k:Int)≤7:=by omega
   have HT2:Hid (tx.data.toList=txt B k):=by have:=HT.out;unfold upto at this;rwa [if_neg (by omega)] at this
   clear HT
   go_wp2
   go_loopw [4,6,7] (fun t4 t6 t7 wr=>∃ (f g:Nat) (ty:ByteArray),f≤8∧g≤f∧(f=8→g=0)∧t7=.int .i64 f∧t6=.int .i64 g∧t4=.string ty∧ty.data.toList++rowGo ((rowL B (7-k)).drop f) g=txt B k++rowT B (7-k)∧Kept W wr) (fun _ _ t7 _=>8-(intOf t7).toNat)
   case atStart=>exact ⟨0,0,tx,by omega,by omega,by omega,rfl,rfl,rfl,by rw [HT2.out];rfl,HK.out⟩
   case round =>
    obtain ⟨f,g,ty,hf,hg,hfg,rfl,rfl,rfl,hy,hKy⟩:=hrel
    have HY:=Qh hy
    have HKY:=Qh hKy
    have HX:Hid (ty.size≤180):=by
     have h1:=rowT_len B (7-k)
     have h2:=txt_len B k
     have h3:=congrArg List.length hy
     rw [List.length_append,List.length_append,len_size] at h3
     refine Qh ?_
     omega
    have HFG:=Qh hfg
    clear hy hKy hfg
    by_cases hf8:f<8
    ·have hf8':(f:Int)<8:=by omega
     have HD:=Qh (drop_row B (7-k) f hf8)
     have hix:8*(7-(k:Int))+(f:Int)=((8*(7-k)+f:Nat):Int):=by omega
     obtain ⟨j,hj⟩:∃ j:Nat,8*(7-k)+f=j:=⟨_,rfl⟩
     rw [hj] at HD hix
     have hj64:j<64:=by omega
     have hc:=cell_cl H.out.1 (HKY.out.heap hbW.out) j hj64
     have HM:=Qh (HOK.out j hj64)
     obtain ⟨hb1,hb2⟩:=H.out.2 j hj64
     generalize B.getD j 0=m at *
     clear hj
     by_cases hm:m=0
     ·subst hm
      obtain ⟨g',hg'⟩:∃ g':Nat,(g:Int)+1=(g':Int):=⟨g+1,by omega⟩
      have hgp:(0:Int)<(g':Int):=by omega
      have HD2:Hid (ty.data.toList++rowGo ((rowL B (7-k)).drop (f+1)) g'=txt B k++rowT B (7-k)):=by
       refine Qh ?_
       have:=HY.out
       rw [HD.out] at this
       rw [show g'=g+1 by omega]
       simpa [rowGo] using this
      clear HY HD
      by_cases h7:f=7
      ·have b7:((f:Int) == 7)=true:=by rw [beq_iff_eq];omega
       have HF7:=Qh h7
       clear h7
       have hsl:=cut_digit g' (by omega) (by omega)
       have s0:=dig_one g' (by omega)
       have s1:¬ 9223372036854775807<ty.size+1:=by have:=HX.out;omega
       go_wp2_with fail
       refine (rletter_any 0 HM.out _).mono ?_
       rintro e w' ⟨rfl,rfl⟩
       have s2:¬ 9223372036854775807<ty.size+(dig g').length+(lettM 0).length:=by have:=HX.out;have:=lettM_len 0;omega
       have s3:¬ 9223372036854775807<ty.size+(dig g').length:=by have:=HX.out;omega
       go_wp2
       go_roundw
       case rel=>exact ⟨f+1,0,_,by omega,by omega,fun _=>rfl,by go_num,rfl,rfl,by rw [bs_app,bs_app];have:=HD2.out;have h7:=HF7.out;rw [List.drop_eq_nil_of_le (by rw [rowL_len];omega)] at this;rw [← this,List.drop_eq_nil_of_le (by rw [rowL_len];omega)];simp [rowGo,lettM,dig],HKY.out⟩
       case measure=>simp [intOf];omega
      ·have b7:((f:Int) == 7)=false:=beq_eq_false_iff_ne.2 (by omega)
       have hlt7:f<7:=by omega
       clear h7
       go_wp2_with fail
       refine (rletter_any 0 HM.out _).mono ?_
       rintro e w' ⟨rfl,rfl⟩
       have s2:¬ 9223372036854775807<ty.size+(lettM 0).length:=by have:=HX.out;have:=lettM_len 0;omega
       go_wp2
       go_roundw
       case rel=>exact ⟨f+1,g',_,by omega,by omega,by omega,by go_num,rfl,rfl,by rw [bs_app];have:=HD2.out;simpa [lettM] using this,HKY.out⟩
       case measure=>simp [intOf];omega
     ·have bm:(m == 0)=false:=by simpa using hm
      have bm':(m != 0)=true:=by simpa using hm
      have HD2:Hid (ty.data.toList++(dig g++lettM m++rowGo ((rowL B (7-k)).drop (f+1)) 0)=txt B k++rowT B (7-k)):=by
       have:=HY.out
       rw [HD.out,rowGo,if_neg hm] at this
       exact this
      clear HY HD hm
      by_cases hg0:g=0
      ·subst hg0
       go_wp2_with fail
       refine (rletter_any m HM.out _).mono ?_
       rintro e w' ⟨rfl,rfl⟩
       have s2:¬ 9223372036854775807<ty.size+(lettM m).length:=by have:=HX.out;have:=lettM_len m;omega
       go_wp2
       go_roundw
       case rel=>exact ⟨f+1,0,_,by omega,by omega,fun _=>rfl,by go_num,rfl,rfl,by rw [bs_app];have:=HD2.out;simpa [dig] using this,HKY.out⟩
       case measure=>simp [intOf];omega
      ·have hgp:(0:Int)<(g:Int):=by omega
       have hsl:=cut_digit g (by omega) (by omega)
       have s0:=dig_one g (by omega)
       have s1:¬ 9223372036854775807<ty.size+1:=by have:=HX.out;omega
       clear hg0
       go_wp2_with fail
       refine (rletter_any m HM.out _).mono ?_
       rintro e w' ⟨rfl,rfl⟩
       have s2:¬ 9223372036854775807<ty.size+(dig g).length+(lettM m).length:=by have:=HX.out;have:=lettM_len m;omega
       go_wp2
       go_roundw
       case rel=>exact ⟨f+1,0,_,by omega,by omega,fun _=>rfl,by go_num,rfl,rfl,by rw [bs_app,bs_app];have:=HD2.out;simpa using this,HKY.out⟩
       case measure=>simp [intOf];omega
    ·have e8:f=8:=by omega
     subst e8
     have e0:=HFG.out rfl
     subst e0
     have HE:Hid (ty.data.toList=txt B k++rowT B (7-k)):=by
      refine Qh ?_
      have:=HY.out
      rw [List.drop_eq_nil_of_le (by rw [rowL_len];omega)] at this
      simpa [rowGo,dig] using this
     clear HY hf8
     by_cases h7:k=7
     ·subst h7
      go_wp2
      go_roundw
      case rel=>exact ⟨8,ty,by omega,rfl,rfl,by rw [HE.out];rfl,HKY.out⟩
      case measure=>simp [intOf]
     ·have b7:(0:Int)<7-(k:Int):=by omega
      have s2:¬ 9223372036854775807<ty.size+1:=by have:=HX.out;omega
      go_wp2
      go_roundw
      case rel=>exact ⟨k+1,_,by omega,by go_num,rfl,by rw [bs_app,HE.out];unfold upto;rw [if_neg (by omega)];rfl,HKY.out⟩
      case measure=>simp [intOf];omega
  ·have e8:k=8:=by omega
   subst e8
   have HE:=Qh (bs_eq (show tx.data.toList=writeT B from HT.out))
   clear HT hl
   go_wp2
   go_ret2
   exact ⟨by rw [HE.out];rfl,hkW.out.trans HK.out⟩
set_option maxHeartbeats 4000000

theorem upO_no {K:Tk} {j:Nat} (h:toldB j K=false):upO K (j+1)=upO K j:=by
 apply bs_inj
 show bs (upO K j++oLn K j)=_
 rw [bs_append,oLn_bs,h]
 simp
theorem upO_yes {K:Tk} {j:Nat} (h:toldB j K=true):upO K (j+1)=upO K j++⟨(olL j (toldV K j)).toArray⟩:=by
 show upO K j++oLn K j=_
 unfold oLn
 rw [if_pos h]
theorem oLn_size {K:Tk} (hk:OkT K) {j:Nat} (hj:j<7):(oLn K j).size≤31:=by
 unfold oLn
 split
 ·rename_i h
  have hm:lineT j (toldV K j) ∈ tdL K 7:=by
   rw [tdL_7]
   have hin:j ∈ op7:=by
    have:j=0∨j=1∨j=2∨j=3∨j=4∨j=5∨j=6:=by omega
    rcases this with rfl|rfl|rfl|rfl|rfl|rfl|rfl <;> decide
   exact List.mem_map.2 ⟨j,List.mem_filter.2 ⟨hin,h⟩,rfl⟩
  have:=txO_len K hk _ hm
  rw [lineT_bs,List.length_append] at this
  show (olL j (toldV K j)).length≤31
  unfold olL
  rw [List.length_append,List.length_append]
  simp only [List.length_cons,List.length_nil]
  omega
 ·exact Nat.zero_le _
theorem okK_s {K:Tk} (h:okK K=true):okSt K.s=true:=by
 unfold okK at h
 simp only [Bool.and_eq_true] at h
 exact h.2.1
theorem upO_step {K:Tk} (hk:OkT K) {j n:Nat} (hj:j<7) (h:(upO K j).size≤n):(upO K (j+1)).size≤n+31:=by
 show (upO K j++oLn K j).size≤n+31
 rw [ByteArray.size_append]
 have:=oLn_size hk hj
 omega
theorem line_of {i:Nat} {v:Int} {d:ByteArray} (hd:bs d=vaL i v):(owT i++d)++⟨#[10]⟩=(⟨(olL i v).toArray⟩:ByteArray):=bs_inj (by
 rw [bs_append,bs_append,hd]
 show (opW i++vaL i v)++[10]=opW i++(vaL i v++[10])
 rw [List.append_assoc])
theorem rname_t (s:Int) (w:World) (h0:0≤s) (h1:s<64):Calls Tryz.prog 25 #[.int .i64 s] w fun e w'=>e=.returned (.string (nameOf s))∧Kept w w' :=
 (rname_yes s w h0 h1).mono fun _ _ ⟨a,n,b⟩=>⟨a,by rw [b];exact (Kept.refl _).drewN n⟩
theorem kq_cut (j:Nat) (h:j<4):kqT.extract j (j+1)=ltT j:=by
 have:∀ k:Fin 4,kqT.extract k.val (k.val+1)=ltT k.val:=by decide +kernel
 exact this ⟨j,h⟩
theorem castle_up (n:Nat) (T:ByteArray):∃ U:Nat→ByteArray,U 0=T∧(∀ j,n / 2 ^ j % 2=1→U (j+1)=U j++ltT j)∧(∀ j,¬ n / 2 ^ j % 2=1→U (j+1)=U j)∧(∀ j,(U j).size≤T.size+j)∧U 4=T++⟨(caL n).toArray⟩:=by
 refine ⟨fun j=>T++⟨(caU n j).toArray⟩,?_,?_,?_,?_,?_⟩
 ·apply bs_inj;rw [bs_append];show bs T++[]=bs T;rw [List.append_nil]
 ·intro j h
  apply bs_inj
  rw [bs_append,bs_append,bs_append]
  show bs T++(caU n j++(if n / 2 ^ j % 2=1 then bs (ltT j) else []))=bs T++caU n j++bs (ltT j)
  rw [if_pos h,List.append_assoc]
 ·intro j h
  apply bs_inj
  rw [bs_append,bs_append]
  show bs T++(caU n j++(if n / 2 ^ j % 2=1 then bs (ltT j) else []))=bs T++caU n j
  rw [if_neg h,List.append_nil]
 ·intro j
  rw [ByteArray.size_append]
  have:=caU_len n j
  show T.size+(caU n j).toArray.size≤T.size+j
  simp;omega
 ·show T++⟨(caU n 4).toArray⟩=_
  rw [caU_4]
theorem rkwrite_yes (K:Tk) (hB:Brd K.B) (h:okK K=true) (w:World) :
  Calls Tryz.prog 9 #[kv K] w fun e w'=>e=.returned (.tuple #[.string (txK K),.int .i64 0])∧Kept w w':=by
 have H1:=Qh (KAt.new w hB.1)
 have K1:=Qh ((Kept.refl w).alloc (.cells (kcl K).toArray 30))
 have hlen:=Qh hB.1
 have HR:=Qh (fun w=>rright_k K hB w)
 rw [h] at HR
 have h':=h
 unfold okK at h'
 simp only [Bool.and_eq_true] at h'
 have HF:=Qh (fun w=>rwrite_yes K.B hB h'.1 w)
 have HTx:=Qh (fun w=>rtext_is K.s h'.2.1 w)
 have HBg:=Qh (fun w=>rbegins_q K.s h'.2.1 w)
 have hk:=h
 have HOT:=okK_T h
 clear h hB h'
 have hb1:(⟨(writeT K.B).toArray⟩:ByteArray).size≤200:=writeT_len K.B
 have hd1:(txT K.s).size≤100:=txT_small (okK_s hk)
 have HU:=Qh (upO_7 K)
 have e0:(⟨#[98,101,103,105,110,10,102,111,114,115,121,116,104,32]⟩++(⟨(writeT K.B).toArray⟩:ByteArray)++⟨#[10,115,116,105,112,32]⟩++txT K.s++⟨#[10]⟩:ByteArray)=upO K 0:=rfl
 generalize (⟨(writeT K.B).toArray⟩:ByteArray)=b at *
 generalize txT K.s=d at *
 generalize txK K=T at *
 clear hk
 have q1:14+b.size≤9223372036854775807:=by omega
 have q2:14+b.size+6≤9223372036854775807:=by omega
 have q3:14+b.size+6+d.size≤9223372036854775807:=by omega
 have q4:14+b.size+6+d.size+1≤9223372036854775807:=by omega
 go_enter Tryz.func9,Tryz.ntmps9
 go_upto_region 1 with (refine wpList_box_k rfl _ rfl K rfl ?_)
 generalize w.alloc (.cells (kcl K).toArray 30)=W1 at *
 generalize w.heap.size=g at *
 go_wp2_with (refine wpList_load_k (by rfl) _ rfl g rfl K H1.out ?_)
 refine (HR.out _).mono ?_
 rintro e w2 ⟨rfl,k2⟩
 have K2:=Qh (K1.out.trans k2)
 have H2:=Qh (H1.out.heap k2)
 clear k2
 go_wp2_with (refine wpList_load_midw (by rfl) 24 _ rfl g 0 rfl (cl K.B) _ H2.out.boardR Tryz.underlying24 rfl (by rw [size24,cl_length,hlen.out]) ?_)
 refine (HF.out _).mono ?_
 rintro e w3 ⟨rfl,k3⟩
 have K3:=Qh (K2.out.trans k3)
 have H3:=Qh (H2.out.heap k3)
 clear k3
 go_wp2_with ((with_reducible refine wpList_load_q rfl _ rfl g 67 ?_ K.s H3.out.stip ?_);exact rfl)
 refine (HTx.out _).mono ?_
 rintro e w4 ⟨rfl,k4⟩
 have K4:=Qh (K3.out.trans k4)
 have H4:=Qh (H3.out.heap k4)
 clear k4
 have z0:(upO K 0).size≤400:=by rw [← e0];simp only [ByteArray.size_append];show 14+b.size+6+d.size+1≤400;omega
 have c0:=H4.out.cell 7 rfl
 go_upto_if 28 with fail
 clear q1 q2 q3 q4
 go_cut [6] from 7 (fun s6 wc=>s6=.string (upO K 1)∧KAt wc g K∧Kept w wc)
 case first =>
  cases hb:K.ty
  ·rw [hb] at c0
   have HE:=Qh (upO_no (K:=K) (j:=0) hb)
   go_wp2
   go_meet
   case rel=>exact ⟨by rw [HE.out,← e0],H4.out,K4.out⟩
  ·rw [hb] at c0
   have HE:=Qh (upO_yes (K:=K) (j:=0) hb)
   have q5:14+b.size+6+d.size+1+11≤9223372036854775807:=by omega
   go_wp2
   go_meet
   case rel=>exact ⟨by rw [HE.out,← e0];rfl,H4.out,K4.out⟩
 case rest =>
 obtain ⟨rfl,hA1,hK1⟩:=hcut
 have H5:=Qh hA1
 have K5:=Qh hK1
 clear hA1 hK1 c0 e0
 generalize wc=wd at *
 have c1:=H5.out.cell 8 rfl
 have z1:(upO K 1).size≤431:=upO_step HOT (j:=0) (by omega) z0
 go_upto_if 32 with fail
 go_cut [6] from 7 (fun s6 wc=>s6=.string (upO K 2)∧KAt wc g K∧Kept w wc)
 case first =>
  cases hb:K.se
  ·rw [hb] at c1
   have HE:=Qh (upO_no (K:=K) (j:=1) hb)
   go_wp2
   go_meet
   case rel=>exact ⟨by rw [HE.out],H5.out,K5.out⟩
  ·rw [hb] at c1
   have HE:=Qh (upO_yes (K:=K) (j:=1) hb)
   have q5:(upO K 1).size+11≤9223372036854775807:=by omega
   go_wp2
   go_meet
   case rel=>exact ⟨by rw [HE.out];rfl,H5.out,K5.out⟩
 case rest =>
 obtain ⟨rfl,hA1,hK1⟩:=hcut
 have H6:=Qh hA1
 have K6:=Qh hK1
 clear hA1 hK1 c1
 generalize wc=we at *
 have z2:(upO K 2).size≤462:=upO_step HOT (j:=1) (by omega) z1
 have c2:=H6.out.cell 0 rfl
 go_upto_region 9 with fail
 refine wp_region_held_drew (S:=Kept _) (by kernel_rfl) (Kept.refl _).drew (fun Qj=>?_)
 refine rT 0 35 (.pointer (some ⟨g,0,none⟩)) rfl rfl Qj ?_
 simp only [Act.put,sA,sZ,sU]
 refine rT 1 36 (.pointer (some ⟨g,64,none⟩)) rfl rfl Qj ?_
 simp only [pA,pN,sZ,sU]
 refine rC 2 37 (.int .i64 K.tu) rfl rfl (fun _ h=>kept_cell h (c2)) Qj ?_
 simp only [pA,pN,sZ,sU]
 refine rT 3 38 (.pointer (some ⟨g,67,none⟩)) rfl rfl Qj ?_
 simp only [pA,pN,sZ,sU]
 refine rY 4 39 rfl rfl (take_load_qo (by rfl) _ rfl g 67 rfl K.s (fun _ h=>KAt.stip (H6.out.heap h))) Qj ?_
 simp only [Act.put,sA,pA,pN,sZ,sU]
 refine wpAnyH_ready (rs:=[5]) (by kernel_rfl) (by simp) ?_
 refine AllReadyH.cons rfl (fun K' hK'=>?_) AllReadyH.nil
 rw [if_pos (by rfl)]
 go_simp
 refine (HBg.out _).mono ?_
 rintro e wb ⟨rfl,gwb⟩
 refine hK'.out _ _ (Qj.trans gwb) (fun _=>?_)
 replace Qj:=Qj.trans gwb
 clear hK' K' gwb
 refine rT 6 41 (.bool (K.tu != begI K.s)) rfl rfl Qj ?_
 simp only [pA,pN,sZ,sU]
 refine wpAnyH_done (by kernel_rfl) ?_ _
 have H6x:=Qh (H6.out.heap Qj)
 have K6x:=Qh (K6.out.trans Qj)
 clear c2 Qj H6 K6
 generalize wb=wf at *
 go_upto_if 41 with fail
 go_cut [6] from 7 (fun s6 wc=>s6=.string (upO K 3)∧KAt wc g K∧Kept w wc)
 case first =>
  cases hb:(K.tu != begI K.s)
  ·have HE:=Qh (upO_no (K:=K) (j:=2) hb)
   go_wp2
   go_meet
   case rel=>exact ⟨by rw [HE.out],H6x.out,K6x.out⟩
  ·have HE:=Qh (upO_yes (K:=K) (j:=2) hb)
   have c2:=H6x.out.cell 0 rfl
   have htu:=HOT.tu
   clear hb
   rcases htu with htu|htu
   ·have hln:Hid ((⟨(olL 2 (toldV K 2)).toArray⟩:ByteArray)=⟨#[111,112,116,105,111,110,32]⟩++⟨#[115,105,100,101,32,119,104,105,116,101,10]⟩):=Qh (by
     show (⟨(olL 2 K.tu).toArray⟩:ByteArray)=_
     rw [htu];rfl)
    rw [htu] at c2
    have hw2:IntKind.i64.wrap 2=2:=IntWalk.i64_in _ (by omega)
    have q6:(upO K 2).size+18≤9223372036854775807:=by omega
    clear htu
    go_upto_region 10 with fail
    refine wp_region_held_drew (S:=Kept _) (by kernel_rfl) (Kept.refl _).drew (fun Qj=>?_)
    refine rT 0 42 (.string (upO K 2)) rfl rfl Qj ?_
    simp only [pA,pN,sZ,sU]
    refine rT 2 44 (.pointer (some ⟨g,0,none⟩)) rfl rfl Qj ?_
    simp only [pA,pN,sZ,sU]
    refine rT 3 45 (.pointer (some ⟨g,64,none⟩)) rfl rfl Qj ?_
    simp only [pA,pN,sZ,sU]
    refine rC 4 46 (.int .i64 0) rfl rfl (fun _ h=>kept_cell h (c2)) Qj ?_
    simp only [pA,pN,sZ,sU]
    refine rT 5 47 (.int .i64 2) rfl rfl Qj ?_
    simp only [pA,pN,sZ,sU]
    refine wpAnyH_ready (rs:=[1]) (by kernel_rfl) (by simp) ?_
    refine AllReadyH.cons rfl (fun K' hK'=>?_) AllReadyH.nil
    go_simp
    refine (rnames_k _).mono ?_
    rintro e wb ⟨gs,rfl,hs2,hs3,ks⟩
    refine hK'.out _ _ (Qj.trans ks) (fun _=>?_)
    replace Qj:=Qj.trans ks
    clear hK' K' ks c2
    refine rT 6 48 (.pointer (some ⟨gs,2,none⟩)) rfl rfl Qj ?_
    simp only [pA,pN,sZ,sU]
    refine wpAnyH_ready (rs:=[7]) (by kernel_rfl) (by simp) ?_
    refine AllReadyH.cons rfl (fun K' hK'=>?_) AllReadyH.nil
    first|rw [if_pos (by rfl)]|skip
    go_simp
    refine hK'.out _ _ Qj (fun _=>?_)
    clear hK' K'
    try simp only [Act.put,sA,pA,pN,sZ,sU]
    refine rT 8 50 (.string (⟨#[111,112,116,105,111,110,32]⟩++⟨#[115,105,100,101,32,119,104,105,116,101,10]⟩)) rfl rfl Qj ?_
    simp only [pA,pN,sZ,sU]
    refine rT 9 51 (.string (upO K 2++(⟨#[111,112,116,105,111,110,32]⟩++⟨#[115,105,100,101,32,119,104,105,116,101,10]⟩))) rfl rfl Qj ?_
    simp only [pA,pN,sZ,sU]
    refine rT 10 6 (.string (upO K 2++(⟨#[111,112,116,105,111,110,32]⟩++⟨#[115,105,100,101,32,119,104,105,116,101,10]⟩))) rfl rfl Qj ?_
    try simp only [Act.put,sA,pA,pN,sZ,sU]
    refine wpAnyH_done (by kernel_rfl) ?_ _
    go_wp2
    go_meet
    case rel=>exact ⟨by rw [HE.out,hln.out],H6x.out.heap Qj,K6x.out.trans Qj⟩
   ·have hln:Hid ((⟨(olL 2 (toldV K 2)).toArray⟩:ByteArray)=⟨#[111,112,116,105,111,110,32]⟩++⟨#[115,105,100,101,32,98,108,97,99,107,10]⟩):=Qh (by
     show (⟨(olL 2 K.tu).toArray⟩:ByteArray)=_
     rw [htu];rfl)
    rw [htu] at c2
    have hw2:IntKind.i64.wrap 3=3:=IntWalk.i64_in _ (by omega)
    have q6:(upO K 2).size+18≤9223372036854775807:=by omega
    clear htu
    go_upto_region 10 with fail
    refine wp_region_held_drew (S:=Kept _) (by kernel_rfl) (Kept.refl _).drew (fun Qj=>?_)
    refine rT 0 42 (.string (upO K 2)) rfl rfl Qj ?_
    simp only [pA,pN,sZ,sU]
    refine rT 2 44 (.pointer (some ⟨g,0,none⟩)) rfl rfl Qj ?_
    simp only [pA,pN,sZ,sU]
    refine rT 3 45 (.pointer (some ⟨g,64,none⟩)) rfl rfl Qj ?_
    simp only [pA,pN,sZ,sU]
    refine rC 4 46 (.int .i64 1) rfl rfl (fun _ h=>kept_cell h (c2)) Qj ?_
    simp only [pA,pN,sZ,sU]
    refine rT 5 47 (.int .i64 3) rfl rfl Qj ?_
    simp only [pA,pN,sZ,sU]
    refine wpAnyH_ready (rs:=[1]) (by kernel_rfl) (by simp) ?_
    refine AllReadyH.cons rfl (fun K' hK'=>?_) AllReadyH.nil
    go_simp
    refine (rnames_k _).mono ?_
    rintro e wb ⟨gs,rfl,hs2,hs3,ks⟩
    refine hK'.out _ _ (Qj.trans ks) (fun _=>?_)
    replace Qj:=Qj.trans ks
    clear hK' K' ks c2
    refine rT 6 48 (.pointer (some ⟨gs,3,none⟩)) rfl rfl Qj ?_
    simp only [pA,pN,sZ,sU]
    refine wpAnyH_ready (rs:=[7]) (by kernel_rfl) (by simp) ?_
    refine AllReadyH.cons rfl (fun K' hK'=>?_) AllReadyH.nil
    first|rw [if_pos (by rfl)]|skip
    go_simp
    refine hK'.out _ _ Qj (fun _=>?_)
    clear hK' K'
    try simp only [Act.put,sA,pA,pN,sZ,sU]
    refine rT 8 50 (.string (⟨#[111,112,116,105,111,110,32]⟩++⟨#[115,105,100,101,32,98,108,97,99,107,10]⟩)) rfl rfl Qj ?_
    simp only [pA,pN,sZ,sU]
    refine rT 9 51 (.string (upO K 2++(⟨#[111,112,116,105,111,110,32]⟩++⟨#[115,105,100,101,32,98,108,97,99,107,10]⟩))) rfl rfl Qj ?_
    simp only [pA,pN,sZ,sU]
    refine rT 10 6 (.string (upO K 2++(⟨#[111,112,116,105,111,110,32]⟩++⟨#[115,105,100,101,32,98,108,97,99,107,10]⟩))) rfl rfl Qj ?_
    try simp only [Act.put,sA,pA,pN,sZ,sU]
    refine wpAnyH_done (by kernel_rfl) ?_ _
    go_wp2
    go_meet
    case rel=>exact ⟨by rw [HE.out,hln.out],H6x.out.heap Qj,K6x.out.trans Qj⟩
 case rest =>
 obtain ⟨rfl,hA1,hK1⟩:=hcut
 have H7:=Qh hA1
 have K7:=Qh hK1
 clear hA1 hK1 H6x K6x
 generalize wc=wg at *
 have z3:(upO K 3).size≤493:=upO_step HOT (j:=2) (by omega) z2
 have c3:=H7.out.cell 9 rfl
 go_upto_if 54 with fail
 go_cut [6] from 7 (fun s6 wc=>s6=.string (upO K 4)∧KAt wc g K∧Kept w wc)
 case first =>
  cases hb:(K.mx != 0)
  ·have HE:=Qh (upO_no (K:=K) (j:=3) hb)
   have h0:decide (0<K.mx)=false:=by
    have:K.mx=0:=by simpa using hb
    exact decide_eq_false (by omega)
   rw [h0]
   clear hb
   go_wp2
   go_meet
   case rel=>exact ⟨by rw [HE.out],H7.out,K7.out⟩
  ·have HE:=Qh (upO_yes (K:=K) (j:=3) hb)
   have h0':0<K.mx:=by
    have:K.mx≠0:=by simpa using hb
    have:=HOT.mx
    omega
   have h0:decide (0<K.mx)=true:=decide_eq_true h0'
   rw [h0]
   obtain ⟨n,hn⟩:∃ n:Nat,K.mx=n:=⟨K.mx.toNat,by omega⟩
   have hn1:n≤1000:=by have:=HOT.mx;omega
   have hln:Hid ((⟨(olL 3 (toldV K 3)).toArray⟩:ByteArray)=(⟨#[111,112,116,105,111,110,32,109,97,120,115,111,108,32]⟩++dT n)++⟨#[10]⟩):=Qh (line_of (i:=3) (v:=toldV K 3) (d:=dT n) (by
    show bs (dT n)=vaL 3 K.mx
    rw [hn]
    rfl)).symm
   have HCn:=Qh (fun w=>decimal_k n (by omega) w)
   have hsz:(dT n).size≤1001:=by have:=dT_len n;omega
   rw [hn] at c3
   generalize dT n=d at *
   have q1:14+d.size≤9223372036854775807:=by omega
   have q2:14+d.size+1≤9223372036854775807:=by omega
   have q3:(upO K 3).size+(14+d.size+1)≤9223372036854775807:=by omega
   clear hb hn hsz hn1 h0'
   go_wp2_with fail
   refine (HCn.out _).mono ?_
   rintro e wn ⟨rfl,kn⟩
   have HA:=Qh (H7.out.heap kn)
   have HKb:=Qh (K7.out.trans kn)
   clear kn
   go_wp2
   go_meet
   case rel=>exact ⟨by rw [HE.out,hln.out],HA.out,HKb.out⟩
 case rest =>
 obtain ⟨rfl,hA1,hK1⟩:=hcut
 have H8:=Qh hA1
 have K8:=Qh hK1
 clear hA1 hK1 c3 H7 K7
 generalize wc=wh at *
 have z4:(upO K 4).size≤524:=upO_step HOT (j:=3) (by omega) z3
 have c4:=H8.out.cell 1 rfl
 go_upto_if 65 with fail
 go_cut [6] from 7 (fun s6 wc=>s6=.string (upO K 5)∧KAt wc g K∧Kept w wc)
 case first =>
  cases hb:(K.ca != 0)
  ·have HE:=Qh (upO_no (K:=K) (j:=4) hb)
   have h0:decide (0<K.ca)=false:=by
    have:K.ca=0:=by simpa using hb
    exact decide_eq_false (by omega)
   rw [h0]
   clear hb
   go_wp2
   go_meet
   case rel=>exact ⟨by rw [HE.out],H8.out,K8.out⟩
  ·have HE:=Qh (upO_yes (K:=K) (j:=4) hb)
   have h0':0<K.ca:=by
    have:K.ca≠0:=by simpa using hb
    have:=HOT.ca
    omega
   have h0:decide (0<K.ca)=true:=decide_eq_true h0'
   rw [h0]
   obtain ⟨n,hn⟩:∃ n:Nat,K.ca=n:=⟨K.ca.toNat,by omega⟩
   have hn1:n≤15:=by have:=HOT.ca;omega
   have hln:Hid ((⟨(olL 4 (toldV K 4)).toArray⟩:ByteArray)=(owT 4++⟨(caL n).toArray⟩)++⟨#[10]⟩):=Qh (line_of (by
    show bs _=vaL 4 K.ca
    rw [hn];rfl)).symm
   obtain ⟨U,u0,u1,u2,u3,u4⟩:=castle_up n (upO K 4++⟨#[111,112,116,105,111,110,32,99,97,115,116,108,101,32]⟩)
   have hUE:Hid (U 4++⟨#[10]⟩=upO K 5):=Qh (by
    rw [HE.out,hln.out,u4]
    apply bs_inj
    simp only [bs_append,List.append_assoc]
    rfl)
   have hUs:∀ j,j≤4→(U j).size≤1000:=by
    intro j hj
    have:=u3 j
    rw [ByteArray.size_append] at this
    have e:(⟨#[111,112,116,105,111,110,32,99,97,115,116,108,101,32]⟩:ByteArray).size=14:=rfl
    omega
   have HU1:=Qh u1
   have HU2:=Qh u2
   have HUs:=Qh hUs
   have q1:(upO K 4).size+14≤9223372036854775807:=by omega
   have HU0:=Qh u0
   rw [hn] at c4
   clear hb hn h0' u0 u1 u2 u3 u4 hUs
   go_upto_region 17 with fail
   rw [← HU0.out]
   go_loopw [6,7,8] (fun t6 t7 t8 wr=>∃ j:Nat,j≤4∧t6=.string (U j)∧t7=.int .i64 ((n / 2 ^ j:Nat):Int)∧t8=.int .i64 (j:Int)∧KAt wr g K∧Kept w wr) (fun _ _ t8 _=>4-(intOf t8).toNat)
   case atStart=>exact ⟨0,by omega,rfl,by simp,rfl,H8.out,K8.out⟩
   case round =>
    obtain ⟨j,hj,rfl,rfl,rfl,hA,hK⟩:=hrel
    have HA:=Qh hA
    have HKb:=Qh hK
    clear hA hK
    by_cases hlt:j<4
    ·have hsl:=lrun_cut kqT j (j+1) j ((j:Int)+1) rfl (by omega) (by omega) (by show j+1≤4;omega) (ltT j) (kq_cut j hlt)
     unfold kqT at hsl
     have hxs:(ltT j).size=1:=by
      obtain ⟨c,-,-,e⟩:=kq_low j hlt
      rw [e];rfl
     have hy:=HU1.out j
     have hno:=HU2.out j
     have hus:=HUs.out j (by omega)
     have e0:n / 2 ^ j / 2=n / 2 ^ (j+1):=by rw [Nat.div_div_eq_div_mul,Nat.pow_succ]
     have hmb:n / 2 ^ j≤15:=Nat.le_trans (Nat.div_le_self _ _) hn1
     have HE0:=Qh e0
     clear e0
     generalize n / 2 ^ j=m at *
     have e1:(m:Int).tmod 2=((m % 2:Nat):Int):=by rw [Int.tmod_eq_emod_of_nonneg (by omega)];omega
     have e2:(m:Int).tdiv 2=((m / 2:Nat):Int):=by rw [Int.tdiv_eq_ediv_of_nonneg (by omega)];omega
     have wq:IntKind.i64.wrap ((m / 2:Nat):Int)=((m / 2:Nat):Int):=IntWalk.i64_in _ (by omega)
     have wq2:=Qh (show wrap64 ((m:Int) / 2)=((m / 2:Nat):Int) from (IntWalk.wrap64_in _ (by omega)).trans (by omega))
     have wj:IntKind.i64.wrap ((j:Int)+1)=(j:Int)+1:=IntWalk.i64_in _ (by omega)
     have hx1:(U j).size+(ltT j).size≤9223372036854775807:=by omega
     generalize ltT j=x at *
     have hd:decide ((j:Int)<4)=true:=decide_eq_true (by omega)
     by_cases hbit:m % 2=1
     ·have HY:=Qh (hy hbit)
      have wm:IntKind.i64.wrap ((m % 2:Nat):Int)=((m % 2:Nat):Int):=IntWalk.i64_in _ (by omega)
      rw [hbit] at e1 wm
      have hb1:(((m % 2:Nat):Int) == 1)=true:=by rw [hbit];rfl
      clear hy hno hus hmb
      go_upto_if 72 with fail
      try rw [hd]
      go_upto_if 77 with fail
      go_wp2
      go_roundw
      case rel=>exact ⟨j+1,by omega,by rw [HY.out],by rw [← HE0.out];first|done|exact congrArg (Value.int .i64) wq2.out,by simp,HA.out,HKb.out⟩
      case measure=>simp [intOf];omega
     ·have HY:=Qh (hno hbit)
      have hm0:m % 2=0:=by omega
      rw [hm0] at e1
      clear hy hno hus hmb
      go_upto_if 72 with fail
      try rw [hd]
      go_upto_if 77 with fail
      go_wp2
      go_roundw
      case rel=>exact ⟨j+1,by omega,by rw [HY.out],by rw [← HE0.out];first|done|exact congrArg (Value.int .i64) wq2.out,by simp,HA.out,HKb.out⟩
      case measure=>simp [intOf];omega
    ·obtain rfl:j=4:=by omega
     have hus:=HUs.out 4 (by omega)
     have q2:(U 4).size+1≤9223372036854775807:=by omega
     go_wp2
     go_meet
     case rel=>exact ⟨by rw [hUE.out],HA.out,HKb.out⟩
 case rest =>
 obtain ⟨rfl,hA1,hK1⟩:=hcut
 have H9:=Qh hA1
 have K9:=Qh hK1
 clear hA1 hK1 c4 H8 K8
 generalize wc=wi at *
 have z5:(upO K 5).size≤555:=upO_step HOT (j:=4) (by omega) z4
 have c5:=H9.out.cell 2 rfl
 go_upto_if 91 with fail
 go_cut [6] from 7 (fun s6 wc=>s6=.string (upO K 6)∧KAt wc g K∧Kept w wc)
 case first =>
  cases hb:(K.ep != -1)
  ·have HE:=Qh (upO_no (K:=K) (j:=5) hb)
   have h0:decide (0≤K.ep)=false:=by
    have:K.ep=-1:=by simpa using hb
    exact decide_eq_false (by omega)
   rw [h0]
   clear hb
   go_wp2
   go_meet
   case rel=>exact ⟨by rw [HE.out],H9.out,K9.out⟩
  ·have HE:=Qh (upO_yes (K:=K) (j:=5) hb)
   have h0':0≤K.ep:=by
    have:K.ep≠-1:=by simpa using hb
    have:=HOT.ep
    omega
   have h0:decide (0≤K.ep)=true:=decide_eq_true h0'
   rw [h0]
   obtain ⟨n,hn⟩:∃ n:Nat,K.ep=n:=⟨K.ep.toNat,by omega⟩
   have hn1:n≤63:=by have:=HOT.ep;omega
   have hln:Hid ((⟨(olL 5 (toldV K 5)).toArray⟩:ByteArray)=(⟨#[111,112,116,105,111,110,32,101,112,32]⟩++nameOf (n:Int))++⟨#[10]⟩):=Qh (line_of (i:=5) (v:=toldV K 5) (d:=nameOf (n:Int)) (by
    show bs (nameOf (n:Int))=vaL 5 K.ep
    rw [hn]
    exact name_nm n (by have:=HOT.ep;omega))).symm
   have HCn:=Qh (fun w=>rname_t (n:Int) w (by omega) (by omega))
   have hsz:(nameOf (n:Int)).size≤1001:=by show 2≤1001;omega
   rw [hn] at c5
   generalize nameOf (n:Int)=d at *
   have q1:10+d.size≤9223372036854775807:=by omega
   have q2:10+d.size+1≤9223372036854775807:=by omega
   have q3:(upO K 5).size+(10+d.size+1)≤9223372036854775807:=by omega
   clear hb hn hsz hn1 h0'
   go_wp2_with fail
   refine (HCn.out _).mono ?_
   rintro e wn ⟨rfl,kn⟩
   have HA:=Qh (H9.out.heap kn)
   have HKb:=Qh (K9.out.trans kn)
   clear kn
   go_wp2
   go_meet
   case rel=>exact ⟨by rw [HE.out,hln.out],HA.out,HKb.out⟩
 case rest =>
 obtain ⟨rfl,hA1,hK1⟩:=hcut
 have H10:=Qh hA1
 have K10:=Qh hK1
 clear hA1 hK1 c5 H9 K9
 generalize wc=wj at *
 have z6:(upO K 6).size≤586:=upO_step HOT (j:=5) (by omega) z5
 have c6:=H10.out.cell 10 rfl
 go_upto_if 102 with fail
 go_cut [6] from 7 (fun s6 wc=>s6=.string (upO K 7)∧KAt wc g K∧Kept w wc)
 case first =>
  cases hb:(K.re != -1)
  ·have HE:=Qh (upO_no (K:=K) (j:=6) hb)
   have h0:decide (0≤K.re)=false:=by
    have:K.re=-1:=by simpa using hb
    exact decide_eq_false (by omega)
   rw [h0]
   clear hb
   go_wp2
   go_meet
   case rel=>exact ⟨by rw [HE.out],H10.out,K10.out⟩
  ·have HE:=Qh (upO_yes (K:=K) (j:=6) hb)
   have h0':0≤K.re:=by
    have:K.re≠-1:=by simpa using hb
    have:=HOT.re
    omega
   have h0:decide (0≤K.re)=true:=decide_eq_true h0'
   rw [h0]
   obtain ⟨n,hn⟩:∃ n:Nat,K.re=n:=⟨K.re.toNat,by omega⟩
   have hn1:n≤4:=by have:=HOT.re;omega
   have hln:Hid ((⟨(olL 6 (toldV K 6)).toArray⟩:ByteArray)=(⟨#[111,112,116,105,111,110,32,114,101,116,114,111,32]⟩++dT n)++⟨#[10]⟩):=Qh (line_of (i:=6) (v:=toldV K 6) (d:=dT n) (by
    show bs (dT n)=vaL 6 K.re
    rw [hn]
    rfl)).symm
   have HCn:=Qh (fun w=>decimal_k n (by omega) w)
   have hsz:(dT n).size≤1001:=by have:=dT_len n;omega
   rw [hn] at c6
   generalize dT n=d at *
   have q1:13+d.size≤9223372036854775807:=by omega
   have q2:13+d.size+1≤9223372036854775807:=by omega
   have q3:(upO K 6).size+(13+d.size+1)≤9223372036854775807:=by omega
   clear hb hn hsz hn1 h0'
   go_wp2_with fail
   refine (HCn.out _).mono ?_
   rintro e wn ⟨rfl,kn⟩
   have HA:=Qh (H10.out.heap kn)
   have HKb:=Qh (K10.out.trans kn)
   clear kn
   go_wp2
   go_meet
   case rel=>exact ⟨by rw [HE.out,hln.out],HA.out,HKb.out⟩
 case rest =>
 obtain ⟨rfl,hA1,hK1⟩:=hcut
 have H11:=Qh hA1
 have K11:=Qh hK1
 clear hA1 hK1 c6 H10 K10
 generalize wc=wk at *
 have z7:(upO K 7).size≤617:=upO_step HOT (j:=6) (by omega) z6
 have q9:(upO K 7).size+4≤9223372036854775807:=by omega
 go_wp2
 go_ret2
 exact ⟨by rw [← HU.out];rfl,K11.out⟩
end Go.Proofs.YtlbipjmmlobofaaGreatDoor
namespace Go.Proofs.YtlbipjmmlobofaaGreatDoor
open Go.ChangeShapes Go.WideShapes Go.ChangeAt Go.RowKit
open Go.Deep
set_option linter.unusedVariables false
set_option linter.unusedSimpArgs false
set_option maxRecDepth 100000
set_option maxHeartbeats 4000000

theorem run_equal_p9 {p q:Ps} (hp:p.B.length=64) (hq:q.B.length=64) (w:World) :
  (Op.equalIn 9999 26 (.agg (pl p).toArray) (.agg (pl q).toArray)).run Tryz.prog w=.ok (beqP p q) w:=by
 have hu:Tryz.prog.underlying 26=some (.struct (Tryz.prog.fieldsOf 26)):=by kernel_rfl
 rw [run_equalIn_struct w 9998 _ _ _ hu stoodP]
 obtain ⟨f0, f1, f2, f3, hf, n0, t0, o0, n1, t1, o1, n2, t2, o2, n3, t3, o3⟩ : ∃ f0 f1 f2 f3, (Tryz.prog.fieldsOf 26).toList = [f0, f1, f2, f3] ∧ f0.name ≠ "_" ∧ f0.type = 24 ∧ f0.offset = 0 ∧
   f1.name ≠ "_" ∧ f1.type = 3 ∧ f1.offset = 64 ∧ f2.name ≠ "_" ∧ f2.type = 3 ∧ f2.offset = 65 ∧ f3.name ≠ "_" ∧ f3.type = 3 ∧ f3.offset = 66 := by
  have h:=fieldsP
  generalize (Tryz.prog.fieldsOf 26).toList=fs at h
  have hl:fs.length=4:=by simpa using congrArg List.length h
  match fs,hl with
  | [f0,f1,f2,f3],_ =>
   simp only [List.map_cons,List.map_nil,List.cons.injEq,Prod.mk.injEq,beq_eq_false_iff_ne,and_true] at h
   exact ⟨f0,f1,f2,f3,rfl,h.1.1,h.1.2.1,h.1.2.2,h.2.1.1,h.2.1.2.1,h.2.1.2.2,h.2.2.1.1,h.2.2.1.2.1,h.2.2.1.2.2,h.2.2.2.1,h.2.2.2.2.1,h.2.2.2.2.2⟩
 have i8:∀ a b:Int,(Op.equalIn 9998 3 (.int .i64 a) (.int .i64 b)).run Tryz.prog w=.ok (a == b) w:=fun a b=>run_equalIn_int w 9997 _ _ _ a b Tryz.underlying3
 have eb:(Op.equalIn 9998 24 (.agg (cl p.B).toArray) (.agg (cl q.B).toArray)).run Tryz.prog w=.ok (beqB p.B q.B) w:=by
  obtain ⟨i,hi⟩:∃ i,Tryz.prog.info? 22=some i:=by
   cases hq:Tryz.prog.info? 22 with
   | none=>have:=info22;simp [hq] at this
   | some i=>exact ⟨i,rfl⟩
  rw [run_equalIn_array w 9997 _ _ Tryz.underlying24 hi,cells22]
  exact run_eqItems_cl 9996 p.B q.B hp hq w _ (fun i hi=>by simpa using hi)
 have a1:=run_part_i hp 0 (show (tlP p)[0]?=some (.int .i64 p.t) from rfl) w
 have a2:=run_part_i hp 1 (show (tlP p)[1]?=some (.int .i64 p.c) from rfl) w
 have a3:=run_part_i hp 2 (show (tlP p)[2]?=some (.int .i64 p.e) from rfl) w
 have b1:=run_part_i hq 0 (show (tlP q)[0]?=some (.int .i64 q.t) from rfl) w
 have b2:=run_part_i hq 1 (show (tlP q)[1]?=some (.int .i64 q.c) from rfl) w
 have b3:=run_part_i hq 2 (show (tlP q)[2]?=some (.int .i64 q.e) from rfl) w
 rw [hf]
 unfold beqP
 rw [Op.eqFields,if_pos n0]
 simp only [Sem.run_bind,t0,o0,run_part_b hp,run_part_b hq,Result.andThen_ok,eb]
 cases beqB p.B q.B
 ·simp
 ·simp only [Bool.not_true,Bool.false_eq_true,if_false,Bool.true_and]
  rw [Op.eqFields,if_pos n1]
  simp only [Sem.run_bind,t1,o1,a1,b1,Result.andThen_ok,i8]
  cases p.t == q.t
  ·simp
  ·simp only [Bool.not_true,Bool.false_eq_true,if_false,Bool.true_and]
   rw [Op.eqFields,if_pos n2]
   simp only [Sem.run_bind,t2,o2,a2,b2,Result.andThen_ok,i8]
   cases p.c == q.c
   ·simp
   ·simp only [Bool.not_true,Bool.false_eq_true,if_false,Bool.true_and]
    rw [Op.eqFields,if_pos n3]
    simp only [Sem.run_bind,t3,o3,a3,b3,Result.andThen_ok,i8]
    cases p.e == q.e
    ·simp
    ·simp [Op.eqFields]
theorem run_equal_q9 (a:Stp) (w:World):(Op.equalIn 9999 28 (.agg (ql a).toArray) (.agg (ql a).toArray)).run Tryz.prog w=.ok true w:=by
 have hu:Tryz.prog.underlying 28=some (.struct (Tryz.prog.fieldsOf 28)):=by kernel_rfl
 rw [run_equalIn_struct w 9998 _ _ _ hu stoodQ]
 obtain ⟨f1,f2,f3,f4,hf,n1,t1,o1,n2,t2,o2,n3,t3,o3,n4,t4,o4⟩:∃ f1 f2 f3 f4,(Tryz.prog.fieldsOf 28).toList=[f1,f2,f3,f4] ∧
   f1.name ≠ "_" ∧ f1.type = 3 ∧ f1.offset = 0 ∧ f2.name ≠ "_" ∧ f2.type = 3 ∧ f2.offset = 1 ∧ f3.name ≠ "_" ∧ f3.type = 3 ∧ f3.offset = 2 ∧ f4.name ≠ "_" ∧ f4.type = 4 ∧ f4.offset = 3 := by
  have h:=fieldsQ
  generalize (Tryz.prog.fieldsOf 28).toList=fs at h
  have hl:fs.length=4:=by simpa using congrArg List.length h
  match fs,hl with
  | [f1,f2,f3,f4],_ =>
   simp only [List.map_cons,List.map_nil,List.cons.injEq,Prod.mk.injEq,beq_eq_false_iff_ne,and_true] at h
   exact ⟨f1,f2,f3,f4,rfl,h.1.1,h.1.2.1,h.1.2.2,h.2.1.1,h.2.1.2.1,h.2.1.2.2,h.2.2.1.1,h.2.2.1.2.1,h.2.2.1.2.2,h.2.2.2.1,h.2.2.2.2.1,h.2.2.2.2.2⟩
 have i8:∀ a b:Int,(Op.equalIn 9998 3 (.int .i64 a) (.int .i64 b)).run Tryz.prog w=.ok (a == b) w:=fun a b=>run_equalIn_int w 9997 _ _ _ a b Tryz.underlying3
 have b8:∀ a b:Bool,(Op.equalIn 9998 4 (.bool a) (.bool b)).run Tryz.prog w=.ok (a == b) w:=fun a b=>run_equalIn_bool' w 9997 _ a b Tryz.underlying4
 have a1:=run_part_q a _ Tryz.underlying3 0 (x:=a.k) rfl w
 have a2:=run_part_q a _ Tryz.underlying3 1 (x:=a.g) rfl w
 have a3:=run_part_q a _ Tryz.underlying3 2 (x:=a.n) rfl w
 have a4:=run_part_qb a w
 rw [hf]
 rw [Op.eqFields,if_pos n1]
 simp only [Sem.run_bind,t1,o1,a1,Result.andThen_ok,i8,beq_self_eq_true,Bool.not_true,Bool.false_eq_true,if_false]
 rw [Op.eqFields,if_pos n2]
 simp only [Sem.run_bind,t2,o2,a2,Result.andThen_ok,i8,beq_self_eq_true,Bool.not_true,Bool.false_eq_true,if_false]
 rw [Op.eqFields,if_pos n3]
 simp only [Sem.run_bind,t3,o3,a3,Result.andThen_ok,i8,beq_self_eq_true,Bool.not_true,Bool.false_eq_true,if_false]
 rw [Op.eqFields,if_pos n4]
 simp only [Sem.run_bind,t4,o4,a4,Result.andThen_ok,b8,beq_self_eq_true,Bool.not_true,Bool.false_eq_true,if_false]
 simp [Op.eqFields]
theorem fieldsK : (Tryz.prog.fieldsOf 30).toList.map (fun f => (f.name == "_", f.type, f.offset)) = [(false, 26, 0), (false, 28, 67), (false, 4, 71), (false, 4, 72), (false, 3, 73), (false, 3, 74)] := by kernel_rfl
theorem stoodK:Tryz.prog.stoodInHeld 30=false:=by kernel_rfl
theorem eqGuardK:Tryz.prog.eqGuardType Tryz.prog.depth 30=false:=by kernel_rfl
theorem sizeP67:(Tryz.prog.info? 26).map (·.size)=some 67:=by kernel_rfl
theorem sizeS4:(Tryz.prog.info? 28).map (·.size)=some 4:=by kernel_rfl
theorem run_part_kp {K:Tk} (h:K.B.length=64) (w:World):(part 26 (kcl K).toArray 0).run Tryz.prog w=.ok (.agg (pl (pk K)).toArray) w:=by
 have hu:Tryz.prog.underlying 26=some (.struct (Tryz.prog.fieldsOf 26)):=by kernel_rfl
 have hs:(sizeOf 26).run Tryz.prog w=.ok 67 w:=by
  cases hq:Tryz.prog.info? 26 with
  | none=>have:=sizeP67;simp [hq] at this
  | some i=>have:=sizeP67;simp [hq] at this;simp [sizeOf,typeInfo,hq,this]
 have hl:(cl K.B).length=64:=by rw [cl_length,h]
 simp only [part,isAgg,Sem.run_bind,run_underlying hu,Result.andThen_ok,Sem.run_pure,if_true,hs]
 simp [kcl,ktl,pl,tlP,pk,ql,List.take_append,hl]
 exact List.take_of_length_le (by omega)
theorem run_part_ks {K:Tk} (h:K.B.length=64) (w:World):(part 28 (kcl K).toArray 67).run Tryz.prog w=.ok (.agg (ql K.s).toArray) w:=by
 have hu:Tryz.prog.underlying 28=some (.struct (Tryz.prog.fieldsOf 28)):=by kernel_rfl
 have hs:(sizeOf 28).run Tryz.prog w=.ok 4 w:=by
  cases hq:Tryz.prog.info? 28 with
  | none=>have:=sizeS4;simp [hq] at this
  | some i=>have:=sizeS4;simp [hq] at this;simp [sizeOf,typeInfo,hq,this]
 have hl:(cl K.B).length=64:=by rw [cl_length,h]
 simp only [part,isAgg,Sem.run_bind,run_underlying hu,Result.andThen_ok,Sem.run_pure,if_true,hs]
 simp [kcl,ktl,ql,List.take_append,List.drop_append,hl]
theorem kcl_get {K:Tk} (h:K.B.length=64) (k:Nat):(kcl K)[64+k]?=(ktl K)[k]?:=by
 have hl:(cl K.B).length=64:=by rw [cl_length,h]
 unfold kcl
 rw [List.getElem?_append_right (by omega),show 64+k-(cl K.B).length=k by omega]
theorem run_part_ki {K:Tk} (h:K.B.length=64) (k:Nat) {x:Int} (hk:(ktl K)[k]?=some (.int .i64 x)) (w:World):(part 3 (kcl K).toArray (64+k)).run Tryz.prog w=.ok (.int .i64 x) w:=by
 have h2:=(kcl_get h k).trans hk
 simp [part,isAgg,run_underlying Tryz.underlying3,h2]
theorem run_part_kb {K:Tk} (h:K.B.length=64) (k:Nat) {x:Bool} (hk:(ktl K)[k]?=some (.bool x)) (w:World):(part 4 (kcl K).toArray (64+k)).run Tryz.prog w=.ok (.bool x) w:=by
 have h2:=(kcl_get h k).trans hk
 simp [part,isAgg,run_underlying Tryz.underlying4,h2]
theorem run_equal_k {K:Tk} (h:K.B.length=64) (w:World):(Op.equalIn 10000 30 (.agg (kcl K).toArray) (.agg (kcl K).toArray)).run Tryz.prog w=.ok true w:=by
 have hu:Tryz.prog.underlying 30=some (.struct (Tryz.prog.fieldsOf 30)):=by kernel_rfl
 rw [run_equalIn_struct w 9999 _ _ _ hu stoodK]
 obtain ⟨f1,f2,f3,f4,f5,f6,hf,n1,t1,o1,n2,t2,o2,n3,t3,o3,n4,t4,o4,n5,t5,o5,n6,t6,o6⟩:∃ f1 f2 f3 f4 f5 f6,(Tryz.prog.fieldsOf 30).toList=[f1,f2,f3,f4,f5,f6] ∧
   f1.name ≠ "_" ∧ f1.type = 26 ∧ f1.offset = 0 ∧ f2.name ≠ "_" ∧ f2.type = 28 ∧ f2.offset = 67 ∧ f3.name ≠ "_" ∧ f3.type = 4 ∧ f3.offset = 71 ∧ f4.name ≠ "_" ∧ f4.type = 4 ∧ f4.offset = 72 ∧ f5.name ≠ "_" ∧ f5.type = 3 ∧ f5.offset = 73 ∧ f6.name ≠ "_" ∧ f6.type = 3 ∧ f6.offset = 74 := by
  have h:=fieldsK
  generalize (Tryz.prog.fieldsOf 30).toList=fs at h
  have hl:fs.length=6:=by simpa using congrArg List.length h
  match fs,hl with
  | [f1,f2,f3,f4,f5,f6],_ =>
   simp only [List.map_cons,List.map_nil,List.cons.injEq,Prod.mk.injEq,beq_eq_false_iff_ne,and_true] at h
   exact ⟨f1,f2,f3,f4,f5,f6,rfl,h.1.1,h.1.2.1,h.1.2.2,h.2.1.1,h.2.1.2.1,h.2.1.2.2,h.2.2.1.1,h.2.2.1.2.1,h.2.2.1.2.2,h.2.2.2.1.1,h.2.2.2.1.2.1,h.2.2.2.1.2.2,h.2.2.2.2.1.1,h.2.2.2.2.1.2.1,h.2.2.2.2.1.2.2,h.2.2.2.2.2.1,h.2.2.2.2.2.2.1,h.2.2.2.2.2.2.2⟩
 have i8:∀ a b:Int,(Op.equalIn 9999 3 (.int .i64 a) (.int .i64 b)).run Tryz.prog w=.ok (a == b) w:=fun a b=>run_equalIn_int w 9998 _ _ _ a b Tryz.underlying3
 have b8:∀ a b:Bool,(Op.equalIn 9999 4 (.bool a) (.bool b)).run Tryz.prog w=.ok (a == b) w:=fun a b=>run_equalIn_bool' w 9998 _ a b Tryz.underlying4
 have hp:(pk K).B.length=64:=h
 have p8:(Op.equalIn 9999 26 (.agg (pl (pk K)).toArray) (.agg (pl (pk K)).toArray)).run Tryz.prog w=.ok true w:=by rw [run_equal_p9 hp hp w,beqP_refl]
 have q8:=run_equal_q9 K.s w
 have a1:=run_part_kp h w
 have a2:=run_part_ks h w
 have a3:=run_part_kb h 7 (show (ktl K)[7]?=some (.bool K.ty) from rfl) w
 have a4:=run_part_kb h 8 (show (ktl K)[8]?=some (.bool K.se) from rfl) w
 have a5:=run_part_ki h 9 (show (ktl K)[9]?=some (.int .i64 K.mx) from rfl) w
 have a6:=run_part_ki h 10 (show (ktl K)[10]?=some (.int .i64 K.re) from rfl) w
 simp only [Nat.reduceAdd] at a3 a4 a5 a6
 rw [hf]
 rw [Op.eqFields,if_pos n1]
 simp only [Sem.run_bind,t1,o1,a1,Result.andThen_ok,p8,Bool.not_true,Bool.false_eq_true,if_false]
 rw [Op.eqFields,if_pos n2]
 simp only [Sem.run_bind,t2,o2,a2,Result.andThen_ok,q8,Bool.not_true,Bool.false_eq_true,if_false]
 rw [Op.eqFields,if_pos n3]
 simp only [Sem.run_bind,t3,o3,a3,Result.andThen_ok,b8,beq_self_eq_true,Bool.not_true,Bool.false_eq_true,if_false]
 rw [Op.eqFields,if_pos n4]
 simp only [Sem.run_bind,t4,o4,a4,Result.andThen_ok,b8,beq_self_eq_true,Bool.not_true,Bool.false_eq_true,if_false]
 rw [Op.eqFields,if_pos n5]
 simp only [Sem.run_bind,t5,o5,a5,Result.andThen_ok,i8,beq_self_eq_true,Bool.not_true,Bool.false_eq_true,if_false]
 rw [Op.eqFields,if_pos n6]
 simp only [Sem.run_bind,t6,o6,a6,Result.andThen_ok,i8,beq_self_eq_true,Bool.not_true,Bool.false_eq_true,if_false]
 simp [Op.eqFields]
theorem run_eql_k {K:Tk} (h:K.B.length=64) (w:World):(binOp .eql 30 (.agg (kcl K).toArray) (.agg (kcl K).toArray)).run Tryz.prog w=.ok (.bool true) w:=by
 simp only [binOp,Sem.run_bind,Op.equal,Op.maxDepth,run_equal_k h,Result.andThen_ok,Sem.run_pure]
theorem wpList_eql_k {ops:Array Oper} {rest:List Oper} {o:Oper} {a:Act} {w:World} {Q:Exit→Act→World→Prop} (hw:Region.wanted o (yielded ops a.tmps)=true) (x y:Operand) (ty:TypeId) (ho:o.op=.binOp .eql 30 x y ty)
  (K:Tk) (h:K.B.length=64) (hx:a.eval x=kv K) (hy:a.eval y=kv K)
  (hk:wpList Tryz.prog ops Q rest (a.put o.dst (.bool true)) w):wpList Tryz.prog ops Q (o::rest) a w :=
 wpList_step fun _ hK=>by
  rw [if_pos hw]
  unfold Oper.wp execOp
  simp only [ho,hx,hy,Sem.run_bind,kv,run_eqGuard_agg w _ _ _ _ _ _ eqGuardK,run_eql_k h,Result.andThen_ok,Sem.run_pure,Oper.upon_value]
  exact hK _ _ hk
end Go.Proofs.YtlbipjmmlobofaaGreatDoor
