/- SiL · SiM · SiN · SiO: my texts, in their order. -/
import Derived.Test.YtlbipjmmlobofaaGreatDoorPkA03
import Derived.Test.YtlbipjmmlobofaaGreatDoorPkA15
import Derived.Deep.CutRange
namespace Go.Proofs.YtlbipjmmlobofaaGreatDoor
open Go.RowKit
set_option linter.unusedVariables false
set_option linter.unusedSimpArgs false
set_option maxRecDepth 100000
set_option maxHeartbeats 4000000

def dgT:ByteArray:=⟨#[48,49,50,51,52,53,54,55,56,57]⟩
theorem dg_one (k:Nat) (h:k<10):dgT.extract k (k+1)=⟨#[UInt8.ofNat (48+k)]⟩:=by
 refine bs_inj ?_
 rw [bs_extract]
 have:k=0∨k=1∨k=2∨k=3∨k=4∨k=5∨k=6∨k=7∨k=8∨k=9:=by omega
 rcases this with rfl|rfl|rfl|rfl|rfl|rfl|rfl|rfl|rfl|rfl <;> rfl
theorem dT_1 {n:Nat} (h:n<10):dT n=⟨#[UInt8.ofNat (48+n)]⟩:=bs_inj (by rw [bs_dT,show ((n:Int)).toNat=n from rfl,dig_1 h];rfl)
theorem dT_2 {n:Nat} (h:10≤n) (h2:n<100):(⟨#[UInt8.ofNat (48+n / 10)]⟩:ByteArray)++⟨#[UInt8.ofNat (48+n % 10)]⟩=dT n :=
 bs_inj (by rw [bs_append,bs_dT,show ((n:Int)).toNat=n from rfl,dig_2 h h2];rfl)
theorem run_dg (k:Nat) (h:k<10) (i j:Int) (hi:i=k) (hj:j=k+1) (w:World) :
  (Instr.slice 9 (.string ⟨#[48,49,50,51,52,53,54,55,56,57]⟩) (some (.int .i64 i)) (some (.int .i64 j)) none).run Tryz.prog w=.ok (.string ⟨#[UInt8.ofNat (48+k)]⟩) w :=
 lrun_cut dgT k (k+1) i j hi (by omega) (by omega) (by show k+1≤10;omega) _ (dg_one k h) w
theorem decimal_is (n:Nat) (hn:n<100) (w:World):Calls Tryz.prog 58 #[.int .i64 n] w fun e w'=>e=.returned (.string (dT n))∧Kept w w':=by
 by_cases h:n<10
 ·have hs:=run_dg n h (n:Int) ((n:Int)+1) rfl rfl
  have HE:=Qh (dT_1 h)
  have hl:(n:Int)<10:=by omega
  generalize (⟨#[UInt8.ofNat (48+n)]⟩:ByteArray)=x at hs HE
  clear h
  go_enter Tryz.func58,Tryz.ntmps58
  go_wp2
  go_ret
  exact ⟨by rw [HE.out];first|done|rfl,Kept.refl _⟩
 ·have hs1:=run_dg (n / 10) (by omega) ((n:Int) / 10) ((n:Int) / 10+1) (by omega) (by omega)
  have hs2:=run_dg (n % 10) (by omega) ((n:Int) % 10) ((n:Int) % 10+1) (by omega) (by omega)
  have q2:(n:Int).tmod 10=(n:Int) % 10:=Int.tmod_eq_emod_of_nonneg (by omega)
  have w1:IntKind.i64.wrap ((n:Int) / 10)=(n:Int) / 10:=IntWalk.i64_in _ (by omega)
  have w2:IntKind.i64.wrap ((n:Int) % 10)=(n:Int) % 10:=IntWalk.i64_in _ (by omega)
  have w3:IntKind.i64.wrap ((n:Int) / 10+1)=(n:Int) / 10+1:=IntWalk.i64_in _ (by omega)
  have w4:IntKind.i64.wrap ((n:Int) % 10+1)=(n:Int) % 10+1:=IntWalk.i64_in _ (by omega)
  have HE:=Qh (dT_2 (n:=n) (by omega) hn)
  have hl:¬ (n:Int)<10:=by omega
  have e1:(⟨#[UInt8.ofNat (48+n / 10)]⟩:ByteArray).size=1:=rfl
  have e2:(⟨#[UInt8.ofNat (48+n % 10)]⟩:ByteArray).size=1:=rfl
  generalize (⟨#[UInt8.ofNat (48+n / 10)]⟩:ByteArray)=x at hs1 HE e1
  generalize (⟨#[UInt8.ofNat (48+n % 10)]⟩:ByteArray)=y at hs2 HE e2
  have z1:x.size+y.size≤9223372036854775807:=by omega
  clear e1 e2
  clear h
  go_enter Tryz.func58,Tryz.ntmps58
  go_wp2_with fail
  refine wp_region_held_drew (S:=Kept _) (by kernel_rfl) (Kept.refl _).drew (fun Qj=>?_)
  refine rT 0 11 (.string ⟨#[48,49,50,51,52,53,54,55,56,57]⟩) rfl rfl Qj ?_
  simp only [pA,pN,sZ,sU]
  refine rT 1 12 (.int .i64 n) rfl rfl Qj ?_
  simp only [pA,pN,sZ,sU]
  refine rT 2 13 (.int .i64 ((n:Int) / 10)) rfl rfl Qj ?_
  simp only [pA,pN,sZ,sU]
  refine rT 3 14 (.int .i64 n) rfl rfl Qj ?_
  simp only [pA,pN,sZ,sU]
  refine rT 4 15 (.int .i64 ((n:Int) / 10)) rfl rfl Qj ?_
  simp only [pA,pN,sZ,sU]
  refine rT 5 16 (.int .i64 ((n:Int) / 10+1)) rfl rfl Qj ?_
  simp only [pA,pN,sZ,sU]
  refine rT 6 17 (.string x) rfl rfl Qj ?_
  simp only [pA,pN,sZ,sU]
  refine rT 7 18 (.string ⟨#[48,49,50,51,52,53,54,55,56,57]⟩) rfl rfl Qj ?_
  simp only [pA,pN,sZ,sU]
  refine rT 8 19 (.int .i64 n) rfl rfl Qj ?_
  simp only [pA,pN,sZ,sU]
  refine rT 9 20 (.int .i64 ((n:Int) % 10)) rfl rfl Qj ?_
  simp only [pA,pN,sZ,sU]
  refine rT 10 21 (.int .i64 n) rfl rfl Qj ?_
  simp only [pA,pN,sZ,sU]
  refine rT 11 22 (.int .i64 ((n:Int) % 10)) rfl rfl Qj ?_
  simp only [pA,pN,sZ,sU]
  refine rT 12 23 (.int .i64 ((n:Int) % 10+1)) rfl rfl Qj ?_
  simp only [pA,pN,sZ,sU]
  refine rT 13 24 (.string y) rfl rfl Qj ?_
  simp only [pA,pN,sZ,sU]
  refine rT 14 25 (.string (x++y)) rfl rfl Qj ?_
  simp only [pA,pN,sZ,sU]
  refine rT 15 2 (.string (x++y)) rfl rfl Qj ?_
  simp only [pA,pN,sZ,sU]
  refine wpAnyH_done (by kernel_rfl) ?_ _
  have HK:=Qh Qj
  clear Qj
  go_wp2
  go_ret
  exact ⟨by rw [← HE.out];first|done|rfl,HK.out⟩
theorem rtext_is (s:Stp) (hs:okSt s=true) (w:World):Calls Tryz.prog 21 #[qv s] w fun e w'=>e=.returned (.string (txT s))∧Kept w w':=by
 have HW:=Qh (TAt.new w s)
 have HK:=Qh ((Kept.refl w).alloc (.cells (ql s).toArray 28))
 obtain ⟨k,g,n,h⟩:=s
 unfold qv
 unfold ql at HK
 dsimp only at HK ⊢
 have hbb:=okS_M hs
 obtain ⟨N,rfl⟩:∃ N:Nat,n=N:=⟨n.toNat,by have:=hbb.1;dsimp only at this;omega⟩
 have hN:N<100:=by have:=hbb.2.1;dsimp only [Int.toNat_natCast] at this;omega
 have z1:=kT_size k
 have z2:=gT_size g
 have z3:=dT_size N hN
 have z12:(kT k).size+(gT g).size≤9223372036854775807:=by omega
 have z13:(kT k++gT g).size+(dT N).size≤9223372036854775807:=by rw [ByteArray.size_append];omega
 have z15:(kT k).size+(gT g).size+(dT N).size≤9223372036854775807:=by omega
 have z14:(kT k++gT g++dT N).size≤9:=by rw [ByteArray.size_append,ByteArray.size_append];omega
 have hk:=HW.out.k
 have hg:=HW.out.g
 have hnn:=HW.out.n
 clear hbb hs
 go_enter Tryz.func21,Tryz.ntmps21
 go_wp2_with fail
 refine wp_region_held_drew (S:=Kept _) (by kernel_rfl) (Kept.refl _).drew (fun Qj=>?_)
 refine rT 0 4 (.pointer (some ⟨w.heap.size,0,none⟩)) rfl rfl Qj ?_
 simp only [pA,pN,sZ,sU]
 refine rC 1 5 (.int .i64 k) rfl rfl (fun _ h=>kept_cell h (HW.out.k)) Qj ?_
 simp only [pA,pN,sZ,sU]
 refine rT 3 7 (.pointer (some ⟨w.heap.size,1,none⟩)) rfl rfl Qj ?_
 simp only [pA,pN,sZ,sU]
 refine rC 4 8 (.int .i64 g) rfl rfl (fun _ h=>kept_cell h (HW.out.g)) Qj ?_
 simp only [pA,pN,sZ,sU]
 refine rT 7 11 (.pointer (some ⟨w.heap.size,2,none⟩)) rfl rfl Qj ?_
 simp only [pA,pN,sZ,sU]
 refine rC 8 12 (.int .i64 N) rfl rfl (fun _ h=>kept_cell h (HW.out.n)) Qj ?_
 simp only [pA,pN,sZ,sU]
 refine rR 2 rfl (fun K hK=>?_)
 go_simp
 refine ((rkT_is k _)).mono ?_
 rintro e w3 ⟨rfl,gw3⟩
 refine hK.out _ _ (Qj.trans gw3) (fun _=>?_)
 replace Qj:=Qj.trans gw3
 clear hK K
 refine rR 5 rfl (fun K hK=>?_)
 go_simp
 refine ((rgT_is g _)).mono ?_
 rintro e w4 ⟨rfl,gw4⟩
 refine hK.out _ _ (Qj.trans gw4) (fun _=>?_)
 replace Qj:=Qj.trans gw4
 clear hK K
 refine rT 6 10 (.string (kT k++gT g)) rfl rfl Qj ?_
 simp only [pA,pN,sZ,sU]
 refine rR 9 rfl (fun K hK=>?_)
 go_simp
 refine ((decimal_is N hN _)).mono ?_
 rintro e w5 ⟨rfl,gw5⟩
 refine hK.out _ _ (Qj.trans gw5) (fun _=>?_)
 replace Qj:=Qj.trans gw5
 clear hK K
 refine rT 10 14 (.string (kT k++gT g++dT N)) rfl rfl Qj ?_
 simp only [pA,pN,sZ,sU]
 refine rT 11 3 (.string (kT k++gT g++dT N)) rfl rfl Qj ?_
 simp only [pA,pN,sZ,sU]
 refine wpAnyH_done (by kernel_rfl) ?_ _
 have HK2:=Qh (HK.out.trans Qj)
 have hh:=(HW.out.kept Qj).h
 clear Qj hk hg hnn
 cases h
 ·go_wp2
  go_ret
  exact ⟨rfl,HK2.out⟩
 ·go_wp2
  go_ret
  exact ⟨rfl,HK2.out⟩
set_option maxHeartbeats 4000000

theorem hd_next (i j:Nat) (hi:i<7) (hj:j<2):hdS.take (2*i+(j+1))=hdS.take (2*i+j)++[⟨1+(i:Int),1+(j:Int),0,false⟩]:=by
 have a:i=0∨i=1∨i=2∨i=3∨i=4∨i=5∨i=6:=by omega
 have b:j=0∨j=1:=by omega
 rcases a with rfl|rfl|rfl|rfl|rfl|rfl|rfl <;> rcases b with rfl|rfl <;> rfl
theorem hd_len {n:Nat} (h:n≤14):(hdS.take n).length=n:=by
 rw [List.length_take]
 have:hdS.length=15:=rfl
 omega
theorem openings_is (w:World):Calls Tryz.prog 109 #[] w fun e w'=>∃ v,e=.returned v∧OwnQ w' w.heap.size v hdS∧Kept w w':=by
 obtain ⟨W,eW⟩:∃ W,W=w:=⟨_,rfl⟩
 have HW:=Qh eW
 have HK0:Hid (Kept W w):=Qh (by rw [eW];exact Kept.refl _)
 clear eW
 go_enter Tryz.func109,Tryz.ntmps109
 go_wp2
 go_loopw [1,4] (fun t1 t4 wr=>∃ i:Nat,t4=.int .i64 i∧i≤7∧OwnQ wr W.heap.size t1 (hdS.take (2*i))∧Kept W wr) (fun _ t4 _=>7-(intOf t4).toNat)
 case atStart=>exact ⟨0,rfl,by omega,OwnQ.nil _ _,HK0.out⟩
 case round =>
  obtain ⟨i,rfl,hi,hown,hK⟩:=hrel
  have HO:=Qh hown
  have HK:=Qh hK
  clear hown hK
  by_cases hlt:i<7
  ·have hlt':(i:Int)<7:=by omega
   go_wp2
   generalize wr=X at *
   go_loopw [1,7] (fun t1 t7 wr=>∃ j:Nat,t7=.int .i64 j∧j≤2∧OwnQ wr W.heap.size t1 (hdS.take (2*i+j))∧Kept W wr) (fun _ t7 _=>2-(intOf t7).toNat)
   case atStart=>exact ⟨0,rfl,by omega,HO.out,HK.out⟩
   case round =>
    obtain ⟨j,rfl,hj,hown2,hK2⟩:=hrel
    have HO2:=Qh hown2
    have HK2:=Qh hK2
    clear hown2 hK2
    by_cases hjt:j<2
    ·have HA:Hid (OwnQ (wr.alloc (.cells (ql ⟨1+(i:Int),1+(j:Int),0,false⟩).toArray 28)) W.heap.size _ _):=Qh (HO2.out.kept ((Kept.refl _).alloc _))
     have HKA:=Qh (HK2.out.alloc (.cells (ql ⟨1+(i:Int),1+(j:Int),0,false⟩).toArray 28))
     have HL:=Qh (LsQ.lit wr ⟨1+(i:Int),1+(j:Int),0,false⟩)
     have HN:=Qh (hd_next i j hlt hjt)
     have HLen:=Qh (hd_len (n:=2*i+j) (by omega))
     go_wp2_with (first|(refine wpList_bt_q2 rfl _ _ rfl (1+(i:Int)) (1+(j:Int)) rfl rfl ?_)|(refine wpList_bslice_q rfl _ rfl ⟨1+(i:Int),1+(j:Int),0,false⟩ rfl ?_)|(at_builtin;refine wpList_append_q rfl _ _ rfl W.heap.size wr.heap.size _ _ (hdS.take (2*i+j)) [⟨1+(i:Int),1+(j:Int),0,false⟩] rfl rfl HA.out HL.out ?c1 ?c2 ?_))
     case c1=>rw [HLen.out];show 2*i+j+1≤100000;omega
     case c2=>have:=HK2.out.size;simp;omega
     intro v' w3 ho hg
     have HO3:Hid (OwnQ w3 W.heap.size v' (hdS.take (2*i+(j+1)))):=Qh (by rw [HN.out];exact ho)
     have HK3:=Qh (HA.out.grown HKA.out (Nat.le_refl _) hg)
     clear ho hg
     go_wp2
     go_roundw
     case rel=>exact ⟨j+1,by go_num,by omega,HO3.out,HK3.out⟩
     case measure=>simp [intOf];omega
    ·have ej:j=2:=by omega
     subst ej
     have HO3:Hid (OwnQ wr W.heap.size _ (hdS.take (2*(i+1)))):=HO2
     go_wp2
     go_roundw
     case rel=>exact ⟨i+1,by go_num,by omega,HO3.out,HK2.out⟩
     case measure=>simp [intOf];omega
  ·have ei:i=7:=by omega
   subst ei
   have HA:Hid (OwnQ (wr.alloc (.cells (ql ⟨8,0,0,false⟩).toArray 28)) W.heap.size _ _):=Qh (HO.out.kept ((Kept.refl _).alloc _))
   have HKA:=Qh (HK.out.alloc (.cells (ql ⟨8,0,0,false⟩).toArray 28))
   have HL:=Qh (LsQ.lit wr ⟨8,0,0,false⟩)
   go_wp2_with (first|(refine wpList_bt_q1 rfl _ rfl 8 rfl ?_)|(refine wpList_bslice_q rfl _ rfl ⟨8,0,0,false⟩ rfl ?_)|(at_builtin;refine wpList_append_q rfl _ _ rfl W.heap.size wr.heap.size _ _ (hdS.take 14) [⟨8,0,0,false⟩] rfl rfl HA.out HL.out ?c1 ?c2 ?_))
   case c1=>decide
   case c2=>have:=HK.out.size;simp;omega
   intro v' w3 ho hg
   have HO3:Hid (OwnQ w3 W.heap.size v' hdS):=Qh ho
   have HK3:=Qh (HA.out.grown HKA.out (Nat.le_refl _) hg)
   clear ho hg
   go_wp2
   go_ret
   exact ⟨v',rfl,by rw [← HW.out];exact HO3.out,by rw [← HW.out];exact HK3.out⟩
set_option maxHeartbeats 4000000

theorem infoX:(Tryz.prog.info? 9).map (fun i=>(i.zero,i.size,i.bytes))=some (some (.string ⟨#[]⟩),1,16):=by kernel_rfl
def OwnX (w:World) (base:Nat) (v:Value) (l:List ByteArray):Prop:=w.ownsRow base 9 1 v l.length (l.map Value.string)
theorem OwnX.nil (w:World) (base:Nat):OwnX w base (.slice none 0 0) []:=World.ownsRow_nil _ _ _ _
theorem OwnX.kept {w w':World} {base:Nat} {v:Value} {l:List ByteArray} (h:OwnX w base v l) (k:Kept w w'):OwnX w' base v l:=by
 obtain ⟨h1,h2⟩:=h
 refine ⟨h1,?_⟩
 rcases h2 with h2|⟨b,cap,cur,e1,e2,e3,e4⟩
 ·exact .inl h2
 ·exact .inr ⟨b,cap,cur,e1,e2,k.heap e3,e4⟩
theorem OwnX.grown {w w':World} {base:Nat} {v:Value} {l:List ByteArray} (h:OwnX w base v l) {a:World} (k:Kept a w) (hb:a.heap.size≤base) (hg:w.grownBy w' v.ownBlock):Kept a w' :=
 k.grownBy hg (fun g hgv=>by have:=(World.ownsRow.lt h g hgv).1;omega)
theorem OwnX.ls {w:World} {base:Nat} {v:Value} {l:List ByteArray} (h:OwnX w base v l) (hl:0<l.length):LsT w v l:=by
 rcases h.2 with ⟨e,h0⟩|⟨g,cap',cur,e,hb,hh,hnc,_,hcs,ht⟩
 ·omega
 ·refine .inr ⟨g,0,cap',e,lt_of_heap hh,hnc,fun j x hx=>?_⟩
  have hj:j<l.length:=by
   obtain ⟨hj,_⟩:=List.getElem?_eq_some_iff.1 hx
   exact hj
  rw [Nat.zero_add,cell_of_row w g j cur _ (0,0) hh]
  have h2:(cur.toList.take (l.length*1))[j]?=(l.map Value.string)[j]?:=by rw [ht]
  rw [List.getElem?_take,if_pos (by omega)] at h2
  simp only [Array.getElem?_toList] at h2
  rw [h2]
  simp [hx]
theorem wpList_append_x {ops:Array Oper} {rest:List Oper} {o:Oper} {a:Act} {w:World} {Q:Exit→Act→World→Prop} (hgd:o.guard=none) (s x:Operand)
  (ho:o.op=.call { callee:=.builtin .append,args:=#[s,x],argTypes:=#[50,50] })
  (base g:Nat) (v:Value) (l:List ByteArray) (y:ByteArray) (hs:a.eval s=v) (hx:a.eval x=.slice (some ⟨g,0,none⟩) 1 1) (hown:OwnX w base v l) (hL:w.cell? ⟨g,0,none⟩=some (.string y)) (hlen:l.length≤10000) (hbase:base≤w.heap.size)
  (h:∀ v' w',OwnX w' base v' (l++[y])→w.grownBy w' v.ownBlock→wpList Tryz.prog ops Q rest (a.put o.dst v') w'):wpList Tryz.prog ops Q (o::rest) a w:=by
 obtain ⟨i0,hi0,hz0,hz1,hz2⟩:=partsQ infoX
 refine wpList_append_own w hgd s x 50 ho base 9 i0 (.string ⟨#[]⟩) 1 16 Tryz.underlying50 hi0 hz0 hz1 hz2 rfl (by decide) v _ _ hs hown ⟨g,0,none⟩ 1 1 [.string y] hx rfl ?_ ?_ ?_ ?_ hbase ?_
 ·intro j u hu
  match j,hu with
  | 0,hu=>simp at hu;subst hu;exact hL
 ·intro u hu;simp at hu;subst hu;rfl
 ·unfold maxLen;omega
 ·omega
 ·intro v' w' h1 h2 _
  refine h v' w' ?_ h2
  unfold OwnX
  rw [List.map_append,List.length_append]
  exact h1
theorem hdT_next {j:Nat} {p:Int × Int} (h:hdL[j]?=some p):hdT.take (j+1)=hdT.take j++[opT p.1 p.2]:=by
 rw [List.take_add_one,hdT_at h];rfl
theorem hdS_get {j:Nat} {p:Int × Int} (h:hdL[j]?=some p):hdS[j]?=some ⟨p.1,p.2,0,false⟩:=by unfold hdS;rw [List.getElem?_map,h];rfl
theorem hd_ok {j:Nat} {p:Int × Int} (h:hdL[j]?=some p):okG p.1 p.2=true:=(okG_iff _ _).2 (List.mem_of_getElem? h)
theorem words_is (v:Value) (g:Nat) (w:World) (hv:LsQ w g v hdS) (hT:TabS w) :
  Calls Tryz.prog 110 #[v] w fun e w'=>∃ v',e=.returned v'∧OwnX w' w.heap.size v' hdT∧Kept w w':=by
 obtain ⟨off,cap,rfl,hc1,hc2,hr⟩:=hv
 have hc1':15≤cap:=hc1
 rw [show hdS.length=15 from rfl]
 obtain ⟨W,eW⟩:∃ W,W=w:=⟨_,rfl⟩
 have HW:=Qh eW
 have HK0:Hid (Kept W w):=Qh (by rw [eW];exact Kept.refl _)
 have HR:Hid (W.rangeAt g off (qlL hdS)):=Qh (by rw [eW];exact hr)
 have HT:Hid (TabS W):=Qh (by rw [eW];exact hT)
 clear eW hr hT
 go_enter Tryz.func110,Tryz.ntmps110
 go_wp2
 go_loopw [3,8] (fun t3 t8 wr=>∃ j:Nat,t8=.int .i64 j∧j≤15∧OwnX wr W.heap.size t3 (hdT.take j)∧Kept W wr) (fun _ t8 _=>15-(intOf t8).toNat)
 case atStart=>exact ⟨0,rfl,by omega,OwnX.nil _ _,HK0.out⟩
 case round =>
  obtain ⟨j,rfl,hj,hown,hK⟩:=hrel
  have HO:=Qh hown
  have HK:=Qh hK
  clear hown hK
  by_cases hlt:j<15
  ·have hlt':(j:Int)<15:=by omega
   obtain ⟨p,hp⟩:∃ p,hdL[j]?=some p:=⟨_,List.getElem?_eq_getElem hlt⟩
   have HP:=Qh hp
   obtain ⟨s,hs⟩:∃ s:Stp,s=⟨p.1,p.2,0,false⟩:=⟨_,rfl⟩
   have HS:=Qh hs
   have HRj:Hid (wr.rangeAt g (off+j*4) (ql s)):=Qh (by
    rw [hs,Nat.mul_comm]
    intro k u hu
    exact kept_cell HK.out (range_q HR.out (hdS_get hp) k u hu))
   have HA:Hid (OwnX (wr.alloc (.cells (ql s).toArray 28)) W.heap.size _ _):=Qh (HO.out.kept ((Kept.refl _).alloc _))
   have HKA:=Qh (HK.out.alloc (.cells (ql s).toArray 28))
   have HN:=Qh (TAt.new wr s)
   clear hp hs
   go_wp2_with (first|(refine wpList_load_q rfl _ rfl g (off+j*4) rfl s HRj.out ?_)|(with_reducible refine wpList_new_q rfl rfl ?_)|(refine wpList_store_newq rfl _ _ rfl Zt s rfl rfl ?_)|(refine wpList_load_q rfl _ rfl wr.heap.size 0 rfl s HN.out.range ?_))
   rw [HS.out]
   refine (head_is p.1 p.2 0 false (hd_ok HP.out) _ (HT.out.kept (by rw [← HS.out];exact HKA.out))).mono ?_
   rintro e w2 ⟨rfl,g2⟩
   rw [← HS.out] at g2
   have HO2:Hid (OwnX (w2.alloc (.cells #[.string (opT p.1 p.2)] 9)) W.heap.size _ _):=Qh ((HA.out.kept g2).kept ((Kept.refl _).alloc _))
   have HK2:=Qh ((HKA.out.trans g2).alloc (.cells #[.string (opT p.1 p.2)] 9))
   have HC2:Hid ((w2.alloc (.cells #[.string (opT p.1 p.2)] 9)).cell? ⟨w2.heap.size,0,none⟩=some (.string (opT p.1 p.2))):=Qh (by rw [cell_of_row _ _ _ _ _ (0,0) (heap_alloc_new w2 _)];rfl)
   clear g2
   go_wp2_with (at_builtin;refine wpList_append_x rfl _ _ rfl W.heap.size w2.heap.size _ (hdT.take j) (opT p.1 p.2) rfl rfl HO2.out HC2.out ?c1 ?c2 ?_)
   case c1=>rw [List.length_take];omega
   case c2=>exact HK2.out.size
   intro v' w3 ho hg
   have HO3:Hid (OwnX w3 W.heap.size v' (hdT.take (j+1))):=Qh (by rw [hdT_next HP.out];exact ho)
   have HK3:=Qh (HO2.out.grown HK2.out (Nat.le_refl _) hg)
   clear ho hg
   go_wp2
   go_roundw
   case rel=>exact ⟨j+1,by go_num,by omega,HO3.out,HK3.out⟩
   case measure=>simp [intOf];omega
  ·have ej:j=15:=by omega
   subst ej
   go_wp2
   go_ret
   exact ⟨_,rfl,by rw [← HW.out];exact HO.out,by rw [← HW.out];exact HK.out⟩
theorem goesOn_is (s:Stp) (t:ByteArray) (a:Int) (ht:t.size≤1000) (w:World):Calls Tryz.prog 113 #[qv s,.string t,.int .i64 a] w fun e w'=>e=.returned (.bool (goB s t a))∧Kept w w':=by
 have HK:=Qh ((Kept.refl w).alloc (.cells (ql s).toArray 28))
 have HG:Hid (goB s t a=(decide (s.k=5) && (decide (s.n=0) || decide ((wordP t dotT a).e=0)))):=Qh rfl
 have HWd:=Qh (fun w=>word_is t dotT a ht (by decide) w)
 obtain ⟨k,g,n,h⟩:=s
 unfold qv
 unfold ql at HK
 dsimp only at HK HG ⊢
 by_cases h5:k=5
 ·have b5:(k == 5)=true:=beq_iff_eq.2 h5
  by_cases h0:n=0
  ·have b0:(n == 0)=true:=beq_iff_eq.2 h0
   have HE:=Qh (HG.out.trans (by rw [decide_eq_true h5,decide_eq_true h0];rfl:_=true))
   clear h5 h0
   go_enter Tryz.func113,Tryz.ntmps113
   go_wp2
   go_ret
   exact ⟨by rw [HE.out];first|done|rfl,HK.out⟩
  ·have b0:(n == 0)=false:=beq_eq_false_iff_ne.2 h0
   rw [decide_eq_true h5,decide_eq_false h0,Bool.true_and,Bool.false_or] at HG
   obtain ⟨x,hx⟩:∃ x,wordP t dotT a=x:=⟨_,rfl⟩
   rw [hx] at HG HWd
   have hf:=run_field_sp x
   obtain ⟨y,hy⟩:∃ y,sv x=y:=⟨_,rfl⟩
   obtain ⟨xe,hxe⟩:∃ z,x.e=z:=⟨_,rfl⟩
   rw [hy] at hf HWd
   rw [hxe] at hf HG
   clear h5 h0 hx hy hxe
   by_cases he:xe=0
   ·have be:(xe == 0)=true:=beq_iff_eq.2 he
    have HE:=Qh (HG.out.trans (decide_eq_true he))
    clear he
    go_enter Tryz.func113,Tryz.ntmps113
    go_wp2_with fail
    refine (HWd.out _).mono ?_
    rintro e w2 ⟨rfl,g2⟩
    have HK2:=Qh (HK.out.trans g2)
    clear g2
    go_wp2
    go_ret
    exact ⟨by rw [HE.out];first|done|rfl,HK2.out⟩
   ·have be:(xe == 0)=false:=beq_eq_false_iff_ne.2 he
    have HE:=Qh (HG.out.trans (decide_eq_false he))
    clear he
    go_enter Tryz.func113,Tryz.ntmps113
    go_wp2_with fail
    refine (HWd.out _).mono ?_
    rintro e w2 ⟨rfl,g2⟩
    have HK2:=Qh (HK.out.trans g2)
    clear g2
    go_wp2
    go_ret
    exact ⟨by rw [HE.out];first|done|rfl,HK2.out⟩
 ·have b5:(k == 5)=false:=beq_eq_false_iff_ne.2 h5
  have HE:=Qh (HG.out.trans (by rw [decide_eq_false h5];rfl:_=false))
  clear h5
  go_enter Tryz.func113,Tryz.ntmps113
  go_wp2
  go_ret
  exact ⟨by rw [HE.out];first|done|rfl,HK.out⟩
set_option maxHeartbeats 4000000

theorem results_qs {fn:Func} {s t:Tmp} (h:fn.results=#[.cell s 28,.cell t 64]) (tmps:Array Value) {w:World} {g k:Nat} {x:Stp} {y:Sp}
  (hs:tmps.getD s undef=.pointer (some ⟨g,0,none⟩)) (ht:tmps.getD t undef=.pointer (some ⟨k,0,none⟩)) (hx:TAt w g x) (hy:SAt w k y) :
  (results fn tmps).run Tryz.prog w=.ok (.tuple #[qv x,sv y]) w:=by
 have hs':tmps[s]?.getD undef=.pointer (some ⟨g,0,none⟩):=by simpa using hs
 have ht':tmps[t]?.getD undef=.pointer (some ⟨k,0,none⟩):=by simpa using ht
 have lu:(loadVar 28 ⟨g,0,none⟩).run Tryz.prog w=.ok (qv x) w:=run_loadVar_row w g _ _ (ql x).toArray (0,0) _ hx.at_ Tryz.underlying28 rfl (ql_sz x)
 have lv:(loadVar 64 ⟨k,0,none⟩).run Tryz.prog w=.ok (sv y) w:=run_loadVar_row w k _ _ (sl y).toArray (0,0) _ hy.at_ Tryz.underlying64 rfl (sl_sz y)
 simp [results,h,hs',ht',asAddr,lu,lv]
theorem SAt.rowOther {w:World} {g k:Nat} {x:Sp} (h:SAt w g x) (hk:g≠k) (c:Array Value):SAt (w.setRow k c) g x:=⟨(setRow_other w k g c hk).trans h.at_⟩
theorem TAt.rowOther {w:World} {g k:Nat} {x:Stp} (h:TAt w g x) (hk:g≠k) (c:Array Value):TAt (w.setRow k c) g x:=⟨(setRow_other w k g c hk).trans h.at_⟩
theorem SAt.setOther {w:World} {g k i:Nat} {x:Sp} (h:SAt w g x) (hk:g≠k) (u:Value):SAt (w.setCell ⟨k,i,none⟩ u) g x:=⟨(heap_setCell_other w _ g u (fun e=>hk e)).trans h.at_⟩
theorem TAt.setOther {w:World} {g k i:Nat} {x:Stp} (h:TAt w g x) (hk:g≠k) (u:Value):TAt (w.setCell ⟨k,i,none⟩ u) g x:=⟨(heap_setCell_other w _ g u (fun e=>hk e)).trans h.at_⟩
theorem TAt.frozen {w:World} {g:Nat} {x:Stp} (h:TAt w g x) (k:Nat):w.frozen? ⟨g,k,none⟩=false:=frozen_of_row w g k _ _ h.at_
theorem take_bt_q0 {ops:Array Oper} {S:World→Prop} {op:Oper} {a:Act} (hw:Region.wanted op (yielded ops a.tmps)=true) (ho:op.op=.build 28 #[]):YieldsIf Tryz.prog ops S op (qv Zt) a :=
 .inl ⟨hw,fun w _=>by
  have hr:(Instr.build 28 ((#[]:Array (Nat × Operand)).map fun (i,x)=>(i,a.eval x))).run Tryz.prog w=.ok (qv Zt) w:=run_build w 28 _ _ ((congrArg _ (show ((#[]:Array (Nat × Operand)).map fun (i,x)=>(i,a.eval x)).toList=[] by simp)).trans bt_q0)
  unfold execOp
  simp only [ho,Sem.run_bind,hr,Result.andThen_ok,Sem.run_pure]⟩
theorem take_bt_sa {ops:Array Oper} {S:World→Prop} {op:Oper} {a:Act} (hw:Region.wanted op (yielded ops a.tmps)=true) (x0:Operand) (ho:op.op=.build 64 #[(0,x0)]) (i:Int) (h0:a.eval x0=.int .i64 i):YieldsIf Tryz.prog ops S op (sv ⟨i,0,0⟩) a :=
 .inl ⟨hw,fun w _=>by
  have hr:(Instr.build 64 ((#[(0,x0)]:Array (Nat × Operand)).map fun (i,x)=>(i,a.eval x))).run Tryz.prog w=.ok (sv ⟨i,0,0⟩) w:=run_build w 64 _ _ (by rw [show ((#[(0,x0)]:Array (Nat × Operand)).map fun (i,x)=>(i,a.eval x)).toList=[(0,.int .i64 i)] by simp [h0]];exact bt_sa i)
  unfold execOp
  simp only [ho,Sem.run_bind,hr,Result.andThen_ok,Sem.run_pure]⟩
structure RdQ (w x:World):Prop where
 k:Kept w x
 t:∃ s,TAt x w.heap.size s
 e:∃ y,SAt x (w.heap.size+1) y
theorem RdQ.kept {w x x':World} (h:RdQ w x) (k:Kept x x'):RdQ w x':=by
 obtain ⟨h1,⟨s,h2⟩,⟨y,h3⟩⟩:=h
 exact ⟨h1.trans k,⟨s,h2.kept k⟩,⟨y,h3.kept k⟩⟩
theorem RdQ.rowT {w x:World} (h:RdQ w x) (s:Stp):RdQ w (x.setRow w.heap.size (ql s).toArray)∧TAt (x.setRow w.heap.size (ql s).toArray) w.heap.size s:=by
 obtain ⟨h1,⟨s0,h2⟩,⟨y,h3⟩⟩:=h
 exact ⟨⟨h1.setRow (by omega) _,⟨s,h2.row s⟩,⟨y,h3.rowOther (by omega) _⟩⟩,h2.row s⟩
theorem RdQ.rowE {w x:World} (h:RdQ w x) (y:Sp):RdQ w (x.setRow (w.heap.size+1) (sl y).toArray)∧SAt (x.setRow (w.heap.size+1) (sl y).toArray) (w.heap.size+1) y:=by
 obtain ⟨h1,⟨s0,h2⟩,⟨y0,h3⟩⟩:=h
 exact ⟨⟨h1.setRow (by omega) _,⟨s0,h2.rowOther (by omega) _⟩,⟨y,h3.row y⟩⟩,h3.row y⟩
theorem RdQ.hi {w x:World} (h:RdQ w x):w.heap.size+1<x.heap.size:=by
 obtain ⟨_,_,⟨y,h3⟩⟩:=h
 exact lt_of_heap h3.at_
theorem one_ok {t:ByteArray} {i:Int} (h:(oneP t hdT i).e=0):∃ (j:Nat) (p:Int × Int),(oneP t hdT i).n=j∧hdL[j]?=some p:=by
 by_cases hi:inB t i=true
 ·obtain ⟨a,rfl,ha⟩:=inB_yes hi
  rw [oneP_yes hi hd_apart] at h ⊢
  by_cases hp:∃ p ∈ hdL,opL p <+: (bs t).drop a
  ·obtain ⟨p,hp,hpre⟩:=hp
   obtain ⟨j,hj,ho⟩:=one_first hp hpre
   exact ⟨j,p,by rw [ho],hj⟩
  ·exfalso
   obtain ⟨mx,h1,_⟩:=oneGo_none t.size a ((bs t).drop a) hdT 0 0 (by
    intro w hw e
    obtain ⟨p,hp',rfl⟩:=hdT_mem hw
    rw [opT_bs,opT_size] at e
    exact hp ⟨p,hp',(cmn_full _ _).1 e⟩)
   rw [h1] at h
   exact stk_e _ _ h
 ·exfalso
  rw [oneP_no (fun x=>hi x.1)] at h
  revert h;decide
theorem hd_sizes (j:Nat) (x:ByteArray) (h:hdT[j]?=some x):x.size≤1000:=by
 obtain ⟨p,hp,rfl⟩:=hdT_mem (List.mem_of_getElem? h)
 have:=opT_sz p.1 p.2
 omega
theorem TAt.setN {w:World} {g:Nat} {s:Stp} (h:TAt w g s) (n:Int):TAt (w.setCell ⟨g,2,none⟩ (.int .i64 n)) g ⟨s.k,s.g,n,s.h⟩:=by
 refine ⟨?_⟩
 rw [heap_setCell_same w g 2 _ _ _ h.at_]
 rfl
theorem TAt.setH {w:World} {g:Nat} {s:Stp} (h:TAt w g s) (b:Bool):TAt (w.setCell ⟨g,3,none⟩ (.bool b)) g ⟨s.k,s.g,s.n,b⟩:=by
 refine ⟨?_⟩
 rw [heap_setCell_same w g 3 _ _ _ h.at_]
 rfl
theorem RdQ.set {w x:World} (h:RdQ w x) {g:Nat} (hg:w.heap.size+1<g) (k:Nat) (u:Value):RdQ w (x.setCell ⟨g,k,none⟩ u):=by
 obtain ⟨h1,⟨s,h2⟩,⟨y,h3⟩⟩:=h
 exact ⟨h1.setCell (by show w.heap.size≤g;omega) u,⟨s,h2.setOther (by omega) u⟩,⟨y,h3.setOther (by omega) u⟩⟩
theorem wp_new_sp {o:Oper} {a:Act} {w:World} {K:Act→World→Prop} {Q:Exit→Act→World→Prop} (ho:o.op=.alloc 64)
  (h:K (a.put o.dst (.pointer (some ⟨w.heap.size,0,none⟩))) (w.alloc (.cells (sl Zs).toArray 64))):o.wp Tryz.prog a w K Q:=by
 unfold Oper.wp execOp
 simp only [ho,Instr.alloc,Sem.run_bind,run_zero_sp,Result.andThen_ok,newVar,newRow,Value.cells]
 exact h
def RetQ (w:World) (x:Stp × Sp) (e:Ending) (w':World):Prop:=e=.returned (.tuple #[qv x.1,sv x.2])∧Kept w w'
theorem SAt.at0 {w:World} {g:Nat} {x:Sp} (h:SAt w g x):w.cell? ⟨g,0,none⟩=some (.int .i64 x.a):=by
 rw [cell_of_row _ _ 0 _ _ (0,0) h.at_];rfl
theorem SAt.at1 {w:World} {g:Nat} {x:Sp} (h:SAt w g x):w.cell? ⟨g,1,none⟩=some (.int .i64 x.n):=by
 rw [cell_of_row _ _ 1 _ _ (0,0) h.at_];rfl
theorem read_bad (t:ByteArray) (i:Int) (ht:t.size≤1000) (he:(oneP t hdT i).e≠0) (w:World) (hT:TabS w):Calls Tryz.prog 77 #[.string t,.int .i64 i] w (RetQ w (rdP t i)):=by
 have HE:Hid (rdP t i=(Zt,oneP t hdT i)):=Qh (by unfold rdP rdO;rw [if_pos he])
 have HOne:=Qh (fun v w hv=>oneOf_is t i hdT v w hv ht (by decide) hd_sizes)
 have hb:((oneP t hdT i).e != 0)=true:=bne_iff_ne.2 he
 generalize oneP t hdT i=o at *
 have HT:=Qh hT
 have HK:=Qh (((Kept.refl w).alloc (.cells (ql Zt).toArray 28)).alloc (.cells (sl Zs).toArray 64))
 have HRd:Hid (RdQ w ((w.alloc (.cells (ql Zt).toArray 28)).alloc (.cells (sl Zs).toArray 64))):=Qh ⟨HK.out,⟨Zt,(TAt.new w Zt).kept ((Kept.refl _).alloc _)⟩,⟨Zs,by have:=SAt.new (w.alloc (.cells (ql Zt).toArray 28)) Zs;rwa [World.size_alloc] at this⟩⟩
 clear he hT
 go_enter Tryz.func77,Tryz.ntmps77
 go_wp2_with (first|(with_reducible refine wpList_new_q rfl rfl ?_)|(with_reducible refine wpList_new_sp rfl rfl ?_))
 refine (openings_is _).mono ?_
 rintro e w1 ⟨v,rfl,ho,k1⟩
 obtain ⟨g6,hl,hg6⟩:=ho.ls (by decide)
 have HL:=Qh hl
 have HRd1:=Qh (HRd.out.kept k1)
 clear k1 ho hl
 go_wp2_with fail
 refine (words_is v g6 _ HL.out (HT.out.kept HRd1.out.k)).mono ?_
 rintro e w2 ⟨v2,rfl,hx,k2⟩
 have HX:=Qh (hx.ls (by decide))
 have HRd2:=Qh (HRd1.out.kept k2)
 clear k2 hx
 go_wp2_with fail
 refine (HOne.out v2 _ HX.out).mono ?_
 rintro e w3 ⟨rfl,k3⟩
 have HRd7:=Qh ((HRd2.out.kept k3).kept ((Kept.refl w3).alloc (.cells (sl o).toArray 64)))
 have Hg7:=Qh (HRd2.out.kept k3).hi
 have HS7:=Qh (SAt.new w3 o)
 have hc7:=HS7.out.err
 clear k3
 go_wp2_with (first|(with_reducible refine wpList_new_sp rfl rfl ?_)|((with_reducible refine wpList_store_newsp rfl _ _ rfl Zs o ?_ ?_ ?_);exact rfl;exact rfl))
 generalize w3.alloc (.cells (sl o).toArray 64)=W7 at *
 generalize w3.heap.size=g7 at *
 clear hc7
 refine wp_region_held_drew (S:=(fun x=>RdQ w x∧SAt x g7 o)) (by kernel_rfl) ⟨(HRd7.out).kept (Kept.refl _).drew,(HS7.out).kept (Kept.refl _).drew⟩ (fun Qj=>?_)
 refine rY 0 20 rfl rfl (take_bt_q0 (by rfl) rfl) Qj ?_
 simp only [pA,pN,sZ,sU]
 refine rY 1 21 rfl rfl (take_load_sp (by rfl) _ rfl g7 0 rfl o (fun _ h=>SAt.range h.2)) Qj ?_
 simp only [pA,pN,sZ,sU]
 refine rR 2 rfl (fun K hK=>?_)
 rw [if_pos (by rfl)]
 obtain ⟨s0,hs0⟩:=Qj.1.t
 refine wp_store_row 28 _ _ rfl w.heap.size (ql Zt).toArray rfl rfl 28 _ hs0.at_ (ql_sz _) rfl (ql_one _) ?_
 have hT1:=Qj.1.rowT Zt
 refine hK.out _ _ ⟨hT1.1,SAt.rowOther Qj.2 (by have:=Hg7.out;omega) _⟩ (fun Qj=>?_)
 clear hK K
 refine rR 3 rfl (fun K hK=>?_)
 rw [if_pos (by rfl)]
 obtain ⟨y0,hy0⟩:=Qj.1.e
 refine wp_store_row 64 _ _ rfl (w.heap.size+1) (sl o).toArray rfl rfl 64 _ hy0.at_ (sl_sz _) rfl (sl_one _) ?_
 have hE1:=Qj.1.rowE o
 have hT2:=hT1.2.rowOther (k:=w.heap.size+1) (by omega) (sl o).toArray
 refine hK.out _ _ ⟨hE1.1,SAt.rowOther Qj.2 (by have:=Hg7.out;omega) _⟩ (fun Qj=>?_)
 clear hK K
 refine wpAnyH_done (by kernel_rfl) ?_ _
 have HE1:=Qh hE1
 have HT2:=Qh hT2
 clear hE1 hT2 hT1 Qj
 go_wp2
 refine bodyPost_ret (v:=.tuple #[qv Zt,sv o]) ?_ rfl ⟨by rw [HE.out],HE1.out.1.k⟩
 exact results_qs rfl _ rfl rfl HT2.out HE1.out.2
theorem read_good (t:ByteArray) (i:Int) (ht:t.size≤1000) (he:(oneP t hdT i).e=0) (w:World) (hT:TabS w):Calls Tryz.prog 77 #[.string t,.int .i64 i] w (RetQ w (rdP t i)):=by
 obtain ⟨j,p,hj,hp⟩:=one_ok he
 obtain ⟨s,hs⟩:∃ s:Stp,s=⟨p.1,p.2,0,false⟩:=⟨_,rfl⟩
 have hsj:hdS[j]?=some s:=by rw [hs];exact hdS_get hp
 have HE0:Hid (rdP t i=rdV t s (numP t (oneP t hdT i).a (lstI (decide (s.k=5))) 64)):=Qh (by
  unfold rdP rdO
  rw [if_neg (by rw [he];simp),hj,show ((j:Int)).toNat=j from rfl,hdS_at hp,hs])
 have HOne:=Qh (fun v w hv=>oneOf_is t i hdT v w hv ht (by decide) hd_sizes)
 have hb:((oneP t hdT i).e != 0)=false:=by rw [he];rfl
 generalize oneP t hdT i=o at *
 have HNum:=Qh (fun w=>number_is t o.a (lstI (decide (s.k=5))) 64 ht w)
 generalize numP t o.a (lstI (decide (s.k=5))) 64=u at *
 have HT:=Qh hT
 have HSJ:=Qh hsj
 have hj15:(j:Int)<15:=by
  obtain ⟨h,_⟩:=List.getElem?_eq_some_iff.1 hp
  have:hdL.length=15:=rfl
  omega
 have HJ:=Qh hj
 have HK:=Qh (((Kept.refl w).alloc (.cells (ql Zt).toArray 28)).alloc (.cells (sl Zs).toArray 64))
 have HRd:Hid (RdQ w ((w.alloc (.cells (ql Zt).toArray 28)).alloc (.cells (sl Zs).toArray 64))):=Qh ⟨HK.out,⟨Zt,(TAt.new w Zt).kept ((Kept.refl _).alloc _)⟩,⟨Zs,by have:=SAt.new (w.alloc (.cells (ql Zt).toArray 28)) Zs;rwa [World.size_alloc] at this⟩⟩
 clear he hT hs hsj hj hp
 go_enter Tryz.func77,Tryz.ntmps77
 go_wp2_with (first|(with_reducible refine wpList_new_q rfl rfl ?_)|(with_reducible refine wpList_new_sp rfl rfl ?_))
 refine (openings_is _).mono ?_
 rintro e w1 ⟨v,rfl,ho,k1⟩
 obtain ⟨g6,hl,hg6⟩:=ho.ls (by decide)
 have HL:=Qh hl
 obtain ⟨off,cap,rfl,hc1,hc2,hr⟩:=hl
 rw [show hdS.length=15 from rfl] at HL ⊢
 have HR:=Qh hr
 have HRd1:=Qh (HRd.out.kept k1)
 clear k1 ho hr hc1 hc2
 go_wp2_with fail
 refine (words_is _ g6 _ HL.out (HT.out.kept HRd1.out.k)).mono ?_
 rintro e w2 ⟨v2,rfl,hx,k2⟩
 have HX:=Qh (hx.ls (by decide))
 have HRd2:=Qh (HRd1.out.kept k2)
 go_wp2_with fail
 refine (HOne.out v2 _ HX.out).mono ?_
 rintro e w3 ⟨rfl,k3⟩
 have HRd7:=Qh ((HRd2.out.kept k3).kept ((Kept.refl w3).alloc (.cells (sl o).toArray 64)))
 have HK13:=Qh ((k2.trans k3).alloc (.cells (sl o).toArray 64))
 have Hg7:=Qh (HRd2.out.kept k3).hi
 have HS7:=Qh (SAt.new w3 o)
 have hc7:=HS7.out.err
 clear k2 k3 hx
 have hc7n:=HS7.out.at1
 rw [HJ.out] at hc7n
 have HR7:Hid ((w3.alloc (.cells (sl o).toArray 64)).rangeAt g6 (off+j*4) (ql s)):=Qh (by
  rw [Nat.mul_comm]
  intro k u hu
  exact kept_cell HK13.out (range_q HR.out HSJ.out k u hu))
 obtain ⟨W7,eW7⟩:∃ W7,W7=w3.alloc (.cells (sl o).toArray 64):=⟨_,rfl⟩
 have HRd8:Hid (RdQ w ((w3.alloc (.cells (sl o).toArray 64)).alloc (.cells (ql s).toArray 28))):=Qh (HRd7.out.kept ((Kept.refl _).alloc _))
 have HS78:Hid (SAt ((w3.alloc (.cells (sl o).toArray 64)).alloc (.cells (ql s).toArray 28)) w3.heap.size o):=Qh (HS7.out.kept ((Kept.refl _).alloc _))
 have HT8:=Qh (TAt.new (w3.alloc (.cells (sl o).toArray 64)) s)
 clear eW7 W7
 go_upto_region 6 with (first|(with_reducible refine wpList_new_sp rfl rfl ?_)|((with_reducible refine wpList_store_newsp rfl _ _ rfl Zs o ?_ ?_ ?_);exact rfl;exact rfl)|((with_reducible refine wpList_load_q rfl _ rfl g6 (off+j*4) ?_ s HR7.out ?_);exact rfl)|(with_reducible refine wpList_new_q rfl rfl ?_)|((with_reducible refine wpList_store_newq rfl _ _ rfl Zt s ?_ ?_ ?_);exact rfl;exact rfl))
 have Hg8:Hid (w.heap.size+1<(w3.alloc (.cells (sl o).toArray 64)).heap.size):=Qh (by have:=Hg7.out;simp;omega)
 generalize (w3.alloc (.cells (sl o).toArray 64)).alloc (.cells (ql s).toArray 28)=W8 at *
 generalize (w3.alloc (.cells (sl o).toArray 64)).heap.size=g8 at *
 generalize w3.heap.size=g7 at *
 have Hlt8:Hid (g8<W8.heap.size):=Qh (lt_of_heap HT8.out.at_)
 clear hc7 hc7n HRd7 HK13 HS7 HR7
 simp only [pA,pN,sZ,sU]
 go_cut [9] from 10 (fun s9 wc=>∃ g9,s9=.pointer (some ⟨g9,0,none⟩)∧SAt wc g9 u∧Kept W8 wc∧W8.heap.size≤g9)
 case first =>
  go_wp2_with fail
  refine wp_region_held_drew (S:=Kept _) (by kernel_rfl) (Kept.refl _).drew (fun Qj=>?_)
  refine rT 0 27 (.string t) rfl rfl Qj ?_
  simp only [pA,pN,sZ,sU]
  refine rT 1 28 (.pointer (some ⟨g7,0,none⟩)) rfl rfl Qj ?_
  simp only [pA,pN,sZ,sU]
  refine rC 2 29 (.int .i64 o.a) rfl rfl (fun _ h=>kept_cell h ((HS78.out.at0))) Qj ?_
  simp only [pA,pN,sZ,sU]
  refine rY 3 30 rfl rfl (take_load_q (by rfl) _ rfl g8 0 rfl s (fun _ h=>TAt.range (TAt.kept (HT8.out) h))) Qj ?_
  simp only [pA,pN,sZ,sU]
  refine wpAnyH_ready (rs:=[4,6]) (by kernel_rfl) (by simp) ?_
  refine AllReadyH.cons rfl (fun K hK=>?_) (AllReadyH.cons rfl (fun K hK=>?_) AllReadyH.nil)
  ·go_simp
   refine (least_is s _).mono ?_
   rintro e x4 ⟨rfl,k4⟩
   refine hK.out _ _ (Qj.trans k4) (fun _=>?_)
   replace Qj:=Qj.trans k4
   clear hK K k4
   refine wpAnyH_ready (rs:=[5,6]) (by kernel_rfl) (by simp) ?_
   refine AllReadyH.cons rfl (fun K hK=>?_) (AllReadyH.cons rfl (fun K hK=>?_) AllReadyH.nil)
   ·go_simp
    refine (HNum.out _).mono ?_
    rintro e x5 ⟨rfl,k5⟩
    refine hK.out _ _ (Qj.trans k5) (fun _=>?_)
    replace Qj:=Qj.trans k5
    clear hK K k5
    refine rR 6 rfl (fun K hK=>?_)
    rw [if_pos (by rfl)]
    refine wp_new_sp rfl ?_
    refine hK.out _ _ (Qj.alloc _) (fun _=>?_)
    clear hK K
    have hS9:=SAt.new x5 Zs
    have hlo:=Qj.size
    replace Qj:=Qj.alloc (.cells (sl Zs).toArray 64)
    generalize x5.alloc (.cells (sl Zs).toArray 64)=y5 at *
    generalize x5.heap.size=g9 at *
    refine rR 7 rfl (fun K hK=>?_)
    rw [if_pos (by rfl)]
    refine wp_store_row 64 _ _ rfl g9 (sl u).toArray rfl rfl 64 _ hS9.at_ (sl_sz _) rfl (sl_one _) ?_
    refine hK.out _ _ (Qj.setRow hlo _) (fun _=>?_)
    clear hK K
    refine wpAnyH_done (by kernel_rfl) ?_ _
    go_wp2
    go_meet
    case rel=>exact ⟨g9,rfl,hS9.row u,Qj.setRow hlo _,hlo⟩
   ·skip
    rw [if_pos (by rfl)]
    refine wp_new_sp rfl ?_
    refine hK.out _ _ (Qj.alloc _) (fun _=>?_)
    clear hK K
    have hS9:=SAt.new x4 Zs
    have hlo:=Qj.size
    replace Qj:=Qj.alloc (.cells (sl Zs).toArray 64)
    generalize x4.alloc (.cells (sl Zs).toArray 64)=y5 at *
    generalize x4.heap.size=g9 at *
    refine rR 5 rfl (fun K hK=>?_)
    go_simp
    refine (HNum.out _).mono ?_
    rintro e x5 ⟨rfl,k5⟩
    refine hK.out _ _ (Qj.trans k5) (fun _=>?_)
    replace Qj:=Qj.trans k5
    replace hS9:=hS9.kept k5
    clear hK K k5
    refine rR 7 rfl (fun K hK=>?_)
    rw [if_pos (by rfl)]
    refine wp_store_row 64 _ _ rfl g9 (sl u).toArray rfl rfl 64 _ hS9.at_ (sl_sz _) rfl (sl_one _) ?_
    refine hK.out _ _ (Qj.setRow hlo _) (fun _=>?_)
    clear hK K
    refine wpAnyH_done (by kernel_rfl) ?_ _
    go_wp2
    go_meet
    case rel=>exact ⟨g9,rfl,hS9.row u,Qj.setRow hlo _,hlo⟩
  ·skip
   rw [if_pos (by rfl)]
   refine wp_new_sp rfl ?_
   refine hK.out _ _ (Qj.alloc _) (fun _=>?_)
   clear hK K
   have hS9:=SAt.new W8.drew Zs
   have hlo:=Qj.size
   replace Qj:=Qj.alloc (.cells (sl Zs).toArray 64)
   generalize W8.drew.alloc (.cells (sl Zs).toArray 64)=y5 at *
   generalize W8.drew.heap.size=g9 at *
   refine rR 4 rfl (fun K hK=>?_)
   go_simp
   refine (least_is s _).mono ?_
   rintro e x4 ⟨rfl,k4⟩
   refine hK.out _ _ (Qj.trans k4) (fun _=>?_)
   replace Qj:=Qj.trans k4
   replace hS9:=hS9.kept k4
   clear hK K k4
   refine rR 5 rfl (fun K hK=>?_)
   go_simp
   refine (HNum.out _).mono ?_
   rintro e x5 ⟨rfl,k5⟩
   refine hK.out _ _ (Qj.trans k5) (fun _=>?_)
   replace Qj:=Qj.trans k5
   replace hS9:=hS9.kept k5
   clear hK K k5
   refine rR 7 rfl (fun K hK=>?_)
   rw [if_pos (by rfl)]
   refine wp_store_row 64 _ _ rfl g9 (sl u).toArray rfl rfl 64 _ hS9.at_ (sl_sz _) rfl (sl_one _) ?_
   refine hK.out _ _ (Qj.setRow hlo _) (fun _=>?_)
   clear hK K
   refine wpAnyH_done (by kernel_rfl) ?_ _
   go_wp2
   go_meet
   case rel=>exact ⟨g9,rfl,hS9.row u,Qj.setRow hlo _,hlo⟩
 case rest =>
  obtain ⟨g9,rfl,h9,k9,lo9⟩:=hcut
  have HRd9:=Qh (HRd8.out.kept k9)
  have HT8w:=Qh (HT8.out.kept k9)
  have HS9:=Qh h9
  have Hg9:Hid (w.heap.size+1<g9):=Qh (by have:=Hg8.out;have:=Hlt8.out;omega)
  have Hne:Hid (g9≠g8):=Qh (by have:=Hlt8.out;omega)
  have hc9:=HS9.out.err
  clear h9 k9 lo9 HRd8 HS78 HT8
  by_cases hu:u.e≠0
  ·have HE:Hid (rdP t i=(Zt,u)):=Qh (HE0.out.trans (by unfold rdV;rw [if_pos hu]))
   have hbu:(u.e != 0)=true:=bne_iff_ne.2 hu
   clear hu
   go_wp2_with fail
   refine wp_region_held_drew (S:=(fun x=>RdQ w x∧SAt x g9 u)) (by kernel_rfl) ⟨(HRd9.out).kept (Kept.refl _).drew,(HS9.out).kept (Kept.refl _).drew⟩ (fun Qj=>?_)
   refine rY 0 36 rfl rfl (take_bt_q0 (by rfl) rfl) Qj ?_
   simp only [pA,pN,sZ,sU]
   refine rY 1 37 rfl rfl (take_load_sp (by rfl) _ rfl g9 0 rfl u (fun _ h=>SAt.range h.2)) Qj ?_
   simp only [pA,pN,sZ,sU]
   refine rR 2 rfl (fun K hK=>?_)
   rw [if_pos (by rfl)]
   obtain ⟨s0,hs0⟩:=Qj.1.t
   refine wp_store_row 28 _ _ rfl w.heap.size (ql Zt).toArray rfl rfl 28 _ hs0.at_ (ql_sz _) rfl (ql_one _) ?_
   have hT1:=Qj.1.rowT Zt
   refine hK.out _ _ ⟨hT1.1,SAt.rowOther Qj.2 (by have:=Hg9.out;omega) _⟩ (fun Qj=>?_)
   clear hK K
   refine rR 3 rfl (fun K hK=>?_)
   rw [if_pos (by rfl)]
   obtain ⟨y0,hy0⟩:=Qj.1.e
   refine wp_store_row 64 _ _ rfl (w.heap.size+1) (sl u).toArray rfl rfl 64 _ hy0.at_ (sl_sz _) rfl (sl_one _) ?_
   have hE1:=Qj.1.rowE u
   have hT2:=hT1.2.rowOther (k:=w.heap.size+1) (by omega) (sl u).toArray
   refine hK.out _ _ ⟨hE1.1,SAt.rowOther Qj.2 (by have:=Hg9.out;omega) _⟩ (fun Qj=>?_)
   clear hK K
   refine wpAnyH_done (by kernel_rfl) ?_ _
   have HE1:=Qh hE1
   have HT2:=Qh hT2
   clear hE1 hT2 hT1 Qj
   go_wp2
   refine bodyPost_ret (v:=.tuple #[qv Zt,sv u]) ?_ rfl ⟨by rw [HE.out],HE1.out.1.k⟩
   exact results_qs rfl _ rfl rfl HT2.out HE1.out.2
  ·have hu0:u.e=0:=by simpa using hu
   have HE1:Hid (rdP t i=if goB ⟨s.k,s.g,u.n,s.h⟩ t u.a=true then rdW ⟨s.k,s.g,u.n,s.h⟩ (wordP t hfT u.a) else (⟨s.k,s.g,u.n,s.h⟩,⟨u.a,0,0⟩)):=Qh (HE0.out.trans (by unfold rdV;rw [if_neg hu]))
   have hbu:(u.e != 0)=false:=by rw [hu0];rfl
   have hc9a:=HS9.out.at0
   have hc9n:=HS9.out.at1
   have hc8n:=HT8w.out.n
   have hf8:=HT8w.out.frozen 2
   have HT8:=Qh (HT8w.out.setN u.n)
   have HRdn:=Qh (HRd9.out.set Hg8.out 2 (.int .i64 u.n))
   have HS9n:=Qh (HS9.out.setOther (i:=2) Hne.out (.int .i64 u.n))
   have hc9a':=HS9n.out.at0
   have HGo:=Qh (fun w=>goesOn_is ⟨s.k,s.g,u.n,s.h⟩ t u.a ht w)
   clear hu hu0 HE0 HT8w HRd9 HS9
   obtain ⟨s1,hs1⟩:∃ s1:Stp,(⟨s.k,s.g,u.n,s.h⟩:Stp)=s1:=⟨_,rfl⟩
   rw [hs1] at HE1 HT8 HGo
   have HS1:=Qh hs1
   clear hs1
   go_wp2_with ((with_reducible refine wpList_load_q rfl _ rfl g8 0 ?_ s1 HT8.out.range ?_);exact rfl)
   refine (HGo.out _).mono ?_
   generalize goB s1 t u.a=b at *
   rintro e x10 ⟨rfl,k10⟩
   have HRd9:=Qh (HRdn.out.kept k10)
   have HS9:=Qh (HS9n.out.kept k10)
   have HT8x:=Qh (HT8.out.kept k10)
   have hc9b:=HS9.out.at0
   clear k10 HT8 HRdn HS9n hc9 hc9a hc9n hc8n hf8 hc9a'
   cases b
   ·have HE:Hid (rdP t i=(s1,⟨u.a,0,0⟩)):=Qh (HE1.out.trans (if_neg (by simp)))
    have HT8:=HT8x
    clear HE1 HT8x
    go_wp2_with fail
    refine wp_region_held_drew (S:=(fun x=>RdQ w x∧TAt x g8 s1∧SAt x g9 u)) (by kernel_rfl) ⟨(HRd9.out).kept (Kept.refl _).drew,(HT8.out).kept (Kept.refl _).drew,(HS9.out).kept (Kept.refl _).drew⟩ (fun Qj=>?_)
    refine rY 0 47 rfl rfl (take_load_q (by rfl) _ rfl g8 0 rfl s1 (fun _ h=>TAt.range h.2.1)) Qj ?_
    simp only [pA,pN,sZ,sU]
    refine rT 1 48 (.pointer (some ⟨g9,0,none⟩)) rfl rfl Qj ?_
    simp only [pA,pN,sZ,sU]
    refine rC 2 49 (.int .i64 u.a) rfl rfl (fun _ h=>SAt.at0 h.2.2) Qj ?_
    simp only [pA,pN,sZ,sU]
    refine rY 3 50 rfl rfl (take_bt_sa (by rfl) _ rfl u.a rfl) Qj ?_
    simp only [pA,pN,sZ,sU]
    refine rR 4 rfl (fun K hK=>?_)
    rw [if_pos (by rfl)]
    obtain ⟨s0,hs0⟩:=Qj.1.t
    refine wp_store_row 28 _ _ rfl w.heap.size (ql s1).toArray rfl rfl 28 _ hs0.at_ (ql_sz _) rfl (ql_one _) ?_
    have hT1:=Qj.1.rowT s1
    refine hK.out _ _ ⟨hT1.1,TAt.rowOther Qj.2.1 (by have:=Hg8.out;omega) _,SAt.rowOther Qj.2.2 (by have:=Hg9.out;omega) _⟩ (fun Qj=>?_)
    clear hK K
    refine rR 5 rfl (fun K hK=>?_)
    rw [if_pos (by rfl)]
    obtain ⟨y0,hy0⟩:=Qj.1.e
    refine wp_store_row 64 _ _ rfl (w.heap.size+1) (sl ⟨u.a,0,0⟩).toArray rfl rfl 64 _ hy0.at_ (sl_sz _) rfl (sl_one _) ?_
    have hE1:=Qj.1.rowE ⟨u.a,0,0⟩
    have hT2:=hT1.2.rowOther (k:=w.heap.size+1) (by omega) (sl ⟨u.a,0,0⟩).toArray
    refine hK.out _ _ ⟨hE1.1,TAt.rowOther Qj.2.1 (by have:=Hg8.out;omega) _,SAt.rowOther Qj.2.2 (by have:=Hg9.out;omega) _⟩ (fun Qj=>?_)
    clear hK K
    refine wpAnyH_done (by kernel_rfl) ?_ _
    have HE1:=Qh hE1
    have HT2:=Qh hT2
    clear hE1 hT2 hT1 Qj
    go_wp2
    refine bodyPost_ret (v:=.tuple #[qv s1,sv ⟨u.a,0,0⟩]) ?_ rfl ⟨by rw [HE.out],HE1.out.1.k⟩
    exact results_qs rfl _ rfl rfl HT2.out HE1.out.2
   ·have HE2:Hid (rdP t i=rdW s1 (wordP t hfT u.a)):=Qh (HE1.out.trans (if_pos rfl))
    have HWd:=Qh (fun w=>word_is t hfT u.a ht (by decide) w)
    clear HE1
    generalize wordP t hfT u.a=y at *
    go_wp2_with fail
    refine (HWd.out _).mono ?_
    rintro e x12 ⟨rfl,k12⟩
    have HRdA:=Qh ((HRd9.out.kept k12).kept ((Kept.refl x12).alloc (.cells (sl y).toArray 64)))
    have HgA:=Qh (HRd9.out.kept k12).hi
    have HSA:=Qh (SAt.new x12 y)
    have HT8y:=Qh ((HT8x.out.kept k12).kept ((Kept.refl x12).alloc (.cells (sl y).toArray 64)))
    have HneA:Hid (x12.heap.size≠g8):=Qh (by have:=lt_of_heap (HT8x.out.kept k12).at_;omega)
    have hcA:=HSA.out.err
    have hc8h:=HT8y.out.h
    have hf8:=HT8y.out.frozen 3
    clear k12 HT8x HRd9
    by_cases hy:y.e≠0
    ·have HE:Hid (rdP t i=(Zt,y)):=Qh (HE2.out.trans (by unfold rdW;rw [if_pos hy]))
     have hby:(y.e != 0)=true:=bne_iff_ne.2 hy
     clear hy HE2
     go_wp2_with (first|(with_reducible refine wpList_new_sp rfl rfl ?_)|((with_reducible refine wpList_store_newsp rfl _ _ rfl Zs y ?_ ?_ ?_);exact rfl;exact rfl))
     generalize x12.alloc (.cells (sl y).toArray 64)=WA at *
     generalize x12.heap.size=gA at *
     refine wp_region_held_drew (S:=(fun x=>RdQ w x∧SAt x gA y)) (by kernel_rfl) ⟨(HRdA.out).kept (Kept.refl _).drew,(HSA.out).kept (Kept.refl _).drew⟩ (fun Qj=>?_)
     refine rY 0 58 rfl rfl (take_bt_q0 (by rfl) rfl) Qj ?_
     simp only [pA,pN,sZ,sU]
     refine rY 1 59 rfl rfl (take_load_sp (by rfl) _ rfl gA 0 rfl y (fun _ h=>SAt.range h.2)) Qj ?_
     simp only [pA,pN,sZ,sU]
     refine rR 2 rfl (fun K hK=>?_)
     rw [if_pos (by rfl)]
     obtain ⟨s0,hs0⟩:=Qj.1.t
     refine wp_store_row 28 _ _ rfl w.heap.size (ql Zt).toArray rfl rfl 28 _ hs0.at_ (ql_sz _) rfl (ql_one _) ?_
     have hT1:=Qj.1.rowT Zt
     refine hK.out _ _ ⟨hT1.1,SAt.rowOther Qj.2 (by have:=HgA.out;omega) _⟩ (fun Qj=>?_)
     clear hK K
     refine rR 3 rfl (fun K hK=>?_)
     rw [if_pos (by rfl)]
     obtain ⟨y0,hy0⟩:=Qj.1.e
     refine wp_store_row 64 _ _ rfl (w.heap.size+1) (sl y).toArray rfl rfl 64 _ hy0.at_ (sl_sz _) rfl (sl_one _) ?_
     have hE1:=Qj.1.rowE y
     have hT2:=hT1.2.rowOther (k:=w.heap.size+1) (by omega) (sl y).toArray
     refine hK.out _ _ ⟨hE1.1,SAt.rowOther Qj.2 (by have:=HgA.out;omega) _⟩ (fun Qj=>?_)
     clear hK K
     refine wpAnyH_done (by kernel_rfl) ?_ _
     have HE1:=Qh hE1
     have HT2:=Qh hT2
     clear hE1 hT2 hT1 Qj
     go_wp2
     refine bodyPost_ret (v:=.tuple #[qv Zt,sv y]) ?_ rfl ⟨by rw [HE.out],HE1.out.1.k⟩
     exact results_qs rfl _ rfl rfl HT2.out HE1.out.2
    ·have hy0:y.e=0:=by simpa using hy
     have HE:Hid (rdP t i=(⟨s1.k,s1.g,s1.n,true⟩,y)):=Qh (HE2.out.trans (by unfold rdW;rw [if_neg hy]))
     have hby:(y.e != 0)=false:=by rw [hy0];rfl
     clear hy hy0 HE2
     have HT8:=Qh (HT8y.out.setH true)
     have HRdA2:=Qh (HRdA.out.set Hg8.out 3 (.bool true))
     have HSA2:=Qh (HSA.out.setOther (i:=3) HneA.out (.bool true))
     obtain ⟨s2,hs2⟩:∃ s2:Stp,(⟨s1.k,s1.g,s1.n,true⟩:Stp)=s2:=⟨_,rfl⟩
     rw [hs2] at HE HT8
     clear hs2
     go_wp2_with (first|(with_reducible refine wpList_new_sp rfl rfl ?_)|((with_reducible refine wpList_store_newsp rfl _ _ rfl Zs y ?_ ?_ ?_);exact rfl;exact rfl))
     clear HRdA HSA HT8y
     have HRdA:=HRdA2
     have HSA:=HSA2
     clear HRdA2 HSA2
     generalize x12.heap.size=gA at *
     refine wp_region_held_drew (S:=(fun x=>RdQ w x∧TAt x g8 s2∧SAt x gA y)) (by kernel_rfl) ⟨(HRdA.out).kept (Kept.refl _).drew,(HT8.out).kept (Kept.refl _).drew,(HSA.out).kept (Kept.refl _).drew⟩ (fun Qj=>?_)
     refine rY 0 61 rfl rfl (take_load_q (by rfl) _ rfl g8 0 rfl s2 (fun _ h=>TAt.range h.2.1)) Qj ?_
     simp only [pA,pN,sZ,sU]
     refine rY 1 62 rfl rfl (take_load_sp (by rfl) _ rfl gA 0 rfl y (fun _ h=>SAt.range h.2.2)) Qj ?_
     simp only [pA,pN,sZ,sU]
     refine rR 2 rfl (fun K hK=>?_)
     rw [if_pos (by rfl)]
     obtain ⟨s0,hs0⟩:=Qj.1.t
     refine wp_store_row 28 _ _ rfl w.heap.size (ql s2).toArray rfl rfl 28 _ hs0.at_ (ql_sz _) rfl (ql_one _) ?_
     have hT1:=Qj.1.rowT s2
     refine hK.out _ _ ⟨hT1.1,TAt.rowOther Qj.2.1 (by have:=Hg8.out;omega) _,SAt.rowOther Qj.2.2 (by have:=HgA.out;omega) _⟩ (fun Qj=>?_)
     clear hK K
     refine rR 3 rfl (fun K hK=>?_)
     rw [if_pos (by rfl)]
     obtain ⟨y0,hy0⟩:=Qj.1.e
     refine wp_store_row 64 _ _ rfl (w.heap.size+1) (sl y).toArray rfl rfl 64 _ hy0.at_ (sl_sz _) rfl (sl_one _) ?_
     have hE1:=Qj.1.rowE y
     have hT2:=hT1.2.rowOther (k:=w.heap.size+1) (by omega) (sl y).toArray
     refine hK.out _ _ ⟨hE1.1,TAt.rowOther Qj.2.1 (by have:=Hg8.out;omega) _,SAt.rowOther Qj.2.2 (by have:=HgA.out;omega) _⟩ (fun Qj=>?_)
     clear hK K
     refine wpAnyH_done (by kernel_rfl) ?_ _
     have HE1:=Qh hE1
     have HT2:=Qh hT2
     clear hE1 hT2 hT1 Qj
     go_wp2
     refine bodyPost_ret (v:=.tuple #[qv s2,sv y]) ?_ rfl ⟨by rw [HE.out],HE1.out.1.k⟩
     exact results_qs rfl _ rfl rfl HT2.out HE1.out.2
end Go.Proofs.YtlbipjmmlobofaaGreatDoor
