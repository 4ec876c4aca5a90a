/- TsU · FoL · FoX · FoM: my texts, in their order. -/
import Derived.Test.YtlbipjmmlobofaaGreatDoorPkA01
import Derived.Test.YtlbipjmmlobofaaGreatDoorPkA12
import Derived.Test.YtlbipjmmlobofaaGreatDoorPkA13
import Derived.Test.YtlbipjmmlobofaaGreatDoorPkA19
import Derived.Test.YtlbipjmmlobofaaGreatDoorPkA22
import Derived.Test.YtlbipjmmlobofaaGreatDoorShelf
import Derived.Lib.Join
import Derived.OwnWalk
namespace Go.Proofs.YtlbipjmmlobofaaGreatDoor
open Go.RowKit
set_option linter.unusedVariables false
set_option linter.unusedSimpArgs false
set_option maxRecDepth 100000
set_option maxHeartbeats 16000000

def lineT (i:Nat) (v:Int):ByteArray:=⟨(opW i++vaL i v).toArray⟩
theorem lineT_bs (i:Nat) (v:Int):bs (lineT i v)=opW i++vaL i v:=rfl
theorem lineT_of {i:Nat} {v:Int} {a b:ByteArray} (ha:bs a=opW i) (hb:bs b=vaL i v):a++b=lineT i v:=bs_inj (by rw [bs_append,ha,hb,lineT_bs])
def tdL (K:Tk) (k:Nat):List ByteArray:=((op7.take k).filter fun i=>toldB i K).map fun i=>lineT i (toldV K i)
theorem tdL_yes {K:Tk} {k:Nat} (hk:k<7) (h:toldB k K=true):tdL K (k+1)=tdL K k++[lineT k (toldV K k)]:=by
 have e:op7.take (k+1)=op7.take k++[k]:=by
  have:k=0∨k=1∨k=2∨k=3∨k=4∨k=5∨k=6:=by omega
  rcases this with rfl|rfl|rfl|rfl|rfl|rfl|rfl <;> rfl
 unfold tdL
 rw [e,List.filter_append,List.map_append]
 simp [h]
theorem tdL_no {K:Tk} {k:Nat} (hk:k<7) (h:toldB k K=false):tdL K (k+1)=tdL K k:=by
 have e:op7.take (k+1)=op7.take k++[k]:=by
  have:k=0∨k=1∨k=2∨k=3∨k=4∨k=5∨k=6:=by omega
  rcases this with rfl|rfl|rfl|rfl|rfl|rfl|rfl <;> rfl
 unfold tdL
 rw [e,List.filter_append]
 simp [h]
theorem tdL_len (K:Tk) (k:Nat):(tdL K k).length≤7:=by
 unfold tdL
 rw [List.length_map]
 have h1:=List.length_filter_le (fun i=>toldB i K) (op7.take k)
 have h2:=List.length_take_le' k op7
 have h3:op7.length=7:=rfl
 omega
structure TdM (w wr:World) (g:Nat) (K:Tk) (v:Value) (L:List ByteArray):Prop where
 kept:Kept w wr
 own:OwnX wr w.heap.size v L
 ka:KAt wr g K
theorem TdM.then_ {w wr wx:World} {g:Nat} {K:Tk} {v:Value} {L:List ByteArray} (h:TdM w wr g K v L) (k:Kept wr wx):TdM w wx g K v L:=⟨h.kept.trans k,h.own.kept k,h.ka.heap k⟩
theorem TdM.more {w wr wx:World} {g:Nat} {K:Tk} {v v':Value} {L L':List ByteArray} (h:TdM w wr g K v L) (ho:OwnX wx w.heap.size v' L') (hg:wr.grownBy wx v.ownBlock) (hn:v.ownBlock=none∨v.ownBlock≠some g):TdM w wx g K v' L' :=
 ⟨h.own.grown h.kept (Nat.le_refl _) hg,ho,⟨h.ka.len,(hg.block g (lt_of_heap h.ka.at_) (own_none hn)).trans h.ka.at_⟩⟩
theorem TdM.apart {w wr:World} {g:Nat} {K:Tk} {v:Value} {L:List ByteArray} (h:TdM w wr g K v L):v.ownBlock=none∨v.ownBlock≠some g:=by
 rcases h.own.2 with ⟨e1,_⟩|⟨g',cap,cur,e1,_,e3,_⟩
 ·subst e1;exact .inl rfl
 ·subst e1
  refine .inr fun e2=>?_
  injection e2 with e2
  have e2:g'=g:=e2
  rw [e2,h.ka.at_] at e3
  have e4:=congrArg (fun o:Option Obj=>match o with|some (.cells _ t _)=>t|_=>0) e3
  have e5:(30:Nat)=9:=e4
  exact absurd e5 (by decide)
theorem one_x (w:World) (y:ByteArray):(w.alloc (.cells #[.string y] 9)).cell? ⟨w.heap.size,0,none⟩=some (.string y):=by rw [cell_of_row _ _ 0 _ _ (0,0) (heap_alloc_new w _)];rfl
theorem wp_append_x {o:Oper} {a:Act} {w:World} {K:Act→World→Prop} {Q:Exit→Act→World→Prop} (d:Tmp) (hd:o.dst=some d) (s x:Operand)
  (ho:o.op=.call { callee:=.builtin .append,args:=#[s,x],argTypes:=#[50,50] })
  (base g:Nat) (v:Value) (l:List ByteArray) (y:ByteArray) (hs:a.eval s=v) (hx:a.eval x=.slice (some ⟨g,0,none⟩) 1 1) (hown:OwnX w base v l) (hL:w.cell? ⟨g,0,none⟩=some (.string y)) (hlen:l.length≤10000) (hbase:base≤w.heap.size)
  (h:∀ v' w',OwnX w' base v' (l++[y])→w.grownBy w' v.ownBlock→K (a.put (some d) v') w'):o.wp Tryz.prog a w K Q:=by
 obtain ⟨i0,hi0,hz0,hz1,hz2⟩:=partsQ infoX
 refine wp_append_own w s x 50 ho base 9 i0 (.string ⟨#[]⟩) 1 16 Tryz.underlying50 hi0 hz0 hz1 hz2 rfl (by decide) v _ _ hs hown ⟨g,0,none⟩ 1 1 [.string y] hx rfl ?_ ?_ ?_ ?_ hbase ?_
 ·intro j u hu
  match j,hu with
  | 0,hu=>simp at hu;subst hu;exact hL
 ·intro u hu;simp at hu;subst hu;rfl
 ·unfold maxLen;omega
 ·omega
 ·intro v' w' h1 h2 _
  rw [hd]
  refine h v' w' ?_ h2
  unfold OwnX
  rw [List.map_append,List.length_append]
  exact h1
theorem take_load_qo {ops:Array Oper} {S:World→Prop} {op:Oper} {a:Act} (hw:Region.wanted op (yielded ops a.tmps)=true) (x:Operand) (ho:op.op=.load 28 x)
  (g off:Nat) (hx:a.eval x=.pointer (some ⟨g,off,none⟩)) (y:Stp) (hS:∀ w,S w→w.rangeAt g off (ql y)):YieldsIf Tryz.prog ops S op (qv y) a :=
 yieldsIf_load_mid hw 28 x ho g off hx (ql y) _ hS Tryz.underlying28 rfl sizeQ
def PowT (w : World) : Prop := Lib.TabIs Tryz.prog w "internal/strconv.uint64pow10" .u64 Lib.pow10Tab
theorem PowT.kept {w w':World} (h:PowT w) (k:Kept w w'):PowT w':=by
 unfold PowT Lib.TabIs World.var? at *
 cases hg : Tryz.prog.globalNamed "internal/strconv.uint64pow10" with
 | none=>rw [hg] at h;cases h
 | some g =>
  rw [hg] at h
  simp only [Option.bind_some] at h ⊢
  cases hh:w.heap[g]? with
  | none=>rw [hh] at h;cases h
  | some o=>rw [hh] at h;rw [k.heap hh];exact h
theorem itoa_k (n:Int) (h0:0≤n) (h1:n≤1000) (w:World) (hP:PowT w):Calls Tryz.prog 45 #[.int .i64 n] w fun e w'=>e=.returned (.string (dT n))∧Kept w w':=by
 refine (Tryz.strconv_Itoa n (by omega) (by omega) w hP).mono ?_
 rintro e w' ⟨rfl,k,os,rfl⟩
 refine ⟨?_,?_⟩
 ·unfold dT Lib.itoa
  rw [if_neg (by omega)]
 ·refine ⟨rfl,rfl,?_,fun j hj=>?_⟩
  ·show w.heap.size≤(w.heap++os).size
   simp
  ·show (w.heap++os)[j]?=w.heap[j]?
   rw [Array.getElem?_append_left hj]
theorem dT_small (n:Int) (h0:0≤n) (h1:n≤1000):(dT n).size≤10:=by
 obtain ⟨m,rfl⟩:=Int.eq_ofNat_of_zero_le h0
 rw [← bs_len,bs_dT,Int.toNat_natCast,← dgN_is 4 m (by omega) (by omega)]
 have:∀ f m,(dgN f m).length≤f:=by
  intro f
  induction f with
  | zero=>intro m;exact Nat.le_refl _
  | succ f ih =>
   intro m
   unfold dgN
   split
   ·simp
   ·have:=ih (m / 10);simp;omega
 have:=this 4 m
 omega
theorem name_nm (n:Nat) (hn:n<64):bs (nameOf (n:Nat))=nmL2 n:=by
 have:∀ m:Fin 64,bs (nameOf ((m:Nat):Int))=nmL2 m:=by decide +kernel
 exact this ⟨n,hn⟩
theorem told_is (K:Tk) (hl:K.B.length=64) (hk:OkT K) (w:World) (hP:PowT w):Calls Tryz.prog 17 #[kv K] w fun e w'=>∃ v,e=.returned v∧OwnX w' w.heap.size v (tdL K 7)∧Kept w w':=by
 have H1:=Qh (KAt.new w hl)
 have K1:=Qh ((Kept.refl w).alloc (.cells (kcl K).toArray 30))
 have HPT:=Qh hP
 have HOK:=Qh hk
 clear hP hk
 go_enter Tryz.func17,Tryz.ntmps17
 go_upto_region 1 with (refine wpList_box_k rfl _ rfl K rfl ?_)
 have HM0:Hid (TdM w (w.alloc (.cells (kcl K).toArray 30)) w.heap.size K (.slice none 0 0) (tdL K 0)):=Qh ⟨K1.out,OwnX.nil _ _,H1.out⟩
 generalize w.alloc (.cells (kcl K).toArray 30)=W1 at *
 generalize hg:w.heap.size=g at *
 have HG:=Qh hg
 clear hg H1 K1
 have c0:=HM0.out.ka.cell 7 rfl
 go_upto_if 5 with fail
 go_cut [3] from 4 (fun s3 wc=>TdM w wc g K s3 (tdL K 1))
 case first =>
  have HM0x:=HM0
  cases hb:K.ty
  ·rw [hb] at c0
   have HE:=Qh (tdL_no (K:=K) (k:=0) (by omega) hb)
   go_wp2
   go_meet
   case rel=>rw [HE.out];exact HM0.out
  ·rw [hb] at c0
   have HE:=Qh (tdL_yes (K:=K) (k:=0) (by omega) hb)
   have HMa:=Qh (HM0x.out.then_ ((Kept.refl W1).alloc (.cells #[.string (owT 0)] 9)))
   have HCa:=Qh (one_x W1 (owT 0))
   go_wp2_with (at_builtin;refine wpList_append_x rfl _ _ rfl w.heap.size W1.heap.size _ (tdL K 0) (owT 0) rfl rfl HMa.out.own HCa.out ?c1 ?c2 ?_)
   case c1=>have:=tdL_len K 0;omega
   case c2=>exact HMa.out.kept.size
   intro v' w3 ho hg3
   have HM3:=Qh (HMa.out.more ho hg3 HMa.out.apart)
   clear ho hg3
   go_wp2
   go_meet
   case rel=>rw [HE.out];exact HM3.out
 case rest =>
 have HM1:=Qh hcut
 clear hcut HM0
 generalize u3=v1 at *
 generalize wc=wd at *
 have c1:=HM1.out.ka.cell 8 rfl
 go_upto_if 10 with fail
 go_cut [3] from 4 (fun s3 wc=>TdM w wc g K s3 (tdL K 2))
 case first =>
  have HM1x:=HM1
  cases hb:K.se
  ·rw [hb] at c1
   have HE:=Qh (tdL_no (K:=K) (k:=1) (by omega) hb)
   go_wp2
   go_meet
   case rel=>rw [HE.out];exact HM1.out
  ·rw [hb] at c1
   have HE:=Qh (tdL_yes (K:=K) (k:=1) (by omega) hb)
   have HMa:=Qh (HM1x.out.then_ ((Kept.refl wd).alloc (.cells #[.string (owT 1)] 9)))
   have HCa:=Qh (one_x wd (owT 1))
   go_wp2_with (at_builtin;refine wpList_append_x rfl _ _ rfl w.heap.size wd.heap.size _ (tdL K 1) (owT 1) rfl rfl HMa.out.own HCa.out ?c1 ?c2 ?_)
   case c1=>have:=tdL_len K 1;omega
   case c2=>exact HMa.out.kept.size
   intro v' w3 ho hg3
   have HM3:=Qh (HMa.out.more ho hg3 HMa.out.apart)
   clear ho hg3
   go_wp2
   go_meet
   case rel=>rw [HE.out];exact HM3.out
 case rest =>
 have HM2:=Qh hcut
 clear hcut HM1
 generalize u3=v2 at *
 generalize wc=wd at *
 have c2:=HM2.out.ka.cell 0 rfl
 go_upto_region 6 with fail
 refine wp_region_held_drew (S:=Kept _) (by kernel_rfl) (Kept.refl _).drew (fun Qj=>?_)
 refine rT 0 14 (.pointer (some ⟨g,0,none⟩)) rfl rfl Qj ?_
 simp only [Act.put,sA,sZ,sU]
 refine rT 1 15 (.pointer (some ⟨g,64,none⟩)) rfl rfl Qj ?_
 simp only [pA,pN,sZ,sU]
 refine rC 2 16 (.int .i64 K.tu) rfl rfl (fun _ h=>kept_cell h (c2)) Qj ?_
 simp only [pA,pN,sZ,sU]
 refine rT 3 17 (.pointer (some ⟨g,67,none⟩)) rfl rfl Qj ?_
 simp only [pA,pN,sZ,sU]
 refine rY 4 18 rfl rfl (take_load_qo (by rfl) _ rfl g 67 rfl K.s (fun _ h=>KAt.stip (HM2.out.ka.heap h))) Qj ?_
 simp only [Act.put,sA,pA,pN,sZ,sU]
 refine wpAnyH_ready (rs:=[5]) (by kernel_rfl) (by simp) ?_
 refine AllReadyH.cons rfl (fun K' hK'=>?_) AllReadyH.nil
 rw [if_pos (by rfl)]
 go_simp
 refine (begins_q K.s _).mono ?_
 rintro e wb ⟨rfl,gwb⟩
 refine hK'.out _ _ (Qj.trans gwb) (fun _=>?_)
 replace Qj:=Qj.trans gwb
 clear hK' K' gwb
 refine rT 6 20 (.bool (K.tu != begI K.s)) rfl rfl Qj ?_
 simp only [pA,pN,sZ,sU]
 refine wpAnyH_done (by kernel_rfl) ?_ _
 have HM2x:=Qh (HM2.out.then_ Qj)
 clear c2 Qj
 generalize wc=wd at *
 go_upto_if 20 with fail
 go_cut [3] from 4 (fun s3 wc=>TdM w wc g K s3 (tdL K 3))
 case first =>
  cases hb:(K.tu != begI K.s)
  ·have HE:=Qh (tdL_no (K:=K) (k:=2) (by omega) hb)
   go_wp2
   go_meet
   case rel=>rw [HE.out];exact HM2x.out
  ·have HE:=Qh (tdL_yes (K:=K) (k:=2) (by omega) hb)
   have c2:=HM2x.out.ka.cell 0 rfl
   have htu:=HOK.out.tu
   have hTV:Hid (toldV K 2=K.tu):=Qh rfl
   clear hb
   rcases htu with htu|htu
   ·have HTU:=Qh htu
    have hln:Hid (owT 2++whT=lineT 2 (toldV K 2)):=Qh (by rw [hTV.out,htu];exact lineT_of rfl rfl)
    rw [htu] at c2
    clear htu
    go_upto_region 7 with fail
    refine wp_region_held_drew (S:=fun x'=>KAt x' g K∧Kept w x') (by kernel_rfl) ⟨HM2x.out.ka.heap (Kept.refl _).drew,HM2x.out.kept.trans (Kept.refl _).drew⟩ (fun Qj=>?_)
    refine rT 2 23 (.pointer (some ⟨g,0,none⟩)) rfl rfl Qj ?_
    simp only [pA,pN,sZ,sU]
    refine rT 3 24 (.pointer (some ⟨g,64,none⟩)) rfl rfl Qj ?_
    simp only [pA,pN,sZ,sU]
    refine rg_take (i:=4) (v:=.int .i64 0) (some 25) rfl rfl (by kernel_rfl) (by kernel_rfl) (by kernel_rfl) (fun _ _ _ h=>h) (Or.inl ⟨by rfl,fun x' h=>by have h':=h.1.cell 0 rfl;rw [HTU.out] at h';go_simp⟩) Qj ?_
    simp only [Act.put,sA,pA,pN,sZ,sU]
    refine rT 0 21 (v2) rfl rfl Qj ?_
    simp only [pA,pN,sZ,sU]
    refine wpAnyH_ready (rs:=[1]) (by kernel_rfl) (by simp) ?_
    refine AllReadyH.cons rfl (fun K' hK'=>?_) AllReadyH.nil
    rw [if_pos (by rfl)]
    go_simp
    refine (sides_is _).mono ?_
    rintro e ws ⟨gs,rfl,hs0,hs1,hs2,ks⟩
    have HMs:=Qh (HM2x.out.then_ ((Kept.refl _).drew.trans ks))
    refine hK'.out _ _ ⟨HMs.out.ka,HMs.out.kept⟩ (fun Qj=>?_)
    clear hK' K'
    refine rT 5 26 (.pointer (some ⟨gs,0,none⟩)) rfl rfl Qj ?_
    simp only [pA,pN,sZ,sU]
    refine wpAnyH_ready (rs:=[6]) (by kernel_rfl) (by simp) ?_
    refine AllReadyH.cons rfl (fun K' hK'=>?_) AllReadyH.nil
    rw [if_pos (by rfl)]
    go_simp
    refine hK'.out _ _ ⟨HMs.out.ka,HMs.out.kept⟩ (fun Qj=>?_)
    clear hK' K'
    try simp only [Act.put,sA,pA,pN,sZ,sU]
    have hsw:12+whT.size≤9223372036854775807:=by decide
    refine rT 7 28 (.string (⟨#[111,112,116,105,111,110,32,115,105,100,101,32]⟩++whT)) rfl rfl Qj ?_
    try simp only [Act.put,sA,pA,pN,sZ,sU]
    refine wpAnyH_ready (rs:=[8]) (by kernel_rfl) (by simp) ?_
    refine AllReadyH.cons rfl (fun K' hK'=>?_) AllReadyH.nil
    rw [if_pos (by rfl)]
    go_simp
    have HMa:=Qh (HMs.out.then_ ((Kept.refl ws).alloc (.cells #[.string (owT 2++whT)] 9)))
    have HCa:=Qh (one_x ws (owT 2++whT))
    refine hK'.out _ _ ⟨HMa.out.ka,HMa.out.kept⟩ (fun Qj=>?_)
    clear hK' K'
    try simp only [Act.put,sA,pA,pN,sZ,sU]
    refine wpAnyH_ready (rs:=[9]) (by kernel_rfl) (by simp) ?_
    refine AllReadyH.cons rfl (fun K' hK'=>?_) AllReadyH.nil
    rw [if_pos (by rfl)]
    refine wp_append_x 30 rfl _ _ rfl w.heap.size ws.heap.size _ (tdL K 2) (owT 2++whT) rfl rfl HMa.out.own HCa.out (by have:=tdL_len K 2;omega) HMa.out.kept.size ?_
    intro v' w3 ho hg3
    have HM3:=Qh (HMa.out.more ho hg3 HMa.out.apart)
    refine hK'.out _ _ ⟨HM3.out.ka,HM3.out.kept⟩ (fun Qj=>?_)
    clear hK' K' ho hg3
    simp only [pA,pN,sZ,sU]
    trace_state
    refine rT 10 3 v' rfl rfl Qj ?_
    simp only [pA,pN,sZ,sU]
    refine wpAnyH_done (by kernel_rfl) ?_ _
    go_wp2
    go_meet
    case rel=>rw [HE.out,← hln.out];exact HM3.out
   ·have HTU:=Qh htu
    have hln:Hid (owT 2++blT=lineT 2 (toldV K 2)):=Qh (by rw [hTV.out,htu];exact lineT_of rfl rfl)
    rw [htu] at c2
    clear htu
    go_upto_region 7 with fail
    refine wp_region_held_drew (S:=fun x'=>KAt x' g K∧Kept w x') (by kernel_rfl) ⟨HM2x.out.ka.heap (Kept.refl _).drew,HM2x.out.kept.trans (Kept.refl _).drew⟩ (fun Qj=>?_)
    refine rT 2 23 (.pointer (some ⟨g,0,none⟩)) rfl rfl Qj ?_
    simp only [pA,pN,sZ,sU]
    refine rT 3 24 (.pointer (some ⟨g,64,none⟩)) rfl rfl Qj ?_
    simp only [pA,pN,sZ,sU]
    refine rg_take (i:=4) (v:=.int .i64 1) (some 25) rfl rfl (by kernel_rfl) (by kernel_rfl) (by kernel_rfl) (fun _ _ _ h=>h) (Or.inl ⟨by rfl,fun x' h=>by have h':=h.1.cell 0 rfl;rw [HTU.out] at h';go_simp⟩) Qj ?_
    simp only [Act.put,sA,pA,pN,sZ,sU]
    refine rT 0 21 (v2) rfl rfl Qj ?_
    simp only [pA,pN,sZ,sU]
    refine wpAnyH_ready (rs:=[1]) (by kernel_rfl) (by simp) ?_
    refine AllReadyH.cons rfl (fun K' hK'=>?_) AllReadyH.nil
    rw [if_pos (by rfl)]
    go_simp
    refine (sides_is _).mono ?_
    rintro e ws ⟨gs,rfl,hs0,hs1,hs2,ks⟩
    have HMs:=Qh (HM2x.out.then_ ((Kept.refl _).drew.trans ks))
    refine hK'.out _ _ ⟨HMs.out.ka,HMs.out.kept⟩ (fun Qj=>?_)
    clear hK' K'
    refine rT 5 26 (.pointer (some ⟨gs,1,none⟩)) rfl rfl Qj ?_
    simp only [pA,pN,sZ,sU]
    refine wpAnyH_ready (rs:=[6]) (by kernel_rfl) (by simp) ?_
    refine AllReadyH.cons rfl (fun K' hK'=>?_) AllReadyH.nil
    rw [if_pos (by rfl)]
    go_simp
    refine hK'.out _ _ ⟨HMs.out.ka,HMs.out.kept⟩ (fun Qj=>?_)
    clear hK' K'
    try simp only [Act.put,sA,pA,pN,sZ,sU]
    have hsw:12+blT.size≤9223372036854775807:=by decide
    refine rT 7 28 (.string (⟨#[111,112,116,105,111,110,32,115,105,100,101,32]⟩++blT)) rfl rfl Qj ?_
    try simp only [Act.put,sA,pA,pN,sZ,sU]
    refine wpAnyH_ready (rs:=[8]) (by kernel_rfl) (by simp) ?_
    refine AllReadyH.cons rfl (fun K' hK'=>?_) AllReadyH.nil
    rw [if_pos (by rfl)]
    go_simp
    have HMa:=Qh (HMs.out.then_ ((Kept.refl ws).alloc (.cells #[.string (owT 2++blT)] 9)))
    have HCa:=Qh (one_x ws (owT 2++blT))
    refine hK'.out _ _ ⟨HMa.out.ka,HMa.out.kept⟩ (fun Qj=>?_)
    clear hK' K'
    try simp only [Act.put,sA,pA,pN,sZ,sU]
    refine wpAnyH_ready (rs:=[9]) (by kernel_rfl) (by simp) ?_
    refine AllReadyH.cons rfl (fun K' hK'=>?_) AllReadyH.nil
    rw [if_pos (by rfl)]
    refine wp_append_x 30 rfl _ _ rfl w.heap.size ws.heap.size _ (tdL K 2) (owT 2++blT) rfl rfl HMa.out.own HCa.out (by have:=tdL_len K 2;omega) HMa.out.kept.size ?_
    intro v' w3 ho hg3
    have HM3:=Qh (HMa.out.more ho hg3 HMa.out.apart)
    refine hK'.out _ _ ⟨HM3.out.ka,HM3.out.kept⟩ (fun Qj=>?_)
    clear hK' K' ho hg3
    simp only [pA,pN,sZ,sU]
    trace_state
    refine rT 10 3 v' rfl rfl Qj ?_
    simp only [pA,pN,sZ,sU]
    refine wpAnyH_done (by kernel_rfl) ?_ _
    go_wp2
    go_meet
    case rel=>rw [HE.out,← hln.out];exact HM3.out
 case rest =>
 have HM3:=Qh hcut
 clear hcut HM2x HM2
 generalize u3=v3 at *
 have c3:=HM3.out.ka.cell 9 rfl
 go_upto_if 33 with fail
 go_cut [3] from 4 (fun s3 wc=>TdM w wc g K s3 (tdL K 4))
 case first =>
  cases hb:(K.mx != 0)
  ·have HE:=Qh (tdL_no (K:=K) (k:=3) (by omega) hb)
   go_wp2
   go_meet
   case rel=>rw [HE.out];exact HM3.out
  ·have HE:=Qh (tdL_yes (K:=K) (k:=3) (by omega) hb)
   have hne:K.mx≠0:=by simpa using hb
   have h0:0≤K.mx:=by have:=HOK.out.mx;omega
   have h1:K.mx≤1000:=by have:=HOK.out.mx;omega
   have hsz:=dT_small K.mx h0 h1
   have hln:Hid (owT 3++dT K.mx=lineT 3 (toldV K 3)):=Qh (lineT_of rfl rfl)
   have HCn:=Qh (fun w hP=>itoa_k K.mx h0 h1 w hP)
   generalize dT K.mx=d at *
   clear hne h0 h1
   go_wp2_with fail
   refine (HCn.out _ (HPT.out.kept HM3.out.kept)).mono ?_
   rintro e wn ⟨rfl,kn⟩
   have HM3x:=Qh (HM3.out.then_ kn)
   clear kn
   have HMa:=Qh (HM3x.out.then_ ((Kept.refl wn).alloc (.cells #[.string (owT 3++d)] 9)))
   have HCa:=Qh (one_x wn (owT 3++d))
   go_wp2_with (at_builtin;refine wpList_append_x rfl _ _ rfl w.heap.size wn.heap.size _ (tdL K 3) (owT 3++d) rfl rfl HMa.out.own HCa.out ?c1 ?c2 ?_)
   case c1=>have:=tdL_len K 3;omega
   case c2=>exact HMa.out.kept.size
   intro v' w3 ho hg3
   have HM3:=Qh (HMa.out.more ho hg3 HMa.out.apart)
   clear ho hg3
   go_wp2
   go_meet
   case rel=>rw [HE.out,← hln.out];exact HM3.out
 case rest =>
 have HM4:=Qh hcut
 clear hcut HM3
 generalize u3=v4 at *
 generalize wc=wd at *
 have c4:=HM4.out.ka.cell 1 rfl
 go_upto_if 44 with fail
 go_cut [3] from 4 (fun s3 wc=>TdM w wc g K s3 (tdL K 5))
 case first =>
  cases hb:(K.ca != 0)
  ·have HE:=Qh (tdL_no (K:=K) (k:=4) (by omega) hb)
   go_wp2
   go_meet
   case rel=>rw [HE.out];exact HM4.out
  ·have HE:=Qh (tdL_yes (K:=K) (k:=4) (by omega) hb)
   have hne:K.ca≠0:=by simpa using hb
   obtain ⟨n,hn⟩:∃ n:Nat,K.ca=n:=⟨K.ca.toNat,by have:=HOK.out.ca;omega⟩
   have hn16:n<16:=by have:=HOK.out.ca;omega
   have hln:Hid (owT 4++⟨(caL n).toArray⟩=lineT 4 (toldV K 4)):=Qh (lineT_of rfl (by show caL n=caL (K.ca).toNat;rw [hn];rfl))
   have HCn:=Qh (fun w=>castling_is n hn16 w)
   have hsz:(⟨(caL n).toArray⟩:ByteArray).size≤10:=by
    have:=caU_len n 4
    rw [caU_4] at this
    show (caL n).toArray.size≤10
    simp;omega
   rw [hn] at c4 hb
   generalize (⟨(caL n).toArray⟩:ByteArray)=d at *
   clear hne hn
   go_wp2_with fail
   refine (HCn.out _).mono ?_
   rintro e wn ⟨rfl,kn⟩
   have HM4x:=Qh (HM4.out.then_ kn)
   clear kn
   have HMa:=Qh (HM4x.out.then_ ((Kept.refl wn).alloc (.cells #[.string (owT 4++d)] 9)))
   have HCa:=Qh (one_x wn (owT 4++d))
   go_wp2_with (at_builtin;refine wpList_append_x rfl _ _ rfl w.heap.size wn.heap.size _ (tdL K 4) (owT 4++d) rfl rfl HMa.out.own HCa.out ?c1 ?c2 ?_)
   case c1=>have:=tdL_len K 4;omega
   case c2=>exact HMa.out.kept.size
   intro v' w3 ho hg3
   have HM3:=Qh (HMa.out.more ho hg3 HMa.out.apart)
   clear ho hg3
   go_wp2
   go_meet
   case rel=>rw [HE.out,← hln.out];exact HM3.out
 case rest =>
 have HM5:=Qh hcut
 clear hcut HM4
 generalize u3=v5 at *
 generalize wc=wd at *
 have c5:=HM5.out.ka.cell 2 rfl
 go_upto_if 56 with fail
 go_cut [3] from 4 (fun s3 wc=>TdM w wc g K s3 (tdL K 6))
 case first =>
  cases hb:(K.ep != (-1))
  ·have HE:=Qh (tdL_no (K:=K) (k:=5) (by omega) hb)
   go_wp2
   go_meet
   case rel=>rw [HE.out];exact HM5.out
  ·have HE:=Qh (tdL_yes (K:=K) (k:=5) (by omega) hb)
   have hne:K.ep≠(-1):=by simpa using hb
   obtain ⟨n,hn⟩:∃ n:Nat,K.ep=n:=⟨K.ep.toNat,by have:=HOK.out.ep;omega⟩
   have hn64:n<64:=by have:=HOK.out.ep;omega
   have hln:Hid (owT 5++nameOf (n:Nat)=lineT 5 (toldV K 5)):=Qh (lineT_of rfl (by show bs (nameOf (n:Nat))=nmL2 (K.ep).toNat;rw [hn];exact name_nm n hn64))
   have HCn:=Qh (fun w=>name_grown (n:Nat) w (by omega) (by omega))
   have hsz:(nameOf (n:Nat)).size≤10:=by show 2≤10;omega
   rw [hn] at c5 hb
   generalize nameOf (n:Nat)=d at *
   clear hne hn
   go_wp2_with fail
   refine (HCn.out _).mono ?_
   rintro e wn ⟨rfl,kn⟩
   have kn:=Kept.of_grown kn
   have HM5x:=Qh (HM5.out.then_ kn)
   clear kn
   have HMa:=Qh (HM5x.out.then_ ((Kept.refl wn).alloc (.cells #[.string (owT 5++d)] 9)))
   have HCa:=Qh (one_x wn (owT 5++d))
   go_wp2_with (at_builtin;refine wpList_append_x rfl _ _ rfl w.heap.size wn.heap.size _ (tdL K 5) (owT 5++d) rfl rfl HMa.out.own HCa.out ?c1 ?c2 ?_)
   case c1=>have:=tdL_len K 5;omega
   case c2=>exact HMa.out.kept.size
   intro v' w3 ho hg3
   have HM3:=Qh (HMa.out.more ho hg3 HMa.out.apart)
   clear ho hg3
   go_wp2
   go_meet
   case rel=>rw [HE.out,← hln.out];exact HM3.out
 case rest =>
 have HM6:=Qh hcut
 clear hcut HM5
 generalize u3=v6 at *
 generalize wc=wd at *
 have c6:=HM6.out.ka.cell 10 rfl
 go_upto_if 67 with fail
 go_cut [3] from 4 (fun s3 wc=>TdM w wc g K s3 (tdL K 7))
 case first =>
  cases hb:(K.re != (-1))
  ·have HE:=Qh (tdL_no (K:=K) (k:=6) (by omega) hb)
   go_wp2
   go_meet
   case rel=>rw [HE.out];exact HM6.out
  ·have HE:=Qh (tdL_yes (K:=K) (k:=6) (by omega) hb)
   have hne:K.re≠(-1):=by simpa using hb
   have h0:0≤K.re:=by have:=HOK.out.re;omega
   have h1:K.re≤1000:=by have:=HOK.out.re;omega
   have hsz:=dT_small K.re h0 h1
   have hln:Hid (owT 6++dT K.re=lineT 6 (toldV K 6)):=Qh (lineT_of rfl rfl)
   have HCn:=Qh (fun w hP=>itoa_k K.re h0 h1 w hP)
   generalize dT K.re=d at *
   clear hne h0 h1
   go_wp2_with fail
   refine (HCn.out _ (HPT.out.kept HM6.out.kept)).mono ?_
   rintro e wn ⟨rfl,kn⟩
   have HM6x:=Qh (HM6.out.then_ kn)
   clear kn
   have HMa:=Qh (HM6x.out.then_ ((Kept.refl wn).alloc (.cells #[.string (owT 6++d)] 9)))
   have HCa:=Qh (one_x wn (owT 6++d))
   go_wp2_with (at_builtin;refine wpList_append_x rfl _ _ rfl w.heap.size wn.heap.size _ (tdL K 6) (owT 6++d) rfl rfl HMa.out.own HCa.out ?c1 ?c2 ?_)
   case c1=>have:=tdL_len K 6;omega
   case c2=>exact HMa.out.kept.size
   intro v' w3 ho hg3
   have HM3:=Qh (HMa.out.more ho hg3 HMa.out.apart)
   clear ho hg3
   go_wp2
   go_meet
   case rel=>rw [HE.out,← hln.out];exact HM3.out
 case rest =>
 have HM7:=Qh hcut
 clear hcut HM6
 generalize u3=v7 at *
 go_wp2
 go_ret
 exact ⟨_,rfl,by rw [← HG.out];exact HM7.out.own,HM7.out.kept⟩
theorem bs_eq {a:ByteArray} {l:List UInt8} (h:a.data.toList=l):a=⟨l.toArray⟩:=by
 obtain ⟨⟨x⟩⟩:=a
 simp at h
 rw [h]
theorem bs_app (a b:ByteArray):(a++b).data.toList=a.data.toList++b.data.toList:=by
 simp [ByteArray.data_append]
theorem decDigits_one (k:Nat) (h:k<10):Lib.decDigits k=[UInt8.ofNat (48+k)]:=by
 unfold Lib.decDigits
 rw [dif_pos h]
theorem digit_is (k:Nat) (hk:k≤8) (w:World) :
  Calls Tryz.prog 85 #[.int .i64 k] w fun e w'=>e=.returned (.string ⟨(dig k).toArray⟩)∧w=w':=by
 by_cases h0:k=0
 ·subst h0
  go_enter Tryz.func85,Tryz.ntmps85
  go_wp2
  go_ret
  exact ⟨rfl,rfl⟩
 ·have b0:((k:Int) == 0)=false:=beq_eq_false_iff_ne.2 (by omega)
  have he:=Qh (show dig k=Lib.decDigits k by rw [decDigits_one k (by omega)];unfold dig;rw [if_neg h0])
  clear h0
  go_enter Tryz.func85,Tryz.ntmps85
  go_wp2_with fail
  refine (Tryz.strconv_Itoa_small k (by omega) _).mono ?_
  rintro e w' ⟨rfl,rfl⟩
  go_wp2
  go_ret
  exact ⟨by rw [he.out];rfl,rfl⟩
theorem letter_any (m:Int) (h:okB m=true) (w:World) :
  Calls Tryz.prog 86 #[.int .i64 m] w fun e w'=>e=.returned (.string ⟨(lettM m).toArray⟩)∧Grown w w':=by
 unfold lettM
 by_cases h0:m=0
 ·rw [if_pos h0]
  exact letter_no m w (by omega)
 ·rw [if_neg h0]
  have hm:manB m=true:=by
   unfold okB at h
   have:(m == 0)=false:=by simpa using h0
   simpa [this] using h
  obtain ⟨h1,h2⟩:=ordN_lt m hm
  have:=letter_yes (ordN m) h1 w
  rw [h2] at this
  exact this
theorem at_nat (f r:Nat) (w:World) (hf:f<8) (hr:r<8) :
  Calls Tryz.prog 83 #[.int .i64 f,.int .i64 r] w fun e w'=>e=.returned (.tuple #[.int .i64 ((8*r+f:Nat):Int),.bool true])∧w=w':=by
 have:=at_yes f r w (by omega) (by omega) (by omega) (by omega)
 rwa [show (r:Int)*8+(f:Int)=((8*r+f:Nat):Int) by omega] at this
theorem drop_row (B:List Int) (r f:Nat) (h:f<8):(rowL B r).drop f=B.getD (8*r+f) 0::(rowL B r).drop (f+1):=by
 rw [List.drop_eq_getElem_cons (by rw [rowL_len];exact h),← getD_at,rowL_get _ _ _ h]
theorem row_is (B:List Int) (hB:Brd B) (hR:rightB B=true) (r:Nat) (hr:r<8) (w:World) :
  Calls Tryz.prog 42 #[.agg (cl B).toArray,.int .i64 r] w fun e w'=>e=.returned (.string ⟨(rowT B r).toArray⟩)∧Kept w w':=by
 have H:=Qh hB
 have HO:=Qh ((rightB_iff B hB.1).1 hR)
 have hz:=Qh (size_cl hB.1)
 have hbl:=Qh (heap_alloc_new w (.cells (cl B).toArray 24))
 have hk0:=Qh ((Kept.refl w).alloc (.cells (cl B).toArray 24))
 clear hB hR
 generalize eW:w.alloc (.cells (cl B).toArray 24)=W at *
 have HW:=Qh eW
 clear eW
 go_enter Tryz.func42,Tryz.ntmps42
 go_wp2
 go_loopw [5,6,11] (fun t5 t6 t11 wr=>∃ (f g:Nat) (tx:ByteArray),f≤8∧g≤f∧t11=.int .i64 f∧t6=.int .i64 g∧t5=.string tx∧tx.data.toList++rowGo ((rowL B r).drop f) g=rowT B r∧Kept W wr) (fun _ _ t11 _=>8-(intOf t11).toNat)
 case atStart=>exact ⟨0,0,⟨#[]⟩,by omega,by omega,rfl,rfl,rfl,rfl,by rw [← HW.out];exact Kept.refl _⟩
 case round =>
  obtain ⟨f,g,tx,hf,hg,rfl,rfl,rfl,ht,hK⟩:=hrel
  have HT:=Qh ht
  have HK:=Qh hK
  have HX:Hid (tx.size≤17):=by
   have h1:=rowT_len B r
   rw [← ht,List.length_append,len_size] at h1
   exact Nat.le_trans (Nat.le_add_right _ _) h1
  clear ht hK
  by_cases hl:f<8
  ·have hl':(f:Int)<8:=by omega
   have HD:=Qh (drop_row B r f hl)
   go_wp2_with fail
   refine (at_nat f r _ (by omega) (by omega)).mono ?_
   rintro e w' ⟨rfl,rfl⟩
   go_wp2_with (refine wpList_load_w (by rfl) _ rfl w.heap.size rfl B (HK.out.heap hbl.out) hz.out ?_)
   refine (man_yes B H.out (8*r+f) (by omega) _).mono ?_
   rintro e w1 ⟨rfl,g1⟩
   have HK1:=Qh (HK.out.trans g1)
   have HM:=Qh (HO.out (8*r+f) (by omega))
   generalize B.getD (8*r+f) 0=m at *
   clear g1
   by_cases hm:m=0
   ·subst hm
    go_wp2
    go_roundw
    case rel=>exact ⟨f+1,g+1,tx,by omega,by omega,by go_num,by go_num,rfl,by have:=HT.out;rw [HD.out] at this;simpa [rowGo] using this,HK1.out⟩
    case measure=>simp [intOf];omega
   ·have bm:(m == 0)=false:=by simpa using hm
    have HZ:=Qh hm
    clear hm
    go_wp2_with fail
    refine (digit_is g (by omega) _).mono ?_
    rintro e w' ⟨rfl,rfl⟩
    go_wp2_with fail
    refine (letter_any m HM.out _).mono ?_
    rintro e w2 ⟨rfl,g2⟩
    have HK2:=Qh (HK1.out.trans (Kept.of_grown g2))
    clear g2
    have s0:=lettM_len m
    have s1:=dig_len g
    have s2:¬ 9223372036854775807<(dig g).length+(lettM m).length:=by omega
    have s3:¬ 9223372036854775807<tx.size+((dig g).length+(lettM m).length):=by have:=HX.out;omega
    go_wp2
    go_roundw
    case rel=>exact ⟨f+1,0,_,by omega,by omega,by go_num,rfl,rfl,by have:=HT.out;rw [HD.out,rowGo,if_neg HZ.out] at this;rw [bs_app,bs_app,← this];simp,HK2.out⟩
    case measure=>simp [intOf];omega
  ·have e8:f=8:=by omega
   subst e8
   have HE:Hid (tx.data.toList++dig g=rowT B r):=by
    have:=HT.out
    rw [List.drop_eq_nil_of_le (by rw [rowL_len];omega)] at this
    exact this
   clear HT hl
   go_wp2_with fail
   refine (digit_is g (by omega) _).mono ?_
   rintro e w' ⟨rfl,rfl⟩
   have s1:=dig_len g
   have s3:¬ 9223372036854775807<tx.size+(dig g).length:=by have:=HX.out;omega
   go_wp2
   go_ret
   refine ⟨?_,hk0.out.trans HK.out⟩
   rw [← HE.out]
   exact congrArg (fun b=>Ending.returned (.string b)) (bs_eq (bs_app _ _))
def tl (l:List ByteArray):List Value:=l.map Value.string
theorem tl_snoc (l:List ByteArray) (k:ByteArray):tl (l++[k])=tl l++[.string k]:=by simp [tl]
theorem infoStr:(Tryz.prog.info? 9).map (fun i=>(i.zero,i.size,i.bytes))=some (some (.string ⟨#[]⟩),1,16):=by kernel_rfl
theorem info_parts3 {P:Program} {t:TypeId} {z:Value} {n b:Nat} (h:(P.info? t).map (fun i=>(i.zero,i.size,i.bytes))=some (some z,n,b)) :
  ∃ i,P.info? t=some i∧i.zero=some z∧i.size=n∧i.bytes=b:=by
 cases hq:P.info? t with
 | none=>simp [hq] at h
 | some i=>simp [hq] at h;exact ⟨i,rfl,h.1,h.2.1,h.2.2⟩
def OwnsT (w:World) (base:Nat) (v:Value) (l:List ByteArray):Prop:=w.ownsRow base 9 1 v l.length (tl l)
theorem OwnsT.kept {w w':World} {base:Nat} {v:Value} {l:List ByteArray} (h:OwnsT w base v l) (k:Kept w w'):OwnsT w' base v l:=by
 obtain ⟨h1,h2⟩:=h
 refine ⟨h1,?_⟩
 rcases h2 with h2|⟨b,cap,cur,e1,e2,e3,e4⟩
 ·exact .inl h2
 ·exact .inr ⟨b,cap,cur,e1,e2,k.heap e3,e4⟩
theorem OwnsT.all {w:World} {base:Nat} {v:Value} {l:List ByteArray} (h:OwnsT w base v l) (hl:0<l.length) :
  ∃ g cap,v=.slice (some ⟨g,0,none⟩) l.length cap∧l.length≤cap∧g<w.heap.size∧∀ (j:Nat) x,l[j]?=some x→w.cell? ⟨g,0+j,none⟩=some (.string x):=by
 rcases h.2 with ⟨e,h0⟩|⟨g,cap',cur,e,hb,hh,hnc,_,hcs,ht⟩
 ·omega
 ·refine ⟨g,cap',e,hnc,lt_of_heap hh,fun j x hx=>?_⟩
  have hj:j<l.length:=by
   obtain ⟨hj,_⟩:=List.getElem?_eq_some_iff.1 hx
   exact hj
  rw [Nat.zero_add,cell_of_row w g j cur _ (0,0) hh]
  have h2:(cur.toList.take (l.length*1))[j]?=(tl l)[j]?:=by rw [ht]
  rw [List.getElem?_take,if_pos (by omega)] at h2
  simp only [Array.getElem?_toList] at h2
  rw [h2]
  simp [tl,hx]
def rowsT (B:List Int) (k:Nat):List ByteArray:=(List.range k).map fun i=>⟨(rowT B (7-i)).toArray⟩
theorem rowsT_len (B:List Int) (k:Nat):(rowsT B k).length=k:=by simp [rowsT]
theorem rowsT_succ (B:List Int) (k:Nat):rowsT B (k+1)=rowsT B k++[⟨(rowT B (7-k)).toArray⟩]:=by simp [rowsT,List.range_succ]
theorem rowsT_join (B:List Int):Lib.join ((rowsT B 8).map (·.data.toList)) [47]=writeT B:=by
 rw [← writeT_join]
 congr 1
theorem row_int (B:List Int) (hB:Brd B) (hR:rightB B=true) (k:Nat) (hk:k<8) (w:World) :
  Calls Tryz.prog 42 #[.agg (cl B).toArray,.int .i64 (7-(k:Int))] w fun e w'=>e=.returned (.string ⟨(rowT B (7-k)).toArray⟩)∧Kept w w':=by
 have:=row_is B hB hR (7-k) (by omega) w
 rwa [show ((7-k:Nat):Int)=7-(k:Int) by omega] at this
theorem write_no (B:List Int) (hB:Brd B) (hR:rightB B=false) (w:World) :
  Calls Tryz.prog 14 #[.agg (cl B).toArray] w fun e w'=>e=.returned (.tuple #[.string ⟨#[]⟩,.int .i64 5])∧Kept w w':=by
 have hbl:=heap_alloc_new w (.cells (cl B).toArray 24)
 have hz:=Qh (size_cl hB.1)
 have H:=Qh hB
 clear hB
 go_enter Tryz.func14,Tryz.ntmps14
 go_wp2_with (refine wpList_load_w (by rfl) _ rfl _ rfl _ (hbl) hz.out ?_)
 refine (bright_is B H.out _).mono ?_
 rw [hR]
 rintro e w1 ⟨rfl,g1⟩
 go_wp2
 go_ret2
 exact ⟨rfl,((Kept.refl w).alloc _).trans g1⟩
theorem write_yes (B:List Int) (hB:Brd B) (hR:rightB B=true) (w:World) :
  Calls Tryz.prog 14 #[.agg (cl B).toArray] w fun e w'=>e=.returned (.tuple #[.string ⟨(writeT B).toArray⟩,.int .i64 0])∧Kept w w':=by
 have hbl:=Qh (heap_alloc_new w (.cells (cl B).toArray 24))
 have hz:=Qh (size_cl hB.1)
 have H:=Qh hB
 have HR:=Qh hR
 obtain ⟨i0,hi0,hz0,hz1,hz2⟩:=info_parts3 infoStr
 obtain ⟨W,eW⟩:∃ W,W=w.alloc (.cells (cl B).toArray 24):=⟨_,rfl⟩
 have hkW:=Qh (show Kept w W by rw [eW];exact (Kept.refl w).alloc _)
 have hbW:=Qh (show W.heap[w.heap.size]?=some (.cells (cl B).toArray 24 (0,0)) by rw [eW];exact hbl.out)
 have hsz:=Qh (show W.heap.size=w.heap.size+1 by rw [eW];simp)
 have HW:=Qh eW
 clear hB hR eW
 go_enter Tryz.func14,Tryz.ntmps14
 go_wp2_with (refine wpList_load_w (by rfl) _ rfl _ rfl _ (hbl.out) hz.out ?_)
 refine (bright_is B H.out _).mono ?_
 rw [HR.out]
 rintro e w1 ⟨rfl,g1⟩
 have HK1:=Qh (show Kept W w1 by rw [HW.out];exact g1)
 clear g1
 go_wp2
 go_loopw [4,5] (fun t4 t5 wr=>∃ (k:Nat),k≤8∧t5=.int .i64 (7-(k:Int))∧OwnsT wr (w.heap.size+1) t4 (rowsT B k)∧Kept W wr) (fun _ t5 _=>(intOf t5+1).toNat)
 case atStart=>exact ⟨0,by omega,rfl,World.ownsRow_nil _ _ _ _,HK1.out⟩
 case round =>
  obtain ⟨k,hk,rfl,hown,hK⟩:=hrel
  have HO:=Qh hown
  have HK:=Qh hK
  clear hown hK
  by_cases hl:k<8
  ·have hl':(0:Int)≤7-(k:Int):=by omega
   have hbr:=HK.out.heap hbW.out
   go_wp2_with (refine wpList_load_w (by rfl) _ rfl _ rfl _ hbr hz.out ?_)
   refine (row_int B H.out HR.out k hl _).mono ?_
   rintro e w2 ⟨rfl,g2⟩
   have HO2:=Qh (HO.out.kept g2)
   have HK2:=Qh (HK.out.trans g2)
   have hrl:=Qh (rowsT_len B k)
   clear g2 hbr
   go_wp2_with (at_builtin;refine wpList_append_own _ rfl _ _ 50 rfl (w.heap.size+1) 9 i0 (.string ⟨#[]⟩) 1 16 Tryz.underlying50 hi0 hz0 hz1 hz2 rfl (by decide) _ _ _ rfl (World.ownsRow.alloc HO2.out _) ⟨w2.heap.size,0,none⟩ 1 1 [.string ⟨(rowT B (7-k)).toArray⟩] rfl rfl ?c1 ?c2 ?c3 ?c4 ?c5 ?_)
   case c1 =>
    intro j u hj
    match j,hj with
    | 0,hj=>simp at hj;subst hj;simp [Addr.add]
   case c2=>intro u hu;simp at hu;subst hu;rfl
   case c3=>unfold maxLen;have:=hrl.out;omega
   case c4=>have:=hrl.out;omega
   case c5=>have:=HK2.out.size;have:=hsz.out;simp;omega
   intro v' w3 hown' hgrow _
   have HO3:Hid (OwnsT w3 (w.heap.size+1) v' (rowsT B (k+1))):=by
    refine Qh ?_
    unfold OwnsT
    rw [rowsT_succ,tl_snoc]
    simpa [rowsT_len] using hown'
   have HK3:Hid (Kept W w3):=(HK2.out.alloc _).grownBy hgrow (fun g hgv=>by have:=(World.ownsRow.lt HO2.out g hgv).1;have:=hsz.out;omega)
   clear hown' hgrow
   go_wp2
   go_roundw
   case rel=>exact ⟨k+1,by omega,by go_num,HO3.out,HK3.out⟩
   case measure=>simp [intOf];omega
  ·have e8:k=8:=by omega
   subst e8
   obtain ⟨g,cap,ev,hcap,hg,hcells⟩:=OwnsT.all HO.out (by rw [rowsT_len];omega)
   rw [rowsT_len] at ev hcap
   subst ev
   have HC:=Qh hcells
   clear hcells hl
   have hj:=Tryz.strings_Join g 0 cap (rowsT B 8) ⟨#[47]⟩ wr HC.out hg (by rw [rowsT_len];omega) (by rw [rowsT_len];exact hcap) (by have:=writeT_len B;rw [show (⟨#[47]⟩:ByteArray).data.toList=[47] from rfl,rowsT_join];omega)
   rw [rowsT_len,show (⟨#[47]⟩:ByteArray).data.toList=[47] from rfl,rowsT_join] at hj
   have HJ:=Qh hj
   clear hj
   go_wp2_with fail
   refine (HJ.out).mono ?_
   rintro e w2 ⟨rfl,g2⟩
   have HK2:=Qh ((hkW.out.trans HK.out).trans (Below.toKept g2))
   clear g2
   go_wp2
   go_ret2
   exact ⟨rfl,HK2.out⟩
end Go.Proofs.YtlbipjmmlobofaaGreatDoor
