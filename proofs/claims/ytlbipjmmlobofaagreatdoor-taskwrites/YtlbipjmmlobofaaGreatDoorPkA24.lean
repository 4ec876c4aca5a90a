/- RoH · TsV · TkB: my texts, in their order. -/
import Derived.Test.YtlbipjmmlobofaaGreatDoorPkA13
import Derived.Test.YtlbipjmmlobofaaGreatDoorPkA14
import Derived.Test.YtlbipjmmlobofaaGreatDoorPkA21
import Derived.Test.YtlbipjmmlobofaaGreatDoorPkA23
import Derived.Laws.AppendOwnNone
import Derived.Lib.LaidTab
namespace Go.Proofs.YtlbipjmmlobofaaGreatDoor
open Go.RowKit
set_option linter.unusedVariables false
set_option maxRecDepth 100000
set_option linter.unusedSimpArgs false
theorem wpList_append_texts {ops:Array Oper} {rest:List Oper} {o:Oper} {a:Act} {w:World} {Q:Exit→Act→World→Prop} (hgd:o.guard=none) (s x:Operand)
  (ho:o.op=.call { callee:=.builtin .append,args:=#[s,x],argTypes:=#[50,50] })
  (base b2:Nat) (v vx:Value) (l L:List ByteArray) (hs:a.eval s=v) (hx:a.eval x=vx) (hown:OwnsT w base v l) (hL:OwnsT w b2 vx L) (hlen:l.length+L.length≤100000) (hbase:base≤w.heap.size)
  (h:∀ v' w',OwnsT w' base v' (l++L)→w.grownBy w' v.ownBlock→wpList Tryz.prog ops Q rest (a.put o.dst v') w'):wpList Tryz.prog ops Q (o::rest) a w:=by
 obtain ⟨i0,hi0,hz0,hz1,hz2⟩:=info_parts3 infoStr
 rcases hL.2 with ⟨e,h0⟩|⟨g,cap,cur,e,hb,hh,hnc,_,hcs,ht⟩
 ·have hL0:L=[]:=List.eq_nil_of_length_eq_zero h0
  subst hL0
  rw [e] at hx
  refine wpList_append_own_none hgd s x 50 ho base 9 i0 1 Tryz.underlying50 hi0 v _ _ hs hown hx ?_
  exact h v w (by simpa using hown) ⟨rfl,rfl,rfl,Nat.le_refl _,fun _ _ _=>rfl⟩
 ·rw [e] at hx
  refine wpList_append_own w hgd s x 50 ho base 9 i0 (.string ⟨#[]⟩) 1 16 Tryz.underlying50 hi0 hz0 hz1 hz2 rfl (by decide) v _ _ hs hown ⟨g,0,none⟩ L.length cap (tl L) hx (by simp [tl]) ?_ ?_ ?_ ?_ hbase ?_
  ·intro j u hu
   have hj:j<L.length:=by
    obtain ⟨hj,_⟩:=List.getElem?_eq_some_iff.1 hu
    simpa [tl] using hj
   rw [show (⟨g,0,none⟩:Addr).add j=⟨g,j,none⟩ by simp [Addr.add];omega,cell_of_row w g j cur _ (0,0) hh,← hu,← ht,List.getElem?_take,if_pos (by omega)]
   simp
  ·intro u hu
   unfold tl at hu
   obtain ⟨y,_,rfl⟩:=List.mem_map.1 hu
   rfl
  ·unfold maxLen;omega
  ·omega
  ·intro v' w' h1 h2 _
   refine h v' w' ?_ h2
   unfold OwnsT
   have e2:tl (l++L)=tl l++tl L:=by simp [tl]
   rw [e2,List.length_append]
   exact h1
set_option maxHeartbeats 16000000

def okK (K:Tk):Bool:=rightB K.B && (okSt K.s && okW K)
theorem okK_T {K:Tk} (h:okK K=true):OkT K:=by
 unfold okK at h
 simp only [Bool.and_eq_true] at h
 obtain ⟨h1,h2,h3⟩:=h
 obtain ⟨a,b,c,d,e⟩:=(okW_iff K).1 h3
 exact ⟨a,b,by omega,h2,d,e⟩
def txK (K:Tk):ByteArray:=⟨(txR 0 (writeT K.B) K).toArray⟩
theorem txK_bs (K:Tk):bs (txK K)=txR 0 (writeT K.B) K:=rfl
theorem writeT_10 {B:List Int} (h:∀ i,i<64→okB (B.getD i 0)=true):(10:UInt8) ∉ writeT B:=by
 intro hm
 obtain ⟨a,b,e⟩:=List.append_of_mem hm
 have h1:=writeT_says h
 rw [e] at h1
 obtain ⟨s,hs⟩:=says_some (a:=a++[10]) (b:=b) (by rw [List.append_assoc];exact h1)
 rw [says_snoc] at hs
 cases ha:says a with
 | none=>rw [ha] at hs;cases hs
 | some s' =>
  rw [ha] at hs
  have h0:manOf 10=0:=by decide +kernel
  simp [stp,h0] at hs
theorem right_all {B:List Int} (hB:B.length=64) (h:rightB B=true):∀ i,i<64→okB (B.getD i 0)=true:=(rightB_iff B hB).1 h
theorem sep_lines (L:List ByteArray):Lib.joinTail [10] (L.map fun x=>x.data.toList)=L.flatMap fun x=>10::bs x:=by
 unfold Lib.joinTail
 rw [List.map_map,← List.flatMap_def]
 rfl
theorem tail_lines (K:Tk):((opL7 K).map fun i=>lineT i (toldV K i)).flatMap (fun x=>10::bs x)++[10]=10::txO K:=by
 unfold txO
 generalize opL7 K=L
 have:∀ L:List Nat,(L.map fun i=>lineT i (toldV K i)).flatMap (fun x=>10::bs x)++[10]=10::L.flatMap fun i=>olL i (toldV K i):=by
  intro L
  induction L with
  | nil=>rfl
  | cons i L ih =>
   simp only [List.map_cons,List.flatMap_cons,List.append_assoc,List.cons_append]
   rw [ih]
   unfold olL
   rw [lineT_bs]
   simp
 exact this L
theorem tdL_7 (K:Tk):tdL K 7=(opL7 K).map fun i=>lineT i (toldV K i):=rfl
theorem write_bytes (K:Tk) (b d:ByteArray) (hb:bs b=writeT K.B) (hd:d=txT K.s) :
  begL++(Lib.join (([fsT++b,amT++d]++tdL K 7).map fun x=>x.data.toList) [10]++([10]++endL))=txR 0 (writeT K.B) K:=by
 rw [List.map_append,List.map_cons,List.map_cons,List.map_nil,List.cons_append,Lib.join_cons,List.cons_append,List.nil_append]
 have e1:Lib.joinTail [10] ((amT++d).data.toList::(tdL K 7).map fun x=>x.data.toList)=(10::bs (amT++d))++Lib.joinTail [10] ((tdL K 7).map fun x=>x.data.toList):=rfl
 rw [e1,sep_lines,tdL_7]
 have e2:=tail_lines K
 show begL++((bs (fsT++b)++((10::bs (amT++d))++_))++([10]++endL))=_
 unfold txR txA
 rw [bs_append,bs_append,hb,hd]
 simp only [List.append_assoc,List.cons_append]
 have e3:((opL7 K).map fun i=>lineT i (toldV K i)).flatMap (fun x=>10::bs x)++([10]++endL)=10::(txO K++endL):=by
  rw [← List.append_assoc,e2];rfl
 simp only [List.append_assoc,List.cons_append,List.nil_append] at e3 ⊢
 rw [e3]
 rfl
theorem fill_2 (x y:ByteArray):Instr.fill (fun i=>some (i*1,1)) ((Array.range (2*1)).map ((Value.string ⟨#[]⟩).cells[· % (Value.string ⟨#[]⟩).cells.size]!)) [(0,.string x),(1,.string y)]=some #[.string x,.string y]:=by kernel_rfl
theorem wpList_bslice_2v {ops:Array Oper} {rest:List Oper} {o:Oper} {a:Act} {w:World} {Q:Exit→Act→World→Prop} (hg:o.guard=none) (x0 x1:Operand) (x y:ByteArray)
  (ho:o.op=.buildSlice 50 2 #[(0,x0),(1,x1)]) (h0:a.eval x0=.string x) (h1:a.eval x1=.string y)
  (h:wpList Tryz.prog ops Q rest (a.put o.dst (.slice (some ⟨w.heap.size,0,none⟩) 2 2)) (w.alloc (.cells #[.string x,.string y] 9))):wpList Tryz.prog ops Q (o::rest) a w:=by
 obtain ⟨ie,e1,e2,e3⟩:=info_txt
 refine wpList_buildSlice hg 50 9 2 _ ho #[.string x,.string y] ie (.string ⟨#[]⟩) Tryz.underlying50 e1 e2 (by rw [e3];decide) (by rw [e3];decide) ?_ h
 rw [e3]
 have:((#[(0,x0),(1,x1)]:Array (Nat × Operand)).map fun (i,x)=>(i,a.eval x)).toList=[(0,.string x),(1,.string y)]:=by simp [h0,h1]
 rw [this]
 exact fill_2 x y
theorem own_two (w:World) (x y:ByteArray):OwnsT (w.alloc (.cells #[.string x,.string y] 9)) w.heap.size (.slice (some ⟨w.heap.size,0,none⟩) 2 2) [x,y] :=
 World.ownsRow_lit w #[.string x,.string y] 2 (Nat.le_refl _) (by decide) rfl
theorem txO_len (K:Tk) (h:OkT K):∀ x ∈ tdL K 7,(bs x).length≤30:=by
 intro x hx
 rw [tdL_7] at hx
 obtain ⟨i,hi,rfl⟩:=List.mem_map.1 hx
 have hv:=told_ok h i hi
 rw [lineT_bs,List.length_append]
 have h1:=ow_small i
 have h2:(opW i).length≤14:=h1
 have h3:(vaL i (toldV K i)).length≤10:=by
  have hi7:i<7:=op7_lt i (List.mem_filter.1 hi).1
  have:i=0∨i=1∨i=2∨i=3∨i=4∨i=5∨i=6:=by omega
  rcases this with rfl|rfl|rfl|rfl|rfl|rfl|rfl
  ·simp [vaL]
  ·simp [vaL]
  ·show (sdW _).length≤10
   unfold sdW;split <;> decide
  ·have hv:1≤toldV K 3∧toldV K 3≤1000:=hv
   have:=dT_small (toldV K 3) (by omega) (by omega)
   exact this
  ·have hv:1≤toldV K 4∧toldV K 4≤15:=hv
   have:=caU_len (toldV K 4).toNat 4
   rw [caU_4] at this
   show (caL _).length≤10
   omega
  ·show (2:Nat)≤10;omega
  ·have hv:0≤toldV K 6∧toldV K 6≤4:=hv
   have:=dT_small (toldV K 6) (by omega) (by omega)
   exact this
 omega
theorem txT_small {s:Stp} (hs:okSt s=true):(txT s).size≤100:=by
 rw [txT_size]
 have h1:=hdL_last (okS_hd hs)
 have hv:=okS_M hs
 obtain ⟨N,hN⟩:∃ N:Nat,s.n=N:=⟨s.n.toNat,by have:=hv.1;omega⟩
 have hN64:N≤64:=by
  have:=hv.2.1
  rw [hN] at this
  simpa using this
 rw [hN,nm_len N (by omega)]
 have h2:(nmN N s.h).length≤4:=by
  unfold nmN
  split <;> split <;> simp
 omega
def tabsW (w:World):Prop:=TabS w∧PowT w
theorem tabsW.kept {w w':World} (h:tabsW w) (k:Kept w w'):tabsW w':=⟨h.1.kept k,h.2.kept k⟩
theorem kflat_len {α:Type} (f:α→List UInt8) (n:Nat):∀ L:List α,(∀ x ∈ L,(f x).length≤n)→(L.flatMap f).length≤n*L.length
 | [],_=>by simp
 | x::L,h=>by
  have h1:=h x (by simp)
  have h2:=kflat_len f n L (fun y hy=>h y (by simp [hy]))
  rw [List.flatMap_cons,List.length_append,List.length_cons,Nat.mul_succ]
  omega
theorem txR_len (K:Tk) (h:OkT K) (hs:okSt K.s=true):(txR 0 (writeT K.B) K).length≤600:=by
 have h1:=congrArg List.length (tail_lines K)
 have h2:=kflat_len (fun x=>10::bs x) 31 (tdL K 7) (fun x hx=>by have:=txO_len K h x hx;simp;omega)
 rw [← tdL_7,List.length_append] at h1
 have h3:=tdL_len K 7
 have h4:=writeT_len K.B
 have h5:=txT_small hs
 rw [← bs_len] at h5
 unfold txR txA begL aimL endL rowW
 simp only [List.length_append,List.length_cons,List.length_nil] at *
 omega
theorem kwrite_no (K:Tk) (hB:Brd K.B) (h:okK K=false) (w:World) (hT:tabsW w) :
  Calls Tryz.prog 8 #[kv K] w fun e w'=>e=.returned (.tuple #[.string ⟨#[]⟩,.int .i64 5])∧Kept w w':=by
 have H1:=Qh (KAt.new w hB.1)
 have K1:=Qh ((Kept.refl w).alloc (.cells (kcl K).toArray 30))
 have HT:=Qh hT
 have HBR:=Qh hB
 have hlen:=Qh hB.1
 have HST:=Qh (fun w hT=>write_is K.s w hT)
 clear hT
 cases hb:rightB K.B
 ·have HF:=Qh (fun w=>write_no K.B hB hb w)
  clear hb h hB
  go_enter Tryz.func8,Tryz.ntmps8
  go_upto_region 1 with (refine wpList_box_k rfl _ rfl K rfl ?_)
  generalize w.alloc (.cells (kcl K).toArray 30)=W1 at *
  generalize w.heap.size=g at *
  go_wp2_with (refine wpList_load_midw (by rfl) 24 _ rfl g 0 rfl (cl K.B) _ H1.out.boardR Tryz.underlying24 rfl (by rw [size24,cl_length,hlen.out]) ?_)
  refine (HF.out _).mono ?_
  rintro e w2 ⟨rfl,k2⟩
  have H2:=Qh (H1.out.heap k2)
  have K2:=Qh (K1.out.trans k2)
  clear k2
  go_wp2_with ((with_reducible refine wpList_load_q rfl _ rfl g 67 ?_ K.s H2.out.stip ?_);exact rfl)
  refine (HST.out _ (HT.out.kept K2.out).1).mono ?_
  rintro e w3 ⟨rfl,k3⟩
  have K3:=Qh (K2.out.trans k3)
  clear k3
  go_wp2
  go_ret2
  exact ⟨rfl,K3.out⟩
 ·have HF:=Qh (fun w=>write_yes K.B hB hb w)
  cases hs:okSt K.s
  ·rw [hs] at HST
   clear hb h hB hs
   go_enter Tryz.func8,Tryz.ntmps8
   go_upto_region 1 with (refine wpList_box_k rfl _ rfl K rfl ?_)
   generalize w.alloc (.cells (kcl K).toArray 30)=W1 at *
   generalize w.heap.size=g at *
   go_wp2_with (refine wpList_load_midw (by rfl) 24 _ rfl g 0 rfl (cl K.B) _ H1.out.boardR Tryz.underlying24 rfl (by rw [size24,cl_length,hlen.out]) ?_)
   refine (HF.out _).mono ?_
   rintro e w2 ⟨rfl,k2⟩
   have H2:=Qh (H1.out.heap k2)
   have K2:=Qh (K1.out.trans k2)
   clear k2
   go_wp2_with ((with_reducible refine wpList_load_q rfl _ rfl g 67 ?_ K.s H2.out.stip ?_);exact rfl)
   refine (HST.out _ (HT.out.kept K2.out).1).mono ?_
   rintro e w3 ⟨rfl,k3⟩
   have K3:=Qh (K2.out.trans k3)
   clear k3
   go_wp2
   go_ret2
   exact ⟨rfl,K3.out⟩
  ·have hw:okW K=false:=by
    unfold okK at h
    rw [hb,hs] at h
    simpa using h
   have HWi:=Qh (fun w=>within_k K hB.1 w)
   rw [hw] at HWi
   rw [hs] at HST
   clear hb h hB hs hw
   go_enter Tryz.func8,Tryz.ntmps8
   go_upto_region 1 with (refine wpList_box_k rfl _ rfl K rfl ?_)
   generalize w.alloc (.cells (kcl K).toArray 30)=W1 at *
   generalize w.heap.size=g at *
   go_wp2_with (refine wpList_load_midw (by rfl) 24 _ rfl g 0 rfl (cl K.B) _ H1.out.boardR Tryz.underlying24 rfl (by rw [size24,cl_length,hlen.out]) ?_)
   refine (HF.out _).mono ?_
   rintro e w2 ⟨rfl,k2⟩
   have H2:=Qh (H1.out.heap k2)
   have K2:=Qh (K1.out.trans k2)
   clear k2
   go_wp2_with ((with_reducible refine wpList_load_q rfl _ rfl g 67 ?_ K.s H2.out.stip ?_);exact rfl)
   refine (HST.out _ (HT.out.kept K2.out).1).mono ?_
   rintro e w3 ⟨rfl,k3⟩
   have K3:=Qh (K2.out.trans k3)
   have H3:=Qh (H2.out.heap k3)
   clear k3
   go_wp2_with (refine wpList_load_k (by rfl) _ rfl g rfl K H3.out ?_)
   refine (HWi.out _).mono ?_
   rintro e w4 ⟨rfl,k4⟩
   have K4:=Qh (K3.out.trans k4)
   clear k4
   go_wp2
   go_ret2
   exact ⟨rfl,K4.out⟩
theorem kwrite_yes (K:Tk) (hB:Brd K.B) (h:okK K=true) (w:World) (hT:tabsW w) :
  Calls Tryz.prog 8 #[kv K] w fun e w'=>e=.returned (.tuple #[.string (txK K),.int .i64 0])∧Kept w w':=by
 have H1:=Qh (KAt.new w hB.1)
 have K1:=Qh ((Kept.refl w).alloc (.cells (kcl K).toArray 30))
 have HT:=Qh hT
 have hlen:=Qh hB.1
 have HOT:=okK_T h
 have h':=h
 unfold okK at h'
 simp only [Bool.and_eq_true] at h'
 obtain ⟨hb,hs,hw⟩:=h'
 have HST:=Qh (fun w hT=>write_is K.s w hT)
 rw [hs] at HST
 rw [show wrT K.s=txT K.s by unfold wrT;rw [if_pos hs]] at HST
 have HF:=Qh (fun w=>write_yes K.B hB hb w)
 have HWi:=Qh (fun w=>within_k K hB.1 w)
 rw [hw] at HWi
 have HTo:=Qh (fun w hP=>told_is K hB.1 HOT w hP)
 have hbsz:(⟨(writeT K.B).toArray⟩:ByteArray).size≤200:=writeT_len K.B
 have hdsz:(txT K.s).size≤100:=txT_small hs
 have HBY:=Qh (write_bytes K ⟨(writeT K.B).toArray⟩ (txT K.s) rfl rfl)
 have hLEN:=Qh (txR_len K HOT hs)
 generalize (⟨(writeT K.B).toArray⟩:ByteArray)=b at *
 generalize txT K.s=d at *
 clear hb h hB hs hw hT HOT
 have hs1:8+b.size≤9223372036854775807:=by omega
 have hs2:5+d.size≤9223372036854775807:=by omega
 go_enter Tryz.func8,Tryz.ntmps8
 go_upto_region 1 with (refine wpList_box_k rfl _ rfl K rfl ?_)
 generalize w.alloc (.cells (kcl K).toArray 30)=W1 at *
 generalize hg:w.heap.size=g at *
 have HG:=Qh hg
 clear hg
 go_wp2_with (refine wpList_load_midw (by rfl) 24 _ rfl g 0 rfl (cl K.B) _ H1.out.boardR Tryz.underlying24 rfl (by rw [size24,cl_length,hlen.out]) ?_)
 refine (HF.out _).mono ?_
 rintro e w2 ⟨rfl,k2⟩
 have H2:=Qh (H1.out.heap k2)
 have K2:=Qh (K1.out.trans k2)
 clear k2
 go_wp2_with ((with_reducible refine wpList_load_q rfl _ rfl g 67 ?_ K.s H2.out.stip ?_);exact rfl)
 refine (HST.out _ (HT.out.kept K2.out).1).mono ?_
 rintro e w3 ⟨rfl,k3⟩
 have K3:=Qh (K2.out.trans k3)
 have H3:=Qh (H2.out.heap k3)
 clear k3
 go_wp2_with (refine wpList_load_k (by rfl) _ rfl g rfl K H3.out ?_)
 refine (HWi.out _).mono ?_
 rintro e w4 ⟨rfl,k4⟩
 have K4:=Qh (K3.out.trans k4)
 have H4:=Qh (H3.out.heap k4)
 clear k4
 have HO4:=Qh (own_two w4 (fsT++b) (amT++d))
 have K5:=Qh (K4.out.alloc (.cells #[.string (fsT++b),.string (amT++d)] 9))
 have H5:=Qh (H4.out.heap ((Kept.refl w4).alloc (.cells #[.string (fsT++b),.string (amT++d)] 9)))
 go_upto_region 6 with (refine wpList_bslice_2v rfl _ _ (fsT++b) (amT++d) rfl rfl rfl ?_)
 have hw4:=Qh (K4.out.size)
 generalize w4.alloc (.cells #[.string (fsT++b),.string (amT++d)] 9)=W5 at *
 generalize w4.heap.size=g5 at *
 go_wp2_with (refine wpList_load_k (by rfl) _ rfl g rfl K H5.out ?_)
 refine (HTo.out _ (HT.out.kept K5.out).2).mono ?_
 rintro e w6 ⟨v,rfl,ho,k6⟩
 have HV:Hid (OwnsT w6 W5.heap.size v (tdL K 7)):=Qh ho
 have HO6:=Qh (HO4.out.kept k6)
 have K6:=Qh (K5.out.trans k6)
 clear ho k6
 go_wp2_with (at_builtin;refine wpList_append_texts rfl _ _ rfl g5 _ _ _ _ _ rfl rfl HO6.out HV.out ?c1 ?c2 ?_)
 case c1=>have:=tdL_len K 7;simp;omega
 case c2=>exact Nat.le_of_lt (World.ownsRow.lt HO6.out g5 rfl).2
 intro v7 w7 ho7 hg7
 have HO7:Hid (OwnsT w7 g5 v7 ([fsT++b,amT++d]++tdL K 7)):=Qh ho7
 have K7:=Qh (K6.out.grownBy hg7 (fun k hk=>by have:=(World.ownsRow.lt HO6.out k hk).1;have:=hw4.out;omega))
 clear ho7 hg7
 obtain ⟨gx,capx,rfl,hcx,hgx,hcell⟩:=HO7.out.all (by simp)
 have hx9:([fsT++b,amT++d]++tdL K 7).length≤9:=by have:=tdL_len K 7;simp;omega
 obtain ⟨xs,hxs⟩:∃ xs,xs=[fsT++b,amT++d]++tdL K 7:=⟨_,rfl⟩
 rw [← hxs] at hcx hcell hx9
 rw [← hxs]
 have HJ:=Qh (by
  have:=HBY.out
  rw [← hxs] at this
  exact this)
 have hjl:Hid ((Lib.join (xs.map fun x=>x.data.toList) [10]).length≤600):=Qh (by
  have h1:=congrArg List.length HJ.out
  have h2:=hLEN.out
  rw [List.length_append,List.length_append] at h1
  omega)
 have hcell7:=Qh hcell
 have hgx7:=Qh hgx
 have hcx7:=Qh hcx
 have hx9':=Qh hx9
 generalize hm:xs.length=m at *
 clear hcell hgx hcx hx9 hxs hs1 hs2 hbsz hdsz
 go_wp2_with fail
 rw [← hm]
 refine (Tryz.strings_Join gx 0 capx xs ⟨#[10]⟩ _ hcell7.out hgx7.out (by have:=hx9'.out;omega) (by have:=hcx7.out;omega) (by have:=hjl.out;exact Nat.le_trans this (by decide))).mono ?_
 rintro e w8 ⟨rfl,k8⟩
 have K8:=Qh (K7.out.trans (Below.toKept k8))
 have hJ:(⟨(Lib.join (xs.map fun x=>x.data.toList) [10]).toArray⟩:ByteArray).size≤600:=by
  show (Lib.join (xs.map fun x=>x.data.toList) [10]).toArray.size≤600
  have:=hjl.out
  simpa using this
 have HE:Hid (((⟨#[98,101,103,105,110,10]⟩++(⟨(Lib.join (xs.map fun x=>x.data.toList) [10]).toArray⟩:ByteArray))++⟨#[10]⟩)++⟨#[101,110,100,10]⟩=txK K):=Qh (by
  apply bs_inj
  rw [txK_bs,← HJ.out,bs_append,bs_append,bs_append,List.append_assoc,List.append_assoc]
  rfl)
 have e10:(⟨#[10]⟩:ByteArray).data.toList=[10]:=rfl
 rw [e10]
 generalize (⟨(Lib.join (xs.map fun x=>x.data.toList) [10]).toArray⟩:ByteArray)=J at *
 have hj1:6+J.size≤9223372036854775807:=by omega
 have hj2:6+J.size+1≤9223372036854775807:=by omega
 have hj3:6+J.size+1+4≤9223372036854775807:=by omega
 clear k8 hm
 go_wp2
 go_ret2
 exact ⟨by rw [← HE.out];rfl,K8.out⟩
end Go.Proofs.YtlbipjmmlobofaaGreatDoor
namespace Go.Proofs.YtlbipjmmlobofaaGreatDoor
open Go.ChangeShapes Go.WideShapes Go.ChangeAt Go.RowKit
open Go.Joins Go.Deep
set_option maxRecDepth 100000
theorem gPow : Tryz.prog.globalNamed "internal/strconv.uint64pow10" = some 5 := by kernel_rfl
theorem gPowType:(Tryz.prog.globals[5]?).map (·.type)=some 186:=by kernel_rfl
theorem powD_is:(Rows.laid_internal_strconv_uint64pow10:DataW Unit)=Lib.tabData .u64 Lib.pow10Tab:=by rfl
theorem powT_of {W : World} (h : laidMetH Tryz.prog [("internal/strconv.uint64pow10", Rows.laid_internal_strconv_uint64pow10)] W) : PowT W := by
 rw [powD_is] at h
 exact Lib.tabIs_of_head gPow gPowType Tryz.underlying186 Tryz.underlying162 (by kernel_rfl) (by kernel_rfl) h
end Go.Proofs.YtlbipjmmlobofaaGreatDoor
