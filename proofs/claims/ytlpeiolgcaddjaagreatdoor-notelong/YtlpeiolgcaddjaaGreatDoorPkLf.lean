/- LeF: my texts, in their order. -/
import Derived.Test.YtlpeiolgcaddjaaGreatDoorPkGa
import Derived.Test.YtlpeiolgcaddjaaGreatDoorPkH
import Derived.Lib.SliceRun
namespace Go.Proofs.YtlpeiolgcaddjaaGreatDoor
open Go.RowKit
set_option linter.unusedVariables false
set_option linter.unusedSimpArgs false
set_option maxRecDepth 100000
theorem range_ij {w:World} {g off:Nat} {l:List Mv} (h:w.rangeAt g off (mlL l)) {i:Nat} {m:Mv} (hi:l[i]?=some m):w.rangeAt g (off+i*3) (ml m):=by
 have:=range_mv h hi;rwa [Nat.mul_comm] at this
theorem Qn {ops:Array Oper} {rest:List Oper} {op:Oper} {a:Act} {w:World} {Q:Exit→Act→World→Prop} (hgd:op.guard=none) (x:Operand) (ho:op.op=.load 28 x)
  (g off:Nat) (hx:a.eval x=.pointer (some ⟨g,off,none⟩)) (m:Mv) (hg:w.rangeAt g off (ml m))
  (h:wpList Tryz.prog ops Q rest (a.put op.dst (.agg (ml m).toArray)) w):wpList Tryz.prog ops Q (op::rest) a w :=
 wpList_plain hgd fun _ hK=>wp_load_mid 28 x ho g off hx (ml m) _ hg Tryz.underlying28 rfl sizeM (hK _ _ h)
theorem wpList_store_mvo {ops:Array Oper} {rest:List Oper} {op:Oper} {a:Act} {w:World} {Q:Exit→Act→World→Prop} (hgd:op.guard=none) (x y:Operand) (ho:op.op=.store 28 x y)
  (g off:Nat) (m:Mv) (hx:a.eval x=.pointer (some ⟨g,off,none⟩)) (hy:a.eval y=.agg (ml m).toArray) (ht:w.there g off 3)
  (h:wpList Tryz.prog ops Q rest (a.put op.dst undef) (w.setCells g off (ml m))):wpList Tryz.prog ops Q (op::rest) a w :=
 wpList_store_mid hgd 28 x y ho g off (ml m).toArray hx hy ht (ml_sz m) (ml_one _) h
structure Asks (W:World) (g k:Nat) (cb:Array Value) (L:List Mv) (pd:Mv→Bool):Prop where
 ent:∀ args w,(callFunc k args).run Tryz.prog w=.ok (.enter k args) w
 call:∀ m,m ∈ L→∀ w,KB W g w→Calls Tryz.prog k (#[.agg (ml m).toArray]++cb) w fun e w'=>e=.returned (.bool (pd m))∧Kept w w'
def IdxR (L:List Mv) (pd:Mv→Bool) (i:Int):Prop :=
 (i=-1∧∀ (j:Nat) (m:Mv),L[j]?=some m→pd m=false)∨∃ (n:Nat) (m:Mv),i=n∧L[n]?=some m∧pd m=true∧∀ (j:Nat) (m':Mv),j<n→L[j]?=some m'→pd m'=false
set_option maxHeartbeats 2000000 in
theorem indexF_is (W:World) (g k:Nat) (cb:Array Value) (L:List Mv) (pd:Mv→Bool) (hA:Asks W g k cb L pd) (v:Value) (w:World) (hW:KB W g w) (h:LsM w g v L) :
  Calls Tryz.prog 104 #[v,.func (.func k) #[] cb] w fun e w'=>∃ i:Int,e=.returned (.int .i64 i)∧IdxR L pd i∧Kept w w':=by
 have hent:=hA.ent;have HC:=Qh hA.call;have HW:=Qh hW;clear hA hW;by_cases hl:0<L.length
 ·obtain ⟨off,cap,rfl,h1,h2,h3⟩:=h.full hl
  have H3:=Qh h3;generalize hn:L.length=n at *;have HN:=Qh hn;have hm:n≤maxLen:=by omega
  unfold maxLen at hm;clear h h3 hn h2;go_enter Tryz.func104,Tryz.ntmps104;go_wp2
  go_loopw [8] (fun t8 wr=>∃ i:Nat,i≤n∧t8=.int .i64 i∧(∀ j m',j<i→L[j]?=some m'→pd m'=false)∧Kept w wr) (fun t8 _=>n-(intOf t8).toNat)
  case atStart=>exact ⟨0,Nat.zero_le _,rfl,fun j m' hj=>by omega,Kept.refl _⟩
  case round =>
   obtain ⟨i,hi,rfl,hno,hK⟩:=hrel;have HO:=Qh hno;have HK:=Qh hK;clear hno;by_cases hlt:i<n
   ·have hlt':(i:Int)<(n:Int):=by omega
    obtain ⟨x,hx⟩:∃ x,L[i]?=some x:=⟨_,List.getElem?_eq_getElem (by have:=HN.out;omega)⟩;have HR:=Qh (range_ij (Yf H3.out hK) hx);have HX:=Qh hx;have HCx:=Qh (HC.out x (List.mem_of_getElem? hx) wr (HW.out.kept hK));clear hx hK
    cases hb:pd x
    ·rw [hb] at HCx
     have Hb:=Qh hb;clear hb;go_wp2_with ((with_reducible refine Qn rfl _ rfl g (off+i*3) ?_ x HR.out ?_);exact rfl)
     refine HCx.out.mono ?_;rintro e w1 ⟨rfl,k1⟩;have HK1:=Qh (HK.out.trans k1);clear k1;go_wp2;go_roundw
     case rel=>exact ⟨i+1,by omega,by go_num,fun j m' hj hjm=>by
      by_cases hji:j<i
      ·exact HO.out j m' hji hjm
      ·obtain rfl:j=i:=by omega
       rw [HX.out] at hjm;rw [← Option.some.inj hjm];exact Hb.out,HK1.out⟩
     case measure=>simp [intOf];omega
    ·rw [hb] at HCx
     have Hb:=Qh hb;clear hb;go_wp2_with ((with_reducible refine Qn rfl _ rfl g (off+i*3) ?_ x HR.out ?_);exact rfl)
     refine HCx.out.mono ?_;rintro e w1 ⟨rfl,k1⟩;have HK1:=Qh (HK.out.trans k1);clear k1;go_wp2;go_ret;exact ⟨(i:Int),rfl,Or.inr ⟨i,x,rfl,HX.out,Hb.out,HO.out⟩,HK1.out⟩
   ·clear hK
    go_wp2;go_ret;exact ⟨-1,rfl,Or.inl ⟨rfl,fun j m' hj=>HO.out j m' (by have:=(List.getElem?_eq_some_iff.1 hj).1;have:=HN.out;omega) hj⟩,HK.out⟩
 ·have h0:L=[]:=List.eq_nil_of_length_eq_zero (by omega)
  subst h0;obtain ⟨a1,c1,rfl⟩:=h.slice;go_enter Tryz.func104,Tryz.ntmps104;go_wp2
  go_loopw [8] (fun t8 wr=>t8=.int .i64 0∧wr=w) (fun _ _=>0)
  case atStart=>exact ⟨rfl,rfl⟩
  case round =>
   obtain ⟨rfl,rfl⟩:=hrel;go_wp2;go_ret;exact ⟨-1,rfl,Or.inl ⟨rfl,fun j m' hj=>by simp at hj⟩,Kept.refl _⟩
theorem KB.cells {W:World} {g:Nat}:∀ (vs:List Value) (o:Nat) (w:World),KB W g w→KB W g (w.setCells g o vs)
 | [],_,_,h=>h
 | v::r,o,w,h=>by
  rw [World.setCells];exact KB.cells r (o+1) _ (h.set o v)
theorem there_kept {w w':World} {g o n:Nat} (h:w.there g o n) (k:Kept w w'):w'.there g o n:=fun j hj=>by
 obtain ⟨h1,h2⟩:=h j hj;obtain ⟨u,hu⟩:=Option.isSome_iff_exists.1 h1;refine ⟨by rw [Qa k hu];rfl,?_⟩;have hb:=k.block g (World.block_lt_of_cell? w ⟨g,o+j,none⟩ hu);unfold World.frozen? at h2 ⊢;rw [hb];exact h2
theorem there_sub {w:World} {g o n o' n':Nat} (h:w.there g o n) (h0:o≤o') (h1:o'+n'≤o+n):w.there g o' n':=fun j hj=>by
 have:=h (o'-o+j) (by omega);rwa [show o+(o'-o+j)=o'+j by omega] at this
theorem range_app {w:World} {g o:Nat} {a b:List Value} (h1:w.rangeAt g o a) (h2:w.rangeAt g (o+a.length) b):w.rangeAt g o (a++b):=fun j v hv=>by
 by_cases hj:j<a.length
 ·exact h1 j v (by rwa [List.getElem?_append_left hj] at hv)
 ·rw [List.getElem?_append_right (by omega)] at hv
  have:=h2 _ v hv;rwa [show o+a.length+(j-a.length)=o+j by omega] at this
theorem range_right {w:World} {g o:Nat} {a b:List Value} (h:w.rangeAt g o (a++b)):w.rangeAt g (o+a.length) b:=fun j v hv=>by
 have:=h (a.length+j) v (by rw [List.getElem?_append_right (by omega),Nat.add_sub_cancel_left];exact hv);rwa [show o+(a.length+j)=o+a.length+j by omega] at this
structure Dm (W:World) (g off n:Nat) (A R:List Mv) (j:Nat) (w:World):Prop where
 kb:KB W g w
 there:w.there g off (n*3)
 held:w.rangeAt g off (mlL A)
 rest:w.rangeAt g (off+j*3) (mlL R)
 short:A.length<j
 all:j+R.length=n
theorem Dm.kept {W w w':World} {g off n j:Nat} {A R:List Mv} (h:Dm W g off n A R j w) (k:Kept w w'):Dm W g off n A R j w' :=
 ⟨h.kb.kept k,there_kept h.there k,Yf h.held k,Yf h.rest k,h.short,h.all⟩
theorem mlL_cons (x:Mv) (R:List Mv):mlL (x::R)=ml x++mlL R:=rfl
theorem ml_len (x:Mv):(ml x).length=3:=rfl
theorem Dm.skip {W w:World} {g off n j:Nat} {A R:List Mv} {x:Mv} (h:Dm W g off n A (x::R) j w):Dm W g off n A R (j+1) w:=by
 refine ⟨h.kb,h.there,h.held,?_,by have:=h.short;omega,by have:=h.all;rw [List.length_cons] at this;omega⟩;have:=h.rest;rw [mlL_cons] at this;have:=range_right this;rwa [ml_len,show off+j*3+3=off+(j+1)*3 by omega] at this
theorem Dm.put {W w:World} {g off n j:Nat} {A R:List Mv} {x:Mv} (h:Dm W g off n A (x::R) j w):Dm W g off n (A++[x]) R (j+1) (w.setCells g (off+A.length*3) (ml x)):=by
 have hs:=h.short;have ha:=h.all;rw [List.length_cons] at ha;have s:=h.skip;have hl:(mlL A).length=A.length*3:=mlL_len A;refine ⟨KB.cells _ _ _ h.kb,World.there_setCells h.there _ _ _,?_,?_,by rw [List.length_append,List.length_singleton];omega,by omega⟩
 ·rw [mlL_app]
  refine range_app (World.rangeAt_setCells_apart h.held _ _ _ (.inr (.inl (by omega)))) ?_;rw [hl,show mlL [x]=ml x by unfold mlL;simp];exact World.rangeAt_setCells_same w g _ (ml x) (there_sub h.there (by omega) (by rw [ml_len];omega))
 ·exact World.rangeAt_setCells_apart s.rest _ _ _ (.inr (.inr (by rw [ml_len];omega)))
theorem Dm.spot {W w:World} {g off n j:Nat} {A R:List Mv} (h:Dm W g off n A R j w):w.there g (off+A.length*3) 3:=by
 have:=h.short;have:=h.all;exact there_sub h.there (by omega) (by omega)
theorem Dm.at_ {W w:World} {g off n j:Nat} {A R:List Mv} {x:Mv} (h:Dm W g off n A (x::R) j w):w.rangeAt g (off+j*3) (ml x):=by
 have:=h.rest;rw [mlL_cons] at this;intro i v hv;have hi:i<3:=(List.getElem?_eq_some_iff.1 hv).1;exact this i v (by rw [List.getElem?_append_left (by exact hi)];exact hv)
theorem zeros_mv (n:Nat):(Builtin.zeroCells (ml Zm).toArray n).toList=List.replicate (n*3) (.int .i64 0):=by
 unfold Builtin.zeroCells;rw [Array.toList_map,Array.toList_range];have hz:(ml Zm).toArray.size=3:=rfl;rw [hz];apply List.ext_getElem
 ·simp
 ·intro i h1 h2
  rw [List.getElem_replicate,List.getElem_map,List.getElem_range];have:i % 3=0∨i % 3=1∨i % 3=2:=by omega
  rcases this with e|e|e <;> rw [e] <;> rfl
theorem run_clear_mv (ty:TypeId) (g o n cap:Nat) (w:World) (hn:0<n) (ht:w.there g o (n*3)) :
  (Builtin.clear_ #[38] ty #[.slice (some ⟨g,o,none⟩) n cap]).run Tryz.prog w=.ok (.tuple #[]) (w.setCells g o (List.replicate (n*3) (.int .i64 0))):=by
 have hst:=run_storeCells_cells (P:=Tryz.prog) g o (List.replicate (n*3) (Value.int .i64 0)) 0 w (fun j hj=>by simpa using (ht j (by simpa using hj)).1) (fun j hj=>by simpa using (ht j (by simpa using hj)).2)
  (by intro v hv;rw [List.eq_of_mem_replicate hv];rfl)
 simp only [Nat.add_zero] at hst;have hzc:(Builtin.zeroCells #[Value.int .i64 0,Value.int .i64 0,Value.int .i64 0] n).toList=List.replicate (n*3) (.int .i64 0):=zeros_mv n;obtain ⟨m,rfl⟩:∃ m,n=m+1:=⟨n-1,by omega⟩;simp [Builtin.clear_,run_underlying Tryz.underlying38,run_zero_mv,hzc,hst,Value.cells]
theorem partsM:∃ i0,Tryz.prog.info? 28=some i0∧i0.size=3:=by
 have h:=sizeM
 cases hq:Tryz.prog.info? 28 with
 | none=>simp [hq] at h
 | some i=>simp [hq] at h;exact ⟨i,rfl,h⟩
theorem run_head_mv (g off N cap m:Nat) (h:m≤cap) (w:World) :
  (Instr.sliceAt 38 (.slice (some ⟨g,off,none⟩) N cap) none (some (.int .i64 (m:Int))) none).run Tryz.prog w=.ok (.slice (some ⟨g,off,none⟩) m cap) w:=by
 obtain ⟨i0,hi0,hz1⟩:=partsM;have ht:=Tryz.underlying38;have he:Tryz.prog.elem 38=28:=by kernel_rfl
 rw [run_sliceAt_slice w _ _ _ _ _ (by rw [he];exact ht),run_slice_h w _ _ _ _ (by rw [he];exact ht) _ _ (by omega) (by omega),he];simp [sizeOf,typeInfo,hi0,hz1,sliced,Addr.add]
theorem run_rest_mv (g off N cap m:Nat) (h:m<N) (hc:N≤cap) (w:World) :
  (Instr.sliceAt 38 (.slice (some ⟨g,off,none⟩) N cap) (some (.int .i64 (m:Int))) none none).run Tryz.prog w=.ok (.slice (some ⟨g,off+m*3,none⟩) (N-m) (cap-m)) w:=by
 obtain ⟨i0,hi0,hz1⟩:=partsM;have ht:=Tryz.underlying38;have he:Tryz.prog.elem 38=28:=by kernel_rfl
 have hne:¬ cap-m=0:=by omega
 rw [run_sliceAt_slice w _ _ _ _ _ (by rw [he];exact ht),run_slice_l w _ _ _ _ (by rw [he];exact ht) _ _ (by omega) (by omega),he];have hne2:¬ cap=m:=by omega
 simp [sizeOf,typeInfo,hi0,hz1,sliced,Addr.add,hne,hne2]
def leftP (L:List Mv) (pd:Mv→Bool) (j:Nat):List Mv:=(L.take j).filter fun m=>!pd m
theorem leftP_all (L:List Mv) (pd:Mv→Bool):leftP L pd L.length=L.filter fun m=>!pd m:=by unfold leftP;rw [List.take_length]
theorem take_one {L:List Mv} {j:Nat} {x:Mv} (h:L[j]?=some x):L.take (j+1)=L.take j++[x]:=by
 rw [List.take_add_one,h];rfl
theorem leftP_yes {L:List Mv} {pd:Mv→Bool} {j:Nat} {x:Mv} (h:L[j]?=some x) (hb:pd x=false):leftP L pd (j+1)=leftP L pd j++[x]:=by
 unfold leftP;rw [take_one h];simp [hb]
theorem leftP_no {L:List Mv} {pd:Mv→Bool} {j:Nat} {x:Mv} (h:L[j]?=some x) (hb:pd x=true):leftP L pd (j+1)=leftP L pd j:=by
 unfold leftP;rw [take_one h];simp [hb]
theorem leftP_first {L:List Mv} {pd:Mv→Bool}:∀ j,j≤L.length→(∀ i m,i<j→L[i]?=some m→pd m=false)→leftP L pd j=L.take j
 | 0,_,_=>by simp [leftP]
 | j+1,hj,h=>by
  have hx:L[j]?=some L[j]:=List.getElem?_eq_getElem (by omega);rw [leftP_yes hx (h j _ (by omega) hx),leftP_first j (by omega) (fun i m hi=>h i m (by omega)),take_one hx]
theorem leftP_short (L:List Mv) (pd:Mv→Bool) (j:Nat):(leftP L pd j).length≤j:=by
 unfold leftP;refine Nat.le_trans (List.length_filter_le _ _) ?_;rw [List.length_take];omega
theorem drop_one {L:List Mv} {j:Nat} {x:Mv} (h:L[j]?=some x):L.drop j=x::L.drop (j+1):=by
 obtain ⟨h1,h2⟩:=List.getElem?_eq_some_iff.1 h;rw [← h2];exact List.drop_eq_getElem_cons h1
theorem range_cut {w:World} {g off:Nat} {L:List Mv} (h:w.rangeAt g off (mlL L)) (j:Nat):w.rangeAt g off (mlL (L.take j))∧(j≤L.length→w.rangeAt g (off+j*3) (mlL (L.drop j))):=by
 have e:mlL L=mlL (L.take j)++mlL (L.drop j):=by rw [← mlL_app,List.take_append_drop]
 rw [e] at h;refine ⟨fun i v hv=>h i v ?_,fun hj=>?_⟩
 ·rw [List.getElem?_append_left ((List.getElem?_eq_some_iff.1 hv).1)];exact hv
 ·have:=range_right h
  rwa [mlL_len,List.length_take,Nat.min_eq_left hj] at this
set_option maxHeartbeats 4000000 in
theorem deleteF_is (W:World) (g k:Nat) (cb:Array Value) (L:List Mv) (pd:Mv→Bool) (hA:Asks W g k cb L pd) (v:Value) (w:World) (hW:KB W g w) (h:LsM w g v L)
  (hth:∀ off cap,v=.slice (some ⟨g,off,none⟩) L.length cap→w.there g off (L.length*3)) :
  Calls Tryz.prog 59 #[v,.func (.func k) #[] cb] w fun e w'=>∃ u,e=.returned u∧LsM w' g u (L.filter fun m=>!pd m)∧KB W g w':=by
 have hent:=hA.ent;have HC:=Qh hA.call;have HI:=Qh (indexF_is W g k cb L pd hA v w hW h);have HW:=Qh hW;have HL:=Qh h;obtain ⟨a1,c1,rfl⟩:=h.slice;clear hA hW h;go_enter Tryz.func59,Tryz.ntmps59;go_wp2_with fail
 refine HI.out.mono ?_;rintro e w1 ⟨i,rfl,hi,k1⟩;rcases hi with ⟨rfl,hall⟩|⟨n0,m0,rfl,hn0,hm0,hbef⟩
 ·have HE:Hid ((L.filter fun m=>!pd m)=L):=by
   show _=_;rw [List.filter_eq_self];intro m hm;obtain ⟨j,hj,e⟩:=List.mem_iff_getElem.1 hm;rw [hall j m (by rw [List.getElem?_eq_getElem hj,e])];rfl
  have HK1:=Qh k1;clear hall k1;generalize L.length=n at *;go_wp2;go_ret;exact ⟨_,rfl,by rw [HE.out];exact HL.out.kept HK1.out,HW.out.kept HK1.out⟩
 ·have hlt0:n0<L.length:=(List.getElem?_eq_some_iff.1 hn0).1
  obtain ⟨off,cap,he,q1,q2,q3⟩:=HL.out.full (by omega);have hth':=hth off cap he;injection he with he1 he2 he3
  subst he1 he3
  have HD0:Hid (Dm W g off L.length (leftP L pd (n0+1)) (L.drop (n0+1)) (n0+1) w1):=by
   obtain ⟨r1,r2⟩:=range_cut (Yf q3 k1) n0;refine ⟨HW.out.kept k1,there_kept hth' k1,?_,?_,?_,?_⟩
   ·rw [leftP_no hn0 hm0,leftP_first n0 (by omega) hbef];exact r1
   ·exact (range_cut (Yf q3 k1) (n0+1)).2 (by omega)
   ·rw [leftP_no hn0 hm0];have:=leftP_short L pd n0;omega
   ·rw [List.length_drop];omega
  have HN0:=Qh (show (leftP L pd (n0+1)).length=n0 by rw [leftP_no hn0 hm0,leftP_first n0 (by omega) hbef,List.length_take];omega);have hne:((n0:Int) == -1)=false:=beq_eq_false_iff_ne.2 (by omega);have HFil:=Qh (leftP_all L pd);generalize hn:L.length=n at *;have HN:=Qh hn;have hmx:n≤maxLen:=by omega
  have HCap:=Qh q2;unfold maxLen at hmx;clear hth hth' q2 q3 k1 hn hn0 hm0 hbef HI HL;go_wp2
  go_loopw [5,6] (fun t5 t6 wr=>∃ j:Nat,j≤n∧t6=.int .i64 j∧t5=.int .i64 ((leftP L pd j).length:Nat)∧Dm W g off n (leftP L pd j) (L.drop j) j wr) (fun _ t6 _=>n-(intOf t6).toNat)
  case atStart=>exact ⟨n0+1,by omega,by go_num,by rw [HN0.out],HD0.out⟩
  case round =>
   obtain ⟨j,hj,rfl,rfl,hD⟩:=hrel;have hsh:=hD.short;by_cases hlt:j<n
   ·have hlt':(j:Int)<(n:Int):=by omega
    obtain ⟨x,hx⟩:∃ x,L[j]?=some x:=⟨_,List.getElem?_eq_getElem (by have:=HN.out;omega)⟩;rw [drop_one hx] at hD;have HX:=Qh hx;have HDx:=Qh hD;have HR:=Qh hD.at_;have KA:=Qh ((Kept.refl wr).alloc (.cells (ml x).toArray 28));have HMx:=Qh (MAt.new wr x);have HRn:=Qh (RAt.range HMx.out);have HCx:=Qh (HC.out x (List.mem_of_getElem? hx) _ (hD.kb.kept KA.out));clear hx hD
    cases hb:pd x
    ·rw [hb] at HCx
     have HY:=Qh (leftP_yes HX.out hb);clear hb;go_wp2_with (first|((with_reducible refine Qn rfl _ rfl g (off+j*3) ?_ x HR.out ?_);exact rfl)|(with_reducible refine Ql rfl rfl ?_)|((with_reducible refine Qg rfl _ _ rfl Zm x ?_ ?_ ?_);exact rfl;exact rfl)|((with_reducible refine Qn rfl _ rfl wr.heap.size 0 ?_ x HRn.out ?_);exact rfl))
     refine HCx.out.mono ?_;rintro e w2 ⟨rfl,k2⟩;have HD2:=Qh (HDx.out.kept (KA.out.trans k2));have HRn2:=Qh (Yf HRn.out k2);have HSp:=Qh HD2.out.spot;have HP:=Qh HD2.out.put;have hAl:(leftP L pd (j+1)).length=(leftP L pd j).length+1:=by rw [HY.out,List.length_append,List.length_singleton]
     have HAl:=Qh hAl;rw [← HY.out] at HP;clear k2 hAl HDx HCx KA;generalize hA:(leftP L pd j).length=A at *;have HA:=Qh hA;clear hA;have hltA:(A:Int)<(n:Int):=by omega
     go_wp2_with (first|((with_reducible refine Qn rfl _ rfl wr.heap.size 0 ?_ x HRn2.out ?_);exact rfl)|((with_reducible refine wpList_store_mvo rfl _ _ rfl g (off+A*3) x ?_ ?_ HSp.out ?_);exact rfl;exact rfl))
     go_roundw
     case rel=>exact ⟨j+1,by omega,by go_num,by rw [HAl.out];go_num,HP.out⟩
     case measure=>simp [intOf];omega
    ·rw [hb] at HCx
     have HY:=Qh (leftP_no HX.out hb);clear hb;go_wp2_with (first|((with_reducible refine Qn rfl _ rfl g (off+j*3) ?_ x HR.out ?_);exact rfl)|(with_reducible refine Ql rfl rfl ?_)|((with_reducible refine Qg rfl _ _ rfl Zm x ?_ ?_ ?_);exact rfl;exact rfl)|((with_reducible refine Qn rfl _ rfl wr.heap.size 0 ?_ x HRn.out ?_);exact rfl))
     refine HCx.out.mono ?_;rintro e w2 ⟨rfl,k2⟩;have HD2:=Qh (HDx.out.kept (KA.out.trans k2)).skip;rw [← HY.out] at HD2;clear k2 HDx HCx KA;generalize hA:(leftP L pd j).length=A at *;have HA:=Qh hA;clear hA;go_wp2;go_roundw
     case rel=>exact ⟨j+1,by omega,by go_num,by rw [HY.out,HA.out],HD2.out⟩
     case measure=>simp [intOf];omega
   ·obtain rfl:j=n:=by omega
    have hlt':¬ (j:Int)<(j:Int):=by omega
    have HF:Hid (leftP L pd j=L.filter fun m=>!pd m):=by show _=_;rw [← HFil.out]
    have HDx:=Qh hD;have hcl:∀ ty,_:=fun ty=>run_clear_mv ty g (off+(leftP L pd j).length*3) (j-(leftP L pd j).length) (c1-(leftP L pd j).length) wr (by omega) (there_sub hD.there (by omega) (by have:=hD.short;omega))
    have hrs:=run_rest_mv g off j c1 (leftP L pd j).length hsh q1;have hhd:=run_head_mv g off j c1 (leftP L pd j).length (by omega)
    have HLs:Hid (LsM (wr.setCells g (off+(leftP L pd j).length*3) (List.replicate ((j-(leftP L pd j).length)*3) (.int .i64 0))) g (.slice (some ⟨g,off,none⟩) (leftP L pd j).length c1) (leftP L pd j)):=by
     refine .inr ⟨off,c1,rfl,by omega,HCap.out,?_⟩;exact World.rangeAt_setCells_apart hD.held _ _ _ (.inr (.inl (by rw [mlL_len];omega)))
    have HKb:=Qh (KB.cells (List.replicate ((j-(leftP L pd j).length)*3) (.int .i64 0)) (off+(leftP L pd j).length*3) wr hD.kb);clear hD;generalize (leftP L pd j).length=A at *;go_wp2;go_ret;exact ⟨_,rfl,by rw [← HF.out];exact HLs.out,HKb.out⟩
end Go.Proofs.YtlpeiolgcaddjaaGreatDoor
