/- GeH · GeI: my texts, in their order. -/
import Derived.Test.YtlpeiolgcaddjaaGreatDoorPkGa
import Derived.Test.YtlpeiolgcaddjaaGreatDoorPkGb
import Derived.Test.YtlpeiolgcaddjaaGreatDoorPkGd
import Derived.Test.YtlpeiolgcaddjaaGreatDoorPkU
namespace Go.Proofs.YtlpeiolgcaddjaaGreatDoor
open Go.RowKit
set_option linter.unusedVariables false
set_option linter.unusedSimpArgs false
set_option maxRecDepth 100000
def fv (n:Nat):Value:=.func (.func n) #[] #[]
def tellV:Array Value:=#[.nilFunc,fv 163,fv 164,fv 164,fv 164,fv 164,fv 165]
def tellZ:Array Value:=#[.nilFunc,.nilFunc,.nilFunc,.nilFunc,.nilFunc,.nilFunc,.nilFunc]
theorem zeroTe:(Tryz.prog.info? 133).map (fun i=>(i.zero,i.size))=some (some (.agg tellZ),7):=by kernel_rfl
theorem sizeTe:(Tryz.prog.info? 133).map (·.size)=some tellV.size:=by kernel_rfl
theorem run_zero_te (w:World):(zeroValue 133).run Tryz.prog w=.ok (.agg tellZ) w:=(zero_of_info zeroTe).1 w
theorem wpList_new_te {ops:Array Oper} {rest:List Oper} {o:Oper} {a:Act} {w:World} {Q:Exit→Act→World→Prop} (hgd:o.guard=none) (ho:o.op=.alloc 133)
  (h:wpList Tryz.prog ops Q rest (a.put o.dst (.pointer (some ⟨w.heap.size,0,none⟩))) (w.alloc (.cells tellZ 133))):wpList Tryz.prog ops Q (o::rest) a w:=by
 refine wpList_plain hgd fun _ hK=>?_
 unfold Oper.wp execOp;simp only [ho,Instr.alloc,Sem.run_bind,run_zero_te,Result.andThen_ok,newVar,newRow,Value.cells];exact hK _ _ h
theorem tell_one:tellV.all (·.oneCell')=true:=by
 rw [Array.all_eq_true_iff_forall_mem];intro v hv;simp only [tellV,fv,List.mem_toArray,List.mem_cons,List.not_mem_nil,or_false] at hv;rcases hv with rfl|rfl|rfl|rfl|rfl|rfl|rfl <;> rfl
theorem tellers_is (w:World):Calls Tryz.prog 143 #[] w fun e w'=>e=.returned (.agg tellV)∧Kept w w':=by
 have hbl:=heap_alloc_new w (.cells tellZ 133);have HB:=Qh hbl;clear hbl;go_enter Tryz.func143,Tryz.ntmps143
 go_wp2_with (first
  | (with_reducible refine wpList_new_te rfl rfl ?_)
  | (refine Jy rfl 133 _ rfl tellV (by kernel_rfl) ?_)
  | (refine wpList_store_row rfl 133 _ _ rfl w.heap.size tellV rfl rfl 133 _ HB.out sizeTe rfl tell_one ?_))
 refine bodyPost_ret (v:=.agg tellV) ?_ rfl ⟨rfl,?_⟩
 ·exact results_cell_row rfl _ _ w.heap.size 133 _ (0,0) _ rfl (setRow_heap _ _ _ _ _ _ HB.out) Tryz.underlying133 rfl sizeTe
 ·exact ((Kept.refl _).alloc _).setRow (Nat.le_refl _) _
def tf (k:Nat):Nat:=if k=1 then 163 else if k=6 then 165 else 164
theorem sizeFn (w:World):(sizeOf 132).run Tryz.prog w=.ok 1 w:=by
 have h0:(Tryz.prog.info? 132).map (·.size)=some 1:=by kernel_rfl
 cases hq:Tryz.prog.info? 132 with
 | none=>simp [hq] at h0
 | some i=>simp [hq] at h0;simp [sizeOf,typeInfo,hq,h0]
theorem run_index_te (k:Nat) (h1:1≤k) (h6:k≤6) (w:World):(Instr.index 133 (.agg tellV) (.int .i64 k)).run Tryz.prog w=.ok (.func (.func (tf k)) #[] #[]) w:=by
 have hb:(0:Int)≤(k:Int)∧(k:Int)<((7:Nat):Int):=by omega
 simp only [Instr.index,asIntOf,Sem.run_bind,Sem.run_pure,Result.andThen_ok,run_underlying Tryz.underlying133,if_pos hb,sizeFn];simp only [part,isAgg,Sem.run_bind,Sem.run_pure,Result.andThen_ok,run_underlying Tryz.underlying132,if_true,sizeFn,Int.toNat_natCast];have:k=1∨k=2∨k=3∨k=4∨k=5∨k=6:=by omega
 rcases this with rfl|rfl|rfl|rfl|rfl|rfl <;> rfl
theorem tf_enters (k:Nat) (args:Array Value) (w:World):(callFunc (tf k) args).run Tryz.prog w=.ok (.enter (tf k) args) w:=by
 unfold tf;split
 ·exact Qac Tryz.func163 (by kernel_rfl) rfl args w
 ·split
  ·exact Qac Tryz.func165 (by kernel_rfl) rfl args w
  ·exact Qac Tryz.func164 (by kernel_rfl) rfl args w
theorem kind_of {x t:Int} (h:sideI x=t) (ht:t=0∨t=1):∃ k:Nat,1≤k∧k≤6∧kindI x=k:=by
 obtain ⟨hm,_⟩:=side_man ht h;have h2:=(Jk x).1 hm;unfold kindI;rw [hm,if_pos rfl];by_cases h0:0<x
 ·rw [if_pos h0];exact ⟨x.toNat,by omega,by omega,by omega⟩
 ·rw [if_neg h0];exact ⟨(-x).toNat,by omega,by omega,by omega⟩
theorem raw_go (g:Nat) (a:Addr) {p:Ps} (hB:Brd p.B) (hr:pwI p=0) {s:Nat} (hs:s<64) (own:sideI (p.B.getD s 0)=p.t) {k:Nat} (hk:kindI (p.B.getD s 0)=k) (w:World) (hT:TabG w) (hE:EyeAt w g a) :
  Calls Tryz.prog (tf k) #[.pointer (some ⟨g,0,none⟩),.agg (pl p).toArray,.int .i64 (s:Int)] w (NewM w (rawN p s)):=by
 by_cases h1:k=1
 ·subst h1
  have e1:rawN p s=pawnN p s:=by unfold rawN;rw [if_pos (by exact hk)]
  have e2:tf 1=163:=rfl;rw [e1,e2];exact pawn_go g a ⟨hB,hr,hs,own,hk⟩ w hT hE
 ·by_cases h6:k=6
  ·subst h6
   have e1:rawN p s=kingN p s:=by unfold rawN;rw [if_neg (by rw [hk];decide),if_pos (by exact hk)]
   have e2:tf 6=165:=rfl;rw [e1,e2];exact king_go g a p hB hr s hs w hT hE
  ·have e1:rawN p s=offN p s:=by unfold rawN;rw [if_neg (by rw [hk];omega),if_neg (by rw [hk];omega)]
   have e2:tf k=164:=by unfold tf;rw [if_neg h1,if_neg h6]
   rw [e1,e2];exact officer_is g a p hB hr s hs w hT hE
theorem raw_len (p:Ps) (s:Nat):(rawN p s).length≤264:=by
 have h1:=pawn_len p s;have h2:=king_len p s;have h3:=off_len p s;unfold rawN;split
 ·exact h1
 ·split <;> omega
set_option maxHeartbeats 4000000 in
theorem from_in (g:Nat) (a:Addr) (p:Ps) (hB:Brd p.B) (hr:pwI p=0) (s:Nat) (hs:s<64) (own:sideI (p.B.getD s 0)=p.t) (w:World) (hT:TabG w) (hE:EyeAt w g a) :
  Calls Tryz.prog 106 #[.pointer (some ⟨g,0,none⟩),.agg (pl p).toArray,.int .i64 (s:Int)] w (NewM w (fromN p s)):=by
 have HP:=Qh (PAt.new w hB.1);have HK0:=Qh ((Kept.refl w).alloc (.cells (pl p).toArray 26));have HT:=Qh (hT.kept HK0.out);have HE:=Qh (hE.kept HK0.out);have hpl:Hid (p.B.length=64):=hB.1;obtain ⟨kd,k1,k6,hk⟩:=kind_of own (Qt hr).1;have HG:=Qh (fun w hT hE=>raw_go g a hB hr hs own hk w hT hE);have HMan:Hid (∀ w,Calls Tryz.prog 121 #[.agg (cl p.B).toArray,.int .i64 (s:Int)] w fun e w'=>e=.returned (.int .i64 (p.B.getD s 0))∧Kept w w'):=fun w=>Je p.B hB (s:Int) (by omega) (by omega) w
 have HV:=Qh (raw_sorted hB hr hs own);have HLn:=Qh (raw_len p s);have hidx:=run_index_te kd k1 k6;have hent:=tf_enters kd;have HKd:Hid (∀ w,Calls Tryz.prog 120 #[.int .i64 (p.B.getD s 0)] w fun e w'=>e=.returned (.int .i64 (kd:Int))∧Kept w w'):=fun w=>by have:=mkind_k (p.B.getD s 0) w;rw [hk] at this;exact this
 have hq:(sideI (p.B.getD s 0) != p.t)=false:=by rw [own];simp
 generalize p.B.getD s 0=x at *;generalize rawN p s=R at *;generalize tf kd=fk at *;clear hB hr hT hE hs own hk k1 k6;go_enter Tryz.func106,Tryz.ntmps106;go_wp2_with (first|(refine Qc (by rfl) _ rfl _ rfl _ (HP.out) ?_)|(refine Qd (by rfl) _ rfl _ rfl _ (HP.out) ?_))
 refine (HMan.out _).mono ?_;rintro e w1 ⟨rfl,k1⟩;have HK1:=Qh (HK0.out.trans k1);have HP1:=Qh (HP.out.kept k1);have HT1:=Qh (HT.out.kept k1);have HE1:=Qh (HE.out.kept k1);clear k1;go_wp2;refine wp_region_held_drew (S:=Kept _) (by kernel_rfl) (Kept.refl _).drew (fun Qj=>?_);refine rT 0 13 (.int .i64 x) rfl rfl Qj ?_;simp only [Act.put,sA,sZ,sU];refine rT 2 15 (.pointer (some ⟨w.heap.size,64,none⟩)) rfl rfl Qj ?_;simp only [pA,pN,sZ,sU];refine rC 3 16 (.int .i64 p.t) rfl rfl (fun _ h=>Qa h (HP1.out.turn)) Qj ?_;simp only [pA,pN,sZ,sU];refine rR 1 rfl (fun K hK=>?_);go_simp;refine (Qav x _).mono ?_;rintro e w2 ⟨rfl,gw2⟩;refine hK.out _ _ (Qj.trans gw2) (fun _=>?_);replace Qj:=Qj.trans gw2;clear hK K;refine rT 4 17 (.bool false) rfl rfl Qj ?_;simp only [pA,pN,sZ,sU];refine wpAnyH_done (by kernel_rfl) ?_ _;have HK2:=Qh (HK1.out.trans Qj);have HP2:=Qh (HP1.out.kept Qj);have HT2:=Qh (HT1.out.kept Qj);have HE2:=Qh (HE1.out.kept Qj);clear Qj;go_wp2;refine wp_region_held_drew (S:=Kept _) (by kernel_rfl) (Kept.refl _).drew (fun Qj=>?_);refine rT 1 19 (.int .i64 x) rfl rfl Qj ?_;simp only [pA,pN,sZ,sU];refine rT 4 22 (.pointer (some ⟨g,0,none⟩)) rfl rfl Qj ?_;simp only [pA,pN,sZ,sU];refine rY 5 23 rfl rfl (Qk (by rfl) _ rfl _ rfl p hpl.out (fun _ h=>(HP2.out).kept h)) Qj ?_;simp only [pA,pN,sZ,sU];refine rT 6 24 (.int .i64 (s:Int)) rfl rfl Qj ?_;simp only [pA,pN,sZ,sU];refine rR 0 rfl (fun K hK=>?_);go_simp;refine (tellers_is _).mono ?_;rintro e w3 ⟨rfl,gw3⟩;refine hK.out _ _ (Qj.trans gw3) (fun _=>?_);replace Qj:=Qj.trans gw3;clear hK K;refine rR 2 rfl (fun K hK=>?_);go_simp;refine (HKd.out _).mono ?_;rintro e w4 ⟨rfl,gw4⟩;refine hK.out _ _ (Qj.trans gw4) (fun _=>?_);replace Qj:=Qj.trans gw4;clear hK K;refine rT 3 21 (.func (.func fk) #[] #[]) rfl rfl Qj ?_;simp only [pA,pN,sZ,sU];have HB5:=Qh (Nat.le_trans HK2.out.size Qj.size);refine rR 7 rfl (fun K hK=>?_);go_simp;refine (HG.out _ (HT2.out.kept Qj) (HE2.out.kept Qj)).mono ?_;rintro e w5 ⟨vw5,rfl,how5,gw5⟩;obtain ⟨aw5,cw5,rfl⟩:=how5.slice;have HOw5:=Qh how5;clear how5;refine hK.out _ _ (Qj.trans gw5) (fun _=>?_);replace Qj:=Qj.trans gw5;clear hK K;refine rT 8 8 (.slice aw5 R.length cw5) rfl rfl Qj ?_;simp only [pA,pN,sZ,sU];refine wpAnyH_done (by kernel_rfl) ?_ _;have HK5:=Qh (HK2.out.trans Qj);clear Qj gw5;go_wp2_with fail
 refine (sortM_own _ _ _ R HOw5.out (by have:=HLn.out;omega)).mono ?_;rintro e w6 ⟨rfl,hO6,hg6⟩;have HK6:=Qh (HOw5.out.grown HK5.out HB5.out hg6);have HO6:=Qh (hO6.low HB5.out);clear hO6 hg6;generalize R.length=n at *;go_wp2;go_ret;exact ⟨_,rfl,by rw [← HV.out];exact HO6.out,HK6.out⟩
theorem from_not (g:Nat) (p:Ps) (hB:Brd p.B) (s:Int) (h:sideI (manA p.B s)≠p.t) (w:World) :
  Calls Tryz.prog 106 #[.pointer (some ⟨g,0,none⟩),.agg (pl p).toArray,.int .i64 s] w (NewM w []):=by
 have HP:=Qh (PAt.new w hB.1);have HK0:=Qh ((Kept.refl w).alloc (.cells (pl p).toArray 26));have HMan:=Qh (fun w=>man_a p.B hB s w);have hq:(sideI (manA p.B s) != p.t)=true:=bne_iff_ne.2 h;generalize manA p.B s=x at *;clear hB h;go_enter Tryz.func106,Tryz.ntmps106;go_wp2_with (first|(refine Qc (by rfl) _ rfl _ rfl _ (HP.out) ?_)|(refine Qd (by rfl) _ rfl _ rfl _ (HP.out) ?_))
 refine (HMan.out _).mono ?_;rintro e w1 ⟨rfl,k1⟩;have HK1:=Qh (HK0.out.trans k1);have HP1:=Qh (HP.out.kept k1);clear k1;go_wp2;refine wp_region_held_drew (S:=Kept _) (by kernel_rfl) (Kept.refl _).drew (fun Qj=>?_);refine rT 0 13 (.int .i64 x) rfl rfl Qj ?_;simp only [Act.put,sA,sZ,sU];refine rT 2 15 (.pointer (some ⟨w.heap.size,64,none⟩)) rfl rfl Qj ?_;simp only [pA,pN,sZ,sU];refine rC 3 16 (.int .i64 p.t) rfl rfl (fun _ h=>Qa h (HP1.out.turn)) Qj ?_;simp only [pA,pN,sZ,sU];refine rR 1 rfl (fun K hK=>?_);go_simp;refine (Qav x _).mono ?_;rintro e w2 ⟨rfl,gw2⟩;refine hK.out _ _ (Qj.trans gw2) (fun _=>?_);replace Qj:=Qj.trans gw2;clear hK K;refine rT 4 17 (.bool true) rfl rfl Qj ?_;simp only [pA,pN,sZ,sU];refine wpAnyH_done (by kernel_rfl) ?_ _;have HK2:=Qh (HK1.out.trans Qj);clear Qj;go_wp2;go_ret;exact ⟨_,rfl,OwnM.nil _ _,HK2.out⟩
theorem from_is (g:Nat) (a:Addr) (p:Ps) (hB:Brd p.B) (hr:pwI p=0) (s:Int) (w:World) (hT:TabG w) (hE:EyeAt w g a) :
  Calls Tryz.prog 106 #[.pointer (some ⟨g,0,none⟩),.agg (pl p).toArray,.int .i64 s] w (NewM w (fromI p s)):=by
 by_cases hs:0≤s∧s<64
 ·obtain ⟨n,rfl⟩:=Int.eq_ofNat_of_zero_le hs.1
  have hn:n<64:=by omega
  have em:manA p.B (n:Int)=p.B.getD n 0:=by unfold manA bAt;rw [if_pos hs,Int.toNat_natCast]
  rw [fromI_nat p n hn];by_cases ho:sideI (p.B.getD n 0)=p.t
  ·exact from_in g a p hB hr n hn ho w hT hE
  ·rw [from_none (by rw [em];exact ho)]
   exact from_not g p hB (n:Int) (by rw [em];exact ho) w
 ·have em:manA p.B s=0:=by unfold manA;rw [if_neg hs]
  have e0:fromI p s=[]:=by unfold fromI;rw [if_neg hs]
  rw [e0];exact from_not g p hB s (by rw [em,side_zero];have:=(Qt hr).1;omega) w
def allR (p:Ps):List Mv:=if pwI p=0 then allL p else []
def fromR (p:Ps) (s:Int):List Mv:=if pwI p=0 then fromI p s else []
set_option maxHeartbeats 4000000 in
theorem all_in (g:Nat) (a:Addr) (p:Ps) (hB:Brd p.B) (hr:pwI p=0) (w:World) (hT:TabG w) (hE:EyeAt w g a) :
  Calls Tryz.prog 60 #[.pointer (some ⟨g,0,none⟩),.agg (pl p).toArray] w (NewM w (allL p)):=by
 have HP:=Qh (PAt.new w hB.1);have HK0:=Qh ((Kept.refl w).alloc (.cells (pl p).toArray 26));have HT:=Qh (hT.kept HK0.out);have HE:=Qh (hE.kept HK0.out)
 have HTl:Hid (∀ w,TabG w→Calls Tryz.prog 105 #[.pointer (some ⟨g,0,none⟩),.agg (pl p).toArray] w fun e w'=>e=.returned (.bool true)∧Kept w w'):=fun w hT=>by
  have:=tells_is ⟨g,0,none⟩ p hB w hT;rw [hr] at this;exact this
 have HF:Hid (∀ k:Nat,k<64→∀ w,TabG w→EyeAt w g a→Calls Tryz.prog 106 #[.pointer (some ⟨g,0,none⟩),.agg (pl p).toArray,.int .i64 (k:Int)] w (NewM w (fromN p k))):=fun k hk w hT hE=>by
  have:=from_is g a p hB hr (k:Int) w hT hE;rw [fromI_nat p k hk] at this;exact this
 have HV:Hid (allL p=allN p 64):=by rfl
 clear hB hr hT hE;go_enter Tryz.func60,Tryz.ntmps60;go_wp2_with (first|(refine Qc (by rfl) _ rfl _ rfl _ (HP.out) ?_)|(refine Qd (by rfl) _ rfl _ rfl _ (HP.out) ?_))
 refine (HTl.out _ HT.out).mono ?_;rintro e X ⟨rfl,kX⟩;have HKX:=Qh kX;clear kX;go_wp2
 go_loopw [5,11] (fun t5 t11 wr=>∃ k:Nat,k≤64∧t11=.int .i64 k∧OwnM wr X.heap.size t5 (allN p k)∧Kept X wr) (fun _ t11 _=>64-(intOf t11).toNat)
 case atStart=>exact ⟨0,Nat.zero_le _,rfl,OwnM.nil _ _,Kept.refl _⟩
 case round =>
  obtain ⟨k,hk,rfl,hO,hK⟩:=hrel;obtain ⟨ao,co,rfl⟩:=hO.slice;have HO:=Qh hO;have HK:=Qh hK;have HPr:=Qh (HP.out.kept (HKX.out.trans hK));have HTr:=Qh (HT.out.kept (HKX.out.trans hK));have HEr:=Qh (HE.out.kept (HKX.out.trans hK));have hLk:=Qh (allN_len p k);generalize hln:(allN p k).length=q at *;have HQ:=Qh hln;clear hO hK hln;by_cases hlt:k<64
  ·have hlt':(k:Int)<64:=by omega
   have HS:=Qh (allN_succ p k);have HFk:=Qh (HF.out k hlt);have HFl:=Qh (fromN_len p k);generalize fromN p k=R at *;go_wp2_with (first|(refine Qc (by rfl) _ rfl _ rfl _ (HPr.out) ?_)|(refine Qd (by rfl) _ rfl _ rfl _ (HPr.out) ?_))
   refine (HFk.out _ HTr.out HEr.out).mono ?_;rintro e w2 ⟨v2,rfl,hO2,k2⟩;obtain ⟨a2,c2,rfl⟩:=hO2.slice;obtain ⟨g2,hl2,_⟩:=hO2.ls;have HL2:=Qh hl2;have HK2:=Qh (HK.out.trans k2);have HO3:=Qh (HO.out.kept k2);generalize hR:R.length=r at *;have HR:=Qh hR;clear hO2 hl2 k2 hR;go_wp2_with (at_builtin;refine Yl rfl _ _ rfl X.heap.size g2 _ _ (allN p k) R rfl rfl HO3.out HL2.out ?c1 ?c2 ?_)
   case c1=>have:=hLk.out;have:=HQ.out;have:=HFl.out;have:=HR.out;omega
   case c2=>exact HK2.out.size
   intro v' w4 hO' hg;have hK4:=HO3.out.grown HK2.out (Nat.le_refl _) hg;rw [← HS.out] at hO';obtain ⟨a',cap',rfl⟩:=hO'.slice;have HO4:=Qh hO';have HK4:=Qh hK4;clear hO' hK4 hg;generalize (allN p (k+1)).length=q' at *;go_wp2;go_roundw
   case rel=>exact ⟨k+1,by omega,by go_num,HO4.out,HK4.out⟩
   case measure=>simp [intOf];omega
  ·obtain rfl:k=64:=by omega
   go_wp2;go_ret;exact ⟨_,rfl,by rw [HV.out];exact HO.out.low (HK0.out.trans HKX.out).size,(HK0.out.trans HKX.out).trans HK.out⟩
theorem all_wrong (g:Addr) (p:Ps) (hB:Brd p.B) (hr:pwI p≠0) (w:World) (hT:TabG w) :
  Calls Tryz.prog 60 #[.pointer (some g),.agg (pl p).toArray] w (NewM w []):=by
 have HP:=Qh (PAt.new w hB.1);have HK0:=Qh ((Kept.refl w).alloc (.cells (pl p).toArray 26));have HT:=Qh (hT.kept HK0.out)
 have HTl:Hid (∀ w,TabG w→Calls Tryz.prog 105 #[.pointer (some g),.agg (pl p).toArray] w fun e w'=>e=.returned (.bool false)∧Kept w w'):=fun w hT=>by
  have:=tells_is g p hB w hT;rw [show (pwI p == 0)=false from beq_eq_false_iff_ne.2 hr] at this;exact this
 clear hB hr hT;go_enter Tryz.func60,Tryz.ntmps60;go_wp2_with (first|(refine Qc (by rfl) _ rfl _ rfl _ (HP.out) ?_)|(refine Qd (by rfl) _ rfl _ rfl _ (HP.out) ?_))
 refine (HTl.out _ HT.out).mono ?_;rintro e X ⟨rfl,kX⟩;have HKX:=Qh kX;clear kX;go_wp2;go_ret;exact ⟨_,rfl,OwnM.nil _ _,HK0.out.trans HKX.out⟩
theorem all_is (g:Nat) (a:Addr) (p:Ps) (hB:Brd p.B) (w:World) (hT:TabG w) (hE:EyeAt w g a) :
  Calls Tryz.prog 60 #[.pointer (some ⟨g,0,none⟩),.agg (pl p).toArray] w (NewM w (allR p)):=by
 unfold allR;by_cases h:pwI p=0
 ·rw [if_pos h];exact all_in g a p hB h w hT hE
 ·rw [if_neg h];exact all_wrong _ p hB h w hT
theorem fromg_in (g:Nat) (a:Addr) (p:Ps) (hB:Brd p.B) (hr:pwI p=0) (s:Int) (w:World) (hT:TabG w) (hE:EyeAt w g a) :
  Calls Tryz.prog 131 #[.pointer (some ⟨g,0,none⟩),.agg (pl p).toArray,.int .i64 s] w (NewM w (fromI p s)):=by
 have HP:=Qh (PAt.new w hB.1);have HK0:=Qh ((Kept.refl w).alloc (.cells (pl p).toArray 26));have HT:=Qh (hT.kept HK0.out);have HE:=Qh (hE.kept HK0.out)
 have HTl:Hid (∀ w,TabG w→Calls Tryz.prog 105 #[.pointer (some ⟨g,0,none⟩),.agg (pl p).toArray] w fun e w'=>e=.returned (.bool true)∧Kept w w'):=fun w hT=>by
  have:=tells_is ⟨g,0,none⟩ p hB w hT;rw [hr] at this;exact this
 have HF:=Qh (fun w hT hE=>from_is g a p hB hr s w hT hE);generalize fromI p s=R at *;clear hB hr hT hE;go_enter Tryz.func131,Tryz.ntmps131;go_wp2_with (first|(refine Qc (by rfl) _ rfl _ rfl _ (HP.out) ?_)|(refine Qd (by rfl) _ rfl _ rfl _ (HP.out) ?_))
 refine (HTl.out _ HT.out).mono ?_;rintro e X ⟨rfl,kX⟩;have HKX:=Qh kX;have HP1:=Qh (HP.out.kept kX);have HT1:=Qh (HT.out.kept kX);have HE1:=Qh (HE.out.kept kX);clear kX;go_wp2_with (first|(refine Qc (by rfl) _ rfl _ rfl _ (HP1.out) ?_)|(refine Qd (by rfl) _ rfl _ rfl _ (HP1.out) ?_))
 refine (HF.out _ HT1.out HE1.out).mono ?_;rintro e w2 ⟨v2,rfl,hO2,k2⟩;obtain ⟨a2,c2,rfl⟩:=hO2.slice;have HK2:=Qh (HKX.out.trans k2);have HO2:=Qh hO2;clear hO2 k2;generalize R.length=r at *;go_wp2;go_ret;exact ⟨_,rfl,HO2.out.low (HK0.out.trans HKX.out).size,HK0.out.trans HK2.out⟩
theorem fromg_wrong (g:Addr) (p:Ps) (hB:Brd p.B) (hr:pwI p≠0) (s:Int) (w:World) (hT:TabG w) :
  Calls Tryz.prog 131 #[.pointer (some g),.agg (pl p).toArray,.int .i64 s] w (NewM w []):=by
 have HP:=Qh (PAt.new w hB.1);have HK0:=Qh ((Kept.refl w).alloc (.cells (pl p).toArray 26));have HT:=Qh (hT.kept HK0.out)
 have HTl:Hid (∀ w,TabG w→Calls Tryz.prog 105 #[.pointer (some g),.agg (pl p).toArray] w fun e w'=>e=.returned (.bool false)∧Kept w w'):=fun w hT=>by
  have:=tells_is g p hB w hT;rw [show (pwI p == 0)=false from beq_eq_false_iff_ne.2 hr] at this;exact this
 clear hB hr hT;go_enter Tryz.func131,Tryz.ntmps131;go_wp2_with (first|(refine Qc (by rfl) _ rfl _ rfl _ (HP.out) ?_)|(refine Qd (by rfl) _ rfl _ rfl _ (HP.out) ?_))
 refine (HTl.out _ HT.out).mono ?_;rintro e X ⟨rfl,kX⟩;have HKX:=Qh kX;clear kX;go_wp2;go_ret;exact ⟨_,rfl,OwnM.nil _ _,HK0.out.trans HKX.out⟩
theorem fromg_is (g:Nat) (a:Addr) (p:Ps) (hB:Brd p.B) (s:Int) (w:World) (hT:TabG w) (hE:EyeAt w g a) :
  Calls Tryz.prog 131 #[.pointer (some ⟨g,0,none⟩),.agg (pl p).toArray,.int .i64 s] w (NewM w (fromR p s)):=by
 unfold fromR;by_cases h:pwI p=0
 ·rw [if_pos h];exact fromg_in g a p hB h s w hT hE
 ·rw [if_neg h];exact fromg_wrong _ p hB h s w hT
theorem take_eql_mv {ops:Array Oper} {S:World→Prop} {op:Oper} {ac:Act} {b:Bool} (hw:Region.wanted op (yielded ops ac.tmps)=true) (x y:Operand) (ty:TypeId) (ho:op.op=.binOp .eql 28 x y ty)
  (p q:Mv) (hx:ac.eval x=.agg (ml p).toArray) (hy:ac.eval y=.agg (ml q).toArray) (h:beqM p q=b):YieldsIf Tryz.prog ops S op (.bool b) ac :=
 .inl ⟨hw,fun w _=>by
  unfold execOp;simp only [ho,hx,hy,Sem.run_bind,run_eqGuard_agg w _ _ _ _ _ _ eqGuardM,run_eql_mv,Result.andThen_ok,Sem.run_pure,h]⟩
theorem range_i {w:World} {g off:Nat} {l:List Mv} (h:w.rangeAt g off (mlL l)) {i:Nat} {m:Mv} (hi:l[i]?=some m):w.rangeAt g (off+i*3) (ml m):=by
 have:=range_mv h hi;rwa [Nat.mul_comm] at this
def hasM (L:List Mv) (m:Mv):Bool:=L.any fun x=>beqM m x
theorem hasM_iff {L:List Mv} {m:Mv}:hasM L m=true↔m ∈ L:=by
 unfold hasM;rw [List.any_eq_true];constructor
 ·rintro ⟨x,hx,h⟩;rw [(beqM_iff m x).1 h];exact hx
 ·intro h;exact ⟨m,h,beqM_refl m⟩
theorem hasM_no {L:List Mv} {m:Mv} (h:∀ i,i<L.length→L[i]?≠some m):hasM L m=false:=by
 rw [Bool.eq_false_iff];intro hc;obtain ⟨i,hi,e⟩:=List.mem_iff_getElem.1 (hasM_iff.1 hc);exact h i hi (by rw [List.getElem?_eq_getElem hi,e])
set_option maxHeartbeats 2000000 in
theorem indexM_is (g:Nat) (v:Value) (L:List Mv) (m:Mv) (w:World) (h:LsM w g v L) :
  Calls Tryz.prog 159 #[v,.agg (ml m).toArray] w fun e w'=>∃ i:Int,e=.returned (.int .i64 i)∧decide (0≤i)=hasM L m∧Kept w w':=by
 have HM:=Qh (MAt.new w m);have HK0:=Qh ((Kept.refl w).alloc (.cells (ml m).toArray 28));by_cases hl:0<L.length
 ·obtain ⟨off,cap,rfl,h1,h2,h3⟩:=h.full hl
  have H3:=Qh (Yf h3 HK0.out);generalize hn:L.length=n at *;have HN:=Qh hn;have hm:n≤maxLen:=by omega
  unfold maxLen at hm;clear h h3 hn h2;go_enter Tryz.func159,Tryz.ntmps159;go_wp2
  go_loopw [8] (fun t8 wr=>∃ k:Nat,k≤n∧t8=.int .i64 k∧(∀ j,j<k→L[j]?≠some m)∧Kept (w.alloc (.cells (ml m).toArray 28)) wr) (fun t8 _=>n-(intOf t8).toNat)
  case atStart=>exact ⟨0,Nat.zero_le _,rfl,fun j hj=>by omega,Kept.refl _⟩
  case round =>
   obtain ⟨k,hk,rfl,hno,hK⟩:=hrel;have HO:=Qh hno;have HK:=Qh hK;have HMr:=Qh (MAt.kept HM.out hK);clear hno;by_cases hlt:k<n
   ·have hlt':(k:Int)<(n:Int):=by omega
    obtain ⟨x,hx⟩:∃ x,L[k]?=some x:=⟨_,List.getElem?_eq_getElem (by have:=HN.out;omega)⟩;have HR:=Qh (range_i (Yf H3.out hK) hx);have HX:=Qh hx;clear hx hK
    cases hb:beqM m x
    ·have Hne:Hid (x≠m):=fun e=>by rw [e,beqM_refl] at hb;cases hb
     have Hb:=Qh hb;clear hb;go_wp2;refine wp_region_held_drew (S:=Kept _) (by kernel_rfl) (Kept.refl _).drew (fun Qj=>?_);refine rY 0 11 rfl rfl (Qm (by rfl) _ rfl _ rfl m (fun _ h=>MAt.kept (HMr.out) h)) Qj ?_;simp only [pA,pN,sZ,sU];refine rT 1 12 (.slice (some ⟨g,off,none⟩) n cap) rfl rfl Qj ?_;simp only [pA,pN,sZ,sU];refine rT 2 13 (.int .i64 (k:Int)) rfl rfl Qj ?_;simp only [pA,pN,sZ,sU];refine rT 3 14 (.pointer (some ⟨g,off+k*3,none⟩)) rfl rfl Qj ?_;simp only [pA,pN,sZ,sU];refine rY 4 15 rfl rfl (take_load_mvi (by rfl) _ rfl g (off+k*3) rfl x (fun _ h=>Yf (HR.out) h)) Qj ?_;simp only [pA,pN,sZ,sU];refine rY 5 16 rfl rfl (take_eql_mv (by rfl) _ _ _ rfl m x rfl rfl (Hb.out)) Qj ?_;simp only [pA,pN,sZ,sU];refine wpAnyH_done (by kernel_rfl) ?_ _;have HK2:=Qh (HK.out.trans Qj);clear Qj;go_wp2;go_roundw
     case rel=>exact ⟨k+1,by omega,by go_num,fun j hj=>by
      by_cases hji:j<k
      ·exact HO.out j hji
      ·obtain rfl:j=k:=by omega
       rw [HX.out];exact fun e=>Hne.out (Option.some.inj e),HK2.out⟩
     case measure=>simp [intOf];omega
    ·have Hy:Hid (hasM L m=true):=by show _=_;rw [hasM_iff,(beqM_iff m x).1 hb];exact List.mem_of_getElem? HX.out
     have Hb:=Qh hb;clear hb;go_wp2;refine wp_region_held_drew (S:=Kept _) (by kernel_rfl) (Kept.refl _).drew (fun Qj=>?_);refine rY 0 11 rfl rfl (Qm (by rfl) _ rfl _ rfl m (fun _ h=>MAt.kept (HMr.out) h)) Qj ?_;simp only [pA,pN,sZ,sU];refine rT 1 12 (.slice (some ⟨g,off,none⟩) n cap) rfl rfl Qj ?_;simp only [pA,pN,sZ,sU];refine rT 2 13 (.int .i64 (k:Int)) rfl rfl Qj ?_;simp only [pA,pN,sZ,sU];refine rT 3 14 (.pointer (some ⟨g,off+k*3,none⟩)) rfl rfl Qj ?_;simp only [pA,pN,sZ,sU];refine rY 4 15 rfl rfl (take_load_mvi (by rfl) _ rfl g (off+k*3) rfl x (fun _ h=>Yf (HR.out) h)) Qj ?_;simp only [pA,pN,sZ,sU];refine rY 5 16 rfl rfl (take_eql_mv (by rfl) _ _ _ rfl m x rfl rfl (Hb.out)) Qj ?_;simp only [pA,pN,sZ,sU];refine wpAnyH_done (by kernel_rfl) ?_ _;have HK2:=Qh (HK.out.trans Qj);clear Qj;go_wp2;go_ret;exact ⟨(k:Int),rfl,by rw [Hy.out];simp,HK0.out.trans HK2.out⟩
   ·have Hn:=Qh (hasM_no (L:=L) (m:=m) (fun j hj=>HO.out j (by have:=HN.out;omega)))
    clear hK;go_wp2;go_ret;exact ⟨-1,rfl,by rw [Hn.out];decide,HK0.out.trans HK.out⟩
 ·have h0:L=[]:=List.eq_nil_of_length_eq_zero (by omega)
  subst h0;obtain ⟨a1,c1,rfl⟩:=h.slice;go_enter Tryz.func159,Tryz.ntmps159;go_wp2
  go_loopw [8] (fun t8 wr=>t8=.int .i64 0∧wr=w.alloc (.cells (ml m).toArray 28)) (fun _ _=>0)
  case atStart=>exact ⟨rfl,rfl⟩
  case round =>
   obtain ⟨rfl,rfl⟩:=hrel;go_wp2;go_ret;exact ⟨-1,rfl,by rfl,HK0.out⟩
theorem contains_m (g:Nat) (v:Value) (L:List Mv) (m:Mv) (w:World) (h:LsM w g v L) :
  Calls Tryz.prog 130 #[v,.agg (ml m).toArray] w fun e w'=>e=.returned (.bool (hasM L m))∧Kept w w':=by
 have HM:=Qh (MAt.new w m);have HK0:=Qh ((Kept.refl w).alloc (.cells (ml m).toArray 28));have HI:=Qh (indexM_is g v L m _ (h.kept HK0.out));clear h;go_enter Tryz.func130,Tryz.ntmps130;go_wp2_with (refine Qe (by rfl) _ rfl _ rfl _ HM.out ?_)
 refine HI.out.mono ?_;rintro e w1 ⟨i,rfl,hi,k1⟩;have HD:=Qh hi;have HK1:=Qh (HK0.out.trans k1);clear hi k1;go_wp2;go_ret;exact ⟨by rw [← HD.out];rfl,HK1.out⟩
theorem has_from (p:Ps) (m:Mv):hasM (fromR p m.f) m=((pwI p == 0) && goesM p m):=by
 unfold fromR;by_cases h:pwI p=0
 ·rw [if_pos h,h,Bool.eq_iff_iff,hasM_iff,mem_fromI (Qt h).1];simp
 ·rw [if_neg h,show (pwI p == 0)=false from beq_eq_false_iff_ne.2 h];rfl
set_option maxHeartbeats 2000000 in
theorem goes_is (g:Nat) (a:Addr) (p:Ps) (hB:Brd p.B) (m:Mv) (w:World) (hT:TabG w) (hE:EyeAt w g a) :
  Calls Tryz.prog 93 #[.pointer (some ⟨g,0,none⟩),.agg (pl p).toArray,.agg (ml m).toArray] w fun e w'=>e=.returned (.bool ((pwI p == 0) && goesM p m))∧Kept w w':=by
 have HP:Hid (PAt _ _ p):=⟨hB.1,heap_alloc2_old w (.cells (pl p).toArray 26) (.cells (ml m).toArray 28)⟩;have HM:Hid (MAt _ _ m):=⟨heap_alloc2_new w (.cells (pl p).toArray 26) (.cells (ml m).toArray 28)⟩;have HK0:=Qh (((Kept.refl w).alloc (.cells (pl p).toArray 26)).alloc (.cells (ml m).toArray 28));have HT:=Qh (hT.kept HK0.out);have HE:=Qh (hE.kept HK0.out);have hpl:Hid (p.B.length=64):=hB.1;have HF:=Qh (fun w hT hE=>fromg_is g a p hB m.f w hT hE);have HV:=Qh (has_from p m);generalize fromR p m.f=R at *;clear hB hT hE;go_enter Tryz.func93,Tryz.ntmps93;go_wp2;refine wp_region_held_drew (S:=Kept _) (by kernel_rfl) (Kept.refl _).drew (fun Qj=>?_);refine rT 0 7 (.pointer (some ⟨g,0,none⟩)) rfl rfl Qj ?_;simp only [pA,pN,sZ,sU];refine rY 1 8 rfl rfl (Qk (by rfl) _ rfl _ rfl p hpl.out (fun _ h=>(HP.out).kept h)) Qj ?_;simp only [pA,pN,sZ,sU];refine rT 2 9 (.pointer (some ⟨w.heap.size+1,0,none⟩)) rfl rfl Qj ?_;simp only [pA,pN,sZ,sU];refine rC 3 10 (.int .i64 m.f) rfl rfl (fun _ h=>Qa h (HM.out.f)) Qj ?_;simp only [pA,pN,sZ,sU];refine rY 5 12 rfl rfl (Qm (by rfl) _ rfl _ rfl m (fun _ h=>MAt.kept (HM.out) h)) Qj ?_;simp only [pA,pN,sZ,sU];refine rR 4 rfl (fun K hK=>?_);go_simp;refine (HF.out _ (HT.out.kept Qj) (HE.out.kept Qj)).mono ?_;rintro e x1 ⟨vx1,rfl,hox1,gx1⟩;obtain ⟨ax1,cx1,rfl⟩:=hox1.slice;have HOx1:=Qh hox1;clear hox1;refine hK.out _ _ (Qj.trans gx1) (fun _=>?_);replace Qj:=Qj.trans gx1;clear hK K;obtain ⟨g1,hl1,_⟩:=HOx1.out.ls;refine rR 6 rfl (fun K hK=>?_);go_simp;refine (contains_m g1 _ R m _ hl1).mono ?_;rintro e x2 ⟨rfl,gx2⟩;refine hK.out _ _ (Qj.trans gx2) (fun _=>?_);replace Qj:=Qj.trans gx2;clear hK K;refine rT 7 6 (.bool (hasM R m)) rfl rfl Qj ?_;simp only [pA,pN,sZ,sU];refine wpAnyH_done (by kernel_rfl) ?_ _;have HK2:=Qh (HK0.out.trans Qj);clear Qj gx1 gx2 hl1;generalize hasM R m=b at *;go_wp2;go_ret;exact ⟨by rw [← HV.out];rfl,HK2.out⟩
end Go.Proofs.YtlpeiolgcaddjaaGreatDoor
