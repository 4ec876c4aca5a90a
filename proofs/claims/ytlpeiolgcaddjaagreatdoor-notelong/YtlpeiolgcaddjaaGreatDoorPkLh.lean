/- LeL · LeH: my texts, in their order. -/
import Derived.Test.YtlpeiolgcaddjaaGreatDoorPkGe
import Derived.Test.YtlpeiolgcaddjaaGreatDoorPkLa
import Derived.Test.YtlpeiolgcaddjaaGreatDoorPkLf
import Derived.Test.YtlpeiolgcaddjaaGreatDoorPkLg
namespace Go.Proofs.YtlpeiolgcaddjaaGreatDoor
open Go.RowKit
set_option linter.unusedVariables false
set_option linter.unusedSimpArgs false
set_option maxRecDepth 100000
theorem allR_in {p:Ps} {m:Mv} (h:m ∈ allR p):pwI p=0∧goesM p m=true:=by
 unfold allR at h;split at h
 ·next hr=>exact ⟨hr,(mem_allN (Qt hr).1).1 h⟩
 ·cases h
theorem allR_long (p:Ps):(allR p).length≤24576:=by
 unfold allR;split
 ·exact allN_len p 64
 ·simp
theorem legR_is (p:Ps) (hB:Brd p.B):(allR p).filter (fun m=>!barsB p m)=legR p:=by
 unfold allR legR legL;split
 ·next hr =>
  apply List.filter_congr;intro m hm;rw [bars_stay hB hr ((mem_allN (Qt hr).1).1 hm),Bool.not_not]
 ·rfl
theorem legR_long (p:Ps):(legR p).length≤24576:=by
 unfold legR legL;split
 ·exact Nat.le_trans (List.length_filter_le _ _) (allN_len p 64)
 ·simp
def stuckB (p:Ps):Bool:=(pwI p == 0) && (legL p).isEmpty
theorem stuck_all {p:Ps} (hB:Brd p.B) (hr:pwI p=0) (h:∀ (i:Nat) (m:Mv),(allR p)[i]?=some m→barsB p m=true):stuckB p=true:=by
 unfold stuckB;rw [hr]
 have e:legR p=[]:=by
  rw [← legR_is p hB,List.filter_eq_nil_iff];intro m hm;obtain ⟨i,hi,e⟩:=List.mem_iff_getElem.1 hm;rw [h i m (by rw [List.getElem?_eq_getElem hi,e])];simp
 unfold legR at e;rw [if_pos hr] at e;rw [e];rfl
theorem stuck_not {p:Ps} (hB:Brd p.B) {i:Nat} {m:Mv} (hi:(allR p)[i]?=some m) (h:barsB p m=false):stuckB p=false:=by
 have hm:=List.mem_of_getElem? hi;obtain ⟨hr,_⟩:=allR_in hm;have:m ∈ legR p:=by rw [← legR_is p hB,List.mem_filter];exact ⟨hm,by rw [h];rfl⟩
 unfold legR at this;rw [if_pos hr] at this;unfold stuckB;rw [hr]
 cases hl:legL p with
 | nil=>rw [hl] at this;cases this
 | cons a l=>rfl
theorem stuck_len (p:Ps) (hr:pwI p=0):stuckB p=((legL p).length == 0):=by
 unfold stuckB;rw [hr]
 cases legL p <;> rfl
def legA (p:Ps) (m:Mv):Bool:=(pwI p == 0) && legB p m
theorem legA_is (p:Ps) (hB:Brd p.B) (m:Mv) (hg:((pwI p == 0) && goesM p m)=true):legA p m=!barsB p m:=by
 rw [Bool.and_eq_true,beq_iff_eq] at hg;unfold legA legB;rw [hg.1,hg.2,bars_stay hB hg.1 hg.2];simp
theorem legA_no (p:Ps) (m:Mv) (hg:((pwI p == 0) && goesM p m)=false):legA p m=false:=by
 unfold legA legB;rw [← Bool.and_assoc,hg,Bool.false_and]
def TellM (w:World) (L:List Mv) (e:Ending) (w':World):Prop:=∃ v g,e=.returned v∧LsM w' g v L∧Kept w w'
def TellF (w:World) (L:List Mv) (e:Ending) (w':World):Prop:=∃ v g,e=.returned v∧LsM w' g v L∧Kept w w'∧w.heap.size≤g
theorem TellF.tell {w w':World} {L:List Mv} {e:Ending} (h:TellF w L e w'):TellM w L e w':=by
 obtain ⟨v,g,h1,h2,h3,_⟩:=h;exact ⟨v,g,h1,h2,h3⟩
theorem OwnM.lst {w:World} {base:Nat} {v:Value} {l:List Mv} (h:OwnM w base v l) :
  ∃ g,base≤g∧LsM w g v l∧(∀ off cap,v=.slice (some ⟨g,off,none⟩) l.length cap→w.there g off (l.length*3))∧(0<l.length→g<w.heap.size):=by
 obtain ⟨g0,hls,hlow⟩:=h.ls;rcases h.2 with ⟨e,h0⟩|⟨g,cap,cur,e,hb,hh,hnc,hcm,hcs,ht⟩
 ·refine ⟨base,Nat.le_refl _,.inl ⟨e,List.eq_nil_of_length_eq_zero h0⟩,fun off cap he=>?_,fun hl=>by omega⟩
  rw [e] at he;simp at he
 ·refine ⟨g,hb,?_,fun off cap' he=>?_,fun _=>Yc hh⟩
  ·rcases hls with ⟨e',h0⟩|⟨off,cap',e',q⟩
   ·rw [e] at e';simp at e'
   ·rw [e] at e'
    injection e' with e1 e2 e3
    injection e1 with e1
    injection e1 with e1 e4
    subst e1;exact .inr ⟨off,cap',by rw [e,← e4,← e3],q⟩
  ·rw [e] at he
   injection he with e1 e2 e3
   injection e1 with e1
   injection e1 with e1 e4
   subst e4;intro j hj
   have hsz:j<cur.size:=by
    have:=congrArg List.length ht;rw [List.length_take,mlL_len,Array.length_toList] at this;omega
   rw [Nat.zero_add,cell_of_row w g j cur _ (0,0) hh];exact ⟨by simp [hsz],by simp [World.frozen?,hh]⟩
theorem bar_kb {W x w:World} {p:Ps} {gk gc gb gp r g gl:Nat} {a b:Addr} (hBr:Bar x p gk gc gb gp r g a b) (h:KB x gl w) (k:Kept W x) (hW:W.heap.size≤gl) (hT:TabG W) (hR:RuAt W r g a b)
  (n1:gk≠gl) (n2:gc≠gl) (n3:gb≠gl) (n4:gp≠gl):Bar w p gk gc gb gp r g a b :=
 ⟨hT.kept (h.below k hW),hR.kept (h.below k hW),hBr.pos.kb h n4,h.cell n1 hBr.kg,h.cell n2 hBr.ck,h.cell n3 hBr.rr⟩
theorem bar_enters (args:Array Value) (w:World):(callFunc 108 args).run Tryz.prog w=.ok (.enter 108 args) w :=
 Qac Tryz.func108 (by kernel_rfl) rfl args w
set_option maxHeartbeats 2000000 in
theorem moves_f (r g:Nat) (a b:Addr) (p:Ps) (hB:Brd p.B) (w:World) (hT:TabG w) (hR:RuAt w r g a b) :
  Calls Tryz.prog 26 #[.pointer (some ⟨r,0,none⟩),.agg (pl p).toArray] w (TellF w (legR p)):=by
 have HP:=Qh (PAt.new w hB.1);have HK0:=Qh ((Kept.refl w).alloc (.cells (pl p).toArray 26));have HT:=Qh (hT.kept HK0.out);have HR:=Qh (hR.kept HK0.out);have hpl:Hid (p.B.length=64):=hB.1;have HAl:=Qh (fun w hT hE=>all_is g a p hB w hT hE);have HBs:=Qh (fun w hT hR=>bars_is r g a b p hB w hT hR)
 have HIn:Hid (∀ m,m ∈ allR p→∀ gk gc gb gp w,Bar w p gk gc gb gp r g a b→Calls Tryz.prog 108 (#[.agg (ml m).toArray]++barV gk gc gb gp) w fun e w'=>e=.returned (.bool (barsB p m))∧Kept w w') :=
  fun m hm gk gc gb gp w hBr=>bars1_is gk gc gb gp r g a b p hB (allR_in hm).1 m (allR_in hm).2 w hBr
 have HLg:=Qh (legR_is p hB);generalize hL:allR p=L at *;clear hB hT hR hL;go_enter Tryz.func26,Tryz.ntmps26;go_wp2;generalize hW:w.alloc (.cells (pl p).toArray 26)=W at *;clear hW;refine wp_region_held_drew (S:=Kept _) (by kernel_rfl) (Kept.refl _).drew (fun Qj=>?_);refine rT 0 7 (.pointer (some ⟨r,0,none⟩)) rfl rfl Qj ?_;simp only [pA,pN,sZ,sU];refine rT 1 8 (.pointer (some ⟨r,0,none⟩)) rfl rfl Qj ?_;simp only [pA,pN,sZ,sU];refine rT 2 9 (.pointer (some ⟨r,0,none⟩)) rfl rfl Qj ?_;simp only [pA,pN,sZ,sU];refine rC 3 10 (.pointer (some ⟨g,0,none⟩)) rfl rfl (fun _ h=>Qa h (HR.out.gen)) Qj ?_;simp only [pA,pN,sZ,sU];refine rY 4 11 rfl rfl (Qk (by rfl) _ rfl _ rfl p hpl.out (fun _ h=>(HP.out).kept h)) Qj ?_;simp only [pA,pN,sZ,sU];refine rT 6 13 (.pointer (some ⟨r,0,none⟩)) rfl rfl Qj ?_;simp only [pA,pN,sZ,sU];refine rY 7 14 rfl rfl (Qk (by rfl) _ rfl _ rfl p hpl.out (fun _ h=>(HP.out).kept h)) Qj ?_;simp only [pA,pN,sZ,sU];have HB0:=Qh Qj.size;refine rR 5 rfl (fun K hK=>?_);go_simp;refine (HAl.out _ (HT.out.kept Qj) (HR.out.ey.kept Qj)).mono ?_;rintro e x1 ⟨vx1,rfl,hox1,gx1⟩;obtain ⟨ax1,cx1,rfl⟩:=hox1.slice;have HOx1:=Qh hox1;clear hox1;refine hK.out _ _ (Qj.trans gx1) (fun _=>?_);replace Qj:=Qj.trans gx1;clear hK K;refine rR 8 rfl (fun K hK=>?_);go_simp;refine (HBs.out _ (HT.out.kept Qj) (HR.out.kept Qj)).mono ?_;rintro e x2 ⟨gk,gc,gb,gp,rfl,hBr,⟨l1,l2,l3,l4⟩,kx⟩;refine hK.out _ _ (Qj.trans kx) (fun _=>?_);replace Qj:=Qj.trans kx;clear hK K;obtain ⟨gl,hbl,hls,hth,hlow⟩:=HOx1.out.lst;have hWl:W.heap.size≤gl:=Nat.le_trans HB0.out hbl
 have hAsk:Asks x2 gl 108 (barV gk gc gb gp) L (barsB p):=by
  refine ⟨bar_enters,fun m hm w' hKB=>?_⟩;have hpos:0<L.length:=List.length_pos_of_mem hm;have:=hlow hpos;exact HIn.out m hm gk gc gb gp w' (bar_kb hBr hKB Qj hWl HT.out HR.out (by omega) (by omega) (by omega) (by omega))
 have HDl:=Qh (deleteF_is x2 gl _ _ L (barsB p) hAsk _ x2 (KB.refl _ _) (hls.kept kx) (fun off cap he=>there_kept (hth off cap he) kx));clear hAsk hls hth hlow hbl l1 l2 l3 l4 hBr kx gx1;refine rR 9 rfl (fun K hK=>?_);go_simp;refine HDl.out.mono ?_;rintro e x3 ⟨u,rfl,hlu,hkb⟩;have hk3:Kept W x3:=hkb.below Qj hWl;refine hK.out _ _ hk3 (fun _=>?_);replace Qj:=hk3;have HU:=Qh hlu;clear hK K hlu hkb hk3;refine rT 10 4 u rfl rfl Qj ?_;simp only [pA,pN,sZ,sU];refine wpAnyH_done (by kernel_rfl) ?_ _;go_wp2;go_ret;exact ⟨u,gl,rfl,by rw [← HLg.out];exact HU.out,HK0.out.trans Qj,Nat.le_trans HK0.out.size hWl⟩
theorem moves_is (r g:Nat) (a b:Addr) (p:Ps) (hB:Brd p.B) (w:World) (hT:TabG w) (hR:RuAt w r g a b) :
  Calls Tryz.prog 26 #[.pointer (some ⟨r,0,none⟩),.agg (pl p).toArray] w (TellM w (legR p)):=(moves_f r g a b p hB w hT hR).mono fun _ _ h=>h.tell
set_option maxHeartbeats 2000000 in
theorem legal_no (r g:Nat) (a b:Addr) (p:Ps) (hB:Brd p.B) (m:Mv) (hg:((pwI p == 0) && goesM p m)=false) (w:World) (hT:TabG w) (hR:RuAt w r g a b) :
  Calls Tryz.prog 55 #[.pointer (some ⟨r,0,none⟩),.agg (pl p).toArray,.agg (ml m).toArray] w fun e w'=>e=.returned (.bool false)∧Kept w w':=by
 have HP:Hid (PAt _ _ p):=⟨hB.1,heap_alloc2_old w (.cells (pl p).toArray 26) (.cells (ml m).toArray 28)⟩;have HM:Hid (MAt _ _ m):=⟨heap_alloc2_new w (.cells (pl p).toArray 26) (.cells (ml m).toArray 28)⟩;have HK0:=Qh (((Kept.refl w).alloc (.cells (pl p).toArray 26)).alloc (.cells (ml m).toArray 28));have HT:=Qh (hT.kept HK0.out);have HR:=Qh (hR.kept HK0.out);have hpl:Hid (p.B.length=64):=hB.1;have HGo:=Qh (fun w hT hE=>goes_is g a p hB m w hT hE);rw [hg] at HGo;clear hB hT hR hg;go_enter Tryz.func55,Tryz.ntmps55;go_wp2;refine wp_region_held_drew (S:=Kept _) (by kernel_rfl) (Kept.refl _).drew (fun Qj=>?_);refine rT 0 7 (.pointer (some ⟨r,0,none⟩)) rfl rfl Qj ?_;simp only [pA,pN,sZ,sU];refine rT 1 8 (.bool true) rfl rfl Qj ?_;simp only [pA,pN,sZ,sU];refine rT 2 9 (.bool true) rfl rfl Qj ?_;simp only [pA,pN,sZ,sU];refine rT 3 10 (.pointer (some ⟨r,0,none⟩)) rfl rfl Qj ?_;simp only [pA,pN,sZ,sU];refine rT 4 11 (.pointer (some ⟨r,0,none⟩)) rfl rfl Qj ?_;simp only [pA,pN,sZ,sU];refine rT 5 12 (.pointer (some ⟨r,0,none⟩)) rfl rfl Qj ?_;simp only [pA,pN,sZ,sU];refine rC 6 13 (.pointer (some ⟨g,0,none⟩)) rfl rfl (fun _ h=>Qa h (HR.out.gen)) Qj ?_;simp only [pA,pN,sZ,sU];refine rY 7 14 rfl rfl (Qk (by rfl) _ rfl _ rfl p hpl.out (fun _ h=>(HP.out).kept h)) Qj ?_;simp only [pA,pN,sZ,sU];refine rY 8 15 rfl rfl (Qm (by rfl) _ rfl _ rfl m (fun _ h=>MAt.kept (HM.out) h)) Qj ?_;simp only [pA,pN,sZ,sU];refine rR 9 rfl (fun K hK=>?_);go_simp;refine (HGo.out _ (HT.out.kept Qj) (HR.out.ey.kept Qj)).mono ?_;rintro e x1 ⟨rfl,gx1⟩;refine hK.out _ _ (Qj.trans gx1) (fun _=>?_);replace Qj:=Qj.trans gx1;clear hK K;refine rT 10 17 (.bool false) rfl rfl Qj ?_;simp only [pA,pN,sZ,sU];refine rT 11 18 (.bool false) rfl rfl Qj ?_;simp only [pA,pN,sZ,sU];refine rN 12 19 rfl rfl Qj ?_;simp only [pA,pN,sZ,sU];refine rN 13 20 rfl rfl Qj ?_;simp only [pA,pN,sZ,sU];refine rN 14 21 rfl rfl Qj ?_;simp only [pA,pN,sZ,sU];refine rN 15 22 rfl rfl Qj ?_;simp only [pA,pN,sZ,sU];refine rN 16 23 rfl rfl Qj ?_;simp only [pA,pN,sZ,sU];refine rN 17 24 rfl rfl Qj ?_;simp only [pA,pN,sZ,sU];refine rT 18 25 (.bool false) rfl rfl Qj ?_;simp only [pA,pN,sZ,sU];refine rT 19 6 (.bool false) rfl rfl Qj ?_;simp only [pA,pN,sZ,sU];refine wpAnyH_done (by kernel_rfl) ?_ _;go_wp2;go_ret;exact ⟨rfl,HK0.out.trans Qj⟩
set_option maxHeartbeats 2000000 in
theorem legal_go (r g:Nat) (a b:Addr) (p:Ps) (hB:Brd p.B) (m:Mv) (hg:((pwI p == 0) && goesM p m)=true) (w:World) (hT:TabG w) (hR:RuAt w r g a b) :
  Calls Tryz.prog 55 #[.pointer (some ⟨r,0,none⟩),.agg (pl p).toArray,.agg (ml m).toArray] w fun e w'=>e=.returned (.bool (!barsB p m))∧Kept w w':=by
 have HP:Hid (PAt _ _ p):=⟨hB.1,heap_alloc2_old w (.cells (pl p).toArray 26) (.cells (ml m).toArray 28)⟩;have HM:Hid (MAt _ _ m):=⟨heap_alloc2_new w (.cells (pl p).toArray 26) (.cells (ml m).toArray 28)⟩;have HK0:=Qh (((Kept.refl w).alloc (.cells (pl p).toArray 26)).alloc (.cells (ml m).toArray 28));have HT:=Qh (hT.kept HK0.out);have HR:=Qh (hR.kept HK0.out);have hpl:Hid (p.B.length=64):=hB.1;have HGo:=Qh (fun w hT hE=>goes_is g a p hB m w hT hE);rw [hg] at HGo;rw [Bool.and_eq_true,beq_iff_eq] at hg;have HBs:=Qh (fun w hT hR=>bars_is r g a b p hB w hT hR);have HB1:=Qh (fun gk gc gb gp w hBr=>bars1_is gk gc gb gp r g a b p hB hg.1 m hg.2 w hBr);have hent:=bar_enters;generalize barsB p m=bb at *;clear hB hT hR hg;go_enter Tryz.func55,Tryz.ntmps55;go_wp2;refine wp_region_held_drew (S:=Kept _) (by kernel_rfl) (Kept.refl _).drew (fun Qj=>?_);refine rT 0 7 (.pointer (some ⟨r,0,none⟩)) rfl rfl Qj ?_;simp only [pA,pN,sZ,sU];refine rT 1 8 (.bool true) rfl rfl Qj ?_;simp only [pA,pN,sZ,sU];refine rT 2 9 (.bool true) rfl rfl Qj ?_;simp only [pA,pN,sZ,sU];refine rT 3 10 (.pointer (some ⟨r,0,none⟩)) rfl rfl Qj ?_;simp only [pA,pN,sZ,sU];refine rT 4 11 (.pointer (some ⟨r,0,none⟩)) rfl rfl Qj ?_;simp only [pA,pN,sZ,sU];refine rT 5 12 (.pointer (some ⟨r,0,none⟩)) rfl rfl Qj ?_;simp only [pA,pN,sZ,sU];refine rC 6 13 (.pointer (some ⟨g,0,none⟩)) rfl rfl (fun _ h=>Qa h (HR.out.gen)) Qj ?_;simp only [pA,pN,sZ,sU];refine rY 7 14 rfl rfl (Qk (by rfl) _ rfl _ rfl p hpl.out (fun _ h=>(HP.out).kept h)) Qj ?_;simp only [pA,pN,sZ,sU];refine rY 8 15 rfl rfl (Qm (by rfl) _ rfl _ rfl m (fun _ h=>MAt.kept (HM.out) h)) Qj ?_;simp only [pA,pN,sZ,sU];refine rR 9 rfl (fun K hK=>?_);go_simp;refine (HGo.out _ (HT.out.kept Qj) (HR.out.ey.kept Qj)).mono ?_;rintro e x1 ⟨rfl,gx1⟩;refine hK.out _ _ (Qj.trans gx1) (fun _=>?_);replace Qj:=Qj.trans gx1;clear hK K;refine rT 10 17 (.bool true) rfl rfl Qj ?_;simp only [pA,pN,sZ,sU];refine rT 11 18 (.bool true) rfl rfl Qj ?_;simp only [pA,pN,sZ,sU];refine rT 12 19 (.pointer (some ⟨r,0,none⟩)) rfl rfl Qj ?_;simp only [pA,pN,sZ,sU];refine rY 13 20 rfl rfl (Qk (by rfl) _ rfl _ rfl p hpl.out (fun _ h=>(HP.out).kept h)) Qj ?_;simp only [pA,pN,sZ,sU];refine rY 15 22 rfl rfl (Qm (by rfl) _ rfl _ rfl m (fun _ h=>MAt.kept (HM.out) h)) Qj ?_;simp only [pA,pN,sZ,sU];refine rR 14 rfl (fun K hK=>?_);go_simp;refine (HBs.out _ (HT.out.kept Qj) (HR.out.kept Qj)).mono ?_;rintro e x2 ⟨gk,gc,gb,gp,rfl,hBr,_,kx⟩;refine hK.out _ _ (Qj.trans kx) (fun _=>?_);replace Qj:=Qj.trans kx;have HBr:=Qh hBr;clear hK K hBr kx;refine rR 16 rfl (fun K hK=>?_);go_simp;refine (HB1.out gk gc gb gp _ HBr.out).mono ?_;rintro e x3 ⟨rfl,gx3⟩;refine hK.out _ _ (Qj.trans gx3) (fun _=>?_);replace Qj:=Qj.trans gx3;clear hK K;refine rT 17 24 (.bool (!bb)) rfl rfl Qj ?_;simp only [pA,pN,sZ,sU];refine rT 18 25 (.bool (!bb)) rfl rfl Qj ?_;simp only [pA,pN,sZ,sU];refine rT 19 6 (.bool (!bb)) rfl rfl Qj ?_;simp only [pA,pN,sZ,sU];refine wpAnyH_done (by kernel_rfl) ?_ _;go_wp2;go_ret;exact ⟨rfl,HK0.out.trans Qj⟩
theorem legal_is (r g:Nat) (a b:Addr) (p:Ps) (hB:Brd p.B) (m:Mv) (w:World) (hT:TabG w) (hR:RuAt w r g a b) :
  Calls Tryz.prog 55 #[.pointer (some ⟨r,0,none⟩),.agg (pl p).toArray,.agg (ml m).toArray] w fun e w'=>e=.returned (.bool (legA p m))∧Kept w w':=by
 cases hg:((pwI p == 0) && goesM p m)
 ·rw [legA_no p m hg];exact legal_no r g a b p hB m hg w hT hR
 ·rw [legA_is p hB m hg];exact legal_go r g a b p hB m hg w hT hR
theorem stuck_wrong (r:Nat) (p:Ps) (hB:Brd p.B) (hr:pwI p≠0) (w:World) (hT:TabG w) :
  Calls Tryz.prog 114 #[.pointer (some ⟨r,0,none⟩),.agg (pl p).toArray] w fun e w'=>e=.returned (.bool false)∧Kept w w':=by
 have HP:=Qh (PAt.new w hB.1);have HK0:=Qh ((Kept.refl w).alloc (.cells (pl p).toArray 26));have HT:=Qh (hT.kept HK0.out);have HC:=Qh (fun w h=>Jx p hB w h);have hv:(pwI p != 0)=true:=bne_iff_ne.2 hr;generalize pwI p=v at *;clear hB hT hr;go_enter Tryz.func114,Tryz.ntmps114;go_wp2_with (first|(refine Qc (by rfl) _ rfl _ rfl _ (HP.out) ?_)|(refine Qd (by rfl) _ rfl _ rfl _ (HP.out) ?_))
 refine (HC.out _ HT.out.tabm.tabs).mono ?_;rintro e w1 ⟨rfl,k1⟩;have HK1:=Qh (HK0.out.trans k1);clear k1;go_wp2;go_ret;exact ⟨rfl,HK1.out⟩
set_option maxHeartbeats 4000000 in
theorem stuck_right (r g:Nat) (a b:Addr) (p:Ps) (hB:Brd p.B) (hr:pwI p=0) (w:World) (hT:TabG w) (hR:RuAt w r g a b) :
  Calls Tryz.prog 114 #[.pointer (some ⟨r,0,none⟩),.agg (pl p).toArray] w fun e w'=>e=.returned (.bool (stuckB p))∧Kept w w':=by
 have HP:=Qh (PAt.new w hB.1);have HK0:=Qh ((Kept.refl w).alloc (.cells (pl p).toArray 26));have HT:=Qh (hT.kept HK0.out);have HR:=Qh (hR.kept HK0.out);have hpl:Hid (p.B.length=64):=hB.1;have HC:=Qh (fun w h=>Jx p hB w h);rw [hr] at HC;have HAl:=Qh (fun w hT hE=>all_is g a p hB w hT hE);have HBs:=Qh (fun w hT hR=>bars_is r g a b p hB w hT hR)
 have HIn:Hid (∀ m,m ∈ allR p→∀ gk gc gb gp w,Bar w p gk gc gb gp r g a b→Calls Tryz.prog 108 (#[.agg (ml m).toArray]++barV gk gc gb gp) w fun e w'=>e=.returned (.bool (barsB p m))∧Kept w w') :=
  fun m hm gk gc gb gp w hBr=>bars1_is gk gc gb gp r g a b p hB (allR_in hm).1 m (allR_in hm).2 w hBr
 have HNo:=Qh (fun (i:Nat) (m:Mv) (hi:(allR p)[i]?=some m) h=>stuck_not hB hi h);have HAll:=Qh (fun (h:∀ (i:Nat) (m:Mv),(allR p)[i]?=some m→barsB p m=true)=>stuck_all hB hr h);have HLl:=Qh (allR_long p);have hent:=bar_enters;generalize hL:allR p=L at *;clear hB hT hR hL hr;go_enter Tryz.func114,Tryz.ntmps114;go_wp2_with (first|(refine Qc (by rfl) _ rfl _ rfl _ (HP.out) ?_)|(refine Qd (by rfl) _ rfl _ rfl _ (HP.out) ?_))
 refine (HC.out _ HT.out.tabm.tabs).mono ?_;rintro e w1 ⟨rfl,k1⟩;have HK1:=Qh (HK0.out.trans k1);have HP1:=Qh (HP.out.kept k1);have HT1:=Qh (HT.out.kept k1);have HR1:=Qh (HR.out.kept k1);clear k1;go_wp2_with (first|(refine Qc (by rfl) _ rfl _ rfl _ (HP1.out) ?_)|(refine Qd (by rfl) _ rfl _ rfl _ (HP1.out) ?_))
 refine (HBs.out _ HT1.out HR1.out).mono ?_;rintro e w2 ⟨gk,gc,gb,gp,rfl,hBr,_,k2⟩;have HK2:=Qh (HK1.out.trans k2);have HP2:=Qh (HP1.out.kept k2);have HT2:=Qh (HT1.out.kept k2);have HR2:=Qh (HR1.out.kept k2);have HBr:=Qh hBr;clear k2 hBr;go_wp2;refine wp_region_held_drew (S:=Kept _) (by kernel_rfl) (Kept.refl _).drew (fun Qj=>?_);refine rT 0 18 (.pointer (some ⟨r,0,none⟩)) rfl rfl Qj ?_;simp only [Act.put,sA,sZ,sU];refine rT 1 19 (.pointer (some ⟨r,0,none⟩)) rfl rfl Qj ?_;simp only [pA,pN,sZ,sU];refine rT 2 20 (.pointer (some ⟨r,0,none⟩)) rfl rfl Qj ?_;simp only [pA,pN,sZ,sU];refine rC 3 21 (.pointer (some ⟨g,0,none⟩)) rfl rfl (fun _ h=>Qa h (HR2.out.gen)) Qj ?_;simp only [pA,pN,sZ,sU];refine rY 4 22 rfl rfl (Qk (by rfl) _ rfl _ rfl p hpl.out (fun _ h=>(HP2.out).kept h)) Qj ?_;simp only [pA,pN,sZ,sU];refine rT 7 25 (.int .i64 0) rfl rfl Qj ?_;simp only [pA,pN,sZ,sU];refine rR 5 rfl (fun K hK=>?_);go_simp;refine (HAl.out _ (HT2.out.kept Qj) (HR2.out.ey.kept Qj)).mono ?_;rintro e X ⟨vX,rfl,hoX,gX⟩;obtain ⟨aX,cX,rfl⟩:=hoX.slice;have HOX:=Qh hoX;clear hoX;refine hK.out _ _ (Qj.trans gX) (fun _=>?_);replace Qj:=Qj.trans gX;clear hK K;refine rT 6 24 (.int .i64 (L.length:Int)) rfl rfl Qj ?_;simp only [pA,pN,sZ,sU];refine wpAnyH_done (by kernel_rfl) ?_ _;have HKX:=Qh (HK2.out.trans Qj);have HBX:=Qh (HBr.out.kept Qj);obtain ⟨gl,hls,_⟩:=HOX.out.ls;have HLs:=Qh hls;generalize hn:L.length=n at *;have HN:=Qh hn;clear Qj gX hls hn;go_wp2
 go_loopw [25] (fun t25 wr=>∃ k:Nat,k≤n∧t25=.int .i64 k∧(∀ (j:Nat) (m:Mv),j<k→L[j]?=some m→barsB p m=true)∧Kept X wr) (fun t25 _=>n-(intOf t25).toNat)
 case atStart=>exact ⟨0,Nat.zero_le _,rfl,fun j m hj=>by omega,Kept.refl _⟩
 case round =>
  obtain ⟨k,hk,rfl,hall,hK⟩:=hrel;have HK:=Qh hK;have HA:=Qh hall;clear hall;by_cases hlt:k<n
  ·have hlt':(k:Int)<(n:Int):=by omega
   obtain ⟨x,hx⟩:∃ x,L[k]?=some x:=⟨_,List.getElem?_eq_getElem (by have:=HN.out;omega)⟩;have hmx:=List.mem_of_getElem? hx;obtain ⟨off,cap,he,hc1,hc2,h3⟩:=HLs.out.full (by have:=HN.out;omega);rw [HN.out] at he;injection he with he1 he2 he3
   subst he1 he3;rw [HN.out] at hc1;unfold maxLen at hc2;have HX:=Qh hx;have HRx:=Qh (range_i (Yf h3 hK) hx);have KB0:=Qh ((Kept.refl wr).alloc (.cells (ml x).toArray 28));have HRn:=Qh (RAt.range (MAt.new wr x));have HBb:=Qh (HBX.out.kept (hK.trans KB0.out));have HKb:=Qh (hK.trans KB0.out);have HCx:=Qh (HIn.out x hmx gk gc gb gp _ HBb.out);clear h3 hx hK hmx
   cases hb:barsB p x
   ·rw [hb] at HCx
    have HV:=Qh (HNo.out k x HX.out hb);clear hb;go_wp2_with (first|((with_reducible refine Qn rfl _ rfl gl (off+k*3) ?_ x HRx.out ?_);exact rfl)|(with_reducible refine Ql rfl rfl ?_)|((with_reducible refine Qg rfl _ _ rfl Zm x ?_ ?_ ?_);exact rfl;exact rfl)|((with_reducible refine Qn rfl _ rfl wr.heap.size 0 ?_ x HRn.out ?_);exact rfl))
    refine HCx.out.mono ?_;rintro e w3 ⟨rfl,k3⟩;have HK3:=Qh (HKb.out.trans k3);clear k3;go_wp2;go_ret;exact ⟨by rw [HV.out];rfl,HKX.out.trans HK3.out⟩
   ·rw [hb] at HCx
    have Hb:=Qh hb;clear hb;go_wp2_with (first|((with_reducible refine Qn rfl _ rfl gl (off+k*3) ?_ x HRx.out ?_);exact rfl)|(with_reducible refine Ql rfl rfl ?_)|((with_reducible refine Qg rfl _ _ rfl Zm x ?_ ?_ ?_);exact rfl;exact rfl)|((with_reducible refine Qn rfl _ rfl wr.heap.size 0 ?_ x HRn.out ?_);exact rfl))
    refine HCx.out.mono ?_;rintro e w3 ⟨rfl,k3⟩;have HK3:=Qh (HKb.out.trans k3);clear k3;go_wp2;go_roundw
    case rel=>exact ⟨k+1,by omega,by go_num,fun j m hj hjm=>by
     by_cases hji:j<k
     ·exact HA.out j m hji hjm
     ·obtain rfl:j=k:=by omega
      rw [HX.out] at hjm;rw [← Option.some.inj hjm];exact Hb.out,HK3.out⟩
    case measure=>simp [intOf];omega
  ·have HV:=Qh (HAll.out (fun i m hi=>HA.out i m (by have:=(List.getElem?_eq_some_iff.1 hi).1;have:=HN.out;omega) hi))
   clear hK;go_wp2;go_ret;exact ⟨by rw [HV.out];rfl,HKX.out.trans HK.out⟩
theorem stuck_is (r g:Nat) (a b:Addr) (p:Ps) (hB:Brd p.B) (w:World) (hT:TabG w) (hR:RuAt w r g a b) :
  Calls Tryz.prog 114 #[.pointer (some ⟨r,0,none⟩),.agg (pl p).toArray] w fun e w'=>e=.returned (.bool (stuckB p))∧Kept w w':=by
 by_cases hr:pwI p=0
 ·exact stuck_right r g a b p hB hr w hT hR
 ·have:stuckB p=false:=by unfold stuckB;rw [show (pwI p == 0)=false from beq_eq_false_iff_ne.2 hr];rfl
  rw [this];exact stuck_wrong r p hB hr w hT
theorem mate_is (r g:Nat) (a b:Addr) (p:Ps) (hB:Brd p.B) (w:World) (hT:TabG w) (hR:RuAt w r g a b) :
  Calls Tryz.prog 62 #[.pointer (some ⟨r,0,none⟩),.agg (pl p).toArray] w fun e w'=>e=.returned (.bool (Qq p.B p.t && stuckB p))∧Kept w w':=by
 have HP:=Qh (PAt.new w hB.1);have HK0:=Qh ((Kept.refl w).alloc (.cells (pl p).toArray 26));have HT:=Qh (hT.kept HK0.out);have HR:=Qh (hR.kept HK0.out);have HC:=Qh (fun w hS hR=>rchk_is r g a b p hB w hS hR);have HS:=Qh (fun w hT hR=>stuck_is r g a b p hB w hT hR);generalize stuckB p=sb at *;clear hB hT hR
 cases hc:Qq p.B p.t
 ·rw [hc] at HC
  clear hc HS;go_enter Tryz.func62,Tryz.ntmps62;go_wp2_with (first|(refine Qc (by rfl) _ rfl _ rfl _ (HP.out) ?_)|(refine Qd (by rfl) _ rfl _ rfl _ (HP.out) ?_))
  refine (HC.out _ HT.out.tabm.tabs.steps HR.out).mono ?_;rintro e w1 ⟨rfl,k1⟩;have HK1:=Qh (HK0.out.trans k1);clear k1;go_wp2;go_ret;exact ⟨rfl,HK1.out⟩
 ·rw [hc] at HC
  clear hc;go_enter Tryz.func62,Tryz.ntmps62;go_wp2_with (first|(refine Qc (by rfl) _ rfl _ rfl _ (HP.out) ?_)|(refine Qd (by rfl) _ rfl _ rfl _ (HP.out) ?_))
  refine (HC.out _ HT.out.tabm.tabs.steps HR.out).mono ?_;rintro e w1 ⟨rfl,k1⟩;have HK1:=Qh (HK0.out.trans k1);have HP1:=Qh (HP.out.kept k1);have HT1:=Qh (HT.out.kept k1);have HR1:=Qh (HR.out.kept k1);clear k1;go_wp2_with (first|(refine Qc (by rfl) _ rfl _ rfl _ (HP1.out) ?_)|(refine Qd (by rfl) _ rfl _ rfl _ (HP1.out) ?_))
  refine (HS.out _ HT1.out HR1.out).mono ?_;rintro e w2 ⟨rfl,k2⟩;have HK2:=Qh (HK1.out.trans k2);clear k2;go_wp2;go_ret;exact ⟨by rw [Bool.true_and];rfl,HK2.out⟩
end Go.Proofs.YtlpeiolgcaddjaaGreatDoor
