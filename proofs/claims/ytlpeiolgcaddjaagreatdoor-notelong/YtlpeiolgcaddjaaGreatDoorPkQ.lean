/- MvL: my texts, in their order. -/
import Derived.Test.YtlpeiolgcaddjaaGreatDoorPkP
namespace Go.Proofs.YtlpeiolgcaddjaaGreatDoor
open Go.RowKit
set_option linter.unusedVariables false
set_option linter.unusedSimpArgs false
set_option maxRecDepth 100000
theorem PAt.setSq {w:World} {g:Nat} {p:Ps} (h:PAt w g p) (k:Nat) (hk:k<64) (x:Int):PAt (w.setCell ⟨g,k,none⟩ (.int .i8 x)) g ⟨p.B.set k x,p.t,p.c,p.e⟩:=by
 refine ⟨by simpa using h.len,?_⟩;have hl:(cl p.B).length=64:=by rw [Yp,h.len]
 rw [heap_setCell_same w g k _ _ _ h.at_]
 congr 2
 unfold pl;rw [List.setIfInBounds_toArray,List.set_append_left _ _ (by omega),cl_set];rfl
theorem stopAt {ops:Array Oper} {rest:List Oper} {o:Oper} {a:Act} {w:World} {Q:Exit→Act→World→Prop} (n:Nat) (hd:o.dst=some n) (h:Hid (wpList Tryz.prog ops Q (o::rest) a w)):wpList Tryz.prog ops Q (o::rest) a w:=h
structure Qb (w0:World) (p:Ps) (m:Mv) (f t:Nat) (W:World) (q:Ps):Prop where
 hp:PAt W w0.heap.size p
 hm:MAt W (w0.heap.size+1) m
 ef:m.f=f
 et:m.t=t
 hr:PAt W (w0.heap.size+2) Zp
 hq:PAt W (w0.heap.size+3) q
 hk:Kept w0 W
theorem Qb.kept {w0 W W':World} {p:Ps} {m:Mv} {f t:Nat} {q:Ps} (h:Qb w0 p m f t W q) (k:Kept W W'):Qb w0 p m f t W' q :=
 ⟨h.hp.kept k,h.hm.kept k,h.ef,h.et,h.hr.kept k,h.hq.kept k,h.hk.trans k⟩
theorem Qb.cf {w0 W:World} {p:Ps} {m:Mv} {f t:Nat} {q:Ps} (h:Qb w0 p m f t W q):W.cell? ⟨w0.heap.size+1,0,none⟩=some (.int .i64 (f:Int)):=by rw [← h.ef];exact h.hm.f
theorem Qb.ct {w0 W:World} {p:Ps} {m:Mv} {f t:Nat} {q:Ps} (h:Qb w0 p m f t W q):W.cell? ⟨w0.heap.size+1,1,none⟩=some (.int .i64 (t:Int)):=by rw [← h.et];exact h.hm.t
theorem Qb.upd {w0 W:World} {p:Ps} {m:Mv} {f t:Nat} {q q':Ps} (h:Qb w0 p m f t W q) (k:Nat) (u:Value) (hq:PAt (W.setCell ⟨w0.heap.size+3,k,none⟩ u) (w0.heap.size+3) q'):Qb w0 p m f t (W.setCell ⟨w0.heap.size+3,k,none⟩ u) q':=by
 have hn:∀ j,j<w0.heap.size+3→(W.setCell ⟨w0.heap.size+3,k,none⟩ u).heap[j]?=W.heap[j]?:=fun j hj=>heap_setCell_other W ⟨w0.heap.size+3,k,none⟩ j u (by show j≠w0.heap.size+3;omega)
 exact ⟨⟨h.hp.len,(hn _ (by omega)).trans h.hp.at_⟩,⟨(hn _ (by omega)).trans h.hm.at_⟩,h.ef,h.et,⟨h.hr.len,(hn _ (by omega)).trans h.hr.at_⟩,hq,h.hk.setCell (p:=⟨w0.heap.size+3,k,none⟩) (by show w0.heap.size≤w0.heap.size+3;omega) _⟩
theorem Qb.sq {w0 W:World} {p:Ps} {m:Mv} {f t:Nat} {B:List Int} {a c e:Int} (h:Qb w0 p m f t W ⟨B,a,c,e⟩) (k:Nat) (hk:k<64) (x:Int):Qb w0 p m f t (W.setCell ⟨w0.heap.size+3,k,none⟩ (.int .i8 x)) ⟨B.set k x,a,c,e⟩:=h.upd k _ (h.hq.setSq k hk x)
theorem Qb.cas {w0 W:World} {p:Ps} {m:Mv} {f t:Nat} {B:List Int} {a c e:Int} (h:Qb w0 p m f t W ⟨B,a,c,e⟩) (x:Int):Qb w0 p m f t (W.setCell ⟨w0.heap.size+3,65,none⟩ (.int .i64 x)) ⟨B,a,x,e⟩:=h.upd 65 _ (h.hq.set 1 _ rfl rfl)
theorem Qb.ep {w0 W:World} {p:Ps} {m:Mv} {f t:Nat} {B:List Int} {a c e:Int} (h:Qb w0 p m f t W ⟨B,a,c,e⟩) (x:Int):Qb w0 p m f t (W.setCell ⟨w0.heap.size+3,66,none⟩ (.int .i64 x)) ⟨B,a,c,x⟩:=h.upd 66 _ (h.hq.set 2 _ rfl rfl)
set_option maxHeartbeats 16000000 in
theorem behind_is (p:Ps) (hB:Brd p.B) (t01:p.t=0∨p.t=1) (c0:0≤p.c) (c1:p.c≤15) (hcas:casB p=true) (m:Mv) (ho:On m) (hpr:Qbb m.p=true) (f t:Nat) (hf:m.f=f) (ht:m.t=t) (w:World) :
  Calls Tryz.prog 20 #[.agg (pl p).toArray,.agg (ml m).toArray] w (RetP w (rbehP p m f t)):=by
 have HP:Hid (PAt _ _ p):=⟨hB.1,heap_alloc2_old w (.cells (pl p).toArray 26) (.cells (ml m).toArray 28)⟩;have HM:Hid (MAt _ _ m):=⟨heap_alloc2_new w (.cells (pl p).toArray 26) (.cells (ml m).toArray 28)⟩;have HK0:=Qh (((Kept.refl w).alloc (.cells (pl p).toArray 26)).alloc (.cells (ml m).toArray 28));have f1:f<64:=by have:=ho.f1;omega
 have t1:t<64:=by have:=ho.t1;omega
 have hpl:Hid (p.B.length=64):=hB.1;have hql:Hid ((⟨p.B,1-p.t,0,-1⟩:Ps).B.length=64):=hB.1;have HP3:=Qh (HP.out.kept ((Kept.refl _).alloc (.cells (pl Zp).toArray 26)))
 have HQ0:Hid (Qb w p m f t ((((w.alloc (.cells (pl p).toArray 26)).alloc (.cells (ml m).toArray 28)).alloc (.cells (pl Zp).toArray 26)).alloc (.cells (pl ⟨p.B,1-p.t,0,-1⟩).toArray 26)) ⟨p.B,1-p.t,0,-1⟩):=by
  have k2:=(((Kept.refl ((w.alloc (.cells (pl p).toArray 26)).alloc (.cells (ml m).toArray 28))).alloc (.cells (pl Zp).toArray 26)).alloc (.cells (pl ⟨p.B,1-p.t,0,-1⟩).toArray 26));have a2:=heap_alloc2_old ((w.alloc (.cells (pl p).toArray 26)).alloc (.cells (ml m).toArray 28)) (.cells (pl Zp).toArray 26) (.cells (pl ⟨p.B,1-p.t,0,-1⟩).toArray 26);have a3:=heap_alloc2_new ((w.alloc (.cells (pl p).toArray 26)).alloc (.cells (ml m).toArray 28)) (.cells (pl Zp).toArray 26) (.cells (pl ⟨p.B,1-p.t,0,-1⟩).toArray 26);have hsz:((w.alloc (.cells (pl p).toArray 26)).alloc (.cells (ml m).toArray 28)).heap.size=w.heap.size+2:=by simp
  rw [hsz] at a2 a3;exact ⟨HP.out.kept k2,MAt.kept HM.out k2,hf,ht,⟨Yy,a2⟩,⟨hB.1,a3⟩,HK0.out.trans k2⟩
 have HTk:=Qh (fun w=>Jc p hB m ho w);have HRt:=Qh (fun w=>rightR_is p hB c0 c1 hcas m f t hf ht f1 t1 w);have HPw:=Qh (Jn p.B hB f f1);have HTl:=Qh (take_lt (p:=p) ho);have HHas:=Qh (fun k (hk:k<4) w=>rhas_is p.c (hR k) w c0 c1 (hR_18 k hk).1 (hR_18 k hk).2);have ep:pawnB p m=(kindI (p.B.getD f 0) == 1):=by unfold pawnB bAt;rw [hf,Int.toNat_natCast]
 rw [← ep] at HPw;have HFt:Hid (m.f=f∧m.t=t):=⟨hf,ht⟩;have HPr:=Qh hpr;have HT01:=Qh t01;have hwr:IntKind.i64.wrap (1-p.t)=1-p.t:=by rcases t01 with h|h <;> rw [h] <;> decide
 obtain ⟨z1,z2,z3⟩:=rook_at t01;have ct3:=HP3.out.turn;have HFin:Hid (rbehB p m f t=rs6 p m f (rs5 p m f ((rs3 p m t (rs2 p f t (st1 p m))).set f 0))):=rfl;have HRep:Hid (repI p m f t=if pawnB p m && (((t:Int)-f == 16) || ((f:Int)-t == 16)) then ((f:Int)+t) / 2 else -1):=rfl;have HL1:=Qh (lost_bd f1);have HL2:=Qh (lost_bd t1);have HCF:=Qh (fun k=>@cast_f p m f hf k);have HN4:=Qh (castN_le p m);have hne1:w.heap.size+1≠w.heap.size+3:=by omega
 have hne0:w.heap.size≠w.heap.size+3:=by omega
 have hfI:(f:Int)<64:=by omega
 have htI:(t:Int)<64:=by omega
 clear hB c0 c1 ho hf ht hpr t01 HP HM HK0 hcas ep;go_enter Tryz.func20,Tryz.ntmps20
 go_wp2_with (first
  | (with_reducible refine Qy rfl rfl ?_)
  | ((with_reducible refine Yb rfl _ _ rfl Zp ⟨p.B,1-p.t,0,-1⟩ Yy hql.out ?_ ?_ ?_);exact rfl;exact rfl)
  | (refine Qd (by rfl) _ rfl _ rfl _ HP3.out ?_)
  | (refine wpList_built_p3 rfl _ _ _ rfl p.B (1-p.t) (-1) hpl.out rfl rfl rfl ?_)
  | (refine Qc (by rfl) _ rfl _ rfl _ HQ0.out.hp ?_)
  | (refine Qe (by rfl) _ rfl _ rfl _ HQ0.out.hm ?_))
 refine (HTk.out _).mono ?_;rintro e w1 ⟨rfl,k1⟩;have H1:=Qh (HQ0.out.kept k1);clear k1 HQ0 HP3 ct3 hwr
 go_upto_if 20 with fail
 go_cut [] from 6 (fun wc=>Qb w p m f t wc ⟨st1 p m,1-p.t,0,-1⟩)
 case first =>
  by_cases hz:0≤takeI p m
  ·obtain ⟨k,hk⟩:=Int.eq_ofNat_of_zero_le hz
   have hk':=(take_on hk (by omega));have hk64:k<64:=by have:=HTl.out.2;rw [hk'.1] at this;omega
   have HE:Hid (st1 p m=p.B.set k 0):=by show _=_;unfold st1;rw [hk'.1,hk'.2,Int.toNat_natCast];rfl
   rw [hk];have hkI:(k:Int)<64:=by omega
   have x1:=H1.out.hq.sq k hk64;have x2:=H1.out.hq.frozen k;have H2:=Qh (H1.out.sq k hk64 0);clear hk hk' hz;generalize (Ps.B ⟨p.B,1-p.t,0,-1⟩).getD k 0=y at *;go_wp2
   go_meet
   case rel=>rw [HE.out];exact H2.out
  ·have HE:Hid (st1 p m=p.B):=by show _=_;unfold st1 takeB;rw [decide_eq_false hz];rfl
   generalize takeI p m=x at *;go_wp2
   go_meet
   case rel=>rw [HE.out];exact H1.out
 case rest =>
 have H2:=Qh hcut;clear hcut H1 HTl HTk;generalize st1 p m=B1 at *;have HX:=Qh (H2.out.hp.sq f f1);have HE2:Hid (rs2 p f t B1=B1.set t (p.B.getD f 0)):=rfl;generalize p.B.getD f 0=x at *;go_wp2;refine wp_region_held_drew (S:=KB (wc) (w.heap.size+3)) (by kernel_rfl) ((KB.refl _ _).kept (Kept.refl _).drew) (fun Qj=>?_);have hKp:=(Kept.refl (wc)).drew;refine rT 0 24 (.pointer (some ⟨w.heap.size+1,1,none⟩)) rfl rfl Qj ?_;simp only [Act.put,sA,sZ,sU];refine rC 1 25 (.int .i64 ↑t) rfl rfl (fun _ h=>KB.cell h (hne1) (H2.out.ct)) Qj ?_;simp only [pA,pN,sZ,sU];refine rT 2 26 (.pointer (some ⟨w.heap.size+1,0,none⟩)) rfl rfl Qj ?_;simp only [pA,pN,sZ,sU];refine rC 3 27 (.int .i64 ↑f) rfl rfl (fun _ h=>KB.cell h (hne1) (H2.out.cf)) Qj ?_;simp only [pA,pN,sZ,sU];refine rT 4 28 (.pointer (some ⟨w.heap.size,0,none⟩)) rfl rfl Qj ?_;simp only [pA,pN,sZ,sU];refine rT 5 29 (.pointer (some ⟨w.heap.size,f,none⟩)) rfl rfl Qj ?_;simp only [pA,pN,sZ,sU];refine rC 6 30 (.int .i8 x) rfl rfl (fun _ h=>KB.cell h (hne0) (HX.out)) Qj ?_;simp only [pA,pN,sZ,sU];refine rT 7 31 (.pointer (some ⟨w.heap.size+3,0,none⟩)) rfl rfl Qj ?_;simp only [pA,pN,sZ,sU];refine rT 8 32 (.pointer (some ⟨w.heap.size+3,t,none⟩)) rfl rfl Qj ?_;simp only [pA,pN,sZ,sU];generalize wc.drew=w8 at *;have H3:=Qh (H2.out.kept hKp);have a9:=H3.out.hq.sq t t1;have f9:=H3.out.hq.frozen t;refine rR 9 rfl (fun K hK=>?_);go_simp;have H4:=Qh (H3.out.sq t t1 x);rw [← HE2.out] at H4;refine hK.out _ _ (KB.set Qj t (.int .i8 x)) (fun Qj=>?_);clear hK K a9 f9;generalize w8.setCell ⟨w.heap.size+3,t,none⟩ (.int .i8 x)=w9 at *;refine wpAnyH_done (by kernel_rfl) ?_ _;clear H2 H3 HX Qj hKp HE2;generalize rs2 p f t B1=B2 at *;have cp:=H4.out.hm.p
 go_upto_if 35 with fail
 clear cp
 go_cut [] from 6 (fun wd=>Qb w p m f t wd ⟨rs3 p m t B2,1-p.t,0,-1⟩)
 case first =>
  by_cases hz:0<m.p
  ·have hp25:Hid (2≤m.p∧m.p≤5):=by
    have h1:=HPr.out;unfold Qbb at h1;simp only [Bool.or_eq_true,Bool.and_eq_true,beq_iff_eq,decide_eq_true_eq] at h1;exact h1.resolve_left (by omega)
   obtain ⟨u1,u2,u3,u4⟩:=mk_at hp25.out.1 hp25.out.2 HT01.out;have HE:Hid (rs3 p m t B2=B2.set t (mkI m.p p.t)):=by show _=_;unfold rs3;rw [if_pos hz]
   generalize mkI m.p p.t=x at *;have d1:=H4.out.ct;have d2:=H4.out.hm.p;have d3:=H4.out.hp.turn;have x1:=H4.out.hq.sq t t1;have x2:=H4.out.hq.frozen t;have H5:=Qh (H4.out.sq t t1 x);generalize (Ps.B ⟨B2,1-p.t,0,-1⟩).getD t 0=y at *;go_wp2
   go_meet
   case rel=>rw [HE.out];exact H5.out
  ·have HE:Hid (rs3 p m t B2=B2):=by show _=_;unfold rs3;rw [if_neg hz]
   go_wp2
   go_meet
   case rel=>rw [HE.out];exact H4.out
 case rest =>
 have H5:=Qh hcut;clear hcut H4;generalize rs3 p m t B2=B3 at *;have d1:=H5.out.cf;have x1:=H5.out.hq.sq f f1;have x2:=H5.out.hq.frozen f;have H6:=Qh (H5.out.sq f f1 0);generalize (Ps.B ⟨B3,1-p.t,0,-1⟩).getD f 0=y at *;generalize B3.set f 0=B4 at *
 go_wp2_with (first
  | (refine Qc (by rfl) _ rfl _ rfl _ H6.out.hp ?_)
  | (refine Qe (by rfl) _ rfl _ rfl _ H6.out.hm ?_))
 refine (HRt.out _).mono ?_;rintro e w10 ⟨rfl,k10⟩;have H7:=Qh (H6.out.kept k10);clear k10 H6 H5 d1 x1 x2 HRt;have HS5:Hid (∀ B,rs5 p m f B=if castN p m=0∨castN p m=2 then (B.set (f+1) (mkI 4 p.t)).set (f+3) 0 else B):=fun _=>rfl
 have HS6:Hid (∀ B,rs6 p m f B=if castN p m=1∨castN p m=3 then (B.set (f-1) (mkI 4 p.t)).set (f-4) 0 else B):=fun _=>rfl
 generalize castN p m=cn at *;generalize mkI 4 p.t=rook at *;have d3:=H7.out.hp.turn
 go_upto_region 11 with fail
 go_cut [7,67] from 9 (fun s7 sb wd=>s7=.int .i64 (hR cn)∧sb=.bool (decide (cn=0∨cn=2))∧wd=w10)
 case first =>
  have hbb:decide (cn=0∨cn=2)=((hR cn == 1) || (hR cn == 4)):=by
   have:cn=0∨cn=1∨cn=2∨cn=3∨cn=4:=by have:=HN4.out;omega
   rcases this with rfl|rfl|rfl|rfl|rfl <;> rfl
  have HBB:=Qh hbb;clear hbb
  cases hb1:(hR cn == 1)
  ·rw [hb1] at HBB
   go_wp2
   go_meet
   case rel=>exact ⟨rfl,by rw [HBB.out];rfl,rfl⟩
  ·rw [hb1] at HBB
   go_wp2
   go_meet
   case rel=>exact ⟨rfl,by rw [HBB.out];rfl,rfl⟩
 case rest =>
 obtain ⟨rfl,rfl,rfl⟩:=hcut;clear d3
 go_upto_if 67 with fail
 go_cut [7] from 9 (fun s7 wd=>s7=.int .i64 (hR cn)∧Qb w p m f t wd ⟨rs5 p m f B4,1-p.t,0,-1⟩)
 case first =>
  by_cases hc:cn=0∨cn=2
  ·have HE:=Qh (HS5.out B4)
   rw [if_pos hc] at HE
   have hfk:f=4∨f=60:=by
    rcases hc with h|h
    ·exact .inl (HCF.out 0 (by omega) h)
    ·exact .inr (HCF.out 2 (by omega) h)
   obtain ⟨g1,hg1⟩:∃ g,g=f+1:=⟨_,rfl⟩;obtain ⟨g2,hg2⟩:∃ g,g=f+3:=⟨_,rfl⟩;rw [← hg1,← hg2] at HE;have b1:g1<64:=by omega
   have b2:g2<64:=by omega
   have c1:(g1:Int)<64:=by omega
   have c2:(g2:Int)<64:=by omega
   have e1:IntKind.i64.wrap ((f:Int)+1)=(g1:Int):=by rw [IntWalk.i64_in _ (by omega)];omega
   have e2:IntKind.i64.wrap ((f:Int)+3)=(g2:Int):=by rw [IntWalk.i64_in _ (by omega)];omega
   have d1:=H7.out.cf;have x1:=H7.out.hq.sq g1 b1;have x2:=H7.out.hq.frozen g1;have HY:=Qh (H7.out.sq g1 b1 rook);have d2:=HY.out.cf;have x3:=HY.out.hq.sq g2 b2;have x4:=HY.out.hq.frozen g2;have HZ:=Qh (HY.out.sq g2 b2 0);generalize (Ps.B ⟨B4,1-p.t,0,-1⟩).getD g1 0=y1 at *;generalize (Ps.B ⟨B4.set g1 rook,1-p.t,0,-1⟩).getD g2 0=y2 at *;rw [decide_eq_true hc];clear hg1 hg2 hfk hc;go_wp2
   go_meet
   case rel=>exact ⟨rfl,by rw [HE.out];exact HZ.out⟩
  ·have HE:=Qh (HS5.out B4)
   rw [if_neg hc] at HE;rw [decide_eq_false hc];clear hc;go_wp2
   go_meet
   case rel=>exact ⟨rfl,by rw [HE.out];exact H7.out⟩
 case rest =>
 obtain ⟨rfl,hcut⟩:=hcut;have H8:=Qh hcut;clear hcut H7 HS5;generalize rs5 p m f B4=B5 at *
 go_upto_region 14 with fail
 go_cut [7,84] from 9 (fun s7 sb wd=>s7=.int .i64 (hR cn)∧sb=.bool (decide (cn=1∨cn=3))∧wd=wc)
 case first =>
  have hbb:decide (cn=1∨cn=3)=((hR cn == 2) || (hR cn == 8)):=by
   have:cn=0∨cn=1∨cn=2∨cn=3∨cn=4:=by have:=HN4.out;omega
   rcases this with rfl|rfl|rfl|rfl|rfl <;> rfl
  have HBB:=Qh hbb;clear hbb
  cases hb1:(hR cn == 2)
  ·rw [hb1] at HBB
   go_wp2
   go_meet
   case rel=>exact ⟨rfl,by rw [HBB.out];rfl,rfl⟩
  ·rw [hb1] at HBB
   go_wp2
   go_meet
   case rel=>exact ⟨rfl,by rw [HBB.out];rfl,rfl⟩
 case rest =>
 obtain ⟨rfl,rfl,rfl⟩:=hcut
 go_upto_if 84 with fail
 go_cut [7] from 9 (fun s7 wd=>s7=.int .i64 (hR cn)∧Qb w p m f t wd ⟨rs6 p m f B5,1-p.t,0,-1⟩)
 case first =>
  by_cases hc:cn=1∨cn=3
  ·have HE:=Qh (HS6.out B5)
   rw [if_pos hc] at HE
   have hfk:f=4∨f=60:=by
    rcases hc with h|h
    ·exact .inl (HCF.out 1 (by omega) h)
    ·exact .inr (HCF.out 3 (by omega) h)
   obtain ⟨g1,hg1⟩:∃ g,g=f-1:=⟨_,rfl⟩;obtain ⟨g2,hg2⟩:∃ g,g=f-4:=⟨_,rfl⟩;rw [← hg1,← hg2] at HE;have b1:g1<64:=by omega
   have b2:g2<64:=by omega
   have c1:(g1:Int)<64:=by omega
   have c2:(g2:Int)<64:=by omega
   have e1:IntKind.i64.wrap ((f:Int)-1)=(g1:Int):=by rw [IntWalk.i64_in _ (by omega)];omega
   have e2:IntKind.i64.wrap ((f:Int)-4)=(g2:Int):=by rw [IntWalk.i64_in _ (by omega)];omega
   have d1:=H8.out.cf;have x1:=H8.out.hq.sq g1 b1;have x2:=H8.out.hq.frozen g1;have HY:=Qh (H8.out.sq g1 b1 rook);have d2:=HY.out.cf;have x3:=HY.out.hq.sq g2 b2;have x4:=HY.out.hq.frozen g2;have HZ:=Qh (HY.out.sq g2 b2 0);generalize (Ps.B ⟨B5,1-p.t,0,-1⟩).getD g1 0=y1 at *;generalize (Ps.B ⟨B5.set g1 rook,1-p.t,0,-1⟩).getD g2 0=y2 at *;rw [decide_eq_true hc];clear hg1 hg2 hfk hc;go_wp2
   go_meet
   case rel=>exact ⟨rfl,by rw [HE.out];exact HZ.out⟩
  ·have HE:=Qh (HS6.out B5)
   rw [if_neg hc] at HE;rw [decide_eq_false hc];clear hc;go_wp2
   go_meet
   case rel=>exact ⟨rfl,by rw [HE.out];exact H8.out⟩
 case rest =>
 obtain ⟨rfl,hcut⟩:=hcut;have H9:=Qh hcut;clear hcut H8 HS6;generalize rs6 p m f B5=B6 at *;have HQN:=Qh (qN_bd p.c f t);go_wp2
 go_loopw [9] (fun t9 wr=>∃ k:Nat,k≤4∧t9=.int .i64 (rg k)∧Qb w p m f t wr ⟨B6,1-p.t,qN p.c f t k,-1⟩) (fun t9 _=>16-(intOf t9).toNat)
 case atStart=>exact ⟨0,by omega,rfl,H9.out⟩
 case round =>
  obtain ⟨k,hk,rfl,hQ⟩:=hrel;have H:=Qh hQ;clear hQ;by_cases hlt:k<4
  ·have hrk:rg k=hR k:=by
    have:k=0∨k=1∨k=2∨k=3:=by omega
    rcases this with rfl|rfl|rfl|rfl <;> rfl
   have hnx:IntKind.i64.wrap (2*hR k)=rg (k+1):=by
    have:k=0∨k=1∨k=2∨k=3:=by omega
    rcases this with rfl|rfl|rfl|rfl <;> rfl
   have HRg:Hid (hR k<rg (k+1)∧1≤hR k∧hR k≤8∧hR k=rg k):=by
    have:k=0∨k=1∨k=2∨k=3:=by omega
    rcases this with rfl|rfl|rfl|rfl <;> exact ⟨by decide,by decide,by decide,rfl⟩
   have hr8:hR k≤8:=HRg.out.2.2.1;have hrz:(hR k == 0)=false:=beq_eq_false_iff_ne.2 (by have:=HRg.out;omega);have hrz':hR k≠0:=by have:=HRg.out;omega
   obtain ⟨q1,q2⟩:=quo_hr HL1.out.1 (by have:=HL1.out;omega) k hlt;obtain ⟨q3,q4⟩:=quo_hr HL2.out.1 (by have:=HL2.out;omega) k hlt;have hsum:IntKind.i64.wrap (qN p.c f t k+hR k)=qN p.c f t k+hR k:=IntWalk.i64_in _ (by have:=HQN.out k (by omega);have:=HRg.out;omega);have HKp:Hid (keepB p.c f t k=(rgtB p.c (hR k) && (lostI f / hR k % 2 == 0) && (lostI t / hR k % 2 == 0))):=rfl;have HQs:Hid (qN p.c f t (k+1)=if keepB p.c f t k then qN p.c f t k+hR k else qN p.c f t k):=rfl;have HHk:=Qh (HHas.out k hlt);have HLf:=Qh (lost_is (f:Int));have HLt:=Qh (lost_is (t:Int));rw [hrk];clear hrk;have d1:=H.out.hp.cas;generalize lostI (f:Int) / hR k=lf at *;generalize lostI (t:Int) / hR k=lt at *;generalize lostI (f:Int)=l1 at *;generalize lostI (t:Int)=l2 at *;generalize qN p.c f t k=qn at *
   cases h1:rgtB p.c (hR k)
   ·rw [h1] at HHk HKp
    rw [HKp.out] at HQs;have HQs':Hid (qN p.c f t (k+1)=qn):=HQs.out;go_wp2_with fail
    refine (HHk.out _).mono ?_;rintro e v1 ⟨rfl,k1⟩;have H1:=Qh (H.out.kept k1);clear k1 d1;go_wp2;go_roundw
    case rel=>exact ⟨k+1,by omega,rfl,by rw [HQs'.out];exact H1.out⟩
    case measure=>have:=HRg.out;simp [intOf];omega
   ·rw [h1] at HHk HKp
    go_wp2_with fail
    refine (HHk.out _).mono ?_;rintro e v1 ⟨rfl,k1⟩;have H1:=Qh (H.out.kept k1);have d2:=H1.out.cf;clear k1 d1;go_wp2_with fail
    refine (HLf.out _).mono ?_;rintro e v2 ⟨rfl,k2⟩;have H2:=Qh (H1.out.kept k2);have d3:=H2.out.ct;clear k2 d2
    cases h2:(lf % 2 == 0)
    ·rw [h2] at HKp
     rw [HKp.out] at HQs;have HQs':Hid (qN p.c f t (k+1)=qn):=HQs.out;go_wp2;go_roundw
     case rel=>exact ⟨k+1,by omega,rfl,by rw [HQs'.out];exact H2.out⟩
     case measure=>have:=HRg.out;simp [intOf];omega
    ·rw [h2] at HKp
     go_wp2_with fail
     refine (HLt.out _).mono ?_;rintro e v3 ⟨rfl,k3⟩;have H3:=Qh (H2.out.kept k3);clear k3 d3
     cases h3:(lt % 2 == 0)
     ·rw [h3] at HKp
      rw [HKp.out] at HQs;have HQs':Hid (qN p.c f t (k+1)=qn):=HQs.out;go_wp2;go_roundw
      case rel=>exact ⟨k+1,by omega,rfl,by rw [HQs'.out];exact H3.out⟩
      case measure=>have:=HRg.out;simp [intOf];omega
     ·rw [h3] at HKp
      rw [HKp.out] at HQs;have HQs':Hid (qN p.c f t (k+1)=qn+hR k):=HQs.out;have x1:=H3.out.hq.cas;have x2:=H3.out.hq.frozen 65;have H4:=Qh (H3.out.cas (qn+hR k));go_wp2;go_roundw
      case rel=>exact ⟨k+1,by omega,rfl,by rw [HQs'.out];exact H4.out⟩
      case measure=>have:=HRg.out;simp [intOf];omega
  ·obtain rfl:k=4:=by omega
   have e16:rg 4=16:=rfl;rw [e16];have HQL:Hid (B6.length=64):=H.out.hq.len;have HFin4:Hid (rbehP p m f t=⟨B6,1-p.t,qN p.c f t 4,repI p m f t⟩):=by show _=_;unfold rbehP;rw [HFin.out]
   generalize qN p.c f t 4=q4 at *;have d1:=H.out.cf;go_wp2_with (refine Qd (by rfl) _ rfl _ rfl _ H.out.hp ?_)
   refine (HPw.out _).mono ?_;rintro e v1 ⟨rfl,k1⟩;have H1:=Qh (H.out.kept k1);clear k1 d1;have d1:=H1.out.cf;have d2:=H1.out.ct;have e1:IntKind.i64.wrap ((t:Int)-f)=(t:Int)-f:=IntWalk.i64_in _ (by omega);have e2:IntKind.i64.wrap ((f:Int)-t)=(f:Int)-t:=IntWalk.i64_in _ (by omega);have e3:IntKind.i64.wrap ((f:Int)+t)=(f:Int)+t:=IntWalk.i64_in _ (by omega)
   have e4:IntKind.i64.wrap (((f:Int)+t).tdiv 2)=((f:Int)+t) / 2:=by
    rw [Int.tdiv_eq_ediv_of_nonneg (by omega)];exact IntWalk.i64_in _ (by omega)
   cases h1:pawnB p m
   ·skip
    have HRp:Hid (repI p m f t=-1):=by show _=_;rw [HRep.out,h1];rfl
    have HQa:Hid (PAt _ (w.heap.size+1+1+1) ⟨B6,1-p.t,q4,-1⟩):=H1.out.hq;have HRa:Hid (PAt _ (w.heap.size+1+1) Zp):=H1.out.hr;go_wp2_with (with_reducible refine stopAt 155 rfl ?_)
    refine Qh ?_;refine Qc rfl _ rfl (w.heap.size+1+1+1) rfl ⟨B6,1-p.t,q4,-1⟩ HQa.out ?_;simp only [Act.put,sA,sZ,sU];refine Yd rfl _ _ rfl (w.heap.size+1+1) Zp ⟨B6,1-p.t,q4,-1⟩ HRa.out HQL.out rfl rfl ?_;go_wp2;refine bodyPost_ret (v:=.agg (pl ⟨B6,1-p.t,q4,-1⟩).toArray) ?_ rfl ⟨by rw [HFin4.out,HRp.out],H1.out.hk.setRow (by omega) _⟩;exact results_p rfl _ rfl (H1.out.hr.setRow HQL.out)
   ·cases h2:((t:Int)-f == 16)
    ·cases h3:((f:Int)-t == 16)
     ·skip
      have HRp:Hid (repI p m f t=-1):=by show _=_;rw [HRep.out,h1,h2,h3];rfl
      have HQa:Hid (PAt _ (w.heap.size+1+1+1) ⟨B6,1-p.t,q4,-1⟩):=H1.out.hq;have HRa:Hid (PAt _ (w.heap.size+1+1) Zp):=H1.out.hr;go_wp2_with (with_reducible refine stopAt 155 rfl ?_)
      refine Qh ?_;refine Qc rfl _ rfl (w.heap.size+1+1+1) rfl ⟨B6,1-p.t,q4,-1⟩ HQa.out ?_;simp only [Act.put,sA,sZ,sU];refine Yd rfl _ _ rfl (w.heap.size+1+1) Zp ⟨B6,1-p.t,q4,-1⟩ HRa.out HQL.out rfl rfl ?_;go_wp2;refine bodyPost_ret (v:=.agg (pl ⟨B6,1-p.t,q4,-1⟩).toArray) ?_ rfl ⟨by rw [HFin4.out,HRp.out],H1.out.hk.setRow (by omega) _⟩;exact results_p rfl _ rfl (H1.out.hr.setRow HQL.out)
     ·have HRp:Hid (repI p m f t=((f:Int)+t) / 2):=by show _=_;rw [HRep.out,h1,h2,h3];rfl
      have x1:=H1.out.hq.ep;have x2:=H1.out.hq.frozen 66;have H2:=Qh (H1.out.ep (((f:Int)+t) / 2));generalize ((f:Int)+t) / 2=md at *;have HQa:Hid (PAt _ (w.heap.size+1+1+1) ⟨B6,1-p.t,q4,md⟩):=H2.out.hq;have HRa:Hid (PAt _ (w.heap.size+1+1) Zp):=H2.out.hr;go_wp2_with (with_reducible refine stopAt 155 rfl ?_)
      refine Qh ?_;refine Qc rfl _ rfl (w.heap.size+1+1+1) rfl ⟨B6,1-p.t,q4,md⟩ HQa.out ?_;simp only [Act.put,sA,sZ,sU];refine Yd rfl _ _ rfl (w.heap.size+1+1) Zp ⟨B6,1-p.t,q4,md⟩ HRa.out HQL.out rfl rfl ?_;go_wp2;refine bodyPost_ret (v:=.agg (pl ⟨B6,1-p.t,q4,md⟩).toArray) ?_ rfl ⟨by rw [HFin4.out,HRp.out],H2.out.hk.setRow (by omega) _⟩;exact results_p rfl _ rfl (H2.out.hr.setRow HQL.out)
    ·have HRp:Hid (repI p m f t=((f:Int)+t) / 2):=by show _=_;rw [HRep.out,h1,h2];rfl
     have x1:=H1.out.hq.ep;have x2:=H1.out.hq.frozen 66;have H2:=Qh (H1.out.ep (((f:Int)+t) / 2));generalize ((f:Int)+t) / 2=md at *;have HQa:Hid (PAt _ (w.heap.size+1+1+1) ⟨B6,1-p.t,q4,md⟩):=H2.out.hq;have HRa:Hid (PAt _ (w.heap.size+1+1) Zp):=H2.out.hr;go_wp2_with (with_reducible refine stopAt 155 rfl ?_)
     refine Qh ?_;refine Qc rfl _ rfl (w.heap.size+1+1+1) rfl ⟨B6,1-p.t,q4,md⟩ HQa.out ?_;simp only [Act.put,sA,sZ,sU];refine Yd rfl _ _ rfl (w.heap.size+1+1) Zp ⟨B6,1-p.t,q4,md⟩ HRa.out HQL.out rfl rfl ?_;go_wp2;refine bodyPost_ret (v:=.agg (pl ⟨B6,1-p.t,q4,md⟩).toArray) ?_ rfl ⟨by rw [HFin4.out,HRp.out],H2.out.hk.setRow (by omega) _⟩;exact results_p rfl _ rfl (H2.out.hr.setRow HQL.out)
end Go.Proofs.YtlpeiolgcaddjaaGreatDoor
