/- RoB · RoC · KpS · RoD: my texts, in their order. -/
import Derived.Test.YtlbipjmmlobofaaGreatDoorPkA01
import Derived.Test.YtlbipjmmlobofaaGreatDoorPkA12
import Derived.Laws.EntriesVeiled
import Derived.BigRegion
namespace Go.Proofs.YtlbipjmmlobofaaGreatDoor
open Go.RowKit
set_option linter.unusedVariables false
set_option maxRecDepth 100000
set_option linter.unusedSimpArgs false
def nf (n:Nat):FuncId:=match n with
 | 0=>107
 | 1=>166
 | 2=>189
 | 3=>204
 | _=>210
def nv (n:Nat):Value:=.func (.func (nf n)) #[] #[]
structure Rx (w:World) (g:Nat) (B:List Int) (T:List Value):Prop where
 len:B.length=64
 at_:w.heap[g]?=some (.cells (cl B++T).toArray 130 (0,0))
def rtl (r:RS):List Value:=[.int .i64 r.side,.string ⟨r.left.toArray⟩,.int .i64 r.man,.int .i32 r.file,nv r.next,.bool r.ends]
def Rr (w:World) (g:Nat) (r:RS):Prop:=Rx w g r.B (rtl r)
theorem Rx.cell {w:World} {g:Nat} {B:List Int} {T:List Value} (h:Rx w g B T) (k:Nat) {v:Value} (hk:T[k]?=some v):w.cell? ⟨g,64+k,none⟩=some v:=by
 have h1:=cl_length B
 have h2:=h.len
 rw [cell_of_row _ _ (64+k) _ _ (0,0) h.at_,List.getElem?_toArray,List.getElem?_append_right (by omega),show 64+k-(cl B).length=k by omega,hk]
theorem Rx.frozen {w:World} {g:Nat} {B:List Int} {T:List Value} (h:Rx w g B T) (k:Nat):w.frozen? ⟨g,k,none⟩=false :=
 frozen_of_row w g k _ _ h.at_
theorem Rx.set {w:World} {g:Nat} {B:List Int} {T:List Value} (h:Rx w g B T) (k:Nat) (v:Value):Rx (w.setCell ⟨g,64+k,none⟩ v) g B (T.set k v):=by
 refine ⟨h.len,?_⟩
 have hl:(cl B).length=64:=by rw [cl_length,h.len]
 rw [heap_setCell_same w g (64+k) _ _ _ h.at_]
 congr 2
 rw [List.setIfInBounds_toArray,List.set_append_right _ _ (by omega),show 64+k-(cl B).length=k by omega]
theorem Rx.range {w:World} {g:Nat} {B:List Int} {T:List Value} (h:Rx w g B T):w.rangeAt g 0 (cl B):=by
 intro j v hv
 have hj:j<(cl B).length:=by
  obtain ⟨hj,_⟩:=List.getElem?_eq_some_iff.1 hv
  exact hj
 rw [Nat.zero_add,cell_of_row _ _ j _ _ (0,0) h.at_,List.getElem?_toArray,List.getElem?_append_left hj,hv]
theorem Rx.there {w:World} {g:Nat} {B:List Int} {T:List Value} (h:Rx w g B T):w.there g 0 64:=by
 intro j hj
 refine ⟨?_,h.frozen _⟩
 have h1:=cl_length B
 have h2:=h.len
 rw [cell_of_row _ _ _ _ _ (0,0) h.at_,List.getElem?_toArray,List.getElem?_append_left (by omega),List.getElem?_eq_getElem (by omega)]
 rfl
theorem Rx.setBoard {w:World} {g:Nat} {B:List Int} {T:List Value} (h:Rx w g B T) (B':List Int) (hB':B'.length=64):Rx (w.setCells g 0 (cl B').toArray.toList) g B' T:=by
 refine ⟨hB',?_⟩
 have:=heap_setCells g 130 (cl B') (cl B) [] T w (by rw [cl_length,cl_length,h.len,hB']) (by simpa using h.at_)
 simpa using this
theorem Rx.heap {w w':World} {g:Nat} {B:List Int} {T:List Value} (h:Rx w g B T) (k:Kept w w'):Rx w' g B T:=⟨h.len,k.heap h.at_⟩
theorem Rx.eq {w:World} {g:Nat} {B B':List Int} {T T':List Value} (h:Rx w g B T) (e:B=B') (e':T=T'):Rx w g B' T':=by subst e;subst e';exact h

theorem full_is (w:World) (g:Nat) (r:RS) (h:Rr w g r) :
  Calls Tryz.prog 146 #[.pointer (some ⟨g,0,none⟩)] w fun e w'=>e=.returned (.tuple #[])∧Rr w' g r.full∧KeptB g w w':=by
 have c0:=h.cell 0 rfl
 have f4:=h.frozen 68
 have c4:=h.cell 4 rfl
 have H1:=h.set 4 (nv 1)
 have H2:=H1.set 5 (.bool (r.side == 1))
 have f5:=H1.frozen 69
 have c5:=H1.cell 5 rfl
 have HR:Hid (Rr _ g r.full):=H2.eq rfl rfl
 clear H1 H2 h
 simp only [nv,nf] at *
 go_enter Tryz.func146,Tryz.ntmps146
 go_wp2
 refine bodyPost_end (results_none rfl _ _ _) rfl ?_
 exact ⟨rfl,HR.out,((KeptB.refl g w).setCell 68 _).setCell 69 _⟩
theorem behind_yes (w:World) (g:Nat) (r:RS) (h:Rr w g r) :
  Calls Tryz.prog 166 #[.pointer (some ⟨g,0,none⟩),.int .i32 32] w fun e w'=>e=.returned (.bool true)∧Rr w' g { r with next:=2,ends:=false }∧KeptB g w w':=by
 have f4:=h.frozen 68
 have c4:=h.cell 4 rfl
 have H1:=h.set 4 (nv 2)
 have H2:=H1.set 5 (.bool false)
 have f5:=H1.frozen 69
 have c5:=H1.cell 5 rfl
 have HR:Hid (Rr _ g { r with next:=2,ends:=false }):=H2.eq rfl rfl
 clear H1 H2 h
 simp only [nv,nf] at *
 go_enter Tryz.func166,Tryz.ntmps166
 go_wp2
 go_ret
 exact ⟨rfl,HR.out,((KeptB.refl g w).setCell 68 _).setCell 69 _⟩
theorem inFile_yes (w:World) (g:Nat) (r:RS) (h:Rr w g r) (c:Nat) (h0:97≤c) (h1:c≤104) :
  Calls Tryz.prog 204 #[.pointer (some ⟨g,0,none⟩),.int .i32 c] w fun e w'=>e=.returned (.bool true)∧Rr w' g { r with file:=c,next:=4 }∧KeptB g w w':=by
 have b0:¬ (c:Int)<97:=by omega
 have b1:¬ (104:Int)<(c:Int):=by omega
 have f3:=h.frozen 67
 have c3:=h.cell 3 rfl
 have H1:=h.set 3 (.int .i32 c)
 have H2:=H1.set 4 (nv 4)
 have f4:=H1.frozen 68
 have c4:=H1.cell 4 rfl
 have HR:Hid (Rr _ g { r with file:=c,next:=4 }):=H2.eq rfl rfl
 clear H1 H2 h
 simp only [nv,nf] at *
 go_enter Tryz.func204,Tryz.ntmps204
 go_wp2
 go_ret
 exact ⟨rfl,HR.out,((KeptB.refl g w).setCell 67 _).setCell 68 _⟩
theorem inWord_mid (w:World) (g:Nat) (r:RS) (h:Rr w g r) (d:UInt8) (rest:List UInt8) (hl:r.left=d::rest) (hr:rest≠[]) (h5:rest.length≤5) :
  Calls Tryz.prog 107 #[.pointer (some ⟨g,0,none⟩),.int .i32 d.toNat] w fun e w'=>e=.returned (.bool true)∧Rr w' g { r with left:=rest }∧KeptB g w w':=by
 have c1:=h.cell 1 rfl
 have f1:=h.frozen 65
 have H1:=h.set 1 (.string ⟨rest.toArray⟩)
 have c1':=H1.cell 1 rfl
 have HR:Hid (Rr _ g { r with left:=rest }):=H1.eq rfl rfl
 rw [hl] at c1
 obtain ⟨s,hs⟩:∃ s:ByteArray,s=⟨(d::rest).toArray⟩:=⟨_,rfl⟩
 obtain ⟨u,hu⟩:∃ u:ByteArray,u=⟨rest.toArray⟩:=⟨_,rfl⟩
 have hz:0<s.size:=by rw [hs];show 0<((d::rest).toArray).size;simp
 have hz1:1≤s.size:=hz
 have hz2:s.size≤6:=by rw [hs];show ((d::rest).toArray).size≤6;simp;omega
 have h0:s[0]=d:=by subst hs;rfl
 have hne:((d.toNat:Int) != wrap32 (s[0].toNat:Int))=false:=by
  rw [h0]
  have:=d.toNat_lt
  have e:wrap32 (d.toNat:Int)=(d.toNat:Int):=by unfold wrap32;omega
  rw [e];simp
 have hex:s.extract 1 s.size=u:=by subst hs;subst hu;apply ByteArray.ext;simp [ByteArray.size]
 have hue:u.toList.isEmpty=false:=by
  subst hu
  rw [ByteArray.toList_eq]
  cases rest with
  | nil=>exact absurd rfl hr
  | cons a l=>rfl
 rw [← hs] at c1
 rw [← hu] at c1' HR
 clear H1 h hs hu h0 hl hr h5
 go_enter Tryz.func107,Tryz.ntmps107
 go_wp2
 go_ret
 exact ⟨rfl,HR.out,(KeptB.refl g w).setCell 65 _⟩
theorem inWord_end (w:World) (g:Nat) (r:RS) (h:Rr w g r) (d:UInt8) (hl:r.left=[d]) :
  Calls Tryz.prog 107 #[.pointer (some ⟨g,0,none⟩),.int .i32 d.toNat] w fun e w'=>e=.returned (.bool true)∧Rr w' g ({ r with left:=[] }:RS).full∧KeptB g w w':=by
 have c1:=h.cell 1 rfl
 have f1:=h.frozen 65
 have H1:=h.set 1 (.string ⟨#[]⟩)
 have c1':=H1.cell 1 rfl
 have HR:Hid (Rr _ g { r with left:=[] }):=H1.eq rfl rfl
 rw [hl] at c1
 obtain ⟨s,hs⟩:∃ s:ByteArray,s=⟨[d].toArray⟩:=⟨_,rfl⟩
 have hz:0<s.size:=by rw [hs];show 0<([d].toArray).size;simp
 have hz1:1≤s.size:=hz
 have hz2:s.size≤6:=by rw [hs];show ([d].toArray).size≤6;simp
 have h0:s[0]=d:=by subst hs;rfl
 have hne:((d.toNat:Int) != wrap32 (s[0].toNat:Int))=false:=by
  rw [h0]
  have:=d.toNat_lt
  have e:wrap32 (d.toNat:Int)=(d.toNat:Int):=by unfold wrap32;omega
  rw [e];simp
 have hex:s.extract 1 s.size=⟨#[]⟩:=by subst hs;apply ByteArray.ext;simp [ByteArray.size]
 rw [← hs] at c1
 clear H1 h hs h0 hl
 go_enter Tryz.func107,Tryz.ntmps107
 go_wp2_with fail
 refine (full_is _ g _ HR.out).mono ?_
 rintro e w1 ⟨rfl,R1,K1⟩
 have H1:=Qh R1
 have HK:=Qh (((KeptB.refl g w).setCell 65 _).trans K1)
 clear R1 K1
 go_wp2
 go_ret
 exact ⟨rfl,H1.out,HK.out⟩
theorem black0:wrap32 (((⟨#[98,108,97,99,107]⟩:ByteArray)[0]'(by decide)).toNat:Int)=98:=by decide +kernel
theorem item_black (w:World) (g:Nat) (r:RS) (h:Rr w g r) (hs:r.side=0) :
  Calls Tryz.prog 189 #[.pointer (some ⟨g,0,none⟩),.int .i32 98] w fun e w'=>e=.returned (.bool true)∧Rr w' g { r with side:=1,left:=[108,97,99,107],next:=0 }∧KeptB g w w':=by
 have hex:(⟨#[98,108,97,99,107]⟩:ByteArray).extract 1 5=⟨#[108,97,99,107]⟩:=by decide +kernel
 have c0:=h.cell 0 rfl
 rw [hs] at c0
 have f0:=h.frozen 64
 have H1:=h.set 0 (.int .i64 1)
 have f1:=H1.frozen 65
 have c1:=H1.cell 1 rfl
 have H2:=H1.set 1 (.string ((⟨#[98,108,97,99,107]⟩:ByteArray).extract 1 5))
 have f4:=H2.frozen 68
 have c4:=H2.cell 4 rfl
 have H3:=H2.set 4 (nv 0)
 have HR:Hid (Rr _ g { r with side:=1,left:=[108,97,99,107],next:=0 }):=H3.eq rfl (by rw [hex];rfl)
 have hb:((98:Int) == wrap32 (((⟨#[98,108,97,99,107]⟩:ByteArray)[0]'(by decide)).toNat:Int))=true:=by rw [black0];rfl
 clear H1 H2 H3 h hex
 simp only [nv,nf] at *
 go_enter Tryz.func189,Tryz.ntmps189
 go_wp2
 go_region
 go_wp2
 go_ret
 exact ⟨rfl,HR.out.heap ((Kept.refl _).drew),(((KeptB.refl g w).setCell 64 _).setCell 65 _).setCell 68 _ |>.trans (KeptB.of ((Kept.refl _).drew))⟩
theorem mkind_n (n:Nat) (hn:n<6) (w:World):Calls Tryz.prog 134 #[.int .i64 (inOrd n)] w fun e w'=>e=.returned (.int .i64 ((6-n:Nat):Int))∧w=w':=by
 have h:inOrd n=((6-n:Nat):Int):=by unfold inOrd;rw [if_pos hn];omega
 rw [h]
 exact mkind_w _ w (by omega) (by omega)
theorem mside_n (n:Nat) (hn:n<6) (w:World):Calls Tryz.prog 133 #[.int .i64 (inOrd n)] w fun e w'=>e=.returned (.int .i64 0)∧w=w':=by
 have h:inOrd n=((6-n:Nat):Int):=by unfold inOrd;rw [if_pos hn];omega
 rw [h]
 exact mside_w _ w (by omega) (by omega)
theorem make_s (s:Int) (hs:s=0∨s=1) (k:Nat) (h1:1≤k) (h6:k≤6) (w:World):Calls Tryz.prog 136 #[.int .i64 (k:Int),.int .i64 s] w fun e w'=>e=.returned (.int .i64 (sideM s k))∧w=w':=by
 rcases hs with rfl|rfl
 ·exact make_w _ w (by omega) (by omega)
 ·exact make_b _ w (by omega) (by omega)
theorem item_man (w:World) (g:Nat) (r:RS) (h:Rr w g r) (hs:r.side=0∨r.side=1) (n:Nat) (hn:n<6) :
  Calls Tryz.prog 189 #[.pointer (some ⟨g,0,none⟩),.int .i32 (runeL n:Nat)] w fun e w'=>e=.returned (.bool true)∧Rr w' g { r with man:=sideM r.side (6-n),next:=3 }∧KeptB g w w':=by
 obtain ⟨B,sd,left,man,file,nx,ends⟩:=r
 dsimp only at hs
 have H:=Qh h
 have HS:=Qh hs
 have c0:w.cell? ⟨g,64,none⟩=some (.int .i64 sd):=h.cell 0 rfl
 have hb:((runeL n:Int) == wrap32 (((⟨#[98,108,97,99,107]⟩:ByteArray)[0]'(by decide)).toNat:Int))=false:=by
  rw [black0]
  have:n=0∨n=1∨n=2∨n=3∨n=4∨n=5:=by omega
  rcases this with rfl|rfl|rfl|rfl|rfl|rfl <;> decide
 have he:=enc_letter n (by omega)
 clear h
 go_enter Tryz.func189,Tryz.ntmps189
 obtain ⟨z,hz⟩:∃ z,(sd == 0)=z:=⟨_,rfl⟩
 clear hs
 cases z
 all_goals
  go_wp2_with fail
  refine (of_yes _ (inOrd n) _ (by rw [lettN];simp [ByteArray.size]) (ofT_letter n (by omega)) (inOrd_man n (by omega)).1).mono ?_
  rintro e w1 ⟨rfl,gw1⟩
  go_wp2_with fail
  refine (mside_n n hn _).mono ?_
  rintro e w' ⟨rfl,rfl⟩
  go_wp2_with fail
  refine (letter_yes n (by omega) _).mono ?_
  rintro e w2 ⟨rfl,gw2⟩
  have hk2:=(Kept.of_grown gw1).trans (Kept.of_grown gw2)
  have R2:=H.out.heap hk2
  have K2:=Qh hk2
  have c0':=R2.cell 0 rfl
  have f2:=R2.frozen 66
  have c2:=R2.cell 2 rfl
  have R3:=R2.set 2 (.int .i64 (sideM sd (6-n)))
  have c03:=R3.cell 0 rfl
  have f4:=R3.frozen 68
  have c4:=R3.cell 4 rfl
  have R4:=R3.set 4 (nv 3)
  have c04:=R4.cell 0 rfl
  have HR:Hid (Rr _ g { B:=B,side:=sd,left:=left,man:=sideM sd (6-n),file:=file,next:=3,ends:=ends }):=R4.eq rfl rfl
  clear gw1 gw2 hk2 c0 R2 R3 R4
  simp only [nv,nf] at *
  go_wp2
  refine wp_region_held_drew (S:=fun w'=>w'.cell? ⟨g,64,none⟩=some (.int .i64 sd)) (by kernel_rfl) c0' (fun Qj=>?_)
  refine rT 0 48 (.pointer (some ⟨g,0,none⟩)) rfl rfl Qj ?_
  simp only [pA,pN,sZ,sU]
  refine rT 2 50 (.int .i64 (inOrd n)) rfl rfl Qj ?_
  simp only [pA,pN,sZ,sU]
  refine rT 4 52 (.pointer (some ⟨g,0,none⟩)) rfl rfl Qj ?_
  simp only [pA,pN,sZ,sU]
  refine rT 5 53 (.pointer (some ⟨g,0,none⟩)) rfl rfl Qj ?_
  simp only [pA,pN,sZ,sU]
  refine rT 6 54 (.pointer (some ⟨g,64,none⟩)) rfl rfl Qj ?_
  simp only [pA,pN,sZ,sU]
  refine rT 1 49 (.pointer (some ⟨g,0,none⟩)) rfl rfl Qj ?_
  simp only [pA,pN,sZ,sU]
  refine rg_take (i:=7) (v:=.int .i64 sd) (some 55) rfl rfl (by kernel_rfl) (by kernel_rfl) (by kernel_rfl) (fun _ _ _ h=>h) (Or.inl ⟨by rfl,fun w' h=>by have h':w'.cell? ⟨g,64,none⟩=some (.int .i64 sd):=h;go_simp⟩) Qj ?_
  simp only [pA,pN,sZ,sU]
  refine rR 3 rfl (fun K hK=>?_)
  go_simp
  refine (mkind_n n hn _).mono ?_
  rintro e w' ⟨rfl,rfl⟩
  refine hK.out _ _ Qj (fun _=>?_)
  clear hK K
  refine rR 8 rfl (fun K hK=>?_)
  go_simp
  refine (make_s sd HS.out (6-n) (by omega) (by omega) _).mono ?_
  rintro e w' ⟨rfl,rfl⟩
  refine hK.out _ _ Qj (fun _=>?_)
  clear hK K
  refine rT 9 57 (.pointer (some ⟨g,0,none⟩)) rfl rfl Qj ?_
  simp only [pA,pN,sZ,sU]
  refine rT 10 58 (.pointer (some ⟨g,66,none⟩)) rfl rfl Qj ?_
  simp only [pA,pN,sZ,sU]
  refine rR 11 rfl (fun K hK=>?_)
  go_simp
  refine hK.out _ _ c03 (fun Qj=>?_)
  clear hK K
  refine rT 12 59 (.pointer (some ⟨g,0,none⟩)) rfl rfl Qj ?_
  simp only [pA,pN,sZ,sU]
  refine rT 13 60 (.pointer (some ⟨g,68,none⟩)) rfl rfl Qj ?_
  simp only [pA,pN,sZ,sU]
  refine rR 14 rfl (fun K hK=>?_)
  go_simp
  refine hK.out _ _ c04 (fun Qj=>?_)
  clear hK K
  refine wpAnyH_done (by kernel_rfl) ?_ _
  go_wp2
  go_ret
  exact ⟨rfl,HR.out.heap ((Kept.refl _).drew),(((KeptB.of K2.out).setCell 66 _).setCell 68 _).trans (KeptB.of ((Kept.refl _).drew))⟩
end Go.Proofs.YtlbipjmmlobofaaGreatDoor
namespace Go.Proofs.YtlbipjmmlobofaaGreatDoor
theorem sA (l:List Value) (i:Nat) (v:Value):l.toArray.setIfInBounds i v=(l.set i v).toArray:=by simp
end Go.Proofs.YtlbipjmmlobofaaGreatDoor
namespace Go.Proofs.YtlbipjmmlobofaaGreatDoor
open Go.RowKit
set_option linter.unusedVariables false
set_option maxRecDepth 100000
set_option linter.unusedSimpArgs false
theorem wpList_load_midw {ops:Array Oper} {rest:List Oper} {op:Oper} {a:Act} {w:World} {Q:Exit→Act→World→Prop} (hw:Region.wanted op (yielded ops a.tmps)=true) (ty:TypeId) (x:Operand) (ho:op.op=.load ty x)
  (b o:Nat) (hx:a.eval x=.pointer (some ⟨b,o,none⟩)) (cs:List Value) (d:TypeDesc) (hc:w.rangeAt b o cs)
  (hu:Tryz.prog.underlying ty=some d) (hd:d.isRow=true) (hi:(Tryz.prog.info? ty).map (·.size)=some cs.length)
  (h:wpList Tryz.prog ops Q rest (a.put op.dst (.agg cs.toArray)) w):wpList Tryz.prog ops Q (op::rest) a w :=
 wpList_step fun _ hK=>by
  rw [if_pos hw]
  exact wp_load_mid ty x ho b o hx cs d hc hu hd hi (hK _ _ h)
theorem name_pair (f:Nat) (c:UInt8) (f0:97≤f) (f1:f≤104) (c0:49≤c.toNat) (c1:c.toNat≤56) :
  Utf8.encode (f:Int)++Utf8.encode (c.toNat:Int)=nameOf (rsq f c:Nat):=by
 have e1:=enc_low f.toUInt8 (by simp;omega)
 rw [show (f.toUInt8.toNat:Int)=(f:Int) by simp;omega] at e1
 rw [e1,enc_low c (by omega)]
 unfold nameOf rsq
 have a1:(97+(((c.toNat-49)*8+(f-97):Nat) % 8:Int).toNat).toUInt8=f.toUInt8:=by
  have e:97+(((c.toNat-49)*8+(f-97):Nat) % 8:Int).toNat=f:=by omega
  rw [e]
 have a2:(49+(((c.toNat-49)*8+(f-97):Nat) / 8:Int).toNat).toUInt8=c:=by
  apply UInt8.toNat.inj
  simp
  omega
 rw [a1,a2]
 apply ByteArray.ext
 simp
theorem parse_pair (f:Nat) (c:UInt8) (f0:97≤f) (f1:f≤104) (c0:49≤c.toNat) (c1:c.toNat≤56) (w:World) :
  Calls Tryz.prog 216 #[.string (Utf8.encode (f:Int)++Utf8.encode (c.toNat:Int))] w fun e w'=>e=.returned (.tuple #[.int .i64 (rsq f c:Nat),.bool true])∧Grown w w':=by
 rw [name_pair f c f0 f1 c0 c1]
 exact parse_name _ w (by unfold rsq;omega)
theorem inRank_twice (w:World) (g:Nat) (r:RS) (h:Rr w g r) (hB:Brd r.B) (f0:97≤r.file) (f1:r.file≤104) (c:UInt8) (c0:49≤c.toNat) (c1:c.toNat≤56) (ht:r.B.getD (rsq r.file c) 0≠0) :
  Calls Tryz.prog 210 #[.pointer (some ⟨g,0,none⟩),.int .i32 (c.toNat:Nat)] w fun e w'=>e=.returned (.bool false)∧Kept w w':=by
 have H:=Qh h
 have HB:=Qh hB
 have d3:=h.cell 3 rfl
 have HP:=Qh (parse_pair r.file c f0 f1 c0 c1)
 have hs1:=encode_size_le (r.file:Int)
 have hs2:=encode_size_le (c.toNat:Int)
 have s1:¬ 9223372036854775807<(Utf8.encode (r.file:Int)).size+(Utf8.encode (c.toNat:Int)).size:=by omega
 have hk64:rsq r.file c<64:=by unfold rsq;omega
 generalize hk:rsq r.file c=k at *
 have hM:=Qh (man_yes r.B hB k hk64)
 generalize hx:r.B.getD k 0=x at *
 have b1:(x != 0)=true:=bne_iff_ne.2 ht
 clear h hB ht hx hk
 go_enter Tryz.func210,Tryz.ntmps210
 go_wp2_with fail
 refine (HP.out _).mono ?_
 rintro e w1 ⟨rfl,gw1⟩
 have K1:=Qh (Kept.of_grown gw1)
 have H1:=Qh (H.out.heap K1.out)
 clear gw1
 go_wp2_with (refine wpList_load_midw (by rfl) 24 _ rfl g 0 rfl (cl r.B) _ H1.out.range Tryz.underlying24 rfl (by rw [size24,cl_length,HB.out.1]) ?_)
 refine (hM.out _).mono ?_
 rintro e w2 ⟨rfl,g2⟩
 have K2:=Qh (K1.out.trans g2)
 clear g2
 go_wp2
 go_ret
 exact ⟨rfl,K2.out⟩
theorem inRank_yes (w:World) (g:Nat) (r:RS) (h:Rr w g r) (hB:Brd r.B) (hm:okB r.man=true) (f0:97≤r.file) (f1:r.file≤104) (c:UInt8) (c0:49≤c.toNat) (c1:c.toNat≤56) (ht:r.B.getD (rsq r.file c) 0=0) :
  Calls Tryz.prog 210 #[.pointer (some ⟨g,0,none⟩),.int .i32 (c.toNat:Nat)] w fun e w'=>e=.returned (.bool true)∧Rr w' g ({ r with B:=r.B.set (rsq r.file c) r.man }:RS).full∧KeptB g w w':=by
 have H:=Qh h
 have HB:=Qh hB
 have d3:=h.cell 3 rfl
 have HP:=Qh (parse_pair r.file c f0 f1 c0 c1)
 have hs1:=encode_size_le (r.file:Int)
 have hs2:=encode_size_le (c.toNat:Int)
 have s1:¬ 9223372036854775807<(Utf8.encode (r.file:Int)).size+(Utf8.encode (c.toNat:Int)).size:=by omega
 have hk64:rsq r.file c<64:=by unfold rsq;omega
 generalize hk:rsq r.file c=k at *
 have hM:=Qh (man_yes r.B hB k hk64)
 rw [ht] at hM
 have HPut:=Qh (put_yes r.B hB k r.man hk64 hm)
 have hlen:=Qh (show (r.B.set k r.man).length=64 by simpa using hB.1)
 obtain ⟨B,sd,left,man,file,nx,ends⟩:=r
 dsimp only at *
 clear h hB ht hk hm
 go_enter Tryz.func210,Tryz.ntmps210
 go_wp2_with fail
 refine (HP.out _).mono ?_
 rintro e w1 ⟨rfl,gw1⟩
 have K1:=Qh (Kept.of_grown gw1)
 have H1:=Qh (H.out.heap K1.out)
 clear gw1
 go_wp2_with (refine wpList_load_midw (by rfl) 24 _ rfl g 0 rfl (cl B) _ H1.out.range Tryz.underlying24 rfl (by rw [size24,cl_length,HB.out.1]) ?_)
 refine (hM.out _).mono ?_
 rintro e w2 ⟨rfl,g2⟩
 have K2:=Qh (K1.out.trans g2)
 have R2:=H1.out.heap g2.drew
 have H2:=Qh R2
 have c2:=R2.cell 2 rfl
 clear g2 R2
 go_wp2
 refine wp_region_held_drew (S:=fun w'=>w'.cell? ⟨g,66,none⟩=some (.int .i64 man)) (by kernel_rfl) c2 (fun Qj=>?_)
 refine rT 0 31 (.pointer (some ⟨g,0,none⟩)) rfl rfl Qj ?_
 simp only [Act.put,sA,sZ,sU]
 refine rT 1 32 (.pointer (some ⟨g,0,none⟩)) rfl rfl Qj ?_
 simp only [pA,pN,sZ,sU]
 refine rT 2 33 (.pointer (some ⟨g,0,none⟩)) rfl rfl Qj ?_
 simp only [pA,pN,sZ,sU]
 refine rT 3 34 (.pointer (some ⟨g,0,none⟩)) rfl rfl Qj ?_
 simp only [pA,pN,sZ,sU]
 refine rT 5 36 (.int .i64 (k:Int)) rfl rfl Qj ?_
 simp only [pA,pN,sZ,sU]
 refine rT 6 37 (.pointer (some ⟨g,0,none⟩)) rfl rfl Qj ?_
 simp only [pA,pN,sZ,sU]
 refine rT 7 38 (.pointer (some ⟨g,0,none⟩)) rfl rfl Qj ?_
 simp only [pA,pN,sZ,sU]
 refine rT 8 39 (.pointer (some ⟨g,66,none⟩)) rfl rfl Qj ?_
 simp only [pA,pN,sZ,sU]
 refine rg_take (i:=9) (v:=.int .i64 man) (some 40) rfl rfl (by kernel_rfl) (by kernel_rfl) (by kernel_rfl) (fun _ _ _ h=>h) (Or.inl ⟨by rfl,fun w' h=>by have h':w'.cell? ⟨g,66,none⟩=some (.int .i64 man):=h;go_simp⟩) Qj ?_
 simp only [pA,pN,sZ,sU]
 refine rR 4 rfl (fun K hK=>?_)
 rw [if_pos (by rfl)]
 refine wp_load_mid 24 _ rfl g 0 rfl (cl B) _ H2.out.range Tryz.underlying24 rfl (by rw [size24,cl_length,HB.out.1]) ?_
 refine hK.out _ _ Qj (fun _=>?_)
 clear hK K
 simp only [Act.put,sA,sZ,sU]
 refine rR 10 rfl (fun K hK=>?_)
 go_simp
 refine (HPut.out _).mono ?_
 rintro e w3 ⟨rfl,g3⟩
 have H3:=Qh (H2.out.heap g3)
 have K3:=Qh (K2.out.drew.trans g3)
 clear g3
 refine hK.out _ _ (H3.out.cell 2 rfl) (fun Qj=>?_)
 clear hK K
 refine rT 11 30 (.tuple #[.agg (cl (B.set k man)).toArray,.int .i64 0]) rfl rfl Qj ?_
 simp only [pA,pN,sZ,sU]
 refine rT 12 42 (.agg (cl (B.set k man)).toArray) rfl rfl Qj ?_
 simp only [pA,pN,sZ,sU]
 refine rT 13 43 (.int .i64 0) rfl rfl Qj ?_
 simp only [pA,pN,sZ,sU]
 refine rT 14 44 (.pointer (some ⟨g,0,none⟩)) rfl rfl Qj ?_
 simp only [pA,pN,sZ,sU]
 refine rT 15 45 (.pointer (some ⟨g,0,none⟩)) rfl rfl Qj ?_
 simp only [pA,pN,sZ,sU]
 refine rR 16 rfl (fun K hK=>?_)
 rw [if_pos (by rfl)]
 refine wp_store_mid 24 _ _ rfl g 0 (cl (B.set k man)).toArray rfl rfl (by rw [cl_size _ hlen.out];exact H3.out.there) (by rw [size24,cl_size _ hlen.out]) (cl_one _) ?_
 have H4:=Qh (H3.out.setBoard _ hlen.out)
 have K4:=Qh (KeptB.setCells (cl (B.set k man)).toArray.toList w3 0 (KeptB.of (g:=g) K3.out))
 refine hK.out _ _ (H4.out.cell 2 rfl) (fun Qj=>?_)
 clear hK K
 generalize w3.setCells g 0 (cl (B.set k man)).toArray.toList=w4 at *
 refine wpAnyH_done (by kernel_rfl) ?_ _
 go_wp2_with fail
 refine (full_is _ g { B:=B.set k man,side:=sd,left:=left,man:=man,file:=file,next:=nx,ends:=ends } H4.out).mono ?_
 rintro e w5 ⟨rfl,R5,g5⟩
 have H5:=Qh R5
 have K5:=Qh (K4.out.trans g5)
 clear R5 g5
 go_wp2
 go_ret
 exact ⟨rfl,H5.out,K5.out⟩
end Go.Proofs.YtlbipjmmlobofaaGreatDoor
