/- PaA · PaQ: my texts, in their order. -/
import Derived.Test.YtijkemnhehbchaaGreatDoorPkF
import Derived.Test.YtijkemnhehbchaaGreatDoorPkLh
import Derived.Test.YtijkemnhehbchaaGreatDoorPkRa
namespace Go.Proofs.YtijkemnhehbchaaGreatDoor
open Go.RowKit
set_option linter.unusedVariables false
set_option linter.unusedSimpArgs false
set_option maxRecDepth 100000
def onL:Nat→Ps→List Mv→List (List Mv)
 | 0,_,_=>[]
 | n+1,p,pre=>(legR p).flatMap fun m=>(pre++[m])::onL n (behP p m) (pre++[m])
def upL (n:Nat) (p:Ps):List (List Mv):=[]::onL n p []
def refL:Nat→Ps→List (List Mv)
 | 0,_=>[[]]
 | n+1,p=>(legR p).flatMap fun m=>(refL n (behP p m)).map (m::·)
theorem onL_len:∀ (n:Nat) (p:Ps) (pre x:List Mv),x ∈ onL n p pre→pre.length<x.length∧x.length≤pre.length+n
 | 0,p,pre,x,h=>by simp [onL] at h
 | n+1,p,pre,x,h=>by
  rw [onL,List.mem_flatMap] at h
  obtain ⟨m,_,h⟩:=h
  rw [List.mem_cons] at h
  rcases h with rfl|h
  ·rw [List.length_append,List.length_singleton];omega
  ·have:=onL_len n _ _ _ h
   rw [List.length_append,List.length_singleton] at this
   omega
theorem onL_full:∀ (n:Nat) (p:Ps) (pre:List Mv),(onL (n+1) p pre).filter (fun x=>!decide (x.length<pre.length+(n+1)))=(refL (n+1) p).map (pre++·)
 | 0,p,pre=>by
  rw [onL,refL,List.filter_flatMap,List.map_flatMap]
  congr 1
  funext m
  simp [onL,refL]
 | n+1,p,pre=>by
  rw [onL,refL,List.filter_flatMap,List.map_flatMap]
  congr 1
  funext m
  have ih:=onL_full n (behP p m) (pre++[m])
  rw [List.length_append,List.length_singleton,show pre.length+1+(n+1)=pre.length+(n+1+1) by omega] at ih
  rw [List.filter_cons_of_neg (by rw [List.length_append,List.length_singleton];simp),ih,List.map_map]
  congr 1
  funext x
  simp
theorem upL_full (n:Nat) (p:Ps):(upL n p).filter (fun x=>!decide (x.length<n))=refL n p:=by
 cases n with
 | zero=>simp [upL,onL,refL]
 | succ n =>
  have h:=onL_full n p []
  simp only [List.length_nil,Nat.zero_add] at h
  unfold upL
  rw [List.filter_cons_of_neg (by simp),h]
  simp
theorem upL_len {n:Nat} {p:Ps} {x:List Mv} (h:x ∈ upL n p):x.length≤n:=by
 unfold upL at h
 rw [List.mem_cons] at h
 rcases h with rfl|h
 ·exact Nat.zero_le _
 ·have:=(onL_len n p [] x h).2
  simpa using this
def onK (n:Nat) (p:Ps) (pre:List Mv) (L:List Mv) (k:Nat):List (List Mv):=(L.take k).flatMap fun m=>(pre++[m])::onL n (behP p m) (pre++[m])
theorem onK_zero (n:Nat) (p:Ps) (pre L:List Mv):onK n p pre L 0=[]:=by simp [onK]
theorem onK_succ {n:Nat} {p:Ps} {pre L:List Mv} {k:Nat} {m:Mv} (h:L[k]?=some m):onK n p pre L (k+1)=onK n p pre L k++((pre++[m])::onL n (behP p m) (pre++[m])):=by
 unfold onK;rw [List.take_add_one,h];simp
theorem onK_end (n:Nat) (p:Ps) (pre:List Mv):onK n p pre (legR p) (legR p).length=onL (n+1) p pre:=by unfold onK;rw [List.take_length];rfl
theorem onK_split {n:Nat} {p:Ps} {pre:List Mv} {k:Nat} (h:k≤(legR p).length):∃ B,onL (n+1) p pre=onK n p pre (legR p) k++B:=by
 refine ⟨((legR p).drop k).flatMap fun m=>(pre++[m])::onL n (behP p m) (pre++[m]),?_⟩
 unfold onK
 rw [← List.flatMap_append,List.take_append_drop]
 rfl
def shortB (n:Nat) (x:List Mv):Bool:=!(x.length == n)
theorem count_goes (n b:Nat) (p:Ps):goesAll (ansB (shortB n) b) [] (upL n p)=decide (((upL n p).filter (shortB n)).length≤b):=by
 rw [goesUp _ _ _ _ (Nat.zero_le _),List.nil_append]
theorem drop_at {L:List Mv} {k:Nat} {m:Mv} (h:L[k]?=some m):L.drop k=m::L.drop (k+1):=by
 obtain ⟨h1,rfl⟩:=List.getElem?_eq_some_iff.1 h
 exact List.drop_eq_getElem_cons h1
theorem zs_perm (B:List Int) (s:Nat) (hs:s<64):(zn (strikesN B (s:Int))).Perm (outM B (s:Int)):=by
 rw [← sort_outM B (s:Int) (by omega) (by omega)]
 exact List.mergeSort_perm _ _
theorem flat_perm {α β:Type} {f g:α→List β}:∀ l:List α,(∀ a ∈ l,(f a).Perm (g a))→(l.flatMap f).Perm (l.flatMap g)
 | [],_=>List.Perm.refl _
 | a::l,h=>by
  rw [List.flatMap_cons,List.flatMap_cons]
  exact (h a (by simp)).append (flat_perm l fun b hb=>h b (by simp [hb]))
def offQ (p:Ps) (s:Nat):List Mv:=((outM p.B (s:Int)).filter (offOk p)).map fun x=>⟨(s:Int),x,0⟩
def kingQ (p:Ps) (s:Nat):List Mv:=if p.c=0 then offQ p s else offQ p s++csN p s (-2)++csN p s 2
def pawnQ (p:Ps) (s:Nat):List Mv:=(ahN p s).flatMap (arrN p s)++((outM p.B (s:Int)).filter (capB p)).flatMap (arrN p s)
def rawQ (p:Ps) (s:Nat):List Mv:=if kindI (p.B.getD s 0)=1 then pawnQ p s else if kindI (p.B.getD s 0)=6 then kingQ p s else offQ p s
theorem offQ_perm (p:Ps) (s:Nat) (hs:s<64):(offN p s).Perm (offQ p s):=((zs_perm p.B s hs).filter _).map _
theorem rawQ_perm (p:Ps) (s:Nat) (hs:s<64):(rawN p s).Perm (rawQ p s):=by
 unfold rawN rawQ
 split
 ·unfold pawnN pawnQ
  exact (List.Perm.refl _).append (((zs_perm p.B s hs).filter _).flatMap_right _)
 ·split
  ·unfold kingN kingQ
   split
   ·exact offQ_perm p s hs
   ·exact ((offQ_perm p s hs).append_right _).append_right _
  ·exact offQ_perm p s hs
def allQ (p:Ps):List Mv:=(List.range 64).flatMap fun s=>if sideI (p.B.getD s 0)=p.t then rawQ p s else []
theorem allQ_perm {p:Ps} (hB:Brd p.B) (hr:pwI p=0):(allL p).Perm (allQ p):=by
 unfold allL allN allQ
 refine flat_perm _ fun s hs=>?_
 have hs':s<64:=by simpa using hs
 split
 ·next h =>
  rw [← raw_sorted hB hr hs' h]
  exact (List.mergeSort_perm _ _).trans (rawQ_perm p s hs')
 ·next h =>
  rw [from_none]
  unfold manA bAt
  rw [if_pos (by omega),Int.toNat_natCast]
  exact h
def legQ (p:Ps):List Mv:=(allQ p).filter fun m=>!barsB p m
theorem legQ_perm {p:Ps} (hB:Brd p.B) (hr:pwI p=0):(legR p).Perm (legQ p):=by
 rw [← legR_is p hB]
 unfold allR
 rw [if_pos hr]
 exact (allQ_perm hB hr).filter _
theorem legQ_first:(legQ Fp).length=20:=by decide +kernel
theorem legQ_second:((legQ Fp).all fun m=>(legQ (behP Fp m)).length == 20)=true:=by decide +kernel
theorem leg_one:(legR Fp).length=20:=by rw [(legQ_perm Fp_brd Fp_ok).length_eq];exact legQ_first
theorem leg_two {m:Mv} (h:m ∈ legR Fp):(legR (behP Fp m)).length=20:=by
 have hm:=(legQ_perm Fp_brd Fp_ok).mem_iff.1 h
 have:=List.all_eq_true.1 legQ_second m hm
 obtain ⟨h1,h2⟩:=mem_legR h
 obtain ⟨h3,h4,_⟩:=leg_right Fp_brd h1 h2
 rw [(legQ_perm h4 h3).length_eq]
 simpa using this
theorem sum_same {α:Type} (f:α→Nat) (k:Nat):∀ l:List α,(∀ a ∈ l,f a=k)→(l.map f).sum=k*l.length
 | [],_=>rfl
 | a::l,h=>by
  rw [List.map_cons,List.sum_cons,h a (by simp),sum_same f k l fun b hb=>h b (by simp [hb]),List.length_cons,Nat.mul_add]
  omega
theorem ref_one (p:Ps):(refL 1 p).length=(legR p).length:=by
 rw [refL,List.length_flatMap,sum_same _ 1 _ (fun m _=>by simp [refL]),Nat.one_mul]
theorem ref_two:(refL 2 Fp).length=400:=by
 rw [refL,List.length_flatMap,sum_same _ 20]
 ·rw [leg_one]
 ·intro m hm
  rw [List.length_map,ref_one,leg_two hm]
theorem full_len (n:Nat) (p:Ps):((upL n p).filter fun x=>x.length == n).length=(refL n p).length:=by
 rw [← upL_full n p]
 congr 1
 refine List.filter_congr fun x hx=>?_
 have:=upL_len hx
 rw [Bool.eq_iff_iff]
 simp;omega
theorem short_one (p:Ps):((upL 1 p).filter fun x=>!(x.length == 1)).length=1:=by
 unfold upL
 rw [List.filter_cons_of_pos (by rfl),List.length_cons]
 have:((onL 1 p []).filter fun x=>!(x.length == 1))=[]:=by
  rw [List.filter_eq_nil_iff]
  intro x hx
  have:=onL_len 1 p [] x hx
  simp at this ⊢;omega
 rw [this];rfl
theorem short_two (p:Ps):((upL 2 p).filter fun x=>!(x.length == 2)).length=1+(legR p).length:=by
 unfold upL
 rw [List.filter_cons_of_pos (by rfl),List.length_cons,onL,List.filter_flatMap,List.length_flatMap,sum_same _ 1]
 ·omega
 ·intro m hm
  rw [List.filter_cons_of_pos (by rfl),List.length_cons]
  have:((onL 1 (behP p m) ([]++[m])).filter fun x=>!(x.length == 2))=[]:=by
   rw [List.filter_eq_nil_iff]
   intro x hx
   have:=onL_len 1 _ _ x hx
   simp at this ⊢;omega
  rw [this];rfl
theorem short_1:((upL 1 Fp).filter (shortB 1)).length=1:=short_one Fp
theorem short_2:((upL 2 Fp).filter (shortB 2)).length=21:=by rw [show ((upL 2 Fp).filter (shortB 2)).length=_ from short_two Fp,leg_one]
theorem full_1:((upL 1 Fp).filter fun x=>x.length == 1).length=20:=by rw [full_len,ref_one,leg_one]
theorem full_2:((upL 2 Fp).filter fun x=>x.length == 2).length=400:=by rw [full_len,ref_two]
theorem up_len (n:Nat) (p:Ps):(upL n p).length=((upL n p).filter (shortB n)).length+((upL n p).filter fun x=>x.length == n).length:=by
 have:∀ L:List (List Mv),L.length=(L.filter (shortB n)).length+(L.filter fun x=>x.length == n).length:=by
  intro L
  induction L with
  | nil=>rfl
  | cons x L ih =>
   by_cases hx:x.length=n
   ·rw [List.filter_cons_of_neg (by simp [shortB,hx]),List.filter_cons_of_pos (by simp [hx]),List.length_cons,List.length_cons,ih];omega
   ·rw [List.filter_cons_of_pos (by simp [shortB,hx]),List.filter_cons_of_neg (by simp [hx]),List.length_cons,List.length_cons,ih];omega
 exact this _
end Go.Proofs.YtijkemnhehbchaaGreatDoor
