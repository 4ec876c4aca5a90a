/- SqA · SqB · MeA · BoA · BoB · BoC · BoD · BoE · BoF · BoJ · BoK · RaM · RaL · RaR · RaS · AtM · RaW · RaX · RaY · AtE · AtF · AtG · AtH · BoO · PoA · PoD · PoE: my texts, in their order. -/
import Derived.Test.YtijkemnhehbchaaGreatDoorPkA
import Derived.Test.YtijkemnhehbchaaGreatDoorPkB
import Derived.Test.YtijkemnhehbchaaGreatDoorPkC
import Derived.Test.YtijkemnhehbchaaGreatDoorPkD
import Derived.Test.YtijkemnhehbchaaGreatDoorPkE
import Derived.IntWalk
import Derived.Deep.WholeRow
import Derived.Deep.MidRow
import Derived.Deep.RegionHeld3
import Derived.Deep.AppendLies
import Derived.OwnWalk
import Derived.ChangeKeysEq
import Derived.Laws.OwnMore
import Derived.Laws.AppendOwnNone
import Derived.ProofKit
import Derived.OpenShut
import Derived.DataBytes
import Derived.Laws.StructEq
namespace Go.Proofs.YtijkemnhehbchaaGreatDoor
open Go.RowKit
set_option linter.unusedVariables false
theorem rright_no (s:Int) (w:World) (h:s<0∨64≤s) :
  Calls Tryz.prog 46 #[.int .i64 s] w fun e w'=>e=.returned (.bool false)∧w=w':=by
 rcases h with h|h
 ·go_enter Tryz.func46,Tryz.ntmps46
  go_wp2
  go_ret
  exact ⟨rfl,rfl⟩
 ·have h0:0≤s:=by omega
  have hb:decide (s≤63)=false:=by simp;omega
  go_enter Tryz.func46,Tryz.ntmps46
  go_wp2
  go_ret
  exact ⟨rfl,rfl⟩

theorem rstep_no (s f r:Int) (w:World) (h0:0≤s) (h1:s<64) (h:s % 8+f<0∨8≤s % 8+f∨s / 8+r<0∨8≤s / 8+r) :
  Calls Tryz.prog 137 #[.int .i64 s,.int .i64 f,.int .i64 r] w fun e w'=>e=.returned (.int .i64 (-1))∧w=w':=by
 go_enter Tryz.func137,Tryz.ntmps137
 go_wp2_with (go_at_call 46;refine (rright_yes _ _ (by omega) (by omega)).mono ?_;rintro e w' ⟨rfl,rfl⟩)
 go_loop [7] (fun t=>∃ k:Int,0≤k∧k≤64∧t=.int .i64 k) (fun t=>(64-intOf t).toNat)
 case atStart=>exact ⟨0,by omega,by omega,rfl⟩
 case round =>
  obtain ⟨k,hk0,hk1,rfl⟩:=hrel
  by_cases hk2:k<64
  ·by_cases hf:k % 8-s % 8=f
   ·have b1:(k % 8-s % 8 == f)=true:=beq_iff_eq.2 hf
    have b2:(k / 8-s / 8 == r)=false:=beq_eq_false_iff_ne.2 (by omega)
    clear hf
    go_wp2_with (first|(go_at_call 47;refine (rfile_yes _ _ (by omega) (by omega)).mono ?_;rintro e w' ⟨rfl,rfl⟩)|(go_at_call 48;refine (rrank_yes _ _ (by omega) (by omega)).mono ?_;rintro e w' ⟨rfl,rfl⟩))
    go_round
    case rel=>exact ⟨k+1,by omega,by omega,rfl⟩
    case measure=>simp [intOf];omega
   ·have b1:(k % 8-s % 8 == f)=false:=beq_eq_false_iff_ne.2 hf
    clear hf
    go_wp2_with (first|(go_at_call 47;refine (rfile_yes _ _ (by omega) (by omega)).mono ?_;rintro e w' ⟨rfl,rfl⟩)|(go_at_call 48;refine (rrank_yes _ _ (by omega) (by omega)).mono ?_;rintro e w' ⟨rfl,rfl⟩))
    go_round
    case rel=>exact ⟨k+1,by omega,by omega,rfl⟩
    case measure=>simp [intOf];omega
  ·go_wp2
   go_ret
   exact ⟨rfl,rfl⟩
theorem rstep_off (s f r:Int) (w:World) (h:s<0∨64≤s) :
  Calls Tryz.prog 137 #[.int .i64 s,.int .i64 f,.int .i64 r] w fun e w'=>e=.returned (.int .i64 (-1))∧w=w':=by
 go_enter Tryz.func137,Tryz.ntmps137
 go_wp2_with (go_at_call 46;refine (rright_no _ _ h).mono ?_;rintro e w' ⟨rfl,rfl⟩)
 go_ret
 exact ⟨rfl,rfl⟩

theorem rfar_yes (a b:Int) (w:World) (a0:0≤a) (a1:a<64) (b0:0≤b) (b1:b<64) :
  Calls Tryz.prog 22 #[.int .i64 a,.int .i64 b] w fun e w'=>e=.returned (.int .i64 (farI a b))∧w=w':=by
 go_enter Tryz.func22,Tryz.ntmps22
 go_wp2_with (first|(go_at_call 46;refine (rright_yes _ _ (by omega) (by omega)).mono ?_;rintro e w' ⟨rfl,rfl⟩)|(go_at_call 47;refine (rfile_yes _ _ (by omega) (by omega)).mono ?_;rintro e w' ⟨rfl,rfl⟩)|(go_at_call 48;refine (rrank_yes _ _ (by omega) (by omega)).mono ?_;rintro e w' ⟨rfl,rfl⟩))
 all_goals
  go_ret
  exact ⟨ret_int (by unfold farI;omega),rfl⟩
theorem rfar_no (a b:Int) (w:World) (h:a<0∨64≤a∨b<0∨64≤b) :
  Calls Tryz.prog 22 #[.int .i64 a,.int .i64 b] w fun e w'=>e=.returned (.int .i64 (-1))∧w=w':=by
 by_cases ha:a<0∨64≤a
 ·go_enter Tryz.func22,Tryz.ntmps22
  go_wp2_with (go_at_call 46;refine (rright_no _ _ ha).mono ?_;rintro e w' ⟨rfl,rfl⟩)
  go_ret
  exact ⟨rfl,rfl⟩
 ·have a0:0≤a:=by omega
  have a1:a<64:=by omega
  have hb:b<0∨64≤b:=by omega
  clear ha h
  go_enter Tryz.func22,Tryz.ntmps22
  go_wp2_with fail
  refine (rright_yes _ _ (by omega) (by omega)).mono ?_
  rintro e w' ⟨rfl,rfl⟩
  go_wp2_with fail
  refine (rright_no _ _ hb).mono ?_
  rintro e w' ⟨rfl,rfl⟩
  go_wp2
  go_ret
  exact ⟨rfl,rfl⟩
theorem rkind_no (m:Int) (w:World) (h:m < -6∨m=0∨6<m) :
  Calls Tryz.prog 75 #[.int .i64 m] w fun e w'=>e=.returned (.int .i64 0)∧w=w':=by
 have H:=Qh h
 clear h
 go_enter Tryz.func75,Tryz.ntmps75
 go_wp2
 go_loop [3] (fun t=>∃ k:Int,1≤k∧k≤7∧t=.int .i64 k) (fun t=>7-(intOf t).toNat)
 case atStart=>exact ⟨1,by omega,by omega,rfl⟩
 case round =>
  obtain ⟨k,h1,h7,rfl⟩:=hrel
  by_cases hk:k≤6
  ·have b1:(m == k)=false:=beq_eq_false_iff_ne.2 (by have:=H.out;omega)
   have b2:(m == 0-k)=false:=beq_eq_false_iff_ne.2 (by have:=H.out;omega)
   have b3:(m == -k)=false:=beq_eq_false_iff_ne.2 (by have:=H.out;omega)
   go_wp2
   go_round
   case rel=>exact ⟨k+1,by omega,by omega,rfl⟩
   case measure=>simp [intOf];omega
  ·go_wp2
   go_ret
   exact ⟨rfl,rfl⟩
theorem rkind_yes (m q:Int) (w:World) (h:m=q∨m=-q) (h1:1≤q) (h6:q≤6) :
  Calls Tryz.prog 75 #[.int .i64 m] w fun e w'=>e=.returned (.int .i64 q)∧w=w':=by
 have H:=Qh h
 clear h
 go_enter Tryz.func75,Tryz.ntmps75
 go_wp2
 go_loop [3] (fun t=>∃ k:Int,1≤k∧k≤q∧t=.int .i64 k) (fun t=>7-(intOf t).toNat)
 case atStart=>exact ⟨1,by omega,by omega,rfl⟩
 case round =>
  obtain ⟨k,h1,h7,rfl⟩:=hrel
  by_cases hk:k=q
  ·subst hk
   rcases H.out with h|h
   ·subst h
    go_wp2
    go_ret
    exact ⟨rfl,rfl⟩
   ·have b1:(m == k)=false:=beq_eq_false_iff_ne.2 (by omega)
    have b2:(m == 0-k)=true:=beq_iff_eq.2 (by omega)
    have b3:(m == -k)=true:=beq_iff_eq.2 (by omega)
    clear h
    go_wp2
    go_ret
    exact ⟨rfl,rfl⟩
  ·have b1:(m == k)=false:=beq_eq_false_iff_ne.2 (by have:=H.out;omega)
   have b2:(m == 0-k)=false:=beq_eq_false_iff_ne.2 (by have:=H.out;omega)
   have b3:(m == -k)=false:=beq_eq_false_iff_ne.2 (by have:=H.out;omega)
   have hlt:k<q:=by omega
   clear hk
   go_wp2
   go_round
   case rel=>exact ⟨k+1,by omega,by omega,rfl⟩
   case measure=>simp [intOf];omega
set_option maxRecDepth 100000
theorem cells24:Tryz.prog.cellsOf 24=64:=by kernel_rfl
theorem rkind_any (m:Int) (w:World) :
  Calls Tryz.prog 75 #[.int .i64 m] w fun e w'=>e=.returned (.int .i64 (kindI m))∧w=w':=by
 unfold kindI
 by_cases h:manB m=true
 ·have:=(manB_iff m).1 h
  rw [if_pos h]
  by_cases h0:0<m
  ·rw [if_pos h0];exact rkind_yes m m w (.inl rfl) (by omega) this.2.2
  ·rw [if_neg h0];exact rkind_yes m (-m) w (.inr (by omega)) (by omega) (by omega)
 ·rw [if_neg h];exact rkind_no m w ((manB_not m).1 (by simpa using h))
theorem kindI_one (x:Int):(kindI x == 1)=(x == 1 || x == -1):=by
 rw [Bool.eq_iff_iff]
 simp only [beq_iff_eq,Bool.or_eq_true]
 unfold kindI
 by_cases h:manB x=true
 ·rw [if_pos h];split <;> omega
 ·rw [if_neg h];have:=(manB_not x).1 (by simpa using h);omega
theorem rright_yes' (B:List Int) (hB:Brd B) (h:∀ i,i<64→okB (B.getD i 0)=true) (w:World) :
  Calls Tryz.prog 43 #[.agg (cl B).toArray] w fun e w'=>e=.returned (.bool true)∧Kept w w':=by
 have H:=Qh hB
 have HK:=Qh h
 clear hB h
 go_enter Tryz.func43,Tryz.ntmps43
 go_wp2
 go_loop [3] (fun i=>∃ k:Nat,k≤64∧i=.int .i64 k) (fun i=>64-(intOf i).toNat)
 case atStart=>exact ⟨0,by omega,rfl⟩
 case round =>
  obtain ⟨k,hk,rfl⟩:=hrel
  by_cases hlt:k<64
  ·have hc:(w.alloc (.cells (cl B).toArray 24)).cell? ⟨w.heap.size,k,none⟩=some (.int .i8 (B.getD k 0)):=by
    rw [cell_of_row _ _ k _ _ (0,0) (heap_alloc_new w _)]
    simpa using cl_get B k (by rw [H.out.1];exact hlt)
   obtain ⟨hb1,hb2⟩:=H.out.2 k hlt
   have ho:=HK.out k hlt
   generalize B.getD k 0=x at *
   by_cases h0:(x == 0)=true
   ·have h0':(x != 0)=false:=by simpa using h0
    clear h0 ho
    go_wp2
    go_round
    case rel=>exact ⟨k+1,by omega,by go_num⟩
    case measure=>simp [intOf];omega
   ·have h0':(x != 0)=true:=by simpa using h0
    have hm:manB x=true:=by
     unfold okB at ho
     simpa [h0] using ho
    have hk0:(kindI x == 0)=false:=by
     have:=(manB_iff x).1 hm
     rw [beq_eq_false_iff_ne]
     unfold kindI
     rw [if_pos hm]
     split <;> omega
    clear h0 ho hm
    go_wp2_with fail
    refine (rkind_any _ _).mono ?_
    rintro e w' ⟨rfl,rfl⟩
    go_wp2
    go_round
    case rel=>exact ⟨k+1,by omega,by go_num⟩
    case measure=>simp [intOf];omega
  ·go_wp2
   go_ret
   exact ⟨rfl,(Kept.refl _).alloc _⟩
theorem rright_no' (B:List Int) (hB:Brd B) (n:Nat) (hn:n<64) (h:okB (B.getD n 0)=false) (hf:∀ i,i<n→okB (B.getD i 0)=true) (w:World) :
  Calls Tryz.prog 43 #[.agg (cl B).toArray] w fun e w'=>e=.returned (.bool false)∧Kept w w':=by
 have H:=Qh hB
 have HK:=Qh hf
 have HN:=Qh h
 clear hB h hf
 go_enter Tryz.func43,Tryz.ntmps43
 go_wp2
 go_loop [3] (fun i=>∃ k:Nat,k≤n∧i=.int .i64 k) (fun i=>64-(intOf i).toNat)
 case atStart=>exact ⟨0,by omega,rfl⟩
 case round =>
  obtain ⟨k,hk,rfl⟩:=hrel
  have hlt:k<64:=by omega
  have hc:(w.alloc (.cells (cl B).toArray 24)).cell? ⟨w.heap.size,k,none⟩=some (.int .i8 (B.getD k 0)):=by
   rw [cell_of_row _ _ k _ _ (0,0) (heap_alloc_new w _)]
   simpa using cl_get B k (by rw [H.out.1];exact hlt)
  obtain ⟨hb1,hb2⟩:=H.out.2 k hlt
  by_cases he:k=n
  ·subst he
   have ho:=HN.out
   generalize B.getD k 0=x at *
   unfold okB at ho
   rw [Bool.or_eq_false_iff] at ho
   have h0':(x != 0)=true:=by have:=ho.1;simpa using this
   have hk0:(kindI x == 0)=true:=by
    rw [beq_iff_eq]
    unfold kindI
    rw [if_neg (by rw [ho.2];decide)]
   clear ho
   go_wp2_with fail
   refine (rkind_any _ _).mono ?_
   rintro e w' ⟨rfl,rfl⟩
   go_wp2
   go_ret
   exact ⟨rfl,(Kept.refl _).alloc _⟩
  ·have ho:=HK.out k (by omega)
   have hkn:k<n:=by omega
   clear he
   generalize B.getD k 0=x at *
   by_cases h0:(x == 0)=true
   ·have h0':(x != 0)=false:=by simpa using h0
    clear h0 ho
    go_wp2
    go_round
    case rel=>exact ⟨k+1,by omega,by go_num⟩
    case measure=>simp [intOf];omega
   ·have h0':(x != 0)=true:=by simpa using h0
    have hm:manB x=true:=by
     unfold okB at ho
     simpa [h0] using ho
    have hk0:(kindI x == 0)=false:=by
     have:=(manB_iff x).1 hm
     rw [beq_eq_false_iff_ne]
     unfold kindI
     rw [if_pos hm]
     split <;> omega
    clear h0 ho hm
    go_wp2_with fail
    refine (rkind_any _ _).mono ?_
    rintro e w' ⟨rfl,rfl⟩
    go_wp2
    go_round
    case rel=>exact ⟨k+1,by omega,by go_num⟩
    case measure=>simp [intOf];omega
theorem rright_is (B:List Int) (hB:Brd B) (w:World) :
  Calls Tryz.prog 43 #[.agg (cl B).toArray] w fun e w'=>e=.returned (.bool (rightB B))∧Kept w w':=by
 rcases first_or (fun i=>!okB (B.getD i 0)) 64 with h|⟨k,hk,h1,h2⟩
 ·have h':∀ i,i<64→okB (B.getD i 0)=true:=fun i hi=>by simpa using h i hi
  rw [(rightB_iff B hB.1).2 h']
  exact rright_yes' B hB h' w
 ·have h1':okB (B.getD k 0)=false:=by simpa using h1
  have:rightB B=false:=by
   rw [← Bool.not_eq_true,rightB_iff B hB.1]
   intro h
   rw [h k hk] at h1'
   cases h1'
  rw [this]
  exact rright_no' B hB k hk h1' (fun i hi=>by simpa using h2 i hi) w
def nl (l:List Nat):List Value:=l.map fun (i:Nat)=>Value.int .i64 (i:Int)
theorem nl_snoc (l:List Nat) (k:Nat):nl (l++[k])=nl l++[.int .i64 (k:Int)]:=by simp [nl]
theorem infoInt:(Tryz.prog.info? 3).map (fun i=>(i.zero,i.size,i.bytes))=some (some (.int .i64 0),1,8):=by kernel_rfl
def Owns (w:World) (base:Nat) (v:Value) (l:List Nat):Prop:=w.ownsRow base 3 1 v l.length (nl l)
theorem Owns.low {w:World} {base b:Nat} {v:Value} {l:List Nat} (h:Owns w base v l) (hb:b≤base):Owns w b v l:=by
 obtain ⟨h1,h2⟩:=h
 refine ⟨h1,?_⟩
 rcases h2 with h2|⟨g,cap,cur,e1,e2,e3⟩
 ·exact .inl h2
 ·exact .inr ⟨g,cap,cur,e1,by omega,e3⟩
theorem Owns.slice {w:World} {base:Nat} {v:Value} {l:List Nat} (h:Owns w base v l):∃ a cap,v=.slice a l.length cap:=by
 rcases h.2 with ⟨e,h0⟩|⟨g,cap,cur,e,_⟩
 ·exact ⟨none,0,by rw [e,h0]⟩
 ·exact ⟨_,_,e⟩
theorem Owns.at_ {w:World} {base:Nat} {a:Option Addr} {n cap:Nat} {l:List Nat} (h:Owns w base (.slice a n cap) l) (j:Nat) (hj:j<l.length) :
  ∃ g,a=some ⟨g,0,none⟩∧w.cell? ⟨g,j,none⟩=some (.int .i64 (l.getD j 0:Nat)):=by
 rcases h.2 with ⟨e,h0⟩|⟨g,cap',cur,e,_,hh,hnc,_,hcs,ht⟩
 ·omega
 ·injection e with e1 e2 e3
  refine ⟨g,e1,?_⟩
  rw [cell_of_row w g j cur _ (0,0) hh]
  have h2:(cur.toList.take (l.length*1))[j]?=(nl l)[j]?:=by rw [ht]
  rw [List.getElem?_take,if_pos (by omega)] at h2
  simp only [Array.getElem?_toList] at h2
  rw [h2]
  simp [nl,List.getD,List.getElem?_eq_getElem hj]
theorem owns_none (w:World) (b:Nat) (p:Nat→Bool):Owns w b (.slice none 0 0) (sel p 0):=by
 have:sel p 0=[]:=by simp [sel]
 rw [this];exact World.ownsRow_nil _ _ _ _
def Gives (w:World) (l:List Nat) (e:Ending) (w':World):Prop:=∃ v,e=.returned v∧Owns w' w.heap.size v l∧Kept w w'
theorem where_step {w W wr w1:World} {v v':Value} {p:Nat→Bool} {k:Nat} {o:Obj} (hp:p k=true) (hW:W.heap.size=w.heap.size+1) (hK:Kept W wr)
  (hown:Owns wr (w.heap.size+1) v (sel p k)) (hown':w1.ownsRow (w.heap.size+1) 3 1 v' ((sel p k).length+1) (nl (sel p k)++[.int .i64 (k:Int)])) (hg:(wr.alloc o).grownBy w1 v.ownBlock) :
  Owns w1 (w.heap.size+1) v' (sel p (k+1))∧Kept W w1:=by
 refine ⟨?_,?_⟩
 ·unfold Owns
  rw [sel_yes hp,nl_snoc]
  simpa using hown'
 ·exact (hK.alloc o).grownBy hg (fun g hgv=>by have:=(World.ownsRow.lt hown g hgv).1;omega)
set_option maxRecDepth 100000 in
theorem rwhere_is (B:List Int) (hB:Brd B) (m:Int) (w:World) :
  Calls Tryz.prog 44 #[.agg (cl B).toArray,.int .i64 m] w (Gives w (whereL B m)):=by
 have H:=Qh hB
 clear hB
 obtain ⟨p,hp⟩:∃ p:Nat→Bool,p=fun i=>B.getD i 0 == m:=⟨_,rfl⟩
 have HM:Hid (whereL B m=sel p 64):=by rw [hp];rfl
 have HP:=Qh hp
 clear hp
 obtain ⟨i0,hi,hz0,hz1,hz2⟩:=info_parts infoInt
 obtain ⟨W,eW⟩:∃ W,W=w.alloc (.cells (cl B).toArray 24):=⟨_,rfl⟩
 have HW:=Qh eW
 have hsz:=Qh (show W.heap.size=w.heap.size+1 by rw [eW];simp)
 have hbl:=Qh (show W.heap[w.heap.size]?=some (.cells (cl B).toArray 24 (0,0)) by rw [eW];exact heap_alloc_new w _)
 clear eW
 go_enter Tryz.func44,Tryz.ntmps44
 go_wp2
 go_loopw [5,6] (fun v i wr=>∃ k:Nat,k≤64∧i=.int .i64 k∧Owns wr (w.heap.size+1) v (sel p k)∧Kept W wr) (fun _ i _=>64-(intOf i).toNat)
 case atStart=>exact ⟨0,by omega,rfl,owns_none _ _ _,by rw [HW.out];exact Kept.refl _⟩
 case round =>
  obtain ⟨k,hk,rfl,hown,hK⟩:=hrel
  have hsl:=sel_le p k
  by_cases hlt:k<64
  ·have hc:wr.cell? ⟨w.heap.size,k,none⟩=some (.int .i8 (B.getD k 0)):=by
    rw [cell_of_row _ _ k _ _ (0,0) (hK.heap hbl.out)]
    simpa using cl_get B k (by rw [H.out.1];exact hlt)
   obtain ⟨hb1,hb2⟩:=H.out.2 k hlt
   obtain ⟨x,ex⟩:∃ x,x=B.getD k 0:=⟨_,rfl⟩
   rw [← ex] at hc hb1 hb2
   have hq:Hid (p k=(x == m)):=by rw [ex,HP.out];rfl
   clear ex
   by_cases h1:(x == m)=true
   ·have HQ:Hid (p k=true):=by rw [hq.out];exact h1
    go_wp2_with (at_builtin;refine wpList_append_own _ rfl _ _ 74 rfl (w.heap.size+1) 3 i0 (.int .i64 0) 1 8 Tryz.underlying74 hi hz0 hz1 hz2 rfl (by decide) _ _ _ rfl (World.ownsRow.alloc hown _) ⟨wr.heap.size,0,none⟩ 1 1 [.int .i64 (k:Int)] rfl rfl ?c1 ?c2 ?c3 ?c4 ?c5 ?_)
    case c1 =>
     intro j u hj
     match j,hj with
     | 0,hj=>simp at hj;subst hj;simp [Addr.add]
    case c2=>intro u hu;simp at hu;subst hu;rfl
    case c3=>unfold maxLen;omega
    case c4=>omega
    case c5=>have:=hK.size;have:=hsz.out;simp;omega
    intro v' w1 hown' hgrow _
    have R:=where_step HQ.out hsz.out hK hown hown' hgrow
    clear hown' hgrow hown hK hc
    go_wp2
    go_roundw
    case rel=>exact ⟨k+1,by omega,by go_num,R.1,R.2⟩
    case measure=>simp [intOf];omega
   ·have h1':(x == m)=false:=by simpa using h1
    clear h1
    have HQ:Hid (p k=false):=by rw [hq.out];exact h1'
    go_wp2
    go_roundw
    case rel=>exact ⟨k+1,by omega,by go_num,by rw [sel_no HQ.out];exact hown,hK⟩
    case measure=>simp [intOf];omega
  ·go_wp2
   go_ret
   refine ⟨_,rfl,?_,?_⟩
   ·rw [HM.out,show 64=k by omega];exact hown.low (by omega)
   ·refine Kept.trans ?_ hK
    rw [HW.out];exact (Kept.refl _).alloc _
def term (B:List Int) (kind side:Int) (j n:Nat):Nat :=
 if kind=0∨kind=(j:Int) then (if side=0 then cnt (fun i=>B.getD i 0 == (j:Int)) n else if side=1 then cnt (fun i=>B.getD i 0 == -(j:Int)) n else 0) else 0
def rsum (B:List Int) (kind side:Int):Nat→Nat
 | 0=>0
 | j+1=>rsum B kind side j+term B kind side (j+1) 64
theorem term_le (B:List Int) (kind side:Int) (j:Nat):term B kind side j 64≤64:=by
 unfold term
 split
 ·split
  ·exact cnt_le _ _
  ·split
   ·exact cnt_le _ _
   ·omega
 ·omega
theorem rsum_le (B:List Int) (kind side:Int) (j:Nat):rsum B kind side j≤64*j:=by
 induction j with
 | zero=>simp [rsum]
 | succ j ih=>have:=term_le B kind side (j+1);simp only [rsum];omega
theorem cnt_succ (p:Nat→Bool) (n:Nat):cnt p (n+1)=cnt p n+(p n).toNat:=by
 cases h:p n
 ·rw [cnt_no h];rfl
 ·rw [cnt_yes h];rfl
theorem cnt_zero (p:Nat→Bool):cnt p 0=0:=by simp [cnt,sel]
theorem term_succ (B:List Int) (kind side:Int) (j n:Nat):term B kind side j (n+1)=term B kind side j n+one kind side (B.getD n 0) j:=by
 unfold term one
 split
 ·split
  ·rw [cnt_succ]
  ·split
   ·rw [cnt_succ]
   ·rfl
 ·rfl
theorem one_hit (kind side x:Int):(hit kind side x).toNat=one kind side x 1+one kind side x 2+one kind side x 3+one kind side x 4+one kind side x 5+one kind side x 6:=by
 by_cases hm:manB x=true
 ·have h:=(manB_iff x).1 hm
  have hx:x=-6∨x=-5∨x=-4∨x=-3∨x=-2∨x=-1∨x=1∨x=2∨x=3∨x=4∨x=5∨x=6:=by omega
  have e1:∀ a b:Int,(a == b)=decide (a=b):=fun a b=>by by_cases h:a=b <;> simp [h]
  have e2:∀ a:Int,decide (a=kind)=decide (kind=a):=fun a=>by simp [eq_comm]
  have e3:∀ a:Int,decide (a=side)=decide (side=a):=fun a=>by simp [eq_comm]
  rcases hx with rfl|rfl|rfl|rfl|rfl|rfl|rfl|rfl|rfl|rfl|rfl|rfl
  all_goals
   unfold hit sideI kindI one
   simp only [hm,e1,e2,e3]
   by_cases h0:side=0
   ·subst h0
    by_cases k0:kind=0
    ·subst k0;simp
    ·simp [k0];try (clear e1 e2 e3;split <;> simp_all)
   ·by_cases h1:side=1
    ·subst h1
     by_cases k0:kind=0
     ·subst k0;simp
     ·simp [k0];try (clear e1 e2 e3;split <;> simp_all)
    ·simp [h0,h1]
 ·have hm':manB x=false:=by simpa using hm
  have h:=(manB_not x).1 hm'
  have z:∀ j:Nat,1≤j→j≤6→one kind side x j=0:=by
   intro j h1 h2
   have a1:(x == (j:Int))=false:=beq_eq_false_iff_ne.2 (by omega)
   have a2:(x == -(j:Int))=false:=beq_eq_false_iff_ne.2 (by omega)
   unfold one
   rw [a1,a2]
   simp
  have hh:hit kind side x=false:=by unfold hit;rw [hm'];rfl
  rw [hh,z 1 (by omega) (by omega),z 2 (by omega) (by omega),z 3 (by omega) (by omega),z 4 (by omega) (by omega),z 5 (by omega) (by omega),z 6 (by omega) (by omega)]
  rfl
theorem term_zero (B:List Int) (kind side:Int) (j:Nat):term B kind side j 0=0:=by
 unfold term
 simp [cnt_zero]
theorem six_terms (B:List Int) (kind side:Int) (n:Nat) :
  term B kind side 1 n+term B kind side 2 n+term B kind side 3 n+term B kind side 4 n+term B kind side 5 n+term B kind side 6 n=cnt (fun i=>hit kind side (B.getD i 0)) n:=by
 induction n with
 | zero=>simp [term_zero,cnt_zero]
 | succ n ih =>
  rw [cnt_succ,← ih,one_hit]
  simp only [term_succ]
  omega
theorem rsum_six (B:List Int) (kind side:Int):rsum B kind side 6=many B kind side:=by
 unfold many
 rw [← six_terms]
 simp only [rsum,Nat.reduceAdd]
 omega
theorem rmany_is (B:List Int) (hB:Brd B) (kind side:Int) (w:World) :
  Calls Tryz.prog 45 #[.agg (cl B).toArray,.int .i64 kind,.int .i64 side] w fun e w'=>e=.returned (.int .i64 (many B kind side:Nat))∧Kept w w':=by
 have H:=Qh hB
 have hz:=Qh (size_cl hB.1)
 clear hB
 obtain ⟨W,eW⟩:∃ W,W=w.alloc (.cells (cl B).toArray 24):=⟨_,rfl⟩
 have HW:=Qh eW
 have hbl:=Qh (show W.heap[w.heap.size]?=some (.cells (cl B).toArray 24 (0,0)) by rw [eW];exact heap_alloc_new w _)
 clear eW
 go_enter Tryz.func45,Tryz.ntmps45
 go_wp2
 go_loopw [7,8] (fun n i wr=>∃ k:Nat,k≤6∧i=.int .i64 ((k:Int)+1)∧n=.int .i64 (rsum B kind side k:Nat)∧Kept W wr) (fun _ i _=>7-(intOf i).toNat)
 case atStart=>exact ⟨0,by omega,rfl,rfl,by rw [HW.out];exact Kept.refl _⟩
 case round =>
  obtain ⟨k,hk,rfl,rfl,hK⟩:=hrel
  have hr:=rsum_le B kind side k
  by_cases hlt:k<6
  ·by_cases hskip:(kind != 0)=true∧(kind != (k:Int)+1)=true
   ·have HT:Hid (rsum B kind side (k+1)=rsum B kind side k):=by
     simp only [bne_iff_ne] at hskip
     show rsum B kind side k+term B kind side (k+1) 64=_
     unfold term
     rw [if_neg (by omega)]
     rfl
    obtain ⟨s1,s2⟩:=hskip
    go_wp2
    go_roundw
    case rel=>exact ⟨k+1,by omega,by go_num,by rw [HT.out],hK⟩
    case measure=>simp [intOf];omega
   ·have hC:((kind != 0)=false)∨((kind != 0)=true∧(kind != (k:Int)+1)=false):=by
     by_cases h:(kind != 0)=true
     ·exact .inr ⟨h,by simpa [h] using hskip⟩
     ·exact .inl (by simpa using h)
    have hT:∀ x,term B kind side (k+1) 64=x→Hid (rsum B kind side (k+1)=rsum B kind side k+x):=fun x hx=>by
     rw [← hx];exact Qh rfl
    have hcond:Hid (kind=0∨kind=((k+1:Nat):Int)):=by
     rcases hC with h|⟨_,h⟩
     ·exact .inl (by simpa using h)
     ·exact .inr (by have:kind=(k:Int)+1:=(by simpa using h);omega)
    have HT:=Qh hT
    clear hT hskip
    by_cases hs0:(side == 0)=true
    ·have hs1:(side == 1)=false:=by
      rw [beq_eq_false_iff_ne];have:=beq_iff_eq.1 hs0;omega
     have HX:=HT.out (cnt (fun i=>B.getD i 0 == ((k+1:Nat):Int)) 64) (by
      unfold term;rw [if_pos hcond.out,if_pos (beq_iff_eq.1 hs0)])
     have hle:=cnt_le (fun i=>B.getD i 0 == ((k+1:Nat):Int)) 64
     have hlen:=Qh (show (whereL B ((k:Int)+1)).length=cnt (fun i=>B.getD i 0 == ((k+1:Nat):Int)) 64 from rfl)
     generalize cnt (fun i=>B.getD i 0 == ((k+1:Nat):Int)) 64=c at HX hle hlen
     clear HT
     rcases hC with hC|⟨hC,hC'⟩
     all_goals
      go_wp2_with (first|(with_reducible refine wpList_load_row rfl 24 _ rfl _ rfl _ _ _ _ (hK.heap hbl.out) Tryz.underlying24 rfl hz.out ?_))
      refine (rwhere_is B H.out ((k:Int)+1) _).mono ?_
      rintro e w1 ⟨v,rfl,hown,hK1⟩
      obtain ⟨aa,cap,rfl⟩:=hown.slice
      rw [hlen.out]
      clear hlen hown
      go_wp2
      go_roundw
      case rel=>exact ⟨k+1,by omega,by go_num,by rw [HX.out];go_num,hK.trans hK1⟩
      case measure=>simp [intOf];omega
    ·have hs0':(side == 0)=false:=by simpa using hs0
     by_cases hs1:(side == 1)=true
     ·have HX:=HT.out (cnt (fun i=>B.getD i 0 == -((k+1:Nat):Int)) 64) (by
       unfold term;rw [if_pos hcond.out,if_neg (by simpa using hs0),if_pos (beq_iff_eq.1 hs1)])
      have hle:=cnt_le (fun i=>B.getD i 0 == -((k+1:Nat):Int)) 64
      have hlen:=Qh (show (whereL B (-((k:Int)+1))).length=cnt (fun i=>B.getD i 0 == -((k+1:Nat):Int)) 64 from rfl)
      generalize cnt (fun i=>B.getD i 0 == -((k+1:Nat):Int)) 64=c at HX hle hlen
      clear HT hs0
      rcases hC with hC|⟨hC,hC'⟩
      all_goals
       go_wp2_with (first|(with_reducible refine wpList_load_row rfl 24 _ rfl _ rfl _ _ _ _ (hK.heap hbl.out) Tryz.underlying24 rfl hz.out ?_))
       refine (rwhere_is B H.out _ _).mono ?_
       rintro e w1 ⟨v,rfl,hown,hK1⟩
       obtain ⟨aa,cap,rfl⟩:=hown.slice
       rw [hlen.out]
       clear hlen hown
       go_wp2
       go_roundw
       case rel=>exact ⟨k+1,by omega,by go_num,by rw [HX.out];go_num,hK.trans hK1⟩
       case measure=>simp [intOf];omega
     ·have hs1':(side == 1)=false:=by simpa using hs1
      have HX:=HT.out 0 (by
       unfold term;rw [if_pos hcond.out,if_neg (by simpa using hs0),if_neg (by simpa using hs1)])
      clear HT hs0 hs1
      rcases hC with hC|⟨hC,hC'⟩
      all_goals
       go_wp2
       go_roundw
       case rel=>exact ⟨k+1,by omega,by go_num,by rw [HX.out];rfl,hK⟩
       case measure=>simp [intOf];omega
  ·go_wp2
   go_ret
   refine ⟨ret_int ?_,?_⟩
   ·rw [show k=6 by omega,rsum_six]
   ·refine Kept.trans ?_ hK
    rw [HW.out];exact (Kept.refl _).alloc _
theorem headI_bd (B:List Int) (x:Int):-1≤headI (whereL B x)∧headI (whereL B x)<64:=by
 cases h:whereL B x with
 | nil=>exact ⟨by decide,by decide⟩
 | cons a t =>
  have:a ∈ whereL B x:=by rw [h];simp
  simp [whereL,sel] at this
  show -1≤(a:Int)∧(a:Int)<64
  omega
set_option linter.unusedSimpArgs false
theorem rmany_i (B:List Int) (hB:Brd B) (kind side:Int) (w:World) :
  Calls Tryz.prog 45 #[.agg (cl B).toArray,.int .i64 kind,.int .i64 side] w fun e w'=>e=.returned (.int .i64 (manyI B kind side))∧Kept w w':=rmany_is B hB kind side w
def rEdge (B:List Int) (f:Nat):Bool:=B.getD f 0 == 1 || B.getD f 0 == -1 || B.getD (56+f) 0 == 1 || B.getD (56+f) 0 == -1
theorem edge_low (B:List Int) (f:Nat) (h:f<8):edge B f=(B.getD f 0 == 1 || B.getD f 0 == -1):=by
 unfold edge
 have e:(((f:Int) / 8 == 0))=true:=by rw [beq_iff_eq];omega
 rw [e,kindI_one];simp
theorem edge_high (B:List Int) (f:Nat) (h:f<8):edge B (56+f)=(B.getD (56+f) 0 == 1 || B.getD (56+f) 0 == -1):=by
 unfold edge
 have e:((((56+f:Nat):Int) / 8 == 7))=true:=by rw [beq_iff_eq];omega
 rw [e,kindI_one];simp
theorem edge_mid (B:List Int) (i:Nat) (h0:8≤i) (h1:i<56):edge B i=false:=by
 unfold edge
 have e1:(((i:Int) / 8 == 0))=false:=by rw [beq_eq_false_iff_ne];omega
 have e2:(((i:Int) / 8 == 7))=false:=by rw [beq_eq_false_iff_ne];omega
 rw [e1,e2];simp
theorem rEdge_edge (B:List Int) (f:Nat) (h:f<8):rEdge B f=(edge B f || edge B (56+f)):=by
 rw [edge_low B f h,edge_high B f h]
 unfold rEdge
 simp only [Bool.or_assoc]
theorem edgeB_false (B:List Int) (h:∀ f,f<8→rEdge B f=false):edgeB B=false:=by
 unfold edgeB
 rw [List.any_eq_false]
 intro i hi
 have hi:i<64:=by simpa using hi
 by_cases h0:i<8
 ·have:=h i h0
  rw [rEdge_edge B i h0,Bool.or_eq_false_iff] at this
  rw [this.1];decide
 ·by_cases h1:i<56
  ·rw [edge_mid B i (by omega) h1];decide
  ·have:=h (i-56) (by omega)
   rw [rEdge_edge B _ (by omega),Bool.or_eq_false_iff,show 56+(i-56)=i by omega] at this
   rw [this.2];decide
theorem edgeB_true (B:List Int) (f:Nat) (hf:f<8) (h:rEdge B f=true):edgeB B=true:=by
 unfold edgeB
 rw [List.any_eq_true]
 rw [rEdge_edge B f hf,Bool.or_eq_true] at h
 rcases h with h|h
 ·exact ⟨f,by simp;omega,h⟩
 ·exact ⟨56+f,by simp;omega,h⟩
theorem rwrong_is (B:List Int) (hB:Brd B) (w:World) :
  Calls Tryz.prog 21 #[.agg (cl B).toArray] w fun e w'=>e=.returned (.int .i64 (wrongI B))∧Kept w w':=by
 have hbl:=Qh (heap_alloc_new w (.cells (cl B).toArray 24))
 have hk0:=(Kept.refl w).alloc (.cells (cl B).toArray 24)
 have hz:=Qh (size_cl hB.1)
 have HB:=Qh hB
 clear hB
 by_cases h1:rightB B=true
 ·by_cases h2:(manyI B 6 0 != 1)=true
  ·have HW:Hid (6=wrongI B):=by
    unfold wrongI;rw [if_neg (by rw [h1];decide),if_pos (.inl (bne_iff_ne.1 h2))];rfl
   go_enter Tryz.func21,Tryz.ntmps21
   go_wp2_with (refine wpList_load_w (by rfl) _ rfl _ rfl _ (hbl.out) hz.out ?_)
   refine (rright_is B HB.out _).mono ?_
   rintro e w1 ⟨rfl,g1⟩
   go_wp2_with (refine wpList_load_w (by rfl) _ rfl _ rfl _ (g1.heap hbl.out) hz.out ?_)
   refine (rwhere_is B HB.out 6 _).mono ?_
   rintro e w2 ⟨v,rfl,o2,g2⟩
   obtain ⟨aa,cap,rfl⟩:=o2.slice
   have hlen:=kings_w B
   clear o2
   go_wp2
   go_ret
   exact ⟨ret_int HW.out,(hk0.trans g1).trans g2⟩
  ·have h2':(manyI B 6 0 != 1)=false:=by simpa using h2
   by_cases h3:(manyI B 6 1 != 1)=true
   ·have HW:Hid (6=wrongI B):=by
     unfold wrongI;rw [if_neg (by rw [h1];decide),if_pos (.inr (bne_iff_ne.1 h3))];rfl
    clear h2
    go_enter Tryz.func21,Tryz.ntmps21
    go_wp2_with (refine wpList_load_w (by rfl) _ rfl _ rfl _ (hbl.out) hz.out ?_)
    refine (rright_is B HB.out _).mono ?_
    rintro e w1 ⟨rfl,g1⟩
    go_wp2_with (refine wpList_load_w (by rfl) _ rfl _ rfl _ (g1.heap hbl.out) hz.out ?_)
    refine (rwhere_is B HB.out 6 _).mono ?_
    rintro e w2 ⟨v,rfl,o2,g2⟩
    obtain ⟨aa,cap,rfl⟩:=o2.slice
    have hlen:=kings_w B
    clear o2
    go_wp2_with (refine wpList_load_w (by rfl) _ rfl _ rfl _ ((g1.trans g2).heap hbl.out) hz.out ?_)
    refine (rwhere_is B HB.out (-6) _).mono ?_
    rintro e w3 ⟨v,rfl,o3,g3⟩
    obtain ⟨ab,cap',rfl⟩:=o3.slice
    have hlen':=kings_b B
    clear o3
    go_wp2
    go_ret
    exact ⟨ret_int HW.out,((hk0.trans g1).trans g2).trans g3⟩
   ·have h3':(manyI B 6 1 != 1)=false:=by simpa using h3
    have hkings:Hid (¬ (manyI B 6 0≠1∨manyI B 6 1≠1)):=by
     have a1:manyI B 6 0=1:=by simpa using h2'
     have a2:manyI B 6 1=1:=by simpa using h3'
     show ¬ _
     omega
    clear h2 h3
    rcases first_or (rEdge B) 8 with h4|⟨n,hn,h4,h5⟩
    ·have h4':edgeB B=false:=edgeB_false B h4
     have H4:=Qh h4
     clear h4
     go_enter Tryz.func21,Tryz.ntmps21
     go_wp2_with (refine wpList_load_w (by rfl) _ rfl _ rfl _ (hbl.out) hz.out ?_)
     refine (rright_is B HB.out _).mono ?_
     rintro e w1 ⟨rfl,g1⟩
     go_wp2_with (refine wpList_load_w (by rfl) _ rfl _ rfl _ (g1.heap hbl.out) hz.out ?_)
     refine (rwhere_is B HB.out 6 _).mono ?_
     rintro e w2 ⟨v,rfl,o2,g2⟩
     obtain ⟨aa,cap,rfl⟩:=o2.slice
     have hlen:=kings_w B
     clear o2
     go_wp2_with (refine wpList_load_w (by rfl) _ rfl _ rfl _ ((g1.trans g2).heap hbl.out) hz.out ?_)
     refine (rwhere_is B HB.out (-6) _).mono ?_
     rintro e w3 ⟨v,rfl,o3,g3⟩
     obtain ⟨ab,cap',rfl⟩:=o3.slice
     have hlen':=kings_b B
     clear o3
     go_wp2
     have hbl3:=Qh (((g1.trans g2).trans g3).heap hbl.out)
     have hk3:=((hk0.trans g1).trans g2).trans g3
     clear hlen hlen' g1 g2 g3 hk0
     go_loop [3] (fun i=>∃ k:Nat,k≤8∧i=.int .i64 k) (fun i=>8-(intOf i).toNat)
     case atStart=>exact ⟨0,by omega,rfl⟩
     case round =>
      obtain ⟨k,hk,rfl⟩:=hrel
      by_cases hlt:k<8
      ·have hc:w3.cell? ⟨w.heap.size,k,none⟩=some (.int .i8 (B.getD k 0)):=by
        rw [cell_of_row _ _ k _ _ (0,0) hbl3.out]
        simpa using cl_get B k (by rw [HB.out.1];omega)
       have hc':w3.cell? ⟨w.heap.size,56+k,none⟩=some (.int .i8 (B.getD (56+k) 0)):=by
        rw [cell_of_row _ _ (56+k) _ _ (0,0) hbl3.out]
        simpa using cl_get B (56+k) (by rw [HB.out.1];omega)
       have hn:=H4.out k hlt
       unfold rEdge at hn
       simp only [Bool.or_eq_false_iff] at hn
       obtain ⟨⟨⟨n1,n2⟩,n3⟩,n4⟩:=hn
       have ei:((56:Int)+(k:Int)).toNat=56+k:=by omega
       generalize B.getD k 0=x at *
       generalize B.getD (56+k) 0=y at *
       go_wp2
       go_round
       case rel=>exact ⟨k+1,by omega,by go_num⟩
       case measure=>simp [intOf];omega
      ·clear H4
       by_cases h5:16<manyI B 0 0
       ·have HW:Hid (8=wrongI B):=by
         unfold wrongI;rw [if_neg (by rw [h1];decide),if_neg hkings.out,if_neg (by rw [h4'];decide),if_pos (.inl h5)];rfl
        go_wp2_with (refine wpList_load_w (by rfl) _ rfl _ rfl _ (hbl3.out) hz.out ?_)
        refine (rmany_i B HB.out 0 0 _).mono ?_
        rintro e w5 ⟨rfl,g5⟩
        go_wp2
        go_ret
        exact ⟨ret_int HW.out,hk3.trans g5⟩
       ·have h5':decide (16<manyI B 0 0)=false:=by simpa using h5
        by_cases h6:16<manyI B 0 1
        ·have HW:Hid (8=wrongI B):=by
          unfold wrongI;rw [if_neg (by rw [h1];decide),if_neg hkings.out,if_neg (by rw [h4'];decide),if_pos (.inr h6)];rfl
         go_wp2_with (refine wpList_load_w (by rfl) _ rfl _ rfl _ (hbl3.out) hz.out ?_)
         refine (rmany_i B HB.out 0 0 _).mono ?_
         rintro e w5 ⟨rfl,g5⟩
         go_wp2_with (refine wpList_load_w (by rfl) _ rfl _ rfl _ (g5.heap hbl3.out) hz.out ?_)
         refine (rmany_i B HB.out 0 1 _).mono ?_
         rintro e w6 ⟨rfl,g6⟩
         go_wp2
         go_ret
         exact ⟨ret_int HW.out,(hk3.trans g5).trans g6⟩
        ·have HW:Hid (0=wrongI B):=by
          unfold wrongI;rw [if_neg (by rw [h1];decide),if_neg hkings.out,if_neg (by rw [h4'];decide),if_neg (by omega)];rfl
         have h6':decide (16<manyI B 0 1)=false:=by simpa using h6
         go_wp2_with (refine wpList_load_w (by rfl) _ rfl _ rfl _ (hbl3.out) hz.out ?_)
         refine (rmany_i B HB.out 0 0 _).mono ?_
         rintro e w5 ⟨rfl,g5⟩
         go_wp2_with (refine wpList_load_w (by rfl) _ rfl _ rfl _ (g5.heap hbl3.out) hz.out ?_)
         refine (rmany_i B HB.out 0 1 _).mono ?_
         rintro e w6 ⟨rfl,g6⟩
         go_wp2
         go_ret
         exact ⟨ret_int HW.out,(hk3.trans g5).trans g6⟩
    ·have HW:Hid (7=wrongI B):=by
      unfold wrongI;rw [if_neg (by rw [h1];decide),if_neg hkings.out,if_pos (edgeB_true B n hn h4)];rfl
     have H4:=Qh h4
     have H5:=Qh h5
     clear h4 h5
     go_enter Tryz.func21,Tryz.ntmps21
     go_wp2_with (refine wpList_load_w (by rfl) _ rfl _ rfl _ (hbl.out) hz.out ?_)
     refine (rright_is B HB.out _).mono ?_
     rintro e w1 ⟨rfl,g1⟩
     go_wp2_with (refine wpList_load_w (by rfl) _ rfl _ rfl _ (g1.heap hbl.out) hz.out ?_)
     refine (rwhere_is B HB.out 6 _).mono ?_
     rintro e w2 ⟨v,rfl,o2,g2⟩
     obtain ⟨aa,cap,rfl⟩:=o2.slice
     have hlen:=kings_w B
     clear o2
     go_wp2_with (refine wpList_load_w (by rfl) _ rfl _ rfl _ ((g1.trans g2).heap hbl.out) hz.out ?_)
     refine (rwhere_is B HB.out (-6) _).mono ?_
     rintro e w3 ⟨v,rfl,o3,g3⟩
     obtain ⟨ab,cap',rfl⟩:=o3.slice
     have hlen':=kings_b B
     clear o3
     go_wp2
     have hbl3:=Qh (((g1.trans g2).trans g3).heap hbl.out)
     have hk3:=((hk0.trans g1).trans g2).trans g3
     clear hlen hlen' g1 g2 g3 hk0
     go_loop [3] (fun i=>∃ k:Nat,k≤n∧i=.int .i64 k) (fun i=>8-(intOf i).toNat)
     case atStart=>exact ⟨0,by omega,rfl⟩
     case round =>
      obtain ⟨k,hk,rfl⟩:=hrel
      have hlt:k<8:=by omega
      have hc:w3.cell? ⟨w.heap.size,k,none⟩=some (.int .i8 (B.getD k 0)):=by
       rw [cell_of_row _ _ k _ _ (0,0) hbl3.out]
       simpa using cl_get B k (by rw [HB.out.1];omega)
      have hc':w3.cell? ⟨w.heap.size,56+k,none⟩=some (.int .i8 (B.getD (56+k) 0)):=by
       rw [cell_of_row _ _ (56+k) _ _ (0,0) hbl3.out]
       simpa using cl_get B (56+k) (by rw [HB.out.1];omega)
      have ei:((56:Int)+(k:Int)).toNat=56+k:=by omega
      by_cases he:k=n
      ·subst he
       have hn:=H4.out
       unfold rEdge at hn
       generalize B.getD k 0=x at *
       generalize B.getD (56+k) 0=y at *
       by_cases n1:(x == 1)=true
       ·clear hn
        go_wp2
        go_ret
        exact ⟨ret_int HW.out,hk3⟩
       ·have n1':(x == 1)=false:=by simpa using n1
        by_cases n2:(x == -1)=true
        ·clear hn n1
         go_wp2
         go_ret
         exact ⟨ret_int HW.out,hk3⟩
        ·have n2':(x == -1)=false:=by simpa using n2
         by_cases n3:(y == 1)=true
         ·clear hn n1 n2
          go_wp2
          go_ret
          exact ⟨ret_int HW.out,hk3⟩
         ·have n3':(y == 1)=false:=by simpa using n3
          rw [n1',n2',n3'] at hn
          have n4:(y == -1)=true:=by simpa using hn
          clear hn n1 n2 n3
          go_wp2
          go_ret
          exact ⟨ret_int HW.out,hk3⟩
      ·have hn:=H5.out k (by omega)
       have hkn:k<n:=by omega
       clear he
       unfold rEdge at hn
       simp only [Bool.or_eq_false_iff] at hn
       obtain ⟨⟨⟨n1,n2⟩,n3⟩,n4⟩:=hn
       generalize B.getD k 0=x at *
       generalize B.getD (56+k) 0=y at *
       go_wp2
       go_round
       case rel=>exact ⟨k+1,by omega,by go_num⟩
       case measure=>simp [intOf];omega
 ·have h1':rightB B=false:=by simpa using h1
  clear h1
  have HW:Hid (5=wrongI B):=by
   unfold wrongI;rw [if_pos h1'];rfl
  go_enter Tryz.func21,Tryz.ntmps21
  go_wp2_with (refine wpList_load_w (by rfl) _ rfl _ rfl _ (hbl.out) hz.out ?_)
  refine (rright_is B HB.out _).mono ?_
  rintro e w1 ⟨rfl,g1⟩
  go_wp2
  go_ret
  exact ⟨ret_int HW.out,hk0.trans g1⟩
end Go.Proofs.YtijkemnhehbchaaGreatDoor
namespace Go.Proofs.YtijkemnhehbchaaGreatDoor
set_option linter.unusedVariables false
set_option linter.unusedSimpArgs false
theorem rayN_mem:∀ (n:Nat) (s f r x:Int),x ∈ rayN n s f r→0≤x∧x<64
 | 0,_,_,_,x=>by simp [rayN]
 | n+1,s,f,r,x=>by
  unfold rayN
  split
  ·simp
  ·next h =>
   intro hx
   rcases List.mem_cons.1 hx with rfl|hx
   ·rcases stI_cases s f r with ⟨_,_,_,_,_,_,e⟩|⟨e,_⟩ <;> omega
   ·exact rayN_mem n _ _ _ x hx
theorem rayL_mem {s f r x:Int} (h:x ∈ rayL s f r):0≤x∧x<64:=by
 unfold rayL at h
 split at h
 ·simp at h
 ·exact rayN_mem _ _ _ _ _ h
theorem rayL_none (s:Int):rayL s 0 0=[]:=by unfold rayL;rw [if_pos ⟨rfl,rfl⟩]
theorem alongL_len (way:Nat) (s:Int):(alongL way s).length≤8:=by
 have:=rayL_len s (wayF way) (wayR way)
 unfold alongL
 split
 ·rw [List.length_take];omega
 ·exact this
theorem alongL_mem {way:Nat} {s x:Int} (h:x ∈ alongL way s):0≤x∧x<64:=by
 unfold alongL at h
 split at h
 ·exact rayL_mem (List.mem_of_mem_take h)
 ·exact rayL_mem h
def stepsL (m:Int):List (Int × Int) :=
 if knd m=1 then [(1,m),(-1,m)]
 else if knd m=2 then [(1,2),(2,1),(2,-1),(1,-2),(-1,-2),(-2,-1),(-2,1),(-1,2)]
 else if knd m=3 then [(1,1),(1,-1),(-1,-1),(-1,1)]
 else if knd m=4 then [(0,1),(1,0),(0,-1),(-1,0)]
 else if knd m=0 then [] else [(0,1),(1,0),(0,-1),(-1,0),(1,1),(1,-1),(-1,-1),(-1,1)]
def ofR (m s:Int) (P:List (Int × Int)):List (List Int):=P.flatMap fun p=>oneL (cutL m (rayL s p.1 p.2))
theorem ways_steps (m:Int) (h1:-6≤m) (h2:m≤6):((List.range 16).filter (goesB m)).map (fun w=>(wayF w,wayR w))=stepsL m∧((List.range 16).filter (goesB m)).all (fun w=>decide (w<8) || !slidesB m)=true:=by
 have:m=-6∨m=-5∨m=-4∨m=-3∨m=-2∨m=-1∨m=0∨m=1∨m=2∨m=3∨m=4∨m=5∨m=6:=by omega
 rcases this with rfl|rfl|rfl|rfl|rfl|rfl|rfl|rfl|rfl|rfl|rfl|rfl|rfl <;> decide +kernel
theorem stepsL_none {m:Int} (h:m < -6∨m=0∨6<m):stepsL m=[]:=by unfold stepsL;rw [knd_none h];simp
theorem goesB_none {m:Int} (h:m < -6∨m=0∨6<m) (w:Nat):goesB m w=false:=by unfold goesB;rw [knd_none h];simp
theorem ofR_is (m s:Int):ofR m s (stepsL m)=ofL m s:=by
 by_cases h:-6≤m∧m≤6
 ·obtain ⟨e1,e2⟩:=ways_steps m h.1 h.2
  unfold ofR ofL ofN
  rw [← e1,List.flatMap_map]
  generalize (List.range 16).filter (goesB m)=L at *
  clear e1
  induction L with
  | nil=>rfl
  | cons w L ih =>
   rw [List.flatMap_cons,List.flatMap_cons]
   simp only [List.all_cons,Bool.and_eq_true] at e2
   rw [ih e2.2]
   congr 2
   unfold alongL
   split
   ·next h8 =>
    have:slidesB m=false:=by
     have:=e2.1
     simp at this
     rcases this with h|h
     ·omega
     ·exact h
    unfold cutL
    simp [this,List.take_take]
   ·rfl
 ·have h':m < -6∨m=0∨6<m:=by omega
  rw [stepsL_none h']
  unfold ofL ofN
  rw [List.filter_eq_nil_iff.2 (fun w _=>by rw [goesB_none h'];simp)]
  rfl
end Go.Proofs.YtijkemnhehbchaaGreatDoor
namespace Go.Proofs.YtijkemnhehbchaaGreatDoor
open Go.RowKit
set_option linter.unusedVariables false
set_option linter.unusedSimpArgs false
theorem LsZ.kept {w w':World} {g:Nat} {v:Value} {l:List Int} (h:LsZ w g v l) (k:Kept w w'):LsZ w' g v l:=by
 rcases h with h|⟨off,cap,e,h1,h2,h3⟩
 ·exact .inl h
 ·exact .inr ⟨off,cap,e,h1,h2,fun i x hx=>kept_cell k (h3 i x hx)⟩
theorem LsZ.slice {w:World} {g:Nat} {v:Value} {l:List Int} (h:LsZ w g v l):∃ a cap,v=.slice a l.length cap:=by
 rcases h with ⟨e,h0⟩|⟨off,cap,e,_⟩
 ·exact ⟨none,0,by rw [e,h0];rfl⟩
 ·exact ⟨_,_,e⟩
def slen:Value→Nat
 | .slice _ n _=>n
 | _=>0
theorem rstep_neg (s f r:Int) (w:World) (h:(s<0∨64≤s)∨(0≤s∧s<64∧(s % 8+f<0∨8≤s % 8+f∨s / 8+r<0∨8≤s / 8+r))) :
  Calls Tryz.prog 137 #[.int .i64 s,.int .i64 f,.int .i64 r] w fun e w'=>e=.returned (.int .i64 (-1))∧w=w':=by
 rcases h with h|⟨a,b,h⟩
 ·exact rstep_off s f r w h
 ·exact rstep_no s f r w a b h
theorem rstep_any (s f r:Int) (w:World) :
  Calls Tryz.prog 137 #[.int .i64 s,.int .i64 f,.int .i64 r] w fun e w'=>(∃ t,e=.returned (.int .i64 t)∧((0≤t∧0≤s∧s<64∧0≤s % 8+f∧s % 8+f<8∧0≤s / 8+r∧s / 8+r<8∧t=(s / 8+r)*8+(s % 8+f))∨(t<0∧stI s f r=-1)))∧w=w':=by
 rcases stI_cases s f r with ⟨a,b,c,d,e,g,_⟩|⟨hs,h⟩
 ·exact (rstep_yes s f r w a b c d e g).mono fun _ _ ⟨h1,h2⟩=>⟨⟨_,h1,.inl ⟨by omega,a,b,c,d,e,g,rfl⟩⟩,h2⟩
 ·exact (rstep_neg s f r w h).mono fun _ _ ⟨h1,h2⟩=>⟨⟨_,h1,.inr ⟨by omega,hs⟩⟩,h2⟩
theorem rayMid_first {s f r t:Int} (h0:¬ (f=0∧r=0)) (h:(0≤t∧0≤s∧s<64∧0≤s % 8+f∧s % 8+f<8∧0≤s / 8+r∧s / 8+r<8∧t=(s / 8+r)*8+(s % 8+f))∨(t<0∧stI s f r=-1)):RayMid s f r [] t (decide (0≤t)):=by
 rcases h with ⟨h,h'⟩|⟨h,h'⟩
 ·rw [decide_eq_true h];exact RayMid.first h0 (.inl ⟨rfl,h'⟩)
 ·rw [decide_eq_false (by omega)];exact RayMid.first h0 (.inr ⟨rfl,h'⟩)
theorem rayMid_next {s f r t u:Int} {l:List Int} (hm:RayMid s f r l t true) (h0:¬ (f=0∧r=0)) (h:(0≤u∧0≤t∧t<64∧0≤t % 8+f∧t % 8+f<8∧0≤t / 8+r∧t / 8+r<8∧u=(t / 8+r)*8+(t % 8+f))∨(u<0∧stI t f r=-1)):RayMid s f r (l++[t]) u (decide (0≤u)):=by
 rcases h with ⟨h,h'⟩|⟨h,h'⟩
 ·rw [decide_eq_true h];exact hm.next h0 (.inl ⟨rfl,h'⟩)
 ·rw [decide_eq_false (by omega)];exact hm.next h0 (.inr ⟨rfl,h'⟩)
set_option maxHeartbeats 1000000 in
theorem rray_is (s f r:Int) (w:World) :
  Calls Tryz.prog 125 #[.int .i64 s,.int .i64 f,.int .i64 r] w (NewZ w (rayL s f r)):=by
 by_cases h0:f=0∧r=0
 ·obtain ⟨rfl,rfl⟩:=h0
  go_enter Tryz.func125,Tryz.ntmps125
  go_wp2
  go_ret
  exact ⟨_,rfl,by rw [rayL_none];exact OwnZ.nil _ _,Kept.refl _⟩
 ·have H0:=Qh h0
  have HP:=Qh (rstep_any · f r ·)
  have hb:(f == 0)=false∨((f == 0)=true∧(r == 0)=false):=by
   by_cases hf:f=0
   ·right;refine ⟨by simpa using hf,?_⟩;rw [beq_eq_false_iff_ne];exact fun hr=>h0 ⟨hf,hr⟩
   ·left;simpa using hf
  clear h0
  rcases hb with hb|⟨hb,hb2⟩
  all_goals
   go_enter Tryz.func125,Tryz.ntmps125
   go_wp2_with fail
   refine (HP.out _ _).mono ?_
   rintro e w' ⟨⟨t,rfl,ht⟩,rfl⟩
   have HT:=Qh (rayMid_first H0.out ht)
   clear ht
   go_wp2
   go_loopw [7,8] (fun t7 t8 wr=>∃ l t,t8=.int .i64 t∧RayMid s f r l t (decide (0≤t))∧OwnZ wr w.heap.size t7 l∧Kept w wr) (fun t7 _ _=>8-slen t7)
   case atStart=>exact ⟨[],t,rfl,HT.out,OwnZ.nil _ _,Kept.refl _⟩
   case round =>
    obtain ⟨l,t,rfl,hm,hown,hK⟩:=hrel
    obtain ⟨a,cap,rfl⟩:=hown.slice
    have HM:=Qh hm
    have HO:=Qh hown
    have HK:=Qh hK
    clear hm hown hK HT
    by_cases ht:0≤t
    ·rw [decide_eq_true ht] at HM
     obtain ⟨t0,t1,hlen⟩:=HM.out.far H0.out
     have HA:=Qh (HK.out.alloc (.cells #[.int .i64 t] 3))
     go_wp2_with (at_builtin;refine wpList_append_z rfl _ _ rfl w.heap.size wr.heap.size _ _ l [t] rfl rfl (HO.out.kept ((Kept.refl _).alloc _)) (LsZ.lit _ [t] (by simp)) ?c1 ?c2 ?_)
     case c1=>simp;omega
     case c2=>exact HA.out.size
     intro v' w1 hown' hg
     have hK1:=(HO.out.kept ((Kept.refl _).alloc (.cells #[.int .i64 t] 3))).grown HA.out (Nat.le_refl _) hg
     obtain ⟨a',cap',rfl⟩:=hown'.slice
     have HO1:=Qh hown'
     have HK1:=Qh hK1
     clear hown' hK1 hg
     generalize hn:(l++[t]).length=n at *
     have HN:=Qh hn
     clear hn
     go_wp2_with fail
     refine (HP.out _ _).mono ?_
     rintro e w' ⟨⟨u,rfl,hu⟩,rfl⟩
     have HU:=Qh (rayMid_next HM.out H0.out hu)
     clear hu
     go_wp2
     go_roundw
     case rel=>exact ⟨l++[t],u,rfl,HU.out,HO1.out,HK1.out⟩
     case measure=>have:=HN.out;simp [slen] at this ⊢;omega
    ·rw [decide_eq_false ht] at HM
     have ht':t<0:=by omega
     go_wp2
     go_ret
     exact ⟨_,rfl,by rw [HM.out.done];exact HO.out,HK.out⟩
theorem rknd_any (m:Int) (w:World):Calls Tryz.prog 75 #[.int .i64 m] w fun e w'=>e=.returned (.int .i64 (knd m))∧w=w':=by
 by_cases h:m < -6∨m=0∨6<m
 ·rw [knd_none h];exact rkind_no m w h
 ·have e:knd m=if m<0 then -m else m:=by unfold knd;rw [if_neg h]
  rw [e]
  split
  ·exact rkind_yes m (-m) w (by omega) (by omega) (by omega)
  ·exact rkind_yes m m w (by omega) (by omega) (by omega)
theorem rslides_is (m:Int) (w:World):Calls Tryz.prog 126 #[.int .i64 m] w fun e w'=>e=.returned (.bool (slidesB m))∧w=w':=by
 have HK:=Qh (rknd_any m)
 unfold slidesB
 have hq:=knd_is m
 generalize knd m=q at *
 rcases hq with rfl|rfl|rfl|rfl|rfl|rfl|rfl
 all_goals
  go_enter Tryz.func126,Tryz.ntmps126
  go_wp2_with fail
  refine (HK.out _).mono ?_
  rintro e w' ⟨rfl,rfl⟩
  go_wp2
  go_ret
  exact ⟨rfl,rfl⟩
end Go.Proofs.YtijkemnhehbchaaGreatDoor
namespace Go.Proofs.YtijkemnhehbchaaGreatDoor
set_option linter.unusedVariables false
set_option linter.unusedSimpArgs false
def byN (B:List Int) (s side:Int):List Nat:=sel (fun n=>(sideI (B.getD n 0) == side) && hitB B (n:Int) s) 64
theorem sort_outW (B:List Int) (s side:Int) (h0:0≤s) (h1:s<64):((outW B s side).mergeSort fun x y=>decide (x≤y))=zn (byN B s side):=by
 unfold byN
 refine sort_sel _ _ (told_nodup _ B s h0 h1 _ fun c hc hp=>?_) fun x=>?_
 ·obtain ⟨hw,i,hi,h8,_⟩:=(mem_tell (side:=side) h0 h1).1 (List.mem_filter.2 ⟨hc,hp⟩)
  omega
 ·rw [mem_outW B s side x h0 h1]
  constructor
  ·rintro ⟨a,b,hsd,h⟩
   obtain ⟨n,rfl⟩:=Int.eq_ofNat_of_zero_le a
   refine ⟨n,by omega,rfl,?_⟩
   rw [Bool.and_eq_true,beq_iff_eq]
   exact ⟨hsd,(hitB_iff B _ s).2 h⟩
  ·rintro ⟨n,hn,rfl,h⟩
   rw [Bool.and_eq_true,beq_iff_eq] at h
   exact ⟨by omega,by omega,h.1,(hitB_iff B _ s).1 h.2⟩
end Go.Proofs.YtijkemnhehbchaaGreatDoor
namespace Go.Proofs.YtijkemnhehbchaaGreatDoor
open Go.RowKit
set_option linter.unusedVariables false
set_option linter.unusedSimpArgs false
structure RowsAt (e:TypeId) (w:World) (base:Nat) (v:Value) (L:List (List Int)) (vs:List Value) (gs:List Nat):Prop where
 own:w.ownsRow base e 1 v L.length vs
 ngs:gs.length=L.length
 each:∀ (i:Nat) (u:Value) (g:Nat) (l:List Int),vs[i]?=some u→gs[i]?=some g→L[i]?=some l→OwnZ w base u l∧u.ownBlock=some g
 apart:gs.Pairwise (· < ·)
 old:∀ g ∈ gs,g<w.heap.size
def RowsZ (e:TypeId) (w:World) (base:Nat) (v:Value) (L:List (List Int)):Prop:=∃ vs gs,RowsAt e w base v L vs gs
theorem RowsAt.len {e:TypeId} {w:World} {base:Nat} {v:Value} {L:List (List Int)} {vs:List Value} {gs:List Nat} (h:RowsAt e w base v L vs gs):vs.length=L.length:=by
 have:=h.own.1;omega
theorem RowsZ.nil (e:TypeId) (w:World) (base:Nat):RowsZ e w base (.slice none 0 0) [] :=
 ⟨[],[],World.ownsRow_nil _ _ _ _,rfl,fun i u g l h=>by simp at h,List.Pairwise.nil,fun g h=>by cases h⟩
theorem RowsAt.kept {e:TypeId} {w w':World} {base:Nat} {v:Value} {L:List (List Int)} {vs:List Value} {gs:List Nat} (h:RowsAt e w base v L vs gs) (k:Kept w w'):RowsAt e w' base v L vs gs:=by
 refine ⟨?_,h.ngs,fun i u g l h1 h2 h3=>?_,h.apart,fun g hg=>Nat.lt_of_lt_of_le (h.old g hg) k.size⟩
 ·obtain ⟨h1,h2⟩:=h.own
  refine ⟨h1,?_⟩
  rcases h2 with h2|⟨b,cap,cur,e1,e2,e3,e4⟩
  ·exact .inl h2
  ·exact .inr ⟨b,cap,cur,e1,e2,k.heap e3,e4⟩
 ·obtain ⟨a,b⟩:=h.each i u g l h1 h2 h3
  exact ⟨a.kept k,b⟩
theorem RowsZ.kept {e:TypeId} {w w':World} {base:Nat} {v:Value} {L:List (List Int)} (h:RowsZ e w base v L) (k:Kept w w'):RowsZ e w' base v L:=by
 obtain ⟨vs,gs,h⟩:=h
 exact ⟨vs,gs,h.kept k⟩
theorem RowsZ.slice {e:TypeId} {w:World} {base:Nat} {v:Value} {L:List (List Int)} (h:RowsZ e w base v L):∃ a cap,v=.slice a L.length cap:=by
 obtain ⟨vs,gs,h⟩:=h
 rcases h.own.2 with ⟨e,h0⟩|⟨g,cap,cur,e,_⟩
 ·exact ⟨none,0,by rw [e,h0]⟩
 ·exact ⟨_,_,e⟩
theorem RowsZ.low {e:TypeId} {w:World} {base b:Nat} {v:Value} {L:List (List Int)} (h:RowsZ e w base v L) (hb:b≤base):RowsZ e w b v L:=by
 obtain ⟨vs,gs,h⟩:=h
 refine ⟨vs,gs,?_,h.ngs,fun i u g l h1 h2 h3=>?_,h.apart,h.old⟩
 ·obtain ⟨h1,h2⟩:=h.own
  refine ⟨h1,?_⟩
  rcases h2 with h2|⟨g,cap,cur,e1,e2,e3⟩
  ·exact .inl h2
  ·exact .inr ⟨g,cap,cur,e1,by omega,e3⟩
 ·obtain ⟨a,b⟩:=h.each i u g l h1 h2 h3
  exact ⟨a.low hb,b⟩
theorem OwnZ.blk {w:World} {base:Nat} {v:Value} {l:List Int} (h:OwnZ w base v l) (hl:0<l.length) :
  ∃ g cap cur,v=.slice (some ⟨g,0,none⟩) l.length cap∧base≤g∧w.heap[g]?=some (.cells cur 3 (0,0))∧l.length≤cap∧cap≤maxLen∧cur.size=cap*1∧cur.toList.take (l.length*1)=zl l:=by
 rcases h.2 with ⟨e,h0⟩|h
 ·omega
 ·exact h
theorem OwnZ.take {w:World} {base:Nat} {a:Option Addr} {n cap:Nat} {l:List Int} (h:OwnZ w base (.slice a n cap) l) (k:Nat) (hk:k≤l.length):OwnZ w base (.slice a k cap) (l.take k):=by
 have hlen:(l.take k).length=k:=by rw [List.length_take];omega
 refine ⟨by simp [zl],?_⟩
 rcases h.2 with ⟨e,h0⟩|⟨g,cap',cur,e,hb,hh,hnc,hcm,hcs,ht⟩
 ·injection e with e1 e2 e3
  exact .inl ⟨by rw [e1,e3,show k=0 by omega],by omega⟩
 ·injection e with e1 e2 e3
  subst e1 e3
  refine .inr ⟨g,cap,cur,by rw [hlen],hb,hh,by omega,hcm,hcs,?_⟩
  rw [hlen]
  have:cur.toList.take (k*1)=(cur.toList.take (l.length*1)).take k:=by rw [List.take_take];congr 1;omega
  rw [this,ht]
  simp [zl]
theorem RowsAt.append {t e:TypeId} {i0:TypeInfo} {z:Value} (ht:Tryz.prog.underlying t=some (.slice e)) (hi:Tryz.prog.info? e=some i0) (hz:i0.zero=some z) (h1:i0.size=1) (h24:i0.bytes=24) (hzs:z.cells.size=1) (hne:e≠3)
  {ops:Array Oper} {rest:List Oper} {o:Oper} {a:Act} {w1 w2:World} {Q:Exit→Act→World→Prop} (hgd:o.guard=none) (s x:Operand)
  (ho:o.op=.call { callee:=.builtin .append,args:=#[s,x],argTypes:=#[t,t] }) (base:Nat) (v u:Value) (L:List (List Int)) (l:List Int) (hs:a.eval s=v) (hx:a.eval x=.slice (some ⟨w2.heap.size,0,none⟩) 1 1)
  (hR:RowsZ e w1 base v L) (k:Kept w1 w2) (hu:OwnZ w2 w1.heap.size u l) (hl:0<l.length) (hb:base≤w1.heap.size) (hlen:L.length≤1000)
  (h:∀ v' w',RowsZ e w' base v' (L++[l])→(∀ A,Kept A w2→A.heap.size≤base→Kept A w')→wpList Tryz.prog ops Q rest (a.put o.dst v') w') :
  wpList Tryz.prog ops Q (o::rest) a (w2.alloc (.cells #[u] e)):=by
 obtain ⟨vs,gs,hR⟩:=hR
 obtain ⟨gu,cu,curu,eu,bu,hhu,_⟩:=hu.blk hl
 have h2:=hR.kept k
 have h3:=h2.kept ((Kept.refl w2).alloc (.cells #[u] e))
 refine wpList_append_own _ hgd s x t ho base e i0 z 1 24 ht hi hz h1 h24 hzs (by decide) v _ _ hs h3.own ⟨w2.heap.size,0,none⟩ 1 1 [u] hx rfl ?_ ?_ ?_ ?_ ?_ ?_
 ·intro j y hy
  match j,hy with
  | 0,hy =>
   simp at hy;subst hy
   rw [show (⟨w2.heap.size,0,none⟩:Addr).add 0=⟨w2.heap.size,0,none⟩ by unfold Addr.add;split <;> simp_all]
   rw [cell_of_row _ _ 0 _ _ (0,0) (heap_alloc_new w2 _)]
   rfl
 ·intro y hy
  simp at hy;subst hy
  rw [eu];rfl
 ·unfold maxLen;omega
 ·omega
 ·simp;have:=k.size;omega
 ·intro v' w' ho' hg _
  
  have hblk:∀ (g:Nat) (c:Array Value),w2.heap[g]?=some (.cells c 3 (0,0))→w'.heap[g]?=w2.heap[g]?:=by
   intro g c hc
   have hlt:=lt_of_heap hc
   rw [hg.block g (by simp;omega) ?_,Below.heap_alloc _ _ _ hlt]
   intro hv
   rcases h2.own.2 with ⟨ev,_⟩|⟨b,cap,cur,ev,_,e3,_⟩
   ·rw [ev] at hv;simp [Value.ownBlock] at hv
   ·rw [ev] at hv
    simp [Value.ownBlock] at hv
    subst hv
    rw [hc] at e3
    simp at e3
    exact hne e3.2.symm
  have hsz:w2.heap.size≤w'.heap.size:=by have:=hg.size;simp at this;omega
  refine h v' w' ⟨vs++[u],gs++[gu],by simpa using ho',by simp [hR.ngs],?_,?_,?_⟩ ?_
  ·intro i y g m hy hgi hm
   by_cases hi:i<L.length
   ·have hnv:=hR.len
    have hng:=hR.ngs
    rw [List.getElem?_append_left (by omega)] at hy hgi hm
    obtain ⟨q1,q2⟩:=h2.each i y g m hy hgi hm
    refine ⟨?_,q2⟩
    obtain ⟨r1,r2⟩:=q1
    refine ⟨r1,?_⟩
    rcases r2 with r2|⟨b,cap,cur,e1,e2,e3,e4⟩
    ·exact .inl r2
    ·exact .inr ⟨b,cap,cur,e1,e2,(hblk b cur e3).trans e3,e4⟩
   ·have hil:i=L.length:=by
     obtain ⟨hi',_⟩:=List.getElem?_eq_some_iff.1 hm
     simp at hi';omega
    have hnv:=hR.len
    have hng:=hR.ngs
    subst hil
    rw [List.getElem?_append_right (by omega)] at hy hgi hm
    simp [hnv,hng] at hy hgi hm
    subst hy hgi hm
    refine ⟨?_,by rw [eu];rfl⟩
    obtain ⟨r1,r2⟩:=hu.low hb
    refine ⟨r1,?_⟩
    rcases r2 with r2|⟨b,cap,cur,e1,e2,e3,e4⟩
    ·exact .inl r2
    ·exact .inr ⟨b,cap,cur,e1,e2,(hblk b cur e3).trans e3,e4⟩
  ·rw [List.pairwise_append]
   refine ⟨hR.apart,List.pairwise_singleton _ _,fun g hg' b hb'=>?_⟩
   simp at hb'
   subst hb'
   have:=hR.old g hg'
   omega
  ·intro g hg'
   rcases List.mem_append.1 hg' with hg'|hg'
   ·have:=hR.old g hg';have:=k.size;omega
   ·simp at hg';subst hg'
    have:=lt_of_heap hhu;omega
  ·intro A hA hAb
   refine (hA.alloc (.cells #[u] e)).grownBy hg (fun b hbv=>?_)
   have:=(World.ownsRow.lt h3.own b hbv).1
   omega
theorem infoRow:(Tryz.prog.info? 74).map (fun i=>(i.zero,i.size,i.bytes))=some (some (.slice none 0 0),1,24):=by kernel_rfl
def NewR (e:TypeId) (w:World) (L:List (List Int)) (E:Ending) (w':World):Prop:=∃ v,E=.returned v∧RowsZ e w' w.heap.size v L∧Kept w w'
theorem cutL_len (m:Int) (way:Nat) (s:Int):(cutL m (alongL way s)).length≤8:=by
 have:=alongL_len way s
 unfold cutL
 split
 ·exact this
 ·rw [List.length_take];omega
theorem run_head (gA off N cap m:Nat) (h:m≤cap) (w:World) :
  (Instr.sliceAt 74 (.slice (some ⟨gA,off,none⟩) N cap) none (some (.int .i64 (m:Int))) none).run Tryz.prog w=.ok (.slice (some ⟨gA,off,none⟩) m cap) w:=by
 obtain ⟨i0,hi0,hz0,hz1,hz2⟩:=partsZ infoZ
 have ht:=Tryz.underlying74
 have he:Tryz.prog.elem 74=3:=by kernel_rfl
 rw [run_sliceAt_slice w _ _ _ _ _ (by rw [he];exact ht),run_slice_h w _ _ _ _ (by rw [he];exact ht) _ _ (by omega) (by omega),he]
 simp [sizeOf,typeInfo,hi0,hz1,sliced,Addr.add]
def stZ (m:Int):List Int:=(stepsL m).flatMap fun p=>[p.1,p.2]
theorem flat_len:∀ P:List (Int × Int),(P.flatMap fun p=>[p.1,p.2]).length=2*P.length
 | []=>rfl
 | p::P=>by rw [List.flatMap_cons,List.length_append,flat_len P,List.length_cons];simp;omega
theorem flat_at:∀ (P:List (Int × Int)) (j:Nat) (p:Int × Int),P[j]?=some p→(P.flatMap fun p=>[p.1,p.2])[2*j]?=some p.1∧(P.flatMap fun p=>[p.1,p.2])[2*j+1]?=some p.2
 | [],j,p,h=>by simp at h
 | q::P,0,p,h=>by simp at h;subst h;simp
 | q::P,j+1,p,h=>by
  rw [List.getElem?_cons_succ] at h
  have:=flat_at P j p h
  rw [List.flatMap_cons]
  rw [show 2*(j+1)=2*j+2 by omega,show 2*j+2+1=(2*j+1)+2 by omega]
  simpa using this
theorem stZ_len (m:Int):(stZ m).length=2*(stepsL m).length:=flat_len _
theorem stepsL_len (m:Int):(stepsL m).length≤8:=by
 unfold stepsL
 repeat' split
 all_goals simp
def straightZ:List Int:=[0,1,1,0,0,-1,-1,0]
def slantZ:List Int:=[1,1,1,-1,-1,-1,-1,1]
set_option maxHeartbeats 1000000 in
theorem rsteps_is (m:Int) (w:World):Calls Tryz.prog 124 #[.int .i64 m] w (NewZ w (stZ m)):=by
 have hk:=Qh (rknd_any m)
 have hq:=knd_is m
 have hp:=@knd_pawn m
 have e:stZ m=(if knd m=1 then [1,m,-1,m] else if knd m=2 then [1,2,2,1,2,-1,1,-2,-1,-2,-2,-1,-2,1,-1,2] else if knd m=3 then slantZ else if knd m=4 then straightZ else if knd m=0 then [] else straightZ++slantZ):=by
  unfold stZ stepsL
  repeat' split
  all_goals first|rfl|simp_all
 generalize stZ m=Z at *
 generalize knd m=q at *
 have H1:=Qh (LsZ.lit w straightZ (by decide))
 have H2:=Qh (LsZ.lit (w.alloc (.cells (zl straightZ).toArray 3)) slantZ (by decide))
 obtain ⟨W,eW⟩:∃ W,W=(w.alloc (.cells (zl straightZ).toArray 3)).alloc (.cells (zl slantZ).toArray 3):=⟨_,rfl⟩
 have HW:Hid (W=(w.alloc (.cells #[.int .i64 0,.int .i64 1,.int .i64 1,.int .i64 0,.int .i64 0,.int .i64 (-1),.int .i64 (-1),.int .i64 0] 3)).alloc (.cells #[.int .i64 1,.int .i64 1,.int .i64 1,.int .i64 (-1),.int .i64 (-1),.int .i64 (-1),.int .i64 (-1),.int .i64 1] 3)):=Qh eW
 have HK:=Qh (show Kept w W by rw [eW];exact ((Kept.refl w).alloc _).alloc _)
 have HA:=Qh (show LsZ W w.heap.size (.slice (some ⟨w.heap.size,0,none⟩) 8 8) straightZ by rw [eW];exact H1.out.kept ((Kept.refl _).alloc _))
 have HB:=Qh (show LsZ W (w.heap.size+1) (.slice (some ⟨w.heap.size+1,0,none⟩) 8 8) slantZ by rw [eW];have:=H2.out;simpa [slantZ] using this)
 clear eW H1 H2
 rcases hq with rfl|rfl|rfl|rfl|rfl|rfl|rfl
 ·have HE:=Qh (show Z=[] from e)
  clear e hp
  go_enter Tryz.func124,Tryz.ntmps124
  go_wp2_with fail
  refine (hk.out _).mono ?_
  rintro e w' ⟨rfl,rfl⟩
  rw [← HW.out]
  go_wp2
  go_ret
  exact ⟨_,rfl,by rw [HE.out];exact OwnZ.nil _ _,HK.out⟩
 ·have hk1:(.cells #[.int .i64 1,.int .i64 m,.int .i64 (-1),.int .i64 m] 3:Obj)=.cells (zl [1,m,-1,m]).toArray 3:=rfl
  have KK1:=(Kept.refl W).alloc (.cells (zl [1,m,-1,m]).toArray 3)
  clear hk1
  have HE:=Qh (show Z=[1,m,-1,m] from e)
  clear e hp
  go_enter Tryz.func124,Tryz.ntmps124
  go_wp2_with fail
  refine (hk.out _).mono ?_
  rintro e w' ⟨rfl,rfl⟩
  rw [← HW.out]
  go_wp2_with (at_builtin;refine wpList_append_z rfl _ _ rfl w.heap.size W.heap.size _ _ [] [1,m,-1,m] rfl rfl (OwnZ.nil _ _) (LsZ.lit _ [1,m,-1,m] (by simp)) ?c1 ?d1 ?_)
  case c1=>simp
  case d1=>(try simp);have:=HK.out.size;omega
  intro v1 w1 hown1 hg1
  have K1:=(OwnZ.nil _ W.heap.size).grown (a:=W) KK1 (Nat.le_refl _) hg1
  replace hown1:OwnZ w1 w.heap.size v1 [1,m,-1,m]:=hown1
  obtain ⟨a1,cap1,rfl⟩:=hown1.slice
  have HO1:=Qh hown1
  have HK1:=Qh K1
  clear hown1 hg1 K1
  go_wp2
  go_ret
  exact ⟨_,rfl,by rw [HE.out];exact HO1.out,HK.out.trans HK1.out⟩
 ·have KK1:=(Kept.refl W).alloc (.cells (zl [1,2,2,1,2,-1,1,-2]).toArray 3)
  have HE:=Qh (show Z=[1,2,2,1,2,-1,1,-2,-1,-2,-2,-1,-2,1,-1,2] from e)
  clear e hp
  go_enter Tryz.func124,Tryz.ntmps124
  go_wp2_with fail
  refine (hk.out _).mono ?_
  rintro e w' ⟨rfl,rfl⟩
  rw [← HW.out]
  go_wp2_with (at_builtin;refine wpList_append_z rfl _ _ rfl w.heap.size W.heap.size _ _ [] [1,2,2,1,2,-1,1,-2] rfl rfl (OwnZ.nil _ _) (LsZ.lit _ [1,2,2,1,2,-1,1,-2] (by simp)) ?c1 ?d1 ?_)
  case c1=>decide
  case d1=>(try simp);have:=HK.out.size;omega
  intro v1 w1 hown1 hg1
  have K1:=(OwnZ.nil _ W.heap.size).grown (a:=W) KK1 (Nat.le_refl _) hg1
  replace hown1:OwnZ w1 w.heap.size v1 [1,2,2,1,2,-1,1,-2]:=hown1
  obtain ⟨a1,cap1,rfl⟩:=hown1.slice
  have HO1:=Qh hown1
  have HK1:=Qh K1
  clear hown1 hg1 K1
  have HA1:=Qh (HO1.out.kept ((Kept.refl _).alloc (.cells (zl [-1,-2,-2,-1,-2,1,-1,2]).toArray 3)))
  have KK2:=HK1.out.alloc (.cells (zl [-1,-2,-2,-1,-2,1,-1,2]).toArray 3)
  go_wp2_with (at_builtin;refine wpList_append_z rfl _ _ rfl w.heap.size w1.heap.size _ _ [1,2,2,1,2,-1,1,-2] [-1,-2,-2,-1,-2,1,-1,2] rfl rfl HA1.out (LsZ.lit _ [-1,-2,-2,-1,-2,1,-1,2] (by simp)) ?c2 ?d2 ?_)
  case c2=>decide
  case d2=>(try simp);have:=HK.out.size;have:=HK1.out.size;omega
  intro v2 w2 hown2 hg2
  have K2:=HA1.out.grown (a:=w) (HK.out.trans KK2) (Nat.le_refl _) hg2
  obtain ⟨a2,cap2,rfl⟩:=hown2.slice
  have HO2:=Qh hown2
  have HK2:=Qh K2
  clear hown2 hg2 K2
  go_wp2
  go_ret
  exact ⟨_,rfl,by rw [HE.out];exact HO2.out,HK2.out⟩
 ·have KK1:=Kept.refl W
  have HE:=Qh (show Z=slantZ from e)
  clear e hp
  go_enter Tryz.func124,Tryz.ntmps124
  go_wp2_with fail
  refine (hk.out _).mono ?_
  rintro e w' ⟨rfl,rfl⟩
  rw [← HW.out]
  go_wp2_with (at_builtin;refine wpList_append_z rfl _ _ rfl w.heap.size (w.heap.size+1) _ _ [] slantZ rfl rfl (OwnZ.nil _ _) HB.out ?c1 ?d1 ?_)
  case c1=>decide
  case d1=>(try simp);have:=HK.out.size;omega
  intro v1 w1 hown1 hg1
  have K1:=(OwnZ.nil _ W.heap.size).grown (a:=W) KK1 (Nat.le_refl _) hg1
  replace hown1:OwnZ w1 w.heap.size v1 slantZ:=hown1
  obtain ⟨a1,cap1,rfl⟩:=hown1.slice
  have HO1:=Qh hown1
  have HK1:=Qh K1
  clear hown1 hg1 K1
  go_wp2
  go_ret
  exact ⟨_,rfl,by rw [HE.out];exact HO1.out,HK.out.trans HK1.out⟩
 ·have KK1:=Kept.refl W
  have HE:=Qh (show Z=straightZ from e)
  clear e hp
  go_enter Tryz.func124,Tryz.ntmps124
  go_wp2_with fail
  refine (hk.out _).mono ?_
  rintro e w' ⟨rfl,rfl⟩
  rw [← HW.out]
  go_wp2_with (at_builtin;refine wpList_append_z rfl _ _ rfl w.heap.size w.heap.size _ _ [] straightZ rfl rfl (OwnZ.nil _ _) HA.out ?c1 ?d1 ?_)
  case c1=>decide
  case d1=>(try simp);have:=HK.out.size;omega
  intro v1 w1 hown1 hg1
  have K1:=(OwnZ.nil _ W.heap.size).grown (a:=W) KK1 (Nat.le_refl _) hg1
  replace hown1:OwnZ w1 w.heap.size v1 straightZ:=hown1
  obtain ⟨a1,cap1,rfl⟩:=hown1.slice
  have HO1:=Qh hown1
  have HK1:=Qh K1
  clear hown1 hg1 K1
  go_wp2
  go_ret
  exact ⟨_,rfl,by rw [HE.out];exact HO1.out,HK.out.trans HK1.out⟩
 ·have KK1:=Kept.refl W
  have HE:=Qh (show Z=straightZ++slantZ from e)
  clear e hp
  go_enter Tryz.func124,Tryz.ntmps124
  go_wp2_with fail
  refine (hk.out _).mono ?_
  rintro e w' ⟨rfl,rfl⟩
  rw [← HW.out]
  go_wp2_with (at_builtin;refine wpList_append_z rfl _ _ rfl w.heap.size w.heap.size _ _ [] straightZ rfl rfl (OwnZ.nil _ _) HA.out ?c1 ?d1 ?_)
  case c1=>decide
  case d1=>(try simp);have:=HK.out.size;omega
  intro v1 w1 hown1 hg1
  have K1:=(OwnZ.nil _ W.heap.size).grown (a:=W) KK1 (Nat.le_refl _) hg1
  replace hown1:OwnZ w1 w.heap.size v1 straightZ:=hown1
  obtain ⟨a1,cap1,rfl⟩:=hown1.slice
  have HO1:=Qh hown1
  have HK1:=Qh K1
  clear hown1 hg1 K1
  have HB1:=Qh (HB.out.kept HK1.out)
  go_wp2_with (at_builtin;refine wpList_append_z rfl _ _ rfl w.heap.size (w.heap.size+1) _ _ straightZ slantZ rfl rfl HO1.out HB1.out ?c2 ?d2 ?_)
  case c2=>decide
  case d2=>have:=HK.out.size;have:=HK1.out.size;omega
  intro v2 w2 hown2 hg2
  have K2:=HO1.out.grown (a:=w) (HK.out.trans HK1.out) (Nat.le_refl _) hg2
  obtain ⟨a2,cap2,rfl⟩:=hown2.slice
  have HO2:=Qh hown2
  have HK2:=Qh K2
  clear hown2 hg2 K2
  go_wp2
  go_ret
  exact ⟨_,rfl,by rw [HE.out];exact HO2.out,HK2.out⟩
 ·have KK1:=Kept.refl W
  have HE:=Qh (show Z=straightZ++slantZ from e)
  clear e hp
  go_enter Tryz.func124,Tryz.ntmps124
  go_wp2_with fail
  refine (hk.out _).mono ?_
  rintro e w' ⟨rfl,rfl⟩
  rw [← HW.out]
  go_wp2_with (at_builtin;refine wpList_append_z rfl _ _ rfl w.heap.size w.heap.size _ _ [] straightZ rfl rfl (OwnZ.nil _ _) HA.out ?c1 ?d1 ?_)
  case c1=>decide
  case d1=>(try simp);have:=HK.out.size;omega
  intro v1 w1 hown1 hg1
  have K1:=(OwnZ.nil _ W.heap.size).grown (a:=W) KK1 (Nat.le_refl _) hg1
  replace hown1:OwnZ w1 w.heap.size v1 straightZ:=hown1
  obtain ⟨a1,cap1,rfl⟩:=hown1.slice
  have HO1:=Qh hown1
  have HK1:=Qh K1
  clear hown1 hg1 K1
  have HB1:=Qh (HB.out.kept HK1.out)
  go_wp2_with (at_builtin;refine wpList_append_z rfl _ _ rfl w.heap.size (w.heap.size+1) _ _ straightZ slantZ rfl rfl HO1.out HB1.out ?c2 ?d2 ?_)
  case c2=>decide
  case d2=>have:=HK.out.size;have:=HK1.out.size;omega
  intro v2 w2 hown2 hg2
  have K2:=HO1.out.grown (a:=w) (HK.out.trans HK1.out) (Nat.le_refl _) hg2
  obtain ⟨a2,cap2,rfl⟩:=hown2.slice
  have HO2:=Qh hown2
  have HK2:=Qh K2
  clear hown2 hg2 K2
  go_wp2
  go_ret
  exact ⟨_,rfl,by rw [HE.out];exact HO2.out,HK2.out⟩
theorem ofR_snoc (m s:Int) (P:List (Int × Int)) (p:Int × Int):ofR m s (P++[p])=ofR m s P++oneL (cutL m (rayL s p.1 p.2)):=by
 unfold ofR;simp
theorem ofR_len (m s:Int):∀ P:List (Int × Int),(ofR m s P).length≤P.length
 | []=>Nat.le_refl _
 | p::P=>by
  have:=ofR_len m s P
  unfold ofR at this ⊢
  rw [List.flatMap_cons,List.length_append,List.length_cons]
  have h1:(oneL (cutL m (rayL s p.1 p.2))).length≤1:=by unfold oneL;split <;> simp
  omega
theorem take_snoc_at {α:Type} (P:List α) (j:Nat) (p:α) (h:P[j]?=some p):P.take (j+1)=P.take j++[p]:=by
 obtain ⟨hj,e⟩:=List.getElem?_eq_some_iff.1 h
 rw [List.take_succ_eq_append_getElem hj,e]
theorem rray_low (s f r:Int) (w W:World) (k:Kept W w) :
  Calls Tryz.prog 125 #[.int .i64 s,.int .i64 f,.int .i64 r] w fun e w'=>∃ v,e=.returned v∧OwnZ w' w.heap.size v (rayL s f r)∧Kept w w':=rray_is s f r w
theorem cut_yes {m:Int} {l:List Int} (h:slidesB m=true):cutL m l=l:=by unfold cutL;rw [h];simp
theorem cut_no {m:Int} {l:List Int} (h:slidesB m=false):cutL m l=l.take 1:=by unfold cutL;rw [h];simp
theorem cut_short {m:Int} {l:List Int} (h:l.length≤1):cutL m l=l:=by
 unfold cutL
 split
 ·rfl
 ·exact List.take_of_length_le h
set_option maxRecDepth 100000 in
set_option maxHeartbeats 2000000 in
theorem rof_is (m s:Int) (w:World):Calls Tryz.prog 103 #[.int .i64 m,.int .i64 s] w (NewR 74 w (ofL m s)):=by
 obtain ⟨i0,hi0,hz0,hz1,hz2⟩:=partsZ infoRow
 have HI:=Qh hi0
 have HZ:=Qh hz0
 have HZ1:=Qh hz1
 have HZ2:=Qh hz2
 have HEnd:=Qh (ofR_is m s)
 have hlenP:=stepsL_len m
 have HFL:=Qh (stZ_len m)
 have HAt:=Qh (show ∀ (j:Nat) (p:Int × Int),(stepsL m)[j]?=some p→(stZ m)[2*j]?=some p.1∧(stZ m)[2*j+1]?=some p.2 from flat_at (stepsL m))
 clear hi0 hz0 hz1 hz2
 go_enter Tryz.func103,Tryz.ntmps103
 go_wp2_with fail
 refine (rsteps_is m _).mono ?_
 rintro e W ⟨v6,rfl,hown6,k6⟩
 obtain ⟨a6,c6,rfl⟩:=hown6.slice
 obtain ⟨g6,hl6,_⟩:=hown6.ls
 have HL6:=Qh hl6
 have HK6:=Qh k6
 clear hown6 hl6 k6
 generalize hn6:(stZ m).length=n6 at *
 have HN6:=Qh hn6
 clear hn6
 go_wp2
 go_loopw [5,7] (fun t5 t7 wr=>∃ i j:Nat,i=2*j∧j≤(stepsL m).length∧t7=.int .i64 i∧RowsZ 74 wr W.heap.size t5 (ofR m s ((stepsL m).take j))∧Kept W wr) (fun _ t7 _=>n6-(intOf t7).toNat)
 case atStart=>exact ⟨0,0,rfl,by omega,rfl,RowsZ.nil _ _ _,Kept.refl _⟩
 case round =>
  obtain ⟨i,j,hij,hj,rfl,hR,hK⟩:=hrel
  obtain ⟨a5,c5,rfl⟩:=hR.slice
  have HIJ:=Qh hij
  have HR:=Qh hR
  have HK:=Qh hK
  have hNN:n6=2*(stepsL m).length:=HFL.out
  by_cases hlt:i<n6
  ·have hlt':(i:Int)<(n6:Int):=by omega
   have hlt1:(i:Int)+1<(n6:Int):=by omega
   have hsm:(i:Int)≤100:=by omega
   obtain ⟨p,hp⟩:∃ p,(stepsL m)[j]?=some p:=⟨_,List.getElem?_eq_getElem (by omega)⟩
   obtain ⟨q1,q2⟩:=HAt.out j p hp
   rw [← hij] at q1 q2
   obtain ⟨off,c6',e6,hk1,hk2,hcell⟩:=HL6.out.full (by have:=HN6.out;omega)
   injection e6 with e61 e62 e63
   subst e61 e63
   have d1:=kept_cell HK.out (hcell i _ q1)
   have d2:=kept_cell HK.out (hcell (i+1) _ q2)
   have hLj:=Qh (ofR_len m s ((stepsL m).take j))
   have HTk:=Qh (show ofR m s ((stepsL m).take (j+1))=ofR m s ((stepsL m).take j)++oneL (cutL m (rayL s p.1 p.2)) by rw [take_snoc_at _ j p hp,ofR_snoc])
   have hj1:j+1≤(stepsL m).length:=by omega
   have hLj2:(ofR m s ((stepsL m).take j)).length≤1000:=by have:=hLj.out;rw [List.length_take] at this;omega
   obtain ⟨pf,pr⟩:=p
   dsimp only at *
   clear hij hR hK hp q1 q2 hcell hLj hk1 hk2 e62 hNN
   generalize (stepsL m).take j=PJ at *
   generalize hRL:rayL s pf pr=RL at *
   have HRay:=Qh (rray_low s pf pr)
   rw [hRL] at HRay
   have hrl8:RL.length≤8:=by rw [← hRL];exact rayL_len _ _ _
   clear hRL
   generalize hN5:(ofR m s PJ).length=N5 at *
   have HN5:=Qh hN5
   clear hN5
   have wr1:IntKind.i64.wrap ((i:Int)+1)=(i:Int)+1:=IntWalk.i64_in _ (by omega)
   have tn1:((i:Int)+1).toNat=i+1:=by omega
   have ge1:(0:Int)≤(i:Int)+1:=by omega
   go_wp2
   refine wp_region_held_drew (S:=Kept _) (by kernel_rfl) (Kept.refl _).drew (fun Qj=>?_)
   refine rT 0 17 (.int .i64 s) rfl rfl Qj ?_
   simp only [pA,pN,sZ,sU]
   refine rT 1 18 (.slice (some ⟨g6,off,none⟩) n6 c6) rfl rfl Qj ?_
   simp only [pA,pN,sZ,sU]
   refine rT 2 19 (.int .i64 (i:Int)) rfl rfl Qj ?_
   simp only [pA,pN,sZ,sU]
   refine rT 3 20 (.pointer (some ⟨g6,off+i,none⟩)) rfl rfl Qj ?_
   simp only [pA,pN,sZ,sU]
   refine rC 4 21 (.int .i64 pf) rfl rfl (fun _ h=>kept_cell h (d1)) Qj ?_
   simp only [pA,pN,sZ,sU]
   refine rT 5 22 (.slice (some ⟨g6,off,none⟩) n6 c6) rfl rfl Qj ?_
   simp only [pA,pN,sZ,sU]
   refine rT 6 23 (.int .i64 (i:Int)) rfl rfl Qj ?_
   simp only [pA,pN,sZ,sU]
   refine rT 7 24 (.int .i64 ((i:Int)+1)) rfl rfl Qj ?_
   simp only [pA,pN,sZ,sU]
   refine rT 8 25 (.pointer (some ⟨g6,off+(i+1),none⟩)) rfl rfl Qj ?_
   simp only [pA,pN,sZ,sU]
   refine rC 9 26 (.int .i64 pr) rfl rfl (fun _ h=>kept_cell h (d2)) Qj ?_
   simp only [pA,pN,sZ,sU]
   refine rR 10 rfl (fun K hK=>?_)
   go_simp
   have HK0:=Qh Qj
   refine (HRay.out _ _ Qj).mono ?_
   rintro e w1 ⟨v,rfl,hown,g1⟩
   obtain ⟨a,cap,rfl⟩:=hown.slice
   refine hK.out _ _ (Qj.trans g1) (fun _=>?_)
   replace Qj:=Qj.trans g1
   clear hK K
   have HO:=Qh hown
   have HG1:=Qh g1
   clear hown g1
   refine rT 11 8 (.slice a RL.length cap) rfl rfl Qj ?_
   simp only [pA,pN,sZ,sU]
   refine wpAnyH_done (by kernel_rfl) ?_ _
   have HRX:=Qh (HR.out.kept HK0.out)
   by_cases h1:1<RL.length
   ·have h1':(1:Int)<(RL.length:Int):=by omega
    have h0':(0:Int)<(RL.length:Int):=by omega
    go_wp2_with fail
    refine (rslides_is m _).mono ?_
    cases hsl:slidesB m
    ·have HT1:=HTk.out
     rw [cut_no hsl,show oneL (RL.take 1)=[RL.take 1] by unfold oneL;rw [if_neg (by rw [List.length_take];omega)]] at HT1
     replace HTk:=Qh HT1
     clear HT1 hsl
     rintro e w' ⟨rfl,rfl⟩
     obtain ⟨g8,cap8,cur8,e8,_,_,hnc8,hcm8,_,_⟩:=HO.out.blk (by omega)
     injection e8 with e81 e82 e83
     subst e81 e83
     have hr:∀ w,(Instr.sliceAt 74 (.slice (some ⟨g8,0,none⟩) RL.length cap) none (some (.int .i64 1)) none).run Tryz.prog w=.ok (.slice (some ⟨g8,0,none⟩) 1 cap) w:=run_head g8 0 RL.length cap 1 (by omega)
     have HO8:=Qh (HO.out.take 1 (by omega))
     have hpos8:0<(RL.take 1).length:=by rw [List.length_take];omega
     clear hnc8 hcm8
     go_wp2_with (at_builtin;refine RowsAt.append Tryz.underlying113 HI.out HZ.out HZ1.out HZ2.out rfl (by decide) rfl _ _ rfl W.heap.size _ _ (ofR m s PJ) (RL.take 1) rfl rfl HRX.out HG1.out HO8.out hpos8 ?c1 ?d1 ?_)
     case c1=>have:=HK.out.size;have:=HK0.out.size;omega
     case d1=>rw [HN5.out];omega
     intro v' w4 hR4 hk4
     obtain ⟨a4,c4,rfl⟩:=hR4.slice
     have HR4:=Qh hR4
     have HK4:=Qh (hk4 W ((HK.out.trans HK0.out).trans HG1.out) (Nat.le_refl _))
     clear hR4 hk4
     generalize (ofR m s PJ++[(RL.take 1)]).length=N4 at *
     go_wp2
     go_roundw
     case rel=>exact ⟨i+2,j+1,by have:=HIJ.out;omega,hj1,by go_num,by rw [HTk.out];exact HR4.out,HK4.out⟩
     case measure=>simp [intOf];omega
    ·have HT1:=HTk.out
     rw [cut_yes hsl,show oneL RL=[RL] by unfold oneL;rw [if_neg (by omega)]] at HT1
     replace HTk:=Qh HT1
     clear HT1 hsl
     rintro e w' ⟨rfl,rfl⟩
     have hpos8:0<RL.length:=by omega
     go_wp2_with (at_builtin;refine RowsAt.append Tryz.underlying113 HI.out HZ.out HZ1.out HZ2.out rfl (by decide) rfl _ _ rfl W.heap.size _ _ (ofR m s PJ) RL rfl rfl HRX.out HG1.out HO.out hpos8 ?c2 ?d2 ?_)
     case c2=>have:=HK.out.size;have:=HK0.out.size;omega
     case d2=>rw [HN5.out];omega
     intro v' w4 hR4 hk4
     obtain ⟨a4,c4,rfl⟩:=hR4.slice
     have HR4:=Qh hR4
     have HK4:=Qh (hk4 W ((HK.out.trans HK0.out).trans HG1.out) (Nat.le_refl _))
     clear hR4 hk4
     generalize (ofR m s PJ++[RL]).length=N4 at *
     go_wp2
     go_roundw
     case rel=>exact ⟨i+2,j+1,by have:=HIJ.out;omega,hj1,by go_num,by rw [HTk.out];exact HR4.out,HK4.out⟩
     case measure=>simp [intOf];omega
   ·have h1':¬ (1:Int)<(RL.length:Int):=by omega
    by_cases h0:0<RL.length
    ·have h0':(0:Int)<(RL.length:Int):=by omega
     have HT1:=HTk.out
     rw [cut_short (by omega),show oneL RL=[RL] by unfold oneL;rw [if_neg (by omega)]] at HT1
     replace HTk:=Qh HT1
     clear HT1
     go_wp2_with (at_builtin;refine RowsAt.append Tryz.underlying113 HI.out HZ.out HZ1.out HZ2.out rfl (by decide) rfl _ _ rfl W.heap.size _ _ (ofR m s PJ) RL rfl rfl HRX.out HG1.out HO.out h0 ?c3 ?d3 ?_)
     case c3=>have:=HK.out.size;have:=HK0.out.size;omega
     case d3=>rw [HN5.out];omega
     intro v' w4 hR4 hk4
     obtain ⟨a4,c4,rfl⟩:=hR4.slice
     have HR4:=Qh hR4
     have HK4:=Qh (hk4 W ((HK.out.trans HK0.out).trans HG1.out) (Nat.le_refl _))
     clear hR4 hk4
     generalize (ofR m s PJ++[RL]).length=N4 at *
     go_wp2
     go_roundw
     case rel=>exact ⟨i+2,j+1,by have:=HIJ.out;omega,hj1,by go_num,by rw [HTk.out];exact HR4.out,HK4.out⟩
     case measure=>simp [intOf];omega
    ·have h0':¬ (0:Int)<(RL.length:Int):=by omega
     have HT1:=HTk.out
     rw [cut_short (by omega),show oneL RL=[] by unfold oneL;rw [if_pos (by omega)]] at HT1
     replace HTk:=Qh HT1
     have HR9:=Qh (HRX.out.kept HG1.out)
     have HK9:=Qh ((HK.out.trans HK0.out).trans HG1.out)
     clear HT1
     go_wp2
     go_roundw
     case rel=>exact ⟨i+2,j+1,by have:=HIJ.out;omega,hj1,by go_num,by rw [HTk.out];simpa using HR9.out,HK9.out⟩
     case measure=>simp [intOf];omega
  ·have hlt':¬ (i:Int)<(n6:Int):=by omega
   have HT:=Qh (show ofR m s ((stepsL m).take j)=ofL m s by rw [List.take_of_length_le (by omega)];exact HEnd.out)
   clear hij hR hK hNN
   go_wp2
   go_ret
   exact ⟨_,rfl,by rw [← HT.out];exact HR.out.low HK6.out.size,HK6.out.trans HK.out⟩
theorem RowsZ.read {e:TypeId} {w:World} {base:Nat} {v:Value} {L:List (List Int)} (h:RowsZ e w base v L) (hL:0<L.length) :
  ∃ go cap,v=.slice (some ⟨go,0,none⟩) L.length cap∧L.length≤cap∧cap≤maxLen∧∀ (i:Nat) (l:List Int),L[i]?=some l→∃ u g,w.cell? ⟨go,i,none⟩=some u∧LsZ w g u l∧(0<l.length→base≤g∧g<w.heap.size):=by
 obtain ⟨vs,gs,h⟩:=h
 have hnv:=h.len
 have hng:=h.ngs
 rcases h.own.2 with ⟨ev,h0⟩|⟨go,cap,cur,ev,hb,hh,hnc,hcm,hcs,ht⟩
 ·omega
 ·refine ⟨go,cap,ev,hnc,hcm,fun i l hl=>?_⟩
  obtain ⟨hi,_⟩:=List.getElem?_eq_some_iff.1 hl
  obtain ⟨u,hu⟩:∃ u,vs[i]?=some u:=⟨_,List.getElem?_eq_getElem (by omega)⟩
  obtain ⟨gg,hg⟩:∃ g,gs[i]?=some g:=⟨_,List.getElem?_eq_getElem (by omega)⟩
  obtain ⟨q1,_⟩:=h.each i u gg l hu hg hl
  obtain ⟨g,q2,q3⟩:=q1.ls
  refine ⟨u,g,?_,q2,q3⟩
  rw [cell_of_row w go i cur _ (0,0) hh]
  have h2:(cur.toList.take (L.length*1))[i]?=vs[i]?:=by rw [ht]
  rw [List.getElem?_take,if_pos (by omega)] at h2
  simp only [Array.getElem?_toList] at h2
  rw [h2,hu]
theorem ofL_pos {m s:Int} {l:List Int} (h:l ∈ ofL m s):0<l.length∧l.length≤8:=by
 unfold ofL ofN at h
 obtain ⟨w,_,hw⟩:=List.mem_flatMap.1 h
 unfold oneL at hw
 split at hw
 ·cases hw
 ·simp at hw
  subst hw
  exact ⟨by omega,cutL_len m w s⟩
theorem tell_by (B:List Int) (s side:Int) (h0:0≤s) (h1:s<64):(tellL B s side).length=(byN B s side).length:=by
 have h:=congrArg List.length (sort_outW B s side h0 h1)
 rw [List.length_mergeSort] at h
 simpa [outW,zn] using h
theorem rside_any (m:Int) (w:World):Calls Tryz.prog 76 #[.int .i64 m] w fun e w'=>e=.returned (.int .i64 (sideI m))∧w=w':=by
 have hk:=Qh (rknd_any m)
 unfold sideI
 by_cases h:manB m=true
 ·have hm:=(manB_iff m).1 h
  have h0:(knd m == 0)=false:=by
   unfold knd
   rw [if_neg (by omega)]
   split <;> simp <;> omega
  rw [if_pos h]
  generalize knd m=q at *
  by_cases hp:0<m
  ·have hp':¬ m<0:=by omega
   rw [if_pos hp]
   clear h hm
   go_enter Tryz.func76,Tryz.ntmps76
   go_wp2_with fail
   refine (hk.out _).mono ?_
   rintro e w' ⟨rfl,rfl⟩
   go_wp2
   go_ret
   exact ⟨rfl,rfl⟩
  ·have hp':m<0:=by omega
   rw [if_neg hp]
   clear h hm
   go_enter Tryz.func76,Tryz.ntmps76
   go_wp2_with fail
   refine (hk.out _).mono ?_
   rintro e w' ⟨rfl,rfl⟩
   go_wp2
   go_ret
   exact ⟨rfl,rfl⟩
 ·have hm:=(manB_not m).1 (by simpa using h)
  rw [if_neg h]
  rw [knd_none hm] at hk
  clear h hm
  go_enter Tryz.func76,Tryz.ntmps76
  go_wp2_with fail
  refine (hk.out _).mono ?_
  rintro e w' ⟨rfl,rfl⟩
  go_wp2
  go_ret
  exact ⟨rfl,rfl⟩
theorem ofL_mem {m s:Int} {l:List Int} (h:l ∈ ofL m s) {x:Int} (hx:x ∈ l):0≤x∧x<64:=by
 unfold ofL ofN at h
 obtain ⟨way,_,hl⟩:=List.mem_flatMap.1 h
 unfold oneL at hl
 split at hl
 ·cases hl
 ·rw [List.mem_singleton] at hl
  subst hl
  unfold cutL at hx
  split at hx
  ·exact alongL_mem hx
  ·exact alongL_mem (List.mem_of_mem_take hx)
theorem hit_found {B:List Int} {s to:Int} {i k:Nat} {l:List Int} (hl:(ofL (bAt B s) s)[i]?=some l) (hk:l[k]?=some to) (hc:∀ j,j<k→∀ y,l[j]?=some y→bAt B y=0):hitB B s to=true:=by
 rw [hitB_iff]
 unfold strikeL
 rw [List.mem_flatMap]
 exact ⟨l,List.mem_of_getElem? hl,(mem_upto B to l).2 ⟨k,hk,hc⟩⟩
theorem hit_none {B:List Int} {s to:Int} (h:∀ (i:Nat) (l:List Int),(ofL (bAt B s) s)[i]?=some l→to ∉ uptoL B l):hitB B s to=false:=by
 rw [Bool.eq_false_iff]
 intro hc
 rw [hitB_iff] at hc
 unfold strikeL at hc
 obtain ⟨l,hl,hx⟩:=List.mem_flatMap.1 hc
 obtain ⟨i,hi,e⟩:=List.mem_iff_getElem.1 hl
 exact h i l (by rw [List.getElem?_eq_getElem hi,e]) hx
theorem upto_end {B:List Int} {to:Int} {l:List Int} (h:∀ j,j<l.length→l[j]?≠some to):to ∉ uptoL B l:=by
 rw [mem_upto]
 rintro ⟨i,hi,_⟩
 obtain ⟨hlt,_⟩:=List.getElem?_eq_some_iff.1 hi
 exact h i hlt hi
theorem upto_stop {B:List Int} {to y:Int} {l:List Int} {k:Nat} (h:∀ j,j<k→l[j]?≠some to) (hy:l[k]?=some y) (hne:y≠to) (hb:bAt B y≠0):to ∉ uptoL B l:=by
 rw [mem_upto]
 rintro ⟨i,hi,hc⟩
 by_cases h1:i<k
 ·exact h i h1 hi
 ·by_cases h2:i=k
  ·subst h2;rw [hy] at hi;exact hne (Option.some.inj hi)
  ·exact hb (hc k (by omega) y hy)
set_option maxRecDepth 100000 in
set_option maxHeartbeats 2000000 in
theorem hits_is (B:List Int) (hB:Brd B) (s:Nat) (hs:s<64) (to:Int) (w:World) :
  Calls Tryz.prog 77 #[.agg (cl B).toArray,.int .i64 (s:Int),.int .i64 to] w fun e w'=>e=.returned (.bool (hitB B (s:Int) to))∧Kept w w':=by
 have hbl:=heap_alloc_new w (.cells (cl B).toArray 24)
 have hc0:=board_cell hB hbl s hs
 obtain ⟨hb1,hb2⟩:=hB.2 s hs
 have HB:=Qh hB
 have HBl:=Qh hbl
 have HF:=Qh (fun (i k:Nat) (l:List Int)=>hit_found (B:=B) (s:=(s:Int)) (to:=to) (i:=i) (k:=k) (l:=l))
 have HN:=Qh (hit_none (B:=B) (s:=(s:Int)) (to:=to))
 have HMem:=Qh (fun (l:List Int) (h:l ∈ ofL (bAt B (s:Int)) (s:Int)) (x:Int) (hx:x ∈ l)=>ofL_mem h hx)
 have hx:bAt B (s:Int)=B.getD s 0:=rfl
 rw [hx] at HF HN HMem
 have hOf:=Qh (rof_is (B.getD s 0) (s:Int))
 generalize hitB B (s:Int) to=hb at *
 generalize B.getD s 0=x at *
 clear hB hbl hx
 generalize ofL x (s:Int)=L at *
 go_enter Tryz.func77,Tryz.ntmps77
 go_wp2_with fail
 refine (hOf.out _).mono ?_
 rintro e W ⟨v,rfl,hR,hK⟩
 have HK:=Qh (((Kept.refl w).alloc _).trans hK)
 have HBW:=Qh (hK.heap HBl.out)
 clear hK
 by_cases hL:0<L.length
 ·obtain ⟨g7,c7,rfl,hn1,hn2,hrow⟩:=hR.read hL
  unfold maxLen at hn2
  have HRow:=Qh hrow
  generalize hN:L.length=N at *
  have HNN:=Qh hN
  clear hR hrow hN hc0
  go_wp2
  go_loop [8] (fun t8=>∃ i:Nat,i≤N∧t8=.int .i64 i∧∀ j l,j<i→L[j]?=some l→to ∉ uptoL B l) (fun t8=>N-(intOf t8).toNat)
  case atStart=>exact ⟨0,by omega,rfl,fun j l hj=>by omega⟩
  case round =>
   obtain ⟨i,hi,rfl,hno⟩:=hrel
   have HNo:=Qh hno
   clear hno
   by_cases hlt:i<N
   ·have hlt':(i:Int)<(N:Int):=by omega
    obtain ⟨l,hl⟩:∃ l,L[i]?=some l:=⟨_,List.getElem?_eq_getElem (by have:=HNN.out;omega)⟩
    obtain ⟨u,g,hcu,hls,_⟩:=HRow.out i l hl
    have HMl:=Qh (HMem.out l (List.mem_of_getElem? hl))
    have Hl:=Qh hl
    clear hl
    obtain ⟨au,cu,rfl⟩:=hls.slice
    have HLs:=Qh hls
    clear hls
    generalize hM:l.length=M at *
    have HMM:=Qh hM
    clear hM
    go_wp2
    go_loop [9] (fun t9=>∃ k:Nat,k≤M∧t9=.int .i64 k∧∀ j,j<k→l[j]?≠some to∧∀ y,l[j]?=some y→bAt B y=0) (fun t9=>M-(intOf t9).toNat)
    case atStart=>exact ⟨0,by omega,rfl,fun j hj=>by omega⟩
    case round =>
     obtain ⟨k,hk,rfl,hin⟩:=hrel
     have HIn:=Qh hin
     clear hin
     by_cases hkl:k<M
     ·have hkl':(k:Int)<(M:Int):=by omega
      obtain ⟨y,hy⟩:∃ y,l[k]?=some y:=⟨_,List.getElem?_eq_getElem (by have:=HMM.out;omega)⟩
      obtain ⟨off,cu',e6,hk1,hk2,hcell⟩:=HLs.out.full (by have:=HMM.out;omega)
      injection e6 with e61 e62 e63
      have HE62:=Qh e62
      subst e61 e63
      clear e62
      have d1:=hcell k _ hy
      obtain ⟨y0,y1⟩:=HMl.out y (List.mem_of_getElem? hy)
      obtain ⟨yn,rfl⟩:=Int.eq_ofNat_of_zero_le y0
      have hyn:yn<64:=by omega
      have d2:=board_cell HB.out HBW.out yn hyn
      have HY:=Qh hy
      have hbm:M≤9223372036854775807:=by unfold maxLen at hk2;have:=HMM.out;omega
      clear hy hcell hk1 hk2
      by_cases hto:(yn:Int)=to
      ·have b0:((yn:Int) == to)=true:=by simpa using hto
       have HE:=Qh (HF.out i k l Hl.out (by rw [HY.out,hto]) (fun j hj y hy=>(HIn.out j hj).2 y hy))
       clear hto d2
       go_wp2
       go_ret
       exact ⟨by rw [HE.out];rfl,HK.out⟩
      ·have b0:((yn:Int) == to)=false:=by simpa using hto
       have HTo:=Qh hto
       clear hto
       obtain ⟨z,hz⟩:∃ z,B.getD yn 0=z:=⟨_,rfl⟩
       rw [hz] at d2
       by_cases h0:z=0
       ·have b1:(z != 0)=false:=by simpa using h0
        have HZ:=Qh (show bAt B (yn:Int)=0 by show B.getD yn 0=0;rw [hz];exact h0)
        clear h0 hz
        go_wp2
        go_round
        case rel=>exact ⟨k+1,by omega,by go_num,fun j hj=>by
         by_cases hji:j<k
         ·exact HIn.out j hji
         ·obtain rfl:j=k:=by omega
          rw [HY.out]
          exact ⟨fun e=>HTo.out (Option.some.inj e),fun y e=>by rw [← Option.some.inj e];exact HZ.out⟩⟩
        case measure=>simp [intOf];omega
       ·have b1:(z != 0)=true:=by simpa using h0
        have HSt:=Qh (upto_stop (fun j hj=>(HIn.out j hj).1) HY.out HTo.out (show bAt B (yn:Int)≠0 by show B.getD yn 0≠0;rw [hz];exact h0))
        clear h0 hz
        go_wp2
        go_round
        case rel=>exact ⟨i+1,by omega,by go_num,fun j l' hj hl'=>by
         by_cases hji:j<i
         ·exact HNo.out j l' hji hl'
         ·obtain rfl:j=i:=by omega
          rw [Hl.out] at hl'
          rw [← Option.some.inj hl']
          exact HSt.out⟩
        case measure=>simp [intOf];omega
     ·have hkl':¬ (k:Int)<(M:Int):=by omega
      have HSt:=Qh (upto_end (B:=B) (to:=to) (l:=l) (fun j hj=>(HIn.out j (by have:=HMM.out;omega)).1))
      go_wp2
      go_round
      case rel=>exact ⟨i+1,by omega,by go_num,fun j l' hj hl'=>by
       by_cases hji:j<i
       ·exact HNo.out j l' hji hl'
       ·obtain rfl:j=i:=by omega
        rw [Hl.out] at hl'
        rw [← Option.some.inj hl']
        exact HSt.out⟩
      case measure=>simp [intOf];omega
   ·have hlt':¬ (i:Int)<(N:Int):=by omega
    have HE:=Qh (HN.out (fun j l hl=>HNo.out j l (by obtain ⟨h,_⟩:=List.getElem?_eq_some_iff.1 hl;have:=HNN.out;omega) hl))
    go_wp2
    go_ret
    exact ⟨by rw [HE.out];rfl,HK.out⟩
 ·have h0:L=[]:=List.eq_nil_of_length_eq_zero (by omega)
  subst h0
  obtain ⟨a7,c7,rfl⟩:=hR.slice
  have HE:=Qh (HN.out (fun j l hl=>by simp at hl))
  clear hR hc0
  go_wp2
  go_loop [8] (fun t8=>t8=.int .i64 0) (fun _=>0)
  case atStart=>exact rfl
  case round =>
   obtain rfl:=hrel
   go_wp2
   go_ret
   exact ⟨by rw [HE.out];rfl,HK.out⟩
theorem zn_yes {p:Nat→Bool} {k:Nat} (h:p k=true):zn (sel p (k+1))=zn (sel p k)++[(k:Int)]:=by unfold zn;rw [sel_yes h];simp
theorem zn_no {p:Nat→Bool} {k:Nat} (h:p k=false):zn (sel p (k+1))=zn (sel p k):=by rw [sel_no h]
theorem zn_len (p:Nat→Bool) (k:Nat):(zn (sel p k)).length≤k:=by unfold zn;rw [List.length_map];exact sel_le p k
set_option maxRecDepth 100000 in
set_option maxHeartbeats 2000000 in
theorem rby_is (B:List Int) (hB:Brd B) (s side:Int) (w:World) :
  Calls Tryz.prog 49 #[.agg (cl B).toArray,.int .i64 s,.int .i64 side] w (NewZ w (if okS s && rightB B then zn (byN B s side) else [])):=by
 have hz:=Qh (size_cl hB.1)
 have hbl:=Qh (heap_alloc_new w (.cells (cl B).toArray 24))
 have HB:=Qh hB
 have hRt:=Qh (rright_is B hB)
 clear hB
 by_cases hs:s<0∨64≤s
 ·rw [okS_no hs,Bool.false_and,if_neg (by simp)]
  rcases hs with hs|hs
  ·go_enter Tryz.func49,Tryz.ntmps49
   go_wp2
   go_ret
   exact ⟨_,rfl,OwnZ.nil _ _,(Kept.refl _).alloc _⟩
  ·have hs':¬ s<0:=by omega
   have hs2:63<s:=by omega
   go_enter Tryz.func49,Tryz.ntmps49
   go_wp2
   go_ret
   exact ⟨_,rfl,OwnZ.nil _ _,(Kept.refl _).alloc _⟩
 ·have hs':¬ s<0:=by omega
  have hs2:¬ 63<s:=by omega
  rw [okS_yes (by omega) (by omega),Bool.true_and]
  cases hr:rightB B
  ·rw [hr] at hRt
   rw [if_neg (by simp)]
   clear hr hs
   go_enter Tryz.func49,Tryz.ntmps49
   go_wp2_with (refine wpList_load_w (by rfl) _ rfl _ rfl _ (hbl.out) hz.out ?_)
   refine (hRt.out _).mono ?_
   rintro e w1 ⟨rfl,k1⟩
   have HK:=Qh (((Kept.refl w).alloc _).trans k1)
   clear k1
   go_wp2
   go_ret
   exact ⟨_,rfl,OwnZ.nil _ _,HK.out⟩
  ·rw [hr] at hRt
   rw [if_pos rfl]
   have HHit:=Qh (fun (k:Nat) (hk:k<64)=>hits_is B HB.out k hk s)
   obtain ⟨p,hp⟩:∃ p:Nat→Bool,p=fun (k:Nat)=>(sideI (B.getD k 0) == side) && hitB B (k:Int) s:=⟨_,rfl⟩
   have HM:Hid (zn (byN B s side)=zn (sel p 64)):=by rw [hp];rfl
   have HP:=Qh (fun k=>congrFun hp k)
   clear hr hs hp
   go_enter Tryz.func49,Tryz.ntmps49
   go_wp2_with (refine wpList_load_w (by rfl) _ rfl _ rfl _ (hbl.out) hz.out ?_)
   refine (hRt.out _).mono ?_
   rintro e W ⟨rfl,k1⟩
   have HBW:=Qh (k1.heap hbl.out)
   have HKW:=Qh (((Kept.refl w).alloc _).trans k1)
   clear k1
   go_wp2
   go_loopw [7,8] (fun t7 t8 wr=>∃ k:Nat,k≤64∧t8=.int .i64 k∧OwnZ wr W.heap.size t7 (zn (sel p k))∧Kept W wr) (fun _ t8 _=>64-(intOf t8).toNat)
   case atStart=>exact ⟨0,by omega,rfl,OwnZ.nil _ _,Kept.refl _⟩
   case round =>
    obtain ⟨k,hk,rfl,hown,hK⟩:=hrel
    obtain ⟨a,cap,rfl⟩:=hown.slice
    have hlen:=zn_len p k
    have HO:=Qh hown
    have HK:=Qh hK
    clear hown hK
    by_cases hlt:k<64
    ·have hlt':(k:Int)<64:=by omega
     have hc0:=board_cell HB.out (HK.out.heap HBW.out) k hlt
     obtain ⟨hb1,hb2⟩:=HB.out.2 k hlt
     have hh:=HHit.out k hlt
     have hpk:=HP.out k
     generalize hitB B (k:Int) s=hb at *
     generalize B.getD k 0=x at *
     cases hsd:(sideI x == side)
     ·rw [hsd,Bool.false_and] at hpk
      have HE:=Qh (zn_no hpk)
      clear hh hpk
      generalize (zn (sel p k)).length=N at *
      go_wp2_with fail
      refine (rside_any x _).mono ?_
      rintro e w' ⟨rfl,rfl⟩
      go_wp2
      go_roundw
      case rel=>exact ⟨k+1,by omega,by go_num,by rw [HE.out];exact HO.out,HK.out⟩
      case measure=>simp [intOf];omega
     ·rw [hsd,Bool.true_and] at hpk
      have Hh:=Qh hh
      have hsz0:=HBW.out
      clear hh
      cases hb
      ·have HE:=Qh (zn_no hpk)
       clear hpk
       generalize (zn (sel p k)).length=N at *
       go_wp2_with fail
       refine (rside_any x _).mono ?_
       rintro e w' ⟨rfl,rfl⟩
       go_wp2_with (refine wpList_load_w (by rfl) _ rfl _ rfl _ (HK.out.heap HBW.out) hz.out ?_)
       refine (Hh.out _).mono ?_
       rintro e w2 ⟨rfl,k2⟩
       have HO2:=Qh (HO.out.kept k2)
       have HK2:=Qh (HK.out.trans k2)
       clear k2 hc0
       go_wp2
       go_roundw
       case rel=>exact ⟨k+1,by omega,by go_num,by rw [HE.out];exact HO2.out,HK2.out⟩
       case measure=>simp [intOf];omega
      ·have HE:=Qh (zn_yes hpk)
       clear hpk
       generalize hN:(zn (sel p k)).length=N at *
       go_wp2_with fail
       refine (rside_any x _).mono ?_
       rintro e w' ⟨rfl,rfl⟩
       go_wp2_with (refine wpList_load_w (by rfl) _ rfl _ rfl _ (HK.out.heap HBW.out) hz.out ?_)
       refine (Hh.out _).mono ?_
       rintro e w2 ⟨rfl,k2⟩
       have HK2:=Qh (HK.out.trans k2)
       have HA:=Qh (HK2.out.alloc (.cells #[.int .i64 (k:Int)] 3))
       have HOA:=Qh (HO.out.kept (k2.alloc (.cells #[.int .i64 (k:Int)] 3)))
       clear k2 hc0
       go_wp2_with (at_builtin;refine wpList_append_z rfl _ _ rfl W.heap.size w2.heap.size _ _ (zn (sel p k)) [(k:Int)] rfl rfl HOA.out (LsZ.lit _ [(k:Int)] (by simp)) ?c1 ?c2 ?_)
       case c1=>simp;omega
       case c2=>exact HA.out.size
       intro v' w3 hown' hg
       have HK3:=Qh (HOA.out.grown HA.out (Nat.le_refl _) hg)
       obtain ⟨a',cap',rfl⟩:=hown'.slice
       have HO3:=Qh hown'
       clear hown' hg hN
       generalize (zn (sel p k)++[(k:Int)]).length=N2 at *
       go_wp2
       go_roundw
       case rel=>exact ⟨k+1,by omega,by go_num,by rw [HE.out];exact HO3.out,HK3.out⟩
       case measure=>simp [intOf];omega
    ·have hlt':¬ (k:Int)<64:=by omega
     have HE:=Qh (show zn (byN B s side)=zn (sel p k) by rw [HM.out,show 64=k by omega])
     generalize (zn (sel p k)).length=N at *
     go_wp2
     go_ret
     exact ⟨_,rfl,by rw [HE.out];exact HO.out.low HKW.out.size,HKW.out.trans HK.out⟩
theorem kingI_bd (B:List Int) (side:Int):-1≤kingI B side∧kingI B side<64:=by
 unfold kingI
 split
 ·exact headI_bd B 6
 ·split
  ·exact headI_bd B (-6)
  ·omega
theorem headI_none {l:List Nat} (h:l.length=0):headI l=-1:=by rw [List.eq_nil_of_length_eq_zero h];rfl
theorem headI_some {l:List Nat} (h:0<l.length):headI l=(l.getD 0 0:Nat):=by
 cases l with
 | nil=>simp at h
 | cons a l=>rfl
set_option maxRecDepth 100000 in
set_option maxHeartbeats 1000000 in
theorem rking_is (B:List Int) (hB:Brd B) (side:Int) (w:World) :
  Calls Tryz.prog 23 #[.agg (cl B).toArray,.int .i64 side] w fun e w'=>e=.returned (.int .i64 (kingI B side))∧Kept w w':=by
 have hz:=Qh (size_cl hB.1)
 have hbl:=Qh (heap_alloc_new w (.cells (cl B).toArray 24))
 have HW:=Qh (rwhere_is B hB)
 have HLen:=Qh (fun m=>(show (whereL B m).length≤64 from sel_le _ 64))
 clear hB
 have hcase:side=1∨side=0∨side<0∨1<side:=by omega
 by_cases h1:side=1
 ·subst h1
  have hk:kingI B 1=headI (whereL B (-6)):=rfl
  rw [hk]
  by_cases hl:0<(whereL B (-6)).length
  ·rw [headI_some hl]
   have HLn:=Qh (HLen.out (-6))
   have HWm:=Qh (HW.out (-6))
   generalize whereL B (-6)=Lw at *
   obtain ⟨y,hy⟩:∃ y,Lw.getD 0 0=y:=⟨_,rfl⟩
   rw [hy]
   go_enter Tryz.func23,Tryz.ntmps23
   go_wp2_with (refine wpList_load_w (by rfl) _ rfl _ rfl _ (hbl.out) hz.out ?_)
   refine (HWm.out _).mono ?_
   rintro e w1 ⟨v,rfl,hown,k1⟩
   obtain ⟨a,cap,rfl⟩:=hown.slice
   obtain ⟨g,rfl,hc⟩:=hown.at_ 0 hl
   rw [hy] at hc
   have HK:=Qh (((Kept.refl w).alloc _).trans k1)
   skip
   have hl2:((Lw.length:Int) == 0)=false:=by rw [beq_eq_false_iff_ne];omega
   clear hown k1 hy
   generalize Lw.length=N at *
   go_wp2
   go_ret
   exact ⟨rfl,HK.out⟩
  ·rw [headI_none (by omega)]
   have hl0:(whereL B (-6)).length=0:=by omega
   go_enter Tryz.func23,Tryz.ntmps23
   go_wp2_with (refine wpList_load_w (by rfl) _ rfl _ rfl _ (hbl.out) hz.out ?_)
   refine (HW.out (-6) _).mono ?_
   rintro e w1 ⟨v,rfl,hown,k1⟩
   obtain ⟨a,cap,rfl⟩:=hown.slice
   have HK:=Qh (((Kept.refl w).alloc _).trans k1)
   clear hown k1
   rw [hl0]
   clear hl0 hl
   go_wp2
   go_ret
   exact ⟨rfl,HK.out⟩
 ·have h1':(side == 1)=false:=by simpa using h1
  by_cases h0:side=0
  ·subst h0
   have hk:kingI B 0=headI (whereL B 6):=rfl
   rw [hk]
   by_cases hl:0<(whereL B 6).length
   ·rw [headI_some hl]
    have HLn:=Qh (HLen.out 6)
    have HWm:=Qh (HW.out 6)
    generalize whereL B 6=Lw at *
    obtain ⟨y,hy⟩:∃ y,Lw.getD 0 0=y:=⟨_,rfl⟩
    rw [hy]
    go_enter Tryz.func23,Tryz.ntmps23
    go_wp2_with (refine wpList_load_w (by rfl) _ rfl _ rfl _ (hbl.out) hz.out ?_)
    refine (HWm.out _).mono ?_
    rintro e w1 ⟨v,rfl,hown,k1⟩
    obtain ⟨a,cap,rfl⟩:=hown.slice
    obtain ⟨g,rfl,hc⟩:=hown.at_ 0 hl
    rw [hy] at hc
    have HK:=Qh (((Kept.refl w).alloc _).trans k1)
    have hl2:((Lw.length:Int) == 0)=false:=by rw [beq_eq_false_iff_ne];omega
    clear hown k1 hy
    generalize Lw.length=N at *
    go_wp2
    go_ret
    exact ⟨rfl,HK.out⟩
   ·rw [headI_none (by omega)]
    have hl0:(whereL B 6).length=0:=by omega
    go_enter Tryz.func23,Tryz.ntmps23
    go_wp2_with (refine wpList_load_w (by rfl) _ rfl _ rfl _ (hbl.out) hz.out ?_)
    refine (HW.out 6 _).mono ?_
    rintro e w1 ⟨v,rfl,hown,k1⟩
    obtain ⟨a,cap,rfl⟩:=hown.slice
    have HK:=Qh (((Kept.refl w).alloc _).trans k1)
    clear hown k1
    rw [hl0]
    clear hl0 hl
    go_wp2
    go_ret
    exact ⟨rfl,HK.out⟩
  ·have hk:kingI B side=-1:=by unfold kingI;rw [if_neg h0,if_neg h1]
   rw [hk]
   have HLn:=Qh (HLen.out 6)
   go_enter Tryz.func23,Tryz.ntmps23
   go_wp2_with (refine wpList_load_w (by rfl) _ rfl _ rfl _ (hbl.out) hz.out ?_)
   refine (HW.out 6 _).mono ?_
   rintro e w1 ⟨v,rfl,hown,k1⟩
   obtain ⟨a,cap,rfl⟩:=hown.slice
   have HK:=Qh (((Kept.refl w).alloc _).trans k1)
   clear hown k1 hk
   generalize (whereL B 6).length=N at *
   by_cases hN:N=0
   ·subst hN
    go_wp2
    go_ret
    exact ⟨rfl,HK.out⟩
   ·have hN':((N:Int) == 0)=false:=by simp;omega
    by_cases hs:side<0
    ·go_wp2
     go_ret
     exact ⟨rfl,HK.out⟩
    ·have hs2:1<side:=by omega
     go_wp2
     go_ret
     exact ⟨rfl,HK.out⟩
theorem struck_by (B:List Int) (k side:Int):decide (0<(if okS k && rightB B then zn (byN B k side) else ([]:List Int)).length)=struckB B k side:=by
 unfold struckB
 cases h:okS k && rightB B
 ·simp
 ·obtain ⟨h0,h1⟩:=okS_iff.1 (Bool.and_eq_true _ _ ▸ h).1
  have e:=tell_by B k side h0 h1
  rw [if_pos rfl,Bool.true_and]
  unfold zn
  rw [List.length_map,← e]
  cases tellL B k side <;> simp
set_option maxRecDepth 100000 in
set_option maxHeartbeats 1000000 in
theorem rcheck_is (B:List Int) (hB:Brd B) (side:Int) (hs:side=0∨side=1) (w:World) :
  Calls Tryz.prog 24 #[.agg (cl B).toArray,.int .i64 side] w fun e w'=>e=.returned (.bool (checkB B side))∧Kept w w':=by
 have hz:=Qh (size_cl hB.1)
 have hbl:=Qh (heap_alloc_new w (.cells (cl B).toArray 24))
 have HKg:=Qh (rking_is B hB side)
 have ho:otherI side=1-side:=by rcases hs with rfl|rfl <;> rfl
 have HBy:=Qh (rby_is B hB (kingI B side) (1-side))
 have HE:=Qh (struck_by B (kingI B side) (1-side))
 have hlen:(if okS (kingI B side) && rightB B then zn (byN B (kingI B side) (1-side)) else ([]:List Int)).length≤64:=by
  split
  ·exact zn_len _ 64
  ·simp
 unfold checkB
 rw [ho]
 have hno:kingI B side<0→struckB B (kingI B side) (1-side)=false:=by
  intro h
  unfold struckB
  rw [okS_no (.inl h)]
  rfl
 obtain ⟨kb1,kb2⟩:=kingI_bd B side
 generalize struckB B (kingI B side) (1-side)=sb at *
 generalize (if okS (kingI B side) && rightB B then zn (byN B (kingI B side) (1-side)) else ([]:List Int))=Z at *
 generalize kingI B side=k at *
 clear hB ho
 by_cases hk:k<0
 ·have HN:=Qh (hno hk)
  have hk':¬ 0≤k:=by omega
  clear hno HE HBy
  go_enter Tryz.func24,Tryz.ntmps24
  go_wp2_with (refine wpList_load_w (by rfl) _ rfl _ rfl _ (hbl.out) hz.out ?_)
  refine (HKg.out _).mono ?_
  rintro e w1 ⟨rfl,k1⟩
  have HK:=Qh (((Kept.refl w).alloc _).trans k1)
  clear k1
  go_wp2
  go_ret
  exact ⟨by rw [HN.out];rfl,HK.out⟩
 ·have hk':0≤k:=by omega
  clear hno
  go_enter Tryz.func24,Tryz.ntmps24
  go_wp2_with (refine wpList_load_w (by rfl) _ rfl _ rfl _ (hbl.out) hz.out ?_)
  refine (HKg.out _).mono ?_
  rintro e w1 ⟨rfl,k1⟩
  have HK:=Qh (((Kept.refl w).alloc _).trans k1)
  have hb1:=Qh (k1.heap hbl.out)
  clear k1
  go_wp2_with (refine wpList_load_w (by rfl) _ rfl _ rfl _ (hb1.out) hz.out ?_)
  refine (HBy.out _).mono ?_
  rintro e w2 ⟨v,rfl,hown,k2⟩
  obtain ⟨a,cap,rfl⟩:=hown.slice
  have HK2:=Qh (HK.out.trans k2)
  clear hown k2
  generalize Z.length=N at *
  go_wp2
  go_ret
  exact ⟨by rw [← HE.out];simp,HK2.out⟩
end Go.Proofs.YtijkemnhehbchaaGreatDoor
namespace Go.Proofs.YtijkemnhehbchaaGreatDoor
set_option maxRecDepth 100000
open Go.ChangeShapes Go.WideShapes Go.ChangeAt Go.RowKit
set_option linter.unusedVariables false
section
variable {H:Type} {enc:TypeId × Value→H}
def dB (H:Type) (B:List Int):DataW H:=.agg (B.map fun x=>.lit (.int .i8 x))
theorem wf_i8 (x:Int):(Lit.int .i8 x).wf=true↔-128≤x∧x≤127:=by
 have e1:IntKind.i8.min=-128:=by decide
 have e2:IntKind.i8.max=127:=by decide
 simp [Lit.wf,e1,e2]
theorem chunk {cs:List Value} {i:Nat} (h:i<cs.length):(cs.drop (i*1)).take 1=[cs[i]]:=by
 rw [Nat.mul_one,List.drop_eq_getElem_cons h];rfl
set_option maxRecDepth 100000 in
theorem shut_board {W:World} {base:Nat} {sp:Nat→Bool} {hd:Bool} (B:List Int) (hB:Brd B):DataW.Trod enc Tryz.prog W base sp hd 24 (.agg (cl B).toArray) (dB H B) []:=by
 refine ⟨2,?_⟩
 have hc:(Value.agg (cl B).toArray).cells.toList=cl B:=rfl
 rw [hc]
 have step:∀ i ∈ List.range 64,DataW.trod enc Tryz.prog W base sp hd 1 22 (((cl B).drop (i*Tryz.prog.cellsOf 22)).take (Tryz.prog.cellsOf 22))=some ((DataW.lit (.int .i8 (B.getD i 0)),[]):DataW H × List MemPlace):=by
  intro i hi
  have hi64:i<64:=by simpa using hi
  have hlt:i<(cl B).length:=by rw [cl_length,hB.1];exact hi64
  rw [cells22,chunk hlt]
  have h3:=cl_get B i (by rw [hB.1];exact hi64)
  rw [List.getElem?_eq_getElem hlt] at h3
  rw [Option.some.inj h3]
  have hw:=(wf_i8 _).2 (hB.2 i hi64)
  unfold DataW.trod
  rw [Tryz.underlying22]
  simp only [hw,and_self,if_true]
 have hm:=mapM_some_of_forall (f:=fun i=>DataW.trod enc Tryz.prog W base sp hd 1 22 (((cl B).drop (i*Tryz.prog.cellsOf 22)).take (Tryz.prog.cellsOf 22))) (List.range 64) step
 unfold DataW.trod
 rw [Tryz.underlying24]
 simp only [cl_length,hB.1,cells24,if_true,hm,Option.map_some,Option.some.injEq,Prod.mk.injEq]
 refine ⟨?_,?_⟩
 ·unfold dB
  congr 1
  refine List.ext_getElem (by simp [hB.1]) fun i h1 h2=>?_
  have h3:i<B.length:=by simpa using h2
  simp [List.getD,List.getElem?_eq_getElem h3]
 ·rw [List.flatMap_eq_nil_iff]
  intro x hx
  simp only [List.mem_map] at hx
  obtain ⟨i,_,rfl⟩:=hx
  rfl
end
end Go.Proofs.YtijkemnhehbchaaGreatDoor
namespace Go.Proofs.YtijkemnhehbchaaGreatDoor
open Go.RowKit
set_option linter.unusedVariables false
set_option linter.unusedSimpArgs false
theorem PAt.sq {w:World} {g:Nat} {p:Ps} (h:PAt w g p) (k:Nat) (hk:k<64):w.cell? ⟨g,k,none⟩=some (.int .i8 (p.B.getD k 0)):=by
 have h1:=cl_length p.B
 have h2:=h.len
 rw [h.cellK];unfold pl
 rw [List.getElem?_append_left (by omega),cl_get _ _ (by omega)]
theorem PAt.frozen {w:World} {g:Nat} {p:Ps} (h:PAt w g p) (k:Nat):w.frozen? ⟨g,k,none⟩=false:=frozen_of_row w g k _ _ h.at_
theorem PAt.set {w:World} {g:Nat} {p:Ps} (h:PAt w g p) (k:Nat) (v:Value) {q:Ps} (hb:q.B=p.B) (hq:(tlP p).set k v=tlP q):PAt (w.setCell ⟨g,64+k,none⟩ v) g q:=by
 refine ⟨by rw [hb];exact h.len,?_⟩
 have hl:(cl p.B).length=64:=by rw [cl_length,h.len]
 rw [heap_setCell_same w g (64+k) _ _ _ h.at_]
 congr 2
 unfold pl
 rw [List.setIfInBounds_toArray,List.set_append_right _ _ (by omega),show 64+k-(cl p.B).length=k by omega,hq,hb]
theorem built_pos3 (B:List Int) (hB:B.length=64) (t e:Int):Tryz.prog.built 26 [(0,.agg (cl B).toArray),(1,.int .i64 t),(3,.int .i64 e)]=some (pl ⟨B,t,0,e⟩).toArray:=by
 rw [built_fill,fill_board _ B hB _ rfl]
 unfold pl tlP
 rw [fill_int _ B hB _ 1 0 t (by simp) _ rfl,fill_int _ B hB _ 3 2 e (by simp) _ rfl]
 rfl
theorem wpList_built_p3 {ops:Array Oper} {rest:List Oper} {o:Oper} {a:Act} {w:World} {Q:Exit→Act→World→Prop} (hg:o.guard=none) (x0 x1 x3:Operand) (ho:o.op=.build 26 #[(0,x0),(1,x1),(3,x3)])
  (B:List Int) (t e:Int) (hB:B.length=64) (h0:a.eval x0=.agg (cl B).toArray) (h1:a.eval x1=.int .i64 t) (h3:a.eval x3=.int .i64 e)
  (h:wpList Tryz.prog ops Q rest (a.put o.dst (.agg (pl ⟨B,t,0,e⟩).toArray)) w):wpList Tryz.prog ops Q (o::rest) a w :=
 wpList_built hg _ _ ho _ (by
  have:((#[(0,x0),(1,x1),(3,x3)]:Array (Nat × Operand)).map fun (i,x)=>(i,a.eval x)).toList=[(0,.agg (cl B).toArray),(1,.int .i64 t),(3,.int .i64 e)]:=by simp [h0,h1,h3]
  rw [this];exact built_pos3 B hB t e) h
theorem rfar_any (a b:Int) (w:World):Calls Tryz.prog 22 #[.int .i64 a,.int .i64 b] w fun e w'=>e=.returned (.int .i64 (farA a b))∧Kept w w':=by
 unfold farA
 by_cases h:(0≤a∧a<64)∧0≤b∧b<64
 ·rw [if_pos h];exact (rfar_yes a b w h.1.1 h.1.2 h.2.1 h.2.2).mono fun _ _ ⟨x,y⟩=>⟨x,y ▸ Kept.refl _⟩
 ·rw [if_neg h];exact (rfar_no a b w (by omega)).mono fun _ _ ⟨x,y⟩=>⟨x,y ▸ Kept.refl _⟩
theorem rbacked_1 (B:List Int) (hB:Brd B) (w:World) :
  Calls Tryz.prog 26 #[.agg (cl B).toArray,.int .i64 1] w fun e w'=>e=.returned (.bool ((B.getD 4 0 == 6) && (B.getD 7 0 == 4)))∧Kept w w':=by
 have hbl:=heap_alloc_new w (.cells (cl B).toArray 24)
 have ca:=board_cell hB hbl 4 (by omega)
 have cb:=board_cell hB hbl 7 (by omega)
 obtain ⟨ba1,ba2⟩:=hB.2 4 (by omega)
 obtain ⟨bb1,bb2⟩:=hB.2 7 (by omega)
 clear hbl hB
 generalize B.getD 4 0=xa at *
 generalize B.getD 7 0=xb at *
 cases h:(xa == 6)
 ·rw [Bool.false_and]
  go_enter Tryz.func26,Tryz.ntmps26
  go_wp2
  go_ret
  exact ⟨rfl,(Kept.refl _).alloc _⟩
 ·rw [Bool.true_and]
  go_enter Tryz.func26,Tryz.ntmps26
  go_wp2
  go_ret
  exact ⟨rfl,(Kept.refl _).alloc _⟩
theorem rbacked_2 (B:List Int) (hB:Brd B) (w:World) :
  Calls Tryz.prog 26 #[.agg (cl B).toArray,.int .i64 2] w fun e w'=>e=.returned (.bool ((B.getD 4 0 == 6) && (B.getD 0 0 == 4)))∧Kept w w':=by
 have hbl:=heap_alloc_new w (.cells (cl B).toArray 24)
 have ca:=board_cell hB hbl 4 (by omega)
 have cb:=board_cell hB hbl 0 (by omega)
 obtain ⟨ba1,ba2⟩:=hB.2 4 (by omega)
 obtain ⟨bb1,bb2⟩:=hB.2 0 (by omega)
 clear hbl hB
 generalize B.getD 4 0=xa at *
 generalize B.getD 0 0=xb at *
 cases h:(xa == 6)
 ·rw [Bool.false_and]
  go_enter Tryz.func26,Tryz.ntmps26
  go_wp2
  go_ret
  exact ⟨rfl,(Kept.refl _).alloc _⟩
 ·rw [Bool.true_and]
  go_enter Tryz.func26,Tryz.ntmps26
  go_wp2
  go_ret
  exact ⟨rfl,(Kept.refl _).alloc _⟩
theorem rbacked_4 (B:List Int) (hB:Brd B) (w:World) :
  Calls Tryz.prog 26 #[.agg (cl B).toArray,.int .i64 4] w fun e w'=>e=.returned (.bool ((B.getD 60 0 == (-6)) && (B.getD 63 0 == (-4))))∧Kept w w':=by
 have hbl:=heap_alloc_new w (.cells (cl B).toArray 24)
 have ca:=board_cell hB hbl 60 (by omega)
 have cb:=board_cell hB hbl 63 (by omega)
 obtain ⟨ba1,ba2⟩:=hB.2 60 (by omega)
 obtain ⟨bb1,bb2⟩:=hB.2 63 (by omega)
 clear hbl hB
 generalize B.getD 60 0=xa at *
 generalize B.getD 63 0=xb at *
 cases h:(xa == (-6))
 ·rw [Bool.false_and]
  go_enter Tryz.func26,Tryz.ntmps26
  go_wp2
  go_ret
  exact ⟨rfl,(Kept.refl _).alloc _⟩
 ·rw [Bool.true_and]
  go_enter Tryz.func26,Tryz.ntmps26
  go_wp2
  go_ret
  exact ⟨rfl,(Kept.refl _).alloc _⟩
theorem rbacked_8 (B:List Int) (hB:Brd B) (w:World) :
  Calls Tryz.prog 26 #[.agg (cl B).toArray,.int .i64 8] w fun e w'=>e=.returned (.bool ((B.getD 60 0 == (-6)) && (B.getD 56 0 == (-4))))∧Kept w w':=by
 have hbl:=heap_alloc_new w (.cells (cl B).toArray 24)
 have ca:=board_cell hB hbl 60 (by omega)
 have cb:=board_cell hB hbl 56 (by omega)
 obtain ⟨ba1,ba2⟩:=hB.2 60 (by omega)
 obtain ⟨bb1,bb2⟩:=hB.2 56 (by omega)
 clear hbl hB
 generalize B.getD 60 0=xa at *
 generalize B.getD 56 0=xb at *
 cases h:(xa == (-6))
 ·rw [Bool.false_and]
  go_enter Tryz.func26,Tryz.ntmps26
  go_wp2
  go_ret
  exact ⟨rfl,(Kept.refl _).alloc _⟩
 ·rw [Bool.true_and]
  go_enter Tryz.func26,Tryz.ntmps26
  go_wp2
  go_ret
  exact ⟨rfl,(Kept.refl _).alloc _⟩
theorem rbacked_is (B:List Int) (hB:Brd B) (r:Int) (w:World) :
  Calls Tryz.prog 26 #[.agg (cl B).toArray,.int .i64 r] w fun e w'=>e=.returned (.bool (backB B r))∧Kept w w':=by
 unfold backB
 by_cases h1:r=1
 ·subst h1;rw [if_pos rfl];exact rbacked_1 B hB w
 ·rw [if_neg h1]
  by_cases h2:r=2
  ·subst h2;rw [if_pos rfl];exact rbacked_2 B hB w
  ·rw [if_neg h2]
   by_cases h4:r=4
   ·subst h4;rw [if_pos rfl];exact rbacked_4 B hB w
   ·rw [if_neg h4]
    by_cases h8:r=8
    ·subst h8;rw [if_pos rfl];exact rbacked_8 B hB w
    ·rw [if_neg h8]
     have b1:(r == 1)=false:=beq_eq_false_iff_ne.2 h1
     have b2:(r == 2)=false:=beq_eq_false_iff_ne.2 h2
     have b4:(r == 4)=false:=beq_eq_false_iff_ne.2 h4
     have b8:(r == 8)=false:=beq_eq_false_iff_ne.2 h8
     clear h1 h2 h4 h8 hB
     go_enter Tryz.func26,Tryz.ntmps26
     go_wp2
     go_ret
     exact ⟨rfl,(Kept.refl _).alloc _⟩
theorem rhas_is (c r:Int) (w:World) (h0:0≤c) (h1:c≤15) (r0:1≤r) (r1:r≤8) :
  Calls Tryz.prog 25 #[.int .i64 c,.int .i64 r] w fun e w'=>e=.returned (.bool (rgtB c r))∧Kept w w':=by
 have hq0:0≤c / r:=Int.ediv_nonneg h0 (by omega)
 have hq1:c / r≤15:=Int.le_trans (Int.ediv_le_self r h0) h1
 have hrz:(r == 0)=false:=beq_eq_false_iff_ne.2 (by omega)
 have hrz':r≠0:=by omega
 have hd:c.tdiv r=c / r:=Int.tdiv_eq_ediv_of_nonneg h0
 have HV:Hid (rgtB c r=(c / r % 2 == 1)):=by rfl
 go_enter Tryz.func25,Tryz.ntmps25
 go_wp2
 go_ret
 exact ⟨by rw [HV.out];rfl,Kept.refl _⟩
theorem rpassed_low (p:Ps) (hB:Brd p.B) (he:p.e<0) (w:World) :
  Calls Tryz.prog 27 #[.agg (pl p).toArray] w fun e w'=>e=.returned (.int .i64 (passI p))∧Kept w w':=by
 have HF:Hid (passI p=-1):=by unfold passI;rw [if_neg (by omega),if_neg (by omega)];rfl
 have HP:=Qh (PAt.new w hB.1)
 have ct:=HP.out.turn
 have ce:=HP.out.ep
 clear hB
 go_enter Tryz.func27,Tryz.ntmps27
 go_wp2
 go_ret
 exact ⟨by rw [HF.out];rfl,(Kept.refl _).alloc _⟩
theorem rpassed_high (p:Ps) (hB:Brd p.B) (he:63<p.e) (w:World) :
  Calls Tryz.prog 27 #[.agg (pl p).toArray] w fun e w'=>e=.returned (.int .i64 (passI p))∧Kept w w':=by
 have HF:Hid (passI p=-1):=by unfold passI;rw [if_neg (by omega),if_neg (by omega)];rfl
 have he0:¬ p.e<0:=by omega
 have HP:=Qh (PAt.new w hB.1)
 have ct:=HP.out.turn
 have ce:=HP.out.ep
 clear hB
 go_enter Tryz.func27,Tryz.ntmps27
 go_wp2
 go_ret
 exact ⟨by rw [HF.out];rfl,(Kept.refl _).alloc _⟩
theorem rpassed_side (p:Ps) (hB:Brd p.B) (h0:0≤p.e) (h1:p.e<64) (t0:p.t≠0) (t1:p.t≠1) (w:World) :
  Calls Tryz.prog 27 #[.agg (pl p).toArray] w fun e w'=>e=.returned (.int .i64 (passI p))∧Kept w w':=by
 have HF:Hid (passI p=-1):=by unfold passI;rw [if_neg (fun h=>t0 h.1),if_neg (fun h=>t1 h.1)];rfl
 have he0:¬ p.e<0:=by omega
 have he1:¬ 63<p.e:=by omega
 have b0:(p.t == 0)=false:=beq_eq_false_iff_ne.2 t0
 have b1:(p.t == 1)=false:=beq_eq_false_iff_ne.2 t1
 have HP:=Qh (PAt.new w hB.1)
 have ct:=HP.out.turn
 have ce:=HP.out.ep
 clear hB t0 t1
 go_enter Tryz.func27,Tryz.ntmps27
 go_wp2
 go_ret
 exact ⟨by rw [HF.out];rfl,(Kept.refl _).alloc _⟩
theorem rpassed_off_w (p:Ps) (hB:Brd p.B) (h0:0≤p.e) (h1:p.e<64) (ht:p.t=0) (hr:¬ (40≤p.e∧p.e<48)) (w:World) :
  Calls Tryz.prog 27 #[.agg (pl p).toArray] w fun e w'=>e=.returned (.int .i64 (passI p))∧Kept w w':=by
 have HF:Hid (passI p=-1):=by unfold passI;rw [if_neg (fun h=>hr ⟨h.2.1,h.2.2.1⟩),if_neg (fun h=>by rw [ht] at h;exact absurd h.1 (by decide))];rfl
 have he0:¬ p.e<0:=by omega
 have he1:¬ 63<p.e:=by omega
 have br:(p.e / 8 == 5)=false:=beq_eq_false_iff_ne.2 (by omega)
 have HP:=Qh (PAt.new w hB.1)
 have ct:=HP.out.turn
 have ce:=HP.out.ep
 rw [ht] at ct
 clear hB hr
 go_enter Tryz.func27,Tryz.ntmps27
 go_wp2_with fail
 refine (rrank_yes _ _ h0 h1).mono ?_
 rintro e w' ⟨rfl,rfl⟩
 go_wp2
 go_ret
 exact ⟨by rw [HF.out];rfl,(Kept.refl _).alloc _⟩
set_option maxHeartbeats 1000000 in
theorem rpassed0_w (p:Ps) (hB:Brd p.B) (ht:p.t=0) (hlo:40≤p.e) (hhi:p.e<48) (e0:bAt p.B p.e≠0) (w:World) :
  Calls Tryz.prog 27 #[.agg (pl p).toArray] w fun e w'=>e=.returned (.int .i64 (passI p))∧Kept w w':=by
 have HF:Hid (passI p=-1):=by unfold passI;rw [if_neg (fun h=>e0 h.2.2.2.1),if_neg (fun h=>by rw [ht] at h;exact absurd h.1 (by decide))];rfl
 have b0:(bAt p.B p.e == 0)=false:=beq_eq_false_iff_ne.2 e0
 clear e0
 have he0:¬ p.e<0:=by omega
 have he1:¬ 63<p.e:=by omega
 have br:(p.e / 8 == 5)=true:=beq_iff_eq.2 (by omega)
 have HP:=Qh (PAt.new w hB.1)
 have ct:=HP.out.turn
 have ce:=HP.out.ep
 rw [ht] at ct
 have c0:=HP.out.sq p.e.toNat (by omega)
 have c1:=HP.out.sq (p.e+8).toNat (by omega)
 have c2:=HP.out.sq (p.e-8).toNat (by omega)
 obtain ⟨x00,x01⟩:=hB.2 p.e.toNat (by omega)
 obtain ⟨x10,x11⟩:=hB.2 (p.e+8).toNat (by omega)
 obtain ⟨x20,x21⟩:=hB.2 (p.e-8).toNat (by omega)
 unfold bAt at b0
 clear hB
 generalize p.B.getD p.e.toNat 0=x0 at *
 generalize p.B.getD (p.e+8).toNat 0=x1 at *
 generalize p.B.getD (p.e-8).toNat 0=x2 at *
 go_enter Tryz.func27,Tryz.ntmps27
 go_wp2_with fail
 refine (rrank_yes _ _ (by omega) (by omega)).mono ?_
 rintro e w' ⟨rfl,rfl⟩
 go_wp2
 go_ret
 exact ⟨by rw [HF.out];rfl,(Kept.refl _).alloc _⟩
set_option maxHeartbeats 1000000 in
theorem rpassed1_w (p:Ps) (hB:Brd p.B) (ht:p.t=0) (hlo:40≤p.e) (hhi:p.e<48) (e0:bAt p.B p.e=0) (e1:bAt p.B (p.e+8)≠0) (w:World) :
  Calls Tryz.prog 27 #[.agg (pl p).toArray] w fun e w'=>e=.returned (.int .i64 (passI p))∧Kept w w':=by
 have HF:Hid (passI p=-1):=by unfold passI;rw [if_neg (fun h=>e1 h.2.2.2.2.1),if_neg (fun h=>by rw [ht] at h;exact absurd h.1 (by decide))];rfl
 have b0:(bAt p.B p.e == 0)=true:=beq_iff_eq.2 e0
 have b1:(bAt p.B (p.e+8) == 0)=false:=beq_eq_false_iff_ne.2 e1
 clear e0 e1
 have he0:¬ p.e<0:=by omega
 have he1:¬ 63<p.e:=by omega
 have br:(p.e / 8 == 5)=true:=beq_iff_eq.2 (by omega)
 have HP:=Qh (PAt.new w hB.1)
 have ct:=HP.out.turn
 have ce:=HP.out.ep
 rw [ht] at ct
 have c0:=HP.out.sq p.e.toNat (by omega)
 have c1:=HP.out.sq (p.e+8).toNat (by omega)
 have c2:=HP.out.sq (p.e-8).toNat (by omega)
 obtain ⟨x00,x01⟩:=hB.2 p.e.toNat (by omega)
 obtain ⟨x10,x11⟩:=hB.2 (p.e+8).toNat (by omega)
 obtain ⟨x20,x21⟩:=hB.2 (p.e-8).toNat (by omega)
 unfold bAt at b0 b1
 clear hB
 generalize p.B.getD p.e.toNat 0=x0 at *
 generalize p.B.getD (p.e+8).toNat 0=x1 at *
 generalize p.B.getD (p.e-8).toNat 0=x2 at *
 go_enter Tryz.func27,Tryz.ntmps27
 go_wp2_with fail
 refine (rrank_yes _ _ (by omega) (by omega)).mono ?_
 rintro e w' ⟨rfl,rfl⟩
 go_wp2
 go_ret
 exact ⟨by rw [HF.out];rfl,(Kept.refl _).alloc _⟩
set_option maxHeartbeats 1000000 in
theorem rpassed2_w (p:Ps) (hB:Brd p.B) (ht:p.t=0) (hlo:40≤p.e) (hhi:p.e<48) (e0:bAt p.B p.e=0) (e1:bAt p.B (p.e+8)=0) (e2:bAt p.B (p.e-8)≠(-1)) (w:World) :
  Calls Tryz.prog 27 #[.agg (pl p).toArray] w fun e w'=>e=.returned (.int .i64 (passI p))∧Kept w w':=by
 have HF:Hid (passI p=-1):=by unfold passI;rw [if_neg (fun h=>e2 h.2.2.2.2.2),if_neg (fun h=>by rw [ht] at h;exact absurd h.1 (by decide))];rfl
 have b0:(bAt p.B p.e == 0)=true:=beq_iff_eq.2 e0
 have b1:(bAt p.B (p.e+8) == 0)=true:=beq_iff_eq.2 e1
 have b2:(bAt p.B (p.e-8) == (-1))=false:=beq_eq_false_iff_ne.2 e2
 clear e0 e1 e2
 have he0:¬ p.e<0:=by omega
 have he1:¬ 63<p.e:=by omega
 have br:(p.e / 8 == 5)=true:=beq_iff_eq.2 (by omega)
 have HP:=Qh (PAt.new w hB.1)
 have ct:=HP.out.turn
 have ce:=HP.out.ep
 rw [ht] at ct
 have c0:=HP.out.sq p.e.toNat (by omega)
 have c1:=HP.out.sq (p.e+8).toNat (by omega)
 have c2:=HP.out.sq (p.e-8).toNat (by omega)
 obtain ⟨x00,x01⟩:=hB.2 p.e.toNat (by omega)
 obtain ⟨x10,x11⟩:=hB.2 (p.e+8).toNat (by omega)
 obtain ⟨x20,x21⟩:=hB.2 (p.e-8).toNat (by omega)
 unfold bAt at b0 b1 b2
 clear hB
 generalize p.B.getD p.e.toNat 0=x0 at *
 generalize p.B.getD (p.e+8).toNat 0=x1 at *
 generalize p.B.getD (p.e-8).toNat 0=x2 at *
 go_enter Tryz.func27,Tryz.ntmps27
 go_wp2_with fail
 refine (rrank_yes _ _ (by omega) (by omega)).mono ?_
 rintro e w' ⟨rfl,rfl⟩
 go_wp2
 go_ret
 exact ⟨by rw [HF.out];rfl,(Kept.refl _).alloc _⟩
set_option maxHeartbeats 1000000 in
theorem rpassed3_w (p:Ps) (hB:Brd p.B) (ht:p.t=0) (hlo:40≤p.e) (hhi:p.e<48) (e0:bAt p.B p.e=0) (e1:bAt p.B (p.e+8)=0) (e2:bAt p.B (p.e-8)=(-1)) (w:World) :
  Calls Tryz.prog 27 #[.agg (pl p).toArray] w fun e w'=>e=.returned (.int .i64 (passI p))∧Kept w w':=by
 have HF:Hid (passI p=p.e-8):=by unfold passI;rw [if_pos ⟨ht,by omega,by omega,e0,e1,e2⟩];rfl
 have b0:(bAt p.B p.e == 0)=true:=beq_iff_eq.2 e0
 have b1:(bAt p.B (p.e+8) == 0)=true:=beq_iff_eq.2 e1
 have b2:(bAt p.B (p.e-8) == (-1))=true:=beq_iff_eq.2 e2
 clear e0 e1 e2
 have he0:¬ p.e<0:=by omega
 have he1:¬ 63<p.e:=by omega
 have br:(p.e / 8 == 5)=true:=beq_iff_eq.2 (by omega)
 have HP:=Qh (PAt.new w hB.1)
 have ct:=HP.out.turn
 have ce:=HP.out.ep
 rw [ht] at ct
 have c0:=HP.out.sq p.e.toNat (by omega)
 have c1:=HP.out.sq (p.e+8).toNat (by omega)
 have c2:=HP.out.sq (p.e-8).toNat (by omega)
 obtain ⟨x00,x01⟩:=hB.2 p.e.toNat (by omega)
 obtain ⟨x10,x11⟩:=hB.2 (p.e+8).toNat (by omega)
 obtain ⟨x20,x21⟩:=hB.2 (p.e-8).toNat (by omega)
 unfold bAt at b0 b1 b2
 clear hB
 generalize p.B.getD p.e.toNat 0=x0 at *
 generalize p.B.getD (p.e+8).toNat 0=x1 at *
 generalize p.B.getD (p.e-8).toNat 0=x2 at *
 go_enter Tryz.func27,Tryz.ntmps27
 go_wp2_with fail
 refine (rrank_yes _ _ (by omega) (by omega)).mono ?_
 rintro e w' ⟨rfl,rfl⟩
 go_wp2
 go_ret
 exact ⟨by rw [HF.out];rfl,(Kept.refl _).alloc _⟩
theorem rpassed_off_b (p:Ps) (hB:Brd p.B) (h0:0≤p.e) (h1:p.e<64) (ht:p.t=1) (hr:¬ (16≤p.e∧p.e<24)) (w:World) :
  Calls Tryz.prog 27 #[.agg (pl p).toArray] w fun e w'=>e=.returned (.int .i64 (passI p))∧Kept w w':=by
 have HF:Hid (passI p=-1):=by unfold passI;rw [if_neg (fun h=>by rw [ht] at h;exact absurd h.1 (by decide)),if_neg (fun h=>hr ⟨h.2.1,h.2.2.1⟩)];rfl
 have he0:¬ p.e<0:=by omega
 have he1:¬ 63<p.e:=by omega
 have br:(p.e / 8 == 2)=false:=beq_eq_false_iff_ne.2 (by omega)
 have HP:=Qh (PAt.new w hB.1)
 have ct:=HP.out.turn
 have ce:=HP.out.ep
 rw [ht] at ct
 clear hB hr
 go_enter Tryz.func27,Tryz.ntmps27
 go_wp2_with fail
 refine (rrank_yes _ _ h0 h1).mono ?_
 rintro e w' ⟨rfl,rfl⟩
 go_wp2
 go_ret
 exact ⟨by rw [HF.out];rfl,(Kept.refl _).alloc _⟩
set_option maxHeartbeats 1000000 in
theorem rpassed0_b (p:Ps) (hB:Brd p.B) (ht:p.t=1) (hlo:16≤p.e) (hhi:p.e<24) (e0:bAt p.B p.e≠0) (w:World) :
  Calls Tryz.prog 27 #[.agg (pl p).toArray] w fun e w'=>e=.returned (.int .i64 (passI p))∧Kept w w':=by
 have HF:Hid (passI p=-1):=by unfold passI;rw [if_neg (fun h=>by rw [ht] at h;exact absurd h.1 (by decide)),if_neg (fun h=>e0 h.2.2.2.1)];rfl
 have b0:(bAt p.B p.e == 0)=false:=beq_eq_false_iff_ne.2 e0
 clear e0
 have he0:¬ p.e<0:=by omega
 have he1:¬ 63<p.e:=by omega
 have br:(p.e / 8 == 2)=true:=beq_iff_eq.2 (by omega)
 have HP:=Qh (PAt.new w hB.1)
 have ct:=HP.out.turn
 have ce:=HP.out.ep
 rw [ht] at ct
 have c0:=HP.out.sq p.e.toNat (by omega)
 have c1:=HP.out.sq (p.e-8).toNat (by omega)
 have c2:=HP.out.sq (p.e+8).toNat (by omega)
 obtain ⟨x00,x01⟩:=hB.2 p.e.toNat (by omega)
 obtain ⟨x10,x11⟩:=hB.2 (p.e-8).toNat (by omega)
 obtain ⟨x20,x21⟩:=hB.2 (p.e+8).toNat (by omega)
 unfold bAt at b0
 clear hB
 generalize p.B.getD p.e.toNat 0=x0 at *
 generalize p.B.getD (p.e-8).toNat 0=x1 at *
 generalize p.B.getD (p.e+8).toNat 0=x2 at *
 go_enter Tryz.func27,Tryz.ntmps27
 go_wp2_with fail
 refine (rrank_yes _ _ (by omega) (by omega)).mono ?_
 rintro e w' ⟨rfl,rfl⟩
 go_wp2
 go_ret
 exact ⟨by rw [HF.out];rfl,(Kept.refl _).alloc _⟩
set_option maxHeartbeats 1000000 in
theorem rpassed1_b (p:Ps) (hB:Brd p.B) (ht:p.t=1) (hlo:16≤p.e) (hhi:p.e<24) (e0:bAt p.B p.e=0) (e1:bAt p.B (p.e-8)≠0) (w:World) :
  Calls Tryz.prog 27 #[.agg (pl p).toArray] w fun e w'=>e=.returned (.int .i64 (passI p))∧Kept w w':=by
 have HF:Hid (passI p=-1):=by unfold passI;rw [if_neg (fun h=>by rw [ht] at h;exact absurd h.1 (by decide)),if_neg (fun h=>e1 h.2.2.2.2.1)];rfl
 have b0:(bAt p.B p.e == 0)=true:=beq_iff_eq.2 e0
 have b1:(bAt p.B (p.e-8) == 0)=false:=beq_eq_false_iff_ne.2 e1
 clear e0 e1
 have he0:¬ p.e<0:=by omega
 have he1:¬ 63<p.e:=by omega
 have br:(p.e / 8 == 2)=true:=beq_iff_eq.2 (by omega)
 have HP:=Qh (PAt.new w hB.1)
 have ct:=HP.out.turn
 have ce:=HP.out.ep
 rw [ht] at ct
 have c0:=HP.out.sq p.e.toNat (by omega)
 have c1:=HP.out.sq (p.e-8).toNat (by omega)
 have c2:=HP.out.sq (p.e+8).toNat (by omega)
 obtain ⟨x00,x01⟩:=hB.2 p.e.toNat (by omega)
 obtain ⟨x10,x11⟩:=hB.2 (p.e-8).toNat (by omega)
 obtain ⟨x20,x21⟩:=hB.2 (p.e+8).toNat (by omega)
 unfold bAt at b0 b1
 clear hB
 generalize p.B.getD p.e.toNat 0=x0 at *
 generalize p.B.getD (p.e-8).toNat 0=x1 at *
 generalize p.B.getD (p.e+8).toNat 0=x2 at *
 go_enter Tryz.func27,Tryz.ntmps27
 go_wp2_with fail
 refine (rrank_yes _ _ (by omega) (by omega)).mono ?_
 rintro e w' ⟨rfl,rfl⟩
 go_wp2
 go_ret
 exact ⟨by rw [HF.out];rfl,(Kept.refl _).alloc _⟩
set_option maxHeartbeats 1000000 in
theorem rpassed2_b (p:Ps) (hB:Brd p.B) (ht:p.t=1) (hlo:16≤p.e) (hhi:p.e<24) (e0:bAt p.B p.e=0) (e1:bAt p.B (p.e-8)=0) (e2:bAt p.B (p.e+8)≠1) (w:World) :
  Calls Tryz.prog 27 #[.agg (pl p).toArray] w fun e w'=>e=.returned (.int .i64 (passI p))∧Kept w w':=by
 have HF:Hid (passI p=-1):=by unfold passI;rw [if_neg (fun h=>by rw [ht] at h;exact absurd h.1 (by decide)),if_neg (fun h=>e2 h.2.2.2.2.2)];rfl
 have b0:(bAt p.B p.e == 0)=true:=beq_iff_eq.2 e0
 have b1:(bAt p.B (p.e-8) == 0)=true:=beq_iff_eq.2 e1
 have b2:(bAt p.B (p.e+8) == 1)=false:=beq_eq_false_iff_ne.2 e2
 clear e0 e1 e2
 have he0:¬ p.e<0:=by omega
 have he1:¬ 63<p.e:=by omega
 have br:(p.e / 8 == 2)=true:=beq_iff_eq.2 (by omega)
 have HP:=Qh (PAt.new w hB.1)
 have ct:=HP.out.turn
 have ce:=HP.out.ep
 rw [ht] at ct
 have c0:=HP.out.sq p.e.toNat (by omega)
 have c1:=HP.out.sq (p.e-8).toNat (by omega)
 have c2:=HP.out.sq (p.e+8).toNat (by omega)
 obtain ⟨x00,x01⟩:=hB.2 p.e.toNat (by omega)
 obtain ⟨x10,x11⟩:=hB.2 (p.e-8).toNat (by omega)
 obtain ⟨x20,x21⟩:=hB.2 (p.e+8).toNat (by omega)
 unfold bAt at b0 b1 b2
 clear hB
 generalize p.B.getD p.e.toNat 0=x0 at *
 generalize p.B.getD (p.e-8).toNat 0=x1 at *
 generalize p.B.getD (p.e+8).toNat 0=x2 at *
 go_enter Tryz.func27,Tryz.ntmps27
 go_wp2_with fail
 refine (rrank_yes _ _ (by omega) (by omega)).mono ?_
 rintro e w' ⟨rfl,rfl⟩
 go_wp2
 go_ret
 exact ⟨by rw [HF.out];rfl,(Kept.refl _).alloc _⟩
set_option maxHeartbeats 1000000 in
theorem rpassed3_b (p:Ps) (hB:Brd p.B) (ht:p.t=1) (hlo:16≤p.e) (hhi:p.e<24) (e0:bAt p.B p.e=0) (e1:bAt p.B (p.e-8)=0) (e2:bAt p.B (p.e+8)=1) (w:World) :
  Calls Tryz.prog 27 #[.agg (pl p).toArray] w fun e w'=>e=.returned (.int .i64 (passI p))∧Kept w w':=by
 have HF:Hid (passI p=p.e+8):=by unfold passI;rw [if_neg (fun h=>by rw [ht] at h;exact absurd h.1 (by decide)),if_pos ⟨ht,by omega,by omega,e0,e1,e2⟩];rfl
 have b0:(bAt p.B p.e == 0)=true:=beq_iff_eq.2 e0
 have b1:(bAt p.B (p.e-8) == 0)=true:=beq_iff_eq.2 e1
 have b2:(bAt p.B (p.e+8) == 1)=true:=beq_iff_eq.2 e2
 clear e0 e1 e2
 have he0:¬ p.e<0:=by omega
 have he1:¬ 63<p.e:=by omega
 have br:(p.e / 8 == 2)=true:=beq_iff_eq.2 (by omega)
 have HP:=Qh (PAt.new w hB.1)
 have ct:=HP.out.turn
 have ce:=HP.out.ep
 rw [ht] at ct
 have c0:=HP.out.sq p.e.toNat (by omega)
 have c1:=HP.out.sq (p.e-8).toNat (by omega)
 have c2:=HP.out.sq (p.e+8).toNat (by omega)
 obtain ⟨x00,x01⟩:=hB.2 p.e.toNat (by omega)
 obtain ⟨x10,x11⟩:=hB.2 (p.e-8).toNat (by omega)
 obtain ⟨x20,x21⟩:=hB.2 (p.e+8).toNat (by omega)
 unfold bAt at b0 b1 b2
 clear hB
 generalize p.B.getD p.e.toNat 0=x0 at *
 generalize p.B.getD (p.e-8).toNat 0=x1 at *
 generalize p.B.getD (p.e+8).toNat 0=x2 at *
 go_enter Tryz.func27,Tryz.ntmps27
 go_wp2_with fail
 refine (rrank_yes _ _ (by omega) (by omega)).mono ?_
 rintro e w' ⟨rfl,rfl⟩
 go_wp2
 go_ret
 exact ⟨by rw [HF.out];rfl,(Kept.refl _).alloc _⟩
theorem rpassed_is (p:Ps) (hB:Brd p.B) (w:World) :
  Calls Tryz.prog 27 #[.agg (pl p).toArray] w fun e w'=>e=.returned (.int .i64 (passI p))∧Kept w w':=by
 by_cases a0:p.e<0
 ·exact rpassed_low p hB a0 w
 ·by_cases a1:63<p.e
  ·exact rpassed_high p hB a1 w
  ·by_cases h0:p.t=0
   ·by_cases hr:40≤p.e∧p.e<48
    ·by_cases e0:bAt p.B p.e=0
     ·by_cases e1:bAt p.B (p.e+8)=0
      ·by_cases e2:bAt p.B (p.e-8)=(-1)
       ·exact rpassed3_w p hB h0 hr.1 hr.2 e0 e1 e2 w
       ·exact rpassed2_w p hB h0 hr.1 hr.2 e0 e1 e2 w
      ·exact rpassed1_w p hB h0 hr.1 hr.2 e0 e1 w
     ·exact rpassed0_w p hB h0 hr.1 hr.2 e0 w
    ·exact rpassed_off_w p hB (by omega) (by omega) h0 hr w
   ·by_cases h1:p.t=1
    ·by_cases hr:16≤p.e∧p.e<24
     ·by_cases e0:bAt p.B p.e=0
      ·by_cases e1:bAt p.B (p.e-8)=0
       ·by_cases e2:bAt p.B (p.e+8)=1
        ·exact rpassed3_b p hB h1 hr.1 hr.2 e0 e1 e2 w
        ·exact rpassed2_b p hB h1 hr.1 hr.2 e0 e1 e2 w
       ·exact rpassed1_b p hB h1 hr.1 hr.2 e0 e1 w
      ·exact rpassed0_b p hB h1 hr.1 hr.2 e0 w
     ·exact rpassed_off_b p hB (by omega) (by omega) h1 hr w
    ·exact rpassed_side p hB (by omega) (by omega) h0 h1 w
end Go.Proofs.YtijkemnhehbchaaGreatDoor
