/- TsD · MeA · MeB · MeC: my texts, in their order. -/
import Derived.Test.YtlbipjmmlobofaaGreatDoorPkA00
import Derived.Test.YtlbipjmmlobofaaGreatDoorPkA06
import Derived.Laws.Runes
import Derived.Laws.IdiomStrings
import Derived.Lib.DecodeN
namespace Go.Proofs.YtlbipjmmlobofaaGreatDoor
open Go.RowKit
set_option linter.unusedVariables false
set_option linter.unusedSimpArgs false
set_option maxRecDepth 100000
def upz (i:Nat) (r:Pz Int):Sp:=⟨(i+r.n:Nat),r.v,r.e⟩
theorem inB_at {t:ByteArray} {i:Nat} (h:i≤t.size):inB t i=true:=by unfold inB;simp;omega
theorem rest_len {t:ByteArray} {i:Nat} (h:i≤t.size):((bs t).drop i).length+i=t.size:=by rw [List.length_drop,bs_len];omega
theorem stk_up {t:ByteArray} {i:Nat} (h:i≤t.size) (c:Nat):stk t.size ((i:Int)+c)=upz i (stz ((bs t).drop i) c 0):=by
 have:=rest_len h
 unfold stk stz upz
 by_cases e:c=((bs t).drop i).length
 ·rw [if_pos (by omega),if_pos e];simp
 ·rw [if_neg (by omega),if_neg e];simp
theorem word_up {t:ByteArray} {i:Nat} (h:i≤t.size) (w:ByteArray):wordP t w i=upz i (wdz (bs w) ((bs t).drop i)):=by
 unfold wordP
 rw [if_pos (inB_at h)]
 unfold wdz
 rw [Int.toNat_natCast,bs_len]
 split
 ·unfold upz;simp
 ·exact stk_up h _
theorem numGo_up (z:Nat) (i:Nat) (lo hi:Int):∀ (M:List UInt8) (j:Nat) (n:Int),numGo z i lo hi M j n=upz i (nbGo lo hi M j n)
 | [],j,n=>by
  unfold numGo nbGo upz
  split <;> simp
 | b::r,j,n=>by
  have ih:=numGo_up z i lo hi r (j+1) (10*n+(b.toNat-48))
  unfold numGo
  rw [nbGo_cons]
  split
  ·split
   ·unfold upz;simp
   ·split
    ·unfold upz;simp
    ·exact ih
  ·split <;> (unfold upz;simp)
theorem num_up {t:ByteArray} {i:Nat} (h:i≤t.size) {lo hi:Int} (h0:0≤lo) (h1:lo≤hi) (h2:hi≤1000000):numP t i lo hi=upz i (nbz lo hi ((bs t).drop i)):=by
 unfold numP
 rw [if_pos (by unfold numB;rw [inB_at h];simp [h0,h1,h2]),numGo_up,Int.toNat_natCast];rfl
theorem sqGo_cons (i:Int) (a:UInt8) (r:List UInt8):sqGo i (a::r)=if a.toNat<97∨104<a.toNat then ⟨i,0,2⟩ else match r with
  | []=>⟨i+1,0,1⟩
  | b::_=>if b.toNat<49∨56<b.toNat then ⟨i+1,0,2⟩ else ⟨i+2,8*(b.toNat-49)+(a.toNat-97),0⟩:=rfl
theorem sq_up {t:ByteArray} {i:Nat} (h:i≤t.size):sqP t i=upz i (sqz ((bs t).drop i)):=by
 unfold sqP
 rw [if_pos (inB_at h),Int.toNat_natCast]
 generalize (bs t).drop i=M
 rcases M with _|⟨a,M⟩
 ·unfold sqGo sqz upz;simp
 ·rw [sqGo_cons,sqz_cons]
  split
  ·unfold upz;simp
  ·rcases M with _|⟨b,M⟩
   ·unfold upz;simp
   ·dsimp only
    split <;> (unfold upz;simp)
theorem ap_map {L:List Nat} {T:Nat→ByteArray} (hA:ApW L fun i=>bs (T i)) (hn:L.Nodup) (hL:L≠[]) {ws:List ByteArray} (hp:ws.Perm (L.map T)):Apart ws:=by
 refine ⟨?_,fun x hx=>?_,?_⟩
 ·intro e
  rw [e] at hp
  have:=hp.length_eq
  simp at this
  exact hL (List.eq_nil_of_length_eq_zero this.symm)
 ·obtain ⟨i,hi,rfl⟩:=List.mem_map.1 (hp.mem_iff.1 hx)
  exact hA.ne i hi
 ·have h2:(L.map T).Pairwise fun a b=>¬ bs a <+: bs b∧¬ bs b <+: bs a:=by
   rw [List.pairwise_map]
   exact hn.imp_of_mem fun {a b} ha hb hab=>⟨fun h=>hab (hA.ap a ha b hb h),fun h=>hab (hA.ap b hb a ha h).symm⟩
  exact (hp.symm.pairwise_iff (fun {a b} h=>⟨h.2,h.1⟩)).1 h2
theorem one_up {t:ByteArray} {i:Nat} (h:i≤t.size) {L:List Nat} {T:Nat→ByteArray} (hA:ApW L fun i=>bs (T i)) (hn:L.Nodup) (hL:L≠[]) {ws:List ByteArray} (hp:ws.Perm (L.map T)) :
  ((chz L (fun i=>bs (T i)) ((bs t).drop i)).e=0∧∃ j:Nat,ws[j]?=some (T (chz L (fun i=>bs (T i)) ((bs t).drop i)).v)∧oneP t ws i=⟨(i+(chz L (fun i=>bs (T i)) ((bs t).drop i)).n:Nat),(j:Int),0⟩) ∨
  ((chz L (fun i=>bs (T i)) ((bs t).drop i)).e≠0∧oneP t ws i=⟨(i+(chz L (fun i=>bs (T i)) ((bs t).drop i)).n:Nat),0,(chz L (fun i=>bs (T i)) ((bs t).drop i)).e⟩):=by
 have ha:=ap_map hA hn hL hp
 have h1:oneP t ws i=oneGo t.size i ((bs t).drop i) ws 0 0:=by
  unfold oneP
  rw [if_pos ⟨inB_at h,(apB_iff ws).2 ha⟩,Int.toNat_natCast]
 rw [h1]
 have full:∀ w,cmn ((bs t).drop i) (bs w)=w.size↔bs w <+: (bs t).drop i:=fun w=>by rw [← bs_len];exact cmn_full _ _
 rcases chz_cases L (fun i=>bs (T i)) ((bs t).drop i) with ⟨k,hk,hw⟩|hno
 ·refine .inl ?_
  rw [chz_some hA hk hw]
  refine ⟨rfl,?_⟩
  have hm:T k ∈ ws:=hp.mem_iff.2 (List.mem_map.2 ⟨k,hk,rfl⟩)
  obtain ⟨j,hj,e⟩:=List.getElem_of_mem hm
  have hj2:ws[j]?=some (T k):=by rw [List.getElem?_eq_getElem hj,e]
  refine ⟨j,hj2,?_⟩
  have:=oneGo_some t.size i ((bs t).drop i) ws 0 0 j (T k) hj2 ((full _).2 hw) fun j' hj' w' hw' hc=>by
   have h3:=(full _).1 hc
   rcases List.prefix_or_prefix_of_prefix hw h3 with h4|h4
   ·exact apart_two ha hj2 hw' (by omega) h4
   ·exact apart_two ha hw' hj2 (by omega) h4
  rw [this]
  simp [bs_len]
 ·refine .inr ?_
  have hn2:∀ w ∈ ws,cmn ((bs t).drop i) (bs w)≠w.size:=fun w hw hc=>by
   obtain ⟨k,hk,rfl⟩:=List.mem_map.1 (hp.mem_iff.1 hw)
   exact hno k hk ((full _).1 hc)
  obtain ⟨mx,e,_,h3,h4⟩:=oneGo_none t.size i ((bs t).drop i) ws 0 0 hn2
  have hf:mx=farz ((bs t).drop i) (fun i=>bs (T i)) L:=far_uniq (fun k hk=>h3 (T k) (hp.mem_iff.2 (List.mem_map.2 ⟨k,hk,rfl⟩))) (by
   rcases h4 with h4|⟨w,hw,h4⟩
   ·exact .inl h4
   ·obtain ⟨k,hk,rfl⟩:=List.mem_map.1 (hp.mem_iff.1 hw)
    exact .inr ⟨k,hk,h4.symm⟩)
  rw [chz_none hno,e,stk_up h,hf]
  refine ⟨?_,rfl⟩
  unfold stz
  dsimp only
  split <;> simp
theorem one_in {t:ByteArray} {i:Nat} (h:i≤t.size) {n:Nat} (h0:n≠0) {T:Nat→ByteArray} (hA:ApW (List.range n) fun i=>bs (T i)) :
  oneP t ((List.range n).map T) i=⟨(i+(chz (List.range n) (fun i=>bs (T i)) ((bs t).drop i)).n:Nat),((chz (List.range n) (fun i=>bs (T i)) ((bs t).drop i)).v:Nat),(chz (List.range n) (fun i=>bs (T i)) ((bs t).drop i)).e⟩:=by
 rcases one_up h hA List.nodup_range (by intro e;exact h0 (List.range_eq_nil.1 e)) (List.Perm.refl _) with ⟨h1,j,h2,h3⟩|⟨h1,h2⟩
 ·obtain ⟨c1,c2,c3⟩:=chz_ok h1
  rw [h3,h1]
  have hj:j<n:=by
   have:=(List.getElem?_eq_some_iff.1 h2).1
   simpa using this
  rw [List.getElem?_map,List.getElem?_range hj] at h2
  have e:T j=T (chz (List.range n) (fun i=>bs (T i)) ((bs t).drop i)).v:=by simpa using h2
  have:=hA.ap j (List.mem_range.2 hj) _ c1 (by rw [e];exact List.prefix_rfl)
  rw [← this]
 ·rw [h2]
  have:(chz (List.range n) (fun i=>bs (T i)) ((bs t).drop i)).v=0:=by
   rcases chz_cases (List.range n) (fun i=>bs (T i)) ((bs t).drop i) with ⟨k,hk,hw⟩|hno
   ·rw [chz_some hA hk hw] at h1;exact absurd rfl h1
   ·rw [chz_none hno];rfl
  rw [this];rfl
theorem hdT_map:hdT=(List.range 15).map fun i=>opT (hdL.getD i (0,0)).1 (hdL.getD i (0,0)).2:=rfl
theorem hdW_is:(fun i=>bs (opT (hdL.getD i (0,0)).1 (hdL.getD i (0,0)).2))=hdW:=by funext i;exact bs_opT _ _
theorem upz_e (i:Nat) (r:Pz Int):(upz i r).e=r.e:=rfl
theorem wdz_v (w M:List UInt8):(wdz w M).v=0:=by unfold wdz;split <;> rfl
theorem nbGo_v (lo hi:Int):∀ (M:List UInt8) (j:Nat) (n:Int),(nbGo lo hi M j n).e≠0→(nbGo lo hi M j n).v=0
 | [],j,n=>by
  unfold nbGo
  split
  ·intro h;exact absurd rfl h
  ·intro _;rfl
 | b::r,j,n=>by
  rw [nbGo_cons]
  split
  ·split
   ·intro _;rfl
   ·split
    ·intro _;rfl
    ·exact nbGo_v lo hi r _ _
  ·split
   ·intro h;exact absurd rfl h
   ·intro _;rfl
theorem chz_v {L:List Nat} {W:Nat→List UInt8} {M:List UInt8} (h:(chz L W M).e≠0):(chz L W M).v=0:=by
 unfold chz at *
 split
 ·rename_i hf;rw [hf] at h;exact absurd rfl h
 ·rfl
theorem stip_up {t:ByteArray} {i:Nat} (h:i≤t.size):rdP t i=((spz ((bs t).drop i)).v,⟨(i+(spz ((bs t).drop i)).n:Nat),0,(spz ((bs t).drop i)).e⟩):=by
 have ho:=one_in h (n:=15) (by omega) (T:=fun i=>opT (hdL.getD i (0,0)).1 (hdL.getD i (0,0)).2) (by rw [hdW_is];exact hd_ap)
 rw [← hdT_map,hdW_is] at ho
 unfold rdP
 rw [ho]
 generalize hM:(bs t).drop i=M
 unfold spz rdO
 by_cases h1:(chz hdI hdW M).e=0
 ·rw [if_neg (by intro c;exact c h1),andz_ok h1]
  have hn:i+(chz hdI hdW M).n≤t.size:=by
   have:=(chz_gd hd_ap).le M
   have:=rest_len h
   rw [hM] at this;omega
  have hv:=(chz_ok h1).1
  have hg:hdS.getD (chz hdI hdW M).v Zt=⟨(hdL.getD (chz hdI hdW M).v (0,0)).1,(hdL.getD (chz hdI hdW M).v (0,0)).2,0,false⟩:=by
   have hl:(chz hdI hdW M).v<hdL.length:=List.mem_range.1 hv
   rw [hdS_at (List.getElem?_eq_getElem hl)]
   simp [List.getD,List.getElem?_eq_getElem hl]
  dsimp only
  rw [show (chz (List.range 15) hdW M).v=(chz hdI hdW M).v from rfl,Int.toNat_natCast,hg]
  generalize hq:hdL.getD (chz hdI hdW M).v (0,0)=q
  have hls:0≤lstI (decide (q.1=5))∧lstI (decide (q.1=5))≤1:=by unfold lstI;split <;> omega
  have hnum:=num_up hn hls.1 (hi:=64) (by omega) (by omega)
  have hd:(bs t).drop (i+(chz hdI hdW M).n)=M.drop (chz hdI hdW M).n:=by rw [← List.drop_drop,hM]
  rw [show (chz (List.range 15) hdW M).n=(chz hdI hdW M).n from rfl]
  dsimp only
  rw [hnum,hd]
  generalize (chz hdI hdW M).n=c at *
  generalize hR:M.drop c=R at *
  unfold sp1 rdV
  by_cases h2:(nbz (lstI (decide (q.1=5))) 64 R).e=0
  ·rw [if_neg (by rw [upz_e];intro x;exact x h2),andz_ok h2]
   have hn2:i+c+(nbz (lstI (decide (q.1=5))) 64 R).n≤t.size:=by
    have:=(nbz_gd (lstI (decide (q.1=5))) 64).le R
    have:=rest_len hn
    rw [hd] at this;omega
   have hd2:(bs t).drop (i+c+(nbz (lstI (decide (q.1=5))) 64 R).n)=R.drop (nbz (lstI (decide (q.1=5))) 64 R).n:=by rw [← List.drop_drop,hd]
   unfold goB upz
   dsimp only
   rw [word_up hn2,word_up hn2,hd2]
   generalize hb:nbz (lstI (decide (q.1=5))) 64 R=nb at *
   unfold hlz
   dsimp only
   have hdot:bs dotT=[46]:=rfl
   have hhf:bs hfT=[46,53]:=rfl
   rw [hdot,hhf]
   by_cases h3:q.1=5∧(nb.v=0∨(wdz [46] (R.drop nb.n)).e=0)
   ·have h3b:(decide (q.1=5) && (decide (nb.v=0) || decide ((wdz [46] (R.drop nb.n)).e=0)))=true:=by simpa using h3
    rw [if_pos (by exact h3b),if_pos h3]
    unfold rdW
    rw [upz_e]
    by_cases h4:(wdz [46,53] (R.drop nb.n)).e=0
    ·rw [if_neg (by intro x;exact x h4),andz_ok h4]
     unfold upz rtz
     rw [wdz_v]
     simp [h4,Nat.add_assoc]
    ·rw [if_pos h4,andz_no h4]
     unfold upz
     rw [wdz_v]
     simp [Nat.add_assoc]
   ·have h3b:¬ (decide (q.1=5) && (decide (nb.v=0) || decide ((wdz [46] (R.drop nb.n)).e=0)))=true:=by simpa using h3
    rw [if_neg (by exact h3b),if_neg h3]
    simp [Nat.add_assoc]
  ·rw [if_pos (by rw [upz_e];exact h2),andz_no h2]
   unfold upz
   rw [show (nbz (lstI (decide (q.1=5))) 64 R).v=0 from nbGo_v _ _ _ _ _ h2]
   simp [Nat.add_assoc]
 ·rw [andz_no h1,if_pos (by exact h1),show (chz (List.range 15) hdW M).v=0 from chz_v h1]
  rfl
theorem mright_yes (m:Int) (w:World) (h0:m≠0) (h1:-6≤m) (h2:m≤6) :
  Calls Tryz.prog 127 #[.int .i64 m] w fun e w'=>e=.returned (.bool true)∧w=w':=by
 have b0:(m != 0)=true:=bne_iff_ne.2 h0
 have b1:(m == 0)=false:=beq_eq_false_iff_ne.2 h0
 go_enter Tryz.func127,Tryz.ntmps127
 go_wp2
 go_ret
 exact ⟨rfl,rfl⟩
theorem mright_no (m:Int) (w:World) (h:m < -6∨m=0∨6<m) :
  Calls Tryz.prog 127 #[.int .i64 m] w fun e w'=>e=.returned (.bool false)∧w=w':=by
 rcases h with h|h|h
 ·have b0:(m != 0)=true:=bne_iff_ne.2 (by omega)
  have b1:decide (-6≤m)=false:=by simp;omega
  go_enter Tryz.func127,Tryz.ntmps127
  go_wp2
  go_ret
  exact ⟨rfl,rfl⟩
 ·subst h
  go_enter Tryz.func127,Tryz.ntmps127
  go_wp2
  go_ret
  exact ⟨rfl,rfl⟩
 ·have b0:(m != 0)=true:=bne_iff_ne.2 (by omega)
  have b1:-6≤m:=by omega
  have b2:decide (m≤6)=false:=by simp;omega
  go_enter Tryz.func127,Tryz.ntmps127
  go_wp2
  go_ret
  exact ⟨rfl,rfl⟩
theorem mkind_no (m:Int) (w:World) (h:m < -6∨m=0∨6<m) :
  Calls Tryz.prog 134 #[.int .i64 m] w fun e w'=>e=.returned (.int .i64 0)∧w=w':=by
 go_enter Tryz.func134,Tryz.ntmps134
 go_wp2_with fail
 refine (mright_no _ _ h).mono ?_
 rintro e w' ⟨rfl,rfl⟩
 go_wp2
 go_ret
 exact ⟨rfl,rfl⟩
theorem mkind_w (m:Int) (w:World) (h0:0<m) (h1:m≤6) :
  Calls Tryz.prog 134 #[.int .i64 m] w fun e w'=>e=.returned (.int .i64 m)∧w=w':=by
 go_enter Tryz.func134,Tryz.ntmps134
 go_wp2_with fail
 refine (mright_yes _ _ (by omega) (by omega) (by omega)).mono ?_
 rintro e w' ⟨rfl,rfl⟩
 go_wp2
 go_ret
 exact ⟨ret_int (by omega),rfl⟩
theorem mkind_b (m:Int) (w:World) (h0:m<0) (h1:-6≤m) :
  Calls Tryz.prog 134 #[.int .i64 m] w fun e w'=>e=.returned (.int .i64 (-m))∧w=w':=by
 go_enter Tryz.func134,Tryz.ntmps134
 go_wp2_with fail
 refine (mright_yes _ _ (by omega) (by omega) (by omega)).mono ?_
 rintro e w' ⟨rfl,rfl⟩
 go_wp2
 go_ret
 exact ⟨ret_int (by omega),rfl⟩
theorem mside_no (m:Int) (w:World) (h:m < -6∨m=0∨6<m) :
  Calls Tryz.prog 133 #[.int .i64 m] w fun e w'=>e=.returned (.int .i64 (-1))∧w=w':=by
 go_enter Tryz.func133,Tryz.ntmps133
 go_wp2_with fail
 refine (mright_no _ _ h).mono ?_
 rintro e w' ⟨rfl,rfl⟩
 go_wp2
 go_ret
 exact ⟨rfl,rfl⟩
theorem mside_w (m:Int) (w:World) (h0:0<m) (h1:m≤6) :
  Calls Tryz.prog 133 #[.int .i64 m] w fun e w'=>e=.returned (.int .i64 0)∧w=w':=by
 go_enter Tryz.func133,Tryz.ntmps133
 go_wp2_with fail
 refine (mright_yes _ _ (by omega) (by omega) (by omega)).mono ?_
 rintro e w' ⟨rfl,rfl⟩
 go_wp2
 go_ret
 exact ⟨rfl,rfl⟩
theorem mside_b (m:Int) (w:World) (h0:m<0) (h1:-6≤m) :
  Calls Tryz.prog 133 #[.int .i64 m] w fun e w'=>e=.returned (.int .i64 1)∧w=w':=by
 go_enter Tryz.func133,Tryz.ntmps133
 go_wp2_with fail
 refine (mright_yes _ _ (by omega) (by omega) (by omega)).mono ?_
 rintro e w' ⟨rfl,rfl⟩
 go_wp2
 go_ret
 exact ⟨rfl,rfl⟩
theorem make_noside (k s:Int) (w:World) (h1:1≤k) (h6:k≤6) (h:s≠0) (h':s≠1) :
  Calls Tryz.prog 136 #[.int .i64 k,.int .i64 s] w fun e w'=>e=.returned (.int .i64 0)∧w=w':=by
 have b:decide (k<1)=false:=by simp;omega
 have b':decide (6<k)=false:=by simp;omega
 have c:(s == 0)=false:=beq_eq_false_iff_ne.2 h
 have c':(s == 1)=false:=beq_eq_false_iff_ne.2 h'
 clear h h'
 go_enter Tryz.func136,Tryz.ntmps136
 go_wp2
 go_ret
 exact ⟨rfl,rfl⟩
theorem make_w (k:Int) (w:World) (h1:1≤k) (h6:k≤6) :
  Calls Tryz.prog 136 #[.int .i64 k,.int .i64 0] w fun e w'=>e=.returned (.int .i64 k)∧w=w':=by
 have b:decide (k<1)=false:=by simp;omega
 have b':decide (6<k)=false:=by simp;omega
 go_enter Tryz.func136,Tryz.ntmps136
 go_wp2
 go_ret
 exact ⟨rfl,rfl⟩
theorem make_b (k:Int) (w:World) (h1:1≤k) (h6:k≤6) :
  Calls Tryz.prog 136 #[.int .i64 k,.int .i64 1] w fun e w'=>e=.returned (.int .i64 (-k))∧w=w':=by
 have b:decide (k<1)=false:=by simp;omega
 have b':decide (6<k)=false:=by simp;omega
 go_enter Tryz.func136,Tryz.ntmps136
 go_wp2
 go_ret
 exact ⟨rfl,rfl⟩
def inOrd (n:Nat):Int:=if n<6 then 6-(n:Int) else (n:Int)-12
theorem inOrder_is (n:Nat) (w:World) (h:n<12) :
  Calls Tryz.prog 152 #[.int .i64 n] w fun e w'=>e=.returned (.int .i64 (inOrd n))∧w=w':=by
 by_cases h6:n<6
 ·have e1:(n:Int) / 6=0:=by omega
  have e2:(n:Int) % 6=n:=by omega
  go_enter Tryz.func152,Tryz.ntmps152
  go_wp2_with fail
  refine (make_w _ _ (by omega) (by omega)).mono ?_
  rintro e w' ⟨rfl,rfl⟩
  go_wp2
  go_ret
  exact ⟨ret_int (by simp [inOrd,h6]),rfl⟩
 ·have e1:(n:Int) / 6=1:=by omega
  have e2:(n:Int) % 6=n-6:=by omega
  go_enter Tryz.func152,Tryz.ntmps152
  go_wp2_with fail
  refine (make_b _ _ (by omega) (by omega)).mono ?_
  rintro e w' ⟨rfl,rfl⟩
  go_wp2
  go_ret
  exact ⟨ret_int (by simp only [inOrd,h6,if_false];omega),rfl⟩
theorem mside_ord (n:Nat) (hn:n<12) (w:World) :
  Calls Tryz.prog 133 #[.int .i64 (inOrd n)] w fun e w'=>e=.returned (.int .i64 ((n:Int) / 6))∧w=w':=by
 by_cases h6:n<6
 ·have e0:inOrd n=6-(n:Int):=by unfold inOrd;rw [if_pos h6]
  have e1:(n:Int) / 6=0:=by omega
  rw [e0,e1]
  exact mside_w _ w (by omega) (by omega)
 ·have e0:inOrd n=(n:Int)-12:=by unfold inOrd;rw [if_neg h6]
  have e1:(n:Int) / 6=1:=by omega
  rw [e0,e1]
  exact mside_b _ w (by omega) (by omega)
theorem rkind_no (m:Int) (w:World) (h:m < -6∨m=0∨6<m) :
  Calls Tryz.prog 81 #[.int .i64 m] w fun e w'=>e=.returned (.int .i64 0)∧w=w':=by
 have H:=Qh h
 clear h
 go_enter Tryz.func81,Tryz.ntmps81
 go_wp2
 go_loop [3] (fun t=>∃ k:Int,1≤k∧k≤7∧t=.int .i64 k) (fun t=>7-(intOf t).toNat)
 case atStart=>exact ⟨1,by omega,by omega,rfl⟩
 case round =>
  obtain ⟨k,h1,h7,rfl⟩:=hrel
  by_cases hk:k≤6
  ·have b1:(m == k)=false:=beq_eq_false_iff_ne.2 (by have:=H.out;omega)
   have b2:(m == 0-k)=false:=beq_eq_false_iff_ne.2 (by have:=H.out;omega)
   have b3:(m == -k)=false:=beq_eq_false_iff_ne.2 (by have:=H.out;omega)
   go_wp2
   go_round
   case rel=>exact ⟨k+1,by omega,by omega,rfl⟩
   case measure=>simp [intOf];omega
  ·go_wp2
   go_ret
   exact ⟨rfl,rfl⟩
theorem rkind_yes (m q:Int) (w:World) (h:m=q∨m=-q) (h1:1≤q) (h6:q≤6) :
  Calls Tryz.prog 81 #[.int .i64 m] w fun e w'=>e=.returned (.int .i64 q)∧w=w':=by
 have H:=Qh h
 clear h
 go_enter Tryz.func81,Tryz.ntmps81
 go_wp2
 go_loop [3] (fun t=>∃ k:Int,1≤k∧k≤q∧t=.int .i64 k) (fun t=>7-(intOf t).toNat)
 case atStart=>exact ⟨1,by omega,by omega,rfl⟩
 case round =>
  obtain ⟨k,h1,h7,rfl⟩:=hrel
  by_cases hk:k=q
  ·subst hk
   rcases H.out with h|h
   ·subst h
    go_wp2
    go_ret
    exact ⟨rfl,rfl⟩
   ·have b1:(m == k)=false:=beq_eq_false_iff_ne.2 (by omega)
    have b2:(m == 0-k)=true:=beq_iff_eq.2 (by omega)
    have b3:(m == -k)=true:=beq_iff_eq.2 (by omega)
    clear h
    go_wp2
    go_ret
    exact ⟨rfl,rfl⟩
  ·have b1:(m == k)=false:=beq_eq_false_iff_ne.2 (by have:=H.out;omega)
   have b2:(m == 0-k)=false:=beq_eq_false_iff_ne.2 (by have:=H.out;omega)
   have b3:(m == -k)=false:=beq_eq_false_iff_ne.2 (by have:=H.out;omega)
   have hlt:k<q:=by omega
   clear hk
   go_wp2
   go_round
   case rel=>exact ⟨k+1,by omega,by omega,rfl⟩
   case measure=>simp [intOf];omega
theorem inOrd_inj {a b:Nat} (ha:a<12) (hb:b<12) (h:a≠b):inOrd a≠inOrd b:=by
 unfold inOrd
 split <;> split <;> omega
theorem inOrd_man (n:Nat) (h:n<12):inOrd n≠0∧-6≤inOrd n∧inOrd n≤6:=by
 unfold inOrd
 split <;> omega
def letters:ByteArray:=⟨#[75,81,82,66,78,80,107,113,114,98,110,112]⟩
def signs:ByteArray:=⟨#[226,153,148,226,153,149,226,153,150,226,153,151,226,153,152,226,153,153,226,153,154,226,153,155,226,153,156,226,153,157,226,153,158,226,153,159]⟩
def runeL (n:Nat):Nat:=[75,81,82,66,78,80,107,113,114,98,110,112].getD n 0
def runeS (n:Nat):Nat:=9812+n
def Twelve (all:ByteArray) (k:Nat) (r:Nat→Nat):Prop:=all.size=12*k∧1≤k∧(∀ n,n<12→Utf8.decode all (k*n)=(r n,k))∧(∀ a b,a<12→b<12→a≠b→r a≠r b)∧(∀ n,n<12→r n<10000)
theorem twelve_letters:Twelve letters 1 runeL:=by
 refine ⟨rfl,by omega,?_,?_,?_⟩
 ·have:∀ n:Fin 12,Utf8.decode letters (1*n.val)=(runeL n.val,1):=by decide +kernel
  exact fun n h=>this ⟨n,h⟩
 ·have:∀ a b:Fin 12,a.val≠b.val→runeL a.val≠runeL b.val:=by decide +kernel
  exact fun a b ha hb=>this ⟨a,ha⟩ ⟨b,hb⟩
 ·have:∀ n:Fin 12,runeL n.val<10000:=by decide +kernel
  exact fun n h=>this ⟨n,h⟩
theorem twelve_signs:Twelve signs 3 runeS:=by
 refine ⟨rfl,by omega,?_,?_,?_⟩
 ·have:∀ n:Fin 12,Utf8.decode signs (3*n.val)=(runeS n.val,3):=by decide +kernel
  exact fun n h=>this ⟨n,h⟩
 ·unfold runeS;omega
 ·unfold runeS;omega
theorem twelve_next {all:ByteArray} {k:Nat} {r:Nat→Nat} (h:Twelve all k r) (w:World) (j:Nat) (hj:j<12) (ty:TypeId) :
  (Instr.next (.pointer (some ⟨w.heap.size,0,none⟩)) true ty).run Tryz.prog (w.iter all (k*j))=.ok (.tuple #[.bool true,.int .i64 (k*j:Nat),.int .i32 (r j:Nat)]) (w.iter all (k*(j+1))):=by
 have hp:k*j<all.size:=by rw [h.1,Nat.mul_comm];exact Nat.mul_lt_mul_of_pos_right hj h.2.1
 rw [run_next_any w all (k*j) ty hp,h.2.2.1 j hj,Nat.mul_succ]
theorem twelve_end {all:ByteArray} {k:Nat} {r:Nat→Nat} (h:Twelve all k r) (w:World) (ty:TypeId) :
  (Instr.next (.pointer (some ⟨w.heap.size,0,none⟩)) true ty).run Tryz.prog (w.iter all (k*12))=.ok (.tuple #[.bool false]) (w.iter all (k*12)) :=
 run_next_end w all (k*12) ty (by rw [h.1,Nat.mul_comm];omega)

theorem pick_yes (all:ByteArray) (k:Nat) (r:Nat→Nat) (T:Twelve all k r) (n:Nat) (hn:n<12) (w:World) :
  Calls Tryz.prog 129 #[.string all,.int .i64 (inOrd n)] w fun e w'=>e=.returned (.string (Utf8.encode (r n:Nat)))∧Grown w w':=by
 have HT:=Qh T
 clear T
 go_enter Tryz.func129,Tryz.ntmps129
 go_wp2
 go_loopw [5] (fun t5 w'=>∃ j:Nat,j≤n∧t5=.int .i64 j∧w'=w.iter all (k*j)) (fun t5 _=>12-(intOf t5).toNat)
 case atStart=>exact ⟨0,by omega,rfl,rfl⟩
 case round =>
  obtain ⟨j,hj,rfl,rfl⟩:=hrel
  have hnx:=twelve_next HT.out w j (by omega)
  by_cases he:j=n
  ·subst he
   go_wp2_with fail
   refine (inOrder_is j _ (by omega)).mono ?_
   rintro e w' ⟨rfl,rfl⟩
   go_wp2
   go_ret
   exact ⟨rfl,grown_iter _ _ _⟩
  ·have b1:(inOrd j == inOrd n)=false:=beq_eq_false_iff_ne.2 (inOrd_inj (by omega) (by omega) he)
   have hlt:j<n:=by omega
   clear he
   go_wp2_with fail
   refine (inOrder_is j _ (by omega)).mono ?_
   rintro e w' ⟨rfl,rfl⟩
   go_wp2
   go_roundw
   case rel=>exact ⟨j+1,by omega,by go_num,rfl⟩
   case measure=>simp [intOf];omega
theorem pick_no (all:ByteArray) (k:Nat) (r:Nat→Nat) (T:Twelve all k r) (m:Int) (w:World) (h:m < -6∨m=0∨6<m) :
  Calls Tryz.prog 129 #[.string all,.int .i64 m] w fun e w'=>e=.returned (.string ⟨#[]⟩)∧Grown w w':=by
 have HT:=Qh T
 have H:=Qh h
 clear T h
 go_enter Tryz.func129,Tryz.ntmps129
 go_wp2
 go_loopw [5] (fun t5 w'=>∃ j:Nat,j≤12∧t5=.int .i64 j∧w'=w.iter all (k*j)) (fun t5 _=>12-(intOf t5).toNat)
 case atStart=>exact ⟨0,by omega,rfl,rfl⟩
 case round =>
  obtain ⟨j,hj,rfl,rfl⟩:=hrel
  by_cases he:j=12
  ·subst he
   have hnx:=twelve_end HT.out w
   go_wp2
   go_ret
   exact ⟨rfl,grown_iter _ _ _⟩
  ·have hnx:=twelve_next HT.out w j (by omega)
   have b1:(inOrd j == m)=false:=beq_eq_false_iff_ne.2 (by have:=inOrd_man j (by omega);have:=H.out;omega)
   have hlt:j<12:=by omega
   clear he
   go_wp2_with fail
   refine (inOrder_is j _ (by omega)).mono ?_
   rintro e w' ⟨rfl,rfl⟩
   go_wp2
   go_roundw
   case rel=>exact ⟨j+1,by omega,by go_num,rfl⟩
   case measure=>simp [intOf];omega
def lettN (n:Nat):ByteArray:=⟨#[(runeL n).toUInt8]⟩
def signN (n:Nat):ByteArray:=⟨#[226,153,(148+n).toUInt8]⟩
theorem enc_letter (n:Nat) (h:n<12):Utf8.encode (runeL n:Nat)=lettN n:=by
 have:∀ n:Fin 12,Utf8.encode (runeL n.val:Nat)=lettN n.val:=by decide +kernel
 exact this ⟨n,h⟩
theorem letter_yes (n:Nat) (hn:n<12) (w:World) :
  Calls Tryz.prog 86 #[.int .i64 (inOrd n)] w fun e w'=>e=.returned (.string (lettN n))∧Grown w w':=by
 go_enter Tryz.func86,Tryz.ntmps86
 go_wp2_with fail
 refine (pick_yes letters 1 runeL twelve_letters n hn _).mono ?_
 rw [enc_letter n hn]
 rintro e w1 ⟨rfl,g1⟩
 go_wp2
 go_ret
 exact ⟨rfl,g1⟩
theorem letter_no (m:Int) (w:World) (h:m < -6∨m=0∨6<m) :
  Calls Tryz.prog 86 #[.int .i64 m] w fun e w'=>e=.returned (.string ⟨#[]⟩)∧Grown w w':=by
 go_enter Tryz.func86,Tryz.ntmps86
 go_wp2_with fail
 refine (pick_no letters 1 runeL twelve_letters m _ h).mono ?_
 rintro e w1 ⟨rfl,gw1⟩
 go_wp2
 go_ret
 exact ⟨rfl,gw1⟩
theorem rletter_no (m:Int) (w:World) (h:m < -6∨m=0∨6<m) :
  Calls Tryz.prog 40 #[.int .i64 m] w fun e w'=>e=.returned (.string ⟨#[]⟩)∧w=w':=by
 go_enter Tryz.func40,Tryz.ntmps40
 go_wp2_with fail
 refine (rkind_no _ _ h).mono ?_
 rintro e w' ⟨rfl,rfl⟩
 go_wp2
 go_ret
 exact ⟨rfl,rfl⟩
theorem cut_w (n:Nat) (h:n<6):(⟨#[80,78,66,82,81,75]⟩:ByteArray).extract (6-n-1) (6-n)=lettN n:=by
 have:∀ n:Fin 6,(⟨#[80,78,66,82,81,75]⟩:ByteArray).extract (6-n.val-1) (6-n.val)=lettN n.val:=by decide +kernel
 exact this ⟨n,h⟩
theorem cut_b (n:Nat) (h6:6≤n) (h:n<12):(⟨#[112,110,98,114,113,107]⟩:ByteArray).extract (12-n-1) (12-n)=lettN n:=by
 have:∀ n:Fin 12,6≤n.val→(⟨#[112,110,98,114,113,107]⟩:ByteArray).extract (12-n.val-1) (12-n.val)=lettN n.val:=by decide +kernel
 exact this ⟨n,h⟩ h6
theorem rletter_yes (n:Nat) (hn:n<12) (w:World) :
  Calls Tryz.prog 40 #[.int .i64 (inOrd n)] w fun e w'=>e=.returned (.string (lettN n))∧w=w':=by
 by_cases h6:n<6
 ·have e0:inOrd n=6-(n:Int):=by unfold inOrd;rw [if_pos h6]
  have e1:IntKind.i64.wrap (6-(n:Int)-1)=6-(n:Int)-1:=IntWalk.i64_in _ (by omega)
  have b1:0≤6-(n:Int)-1:=by omega
  have b2:6-(n:Int)-1≤6-(n:Int):=by omega
  have b3:6-(n:Int)≤6:=by omega
  have b4:((6-(n:Int)) == 0)=false:=beq_eq_false_iff_ne.2 (by omega)
  have b5:0<6-(n:Int):=by omega
  rw [e0]
  go_enter Tryz.func40,Tryz.ntmps40
  go_wp2_with fail
  refine (rkind_yes _ (6-(n:Int)) _ (.inl rfl) (by omega) (by omega)).mono ?_
  rintro e w' ⟨rfl,rfl⟩
  go_wp2
  go_ret
  exact ⟨congrArg (fun b=>Ending.returned (.string b)) (cut_w n h6),rfl⟩
 ·have e0:inOrd n=(n:Int)-12:=by unfold inOrd;rw [if_neg h6]
  have e1:IntKind.i64.wrap (12-(n:Int)-1)=12-(n:Int)-1:=IntWalk.i64_in _ (by omega)
  have b1:0≤12-(n:Int)-1:=by omega
  have b2:12-(n:Int)-1≤12-(n:Int):=by omega
  have b3:12-(n:Int)≤6:=by omega
  have b4:((12-(n:Int)) == 0)=false:=beq_eq_false_iff_ne.2 (by omega)
  have b5:decide (0<(n:Int)-12)=false:=by simp;omega
  rw [e0]
  go_enter Tryz.func40,Tryz.ntmps40
  go_wp2_with fail
  refine (rkind_yes _ (12-(n:Int)) _ (.inr (by omega)) (by omega) (by omega)).mono ?_
  rintro e w' ⟨rfl,rfl⟩
  go_wp2
  go_ret
  exact ⟨congrArg (fun b=>Ending.returned (.string b)) (cut_b n (by omega) hn),rfl⟩
theorem seek_yes (all:ByteArray) (k:Nat) (r:Nat→Nat) (T:Twelve all k r) (n:Nat) (hn:n<12) (w:World) :
  Calls Tryz.prog 188 #[.string all,.int .i32 (r n:Nat)] w fun e w'=>e=.returned (.int .i64 (inOrd n))∧Grown w w':=by
 have HT:=Qh T
 clear T
 go_enter Tryz.func188,Tryz.ntmps188
 go_wp2
 go_loopw [5] (fun t5 w'=>∃ j:Nat,j≤n∧t5=.int .i64 j∧w'=w.iter all (k*j)) (fun t5 _=>12-(intOf t5).toNat)
 case atStart=>exact ⟨0,by omega,rfl,rfl⟩
 case round =>
  obtain ⟨j,hj,rfl,rfl⟩:=hrel
  have hnx:=twelve_next HT.out w j (by omega)
  by_cases he:j=n
  ·subst he
   go_wp2_with fail
   refine (inOrder_is j _ (by omega)).mono ?_
   rintro e w' ⟨rfl,rfl⟩
   go_wp2
   go_ret
   exact ⟨rfl,grown_iter _ _ _⟩
  ·have b1:(((r j:Nat):Int) == ((r n:Nat):Int))=false:=beq_eq_false_iff_ne.2 (by have:=HT.out.2.2.2.1 j n (by omega) (by omega) he;omega)
   have hlt:j<n:=by omega
   clear he
   go_wp2
   go_roundw
   case rel=>exact ⟨j+1,by omega,by go_num,rfl⟩
   case measure=>simp [intOf];omega
theorem seek_no (all:ByteArray) (k:Nat) (r:Nat→Nat) (T:Twelve all k r) (q:Nat) (w:World) (h:∀ n,n<12→r n≠q) :
  Calls Tryz.prog 188 #[.string all,.int .i32 (q:Nat)] w fun e w'=>e=.returned (.int .i64 0)∧Grown w w':=by
 have HT:=Qh T
 have H:=Qh h
 clear T h
 go_enter Tryz.func188,Tryz.ntmps188
 go_wp2
 go_loopw [5] (fun t5 w'=>∃ j:Nat,j≤12∧t5=.int .i64 j∧w'=w.iter all (k*j)) (fun t5 _=>12-(intOf t5).toNat)
 case atStart=>exact ⟨0,by omega,rfl,rfl⟩
 case round =>
  obtain ⟨j,hj,rfl,rfl⟩:=hrel
  by_cases he:j=12
  ·subst he
   have hnx:=twelve_end HT.out w
   go_wp2
   go_ret
   exact ⟨rfl,grown_iter _ _ _⟩
  ·have hnx:=twelve_next HT.out w j (by omega)
   have b1:(((r j:Nat):Int) == ((q:Nat):Int))=false:=beq_eq_false_iff_ne.2 (by have:=H.out j (by omega);omega)
   have hlt:j<12:=by omega
   clear he
   go_wp2
   go_roundw
   case rel=>exact ⟨j+1,by omega,by go_num,rfl⟩
   case measure=>simp [intOf];omega

def runeMan (q:Nat):Int:=match (List.range 12).find? (fun n=>runeL n == q || runeS n == q) with|some n=>inOrd n|none=>0
theorem runeMan_L (n:Nat) (h:n<12):runeMan (runeL n)=inOrd n:=by
 have:∀ n:Fin 12,runeMan (runeL n.val)=inOrd n.val:=by decide +kernel
 exact this ⟨n,h⟩
theorem runeMan_S (n:Nat) (h:n<12):runeMan (runeS n)=inOrd n:=by
 have:∀ n:Fin 12,runeMan (runeS n.val)=inOrd n.val:=by decide +kernel
 exact this ⟨n,h⟩
theorem runeMan_no (q:Nat) (h:∀ n,n<12→runeL n≠q∧runeS n≠q):runeMan q=0:=by
 have e:(List.range 12).find? (fun n=>runeL n == q || runeS n == q)=none:=by
  rw [List.find?_eq_none]
  intro x hx
  have:=h x (List.mem_range.1 hx)
  simp [this.1,this.2]
 unfold runeMan
 rw [e]
def ofT (t:ByteArray):Int:=if t.size=0 then 0 else if (Utf8.decode t 0).2<t.size then 0 else runeMan (Utf8.decode t 0).1
theorem ofT_letter (n:Nat) (h:n<12):ofT (lettN n)=inOrd n:=by
 have:∀ n:Fin 12,ofT (lettN n.val)=inOrd n.val:=by decide +kernel
 exact this ⟨n,h⟩
theorem ofT_sign (n:Nat) (h:n<12):ofT (signN n)=inOrd n:=by
 have:∀ n:Fin 12,ofT (signN n.val)=inOrd n.val:=by decide +kernel
 exact this ⟨n,h⟩
theorem runeL_lt (n:Nat) (h:n<12):runeL n<128:=by
 have:∀ n:Fin 12,runeL n.val<128:=by decide +kernel
 exact this ⟨n,h⟩
theorem one_byte (s:ByteArray) (h:s.size=1):s=⟨#[s.get! 0]⟩:=by
 obtain ⟨⟨l⟩⟩:=s
 match l,h with
 | [a],_=>rfl
theorem three_bytes (s:ByteArray) (h:s.size=3):s=⟨#[s.get! 0,s.get! 1,s.get! 2]⟩:=by
 obtain ⟨⟨l⟩⟩:=s
 match l,h with
 | [a,b,c],_=>rfl
theorem decodeN_low {n b0 b1 b2 b3 r k:Nat} (h:Lib.decodeN n b0 b1 b2 b3=(r,k)) (hr:r<128):b0=r∧k=1:=by
 unfold Lib.decodeN at h
 repeat' split at h
 all_goals simp only [Prod.mk.injEq] at h
 all_goals omega
theorem decodeN_sign {n b0 b1 b2 b3 r k:Nat} (h:Lib.decodeN n b0 b1 b2 b3=(r,k)) (hr:9812≤r) (hr':r<9824) (c0:b0<256) (c1:b1<256) (c2:b2<256):b0=226∧b1=153∧b2=148+(r-9812)∧k=3∧2<n:=by
 unfold Lib.decodeN at h
 repeat' split at h
 all_goals simp only [Prod.mk.injEq] at h
 all_goals omega
theorem ofT_inv (t:ByteArray) (h:ofT t≠0):∃ n,n<12∧(t=lettN n∨t=signN n):=by
 unfold ofT at h
 split at h
 ·exact absurd rfl h
 ·split at h
  ·exact absurd rfl h
  ·rename_i h0 h1
   by_cases hx:∃ n,n<12∧(runeL n=(Utf8.decode t 0).1∨runeS n=(Utf8.decode t 0).1)
   ·obtain ⟨n,hn,hr⟩:=hx
    refine ⟨n,hn,?_⟩
    have hd:=Lib.decode_at t 0
    have hd':Lib.decodeN (t.size-0) (t.get! 0).toNat (t.get! (0+1)).toNat (t.get! (0+2)).toNat (t.get! (0+3)).toNat=((Utf8.decode t 0).1,(Utf8.decode t 0).2):=hd.symm
    rcases hr with hr|hr
    ·left
     have hl:=runeL_lt n hn
     have hb:=decodeN_low hd' (by omega)
     have hs:t.size=1:=by omega
     rw [one_byte t hs,lettN]
     congr 3
     apply UInt8.toNat.inj
     rw [hb.1,← hr]
     simp;omega
    ·right
     unfold runeS at hr
     have hb:=decodeN_sign hd' (by omega) (by omega) (UInt8.toNat_lt _) (UInt8.toNat_lt _) (UInt8.toNat_lt _)
     have hs:t.size=3:=by omega
     rw [three_bytes t hs,signN]
     congr 3
     ·exact UInt8.toNat.inj hb.1
     ·congr 1
      ·exact UInt8.toNat.inj hb.2.1
      ·congr 1
       apply UInt8.toNat.inj
       rw [hb.2.2.1]
       simp;omega
   ·exact absurd (runeMan_no _ (fun n hn=>⟨fun e=>hx ⟨n,hn,.inl e⟩,fun e=>hx ⟨n,hn,.inr e⟩⟩)) h

def OfSt (t:ByteArray) (pos:Nat) (m:Int):Prop:=(pos=0∧m=0)∨(0<t.size∧pos=(Utf8.decode t 0).2∧m=runeMan (Utf8.decode t 0).1)
theorem OfSt_end {t:ByteArray} {pos:Nat} {m:Int} (h:OfSt t pos m) (hp:¬ pos<t.size):m=ofT t:=by
 unfold ofT
 rcases h with ⟨h,h'⟩|⟨h,h',h''⟩
 ·rw [if_pos (by omega)];exact h'
 ·rw [if_neg (by omega),if_neg (by omega)];exact h''
theorem OfSt_more {t:ByteArray} {pos:Nat} {m:Int} (h:OfSt t pos m) (hp:pos<t.size) (h0:0<pos):ofT t=0:=by
 unfold ofT
 rcases h with ⟨h,h'⟩|⟨h,h',h''⟩
 ·omega
 ·rw [if_neg (by omega),if_pos (by omega)]
theorem of_is (t:ByteArray) (w:World) (hm:t.size≤1000) :
  Calls Tryz.prog 164 #[.string t] w fun e w'=>e=.returned (.tuple #[.int .i64 (ofT t),.bool (ofT t != 0)])∧Grown w w':=by
 go_enter Tryz.func164,Tryz.ntmps164
 go_wp2
 go_loopw [4] (fun t4 w'=>∃ (pos:Nat) (m:Int),t4=.int .i64 m∧Grown w w'∧w'.heap[w.heap.size]?=some (.stringIter t pos)∧OfSt t pos m) (fun _ w'=>t.size-w'.iterPos w.heap.size)
 case atStart=>exact ⟨0,0,rfl,grown_iter _ _ _,World.iter_heap _ _ _,.inl ⟨rfl,rfl⟩⟩
 case round =>
  obtain ⟨pos,m,rfl,hg,hh,hst⟩:=hrel
  have HG:=Qh hg
  have HH:=Qh hh
  have HS:=Qh hst
  clear hg hh hst
  by_cases hp:pos<t.size
  ·have hnx:∀ ty,(Instr.next (.pointer (some ⟨w.heap.size,0,none⟩)) true ty).run Tryz.prog _=_:=fun ty=>next_at _ w.heap.size t pos ty HH.out hp
   have hle:=decode_le t pos
   have hwd:=width_pos t pos hp
   have HG':=Qh (grown_iterAt HG.out (Nat.le_refl _) HH.out (pos+(Utf8.decode t pos).2))
   have HH':=Qh (iterAt_heap HH.out t (pos+(Utf8.decode t pos).2))
   by_cases h0:0<pos
   ·have hz:=Qh (OfSt_more HS.out hp h0)
    have h0':(0:Int)<pos:=by omega
    go_wp2
    go_ret2
    exact ⟨by rw [hz.out];rfl,HG'.out⟩
   ·obtain rfl:pos=0:=by omega
    clear h0
    simp only [Nat.zero_add] at HG' HH'
    generalize hq:(Utf8.decode t 0).1=q at *
    have HQ:=Qh hq
    clear hq
    generalize hwid:(Utf8.decode t 0).2=k at *
    have HK:=Qh hwid
    clear hwid
    by_cases hL:∃ n,n<12∧runeL n=q
    ·obtain ⟨n,hn,rfl⟩:=hL
     have b0:(inOrd n == 0)=false:=beq_eq_false_iff_ne.2 (inOrd_man n hn).1
     go_wp2_with fail
     refine (seek_yes letters 1 runeL twelve_letters n hn _).mono ?_
     rintro e w1 ⟨rfl,gw1⟩
     go_wp2
     go_roundw
     case rel=>exact ⟨k,inOrd n,rfl,grown_trans HG'.out gw1,grown_heap_iter gw1 HH'.out,.inr ⟨hp,HK.out.symm,by rw [HQ.out,runeMan_L n hn]⟩⟩
     case measure=>simp [World.iterPos,grown_heap_iter gw1 HH'.out,HH.out];omega
    ·by_cases hS:∃ n,n<12∧runeS n=q
     ·obtain ⟨n,hn,rfl⟩:=hS
      go_wp2_with fail
      refine (seek_no letters 1 runeL twelve_letters _ _ (fun a ha e=>hL ⟨a,ha,e⟩)).mono ?_
      rintro e w1 ⟨rfl,gw1⟩
      go_wp2_with fail
      refine (seek_yes signs 3 runeS twelve_signs n hn _).mono ?_
      rintro e w2 ⟨rfl,gw2⟩
      go_wp2
      go_roundw
      case rel=>exact ⟨k,inOrd n,rfl,grown_trans HG'.out (grown_trans gw1 gw2),grown_heap_iter gw2 (grown_heap_iter gw1 HH'.out),.inr ⟨hp,HK.out.symm,by rw [HQ.out,runeMan_S n hn]⟩⟩
      case measure=>simp [World.iterPos,grown_heap_iter gw2 (grown_heap_iter gw1 HH'.out),HH.out];omega
     ·skip
      go_wp2_with fail
      refine (seek_no letters 1 runeL twelve_letters _ _ (fun a ha e=>hL ⟨a,ha,e⟩)).mono ?_
      rintro e w1 ⟨rfl,gw1⟩
      go_wp2_with fail
      refine (seek_no signs 3 runeS twelve_signs _ _ (fun a ha e=>hS ⟨a,ha,e⟩)).mono ?_
      rintro e w2 ⟨rfl,gw2⟩
      go_wp2
      go_roundw
      case rel=>exact ⟨k,0,rfl,grown_trans HG'.out (grown_trans gw1 gw2),grown_heap_iter gw2 (grown_heap_iter gw1 HH'.out),.inr ⟨hp,HK.out.symm,by rw [HQ.out,runeMan_no q (fun a ha=>⟨fun e=>hL ⟨a,ha,e⟩,fun e=>hS ⟨a,ha,e⟩⟩)]⟩⟩
      case measure=>simp [World.iterPos,grown_heap_iter gw2 (grown_heap_iter gw1 HH'.out),HH.out];omega
  ·have hnx:∀ ty,(Instr.next (.pointer (some ⟨w.heap.size,0,none⟩)) true ty).run Tryz.prog _=_:=fun ty=>next_at_end _ w.heap.size t pos ty HH.out hp
   have he:=OfSt_end HS.out hp
   subst he
   by_cases hz:ofT t=0
   ·have HZ:=Qh hz
    clear hz
    go_wp2_with fail
    refine (mright_no _ _ (by have:=HZ.out;omega)).mono ?_
    rintro e w' ⟨rfl,rfl⟩
    go_wp2
    go_ret2
    exact ⟨by rw [HZ.out];rfl,HG.out⟩
   ·have HB:=Qh (show (ofT t != 0)=true by simp [hz])
    obtain ⟨n,hn,hx⟩:=ofT_inv t hz
    have hx':ofT t=inOrd n:=by rcases hx with rfl|rfl;exact ofT_letter n hn;exact ofT_sign n hn
    have HM:=Qh (show ofT t≠0∧-6≤ofT t∧ofT t≤6 by rw [hx'];exact inOrd_man n hn)
    clear hx hx' hz
    go_wp2_with fail
    refine (mright_yes _ _ HM.out.1 HM.out.2.1 HM.out.2.2).mono ?_
    rintro e w' ⟨rfl,rfl⟩
    go_wp2
    go_ret2
    exact ⟨by rw [HB.out];rfl,HG.out⟩
theorem of_yes (t:ByteArray) (m:Int) (w:World) (hm:t.size≤1000) (h:ofT t=m) (h0:m≠0) :
  Calls Tryz.prog 164 #[.string t] w fun e w'=>e=.returned (.tuple #[.int .i64 m,.bool true])∧Grown w w':=by
 have:=of_is t w hm
 rw [h,bne_iff_ne.2 h0] at this
 exact this
theorem of_no (t:ByteArray) (w:World) (hm:t.size≤1000) (h:ofT t=0) :
  Calls Tryz.prog 164 #[.string t] w fun e w'=>e=.returned (.tuple #[.int .i64 0,.bool false])∧Grown w w':=by
 have:=of_is t w hm
 rw [h] at this
 exact this

theorem lett_sign (a b:Nat):lettN a≠signN b:=fun e=>by
 have:=congrArg ByteArray.size e
 simp [lettN,signN,ByteArray.size] at this
end Go.Proofs.YtlbipjmmlobofaaGreatDoor
