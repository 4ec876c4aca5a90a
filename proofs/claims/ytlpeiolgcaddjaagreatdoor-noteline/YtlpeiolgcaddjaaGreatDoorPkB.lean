/- RaM · RaL · RaR · RaS · AtM · WaA · RaW · RaX · RaY: my texts, in their order. -/
import Derived.Test.YtlpeiolgcaddjaaGreatDoorPkA
import Derived.Laws.OwnMore
import Derived.Laws.AppendOwnNone
import Derived.Deep.WholeRow
namespace Go.Proofs.YtlpeiolgcaddjaaGreatDoor
set_option linter.unusedVariables false
set_option linter.unusedSimpArgs false
def stI (s f r:Int):Int:=if 0≤s∧s<64∧0≤s % 8+f∧s % 8+f<8∧0≤s / 8+r∧s / 8+r<8 then (s / 8+r)*8+(s % 8+f) else -1
theorem stI_cases (s f r:Int):(0≤s∧s<64∧0≤s % 8+f∧s % 8+f<8∧0≤s / 8+r∧s / 8+r<8∧stI s f r=(s / 8+r)*8+(s % 8+f)) ∨
  (stI s f r=-1∧((s<0∨64≤s)∨(0≤s∧s<64∧(s % 8+f<0∨8≤s % 8+f∨s / 8+r<0∨8≤s / 8+r)))):=by
 unfold stI;split
 ·left;omega
 ·right;omega
def rayN:Nat→Int→Int→Int→List Int
 | 0,_,_,_=>[]
 | n+1,s,f,r=>if stI s f r<0 then [] else stI s f r::rayN n (stI s f r) f r
def rayL (s f r:Int):List Int:=if f=0∧r=0 then [] else rayN 8 s f r
theorem rayN_len:∀ (n:Nat) (s f r:Int),(rayN n s f r).length≤n
 | 0,_,_,_=>Nat.le_refl _
 | n+1,s,f,r=>by
  unfold rayN;split
  ·simp
  ·have:=rayN_len n (stI s f r) f r
   simp;omega
theorem rayL_len (s f r:Int):(rayL s f r).length≤8:=by
 unfold rayL;split
 ·simp
 ·exact rayN_len _ _ _ _
theorem rayN_mem:∀ (n:Nat) (s f r x:Int),x ∈ rayN n s f r→0≤x∧x<64
 | 0,_,_,_,x=>by simp [rayN]
 | n+1,s,f,r,x=>by
  unfold rayN;split
  ·simp
  ·next h =>
   intro hx;rcases List.mem_cons.1 hx with rfl|hx
   ·rcases stI_cases s f r with ⟨_,_,_,_,_,_,e⟩|⟨e,_⟩ <;> omega
   ·exact rayN_mem n _ _ _ x hx
theorem rayL_mem {s f r x:Int} (h:x ∈ rayL s f r):0≤x∧x<64:=by
 unfold rayL at h;split at h
 ·simp at h
 ·exact rayN_mem _ _ _ _ _ h
theorem rayL_none (s:Int):rayL s 0 0=[]:=by unfold rayL;rw [if_pos ⟨rfl,rfl⟩]
def Far (f r:Int) (k:Nat) (t:Int):Prop:=0≤t∧t<64∧(1≤f→(k:Int)+1≤t % 8)∧(f≤-1→t % 8≤6-(k:Int))∧(1≤r→(k:Int)+1≤t / 8)∧(r≤-1→t / 8≤6-(k:Int))
theorem Far.le {f r t:Int} {k:Nat} (h:Far f r k t) (h0:¬ (f=0∧r=0)):k≤6:=by
 unfold Far at h;omega
def Yz (s f r:Int) (l:List Int) (t:Int) (on:Bool):Prop :=
 (on=true∧Far f r l.length t∧∃ n,l.length+n=7∧rayL s f r=l++t::rayN n t f r)∨(on=false∧rayL s f r=l)
theorem Yz.start_yes {s f r:Int} (h0:¬ (f=0∧r=0)) (a:0≤s) (b:s<64) (c:0≤s % 8+f) (d:s % 8+f<8) (e:0≤s / 8+r) (g:s / 8+r<8) :
  Yz s f r [] ((s / 8+r)*8+(s % 8+f)) true:=by
 refine .inl ⟨rfl,by unfold Far;simp only [List.length_nil];omega,7,rfl,?_⟩;have he:stI s f r=(s / 8+r)*8+(s % 8+f):=by unfold stI;rw [if_pos ⟨a,b,c,d,e,g⟩]
 unfold rayL;rw [if_neg h0];show rayN (7+1) s f r=_;rw [rayN,he,if_neg (by omega)];rfl
theorem Yz.start_no {s f r:Int} (t:Int) (h:stI s f r=-1):Yz s f r [] t false:=by
 refine .inr ⟨rfl,?_⟩;unfold rayL;split
 ·rfl
 ·unfold rayN;rw [if_pos (by rw [h];decide)]
theorem Yz.next_yes {s f r t:Int} {l:List Int} (h:Yz s f r l t true) (h0:¬ (f=0∧r=0)) (c:0≤t % 8+f) (d:t % 8+f<8) (e:0≤t / 8+r) (g:t / 8+r<8) :
  Yz s f r (l++[t]) ((t / 8+r)*8+(t % 8+f)) true:=by
 rcases h with ⟨_,hf,n,hn,hr⟩|⟨h,_⟩
 ·have hk:=hf.le h0
  obtain ⟨m,rfl⟩:∃ m,n=m+1:=⟨n-1,by omega⟩;have ht:0≤t∧t<64:=⟨hf.1,hf.2.1⟩;have he:stI t f r=(t / 8+r)*8+(t % 8+f):=by unfold stI;rw [if_pos ⟨ht.1,ht.2,c,d,e,g⟩]
  refine .inl ⟨rfl,?_,m,by simp;omega,?_⟩
  ·unfold Far at hf ⊢;rw [List.length_append,List.length_singleton];omega
  ·rw [hr,rayN,he,if_neg (by omega)];simp
 ·cases h
theorem Yz.next_no {s f r t:Int} {l:List Int} (u:Int) (h:Yz s f r l t true) (h0:¬ (f=0∧r=0)) (hs:stI t f r=-1):Yz s f r (l++[t]) u false:=by
 rcases h with ⟨_,hf,n,hn,hr⟩|⟨h,_⟩
 ·have hk:=hf.le h0
  obtain ⟨m,rfl⟩:∃ m,n=m+1:=⟨n-1,by omega⟩;refine .inr ⟨rfl,?_⟩;rw [hr,rayN,if_pos (by rw [hs];decide)]
 ·cases h
theorem Yz.far {s f r t:Int} {l:List Int} (h:Yz s f r l t true) (h0:¬ (f=0∧r=0)):0≤t∧t<64∧l.length≤6:=by
 rcases h with ⟨_,hf,_⟩|⟨h,_⟩
 ·exact ⟨hf.1,hf.2.1,hf.le h0⟩
 ·cases h
theorem Yz.done {s f r t:Int} {l:List Int} (h:Yz s f r l t false):rayL s f r=l:=by
 rcases h with ⟨h,_⟩|⟨_,h⟩
 ·cases h
 ·exact h

def wayF (w:Nat):Int:=[0,1,0,-1,1,1,-1,-1,1,2,2,1,-1,-2,-2,-1].getD w 0
def wayR (w:Nat):Int:=[1,0,-1,0,1,-1,-1,1,2,1,-1,-2,-2,-1,1,2].getD w 0
def alongL (way:Nat) (s:Int):List Int:=if 8≤way then (rayL s (wayF way) (wayR way)).take 1 else rayL s (wayF way) (wayR way)
theorem alongL_len (way:Nat) (s:Int):(alongL way s).length≤8:=by
 have:=rayL_len s (wayF way) (wayR way);unfold alongL;split
 ·rw [List.length_take];omega
 ·exact this
theorem alongL_mem {way:Nat} {s x:Int} (h:x ∈ alongL way s):0≤x∧x<64:=by
 unfold alongL at h;split at h
 ·exact rayL_mem (List.mem_of_mem_take h)
 ·exact rayL_mem h
def knd (m:Int):Int:=if m < -6∨m=0∨6<m then 0 else if m<0 then -m else m
def Ya (m:Int):Bool:=knd m == 3 || knd m == 4 || knd m == 5
def goesB (m:Int) (way:Nat):Bool :=
 if knd m=1 then decide (4≤way∧way<8) && wayR way == (if m<0 then -1 else 1)
 else if knd m=2 then decide (8≤way) else if knd m=3 then decide (4≤way∧way<8) else if knd m=4 then decide (way<4) else if knd m=0 then false else decide (way<8)
def cutL (m:Int) (l:List Int):List Int:=if Ya m then l else l.take 1
def oneL (l:List Int):List (List Int):=if l.length=0 then [] else [l]
def ofN (m s:Int) (n:Nat):List (List Int):=((List.range n).filter (goesB m)).flatMap fun w=>oneL (cutL m (alongL w s))
def ofL (m s:Int):List (List Int):=ofN m s 16
def Qam (m:Int):List (Int × Int) :=
 if knd m=1 then [(1,m),(-1,m)]
 else if knd m=2 then [(1,2),(2,1),(2,-1),(1,-2),(-1,-2),(-2,-1),(-2,1),(-1,2)]
 else if knd m=3 then [(1,1),(1,-1),(-1,-1),(-1,1)]
 else if knd m=4 then [(0,1),(1,0),(0,-1),(-1,0)]
 else if knd m=0 then [] else [(0,1),(1,0),(0,-1),(-1,0),(1,1),(1,-1),(-1,-1),(-1,1)]
def ofR (m s:Int) (P:List (Int × Int)):List (List Int):=P.flatMap fun p=>oneL (cutL m (rayL s p.1 p.2))
theorem ways_steps (m:Int) (h1:-6≤m) (h2:m≤6):((List.range 16).filter (goesB m)).map (fun w=>(wayF w,wayR w))=Qam m∧((List.range 16).filter (goesB m)).all (fun w=>decide (w<8) || !Ya m)=true:=by
 have:m=-6∨m=-5∨m=-4∨m=-3∨m=-2∨m=-1∨m=0∨m=1∨m=2∨m=3∨m=4∨m=5∨m=6:=by omega
 rcases this with rfl|rfl|rfl|rfl|rfl|rfl|rfl|rfl|rfl|rfl|rfl|rfl|rfl <;> decide +kernel
theorem knd_none {m:Int} (h:m < -6∨m=0∨6<m):knd m=0:=by unfold knd;rw [if_pos h]
theorem stepsL_none {m:Int} (h:m < -6∨m=0∨6<m):Qam m=[]:=by unfold Qam;rw [knd_none h];simp
theorem goesB_none {m:Int} (h:m < -6∨m=0∨6<m) (w:Nat):goesB m w=false:=by unfold goesB;rw [knd_none h];simp
theorem ofR_is (m s:Int):ofR m s (Qam m)=ofL m s:=by
 by_cases h:-6≤m∧m≤6
 ·obtain ⟨e1,e2⟩:=ways_steps m h.1 h.2
  unfold ofR ofL ofN;rw [← e1,List.flatMap_map];generalize (List.range 16).filter (goesB m)=L at *;clear e1
  induction L with
  | nil=>rfl
  | cons w L ih =>
   rw [List.flatMap_cons,List.flatMap_cons];simp only [List.all_cons,Bool.and_eq_true] at e2;rw [ih e2.2]
   congr 2
   unfold alongL;split
   ·next h8 =>
    have:Ya m=false:=by
     have:=e2.1;simp at this;rcases this with h|h
     ·omega
     ·exact h
    unfold cutL;simp [this,List.take_take]
   ·rfl
 ·have h':m < -6∨m=0∨6<m:=by omega
  rw [stepsL_none h'];unfold ofL ofN;rw [List.filter_eq_nil_iff.2 (fun w _=>by rw [goesB_none h'];simp)];rfl
end Go.Proofs.YtlpeiolgcaddjaaGreatDoor
namespace Go.Proofs.YtlpeiolgcaddjaaGreatDoor
open Go.RowKit
set_option linter.unusedVariables false
set_option linter.unusedSimpArgs false
theorem infoZ:(Tryz.prog.info? 3).map (fun i=>(i.zero,i.size,i.bytes))=some (some (.int .i64 0),1,8):=by kernel_rfl
theorem partsZ {P:Program} {t:TypeId} {z:Value} {n b:Nat} (h:(P.info? t).map (fun i=>(i.zero,i.size,i.bytes))=some (some z,n,b)) :
  ∃ i,P.info? t=some i∧i.zero=some z∧i.size=n∧i.bytes=b:=by
 cases hq:P.info? t with
 | none=>simp [hq] at h
 | some i=>simp [hq] at h;exact ⟨i,rfl,h.1,h.2.1,h.2.2⟩
def zl (l:List Int):List Value:=l.map (Value.int .i64)
theorem zl_app (l k:List Int):zl (l++k)=zl l++zl k:=by simp [zl]
def OwnZ (w:World) (base:Nat) (v:Value) (l:List Int):Prop:=w.ownsRow base 3 1 v l.length (zl l)
theorem OwnZ.nil (w:World) (base:Nat):OwnZ w base (.slice none 0 0) []:=World.ownsRow_nil _ _ _ _
theorem OwnZ.kept {w w':World} {base:Nat} {v:Value} {l:List Int} (h:OwnZ w base v l) (k:Kept w w'):OwnZ w' base v l:=by
 obtain ⟨h1,h2⟩:=h;refine ⟨h1,?_⟩;rcases h2 with h2|⟨b,cap,cur,e1,e2,e3,e4⟩
 ·exact .inl h2
 ·exact .inr ⟨b,cap,cur,e1,e2,k.heap e3,e4⟩
theorem OwnZ.low {w:World} {base b:Nat} {v:Value} {l:List Int} (h:OwnZ w base v l) (hb:b≤base):OwnZ w b v l:=by
 obtain ⟨h1,h2⟩:=h;refine ⟨h1,?_⟩;rcases h2 with h2|⟨g,cap,cur,e1,e2,e3⟩
 ·exact .inl h2
 ·exact .inr ⟨g,cap,cur,e1,by omega,e3⟩
theorem OwnZ.slice {w:World} {base:Nat} {v:Value} {l:List Int} (h:OwnZ w base v l):∃ a cap,v=.slice a l.length cap:=by
 rcases h.2 with ⟨e,h0⟩|⟨g,cap,cur,e,_⟩
 ·exact ⟨none,0,by rw [e,h0]⟩
 ·exact ⟨_,_,e⟩
def LsZ (w:World) (g:Nat) (v:Value) (l:List Int):Prop :=
 (v=.slice none 0 0∧l=[])∨∃ off cap,v=.slice (some ⟨g,off,none⟩) l.length cap∧l.length≤cap∧cap≤maxLen∧∀ i x,l[i]?=some x→w.cell? ⟨g,off+i,none⟩=some (.int .i64 x)
theorem LsZ.kept {w w':World} {g:Nat} {v:Value} {l:List Int} (h:LsZ w g v l) (k:Kept w w'):LsZ w' g v l:=by
 rcases h with h|⟨off,cap,e,h1,h2,h3⟩
 ·exact .inl h
 ·exact .inr ⟨off,cap,e,h1,h2,fun i x hx=>Qa k (h3 i x hx)⟩
theorem LsZ.slice {w:World} {g:Nat} {v:Value} {l:List Int} (h:LsZ w g v l):∃ a cap,v=.slice a l.length cap:=by
 rcases h with ⟨e,h0⟩|⟨off,cap,e,_⟩
 ·exact ⟨none,0,by rw [e,h0];rfl⟩
 ·exact ⟨_,_,e⟩
theorem LsZ.full {w:World} {g:Nat} {v:Value} {l:List Int} (h:LsZ w g v l) (hl:0<l.length) :
  ∃ off cap,v=.slice (some ⟨g,off,none⟩) l.length cap∧l.length≤cap∧cap≤maxLen∧∀ i x,l[i]?=some x→w.cell? ⟨g,off+i,none⟩=some (.int .i64 x):=by
 rcases h with ⟨_,h0⟩|h
 ·rw [h0] at hl;simp at hl
 ·exact h
theorem OwnZ.ls {w:World} {base:Nat} {v:Value} {l:List Int} (h:OwnZ w base v l):∃ g,LsZ w g v l∧(0<l.length→base≤g∧g<w.heap.size):=by
 rcases h.2 with ⟨e,h0⟩|⟨g,cap,cur,e,hb,hh,hnc,hcm,hcs,ht⟩
 ·exact ⟨0,.inl ⟨e,List.eq_nil_of_length_eq_zero h0⟩,fun h=>by omega⟩
 ·refine ⟨g,.inr ⟨0,cap,e,hnc,hcm,fun i x hx=>?_⟩,fun _=>⟨hb,Yc hh⟩⟩
  have hi:i<l.length:=by
   obtain ⟨hi,_⟩:=List.getElem?_eq_some_iff.1 hx;exact hi
  rw [Nat.zero_add,cell_of_row w g i cur _ (0,0) hh];have h2:(cur.toList.take (l.length*1))[i]?=(zl l)[i]?:=by rw [ht]
  rw [List.getElem?_take,if_pos (by omega)] at h2;simp only [Array.getElem?_toList] at h2;rw [h2];simp [zl,hx]
theorem Qs {ops:Array Oper} {rest:List Oper} {o:Oper} {a:Act} {w:World} {Q:Exit→Act→World→Prop} (hgd:o.guard=none) (s x:Operand)
  (ho:o.op=.call { callee:=.builtin .append,args:=#[s,x],argTypes:=#[84,84] })
  (base g:Nat) (v vx:Value) (l L:List Int) (hs:a.eval s=v) (hx:a.eval x=vx) (hown:OwnZ w base v l) (hL:LsZ w g vx L) (hlen:l.length+L.length≤100000) (hbase:base≤w.heap.size)
  (h:∀ v' w',OwnZ w' base v' (l++L)→w.grownBy w' v.ownBlock→wpList Tryz.prog ops Q rest (a.put o.dst v') w'):wpList Tryz.prog ops Q (o::rest) a w:=by
 obtain ⟨i0,hi0,hz0,hz1,hz2⟩:=partsZ infoZ;rcases hL with ⟨e,h0⟩|⟨off,cap,e,hnc,hcm,hcell⟩
 ·subst h0
  rw [e] at hx;refine wpList_append_own_none hgd s x 84 ho base 3 i0 1 Tryz.underlying84 hi0 v _ _ hs hown hx ?_;exact h v w (by simpa using hown) ⟨rfl,rfl,rfl,Nat.le_refl _,fun _ _ _=>rfl⟩
 ·rw [e] at hx
  refine wpList_append_own w hgd s x 84 ho base 3 i0 (.int .i64 0) 1 8 Tryz.underlying84 hi0 hz0 hz1 hz2 rfl (by decide) v _ _ hs hown ⟨g,off,none⟩ L.length cap (zl L) hx (by simp [zl]) ?_ ?_ ?_ ?_ hbase ?_
  ·intro j u hu
   rw [show (⟨g,off,none⟩:Addr).add j=⟨g,off+j,none⟩ by unfold Addr.add;split <;> simp_all];unfold zl at hu;rw [List.getElem?_map] at hu
   cases hq:L[j]? with
   | none=>rw [hq] at hu;cases hu
   | some y =>
    rw [hq] at hu;have:u=.int .i64 y:=by simpa using hu.symm
    rw [this];exact hcell j y hq
  ·intro u hu
   unfold zl at hu;obtain ⟨y,_,rfl⟩:=List.mem_map.1 hu;rfl
  ·unfold maxLen;omega
  ·omega
  ·intro v' w' h1 h2 _
   refine h v' w' ?_ h2;unfold OwnZ;rw [zl_app,List.length_append];exact h1
theorem LsZ.lit (w:World) (l:List Int) (hm:l.length≤1000):LsZ (w.alloc (.cells (zl l).toArray 3)) w.heap.size (.slice (some ⟨w.heap.size,0,none⟩) l.length l.length) l:=by
 refine .inr ⟨0,l.length,rfl,Nat.le_refl _,by unfold maxLen;omega,fun i x hx=>?_⟩;rw [cell_of_row _ _ _ _ _ (0,0) (heap_alloc_new w _)];simp [zl,hx]
theorem OwnZ.grown {w w':World} {base:Nat} {v:Value} {l:List Int} (h:OwnZ w base v l) {a:World} (k:Kept a w) (hb:a.heap.size≤base) (hg:w.grownBy w' v.ownBlock):Kept a w' :=
 k.grownBy hg (fun g hgv=>by have:=(World.ownsRow.lt h g hgv).1;omega)
def slen:Value→Nat
 | .slice _ n _=>n
 | _=>0
def NewZ (w:World) (l:List Int) (e:Ending) (w':World):Prop:=∃ v,e=.returned v∧OwnZ w' w.heap.size v l∧Kept w w'
theorem rstep_neg (s f r:Int) (w:World) (h:(s<0∨64≤s)∨(0≤s∧s<64∧(s % 8+f<0∨8≤s % 8+f∨s / 8+r<0∨8≤s / 8+r))) :
  Calls Tryz.prog 174 #[.int .i64 s,.int .i64 f,.int .i64 r] w fun e w'=>e=.returned (.int .i64 (-1))∧w=w':=by
 rcases h with h|⟨a,b,h⟩
 ·exact rstep_off s f r w h
 ·exact rstep_no s f r w a b h
theorem step_neg (s f r:Int) (w:World) (wf:(Lit.int .i64 f).wf=true) (wr:(Lit.int .i64 r).wf=true) (h:(s<0∨64≤s)∨(0≤s∧s<64∧(s % 8+f<0∨8≤s % 8+f∨s / 8+r<0∨8≤s / 8+r))) :
  Calls Tryz.prog 158 #[.int .i64 s,.int .i64 f,.int .i64 r] w fun e w'=>e=.returned (.tuple #[.int .i64 0,.bool false])∧w=w':=by
 rcases h with h|⟨a,b,h⟩
 ·exact step_off s f r w h
 ·exact step_no s f r w a b wf wr h
theorem step_any (s f r:Int) (w:World) (wf:(Lit.int .i64 f).wf=true) (wr:(Lit.int .i64 r).wf=true) :
  Calls Tryz.prog 158 #[.int .i64 s,.int .i64 f,.int .i64 r] w fun e w'=>(∃ t on,e=.returned (.tuple #[.int .i64 t,.bool on])∧((on=true∧0≤s∧s<64∧0≤s % 8+f∧s % 8+f<8∧0≤s / 8+r∧s / 8+r<8∧t=(s / 8+r)*8+(s % 8+f))∨(on=false∧stI s f r=-1)))∧w=w':=by
 rcases stI_cases s f r with ⟨a,b,c,d,e,g,_⟩|⟨hs,h⟩
 ·exact (step_yes s f r w a b c d e g).mono fun _ _ ⟨h1,h2⟩=>⟨⟨_,true,h1,.inl ⟨rfl,a,b,c,d,e,g,rfl⟩⟩,h2⟩
 ·exact (step_neg s f r w wf wr h).mono fun _ _ ⟨h1,h2⟩=>⟨⟨_,false,h1,.inr ⟨rfl,hs⟩⟩,h2⟩
theorem rstep_any (s f r:Int) (w:World) :
  Calls Tryz.prog 174 #[.int .i64 s,.int .i64 f,.int .i64 r] w fun e w'=>(∃ t,e=.returned (.int .i64 t)∧((0≤t∧0≤s∧s<64∧0≤s % 8+f∧s % 8+f<8∧0≤s / 8+r∧s / 8+r<8∧t=(s / 8+r)*8+(s % 8+f))∨(t<0∧stI s f r=-1)))∧w=w':=by
 rcases stI_cases s f r with ⟨a,b,c,d,e,g,_⟩|⟨hs,h⟩
 ·exact (rstep_yes s f r w a b c d e g).mono fun _ _ ⟨h1,h2⟩=>⟨⟨_,h1,.inl ⟨by omega,a,b,c,d,e,g,rfl⟩⟩,h2⟩
 ·exact (rstep_neg s f r w h).mono fun _ _ ⟨h1,h2⟩=>⟨⟨_,h1,.inr ⟨by omega,hs⟩⟩,h2⟩
theorem Yz.first {s f r t:Int} {on:Bool} (h0:¬ (f=0∧r=0)) (h:(on=true∧0≤s∧s<64∧0≤s % 8+f∧s % 8+f<8∧0≤s / 8+r∧s / 8+r<8∧t=(s / 8+r)*8+(s % 8+f))∨(on=false∧stI s f r=-1)):Yz s f r [] t on:=by
 rcases h with ⟨rfl,a,b,c,d,e,g,rfl⟩|⟨rfl,h⟩
 ·exact Yz.start_yes h0 a b c d e g
 ·exact Yz.start_no _ h
theorem Yz.next {s f r t u:Int} {l:List Int} {on:Bool} (hm:Yz s f r l t true) (h0:¬ (f=0∧r=0)) (h:(on=true∧0≤t∧t<64∧0≤t % 8+f∧t % 8+f<8∧0≤t / 8+r∧t / 8+r<8∧u=(t / 8+r)*8+(t % 8+f))∨(on=false∧stI t f r=-1)):Yz s f r (l++[t]) u on:=by
 rcases h with ⟨rfl,a,b,c,d,e,g,rfl⟩|⟨rfl,h⟩
 ·exact hm.next_yes h0 c d e g
 ·exact hm.next_no _ h0 h
theorem rayMid_first {s f r t:Int} (h0:¬ (f=0∧r=0)) (h:(0≤t∧0≤s∧s<64∧0≤s % 8+f∧s % 8+f<8∧0≤s / 8+r∧s / 8+r<8∧t=(s / 8+r)*8+(s % 8+f))∨(t<0∧stI s f r=-1)):Yz s f r [] t (decide (0≤t)):=by
 rcases h with ⟨h,h'⟩|⟨h,h'⟩
 ·rw [decide_eq_true h];exact Yz.first h0 (.inl ⟨rfl,h'⟩)
 ·rw [decide_eq_false (by omega)];exact Yz.first h0 (.inr ⟨rfl,h'⟩)
theorem rayMid_next {s f r t u:Int} {l:List Int} (hm:Yz s f r l t true) (h0:¬ (f=0∧r=0)) (h:(0≤u∧0≤t∧t<64∧0≤t % 8+f∧t % 8+f<8∧0≤t / 8+r∧t / 8+r<8∧u=(t / 8+r)*8+(t % 8+f))∨(u<0∧stI t f r=-1)):Yz s f r (l++[t]) u (decide (0≤u)):=by
 rcases h with ⟨h,h'⟩|⟨h,h'⟩
 ·rw [decide_eq_true h];exact hm.next h0 (.inl ⟨rfl,h'⟩)
 ·rw [decide_eq_false (by omega)];exact hm.next h0 (.inr ⟨rfl,h'⟩)
set_option maxHeartbeats 1000000 in
theorem rray_is (s f r:Int) (w:World) :
  Calls Tryz.prog 155 #[.int .i64 s,.int .i64 f,.int .i64 r] w (NewZ w (rayL s f r)):=by
 by_cases h0:f=0∧r=0
 ·obtain ⟨rfl,rfl⟩:=h0
  go_enter Tryz.func155,Tryz.ntmps155;go_wp2;go_ret;exact ⟨_,rfl,by rw [rayL_none];exact OwnZ.nil _ _,Kept.refl _⟩
 ·have H0:=Qh h0
  have HP:=Qh (rstep_any · f r ·)
  have hb:(f == 0)=false∨((f == 0)=true∧(r == 0)=false):=by
   by_cases hf:f=0
   ·right;refine ⟨by simpa using hf,?_⟩;rw [beq_eq_false_iff_ne];exact fun hr=>h0 ⟨hf,hr⟩
   ·left;simpa using hf
  clear h0;rcases hb with hb|⟨hb,hb2⟩
  all_goals
   go_enter Tryz.func155,Tryz.ntmps155;go_wp2_with fail
   refine (HP.out _ _).mono ?_;rintro e w' ⟨⟨t,rfl,ht⟩,rfl⟩;have HT:=Qh (rayMid_first H0.out ht);clear ht;go_wp2
   go_loopw [7,8] (fun t7 t8 wr=>∃ l t,t8=.int .i64 t∧Yz s f r l t (decide (0≤t))∧OwnZ wr w.heap.size t7 l∧Kept w wr) (fun t7 _ _=>8-slen t7)
   case atStart=>exact ⟨[],t,rfl,HT.out,OwnZ.nil _ _,Kept.refl _⟩
   case round =>
    obtain ⟨l,t,rfl,hm,hown,hK⟩:=hrel;obtain ⟨a,cap,rfl⟩:=hown.slice;have HM:=Qh hm;have HO:=Qh hown;have HK:=Qh hK;clear hm hown hK HT;by_cases ht:0≤t
    ·rw [decide_eq_true ht] at HM
     obtain ⟨t0,t1,hlen⟩:=HM.out.far H0.out;have HA:=Qh (HK.out.alloc (.cells #[.int .i64 t] 3));go_wp2_with (at_builtin;refine Qs rfl _ _ rfl w.heap.size wr.heap.size _ _ l [t] rfl rfl (HO.out.kept ((Kept.refl _).alloc _)) (LsZ.lit _ [t] (by simp)) ?c1 ?c2 ?_)
     case c1=>simp;omega
     case c2=>exact HA.out.size
     intro v' w1 hown' hg;have hK1:=(HO.out.kept ((Kept.refl _).alloc (.cells #[.int .i64 t] 3))).grown HA.out (Nat.le_refl _) hg;obtain ⟨a',cap',rfl⟩:=hown'.slice;have HO1:=Qh hown';have HK1:=Qh hK1;clear hown' hK1 hg;generalize hn:(l++[t]).length=n at *;have HN:=Qh hn;clear hn;go_wp2_with fail
     refine (HP.out _ _).mono ?_;rintro e w' ⟨⟨u,rfl,hu⟩,rfl⟩;have HU:=Qh (rayMid_next HM.out H0.out hu);clear hu;go_wp2;go_roundw
     case rel=>exact ⟨l++[t],u,rfl,HU.out,HO1.out,HK1.out⟩
     case measure=>have:=HN.out;simp [slen] at this ⊢;omega
    ·rw [decide_eq_false ht] at HM
     have ht':t<0:=by omega
     go_wp2;go_ret;exact ⟨_,rfl,by rw [HM.out.done];exact HO.out,HK.out⟩
theorem mknd_any (m:Int) (w:World):Calls Tryz.prog 120 #[.int .i64 m] w fun e w'=>e=.returned (.int .i64 (knd m))∧w=w':=by
 by_cases h:m < -6∨m=0∨6<m
 ·rw [knd_none h];exact mkind_no m w h
 ·have e:knd m=if m<0 then -m else m:=by unfold knd;rw [if_neg h]
  rw [e];split
  ·exact mkind_b m w (by omega) (by omega)
  ·exact mkind_w m w (by omega) (by omega)
theorem rknd_any (m:Int) (w:World):Calls Tryz.prog 83 #[.int .i64 m] w fun e w'=>e=.returned (.int .i64 (knd m))∧w=w':=by
 by_cases h:m < -6∨m=0∨6<m
 ·rw [knd_none h];exact rkind_no m w h
 ·have e:knd m=if m<0 then -m else m:=by unfold knd;rw [if_neg h]
  rw [e];split
  ·exact rkind_yes m (-m) w (by omega) (by omega) (by omega)
  ·exact rkind_yes m m w (by omega) (by omega) (by omega)
theorem knd_is (m:Int):knd m=0∨knd m=1∨knd m=2∨knd m=3∨knd m=4∨knd m=5∨knd m=6:=by
 unfold knd;split
 ·omega
 ·split <;> omega
theorem knd_pawn {m:Int} (h:knd m=1):m=1∨m=-1:=by
 unfold knd at h;split at h
 ·omega
 ·split at h <;> omega
theorem rslides_is (m:Int) (w:World):Calls Tryz.prog 156 #[.int .i64 m] w fun e w'=>e=.returned (.bool (Ya m))∧w=w':=by
 have HK:=Qh (rknd_any m);unfold Ya;have hq:=knd_is m;generalize knd m=q at *;rcases hq with rfl|rfl|rfl|rfl|rfl|rfl|rfl
 all_goals
  go_enter Tryz.func156,Tryz.ntmps156;go_wp2_with fail
  refine (HK.out _).mono ?_;rintro e w' ⟨rfl,rfl⟩;go_wp2;go_ret;exact ⟨rfl,rfl⟩
theorem ahead_w (w:World):Calls Tryz.prog 194 #[.int .i64 0] w fun e w'=>e=.returned (.int .i64 1)∧w=w':=by
 go_enter Tryz.func194,Tryz.ntmps194;go_wp2;go_ret;exact ⟨rfl,rfl⟩
theorem ahead_b (w:World):Calls Tryz.prog 194 #[.int .i64 1] w fun e w'=>e=.returned (.int .i64 (-1))∧w=w':=by
 go_enter Tryz.func194,Tryz.ntmps194;go_wp2;go_ret;exact ⟨rfl,rfl⟩
def Steps (w:World):Prop:=∀ i:Nat,i<16→w.cell? ⟨7,i*2,none⟩=some (.int .i64 (wayF i))∧w.cell? ⟨7,i*2+1,none⟩=some (.int .i64 (wayR i))
theorem Steps.kept {a b:World} (h:Steps a) (k:Kept a b):Steps b:=fun i hi=>⟨Qa k (h i hi).1,Qa k (h i hi).2⟩
end Go.Proofs.YtlpeiolgcaddjaaGreatDoor
namespace Go.Proofs.YtlpeiolgcaddjaaGreatDoor
set_option linter.unusedVariables false
set_option linter.unusedSimpArgs false
def backW (way:Nat):Nat:=if way<4 then (way+2) % 4 else if way<8 then 4+(way+2) % 4 else 8+(way+4) % 8
theorem back_way {way:Nat} (h:way<16):backW way<16∧wayF (backW way)=-wayF way∧wayR (backW way)=-wayR way∧backW (backW way)=way∧(backW way<8↔way<8)∧¬ (wayF way=0∧wayR way=0):=by
 have:∀ i:Fin 16,backW i<16∧wayF (backW i)=-wayF i∧wayR (backW i)=-wayR i∧backW (backW i)=i∧(backW i<8↔(i:Nat)<8)∧¬ (wayF i=0∧wayR i=0):=by decide +kernel
 exact this ⟨way,h⟩
theorem conv_in {a f:Int} {i:Nat} (h0:0≤a) (h8:a<8) (h1:0≤a+((i:Int)+1)*f) (h2:a+((i:Int)+1)*f<8):0≤a+f∧a+f<8:=by
 rw [Int.add_mul,Int.one_mul] at h1 h2;rcases Int.le_total 0 f with hf|hf
 ·have:=Int.mul_nonneg (show 0≤(i:Int) by omega) hf
  omega
 ·have:=Int.mul_nonneg (show 0≤(i:Int) by omega) (show 0≤-f by omega)
  rw [Int.mul_neg] at this;omega
theorem succ_mul_ (j:Nat) (f:Int):(((j+1:Nat):Int)+1)*f=f+((j:Int)+1)*f:=by
 rw [Int.natCast_add,Int.add_mul ((j:Int)+((1:Nat):Int)),Int.one_mul];show ((j:Int)+1)*f+f=_;omega
theorem rayN_at:∀ (n:Nat) (s f r:Int) (i:Nat) (x:Int),0≤s→s<64→((rayN n s f r)[i]?=some x↔i<n∧0≤x∧x<64∧x % 8=s % 8+((i:Int)+1)*f∧x / 8=s / 8+((i:Int)+1)*r)
 | 0,s,f,r,i,x=>fun _ _=>by simp [rayN]
 | n+1,s,f,r,i,x=>fun h0 h1=>by
  unfold rayN;rcases stI_cases s f r with ⟨_,_,c,d,e,g,hs⟩|⟨hs,h⟩
  ·rw [if_neg (by omega)]
   cases i with
   | zero =>
    rw [List.getElem?_cons_zero,Option.some_inj];have e1:(((0:Nat):Int)+1)*f=f:=by rw [Int.natCast_zero,Int.zero_add,Int.one_mul]
    have e2:(((0:Nat):Int)+1)*r=r:=by rw [Int.natCast_zero,Int.zero_add,Int.one_mul]
    rw [e1,e2,hs];omega
   | succ j =>
    rw [List.getElem?_cons_succ,rayN_at n _ f r j x (by omega) (by omega),succ_mul_,succ_mul_,hs];generalize ((j:Int)+1)*f=u;generalize ((j:Int)+1)*r=v;omega
  ·rw [if_pos (by omega)]
   simp only [List.getElem?_nil,false_iff,reduceCtorEq];rintro ⟨_,x0,x1,e1,e2⟩;have a:=conv_in (a:=s % 8) (f:=f) (i:=i) (by omega) (by omega) (by omega) (by omega);have b:=conv_in (a:=s / 8) (f:=r) (i:=i) (by omega) (by omega) (by omega) (by omega);omega
theorem near_far {f:Int} {i:Nat} (h:f≠0) (h1:-7≤((i:Int)+1)*f) (h2:((i:Int)+1)*f≤7):i≤6:=by
 rw [Int.add_mul,Int.one_mul] at h1 h2;rcases Int.le_total 0 f with hf|hf
 ·have:=Int.mul_le_mul_of_nonneg_left (show 1≤f by omega) (show 0≤(i:Int) by omega)
  omega
 ·have:=Int.mul_le_mul_of_nonneg_left (show 1≤-f by omega) (show 0≤(i:Int) by omega)
  rw [Int.mul_neg] at this;omega
theorem rayL_at {s f r:Int} (h0:0≤s) (h1:s<64) (hn:¬ (f=0∧r=0)) (i:Nat) (x:Int) :
  (rayL s f r)[i]?=some x↔0≤x∧x<64∧x % 8=s % 8+((i:Int)+1)*f∧x / 8=s / 8+((i:Int)+1)*r:=by
 unfold rayL;rw [if_neg hn,rayN_at 8 s f r i x h0 h1];constructor
 ·exact fun h=>h.2
 ·rintro ⟨a,b,c,d⟩
  refine ⟨?_,a,b,c,d⟩;by_cases hf:f=0
  ·have:=near_far (f:=r) (i:=i) (fun hr=>hn ⟨hf,hr⟩) (by omega) (by omega)
   omega
  ·have:=near_far (f:=f) (i:=i) hf (by omega) (by omega)
   omega
theorem rayL_short {s f r:Int} (h0:0≤s) (h1:s<64) (hn:¬ (f=0∧r=0)) {i:Nat} {x:Int} (h:(rayL s f r)[i]?=some x):i≤6:=by
 obtain ⟨a,b,c,d⟩:=(rayL_at h0 h1 hn i x).1 h;by_cases hf:f=0
 ·exact near_far (f:=r) (i:=i) (fun hr=>hn ⟨hf,hr⟩) (by omega) (by omega)
 ·exact near_far (f:=f) (i:=i) hf (by omega) (by omega)
def bAt (B:List Int) (x:Int):Int:=B.getD x.toNat 0
def rayW (s:Int) (way:Nat):List Int:=rayL s (wayF way) (wayR way)
def Sight (B:List Int) (s:Int) (way i:Nat) (x:Int):Prop:=(rayW s way)[i]?=some x∧∀ k,k<i→∀ y,(rayW s way)[k]?=some y→bAt B y=0
theorem rayW_at {s:Int} (h0:0≤s) (h1:s<64) {way:Nat} (hw:way<16) (i:Nat) (x:Int) :
  (rayW s way)[i]?=some x↔0≤x∧x<64∧x % 8=s % 8+((i:Int)+1)*wayF way∧x / 8=s / 8+((i:Int)+1)*wayR way :=
 rayL_at h0 h1 (back_way hw).2.2.2.2.2 i x
theorem Sight.on {B:List Int} {s x:Int} {way i:Nat} (h0:0≤s) (h1:s<64) (hw:way<16) (h:Sight B s way i x):0≤x∧x<64∧i≤6:=by
 obtain ⟨a,b,_⟩:=(rayW_at h0 h1 hw i x).1 h.1;exact ⟨a,b,rayL_short h0 h1 (back_way hw).2.2.2.2.2 h.1⟩
theorem Sight.back {B:List Int} {s x:Int} {way i:Nat} (h0:0≤s) (h1:s<64) (hw:way<16) (h:Sight B s way i x):Sight B x (backW way) i s:=by
 obtain ⟨hx,hc⟩:=h;obtain ⟨x0,x1,ex,ey⟩:=(rayW_at h0 h1 hw i x).1 hx;obtain ⟨b1,b2,b3,b4,b5,b6⟩:=back_way hw;refine ⟨(rayW_at x0 x1 b1 i s).2 ⟨h0,h1,?_,?_⟩,fun k hk y hy=>?_⟩
 ·rw [b2,Int.mul_neg];omega
 ·rw [b3,Int.mul_neg];omega
 ·obtain ⟨y0,y1,e1,e2⟩:=(rayW_at x0 x1 b1 k y).1 hy
  obtain ⟨j,rfl⟩:∃ j,i=k+1+j:=⟨i-(k+1),by omega⟩;refine hc j (by omega) y ((rayW_at h0 h1 hw j y).2 ⟨y0,y1,?_,?_⟩)
  ·rw [b2,Int.mul_neg] at e1
   have:((((k+1+j:Nat):Int)+1))*wayF way=((k:Int)+1)*wayF way+((j:Int)+1)*wayF way:=by
    rw [← Int.add_mul];congr 1
   omega
  ·rw [b3,Int.mul_neg] at e2
   have:((((k+1+j:Nat):Int)+1))*wayR way=((k:Int)+1)*wayR way+((j:Int)+1)*wayR way:=by
    rw [← Int.add_mul];congr 1
   omega
theorem uniq_all:∀ a:Fin 16,∀ b:Fin 16,∀ i:Fin 7,∀ j:Fin 7,((a:Nat)<8 || (i:Nat) == 0)=true→((b:Nat)<8 || (j:Nat) == 0)=true →
  (((i:Nat):Int)+1)*wayF a=(((j:Nat):Int)+1)*wayF b→(((i:Nat):Int)+1)*wayR a=(((j:Nat):Int)+1)*wayR b→a=b∧i=j:=by decide +kernel
theorem way_uniq {s x:Int} (h0:0≤s) (h1:s<64) {a b i j:Nat} (ha:a<16) (hb:b<16) (h2:a<8∨i=0) (h3:b<8∨j=0) (h4:(rayW s a)[i]?=some x) (h5:(rayW s b)[j]?=some x):a=b∧i=j:=by
 have hi:=rayL_short h0 h1 (back_way ha).2.2.2.2.2 h4;have hj:=rayL_short h0 h1 (back_way hb).2.2.2.2.2 h5;obtain ⟨_,_,e1,e2⟩:=(rayW_at h0 h1 ha i x).1 h4;obtain ⟨_,_,e3,e4⟩:=(rayW_at h0 h1 hb j x).1 h5;have:=uniq_all ⟨a,ha⟩ ⟨b,hb⟩ ⟨i,by omega⟩ ⟨j,by omega⟩ (by simpa using h2) (by simpa using h3) (by show ((i:Int)+1)*wayF a=((j:Int)+1)*wayF b;omega) (by show ((i:Int)+1)*wayR a=((j:Int)+1)*wayR b;omega);exact ⟨Fin.mk.inj_iff.1 this.1,Fin.mk.inj_iff.1 this.2⟩
def uptoL (B:List Int):List Int→List Int
 | []=>[]
 | x::xs=>x::if bAt B x=0 then uptoL B xs else []
theorem mem_upto (B:List Int) (x:Int):∀ R:List Int,x ∈ uptoL B R↔∃ i:Nat,R[i]?=some x∧∀ k,k<i→∀ y,R[k]?=some y→bAt B y=0
 | []=>by simp [uptoL]
 | z::R=>by
  unfold uptoL;rw [List.mem_cons];constructor
  ·rintro (rfl|h)
   ·exact ⟨0,by simp,fun k hk=>by omega⟩
   ·split at h
    ·next hz =>
     obtain ⟨i,hi,hc⟩:=(mem_upto B x R).1 h;refine ⟨i+1,by simpa using hi,fun k hk y hy=>?_⟩
     cases k with
     | zero=>simp at hy;rw [← hy];exact hz
     | succ k=>exact hc k (by omega) y (by simpa using hy)
    ·cases h
  ·rintro ⟨i,hi,hc⟩
   cases i with
   | zero=>left;simpa using hi.symm
   | succ i =>
    right;rw [if_pos (hc 0 (by omega) z (by simp))];exact (mem_upto B x R).2 ⟨i,by simpa using hi,fun k hk y hy=>hc (k+1) (by omega) y (by simpa using hy)⟩
def Jd (m:Int) (way far:Nat):Bool:=goesB m way && (far == 1 || Ya m)
theorem slides_goes {m:Int} {way:Nat} (h:way<16) (h1:Ya m=true) (h2:goesB m way=true):way<8:=by
 unfold Ya at h1;unfold goesB at h2;simp only [Bool.or_eq_true,beq_iff_eq] at h1;rcases h1 with (h1|h1)|h1 <;> rw [h1] at h2 <;> simp at h2 <;> omega
theorem reach_less {m:Int} {way i k:Nat} (h:Jd m way (i+1)=true) (hk:k<i):Jd m way (k+1)=true:=by
 unfold Jd at h ⊢;simp only [Bool.and_eq_true,Bool.or_eq_true,beq_iff_eq] at h ⊢;exact ⟨h.1,.inr (by rcases h.2 with h|h;omega;exact h)⟩
theorem reach_far {m:Int} {way i:Nat} (hw:way<16) (h:Jd m way (i+1)=true):way<8∨i=0:=by
 unfold Jd at h;simp only [Bool.and_eq_true,Bool.or_eq_true,beq_iff_eq] at h;rcases h.2 with h2|h2
 ·right;omega
 ·left;exact slides_goes hw h2 h.1
def Jv (B:List Int) (s:Int):List Int:=(ofL (bAt B s) s).flatMap (uptoL B)
theorem mem_one (B:List Int) (x:Int) (l:List Int):(∃ a ∈ oneL l,x ∈ uptoL B a)↔x ∈ uptoL B l:=by
 unfold oneL;split
 ·next h=>rw [List.eq_nil_of_length_eq_zero h];simp [uptoL]
 ·simp
theorem mem_strike (B:List Int) (s x:Int):x ∈ Jv B s↔∃ way i,way<16∧Jd (bAt B s) way (i+1)=true∧Sight B s way i x:=by
 unfold Jv ofL ofN;generalize bAt B s=m;rw [List.mem_flatMap];simp only [List.mem_flatMap,List.mem_filter,List.mem_range];constructor
 ·rintro ⟨l,⟨way,⟨hw,hg⟩,hl⟩,hx⟩
  have hx:=(mem_one B x _).1 ⟨l,hl,hx⟩;obtain ⟨i,hi,hc⟩:=(mem_upto B x _).1 hx;by_cases hs:Ya m=true
  ·have h8:=slides_goes hw hs hg
   have e:cutL m (alongL way s)=rayW s way:=by unfold cutL alongL rayW;rw [if_pos hs,if_neg (by omega)]
   rw [e] at hi hc;exact ⟨way,i,hw,by unfold Jd;rw [hg,hs];simp,hi,hc⟩
  ·have hs':Ya m=false:=by simpa using hs
   have e:cutL m (alongL way s)=(rayW s way).take 1:=by
    unfold cutL alongL rayW;rw [hs'];simp only [Bool.false_eq_true,if_false];split
    ·rw [List.take_take];rfl
    ·rfl
   rw [e] at hi hc;rw [List.getElem?_take] at hi;split at hi
   ·next h1 =>
    obtain rfl:i=0:=by omega
    exact ⟨way,0,hw,by unfold Jd;rw [hg];simp,hi,fun k hk=>by omega⟩
   ·cases hi
 ·rintro ⟨way,i,hw,hr,hi,hc⟩
  have hr':=hr;unfold Jd at hr;simp only [Bool.and_eq_true,Bool.or_eq_true,beq_iff_eq] at hr;obtain ⟨hg,hr⟩:=hr
  have key:x ∈ uptoL B (cutL m (alongL way s)):=by
   rw [mem_upto];by_cases hs:Ya m=true
   ·have h8:=slides_goes hw hs hg
    have e:cutL m (alongL way s)=rayW s way:=by unfold cutL alongL rayW;rw [if_pos hs,if_neg (by omega)]
    rw [e];exact ⟨i,hi,hc⟩
   ·obtain rfl:i=0:=by rcases hr with h|h;omega;exact absurd h hs
    have hs':Ya m=false:=by simpa using hs
    have e:cutL m (alongL way s)=(rayW s way).take 1:=by
     unfold cutL alongL rayW;rw [hs'];simp only [Bool.false_eq_true,if_false];split
     ·rw [List.take_take];rfl
     ·rfl
    rw [e];exact ⟨0,by rw [List.getElem?_take];exact hi,fun k hk=>by omega⟩
  obtain ⟨l,hl,hx⟩:=(mem_one B x _).2 key;exact ⟨l,⟨way,⟨hw,hg⟩,hl⟩,hx⟩
def seeL (ans:Int→Nat→Nat→Bool) (B:List Int) (way:Nat):Nat→List Int→List (Int × Nat × Nat)
 | _,[]=>[]
 | far,t::ts=>(t,way,far)::if ans t way far && (bAt B t == 0) then seeL ans B way (far+1) ts else []
def lookN (ans:Int→Nat→Nat→Bool) (B:List Int) (s:Int) (n:Nat):List (Int × Nat × Nat):=(List.range n).flatMap fun way=>seeL ans B way 1 (rayW s way)
def lookL (ans:Int→Nat→Nat→Bool) (B:List Int) (s:Int):List (Int × Nat × Nat):=lookN ans B s 16
theorem lookN_succ (ans:Int→Nat→Nat→Bool) (B:List Int) (s:Int) (n:Nat):lookN ans B s (n+1)=lookN ans B s n++seeL ans B n 1 (rayW s n):=by
 unfold lookN;rw [List.range_succ,List.flatMap_append];simp
theorem mem_see (ans:Int→Nat→Nat→Bool) (B:List Int) (way:Nat) (c:Int × Nat × Nat):∀ (R:List Int) (f0:Nat),c ∈ seeL ans B way f0 R ↔
  c.2.1=way∧∃ i:Nat,c.2.2=f0+i∧R[i]?=some c.1∧∀ k,k<i→∀ y,R[k]?=some y→bAt B y=0∧ans y way (f0+k)=true
 | [],f0=>by simp [seeL]
 | z::R,f0=>by
  unfold seeL;rw [List.mem_cons];constructor
  ·rintro (rfl|h)
   ·exact ⟨rfl,0,rfl,rfl,fun k hk=>by omega⟩
   ·split at h
    ·next hz =>
     simp only [Bool.and_eq_true,beq_iff_eq] at hz;obtain ⟨e,i,hf,hi,hc⟩:=(mem_see ans B way c R (f0+1)).1 h;refine ⟨e,i+1,by omega,by simpa using hi,fun k hk y hy=>?_⟩
     cases k with
     | zero=>simp at hy;rw [← hy];exact ⟨hz.2,hz.1⟩
     | succ k=>rw [show f0+(k+1)=f0+1+k by omega];exact hc k (by omega) y (by simpa using hy)
    ·cases h
  ·rintro ⟨e,i,hf,hi,hc⟩
   cases i with
   | zero =>
    left;obtain ⟨c1,c2,c3⟩:=c;simp at hi hf e;subst hi hf e;rfl
   | succ i =>
    right;have h0:=hc 0 (by omega) z (by simp);rw [if_pos (by rw [Bool.and_eq_true,beq_iff_eq];exact ⟨h0.2,h0.1⟩)];refine (mem_see ans B way c R (f0+1)).2 ⟨e,i,by omega,by simpa using hi,fun k hk y hy=>?_⟩;have:=hc (k+1) (by omega) y (by simpa using hy);rw [show f0+(k+1)=f0+1+k by omega] at this;exact this
theorem see_order (ans:Int→Nat→Nat→Bool) (B:List Int) (way:Nat):∀ (R:List Int) (f0:Nat),(seeL ans B way f0 R).Pairwise fun a b=>a.2.2<b.2.2
 | [],f0=>by simp [seeL]
 | z::R,f0=>by
  unfold seeL;rw [List.pairwise_cons];split
  ·refine ⟨fun c hc=>?_,see_order ans B way R (f0+1)⟩
   obtain ⟨_,i,hi,_⟩:=(mem_see ans B way c R (f0+1)).1 hc;show f0<c.2.2;omega
  ·simp
theorem mem_look (ans:Int→Nat→Nat→Bool) (B:List Int) (s:Int) (c:Int × Nat × Nat):c ∈ lookL ans B s ↔
  c.2.1<16∧∃ i:Nat,c.2.2=i+1∧Sight B s c.2.1 i c.1∧∀ k,k<i→∀ y,(rayW s c.2.1)[k]?=some y→ans y c.2.1 (k+1)=true:=by
 unfold lookL lookN;rw [List.mem_flatMap];constructor
 ·rintro ⟨way,hw,h⟩
  obtain ⟨e,i,hf,hi,hc⟩:=(mem_see ans B way c _ 1).1 h;subst e;exact ⟨List.mem_range.1 hw,i,by omega,⟨hi,fun k hk y hy=>(hc k hk y hy).1⟩,fun k hk y hy=>by rw [Nat.add_comm];exact (hc k hk y hy).2⟩
 ·rintro ⟨hw,i,hf,⟨hi,hc⟩,ha⟩
  exact ⟨c.2.1,List.mem_range.2 hw,(mem_see ans B _ c _ 1).2 ⟨rfl,i,by omega,hi,fun k hk y hy=>⟨hc k hk y hy,by rw [Nat.add_comm];exact ha k hk y hy⟩⟩⟩
theorem look_nodup (ans:Int→Nat→Nat→Bool) (B:List Int) (s:Int):(lookL ans B s).Nodup:=by
 unfold lookL lookN List.Nodup;rw [List.pairwise_flatMap];refine ⟨fun way _=>(see_order ans B way _ 1).imp fun h e=>by rw [e] at h;omega,List.pairwise_lt_range.imp fun {a b} hab x hx y hy e=>?_⟩;have h1:=((mem_see ans B a x _ 1).1 hx).1;have h2:=((mem_see ans B b y _ 1).1 hy).1;rw [e] at h1;omega
theorem told_nodup (ans:Int→Nat→Nat→Bool) (B:List Int) (s:Int) (h0:0≤s) (h1:s<64) (p:Int × Nat × Nat→Bool) (hp:∀ c ∈ lookL ans B s,p c=true→c.2.1<8∨c.2.2=1) :
  (((lookL ans B s).filter p).map (·.1)).Nodup:=by
 unfold List.Nodup;rw [List.pairwise_map];refine List.Pairwise.imp_of_mem (R:=fun a b=>a≠b) (fun {a b} ha hb hne e=>hne ?_) ((look_nodup ans B s).filter p);obtain ⟨ha,pa⟩:=List.mem_filter.1 ha;obtain ⟨hb,pb⟩:=List.mem_filter.1 hb;have qa:=hp a ha pa;have qb:=hp b hb pb;obtain ⟨wa,i,ia,sa,_⟩:=(mem_look ans B s a).1 ha;obtain ⟨wb,j,ib,sb,_⟩:=(mem_look ans B s b).1 hb;rw [← e] at sb;have:=way_uniq h0 h1 wa wb (i:=i) (j:=j) (by omega) (by omega) sa.1 sb.1;obtain ⟨a1,a2,a3⟩:=a;obtain ⟨b1,b2,b3⟩:=b;simp at this ia ib e ⊢;omega
def zn (l:List Nat):List Int:=l.map fun (n:Nat)=>(n:Int)
theorem sort_sel (L:List Int) (p:Nat→Bool) (hn:L.Nodup) (hm:∀ x:Int,x ∈ L↔∃ n:Nat,n<64∧x=(n:Int)∧p n=true):(L.mergeSort fun x y=>decide (x≤y))=zn (sel p 64):=by
 have hs:(zn (sel p 64)).Pairwise fun a b=>a<b:=by
  unfold zn sel;rw [List.pairwise_map];exact (List.pairwise_lt_range.filter p).imp fun h=>by omega
 have hperm:L.Perm (zn (sel p 64)):=by
  rw [List.perm_ext_iff_of_nodup hn (hs.imp fun h=>by omega)];intro x;rw [hm];unfold zn sel;simp only [List.mem_map,List.mem_filter,List.mem_range];constructor
  ·rintro ⟨n,a,b,c⟩;exact ⟨n,⟨a,c⟩,b.symm⟩
  ·rintro ⟨n,⟨a,c⟩,b⟩;exact ⟨n,a,b.symm,c⟩
 refine List.Perm.eq_of_pairwise (le:=fun a b=>a≤b) (fun a b _ _ h1 h2=>by omega) ?_ (hs.imp fun h=>by omega) ((List.mergeSort_perm _ _).trans hperm);exact (List.pairwise_mergeSort (le:=fun x y:Int=>decide (x≤y)) (fun a b c h1 h2=>by simp at *;omega) (fun a b=>by simp;omega) L).imp fun h=>by simpa using h
def hitB (B:List Int) (s t:Int):Bool:=(Jv B s).contains t
theorem hitB_iff (B:List Int) (s t:Int):hitB B s t=true↔t ∈ Jv B s:=by unfold hitB;simp
def okS (s:Int):Bool:=decide (0≤s) && decide (s<64)
def Yv (B:List Int) (s:Int):List Nat:=sel (fun n=>hitB B s (n:Int)) 64
def byN (B:List Int) (s side:Int):List Nat:=sel (fun n=>(sideI (B.getD n 0) == side) && hitB B (n:Int) s) 64
def ansM (m:Int):Int→Nat→Nat→Bool:=fun _ way far=>Jd m way far
def toldM (m:Int):Int × Nat × Nat→Bool:=fun c=>Jd m c.2.1 c.2.2
def outM (B:List Int) (s:Int):List Int:=((lookL (ansM (bAt B s)) B s).filter (toldM (bAt B s))).map (·.1)
theorem mem_strike_on {B:List Int} {s x:Int} (h0:0≤s) (h1:s<64) (h:x ∈ Jv B s):0≤x∧x<64:=by
 obtain ⟨way,i,hw,_,hs⟩:=(mem_strike B s x).1 h;have:=hs.on h0 h1 hw;exact ⟨this.1,this.2.1⟩
theorem mem_outM (B:List Int) (s x:Int):x ∈ outM B s↔x ∈ Jv B s:=by
 rw [mem_strike];unfold outM;rw [List.mem_map];constructor
 ·rintro ⟨c,hc,rfl⟩
  obtain ⟨hc,hp⟩:=List.mem_filter.1 hc;obtain ⟨hw,i,hi,hs,_⟩:=(mem_look _ B s c).1 hc;exact ⟨c.2.1,i,hw,by unfold toldM at hp;rw [hi] at hp;exact hp,hs⟩
 ·rintro ⟨way,i,hw,hr,hs⟩
  exact ⟨(x,way,i+1),List.mem_filter.2 ⟨(mem_look _ B s _).2 ⟨hw,i,rfl,hs,fun k hk y _=>reach_less hr hk⟩,hr⟩,rfl⟩
theorem sort_outM (B:List Int) (s:Int) (h0:0≤s) (h1:s<64):((outM B s).mergeSort fun x y=>decide (x≤y))=zn (Yv B s):=by
 refine sort_sel _ _ (told_nodup _ B s h0 h1 _ fun c hc hp=>?_) fun x=>?_
 ·obtain ⟨hw,i,hi,hs,_⟩:=(mem_look _ B s c).1 hc
  have hp':Jd (bAt B s) c.2.1 (i+1)=true:=by unfold toldM at hp;rw [hi] at hp;exact hp
  have:=reach_far hw hp';omega
 ·rw [mem_outM]
  constructor
  ·intro h
   obtain ⟨a,b⟩:=mem_strike_on h0 h1 h;obtain ⟨n,rfl⟩:=Int.eq_ofNat_of_zero_le a;exact ⟨n,by omega,rfl,(hitB_iff B s _).2 h⟩
  ·rintro ⟨n,_,rfl,h⟩
   exact (hitB_iff B s _).1 h
def ansW:Int→Nat→Nat→Bool:=fun _ way _=>decide (way<8)
def toldW (B:List Int) (side:Int):Int × Nat × Nat→Bool:=fun c=>(sideI (bAt B c.1) == side) && Jd (bAt B c.1) (backW c.2.1) c.2.2
def tellL (B:List Int) (s side:Int):List (Int × Nat × Nat):=(lookL ansW B s).filter (toldW B side)
def outW (B:List Int) (s side:Int):List Int:=(tellL B s side).map (·.1)
theorem mem_tell {B:List Int} {s side:Int} {c:Int × Nat × Nat} (h0:0≤s) (h1:s<64):c ∈ tellL B s side ↔
  c.2.1<16∧∃ i:Nat,c.2.2=i+1∧(c.2.1<8∨i=0)∧Sight B s c.2.1 i c.1∧sideI (bAt B c.1)=side∧Jd (bAt B c.1) (backW c.2.1) (i+1)=true:=by
 unfold tellL;rw [List.mem_filter,mem_look];unfold toldW ansW;simp only [Bool.and_eq_true,beq_iff_eq];constructor
 ·rintro ⟨⟨hw,i,hi,hs,ha⟩,hsd,hr⟩
  rw [hi] at hr;refine ⟨hw,i,hi,?_,hs,hsd,hr⟩;have:=reach_far (back_way hw).1 hr;have:=(back_way hw).2.2.2.2.1;omega
 ·rintro ⟨hw,i,hi,h8,hs,hsd,hr⟩
  refine ⟨⟨hw,i,hi,hs,fun k hk y _=>?_⟩,hsd,by rw [hi];exact hr⟩;simp;omega
theorem mem_outW (B:List Int) (s side x:Int) (h0:0≤s) (h1:s<64):x ∈ outW B s side↔0≤x∧x<64∧sideI (bAt B x)=side∧s ∈ Jv B x:=by
 unfold outW;rw [List.mem_map];constructor
 ·rintro ⟨c,hc,rfl⟩
  obtain ⟨hw,i,hi,h8,hs,hsd,hr⟩:=(mem_tell h0 h1).1 hc;obtain ⟨a,b,_⟩:=hs.on h0 h1 hw;exact ⟨a,b,hsd,(mem_strike B _ s).2 ⟨backW c.2.1,i,(back_way hw).1,hr,hs.back h0 h1 hw⟩⟩
 ·rintro ⟨a,b,hsd,h⟩
  obtain ⟨way,i,hw,hr,hs⟩:=(mem_strike B x s).1 h;obtain ⟨b1,b2,b3,b4,b5,b6⟩:=back_way hw;have h8:=reach_far hw hr;refine ⟨(x,backW way,i+1),(mem_tell h0 h1).2 ⟨b1,i,rfl,?_,hs.back a b hw,hsd,?_⟩,rfl⟩
  ·show backW way<8∨i=0
   omega
  ·show Jd (bAt B x) (backW (backW way)) (i+1)=true
   rw [b4];exact hr
theorem sort_outW (B:List Int) (s side:Int) (h0:0≤s) (h1:s<64):((outW B s side).mergeSort fun x y=>decide (x≤y))=zn (byN B s side):=by
 unfold byN;refine sort_sel _ _ (told_nodup _ B s h0 h1 _ fun c hc hp=>?_) fun x=>?_
 ·obtain ⟨hw,i,hi,h8,_⟩:=(mem_tell (side:=side) h0 h1).1 (List.mem_filter.2 ⟨hc,hp⟩)
  omega
 ·rw [mem_outW B s side x h0 h1]
  constructor
  ·rintro ⟨a,b,hsd,h⟩
   obtain ⟨n,rfl⟩:=Int.eq_ofNat_of_zero_le a;refine ⟨n,by omega,rfl,?_⟩;rw [Bool.and_eq_true,beq_iff_eq];exact ⟨hsd,(hitB_iff B _ s).2 h⟩
  ·rintro ⟨n,hn,rfl,h⟩
   rw [Bool.and_eq_true,beq_iff_eq] at h;exact ⟨by omega,by omega,h.1,(hitB_iff B _ s).1 h.2⟩
end Go.Proofs.YtlpeiolgcaddjaaGreatDoor
namespace Go.Proofs.YtlpeiolgcaddjaaGreatDoor
open Go.RowKit
set_option linter.unusedVariables false
set_option linter.unusedSimpArgs false
theorem wayF_wf (way:Nat) (h:way<16):(Lit.int .i64 (wayF way)).wf=true∧(Lit.int .i64 (wayR way)).wf=true:=by
 have:∀ i:Fin 16,(Lit.int .i64 (wayF i)).wf=true∧(Lit.int .i64 (wayR i)).wf=true:=by decide +kernel
 exact this ⟨way,h⟩
theorem Ju (way:Nat) (h:way<16) (w:World):Calls Tryz.prog 193 #[.int .i64 way] w fun e w'=>e=.returned (.bool true)∧w=w':=by
 have h1:(0:Int)≤(way:Int):=by omega
 have h2:(way:Int)<16:=by omega
 go_enter Tryz.func193,Tryz.ntmps193;go_wp2;go_ret;exact ⟨rfl,rfl⟩
theorem wstep_is (way:Nat) (h:way<16) (w:World) (hS:Steps w) :
  Calls Tryz.prog 192 #[.int .i64 way] w fun e w'=>e=.returned (.tuple #[.int .i64 (wayF way),.int .i64 (wayR way)])∧Kept w w':=by
 obtain ⟨hc1,hc2⟩:=hS way h;have h1:(0:Int)≤(way:Int):=by omega
 have h2:(way:Int)<16:=by omega
 generalize wayF way=x at *;generalize wayR way=y at *;clear hS;go_enter Tryz.func192,Tryz.ntmps192;go_wp2_with fail
 refine (Ju way h _).mono ?_;rintro e w' ⟨rfl,rfl⟩;go_wp2
 go_quiet (fail)
 go_wp2;go_ret2;exact ⟨rfl,(Kept.refl w).drewN _⟩
theorem wback_is (way:Nat) (h:way<16) (w:World):Calls Tryz.prog 172 #[.int .i64 way] w fun e w'=>e=.returned (.int .i64 (backW way:Nat))∧w=w':=by
 have:∀ i:Fin 16,∀ w:World,Calls Tryz.prog 172 #[.int .i64 ((i:Nat):Int)] w fun e w'=>e=.returned (.int .i64 (backW i:Nat))∧w=w':=by
  intro i w;have hi:=i.isLt;rcases i with ⟨i,h⟩
  have hw:i<4∨(4≤i∧i<8)∨8≤i:=by omega
  have e:((backW i:Nat):Int)=if i<4 then ((i:Int)+2) % 4 else if i<8 then 4+((i:Int)+2) % 4 else 8+((i:Int)+4) % 8:=by
   unfold backW;split
   ·omega
   ·split <;> omega
  have h16:(i:Int)<16:=by omega
  show Calls Tryz.prog 172 #[.int .i64 (i:Int)] w fun e w'=>e=.returned (.int .i64 (backW i:Nat))∧w=w'
  generalize backW i=b at *;rcases hw with h1|⟨h1,h2⟩|h1
  ·rw [if_pos h1] at e
   have h1':(i:Int)<4:=by omega
   have q:Int.tmod ((i:Int)+2) 4=(b:Int):=by rw [e,Int.tmod_eq_emod_of_nonneg (by omega)]
   have HQ:=Qh e;clear e;go_enter Tryz.func172,Tryz.ntmps172;go_wp2_with fail
   refine (Ju i h _).mono ?_;rintro e w' ⟨rfl,rfl⟩;go_wp2;go_ret;exact ⟨by rw [HQ.out];rfl,rfl⟩
  ·rw [if_neg (by omega),if_pos h2] at e
   have h1':¬ (i:Int)<4:=by omega
   have h2':(i:Int)<8:=by omega
   have HQ:=Qh e;clear e;go_enter Tryz.func172,Tryz.ntmps172;go_wp2_with fail
   refine (Ju i h _).mono ?_;rintro e w' ⟨rfl,rfl⟩;go_wp2;go_ret;exact ⟨by rw [HQ.out];rfl,rfl⟩
  ·rw [if_neg (by omega),if_neg (by omega)] at e
   have h1':¬ (i:Int)<4:=by omega
   have h2':¬ (i:Int)<8:=by omega
   have HQ:=Qh e;clear e;go_enter Tryz.func172,Tryz.ntmps172;go_wp2_with fail
   refine (Ju i h _).mono ?_;rintro e w' ⟨rfl,rfl⟩;go_wp2;go_ret;exact ⟨by rw [HQ.out];rfl,rfl⟩
 exact this ⟨way,h⟩ w
theorem wreach_pawn (m:Int) (way far:Nat) (h:way<16) (hf:1≤far) (hf2:far≤1000) (w:World) (hS:Steps w) (hm:knd m=1) :
  Calls Tryz.prog 171 #[.int .i64 m,.int .i64 way,.int .i64 far] w fun e w'=>e=.returned (.bool (Jd m way far))∧∃ d,w'=w.drewN d:=by
 have hk:=Qh (mknd_any m);have hp:=knd_pawn hm;have hc:=(hS way h).2
 have e:Jd m way far=((decide (4≤way∧way<8) && wayR way == (if m<0 then -1 else 1)) && (far == 1)):=by
  unfold Jd goesB Ya;rw [hm];simp
 rw [hm] at hk;have hW:(way:Int)<16:=by omega
 have hW0:(0:Int)≤(way:Int):=by omega
 have hF:¬ (far:Int)<1:=by omega
 generalize wayR way=y at *;generalize Jd m way far=b at *;clear hm hS;by_cases hfar:far=1
 ·subst hfar
  by_cases h1:4≤way
  ·have h1':(4:Int)≤(way:Int):=by omega
   by_cases h2:way<8
   ·have h2':(way:Int)<8:=by omega
    rcases hp with rfl|rfl
    ·have HE:=Qh (show b=(y == 1) by rw [e];simp [h1,h2])
     clear e;go_enter Tryz.func171,Tryz.ntmps171;go_wp2_with fail
     refine (Ju way h _).mono ?_;rintro e w' ⟨rfl,rfl⟩;go_wp2_with fail
     refine (hk.out _).mono ?_;rintro e w' ⟨rfl,rfl⟩;go_wp2
     go_quiet (first|(go_at_call 132;exact Qah (mside_w 1 _ (by omega) (by omega)))|(go_at_call 194;exact Qah (ahead_w _)))
     go_wp2;go_ret;exact ⟨by rw [HE.out];rfl,_,rfl⟩
    ·have HE:=Qh (show b=(y == -1) by rw [e];simp [h1,h2])
     clear e;go_enter Tryz.func171,Tryz.ntmps171;go_wp2_with fail
     refine (Ju way h _).mono ?_;rintro e w' ⟨rfl,rfl⟩;go_wp2_with fail
     refine (hk.out _).mono ?_;rintro e w' ⟨rfl,rfl⟩;go_wp2
     go_quiet (first|(go_at_call 132;exact Qah (mside_b (-1) _ (by omega) (by omega)))|(go_at_call 194;exact Qah (ahead_b _)))
     go_wp2;go_ret;exact ⟨by rw [HE.out];rfl,_,rfl⟩
   ·have h2':decide ((way:Int)<8)=false:=by simp;omega
    have HE:=Qh (show b=false by rw [e];simp;omega);clear e;go_enter Tryz.func171,Tryz.ntmps171;go_wp2_with fail
    refine (Ju way h _).mono ?_;rintro e w' ⟨rfl,rfl⟩;go_wp2_with fail
    refine (hk.out _).mono ?_;rintro e w' ⟨rfl,rfl⟩;go_wp2
    go_quiet (fail)
    go_wp2;go_ret;exact ⟨by rw [HE.out];rfl,_,rfl⟩
  ·have h1':¬ (4:Int)≤(way:Int):=by omega
   have HE:=Qh (show b=false by rw [e];simp;omega);clear e;go_enter Tryz.func171,Tryz.ntmps171;go_wp2_with fail
   refine (Ju way h _).mono ?_;rintro e w' ⟨rfl,rfl⟩;go_wp2_with fail
   refine (hk.out _).mono ?_;rintro e w' ⟨rfl,rfl⟩;go_wp2
   go_quiet (fail)
   go_wp2;go_ret;exact ⟨by rw [HE.out];rfl,_,rfl⟩
 ·have hfar':((far:Int) == 1)=false:=by simp;omega
  have HE:=Qh (show b=false by rw [e];simp;omega);clear e hfar;by_cases h1:4≤way
  ·have h1':(4:Int)≤(way:Int):=by omega
   go_enter Tryz.func171,Tryz.ntmps171;go_wp2_with fail
   refine (Ju way h _).mono ?_;rintro e w' ⟨rfl,rfl⟩;go_wp2_with fail
   refine (hk.out _).mono ?_;rintro e w' ⟨rfl,rfl⟩;go_wp2
   go_quiet (fail)
   go_wp2;go_ret;exact ⟨by rw [HE.out];rfl,_,rfl⟩
  ·have h1':¬ (4:Int)≤(way:Int):=by omega
   go_enter Tryz.func171,Tryz.ntmps171;go_wp2_with fail
   refine (Ju way h _).mono ?_;rintro e w' ⟨rfl,rfl⟩;go_wp2_with fail
   refine (hk.out _).mono ?_;rintro e w' ⟨rfl,rfl⟩;go_wp2
   go_quiet (fail)
   go_wp2;go_ret;exact ⟨by rw [HE.out];rfl,_,rfl⟩
set_option maxHeartbeats 2000000 in
theorem wreach_q (m:Int) (way far:Nat) (h:way<16) (hf:1≤far) (hf2:far≤1000) (w:World) (hS:Steps w) :
  Calls Tryz.prog 171 #[.int .i64 m,.int .i64 way,.int .i64 far] w fun e w'=>e=.returned (.bool (Jd m way far))∧∃ d,w'=w.drewN d:=by
 by_cases hm:knd m=1
 ·exact wreach_pawn m way far h hf hf2 w hS hm
 have hk:=Qh (mknd_any m);have hq:=knd_is m;have e:Jd m way far=((if knd m=2 then decide (8≤way) else if knd m=3 then decide (4≤way∧way<8) else if knd m=4 then decide (way<4) else if knd m=0 then false else decide (way<8)) && (far == 1 || (knd m == 3 || knd m == 4 || knd m == 5))):=by unfold Jd goesB Ya;rw [if_neg hm]
 generalize Jd m way far=b at *;clear hS;generalize knd m=q at *;have hw:(way<4∧way<8)∨(4≤way∧way<8)∨(4≤way∧8≤way):=by omega
 have hW:(way:Int)<16:=by omega
 have hF:¬ (far:Int)<1:=by omega
 have hff:(far=1∧((far:Int) == 1)=true)∨(far≠1∧((far:Int) == 1)=false):=by
  by_cases h1:far=1
  ·left;exact ⟨h1,by simp;omega⟩
  ·right;exact ⟨h1,by simp;omega⟩
 rcases hq with rfl|rfl|rfl|rfl|rfl|rfl|rfl
 case inr.inl=>exact absurd rfl hm
 all_goals
  clear hm;rcases hw with ⟨h1,h2⟩|⟨h1,h2⟩|⟨h1,h2⟩ <;> rcases hff with ⟨h3,h4⟩|⟨h3,h4⟩
 all_goals
  have hb:b=true∨b=false:=by cases b <;> simp
  have HE:=Qh e;have H1:=Qh h1;have H2:=Qh h2;have H3:=Qh h3;clear e h3;go_enter Tryz.func171,Tryz.ntmps171;go_wp2_with fail
  refine (Ju way h _).mono ?_;rintro e w' ⟨rfl,rfl⟩;go_wp2_with fail
  refine (hk.out _).mono ?_;rintro e w' ⟨rfl,rfl⟩;go_wp2
  all_goals
   have H1:=H1.out;have H2:=H2.out;have H3:=H3.out;have HE:=HE.out
   first
    | (exfalso;omega)
    | (go_ret;refine ⟨?_,0,rfl⟩;rw [HE];simp [H1,H2,H3];done)
    | (go_ret;refine ⟨?_,0,rfl⟩;rw [HE];simp [H1,H2,H3];omega)
    | (have H4:¬ way<8:=(by omega);go_ret;refine ⟨?_,0,rfl⟩;rw [HE];simp [H3,H4];done)
    | (have H4:¬ way<8:=(by omega);go_ret;refine ⟨?_,0,rfl⟩;rw [HE];simp [H3,H4];omega)
    | (have H4:¬ way<4:=(by omega);go_ret;refine ⟨?_,0,rfl⟩;rw [HE];simp [H2,H3,H4];done)
    | (have H4:¬ 8≤way:=(by omega);go_ret;refine ⟨?_,0,rfl⟩;rw [HE];simp [H2,H3,H4];done)
    | (have H4:¬ 4≤way:=(by omega);go_ret;refine ⟨?_,0,rfl⟩;rw [HE];simp [H2,H3,H4];done)
theorem wreach_is (m:Int) (way far:Nat) (h:way<16) (hf:1≤far) (hf2:far≤1000) (w:World) (hS:Steps w) :
  Calls Tryz.prog 171 #[.int .i64 m,.int .i64 way,.int .i64 far] w fun e w'=>e=.returned (.bool (Jd m way far))∧Kept w w' :=
 (wreach_q m way far h hf hf2 w hS).mono fun _ _ ⟨h1,d,h2⟩=>⟨h1,by rw [h2];exact (Kept.refl w).drewN d⟩
theorem quiet_more {P:Program} {f:FuncId} {args:Array Value} {w:World} {n:Nat} {v:Value}
  (h:Calls P f args (w.drewN n) fun e w'=>e=.returned v∧∃ d,w'=(w.drewN n).drewN d):Calls P f args (w.drewN n) fun e w''=>e=.returned v∧∃ m,w''=w.drewN m :=
 h.mono fun _ _ ⟨he,d,hm⟩=>⟨he,n+d,by rw [hm];exact World.drewN_drewN _ _ _⟩
theorem Steps.drew {w:World} (h:Steps w) (n:Nat):Steps (w.drewN n):=h.kept ((Kept.refl w).drewN n)
structure RowsAt (e:TypeId) (w:World) (base:Nat) (v:Value) (L:List (List Int)) (vs:List Value) (gs:List Nat):Prop where
 own:w.ownsRow base e 1 v L.length vs
 ngs:gs.length=L.length
 each:∀ (i:Nat) (u:Value) (g:Nat) (l:List Int),vs[i]?=some u→gs[i]?=some g→L[i]?=some l→OwnZ w base u l∧u.ownBlock=some g
 apart:gs.Pairwise (· < ·)
 old:∀ g ∈ gs,g<w.heap.size
def RowsZ (e:TypeId) (w:World) (base:Nat) (v:Value) (L:List (List Int)):Prop:=∃ vs gs,RowsAt e w base v L vs gs
theorem RowsAt.len {e:TypeId} {w:World} {base:Nat} {v:Value} {L:List (List Int)} {vs:List Value} {gs:List Nat} (h:RowsAt e w base v L vs gs):vs.length=L.length:=by
 have:=h.own.1;omega
theorem RowsZ.nil (e:TypeId) (w:World) (base:Nat):RowsZ e w base (.slice none 0 0) [] :=
 ⟨[],[],World.ownsRow_nil _ _ _ _,rfl,fun i u g l h=>by simp at h,List.Pairwise.nil,fun g h=>by cases h⟩
theorem RowsAt.kept {e:TypeId} {w w':World} {base:Nat} {v:Value} {L:List (List Int)} {vs:List Value} {gs:List Nat} (h:RowsAt e w base v L vs gs) (k:Kept w w'):RowsAt e w' base v L vs gs:=by
 refine ⟨?_,h.ngs,fun i u g l h1 h2 h3=>?_,h.apart,fun g hg=>Nat.lt_of_lt_of_le (h.old g hg) k.size⟩
 ·obtain ⟨h1,h2⟩:=h.own
  refine ⟨h1,?_⟩;rcases h2 with h2|⟨b,cap,cur,e1,e2,e3,e4⟩
  ·exact .inl h2
  ·exact .inr ⟨b,cap,cur,e1,e2,k.heap e3,e4⟩
 ·obtain ⟨a,b⟩:=h.each i u g l h1 h2 h3
  exact ⟨a.kept k,b⟩
theorem RowsZ.kept {e:TypeId} {w w':World} {base:Nat} {v:Value} {L:List (List Int)} (h:RowsZ e w base v L) (k:Kept w w'):RowsZ e w' base v L:=by
 obtain ⟨vs,gs,h⟩:=h;exact ⟨vs,gs,h.kept k⟩
theorem RowsZ.slice {e:TypeId} {w:World} {base:Nat} {v:Value} {L:List (List Int)} (h:RowsZ e w base v L):∃ a cap,v=.slice a L.length cap:=by
 obtain ⟨vs,gs,h⟩:=h;rcases h.own.2 with ⟨e,h0⟩|⟨g,cap,cur,e,_⟩
 ·exact ⟨none,0,by rw [e,h0]⟩
 ·exact ⟨_,_,e⟩
theorem RowsZ.low {e:TypeId} {w:World} {base b:Nat} {v:Value} {L:List (List Int)} (h:RowsZ e w base v L) (hb:b≤base):RowsZ e w b v L:=by
 obtain ⟨vs,gs,h⟩:=h;refine ⟨vs,gs,?_,h.ngs,fun i u g l h1 h2 h3=>?_,h.apart,h.old⟩
 ·obtain ⟨h1,h2⟩:=h.own
  refine ⟨h1,?_⟩;rcases h2 with h2|⟨g,cap,cur,e1,e2,e3⟩
  ·exact .inl h2
  ·exact .inr ⟨g,cap,cur,e1,by omega,e3⟩
 ·obtain ⟨a,b⟩:=h.each i u g l h1 h2 h3
  exact ⟨a.low hb,b⟩
theorem OwnZ.blk {w:World} {base:Nat} {v:Value} {l:List Int} (h:OwnZ w base v l) (hl:0<l.length) :
  ∃ g cap cur,v=.slice (some ⟨g,0,none⟩) l.length cap∧base≤g∧w.heap[g]?=some (.cells cur 3 (0,0))∧l.length≤cap∧cap≤maxLen∧cur.size=cap*1∧cur.toList.take (l.length*1)=zl l:=by
 rcases h.2 with ⟨e,h0⟩|h
 ·omega
 ·exact h
theorem OwnZ.take {w:World} {base:Nat} {a:Option Addr} {n cap:Nat} {l:List Int} (h:OwnZ w base (.slice a n cap) l) (k:Nat) (hk:k≤l.length):OwnZ w base (.slice a k cap) (l.take k):=by
 have hlen:(l.take k).length=k:=by rw [List.length_take];omega
 refine ⟨by simp [zl],?_⟩;rcases h.2 with ⟨e,h0⟩|⟨g,cap',cur,e,hb,hh,hnc,hcm,hcs,ht⟩
 ·injection e with e1 e2 e3
  exact .inl ⟨by rw [e1,e3,show k=0 by omega],by omega⟩
 ·injection e with e1 e2 e3
  subst e1 e3;refine .inr ⟨g,cap,cur,by rw [hlen],hb,hh,by omega,hcm,hcs,?_⟩;rw [hlen];have:cur.toList.take (k*1)=(cur.toList.take (l.length*1)).take k:=by rw [List.take_take];congr 1;omega
  rw [this,ht];simp [zl]
theorem RowsAt.append {t e:TypeId} {i0:TypeInfo} {z:Value} (ht:Tryz.prog.underlying t=some (.slice e)) (hi:Tryz.prog.info? e=some i0) (hz:i0.zero=some z) (h1:i0.size=1) (h24:i0.bytes=24) (hzs:z.cells.size=1) (hne:e≠3)
  {ops:Array Oper} {rest:List Oper} {o:Oper} {a:Act} {w1 w2:World} {Q:Exit→Act→World→Prop} (hgd:o.guard=none) (s x:Operand)
  (ho:o.op=.call { callee:=.builtin .append,args:=#[s,x],argTypes:=#[t,t] }) (base:Nat) (v u:Value) (L:List (List Int)) (l:List Int) (hs:a.eval s=v) (hx:a.eval x=.slice (some ⟨w2.heap.size,0,none⟩) 1 1)
  (hR:RowsZ e w1 base v L) (k:Kept w1 w2) (hu:OwnZ w2 w1.heap.size u l) (hl:0<l.length) (hb:base≤w1.heap.size) (hlen:L.length≤1000)
  (h:∀ v' w',RowsZ e w' base v' (L++[l])→(∀ A,Kept A w2→A.heap.size≤base→Kept A w')→wpList Tryz.prog ops Q rest (a.put o.dst v') w') :
  wpList Tryz.prog ops Q (o::rest) a (w2.alloc (.cells #[u] e)):=by
 obtain ⟨vs,gs,hR⟩:=hR;obtain ⟨gu,cu,curu,eu,bu,hhu,_⟩:=hu.blk hl;have h2:=hR.kept k;have h3:=h2.kept ((Kept.refl w2).alloc (.cells #[u] e));refine wpList_append_own _ hgd s x t ho base e i0 z 1 24 ht hi hz h1 h24 hzs (by decide) v _ _ hs h3.own ⟨w2.heap.size,0,none⟩ 1 1 [u] hx rfl ?_ ?_ ?_ ?_ ?_ ?_
 ·intro j y hy
  match j,hy with
  | 0,hy =>
   simp at hy;subst hy;rw [show (⟨w2.heap.size,0,none⟩:Addr).add 0=⟨w2.heap.size,0,none⟩ by unfold Addr.add;split <;> simp_all];rw [cell_of_row _ _ 0 _ _ (0,0) (heap_alloc_new w2 _)];rfl
 ·intro y hy
  simp at hy;subst hy;rw [eu];rfl
 ·unfold maxLen;omega
 ·omega
 ·simp;have:=k.size;omega
 ·intro v' w' ho' hg _
  
  have hblk:∀ (g:Nat) (c:Array Value),w2.heap[g]?=some (.cells c 3 (0,0))→w'.heap[g]?=w2.heap[g]?:=by
   intro g c hc;have hlt:=Yc hc;rw [hg.block g (by simp;omega) ?_,Below.heap_alloc _ _ _ hlt];intro hv;rcases h2.own.2 with ⟨ev,_⟩|⟨b,cap,cur,ev,_,e3,_⟩
   ·rw [ev] at hv;simp [Value.ownBlock] at hv
   ·rw [ev] at hv
    simp [Value.ownBlock] at hv;subst hv;rw [hc] at e3;simp at e3;exact hne e3.2.symm
  have hsz:w2.heap.size≤w'.heap.size:=by have:=hg.size;simp at this;omega
  refine h v' w' ⟨vs++[u],gs++[gu],by simpa using ho',by simp [hR.ngs],?_,?_,?_⟩ ?_
  ·intro i y g m hy hgi hm
   by_cases hi:i<L.length
   ·have hnv:=hR.len
    have hng:=hR.ngs;rw [List.getElem?_append_left (by omega)] at hy hgi hm;obtain ⟨q1,q2⟩:=h2.each i y g m hy hgi hm;refine ⟨?_,q2⟩;obtain ⟨r1,r2⟩:=q1;refine ⟨r1,?_⟩;rcases r2 with r2|⟨b,cap,cur,e1,e2,e3,e4⟩
    ·exact .inl r2
    ·exact .inr ⟨b,cap,cur,e1,e2,(hblk b cur e3).trans e3,e4⟩
   ·have hil:i=L.length:=by
     obtain ⟨hi',_⟩:=List.getElem?_eq_some_iff.1 hm;simp at hi';omega
    have hnv:=hR.len;have hng:=hR.ngs;subst hil;rw [List.getElem?_append_right (by omega)] at hy hgi hm;simp [hnv,hng] at hy hgi hm;subst hy hgi hm;refine ⟨?_,by rw [eu];rfl⟩;obtain ⟨r1,r2⟩:=hu.low hb;refine ⟨r1,?_⟩;rcases r2 with r2|⟨b,cap,cur,e1,e2,e3,e4⟩
    ·exact .inl r2
    ·exact .inr ⟨b,cap,cur,e1,e2,(hblk b cur e3).trans e3,e4⟩
  ·rw [List.pairwise_append]
   refine ⟨hR.apart,List.pairwise_singleton _ _,fun g hg' b hb'=>?_⟩;simp at hb';subst hb';have:=hR.old g hg';omega
  ·intro g hg'
   rcases List.mem_append.1 hg' with hg'|hg'
   ·have:=hR.old g hg';have:=k.size;omega
   ·simp at hg';subst hg'
    have:=Yc hhu;omega
  ·intro A hA hAb
   refine (hA.alloc (.cells #[u] e)).grownBy hg (fun b hbv=>?_);have:=(World.ownsRow.lt h3.own b hbv).1;omega
theorem infoRow:(Tryz.prog.info? 84).map (fun i=>(i.zero,i.size,i.bytes))=some (some (.slice none 0 0),1,24):=by kernel_rfl
def NewR (e:TypeId) (w:World) (L:List (List Int)) (E:Ending) (w':World):Prop:=∃ v,E=.returned v∧RowsZ e w' w.heap.size v L∧Kept w w'
theorem cutL_len (m:Int) (way:Nat) (s:Int):(cutL m (alongL way s)).length≤8:=by
 have:=alongL_len way s;unfold cutL;split
 ·exact this
 ·rw [List.length_take];omega
theorem run_head (gA off N cap m:Nat) (h:m≤cap) (w:World) :
  (Instr.sliceAt 84 (.slice (some ⟨gA,off,none⟩) N cap) none (some (.int .i64 (m:Int))) none).run Tryz.prog w=.ok (.slice (some ⟨gA,off,none⟩) m cap) w:=by
 obtain ⟨i0,hi0,hz0,hz1,hz2⟩:=partsZ infoZ;have ht:=Tryz.underlying84;have he:Tryz.prog.elem 84=3:=by kernel_rfl
 rw [run_sliceAt_slice w _ _ _ _ _ (by rw [he];exact ht),run_slice_h w _ _ _ _ (by rw [he];exact ht) _ _ (by omega) (by omega),he];simp [sizeOf,typeInfo,hi0,hz1,sliced,Addr.add]
def stZ (m:Int):List Int:=(Qam m).flatMap fun p=>[p.1,p.2]
theorem flat_len:∀ P:List (Int × Int),(P.flatMap fun p=>[p.1,p.2]).length=2*P.length
 | []=>rfl
 | p::P=>by rw [List.flatMap_cons,List.length_append,flat_len P,List.length_cons];simp;omega
theorem flat_at:∀ (P:List (Int × Int)) (j:Nat) (p:Int × Int),P[j]?=some p→(P.flatMap fun p=>[p.1,p.2])[2*j]?=some p.1∧(P.flatMap fun p=>[p.1,p.2])[2*j+1]?=some p.2
 | [],j,p,h=>by simp at h
 | q::P,0,p,h=>by simp at h;subst h;simp
 | q::P,j+1,p,h=>by
  rw [List.getElem?_cons_succ] at h;have:=flat_at P j p h;rw [List.flatMap_cons];rw [show 2*(j+1)=2*j+2 by omega,show 2*j+2+1=(2*j+1)+2 by omega];simpa using this
theorem stZ_len (m:Int):(stZ m).length=2*(Qam m).length:=flat_len _
theorem stepsL_len (m:Int):(Qam m).length≤8:=by
 unfold Qam
 repeat' split
 all_goals simp
def Yx:List Int:=[0,1,1,0,0,-1,-1,0]
def slantZ:List Int:=[1,1,1,-1,-1,-1,-1,1]
set_option maxHeartbeats 1000000 in
theorem rsteps_is (m:Int) (w:World):Calls Tryz.prog 154 #[.int .i64 m] w (NewZ w (stZ m)):=by
 have hk:=Qh (rknd_any m);have hq:=knd_is m;have hp:=@knd_pawn m
 have e:stZ m=(if knd m=1 then [1,m,-1,m] else if knd m=2 then [1,2,2,1,2,-1,1,-2,-1,-2,-2,-1,-2,1,-1,2] else if knd m=3 then slantZ else if knd m=4 then Yx else if knd m=0 then [] else Yx++slantZ):=by
  unfold stZ Qam
  repeat' split
  all_goals first|rfl|simp_all
 generalize stZ m=Z at *;generalize knd m=q at *;have H1:=Qh (LsZ.lit w Yx (by decide));have H2:=Qh (LsZ.lit (w.alloc (.cells (zl Yx).toArray 3)) slantZ (by decide));obtain ⟨W,eW⟩:∃ W,W=(w.alloc (.cells (zl Yx).toArray 3)).alloc (.cells (zl slantZ).toArray 3):=⟨_,rfl⟩;have HW:Hid (W=(w.alloc (.cells #[.int .i64 0,.int .i64 1,.int .i64 1,.int .i64 0,.int .i64 0,.int .i64 (-1),.int .i64 (-1),.int .i64 0] 3)).alloc (.cells #[.int .i64 1,.int .i64 1,.int .i64 1,.int .i64 (-1),.int .i64 (-1),.int .i64 (-1),.int .i64 (-1),.int .i64 1] 3)):=Qh eW;have HK:=Qh (show Kept w W by rw [eW];exact ((Kept.refl w).alloc _).alloc _);have HA:=Qh (show LsZ W w.heap.size (.slice (some ⟨w.heap.size,0,none⟩) 8 8) Yx by rw [eW];exact H1.out.kept ((Kept.refl _).alloc _));have HB:=Qh (show LsZ W (w.heap.size+1) (.slice (some ⟨w.heap.size+1,0,none⟩) 8 8) slantZ by rw [eW];have:=H2.out;simpa [slantZ] using this);clear eW H1 H2;rcases hq with rfl|rfl|rfl|rfl|rfl|rfl|rfl
 ·have HE:=Qh (show Z=[] from e)
  clear e hp;go_enter Tryz.func154,Tryz.ntmps154;go_wp2_with fail
  refine (hk.out _).mono ?_;rintro e w' ⟨rfl,rfl⟩;rw [← HW.out];go_wp2;go_ret;exact ⟨_,rfl,by rw [HE.out];exact OwnZ.nil _ _,HK.out⟩
 ·have hk1:(.cells #[.int .i64 1,.int .i64 m,.int .i64 (-1),.int .i64 m] 3:Obj)=.cells (zl [1,m,-1,m]).toArray 3:=rfl
  have KK1:=(Kept.refl W).alloc (.cells (zl [1,m,-1,m]).toArray 3);clear hk1;have HE:=Qh (show Z=[1,m,-1,m] from e);clear e hp;go_enter Tryz.func154,Tryz.ntmps154;go_wp2_with fail
  refine (hk.out _).mono ?_;rintro e w' ⟨rfl,rfl⟩;rw [← HW.out];go_wp2_with (at_builtin;refine Qs rfl _ _ rfl w.heap.size W.heap.size _ _ [] [1,m,-1,m] rfl rfl (OwnZ.nil _ _) (LsZ.lit _ [1,m,-1,m] (by simp)) ?c1 ?d1 ?_)
  case c1=>simp
  case d1=>(try simp);have:=HK.out.size;omega
  intro v1 w1 hown1 hg1;have K1:=(OwnZ.nil _ W.heap.size).grown (a:=W) KK1 (Nat.le_refl _) hg1;replace hown1:OwnZ w1 w.heap.size v1 [1,m,-1,m]:=hown1;obtain ⟨a1,cap1,rfl⟩:=hown1.slice;have HO1:=Qh hown1;have HK1:=Qh K1;clear hown1 hg1 K1;go_wp2;go_ret;exact ⟨_,rfl,by rw [HE.out];exact HO1.out,HK.out.trans HK1.out⟩
 ·have KK1:=(Kept.refl W).alloc (.cells (zl [1,2,2,1,2,-1,1,-2]).toArray 3)
  have HE:=Qh (show Z=[1,2,2,1,2,-1,1,-2,-1,-2,-2,-1,-2,1,-1,2] from e);clear e hp;go_enter Tryz.func154,Tryz.ntmps154;go_wp2_with fail
  refine (hk.out _).mono ?_;rintro e w' ⟨rfl,rfl⟩;rw [← HW.out];go_wp2_with (at_builtin;refine Qs rfl _ _ rfl w.heap.size W.heap.size _ _ [] [1,2,2,1,2,-1,1,-2] rfl rfl (OwnZ.nil _ _) (LsZ.lit _ [1,2,2,1,2,-1,1,-2] (by simp)) ?c1 ?d1 ?_)
  case c1=>decide
  case d1=>(try simp);have:=HK.out.size;omega
  intro v1 w1 hown1 hg1;have K1:=(OwnZ.nil _ W.heap.size).grown (a:=W) KK1 (Nat.le_refl _) hg1;replace hown1:OwnZ w1 w.heap.size v1 [1,2,2,1,2,-1,1,-2]:=hown1;obtain ⟨a1,cap1,rfl⟩:=hown1.slice;have HO1:=Qh hown1;have HK1:=Qh K1;clear hown1 hg1 K1;have HA1:=Qh (HO1.out.kept ((Kept.refl _).alloc (.cells (zl [-1,-2,-2,-1,-2,1,-1,2]).toArray 3)));have KK2:=HK1.out.alloc (.cells (zl [-1,-2,-2,-1,-2,1,-1,2]).toArray 3);go_wp2_with (at_builtin;refine Qs rfl _ _ rfl w.heap.size w1.heap.size _ _ [1,2,2,1,2,-1,1,-2] [-1,-2,-2,-1,-2,1,-1,2] rfl rfl HA1.out (LsZ.lit _ [-1,-2,-2,-1,-2,1,-1,2] (by simp)) ?c2 ?d2 ?_)
  case c2=>decide
  case d2=>(try simp);have:=HK.out.size;have:=HK1.out.size;omega
  intro v2 w2 hown2 hg2;have K2:=HA1.out.grown (a:=w) (HK.out.trans KK2) (Nat.le_refl _) hg2;obtain ⟨a2,cap2,rfl⟩:=hown2.slice;have HO2:=Qh hown2;have HK2:=Qh K2;clear hown2 hg2 K2;go_wp2;go_ret;exact ⟨_,rfl,by rw [HE.out];exact HO2.out,HK2.out⟩
 ·have KK1:=Kept.refl W
  have HE:=Qh (show Z=slantZ from e);clear e hp;go_enter Tryz.func154,Tryz.ntmps154;go_wp2_with fail
  refine (hk.out _).mono ?_;rintro e w' ⟨rfl,rfl⟩;rw [← HW.out];go_wp2_with (at_builtin;refine Qs rfl _ _ rfl w.heap.size (w.heap.size+1) _ _ [] slantZ rfl rfl (OwnZ.nil _ _) HB.out ?c1 ?d1 ?_)
  case c1=>decide
  case d1=>(try simp);have:=HK.out.size;omega
  intro v1 w1 hown1 hg1;have K1:=(OwnZ.nil _ W.heap.size).grown (a:=W) KK1 (Nat.le_refl _) hg1;replace hown1:OwnZ w1 w.heap.size v1 slantZ:=hown1;obtain ⟨a1,cap1,rfl⟩:=hown1.slice;have HO1:=Qh hown1;have HK1:=Qh K1;clear hown1 hg1 K1;go_wp2;go_ret;exact ⟨_,rfl,by rw [HE.out];exact HO1.out,HK.out.trans HK1.out⟩
 ·have KK1:=Kept.refl W
  have HE:=Qh (show Z=Yx from e);clear e hp;go_enter Tryz.func154,Tryz.ntmps154;go_wp2_with fail
  refine (hk.out _).mono ?_;rintro e w' ⟨rfl,rfl⟩;rw [← HW.out];go_wp2_with (at_builtin;refine Qs rfl _ _ rfl w.heap.size w.heap.size _ _ [] Yx rfl rfl (OwnZ.nil _ _) HA.out ?c1 ?d1 ?_)
  case c1=>decide
  case d1=>(try simp);have:=HK.out.size;omega
  intro v1 w1 hown1 hg1;have K1:=(OwnZ.nil _ W.heap.size).grown (a:=W) KK1 (Nat.le_refl _) hg1;replace hown1:OwnZ w1 w.heap.size v1 Yx:=hown1;obtain ⟨a1,cap1,rfl⟩:=hown1.slice;have HO1:=Qh hown1;have HK1:=Qh K1;clear hown1 hg1 K1;go_wp2;go_ret;exact ⟨_,rfl,by rw [HE.out];exact HO1.out,HK.out.trans HK1.out⟩
 ·have KK1:=Kept.refl W
  have HE:=Qh (show Z=Yx++slantZ from e);clear e hp;go_enter Tryz.func154,Tryz.ntmps154;go_wp2_with fail
  refine (hk.out _).mono ?_;rintro e w' ⟨rfl,rfl⟩;rw [← HW.out];go_wp2_with (at_builtin;refine Qs rfl _ _ rfl w.heap.size w.heap.size _ _ [] Yx rfl rfl (OwnZ.nil _ _) HA.out ?c1 ?d1 ?_)
  case c1=>decide
  case d1=>(try simp);have:=HK.out.size;omega
  intro v1 w1 hown1 hg1;have K1:=(OwnZ.nil _ W.heap.size).grown (a:=W) KK1 (Nat.le_refl _) hg1;replace hown1:OwnZ w1 w.heap.size v1 Yx:=hown1;obtain ⟨a1,cap1,rfl⟩:=hown1.slice;have HO1:=Qh hown1;have HK1:=Qh K1;clear hown1 hg1 K1;have HB1:=Qh (HB.out.kept HK1.out);go_wp2_with (at_builtin;refine Qs rfl _ _ rfl w.heap.size (w.heap.size+1) _ _ Yx slantZ rfl rfl HO1.out HB1.out ?c2 ?d2 ?_)
  case c2=>decide
  case d2=>have:=HK.out.size;have:=HK1.out.size;omega
  intro v2 w2 hown2 hg2;have K2:=HO1.out.grown (a:=w) (HK.out.trans HK1.out) (Nat.le_refl _) hg2;obtain ⟨a2,cap2,rfl⟩:=hown2.slice;have HO2:=Qh hown2;have HK2:=Qh K2;clear hown2 hg2 K2;go_wp2;go_ret;exact ⟨_,rfl,by rw [HE.out];exact HO2.out,HK2.out⟩
 ·have KK1:=Kept.refl W
  have HE:=Qh (show Z=Yx++slantZ from e);clear e hp;go_enter Tryz.func154,Tryz.ntmps154;go_wp2_with fail
  refine (hk.out _).mono ?_;rintro e w' ⟨rfl,rfl⟩;rw [← HW.out];go_wp2_with (at_builtin;refine Qs rfl _ _ rfl w.heap.size w.heap.size _ _ [] Yx rfl rfl (OwnZ.nil _ _) HA.out ?c1 ?d1 ?_)
  case c1=>decide
  case d1=>(try simp);have:=HK.out.size;omega
  intro v1 w1 hown1 hg1;have K1:=(OwnZ.nil _ W.heap.size).grown (a:=W) KK1 (Nat.le_refl _) hg1;replace hown1:OwnZ w1 w.heap.size v1 Yx:=hown1;obtain ⟨a1,cap1,rfl⟩:=hown1.slice;have HO1:=Qh hown1;have HK1:=Qh K1;clear hown1 hg1 K1;have HB1:=Qh (HB.out.kept HK1.out);go_wp2_with (at_builtin;refine Qs rfl _ _ rfl w.heap.size (w.heap.size+1) _ _ Yx slantZ rfl rfl HO1.out HB1.out ?c2 ?d2 ?_)
  case c2=>decide
  case d2=>have:=HK.out.size;have:=HK1.out.size;omega
  intro v2 w2 hown2 hg2;have K2:=HO1.out.grown (a:=w) (HK.out.trans HK1.out) (Nat.le_refl _) hg2;obtain ⟨a2,cap2,rfl⟩:=hown2.slice;have HO2:=Qh hown2;have HK2:=Qh K2;clear hown2 hg2 K2;go_wp2;go_ret;exact ⟨_,rfl,by rw [HE.out];exact HO2.out,HK2.out⟩
theorem ofR_snoc (m s:Int) (P:List (Int × Int)) (p:Int × Int):ofR m s (P++[p])=ofR m s P++oneL (cutL m (rayL s p.1 p.2)):=by
 unfold ofR;simp
theorem ofR_len (m s:Int):∀ P:List (Int × Int),(ofR m s P).length≤P.length
 | []=>Nat.le_refl _
 | p::P=>by
  have:=ofR_len m s P;unfold ofR at this ⊢;rw [List.flatMap_cons,List.length_append,List.length_cons];have h1:(oneL (cutL m (rayL s p.1 p.2))).length≤1:=by unfold oneL;split <;> simp
  omega
theorem take_snoc_at {α:Type} (P:List α) (j:Nat) (p:α) (h:P[j]?=some p):P.take (j+1)=P.take j++[p]:=by
 obtain ⟨hj,e⟩:=List.getElem?_eq_some_iff.1 h;rw [List.take_succ_eq_append_getElem hj,e]
theorem rray_low (s f r:Int) (w W:World) (k:Kept W w) :
  Calls Tryz.prog 155 #[.int .i64 s,.int .i64 f,.int .i64 r] w fun e w'=>∃ v,e=.returned v∧OwnZ w' w.heap.size v (rayL s f r)∧Kept w w':=rray_is s f r w
theorem cut_yes {m:Int} {l:List Int} (h:Ya m=true):cutL m l=l:=by unfold cutL;rw [h];simp
theorem cut_no {m:Int} {l:List Int} (h:Ya m=false):cutL m l=l.take 1:=by unfold cutL;rw [h];simp
theorem cut_short {m:Int} {l:List Int} (h:l.length≤1):cutL m l=l:=by
 unfold cutL;split
 ·rfl
 ·exact List.take_of_length_le h
set_option maxRecDepth 100000 in
set_option maxHeartbeats 2000000 in
theorem rof_is (m s:Int) (w:World):Calls Tryz.prog 123 #[.int .i64 m,.int .i64 s] w (NewR 84 w (ofL m s)):=by
 obtain ⟨i0,hi0,hz0,hz1,hz2⟩:=partsZ infoRow;have HI:=Qh hi0;have HZ:=Qh hz0;have HZ1:=Qh hz1;have HZ2:=Qh hz2;have HEnd:=Qh (ofR_is m s);have hlenP:=stepsL_len m;have HFL:=Qh (stZ_len m);have HAt:=Qh (show ∀ (j:Nat) (p:Int × Int),(Qam m)[j]?=some p→(stZ m)[2*j]?=some p.1∧(stZ m)[2*j+1]?=some p.2 from flat_at (Qam m));clear hi0 hz0 hz1 hz2;go_enter Tryz.func123,Tryz.ntmps123;go_wp2_with fail
 refine (rsteps_is m _).mono ?_;rintro e W ⟨v6,rfl,hown6,k6⟩;obtain ⟨a6,c6,rfl⟩:=hown6.slice;obtain ⟨g6,hl6,_⟩:=hown6.ls;have HL6:=Qh hl6;have HK6:=Qh k6;clear hown6 hl6 k6;generalize hn6:(stZ m).length=n6 at *;have HN6:=Qh hn6;clear hn6;go_wp2
 go_loopw [5,7] (fun t5 t7 wr=>∃ i j:Nat,i=2*j∧j≤(Qam m).length∧t7=.int .i64 i∧RowsZ 84 wr W.heap.size t5 (ofR m s ((Qam m).take j))∧Kept W wr) (fun _ t7 _=>n6-(intOf t7).toNat)
 case atStart=>exact ⟨0,0,rfl,by omega,rfl,RowsZ.nil _ _ _,Kept.refl _⟩
 case round =>
  obtain ⟨i,j,hij,hj,rfl,hR,hK⟩:=hrel;obtain ⟨a5,c5,rfl⟩:=hR.slice;have HIJ:=Qh hij;have HR:=Qh hR;have HK:=Qh hK;have hNN:n6=2*(Qam m).length:=HFL.out;by_cases hlt:i<n6
  ·have hlt':(i:Int)<(n6:Int):=by omega
   have hlt1:(i:Int)+1<(n6:Int):=by omega
   have hsm:(i:Int)≤100:=by omega
   obtain ⟨p,hp⟩:∃ p,(Qam m)[j]?=some p:=⟨_,List.getElem?_eq_getElem (by omega)⟩;obtain ⟨q1,q2⟩:=HAt.out j p hp;rw [← hij] at q1 q2;obtain ⟨off,c6',e6,hk1,hk2,hcell⟩:=HL6.out.full (by have:=HN6.out;omega);injection e6 with e61 e62 e63
   subst e61 e63;have d1:=Qa HK.out (hcell i _ q1);have d2:=Qa HK.out (hcell (i+1) _ q2);have hLj:=Qh (ofR_len m s ((Qam m).take j));have HTk:=Qh (show ofR m s ((Qam m).take (j+1))=ofR m s ((Qam m).take j)++oneL (cutL m (rayL s p.1 p.2)) by rw [take_snoc_at _ j p hp,ofR_snoc]);have hj1:j+1≤(Qam m).length:=by omega
   have hLj2:(ofR m s ((Qam m).take j)).length≤1000:=by have:=hLj.out;rw [List.length_take] at this;omega
   obtain ⟨pf,pr⟩:=p;dsimp only at *;clear hij hR hK hp q1 q2 hcell hLj hk1 hk2 e62 hNN;generalize (Qam m).take j=PJ at *;generalize hRL:rayL s pf pr=RL at *;have HRay:=Qh (rray_low s pf pr);rw [hRL] at HRay;have hrl8:RL.length≤8:=by rw [← hRL];exact rayL_len _ _ _
   clear hRL;generalize hN5:(ofR m s PJ).length=N5 at *;have HN5:=Qh hN5;clear hN5;have wr1:IntKind.i64.wrap ((i:Int)+1)=(i:Int)+1:=IntWalk.i64_in _ (by omega);have tn1:((i:Int)+1).toNat=i+1:=by omega
   have ge1:(0:Int)≤(i:Int)+1:=by omega
   go_wp2;refine wp_region_held_drew (S:=Kept _) (by kernel_rfl) (Kept.refl _).drew (fun Qj=>?_);refine rT 0 17 (.int .i64 s) rfl rfl Qj ?_;simp only [pA,pN,sZ,sU];refine rT 1 18 (.slice (some ⟨g6,off,none⟩) n6 c6) rfl rfl Qj ?_;simp only [pA,pN,sZ,sU];refine rT 2 19 (.int .i64 (i:Int)) rfl rfl Qj ?_;simp only [pA,pN,sZ,sU];refine rT 3 20 (.pointer (some ⟨g6,off+i,none⟩)) rfl rfl Qj ?_;simp only [pA,pN,sZ,sU];refine rC 4 21 (.int .i64 pf) rfl rfl (fun _ h=>Qa h (d1)) Qj ?_;simp only [pA,pN,sZ,sU];refine rT 5 22 (.slice (some ⟨g6,off,none⟩) n6 c6) rfl rfl Qj ?_;simp only [pA,pN,sZ,sU];refine rT 6 23 (.int .i64 (i:Int)) rfl rfl Qj ?_;simp only [pA,pN,sZ,sU];refine rT 7 24 (.int .i64 ((i:Int)+1)) rfl rfl Qj ?_;simp only [pA,pN,sZ,sU];refine rT 8 25 (.pointer (some ⟨g6,off+(i+1),none⟩)) rfl rfl Qj ?_;simp only [pA,pN,sZ,sU];refine rC 9 26 (.int .i64 pr) rfl rfl (fun _ h=>Qa h (d2)) Qj ?_;simp only [pA,pN,sZ,sU];refine rR 10 rfl (fun K hK=>?_);go_simp;have HK0:=Qh Qj;refine (HRay.out _ _ Qj).mono ?_;rintro e w1 ⟨v,rfl,hown,g1⟩;obtain ⟨a,cap,rfl⟩:=hown.slice;refine hK.out _ _ (Qj.trans g1) (fun _=>?_);replace Qj:=Qj.trans g1;clear hK K;have HO:=Qh hown;have HG1:=Qh g1;clear hown g1;refine rT 11 8 (.slice a RL.length cap) rfl rfl Qj ?_;simp only [pA,pN,sZ,sU];refine wpAnyH_done (by kernel_rfl) ?_ _;have HRX:=Qh (HR.out.kept HK0.out);by_cases h1:1<RL.length
   ·have h1':(1:Int)<(RL.length:Int):=by omega
    have h0':(0:Int)<(RL.length:Int):=by omega
    go_wp2_with fail
    refine (rslides_is m _).mono ?_
    cases hsl:Ya m
    ·have HT1:=HTk.out
     rw [cut_no hsl,show oneL (RL.take 1)=[RL.take 1] by unfold oneL;rw [if_neg (by rw [List.length_take];omega)]] at HT1;replace HTk:=Qh HT1;clear HT1 hsl;rintro e w' ⟨rfl,rfl⟩;obtain ⟨g8,cap8,cur8,e8,_,_,hnc8,hcm8,_,_⟩:=HO.out.blk (by omega);injection e8 with e81 e82 e83
     subst e81 e83;have hr:∀ w,(Instr.sliceAt 84 (.slice (some ⟨g8,0,none⟩) RL.length cap) none (some (.int .i64 1)) none).run Tryz.prog w=.ok (.slice (some ⟨g8,0,none⟩) 1 cap) w:=run_head g8 0 RL.length cap 1 (by omega);have HO8:=Qh (HO.out.take 1 (by omega));have hpos8:0<(RL.take 1).length:=by rw [List.length_take];omega
     clear hnc8 hcm8;go_wp2_with (at_builtin;refine RowsAt.append Tryz.underlying117 HI.out HZ.out HZ1.out HZ2.out rfl (by decide) rfl _ _ rfl W.heap.size _ _ (ofR m s PJ) (RL.take 1) rfl rfl HRX.out HG1.out HO8.out hpos8 ?c1 ?d1 ?_)
     case c1=>have:=HK.out.size;have:=HK0.out.size;omega
     case d1=>rw [HN5.out];omega
     intro v' w4 hR4 hk4;obtain ⟨a4,c4,rfl⟩:=hR4.slice;have HR4:=Qh hR4;have HK4:=Qh (hk4 W ((HK.out.trans HK0.out).trans HG1.out) (Nat.le_refl _));clear hR4 hk4;generalize (ofR m s PJ++[(RL.take 1)]).length=N4 at *;go_wp2;go_roundw
     case rel=>exact ⟨i+2,j+1,by have:=HIJ.out;omega,hj1,by go_num,by rw [HTk.out];exact HR4.out,HK4.out⟩
     case measure=>simp [intOf];omega
    ·have HT1:=HTk.out
     rw [cut_yes hsl,show oneL RL=[RL] by unfold oneL;rw [if_neg (by omega)]] at HT1;replace HTk:=Qh HT1;clear HT1 hsl;rintro e w' ⟨rfl,rfl⟩;have hpos8:0<RL.length:=by omega
     go_wp2_with (at_builtin;refine RowsAt.append Tryz.underlying117 HI.out HZ.out HZ1.out HZ2.out rfl (by decide) rfl _ _ rfl W.heap.size _ _ (ofR m s PJ) RL rfl rfl HRX.out HG1.out HO.out hpos8 ?c2 ?d2 ?_)
     case c2=>have:=HK.out.size;have:=HK0.out.size;omega
     case d2=>rw [HN5.out];omega
     intro v' w4 hR4 hk4;obtain ⟨a4,c4,rfl⟩:=hR4.slice;have HR4:=Qh hR4;have HK4:=Qh (hk4 W ((HK.out.trans HK0.out).trans HG1.out) (Nat.le_refl _));clear hR4 hk4;generalize (ofR m s PJ++[RL]).length=N4 at *;go_wp2;go_roundw
     case rel=>exact ⟨i+2,j+1,by have:=HIJ.out;omega,hj1,by go_num,by rw [HTk.out];exact HR4.out,HK4.out⟩
     case measure=>simp [intOf];omega
   ·have h1':¬ (1:Int)<(RL.length:Int):=by omega
    by_cases h0:0<RL.length
    ·have h0':(0:Int)<(RL.length:Int):=by omega
     have HT1:=HTk.out;rw [cut_short (by omega),show oneL RL=[RL] by unfold oneL;rw [if_neg (by omega)]] at HT1;replace HTk:=Qh HT1;clear HT1;go_wp2_with (at_builtin;refine RowsAt.append Tryz.underlying117 HI.out HZ.out HZ1.out HZ2.out rfl (by decide) rfl _ _ rfl W.heap.size _ _ (ofR m s PJ) RL rfl rfl HRX.out HG1.out HO.out h0 ?c3 ?d3 ?_)
     case c3=>have:=HK.out.size;have:=HK0.out.size;omega
     case d3=>rw [HN5.out];omega
     intro v' w4 hR4 hk4;obtain ⟨a4,c4,rfl⟩:=hR4.slice;have HR4:=Qh hR4;have HK4:=Qh (hk4 W ((HK.out.trans HK0.out).trans HG1.out) (Nat.le_refl _));clear hR4 hk4;generalize (ofR m s PJ++[RL]).length=N4 at *;go_wp2;go_roundw
     case rel=>exact ⟨i+2,j+1,by have:=HIJ.out;omega,hj1,by go_num,by rw [HTk.out];exact HR4.out,HK4.out⟩
     case measure=>simp [intOf];omega
    ·have h0':¬ (0:Int)<(RL.length:Int):=by omega
     have HT1:=HTk.out;rw [cut_short (by omega),show oneL RL=[] by unfold oneL;rw [if_pos (by omega)]] at HT1;replace HTk:=Qh HT1;have HR9:=Qh (HRX.out.kept HG1.out);have HK9:=Qh ((HK.out.trans HK0.out).trans HG1.out);clear HT1;go_wp2;go_roundw
     case rel=>exact ⟨i+2,j+1,by have:=HIJ.out;omega,hj1,by go_num,by rw [HTk.out];simpa using HR9.out,HK9.out⟩
     case measure=>simp [intOf];omega
  ·have hlt':¬ (i:Int)<(n6:Int):=by omega
   have HT:=Qh (show ofR m s ((Qam m).take j)=ofL m s by rw [List.take_of_length_le (by omega)];exact HEnd.out);clear hij hR hK hNN;go_wp2;go_ret;exact ⟨_,rfl,by rw [← HT.out];exact HR.out.low HK6.out.size,HK6.out.trans HK.out⟩
theorem RowsZ.read {e:TypeId} {w:World} {base:Nat} {v:Value} {L:List (List Int)} (h:RowsZ e w base v L) (hL:0<L.length) :
  ∃ go cap,v=.slice (some ⟨go,0,none⟩) L.length cap∧L.length≤cap∧cap≤maxLen∧∀ (i:Nat) (l:List Int),L[i]?=some l→∃ u g,w.cell? ⟨go,i,none⟩=some u∧LsZ w g u l∧(0<l.length→base≤g∧g<w.heap.size):=by
 obtain ⟨vs,gs,h⟩:=h;have hnv:=h.len;have hng:=h.ngs;rcases h.own.2 with ⟨ev,h0⟩|⟨go,cap,cur,ev,hb,hh,hnc,hcm,hcs,ht⟩
 ·omega
 ·refine ⟨go,cap,ev,hnc,hcm,fun i l hl=>?_⟩
  obtain ⟨hi,_⟩:=List.getElem?_eq_some_iff.1 hl;obtain ⟨u,hu⟩:∃ u,vs[i]?=some u:=⟨_,List.getElem?_eq_getElem (by omega)⟩;obtain ⟨gg,hg⟩:∃ g,gs[i]?=some g:=⟨_,List.getElem?_eq_getElem (by omega)⟩;obtain ⟨q1,_⟩:=h.each i u gg l hu hg hl;obtain ⟨g,q2,q3⟩:=q1.ls;refine ⟨u,g,?_,q2,q3⟩;rw [cell_of_row w go i cur _ (0,0) hh];have h2:(cur.toList.take (L.length*1))[i]?=vs[i]?:=by rw [ht]
  rw [List.getElem?_take,if_pos (by omega)] at h2;simp only [Array.getElem?_toList] at h2;rw [h2,hu]
theorem ofL_pos {m s:Int} {l:List Int} (h:l ∈ ofL m s):0<l.length∧l.length≤8:=by
 unfold ofL ofN at h;obtain ⟨w,_,hw⟩:=List.mem_flatMap.1 h;unfold oneL at hw;split at hw
 ·cases hw
 ·simp at hw
  subst hw;exact ⟨by omega,cutL_len m w s⟩
end Go.Proofs.YtlpeiolgcaddjaaGreatDoor
