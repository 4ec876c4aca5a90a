/- RaM · RaL · RaR · RaS: my texts, in their order. -/
import Derived.Test.YtlbipjmmlobofaaGreatDoorPkA00
import Derived.Test.YtlbipjmmlobofaaGreatDoorPkA01
import Derived.Test.YtlbipjmmlobofaaGreatDoorPkA07
import Derived.Laws.OwnMore
import Derived.Laws.AppendOwnNone
namespace Go.Proofs.YtlbipjmmlobofaaGreatDoor
set_option linter.unusedVariables false
set_option linter.unusedSimpArgs false
def stI (s f r:Int):Int:=if 0≤s∧s<64∧0≤s % 8+f∧s % 8+f<8∧0≤s / 8+r∧s / 8+r<8 then (s / 8+r)*8+(s % 8+f) else -1
theorem stI_cases (s f r:Int):(0≤s∧s<64∧0≤s % 8+f∧s % 8+f<8∧0≤s / 8+r∧s / 8+r<8∧stI s f r=(s / 8+r)*8+(s % 8+f)) ∨
  (stI s f r=-1∧((s<0∨64≤s)∨(0≤s∧s<64∧(s % 8+f<0∨8≤s % 8+f∨s / 8+r<0∨8≤s / 8+r)))):=by
 unfold stI
 split
 ·left;omega
 ·right;omega
def rayN:Nat→Int→Int→Int→List Int
 | 0,_,_,_=>[]
 | n+1,s,f,r=>if stI s f r<0 then [] else stI s f r::rayN n (stI s f r) f r
def rayL (s f r:Int):List Int:=if f=0∧r=0 then [] else rayN 8 s f r
theorem rayN_len:∀ (n:Nat) (s f r:Int),(rayN n s f r).length≤n
 | 0,_,_,_=>Nat.le_refl _
 | n+1,s,f,r=>by
  unfold rayN
  split
  ·simp
  ·have:=rayN_len n (stI s f r) f r
   simp;omega
theorem rayL_len (s f r:Int):(rayL s f r).length≤8:=by
 unfold rayL
 split
 ·simp
 ·exact rayN_len _ _ _ _
theorem rayN_mem:∀ (n:Nat) (s f r x:Int),x ∈ rayN n s f r→0≤x∧x<64
 | 0,_,_,_,x=>by simp [rayN]
 | n+1,s,f,r,x=>by
  unfold rayN
  split
  ·simp
  ·next h =>
   intro hx
   rcases List.mem_cons.1 hx with rfl|hx
   ·rcases stI_cases s f r with ⟨_,_,_,_,_,_,e⟩|⟨e,_⟩ <;> omega
   ·exact rayN_mem n _ _ _ x hx
theorem rayL_mem {s f r x:Int} (h:x ∈ rayL s f r):0≤x∧x<64:=by
 unfold rayL at h
 split at h
 ·simp at h
 ·exact rayN_mem _ _ _ _ _ h
theorem rayL_none (s:Int):rayL s 0 0=[]:=by unfold rayL;rw [if_pos ⟨rfl,rfl⟩]
def Far (f r:Int) (k:Nat) (t:Int):Prop:=0≤t∧t<64∧(1≤f→(k:Int)+1≤t % 8)∧(f≤-1→t % 8≤6-(k:Int))∧(1≤r→(k:Int)+1≤t / 8)∧(r≤-1→t / 8≤6-(k:Int))
theorem Far.le {f r t:Int} {k:Nat} (h:Far f r k t) (h0:¬ (f=0∧r=0)):k≤6:=by
 unfold Far at h;omega
def RayMid (s f r:Int) (l:List Int) (t:Int) (on:Bool):Prop :=
 (on=true∧Far f r l.length t∧∃ n,l.length+n=7∧rayL s f r=l++t::rayN n t f r)∨(on=false∧rayL s f r=l)
theorem RayMid.start_yes {s f r:Int} (h0:¬ (f=0∧r=0)) (a:0≤s) (b:s<64) (c:0≤s % 8+f) (d:s % 8+f<8) (e:0≤s / 8+r) (g:s / 8+r<8) :
  RayMid s f r [] ((s / 8+r)*8+(s % 8+f)) true:=by
 refine .inl ⟨rfl,by unfold Far;simp only [List.length_nil];omega,7,rfl,?_⟩
 have he:stI s f r=(s / 8+r)*8+(s % 8+f):=by unfold stI;rw [if_pos ⟨a,b,c,d,e,g⟩]
 unfold rayL
 rw [if_neg h0]
 show rayN (7+1) s f r=_
 rw [rayN,he,if_neg (by omega)]
 rfl
theorem RayMid.start_no {s f r:Int} (t:Int) (h:stI s f r=-1):RayMid s f r [] t false:=by
 refine .inr ⟨rfl,?_⟩
 unfold rayL
 split
 ·rfl
 ·unfold rayN;rw [if_pos (by rw [h];decide)]
theorem RayMid.next_yes {s f r t:Int} {l:List Int} (h:RayMid s f r l t true) (h0:¬ (f=0∧r=0)) (c:0≤t % 8+f) (d:t % 8+f<8) (e:0≤t / 8+r) (g:t / 8+r<8) :
  RayMid s f r (l++[t]) ((t / 8+r)*8+(t % 8+f)) true:=by
 rcases h with ⟨_,hf,n,hn,hr⟩|⟨h,_⟩
 ·have hk:=hf.le h0
  obtain ⟨m,rfl⟩:∃ m,n=m+1:=⟨n-1,by omega⟩
  have ht:0≤t∧t<64:=⟨hf.1,hf.2.1⟩
  have he:stI t f r=(t / 8+r)*8+(t % 8+f):=by unfold stI;rw [if_pos ⟨ht.1,ht.2,c,d,e,g⟩]
  refine .inl ⟨rfl,?_,m,by simp;omega,?_⟩
  ·unfold Far at hf ⊢;rw [List.length_append,List.length_singleton];omega
  ·rw [hr,rayN,he,if_neg (by omega)];simp
 ·cases h
theorem RayMid.next_no {s f r t:Int} {l:List Int} (u:Int) (h:RayMid s f r l t true) (h0:¬ (f=0∧r=0)) (hs:stI t f r=-1):RayMid s f r (l++[t]) u false:=by
 rcases h with ⟨_,hf,n,hn,hr⟩|⟨h,_⟩
 ·have hk:=hf.le h0
  obtain ⟨m,rfl⟩:∃ m,n=m+1:=⟨n-1,by omega⟩
  refine .inr ⟨rfl,?_⟩
  rw [hr,rayN,if_pos (by rw [hs];decide)]
 ·cases h
theorem RayMid.far {s f r t:Int} {l:List Int} (h:RayMid s f r l t true) (h0:¬ (f=0∧r=0)):0≤t∧t<64∧l.length≤6:=by
 rcases h with ⟨_,hf,_⟩|⟨h,_⟩
 ·exact ⟨hf.1,hf.2.1,hf.le h0⟩
 ·cases h
theorem RayMid.done {s f r t:Int} {l:List Int} (h:RayMid s f r l t false):rayL s f r=l:=by
 rcases h with ⟨h,_⟩|⟨_,h⟩
 ·cases h
 ·exact h

def wayF (w:Nat):Int:=[0,1,0,-1,1,1,-1,-1,1,2,2,1,-1,-2,-2,-1].getD w 0
def wayR (w:Nat):Int:=[1,0,-1,0,1,-1,-1,1,2,1,-1,-2,-2,-1,1,2].getD w 0
def alongL (way:Nat) (s:Int):List Int:=if 8≤way then (rayL s (wayF way) (wayR way)).take 1 else rayL s (wayF way) (wayR way)
theorem alongL_mem {way:Nat} {s x:Int} (h:x ∈ alongL way s):0≤x∧x<64:=by
 unfold alongL at h
 split at h
 ·exact rayL_mem (List.mem_of_mem_take h)
 ·exact rayL_mem h
def knd (m:Int):Int:=if m < -6∨m=0∨6<m then 0 else if m<0 then -m else m
def slidesB (m:Int):Bool:=knd m == 3 || knd m == 4 || knd m == 5
def goesB (m:Int) (way:Nat):Bool :=
 if knd m=1 then decide (4≤way∧way<8) && wayR way == (if m<0 then -1 else 1)
 else if knd m=2 then decide (8≤way) else if knd m=3 then decide (4≤way∧way<8) else if knd m=4 then decide (way<4) else if knd m=0 then false else decide (way<8)
def cutL (m:Int) (l:List Int):List Int:=if slidesB m then l else l.take 1
def oneL (l:List Int):List (List Int):=if l.length=0 then [] else [l]
def ofN (m s:Int) (n:Nat):List (List Int):=((List.range n).filter (goesB m)).flatMap fun w=>oneL (cutL m (alongL w s))
def ofL (m s:Int):List (List Int):=ofN m s 16
def stepsL (m:Int):List (Int × Int) :=
 if knd m=1 then [(1,m),(-1,m)]
 else if knd m=2 then [(1,2),(2,1),(2,-1),(1,-2),(-1,-2),(-2,-1),(-2,1),(-1,2)]
 else if knd m=3 then [(1,1),(1,-1),(-1,-1),(-1,1)]
 else if knd m=4 then [(0,1),(1,0),(0,-1),(-1,0)]
 else if knd m=0 then [] else [(0,1),(1,0),(0,-1),(-1,0),(1,1),(1,-1),(-1,-1),(-1,1)]
def ofR (m s:Int) (P:List (Int × Int)):List (List Int):=P.flatMap fun p=>oneL (cutL m (rayL s p.1 p.2))
theorem ways_steps (m:Int) (h1:-6≤m) (h2:m≤6):((List.range 16).filter (goesB m)).map (fun w=>(wayF w,wayR w))=stepsL m∧((List.range 16).filter (goesB m)).all (fun w=>decide (w<8) || !slidesB m)=true:=by
 have:m=-6∨m=-5∨m=-4∨m=-3∨m=-2∨m=-1∨m=0∨m=1∨m=2∨m=3∨m=4∨m=5∨m=6:=by omega
 rcases this with rfl|rfl|rfl|rfl|rfl|rfl|rfl|rfl|rfl|rfl|rfl|rfl|rfl <;> decide +kernel
theorem knd_none {m:Int} (h:m < -6∨m=0∨6<m):knd m=0:=by unfold knd;rw [if_pos h]
theorem stepsL_none {m:Int} (h:m < -6∨m=0∨6<m):stepsL m=[]:=by unfold stepsL;rw [knd_none h];simp
theorem goesB_none {m:Int} (h:m < -6∨m=0∨6<m) (w:Nat):goesB m w=false:=by unfold goesB;rw [knd_none h];simp
theorem ofR_is (m s:Int):ofR m s (stepsL m)=ofL m s:=by
 by_cases h:-6≤m∧m≤6
 ·obtain ⟨e1,e2⟩:=ways_steps m h.1 h.2
  unfold ofR ofL ofN
  rw [← e1,List.flatMap_map]
  generalize (List.range 16).filter (goesB m)=L at *
  clear e1
  induction L with
  | nil=>rfl
  | cons w L ih =>
   rw [List.flatMap_cons,List.flatMap_cons]
   simp only [List.all_cons,Bool.and_eq_true] at e2
   rw [ih e2.2]
   congr 2
   unfold alongL
   split
   ·next h8 =>
    have:slidesB m=false:=by
     have:=e2.1
     simp at this
     rcases this with h|h
     ·omega
     ·exact h
    unfold cutL
    simp [this,List.take_take]
   ·rfl
 ·have h':m < -6∨m=0∨6<m:=by omega
  rw [stepsL_none h']
  unfold ofL ofN
  rw [List.filter_eq_nil_iff.2 (fun w _=>by rw [goesB_none h'];simp)]
  rfl
end Go.Proofs.YtlbipjmmlobofaaGreatDoor
namespace Go.Proofs.YtlbipjmmlobofaaGreatDoor
open Go.RowKit
set_option linter.unusedVariables false
set_option linter.unusedSimpArgs false
theorem infoZ:(Tryz.prog.info? 3).map (fun i=>(i.zero,i.size,i.bytes))=some (some (.int .i64 0),1,8):=by kernel_rfl
theorem partsZ {P:Program} {t:TypeId} {z:Value} {n b:Nat} (h:(P.info? t).map (fun i=>(i.zero,i.size,i.bytes))=some (some z,n,b)) :
  ∃ i,P.info? t=some i∧i.zero=some z∧i.size=n∧i.bytes=b:=by
 cases hq:P.info? t with
 | none=>simp [hq] at h
 | some i=>simp [hq] at h;exact ⟨i,rfl,h.1,h.2.1,h.2.2⟩
def zl (l:List Int):List Value:=l.map (Value.int .i64)
theorem zl_app (l k:List Int):zl (l++k)=zl l++zl k:=by simp [zl]
def OwnZ (w:World) (base:Nat) (v:Value) (l:List Int):Prop:=w.ownsRow base 3 1 v l.length (zl l)
theorem OwnZ.nil (w:World) (base:Nat):OwnZ w base (.slice none 0 0) []:=World.ownsRow_nil _ _ _ _
theorem OwnZ.kept {w w':World} {base:Nat} {v:Value} {l:List Int} (h:OwnZ w base v l) (k:Kept w w'):OwnZ w' base v l:=by
 obtain ⟨h1,h2⟩:=h
 refine ⟨h1,?_⟩
 rcases h2 with h2|⟨b,cap,cur,e1,e2,e3,e4⟩
 ·exact .inl h2
 ·exact .inr ⟨b,cap,cur,e1,e2,k.heap e3,e4⟩
theorem OwnZ.low {w:World} {base b:Nat} {v:Value} {l:List Int} (h:OwnZ w base v l) (hb:b≤base):OwnZ w b v l:=by
 obtain ⟨h1,h2⟩:=h
 refine ⟨h1,?_⟩
 rcases h2 with h2|⟨g,cap,cur,e1,e2,e3⟩
 ·exact .inl h2
 ·exact .inr ⟨g,cap,cur,e1,by omega,e3⟩
theorem OwnZ.slice {w:World} {base:Nat} {v:Value} {l:List Int} (h:OwnZ w base v l):∃ a cap,v=.slice a l.length cap:=by
 rcases h.2 with ⟨e,h0⟩|⟨g,cap,cur,e,_⟩
 ·exact ⟨none,0,by rw [e,h0]⟩
 ·exact ⟨_,_,e⟩
def LsZ (w:World) (g:Nat) (v:Value) (l:List Int):Prop :=
 (v=.slice none 0 0∧l=[])∨∃ off cap,v=.slice (some ⟨g,off,none⟩) l.length cap∧l.length≤cap∧cap≤maxLen∧∀ i x,l[i]?=some x→w.cell? ⟨g,off+i,none⟩=some (.int .i64 x)
theorem LsZ.kept {w w':World} {g:Nat} {v:Value} {l:List Int} (h:LsZ w g v l) (k:Kept w w'):LsZ w' g v l:=by
 rcases h with h|⟨off,cap,e,h1,h2,h3⟩
 ·exact .inl h
 ·exact .inr ⟨off,cap,e,h1,h2,fun i x hx=>kept_cell k (h3 i x hx)⟩
theorem LsZ.slice {w:World} {g:Nat} {v:Value} {l:List Int} (h:LsZ w g v l):∃ a cap,v=.slice a l.length cap:=by
 rcases h with ⟨e,h0⟩|⟨off,cap,e,_⟩
 ·exact ⟨none,0,by rw [e,h0];rfl⟩
 ·exact ⟨_,_,e⟩
theorem LsZ.full {w:World} {g:Nat} {v:Value} {l:List Int} (h:LsZ w g v l) (hl:0<l.length) :
  ∃ off cap,v=.slice (some ⟨g,off,none⟩) l.length cap∧l.length≤cap∧cap≤maxLen∧∀ i x,l[i]?=some x→w.cell? ⟨g,off+i,none⟩=some (.int .i64 x):=by
 rcases h with ⟨_,h0⟩|h
 ·rw [h0] at hl;simp at hl
 ·exact h
theorem OwnZ.ls {w:World} {base:Nat} {v:Value} {l:List Int} (h:OwnZ w base v l):∃ g,LsZ w g v l∧(0<l.length→base≤g∧g<w.heap.size):=by
 rcases h.2 with ⟨e,h0⟩|⟨g,cap,cur,e,hb,hh,hnc,hcm,hcs,ht⟩
 ·exact ⟨0,.inl ⟨e,List.eq_nil_of_length_eq_zero h0⟩,fun h=>by omega⟩
 ·refine ⟨g,.inr ⟨0,cap,e,hnc,hcm,fun i x hx=>?_⟩,fun _=>⟨hb,lt_of_heap hh⟩⟩
  have hi:i<l.length:=by
   obtain ⟨hi,_⟩:=List.getElem?_eq_some_iff.1 hx
   exact hi
  rw [Nat.zero_add,cell_of_row w g i cur _ (0,0) hh]
  have h2:(cur.toList.take (l.length*1))[i]?=(zl l)[i]?:=by rw [ht]
  rw [List.getElem?_take,if_pos (by omega)] at h2
  simp only [Array.getElem?_toList] at h2
  rw [h2]
  simp [zl,hx]
theorem wpList_append_z {ops:Array Oper} {rest:List Oper} {o:Oper} {a:Act} {w:World} {Q:Exit→Act→World→Prop} (hgd:o.guard=none) (s x:Operand)
  (ho:o.op=.call { callee:=.builtin .append,args:=#[s,x],argTypes:=#[71,71] })
  (base g:Nat) (v vx:Value) (l L:List Int) (hs:a.eval s=v) (hx:a.eval x=vx) (hown:OwnZ w base v l) (hL:LsZ w g vx L) (hlen:l.length+L.length≤100000) (hbase:base≤w.heap.size)
  (h:∀ v' w',OwnZ w' base v' (l++L)→w.grownBy w' v.ownBlock→wpList Tryz.prog ops Q rest (a.put o.dst v') w'):wpList Tryz.prog ops Q (o::rest) a w:=by
 obtain ⟨i0,hi0,hz0,hz1,hz2⟩:=partsZ infoZ
 rcases hL with ⟨e,h0⟩|⟨off,cap,e,hnc,hcm,hcell⟩
 ·subst h0
  rw [e] at hx
  refine wpList_append_own_none hgd s x 71 ho base 3 i0 1 Tryz.underlying71 hi0 v _ _ hs hown hx ?_
  exact h v w (by simpa using hown) ⟨rfl,rfl,rfl,Nat.le_refl _,fun _ _ _=>rfl⟩
 ·rw [e] at hx
  refine wpList_append_own w hgd s x 71 ho base 3 i0 (.int .i64 0) 1 8 Tryz.underlying71 hi0 hz0 hz1 hz2 rfl (by decide) v _ _ hs hown ⟨g,off,none⟩ L.length cap (zl L) hx (by simp [zl]) ?_ ?_ ?_ ?_ hbase ?_
  ·intro j u hu
   rw [show (⟨g,off,none⟩:Addr).add j=⟨g,off+j,none⟩ by unfold Addr.add;split <;> simp_all]
   unfold zl at hu
   rw [List.getElem?_map] at hu
   cases hq:L[j]? with
   | none=>rw [hq] at hu;cases hu
   | some y =>
    rw [hq] at hu
    have:u=.int .i64 y:=by simpa using hu.symm
    rw [this]
    exact hcell j y hq
  ·intro u hu
   unfold zl at hu
   obtain ⟨y,_,rfl⟩:=List.mem_map.1 hu
   rfl
  ·unfold maxLen;omega
  ·omega
  ·intro v' w' h1 h2 _
   refine h v' w' ?_ h2
   unfold OwnZ
   rw [zl_app,List.length_append]
   exact h1
theorem LsZ.lit (w:World) (l:List Int) (hm:l.length≤1000):LsZ (w.alloc (.cells (zl l).toArray 3)) w.heap.size (.slice (some ⟨w.heap.size,0,none⟩) l.length l.length) l:=by
 refine .inr ⟨0,l.length,rfl,Nat.le_refl _,by unfold maxLen;omega,fun i x hx=>?_⟩
 rw [cell_of_row _ _ _ _ _ (0,0) (heap_alloc_new w _)]
 simp [zl,hx]
theorem OwnZ.grown {w w':World} {base:Nat} {v:Value} {l:List Int} (h:OwnZ w base v l) {a:World} (k:Kept a w) (hb:a.heap.size≤base) (hg:w.grownBy w' v.ownBlock):Kept a w' :=
 k.grownBy hg (fun g hgv=>by have:=(World.ownsRow.lt h g hgv).1;omega)
def slen:Value→Nat
 | .slice _ n _=>n
 | _=>0
def NewZ (w:World) (l:List Int) (e:Ending) (w':World):Prop:=∃ v,e=.returned v∧OwnZ w' w.heap.size v l∧Kept w w'
theorem rstep_neg (s f r:Int) (w:World) (h:(s<0∨64≤s)∨(0≤s∧s<64∧(s % 8+f<0∨8≤s % 8+f∨s / 8+r<0∨8≤s / 8+r))) :
  Calls Tryz.prog 187 #[.int .i64 s,.int .i64 f,.int .i64 r] w fun e w'=>e=.returned (.int .i64 (-1))∧w=w':=by
 rcases h with h|⟨a,b,h⟩
 ·exact rstep_off s f r w h
 ·exact rstep_no s f r w a b h
theorem step_neg (s f r:Int) (w:World) (wf:(Lit.int .i64 f).wf=true) (wr:(Lit.int .i64 r).wf=true) (h:(s<0∨64≤s)∨(0≤s∧s<64∧(s % 8+f<0∨8≤s % 8+f∨s / 8+r<0∨8≤s / 8+r))) :
  Calls Tryz.prog 139 #[.int .i64 s,.int .i64 f,.int .i64 r] w fun e w'=>e=.returned (.tuple #[.int .i64 0,.bool false])∧w=w':=by
 rcases h with h|⟨a,b,h⟩
 ·exact step_off s f r w h
 ·exact step_no s f r w a b wf wr h
theorem step_any (s f r:Int) (w:World) (wf:(Lit.int .i64 f).wf=true) (wr:(Lit.int .i64 r).wf=true) :
  Calls Tryz.prog 139 #[.int .i64 s,.int .i64 f,.int .i64 r] w fun e w'=>(∃ t on,e=.returned (.tuple #[.int .i64 t,.bool on])∧((on=true∧0≤s∧s<64∧0≤s % 8+f∧s % 8+f<8∧0≤s / 8+r∧s / 8+r<8∧t=(s / 8+r)*8+(s % 8+f))∨(on=false∧stI s f r=-1)))∧w=w':=by
 rcases stI_cases s f r with ⟨a,b,c,d,e,g,_⟩|⟨hs,h⟩
 ·exact (step_yes s f r w a b c d e g).mono fun _ _ ⟨h1,h2⟩=>⟨⟨_,true,h1,.inl ⟨rfl,a,b,c,d,e,g,rfl⟩⟩,h2⟩
 ·exact (step_neg s f r w wf wr h).mono fun _ _ ⟨h1,h2⟩=>⟨⟨_,false,h1,.inr ⟨rfl,hs⟩⟩,h2⟩
theorem rstep_any (s f r:Int) (w:World) :
  Calls Tryz.prog 187 #[.int .i64 s,.int .i64 f,.int .i64 r] w fun e w'=>(∃ t,e=.returned (.int .i64 t)∧((0≤t∧0≤s∧s<64∧0≤s % 8+f∧s % 8+f<8∧0≤s / 8+r∧s / 8+r<8∧t=(s / 8+r)*8+(s % 8+f))∨(t<0∧stI s f r=-1)))∧w=w':=by
 rcases stI_cases s f r with ⟨a,b,c,d,e,g,_⟩|⟨hs,h⟩
 ·exact (rstep_yes s f r w a b c d e g).mono fun _ _ ⟨h1,h2⟩=>⟨⟨_,h1,.inl ⟨by omega,a,b,c,d,e,g,rfl⟩⟩,h2⟩
 ·exact (rstep_neg s f r w h).mono fun _ _ ⟨h1,h2⟩=>⟨⟨_,h1,.inr ⟨by omega,hs⟩⟩,h2⟩
theorem RayMid.first {s f r t:Int} {on:Bool} (h0:¬ (f=0∧r=0)) (h:(on=true∧0≤s∧s<64∧0≤s % 8+f∧s % 8+f<8∧0≤s / 8+r∧s / 8+r<8∧t=(s / 8+r)*8+(s % 8+f))∨(on=false∧stI s f r=-1)):RayMid s f r [] t on:=by
 rcases h with ⟨rfl,a,b,c,d,e,g,rfl⟩|⟨rfl,h⟩
 ·exact RayMid.start_yes h0 a b c d e g
 ·exact RayMid.start_no _ h
theorem RayMid.next {s f r t u:Int} {l:List Int} {on:Bool} (hm:RayMid s f r l t true) (h0:¬ (f=0∧r=0)) (h:(on=true∧0≤t∧t<64∧0≤t % 8+f∧t % 8+f<8∧0≤t / 8+r∧t / 8+r<8∧u=(t / 8+r)*8+(t % 8+f))∨(on=false∧stI t f r=-1)):RayMid s f r (l++[t]) u on:=by
 rcases h with ⟨rfl,a,b,c,d,e,g,rfl⟩|⟨rfl,h⟩
 ·exact hm.next_yes h0 c d e g
 ·exact hm.next_no _ h0 h
theorem rayMid_first {s f r t:Int} (h0:¬ (f=0∧r=0)) (h:(0≤t∧0≤s∧s<64∧0≤s % 8+f∧s % 8+f<8∧0≤s / 8+r∧s / 8+r<8∧t=(s / 8+r)*8+(s % 8+f))∨(t<0∧stI s f r=-1)):RayMid s f r [] t (decide (0≤t)):=by
 rcases h with ⟨h,h'⟩|⟨h,h'⟩
 ·rw [decide_eq_true h];exact RayMid.first h0 (.inl ⟨rfl,h'⟩)
 ·rw [decide_eq_false (by omega)];exact RayMid.first h0 (.inr ⟨rfl,h'⟩)
theorem rayMid_next {s f r t u:Int} {l:List Int} (hm:RayMid s f r l t true) (h0:¬ (f=0∧r=0)) (h:(0≤u∧0≤t∧t<64∧0≤t % 8+f∧t % 8+f<8∧0≤t / 8+r∧t / 8+r<8∧u=(t / 8+r)*8+(t % 8+f))∨(u<0∧stI t f r=-1)):RayMid s f r (l++[t]) u (decide (0≤u)):=by
 rcases h with ⟨h,h'⟩|⟨h,h'⟩
 ·rw [decide_eq_true h];exact hm.next h0 (.inl ⟨rfl,h'⟩)
 ·rw [decide_eq_false (by omega)];exact hm.next h0 (.inr ⟨rfl,h'⟩)
set_option maxHeartbeats 1000000 in
theorem rray_is (s f r:Int) (w:World) :
  Calls Tryz.prog 161 #[.int .i64 s,.int .i64 f,.int .i64 r] w (NewZ w (rayL s f r)):=by
 by_cases h0:f=0∧r=0
 ·obtain ⟨rfl,rfl⟩:=h0
  go_enter Tryz.func161,Tryz.ntmps161
  go_wp2
  go_ret
  exact ⟨_,rfl,by rw [rayL_none];exact OwnZ.nil _ _,Kept.refl _⟩
 ·have H0:=Qh h0
  have HP:=Qh (rstep_any · f r ·)
  have hb:(f == 0)=false∨((f == 0)=true∧(r == 0)=false):=by
   by_cases hf:f=0
   ·right;refine ⟨by simpa using hf,?_⟩;rw [beq_eq_false_iff_ne];exact fun hr=>h0 ⟨hf,hr⟩
   ·left;simpa using hf
  clear h0
  rcases hb with hb|⟨hb,hb2⟩
  all_goals
   go_enter Tryz.func161,Tryz.ntmps161
   go_wp2_with fail
   refine (HP.out _ _).mono ?_
   rintro e w' ⟨⟨t,rfl,ht⟩,rfl⟩
   have HT:=Qh (rayMid_first H0.out ht)
   clear ht
   go_wp2
   go_loopw [7,8] (fun t7 t8 wr=>∃ l t,t8=.int .i64 t∧RayMid s f r l t (decide (0≤t))∧OwnZ wr w.heap.size t7 l∧Kept w wr) (fun t7 _ _=>8-slen t7)
   case atStart=>exact ⟨[],t,rfl,HT.out,OwnZ.nil _ _,Kept.refl _⟩
   case round =>
    obtain ⟨l,t,rfl,hm,hown,hK⟩:=hrel
    obtain ⟨a,cap,rfl⟩:=hown.slice
    have HM:=Qh hm
    have HO:=Qh hown
    have HK:=Qh hK
    clear hm hown hK HT
    by_cases ht:0≤t
    ·rw [decide_eq_true ht] at HM
     obtain ⟨t0,t1,hlen⟩:=HM.out.far H0.out
     have HA:=Qh (HK.out.alloc (.cells #[.int .i64 t] 3))
     go_wp2_with (at_builtin;refine wpList_append_z rfl _ _ rfl w.heap.size wr.heap.size _ _ l [t] rfl rfl (HO.out.kept ((Kept.refl _).alloc _)) (LsZ.lit _ [t] (by simp)) ?c1 ?c2 ?_)
     case c1=>simp;omega
     case c2=>exact HA.out.size
     intro v' w1 hown' hg
     have hK1:=(HO.out.kept ((Kept.refl _).alloc (.cells #[.int .i64 t] 3))).grown HA.out (Nat.le_refl _) hg
     obtain ⟨a',cap',rfl⟩:=hown'.slice
     have HO1:=Qh hown'
     have HK1:=Qh hK1
     clear hown' hK1 hg
     generalize hn:(l++[t]).length=n at *
     have HN:=Qh hn
     clear hn
     go_wp2_with fail
     refine (HP.out _ _).mono ?_
     rintro e w' ⟨⟨u,rfl,hu⟩,rfl⟩
     have HU:=Qh (rayMid_next HM.out H0.out hu)
     clear hu
     go_wp2
     go_roundw
     case rel=>exact ⟨l++[t],u,rfl,HU.out,HO1.out,HK1.out⟩
     case measure=>have:=HN.out;simp [slen] at this ⊢;omega
    ·rw [decide_eq_false ht] at HM
     have ht':t<0:=by omega
     go_wp2
     go_ret
     exact ⟨_,rfl,by rw [HM.out.done];exact HO.out,HK.out⟩
theorem mknd_any (m:Int) (w:World):Calls Tryz.prog 134 #[.int .i64 m] w fun e w'=>e=.returned (.int .i64 (knd m))∧w=w':=by
 by_cases h:m < -6∨m=0∨6<m
 ·rw [knd_none h];exact mkind_no m w h
 ·have e:knd m=if m<0 then -m else m:=by unfold knd;rw [if_neg h]
  rw [e]
  split
  ·exact mkind_b m w (by omega) (by omega)
  ·exact mkind_w m w (by omega) (by omega)
theorem rknd_any (m:Int) (w:World):Calls Tryz.prog 81 #[.int .i64 m] w fun e w'=>e=.returned (.int .i64 (knd m))∧w=w':=by
 by_cases h:m < -6∨m=0∨6<m
 ·rw [knd_none h];exact rkind_no m w h
 ·have e:knd m=if m<0 then -m else m:=by unfold knd;rw [if_neg h]
  rw [e]
  split
  ·exact rkind_yes m (-m) w (by omega) (by omega) (by omega)
  ·exact rkind_yes m m w (by omega) (by omega) (by omega)
theorem knd_is (m:Int):knd m=0∨knd m=1∨knd m=2∨knd m=3∨knd m=4∨knd m=5∨knd m=6:=by
 unfold knd
 split
 ·omega
 ·split <;> omega
theorem knd_pawn {m:Int} (h:knd m=1):m=1∨m=-1:=by
 unfold knd at h
 split at h
 ·omega
 ·split at h <;> omega
theorem rslides_is (m:Int) (w:World):Calls Tryz.prog 162 #[.int .i64 m] w fun e w'=>e=.returned (.bool (slidesB m))∧w=w':=by
 have HK:=Qh (rknd_any m)
 unfold slidesB
 have hq:=knd_is m
 generalize knd m=q at *
 rcases hq with rfl|rfl|rfl|rfl|rfl|rfl|rfl
 all_goals
  go_enter Tryz.func162,Tryz.ntmps162
  go_wp2_with fail
  refine (HK.out _).mono ?_
  rintro e w' ⟨rfl,rfl⟩
  go_wp2
  go_ret
  exact ⟨rfl,rfl⟩
theorem ahead_w (w:World):Calls Tryz.prog 203 #[.int .i64 0] w fun e w'=>e=.returned (.int .i64 1)∧w=w':=by
 go_enter Tryz.func203,Tryz.ntmps203
 go_wp2
 go_ret
 exact ⟨rfl,rfl⟩
theorem ahead_b (w:World):Calls Tryz.prog 203 #[.int .i64 1] w fun e w'=>e=.returned (.int .i64 (-1))∧w=w':=by
 go_enter Tryz.func203,Tryz.ntmps203
 go_wp2
 go_ret
 exact ⟨rfl,rfl⟩
def Steps (w:World):Prop:=∀ i:Nat,i<16→w.cell? ⟨6,i*2,none⟩=some (.int .i64 (wayF i))∧w.cell? ⟨6,i*2+1,none⟩=some (.int .i64 (wayR i))
theorem Steps.kept {a b:World} (h:Steps a) (k:Kept a b):Steps b:=fun i hi=>⟨kept_cell k (h i hi).1,kept_cell k (h i hi).2⟩
end Go.Proofs.YtlbipjmmlobofaaGreatDoor
