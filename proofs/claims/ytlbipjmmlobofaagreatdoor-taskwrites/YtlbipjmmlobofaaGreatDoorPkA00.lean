/- Base · SqA · SqB · SqC: my texts, in their order. -/
import Derived.Test.YtlbipjmmlobofaaGreatDoorRows
import Derived.WalkKit
import Derived.ProofKit
import Derived.OpenShut
import Derived.LoopTactic
import Derived.WalkLawsBesides
import Derived.Outline
import Derived.Lib.Hide
import Derived.Deep.QuietTactic
import Derived.BigQuiet
import Derived.Laws.Cover4
import Derived.WalkSpells
import Derived.Laws.RangeAny
import Derived.IntWalk
namespace Go.Proofs.YtlbipjmmlobofaaGreatDoor
open Go.RowKit
set_option linter.unusedVariables false
theorem Qh {p:Prop} (h:p):Hid p:=h

theorem ret_int {k:IntKind} {a b:Int} (h:a=b):Ending.returned (.int k a)=.returned (.int k b):=by rw [h]
theorem grown_trans {a b c:World} (h:Grown a b) (k:Grown b c):Grown a c :=
 ⟨World.keptBut_trans h.1 k.1,fun x=>(k.2.1 x).trans (h.2.1 x),Nat.le_trans h.2.2 k.2.2⟩
theorem frozen_alloc_iter (w:World) (s:ByteArray) (p:Nat) (a:Addr):(w.iter s p).frozen? a=w.frozen? a:=by
 by_cases h:a.block=w.heap.size
 ·have e1:(w.iter s p).heap[a.block]?=some (.stringIter s p):=by rw [h];exact World.iter_heap w s p
  have e2:w.heap[a.block]?=none:=by rw [h];simp
  simp [World.frozen?,e1,e2]
 ·exact World.frozen?_alloc_old _ _ _ h
theorem kept_iter (w:World) (s:ByteArray) (p:Nat):w.keptBut (w.iter s p) (fun _=>False):=by
 refine ⟨rfl,rfl,fun i hi=>?_⟩
 have e:(w.iter s p).heap[i]?=w.heap[i]?:=by
  show (w.heap.push _)[i]?=_
  rw [Array.getElem?_push,if_neg (by omega)]
 rw [e]
 split <;> simp_all
theorem grown_iter (w:World) (s:ByteArray) (p:Nat):Grown w (w.iter s p) :=
 ⟨kept_iter w s p,fun a=>frozen_alloc_iter w s p a,by show w.heap.size≤(w.heap.push _).size;simp⟩
theorem width_pos (s:ByteArray) (pos:Nat) (h:pos<s.size):1≤(Utf8.decode s pos).2:=by
 by_cases ha:(s[pos]'h).toNat<128
 ·rw [decode_ascii s pos h ha]
  exact Nat.le_refl _
 ·exact (decode_high s pos h (by omega)).2
theorem str_eq_false {a b:ByteArray} (h:a≠b):(a.toList == b.toList)=false:=by
 rw [beq_eq_false_iff_ne]
 intro e
 rw [ByteArray.toList_eq,ByteArray.toList_eq] at e
 exact h (WideShapes.bytes_inj e)
def iterAt (w:World) (i:Nat) (s:ByteArray) (p:Nat):World:={ w with heap:=w.heap.setIfInBounds i (.stringIter s p) }
theorem lt_of_heap {w:World} {i:Nat} {o:Obj} (h:w.heap[i]?=some o):i<w.heap.size:=by
 obtain ⟨h,_⟩:=Array.getElem?_eq_some_iff.1 h
 exact h
theorem grown_heap_iter {a b:World} (g:Grown a b) {i:Nat} {s:ByteArray} {p:Nat} (h:a.heap[i]?=some (.stringIter s p)):b.heap[i]?=some (.stringIter s p):=by
 have hk:=g.1.2.2 i (lt_of_heap h)
 rw [h] at hk
 split at hk <;> simp_all
theorem iterAt_heap {w:World} {i:Nat} {o:Obj} (h:w.heap[i]?=some o) (s:ByteArray) (p:Nat):(iterAt w i s p).heap[i]?=some (.stringIter s p):=by
 have:=lt_of_heap h
 show (w.heap.setIfInBounds i _)[i]?=_
 simp [this]
theorem next_at {P:Program} (w:World) (i:Nat) (s:ByteArray) (pos:Nat) (ty:TypeId) (hi:w.heap[i]?=some (.stringIter s pos)) (h:pos<s.size) :
  (Instr.next (.pointer (some ⟨i,0,none⟩)) true ty).run P w=.ok (.tuple #[.bool true,.int .i64 pos,.int .i32 (Utf8.decode s pos).1]) (iterAt w i s (pos+(Utf8.decode s pos).2)):=by
 simp only [Instr.next,getObj,setObj,Sem.run_bind,Sem.run,hi,Result.andThen,h,if_true]
 simp [goInt,iterAt]
theorem next_at_end {P:Program} (w:World) (i:Nat) (s:ByteArray) (pos:Nat) (ty:TypeId) (hi:w.heap[i]?=some (.stringIter s pos)) (h:¬ pos<s.size) :
  (Instr.next (.pointer (some ⟨i,0,none⟩)) true ty).run P w=.ok (.tuple #[.bool false]) w:=by
 simp [Instr.next,getObj,Sem.run,hi,h]
theorem grown_iterAt {a b:World} (g:Grown a b) {i:Nat} (hi:a.heap.size≤i) {s:ByteArray} {p:Nat} (h:b.heap[i]?=some (.stringIter s p)) (q:Nat):Grown a (iterAt b i s q):=by
 refine ⟨⟨g.1.1,g.1.2.1,fun j hj=>?_⟩,fun x=>?_,?_⟩
 ·have e:(iterAt b i s q).heap[j]?=b.heap[j]?:=by
   show (b.heap.setIfInBounds i _)[j]?=_
   rw [Array.getElem?_setIfInBounds_ne (by omega)]
  rw [e]
  exact g.1.2.2 j hj
 ·rw [← g.2.1 x]
  by_cases hx:x.block=i
  ·have e1:=iterAt_heap h s q
   subst hx
   simp [World.frozen?,e1,h]
  ·have e:(iterAt b i s q).heap[x.block]?=b.heap[x.block]?:=by
    show (b.heap.setIfInBounds i _)[x.block]?=_
    rw [Array.getElem?_setIfInBounds_ne (by omega)]
   simp [World.frozen?,e]
 ·show a.heap.size≤(b.heap.setIfInBounds i _).size
  simp [g.2.2]
theorem right_yes (s:Int) (w:World) (h0:0≤s) (h1:s<64) :
  Calls Tryz.prog 47 #[.int .i64 s] w fun e w'=>e=.returned (.bool true)∧w=w':=by
 go_enter Tryz.func47,Tryz.ntmps47
 go_wp2
 go_ret
 exact ⟨rfl,rfl⟩
theorem right_no (s:Int) (w:World) (h:s<0∨64≤s) :
  Calls Tryz.prog 47 #[.int .i64 s] w fun e w'=>e=.returned (.bool false)∧w=w':=by
 rcases h with h|h
 ·go_enter Tryz.func47,Tryz.ntmps47
  go_wp2
  go_ret
  exact ⟨rfl,rfl⟩
 ·have h0:0≤s:=by omega
  have hb:decide (s<64)=false:=by simp;omega
  go_enter Tryz.func47,Tryz.ntmps47
  go_wp2
  go_ret
  exact ⟨rfl,rfl⟩

theorem rright_yes (s:Int) (w:World) (h0:0≤s) (h1:s<64) :
  Calls Tryz.prog 59 #[.int .i64 s] w fun e w'=>e=.returned (.bool true)∧w=w':=by
 have h2:s≤63:=by omega
 go_enter Tryz.func59,Tryz.ntmps59
 go_wp2
 go_ret
 exact ⟨rfl,rfl⟩
theorem rright_no (s:Int) (w:World) (h:s<0∨64≤s) :
  Calls Tryz.prog 59 #[.int .i64 s] w fun e w'=>e=.returned (.bool false)∧w=w':=by
 rcases h with h|h
 ·go_enter Tryz.func59,Tryz.ntmps59
  go_wp2
  go_ret
  exact ⟨rfl,rfl⟩
 ·have h0:0≤s:=by omega
  have hb:decide (s≤63)=false:=by simp;omega
  go_enter Tryz.func59,Tryz.ntmps59
  go_wp2
  go_ret
  exact ⟨rfl,rfl⟩

theorem file_yes (s:Int) (w:World) (h0:0≤s) (h1:s<64) :
  Calls Tryz.prog 90 #[.int .i64 s] w fun e w'=>e=.returned (.int .i64 (s % 8))∧w=w':=by
 go_enter Tryz.func90,Tryz.ntmps90
 go_wp2_with (go_at_call 47;refine (right_yes _ _ (by omega) (by omega)).mono ?_;rintro e w' ⟨rfl,rfl⟩)
 go_ret
 exact ⟨rfl,rfl⟩
theorem rank_yes (s:Int) (w:World) (h0:0≤s) (h1:s<64) :
  Calls Tryz.prog 91 #[.int .i64 s] w fun e w'=>e=.returned (.int .i64 (s / 8))∧w=w':=by
 go_enter Tryz.func91,Tryz.ntmps91
 go_wp2_with (go_at_call 47;refine (right_yes _ _ (by omega) (by omega)).mono ?_;rintro e w' ⟨rfl,rfl⟩)
 go_ret
 exact ⟨rfl,rfl⟩
theorem rank_no (s:Int) (w:World) (h:s<0∨64≤s) :
  Calls Tryz.prog 91 #[.int .i64 s] w fun e w'=>e=.returned (.int .i64 (-1))∧w=w':=by
 go_enter Tryz.func91,Tryz.ntmps91
 go_wp2_with (go_at_call 47;refine (right_no _ _ h).mono ?_;rintro e w' ⟨rfl,rfl⟩)
 go_ret
 exact ⟨rfl,rfl⟩


theorem rfile_yes (s:Int) (w:World) (h0:0≤s) (h1:s<64) :
  Calls Tryz.prog 60 #[.int .i64 s] w fun e w'=>e=.returned (.int .i64 (s % 8))∧w=w':=by
 go_enter Tryz.func60,Tryz.ntmps60
 go_wp2_with (go_at_call 59;refine (rright_yes _ _ (by omega) (by omega)).mono ?_;rintro e w' ⟨rfl,rfl⟩)
 go_loop [0] (fun t=>∃ y:Int,0≤y∧y<64∧y % 8=s % 8∧t=.int .i64 y) (fun t=>(intOf t).toNat)
 case atStart=>exact ⟨s,h0,h1,rfl,rfl⟩
 case round =>
  obtain ⟨y,hy0,hy1,hy2,rfl⟩:=hrel
  have H:=Qh hy2
  clear hy2
  by_cases hlt:8≤y
  ·go_wp2
   go_round
   case rel=>exact ⟨y-8,by omega,by omega,by have:=H.out;omega,rfl⟩
   case measure=>simp [intOf];omega
  ·go_wp2
   go_ret
   exact ⟨ret_int (by have:=H.out;omega),rfl⟩
theorem rrank_yes (s:Int) (w:World) (h0:0≤s) (h1:s<64) :
  Calls Tryz.prog 61 #[.int .i64 s] w fun e w'=>e=.returned (.int .i64 (s / 8))∧w=w':=by
 go_enter Tryz.func61,Tryz.ntmps61
 go_wp2_with (go_at_call 59;refine (rright_yes _ _ (by omega) (by omega)).mono ?_;rintro e w' ⟨rfl,rfl⟩)
 go_loop [0,3] (fun t r=>∃ y n:Int,0≤y∧y<64∧0≤n∧n<9∧y / 8+n=s / 8∧t=.int .i64 y∧r=.int .i64 n) (fun t _=>(intOf t).toNat)
 case atStart=>exact ⟨s,0,h0,h1,by omega,by omega,by omega,rfl,rfl⟩
 case round =>
  obtain ⟨y,n,hy0,hy1,hn0,hn1,hy2,rfl,rfl⟩:=hrel
  have H:=Qh hy2
  clear hy2
  by_cases hlt:8≤y
  ·go_wp2
   go_round
   case rel=>exact ⟨y-8,n+1,by omega,by omega,by omega,by have:=H.out;omega,by have:=H.out;omega,rfl,rfl⟩
   case measure=>simp [intOf];omega
  ·go_wp2
   go_ret
   exact ⟨ret_int (by have:=H.out;omega),rfl⟩
theorem onEdge_yes (s:Int) (w:World) (h0:0≤s) (h1:s<8) :
  Calls Tryz.prog 128 #[.int .i64 s] w fun e w'=>e=.returned (.bool true)∧w=w':=by
 go_enter Tryz.func128,Tryz.ntmps128
 go_wp2
 go_ret
 exact ⟨rfl,rfl⟩
theorem onEdge_no (s:Int) (w:World) (h:s<0∨8≤s) :
  Calls Tryz.prog 128 #[.int .i64 s] w fun e w'=>e=.returned (.bool false)∧w=w':=by
 rcases h with h|h
 ·go_enter Tryz.func128,Tryz.ntmps128
  go_wp2
  go_ret
  exact ⟨rfl,rfl⟩
 ·have h0:0≤s:=by omega
  have hb:decide (s<8)=false:=by simp;omega
  go_enter Tryz.func128,Tryz.ntmps128
  go_wp2
  go_ret
  exact ⟨rfl,rfl⟩
theorem at_yes (f r:Int) (w:World) (f0:0≤f) (f1:f<8) (r0:0≤r) (r1:r<8) :
  Calls Tryz.prog 83 #[.int .i64 f,.int .i64 r] w fun e w'=>e=.returned (.tuple #[.int .i64 (r*8+f),.bool true])∧w=w':=by
 go_enter Tryz.func83,Tryz.ntmps83
 go_wp2_with (go_at_call 128;refine (onEdge_yes _ _ (by omega) (by omega)).mono ?_;rintro e w' ⟨rfl,rfl⟩)
 go_ret2
 exact ⟨rfl,rfl⟩
theorem at_no (f r:Int) (w:World) (h:f<0∨8≤f∨r<0∨8≤r) :
  Calls Tryz.prog 83 #[.int .i64 f,.int .i64 r] w fun e w'=>e=.returned (.tuple #[.int .i64 0,.bool false])∧w=w':=by
 by_cases hf:f<0∨8≤f
 ·go_enter Tryz.func83,Tryz.ntmps83
  go_wp2_with (go_at_call 128;refine (onEdge_no _ _ hf).mono ?_;rintro e w' ⟨rfl,rfl⟩)
  go_ret2
  exact ⟨rfl,rfl⟩
 ·have f0:0≤f:=by omega
  have f1:f<8:=by omega
  have hr:r<0∨8≤r:=by omega
  clear hf h
  go_enter Tryz.func83,Tryz.ntmps83
  go_wp2_with fail
  refine (onEdge_yes _ _ (by omega) (by omega)).mono ?_
  rintro e w' ⟨rfl,rfl⟩
  go_wp2_with fail
  refine (onEdge_no _ _ hr).mono ?_
  rintro e w' ⟨rfl,rfl⟩
  go_wp2
  go_ret2
  exact ⟨rfl,rfl⟩
theorem gap_is (a b:Int) (w:World) (a0:0≤a) (a1:a<8) (b0:0≤b) (b1:b<8) :
  Calls Tryz.prog 135 #[.int .i64 a,.int .i64 b] w fun e w'=>e=.returned (.int .i64 (max (a-b) (b-a)))∧w=w':=by
 by_cases h:a<b
 ·go_enter Tryz.func135,Tryz.ntmps135
  go_wp2
  go_ret
  exact ⟨ret_int (by omega),rfl⟩
 ·go_enter Tryz.func135,Tryz.ntmps135
  go_wp2
  go_ret
  exact ⟨ret_int (by omega),rfl⟩
theorem rstep_yes (s f r:Int) (w:World) (h0:0≤s) (h1:s<64) (f0:0≤s % 8+f) (f1:s % 8+f<8) (r0:0≤s / 8+r) (r1:s / 8+r<8) :
  Calls Tryz.prog 187 #[.int .i64 s,.int .i64 f,.int .i64 r] w fun e w'=>e=.returned (.int .i64 ((s / 8+r)*8+(s % 8+f)))∧w=w':=by
 go_enter Tryz.func187,Tryz.ntmps187
 go_wp2_with (go_at_call 59;refine (rright_yes _ _ (by omega) (by omega)).mono ?_;rintro e w' ⟨rfl,rfl⟩)
 go_loop [7] (fun t=>∃ k:Int,0≤k∧k≤(s / 8+r)*8+(s % 8+f)∧t=.int .i64 k) (fun t=>(64-intOf t).toNat)
 case atStart=>exact ⟨0,by omega,by omega,rfl⟩
 case round =>
  obtain ⟨k,hk0,hk1,rfl⟩:=hrel
  have hk2:k<64:=by omega
  by_cases hf:k % 8-s % 8=f
  ·have b1:(k % 8-s % 8 == f)=true:=beq_iff_eq.2 hf
   by_cases hr:k / 8-s / 8=r
   ·have b2:(k / 8-s / 8 == r)=true:=beq_iff_eq.2 hr
    have H:=Qh (show k=(s / 8+r)*8+(s % 8+f) by omega)
    clear hf hr
    go_wp2_with (first|(go_at_call 60;refine (rfile_yes _ _ (by omega) (by omega)).mono ?_;rintro e w' ⟨rfl,rfl⟩)|(go_at_call 61;refine (rrank_yes _ _ (by omega) (by omega)).mono ?_;rintro e w' ⟨rfl,rfl⟩))
    go_ret
    exact ⟨ret_int H.out,rfl⟩
   ·have b2:(k / 8-s / 8 == r)=false:=beq_eq_false_iff_ne.2 hr
    have hk3:k<(s / 8+r)*8+(s % 8+f):=by omega
    clear hf hr
    go_wp2_with (first|(go_at_call 60;refine (rfile_yes _ _ (by omega) (by omega)).mono ?_;rintro e w' ⟨rfl,rfl⟩)|(go_at_call 61;refine (rrank_yes _ _ (by omega) (by omega)).mono ?_;rintro e w' ⟨rfl,rfl⟩))
    go_round
    case rel=>exact ⟨k+1,by omega,by omega,rfl⟩
    case measure=>simp [intOf];omega
  ·have b1:(k % 8-s % 8 == f)=false:=beq_eq_false_iff_ne.2 hf
   have hk3:k<(s / 8+r)*8+(s % 8+f):=by omega
   clear hf
   go_wp2_with (first|(go_at_call 60;refine (rfile_yes _ _ (by omega) (by omega)).mono ?_;rintro e w' ⟨rfl,rfl⟩)|(go_at_call 61;refine (rrank_yes _ _ (by omega) (by omega)).mono ?_;rintro e w' ⟨rfl,rfl⟩))
   go_round
   case rel=>exact ⟨k+1,by omega,by omega,rfl⟩
   case measure=>simp [intOf];omega
theorem rstep_no (s f r:Int) (w:World) (h0:0≤s) (h1:s<64) (h:s % 8+f<0∨8≤s % 8+f∨s / 8+r<0∨8≤s / 8+r) :
  Calls Tryz.prog 187 #[.int .i64 s,.int .i64 f,.int .i64 r] w fun e w'=>e=.returned (.int .i64 (-1))∧w=w':=by
 go_enter Tryz.func187,Tryz.ntmps187
 go_wp2_with (go_at_call 59;refine (rright_yes _ _ (by omega) (by omega)).mono ?_;rintro e w' ⟨rfl,rfl⟩)
 go_loop [7] (fun t=>∃ k:Int,0≤k∧k≤64∧t=.int .i64 k) (fun t=>(64-intOf t).toNat)
 case atStart=>exact ⟨0,by omega,by omega,rfl⟩
 case round =>
  obtain ⟨k,hk0,hk1,rfl⟩:=hrel
  by_cases hk2:k<64
  ·by_cases hf:k % 8-s % 8=f
   ·have b1:(k % 8-s % 8 == f)=true:=beq_iff_eq.2 hf
    have b2:(k / 8-s / 8 == r)=false:=beq_eq_false_iff_ne.2 (by omega)
    clear hf
    go_wp2_with (first|(go_at_call 60;refine (rfile_yes _ _ (by omega) (by omega)).mono ?_;rintro e w' ⟨rfl,rfl⟩)|(go_at_call 61;refine (rrank_yes _ _ (by omega) (by omega)).mono ?_;rintro e w' ⟨rfl,rfl⟩))
    go_round
    case rel=>exact ⟨k+1,by omega,by omega,rfl⟩
    case measure=>simp [intOf];omega
   ·have b1:(k % 8-s % 8 == f)=false:=beq_eq_false_iff_ne.2 hf
    clear hf
    go_wp2_with (first|(go_at_call 60;refine (rfile_yes _ _ (by omega) (by omega)).mono ?_;rintro e w' ⟨rfl,rfl⟩)|(go_at_call 61;refine (rrank_yes _ _ (by omega) (by omega)).mono ?_;rintro e w' ⟨rfl,rfl⟩))
    go_round
    case rel=>exact ⟨k+1,by omega,by omega,rfl⟩
    case measure=>simp [intOf];omega
  ·go_wp2
   go_ret
   exact ⟨rfl,rfl⟩
theorem rstep_off (s f r:Int) (w:World) (h:s<0∨64≤s) :
  Calls Tryz.prog 187 #[.int .i64 s,.int .i64 f,.int .i64 r] w fun e w'=>e=.returned (.int .i64 (-1))∧w=w':=by
 go_enter Tryz.func187,Tryz.ntmps187
 go_wp2_with (go_at_call 59;refine (rright_no _ _ h).mono ?_;rintro e w' ⟨rfl,rfl⟩)
 go_ret
 exact ⟨rfl,rfl⟩

theorem step_yes (s f r:Int) (w:World) (h0:0≤s) (h1:s<64) (f0:0≤s % 8+f) (f1:s % 8+f<8) (r0:0≤s / 8+r) (r1:s / 8+r<8) :
  Calls Tryz.prog 139 #[.int .i64 s,.int .i64 f,.int .i64 r] w fun e w'=>e=.returned (.tuple #[.int .i64 ((s / 8+r)*8+(s % 8+f)),.bool true])∧w=w':=by
 go_enter Tryz.func139,Tryz.ntmps139
 go_wp2_with (first|(go_at_call 47;refine (right_yes _ _ (by omega) (by omega)).mono ?_;rintro e w' ⟨rfl,rfl⟩)|(go_at_call 90;refine (file_yes _ _ (by omega) (by omega)).mono ?_;rintro e w' ⟨rfl,rfl⟩)|(go_at_call 91;refine (rank_yes _ _ (by omega) (by omega)).mono ?_;rintro e w' ⟨rfl,rfl⟩)|(go_at_call 83;refine (at_yes _ _ _ (by omega) (by omega) (by omega) (by omega)).mono ?_;rintro e w' ⟨rfl,rfl⟩))
 go_ret2
 exact ⟨rfl,rfl⟩
theorem step_off (s f r:Int) (w:World) (h:s<0∨64≤s) :
  Calls Tryz.prog 139 #[.int .i64 s,.int .i64 f,.int .i64 r] w fun e w'=>e=.returned (.tuple #[.int .i64 0,.bool false])∧w=w':=by
 go_enter Tryz.func139,Tryz.ntmps139
 go_wp2_with (go_at_call 47;refine (right_no _ _ h).mono ?_;rintro e w' ⟨rfl,rfl⟩)
 go_ret2
 exact ⟨rfl,rfl⟩
theorem wrap_off (x:Int) (h0:-9223372036854775808≤x) (h1:x<9223372036854775808+8) (h:x<0∨8≤x):wrap64 x<0∨8≤wrap64 x:=by
 unfold wrap64;omega
theorem off_wrapped (s f r:Int) (h0:0≤s) (h1:s<64) (wf:(Lit.int .i64 f).wf=true) (wr:(Lit.int .i64 r).wf=true) (h:s % 8+f<0∨8≤s % 8+f∨s / 8+r<0∨8≤s / 8+r) :
  wrap64 (s % 8+f)<0∨8≤wrap64 (s % 8+f)∨wrap64 (s / 8+r)<0∨8≤wrap64 (s / 8+r):=by
 have bf:=bounds_i64 wf
 have br:=bounds_i64 wr
 by_cases hx:s % 8+f<0∨8≤s % 8+f
 ·rcases wrap_off _ (by omega) (by omega) hx with g|g
  ·exact .inl g
  ·exact .inr (.inl g)
 ·rcases wrap_off (s / 8+r) (by omega) (by omega) (by omega) with g|g
  ·exact .inr (.inr (.inl g))
  ·exact .inr (.inr (.inr g))
theorem step_no (s f r:Int) (w:World) (h0:0≤s) (h1:s<64) (wf:(Lit.int .i64 f).wf=true) (wr:(Lit.int .i64 r).wf=true) (h:s % 8+f<0∨8≤s % 8+f∨s / 8+r<0∨8≤s / 8+r) :
  Calls Tryz.prog 139 #[.int .i64 s,.int .i64 f,.int .i64 r] w fun e w'=>e=.returned (.tuple #[.int .i64 0,.bool false])∧w=w':=by
 have H:=Qh (off_wrapped s f r h0 h1 wf wr h)
 clear wf wr h
 go_enter Tryz.func139,Tryz.ntmps139
 go_wp2_with (first|(go_at_call 47;refine (right_yes _ _ (by omega) (by omega)).mono ?_;rintro e w' ⟨rfl,rfl⟩)|(go_at_call 90;refine (file_yes _ _ (by omega) (by omega)).mono ?_;rintro e w' ⟨rfl,rfl⟩)|(go_at_call 91;refine (rank_yes _ _ (by omega) (by omega)).mono ?_;rintro e w' ⟨rfl,rfl⟩))
 refine (at_no _ _ _ H.out).mono ?_
 rintro e w' ⟨rfl,rfl⟩
 go_wp2
 go_ret2
 exact ⟨rfl,rfl⟩

def farI (a b:Int):Int:=max (max (a % 8-b % 8) (b % 8-a % 8)) (max (a / 8-b / 8) (b / 8-a / 8))
theorem far_yes (a b:Int) (w:World) (a0:0≤a) (a1:a<64) (b0:0≤b) (b1:b<64) :
  Calls Tryz.prog 96 #[.int .i64 a,.int .i64 b] w fun e w'=>e=.returned (.int .i64 (farI a b))∧w=w':=by
 go_enter Tryz.func96,Tryz.ntmps96
 go_wp2_with (first|(go_at_call 47;refine (right_yes _ _ (by omega) (by omega)).mono ?_;rintro e w' ⟨rfl,rfl⟩)|(go_at_call 90;refine (file_yes _ _ (by omega) (by omega)).mono ?_;rintro e w' ⟨rfl,rfl⟩)|(go_at_call 91;refine (rank_yes _ _ (by omega) (by omega)).mono ?_;rintro e w' ⟨rfl,rfl⟩)|(go_at_call 135;refine (gap_is _ _ _ (by omega) (by omega) (by omega) (by omega)).mono ?_;rintro e w' ⟨rfl,rfl⟩))
 all_goals
  go_ret
  exact ⟨ret_int (by unfold farI;omega),rfl⟩
theorem far_no (a b:Int) (w:World) (h:a<0∨64≤a∨b<0∨64≤b) :
  Calls Tryz.prog 96 #[.int .i64 a,.int .i64 b] w fun e w'=>e=.returned (.int .i64 (-1))∧w=w':=by
 by_cases ha:a<0∨64≤a
 ·go_enter Tryz.func96,Tryz.ntmps96
  go_wp2_with (go_at_call 47;refine (right_no _ _ ha).mono ?_;rintro e w' ⟨rfl,rfl⟩)
  go_ret
  exact ⟨rfl,rfl⟩
 ·have a0:0≤a:=by omega
  have a1:a<64:=by omega
  have hb:b<0∨64≤b:=by omega
  clear ha h
  go_enter Tryz.func96,Tryz.ntmps96
  go_wp2_with fail
  refine (right_yes _ _ (by omega) (by omega)).mono ?_
  rintro e w' ⟨rfl,rfl⟩
  go_wp2_with fail
  refine (right_no _ _ hb).mono ?_
  rintro e w' ⟨rfl,rfl⟩
  go_wp2
  go_ret
  exact ⟨rfl,rfl⟩
theorem rfar_yes (a b:Int) (w:World) (a0:0≤a) (a1:a<64) (b0:0≤b) (b1:b<64) :
  Calls Tryz.prog 28 #[.int .i64 a,.int .i64 b] w fun e w'=>e=.returned (.int .i64 (farI a b))∧w=w':=by
 go_enter Tryz.func28,Tryz.ntmps28
 go_wp2_with (first|(go_at_call 59;refine (rright_yes _ _ (by omega) (by omega)).mono ?_;rintro e w' ⟨rfl,rfl⟩)|(go_at_call 60;refine (rfile_yes _ _ (by omega) (by omega)).mono ?_;rintro e w' ⟨rfl,rfl⟩)|(go_at_call 61;refine (rrank_yes _ _ (by omega) (by omega)).mono ?_;rintro e w' ⟨rfl,rfl⟩))
 all_goals
  go_ret
  exact ⟨ret_int (by unfold farI;omega),rfl⟩
theorem rfar_no (a b:Int) (w:World) (h:a<0∨64≤a∨b<0∨64≤b) :
  Calls Tryz.prog 28 #[.int .i64 a,.int .i64 b] w fun e w'=>e=.returned (.int .i64 (-1))∧w=w':=by
 by_cases ha:a<0∨64≤a
 ·go_enter Tryz.func28,Tryz.ntmps28
  go_wp2_with (go_at_call 59;refine (rright_no _ _ ha).mono ?_;rintro e w' ⟨rfl,rfl⟩)
  go_ret
  exact ⟨rfl,rfl⟩
 ·have a0:0≤a:=by omega
  have a1:a<64:=by omega
  have hb:b<0∨64≤b:=by omega
  clear ha h
  go_enter Tryz.func28,Tryz.ntmps28
  go_wp2_with fail
  refine (rright_yes _ _ (by omega) (by omega)).mono ?_
  rintro e w' ⟨rfl,rfl⟩
  go_wp2_with fail
  refine (rright_no _ _ hb).mono ?_
  rintro e w' ⟨rfl,rfl⟩
  go_wp2
  go_ret
  exact ⟨rfl,rfl⟩
def nameOf (s:Int):ByteArray:=⟨#[(97+(s % 8).toNat).toUInt8,(49+(s / 8).toNat).toUInt8]⟩
theorem runes_name (n:Nat) (h:n<64):runesBytes [97+(n:Int) % 8,49+(n:Int) / 8]=nameOf n:=by
 have:∀ m:Fin 64,runesBytes [97+((m:Nat):Int) % 8,49+((m:Nat):Int) / 8]=nameOf ((m:Nat):Int):=by decide +kernel
 exact this ⟨n,h⟩
theorem cut_name (n:Nat) (h:n<64):(⟨#[97,98,99,100,101,102,103,104]⟩:ByteArray).extract ((n:Int) % 8).toNat ((n:Int) % 8+1).toNat++(⟨#[49,50,51,52,53,54,55,56]⟩:ByteArray).extract ((n:Int) / 8).toNat ((n:Int) / 8+1).toNat=nameOf n:=by
 have:∀ m:Fin 64,(⟨#[97,98,99,100,101,102,103,104]⟩:ByteArray).extract (((m:Nat):Int) % 8).toNat (((m:Nat):Int) % 8+1).toNat++(⟨#[49,50,51,52,53,54,55,56]⟩:ByteArray).extract (((m:Nat):Int) / 8).toNat (((m:Nat):Int) / 8+1).toNat=nameOf ((m:Nat):Int):=by decide +kernel
 exact this ⟨n,h⟩

theorem cut_name' (s:Int) (h0:0≤s) (h1:s<64):(⟨#[97,98,99,100,101,102,103,104]⟩:ByteArray).extract (s % 8).toNat (s % 8+1).toNat++(⟨#[49,50,51,52,53,54,55,56]⟩:ByteArray).extract (s / 8).toNat (s / 8+1).toNat=nameOf s:=by
 obtain ⟨n,rfl⟩:=Int.eq_ofNat_of_zero_le h0
 exact cut_name n (by omega)

theorem conv_name (s:Int) (h0:0≤s) (h1:s<64) (w:World) :
  (convert 113 9 (.slice (some ⟨w.heap.size,0,none⟩) 2 2)).run Tryz.prog (w.alloc (.cells #[.int .i32 (97+s % 8),.int .i32 (49+s / 8)] 21))=.ok (.string (nameOf s)) (w.alloc (.cells #[.int .i32 (97+s % 8),.int .i32 (49+s / 8)] 21)):=by
 obtain ⟨n,rfl⟩:=Int.eq_ofNat_of_zero_le h0
 rw [run_convert_runes _ 113 9 21 _ 2 2 [97+(n:Int) % 8,49+(n:Int) / 8] (by simp) Tryz.underlying113 Tryz.underlying21 Tryz.underlying9 ?_]
 ·rw [← runes_name n (by omega)];rfl
 ·intro j hj
  match j,hj with
  | 0,_=>simp [Addr.add,go_sem]
  | 1,_=>simp [Addr.add,go_sem]
theorem name_yes (s:Int) (w:World) (h0:0≤s) (h1:s<64) :
  Calls Tryz.prog 51 #[.int .i64 s] w fun e w'=>e=.returned (.string (nameOf s))∧w'=w.alloc (.cells #[.int .i32 (97+s % 8),.int .i32 (49+s / 8)] 21):=by
 have hc:=conv_name s h0 h1 w
 go_enter Tryz.func51,Tryz.ntmps51
 go_wp2_with (first|(go_at_call 47;refine (right_yes _ _ (by omega) (by omega)).mono ?_;rintro e w' ⟨rfl,rfl⟩)|(go_at_call 90;refine (file_yes _ _ (by omega) (by omega)).mono ?_;rintro e w' ⟨rfl,rfl⟩)|(go_at_call 91;refine (rank_yes _ _ (by omega) (by omega)).mono ?_;rintro e w' ⟨rfl,rfl⟩))
 go_ret
 exact ⟨rfl,rfl⟩
theorem rname_yes (s:Int) (w:World) (h0:0≤s) (h1:s<64) :
  Calls Tryz.prog 25 #[.int .i64 s] w fun e w'=>e=.returned (.string (nameOf s))∧∃ n,w'=w.drewN n:=by
 have e1:IntKind.i64.wrap (s % 8+1)=s % 8+1:=IntWalk.i64_in _ (by omega)
 have e2:IntKind.i64.wrap (s / 8+1)=s / 8+1:=IntWalk.i64_in _ (by omega)
 have b1:0≤s % 8:=by omega
 have b2:s % 8≤s % 8+1:=by omega
 have b3:s % 8+1≤8:=by omega
 have c1:0≤s / 8:=by omega
 have c2:s / 8≤s / 8+1:=by omega
 have c3:s / 8+1≤8:=by omega
 go_enter Tryz.func25,Tryz.ntmps25
 go_wp2_with (first|(go_at_call 59;refine (rright_yes _ _ (by omega) (by omega)).mono ?_;rintro e w' ⟨rfl,rfl⟩)|(go_at_call 60;refine (rfile_yes _ _ (by omega) (by omega)).mono ?_;rintro e w' ⟨rfl,rfl⟩)|(go_at_call 61;refine (rrank_yes _ _ (by omega) (by omega)).mono ?_;rintro e w' ⟨rfl,rfl⟩))
 go_quiet (fail)
 go_wp2
 go_ret
 exact ⟨congrArg (fun b=>Ending.returned (.string b)) (cut_name' s h0 h1),nq,rfl⟩

theorem name_grown (s:Int) (w:World) (h0:0≤s) (h1:s<64) :
  Calls Tryz.prog 51 #[.int .i64 s] w fun e w'=>e=.returned (.string (nameOf s))∧Grown w w' :=
 (name_yes s w h0 h1).mono fun _ _ ⟨he,hw⟩=>⟨he,by rw [hw];exact (Grown.refl _).alloc _ _⟩
end Go.Proofs.YtlbipjmmlobofaaGreatDoor
