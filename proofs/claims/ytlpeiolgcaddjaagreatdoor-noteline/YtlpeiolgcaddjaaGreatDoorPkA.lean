/- Base · SqA · SqB · MeA · MeO · Kp · BoA · BoB · BoC · BoD · BoE · BoF · BoG · BoH · BoI · BoJ · BoK: my texts, in their order. -/
import Derived.Test.YtlpeiolgcaddjaaGreatDoorRows
import Derived.WalkKit
import Derived.ProofKit
import Derived.OpenShut
import Derived.LoopTactic
import Derived.WalkLawsBesides
import Derived.Outline
import Derived.Lib.Hide
import Derived.Deep.QuietTactic
import Derived.BigQuiet
import Derived.Laws.Cover4
import Derived.WalkSpells
import Derived.Laws.RangeAny
import Derived.IntWalk
import Derived.Below
import Derived.Deep.Draws
import Derived.Laws.AppendOwn
import Derived.ChangeSame
import Derived.Deep.RegionHeld3
import Derived.Deep.WholeRow
import Derived.Deep.MidRow
import Derived.Deep.AppendLies
import Derived.OwnWalk
import Derived.ChangeKeysEq
namespace Go.Proofs.YtlpeiolgcaddjaaGreatDoor
open Go.RowKit
set_option linter.unusedVariables false
theorem Qh {p:Prop} (h:p):Hid p:=h

theorem Ys {k:IntKind} {a b:Int} (h:a=b):Ending.returned (.int k a)=.returned (.int k b):=by rw [h]
theorem frozen_alloc_iter (w:World) (s:ByteArray) (p:Nat) (a:Addr):(w.iter s p).frozen? a=w.frozen? a:=by
 by_cases h:a.block=w.heap.size
 ·have e1:(w.iter s p).heap[a.block]?=some (.stringIter s p):=by rw [h];exact World.iter_heap w s p
  have e2:w.heap[a.block]?=none:=by rw [h];simp
  simp [World.frozen?,e1,e2]
 ·exact World.frozen?_alloc_old _ _ _ h
theorem kept_iter (w:World) (s:ByteArray) (p:Nat):w.keptBut (w.iter s p) (fun _=>False):=by
 refine ⟨rfl,rfl,fun i hi=>?_⟩
 have e:(w.iter s p).heap[i]?=w.heap[i]?:=by
  show (w.heap.push _)[i]?=_;rw [Array.getElem?_push,if_neg (by omega)]
 rw [e];split <;> simp_all
theorem grown_iter (w:World) (s:ByteArray) (p:Nat):Grown w (w.iter s p) :=
 ⟨kept_iter w s p,fun a=>frozen_alloc_iter w s p a,by show w.heap.size≤(w.heap.push _).size;simp⟩
theorem Yc {w:World} {i:Nat} {o:Obj} (h:w.heap[i]?=some o):i<w.heap.size:=by
 obtain ⟨h,_⟩:=Array.getElem?_eq_some_iff.1 h;exact h
theorem Qaf (s:Int) (w:World) (h0:0≤s) (h1:s<64) :
  Calls Tryz.prog 70 #[.int .i64 s] w fun e w'=>e=.returned (.bool true)∧w=w':=by
 go_enter Tryz.func70,Tryz.ntmps70;go_wp2;go_ret;exact ⟨rfl,rfl⟩
theorem right_no (s:Int) (w:World) (h:s<0∨64≤s) :
  Calls Tryz.prog 70 #[.int .i64 s] w fun e w'=>e=.returned (.bool false)∧w=w':=by
 rcases h with h|h
 ·go_enter Tryz.func70,Tryz.ntmps70
  go_wp2;go_ret;exact ⟨rfl,rfl⟩
 ·have h0:0≤s:=by omega
  have hb:decide (s<64)=false:=by simp;omega
  go_enter Tryz.func70,Tryz.ntmps70;go_wp2;go_ret;exact ⟨rfl,rfl⟩

theorem Qay (s:Int) (w:World) (h0:0≤s) (h1:s<64) :
  Calls Tryz.prog 76 #[.int .i64 s] w fun e w'=>e=.returned (.bool true)∧w=w':=by
 have h2:s≤63:=by omega
 go_enter Tryz.func76,Tryz.ntmps76;go_wp2;go_ret;exact ⟨rfl,rfl⟩
theorem rright_no (s:Int) (w:World) (h:s<0∨64≤s) :
  Calls Tryz.prog 76 #[.int .i64 s] w fun e w'=>e=.returned (.bool false)∧w=w':=by
 rcases h with h|h
 ·go_enter Tryz.func76,Tryz.ntmps76
  go_wp2;go_ret;exact ⟨rfl,rfl⟩
 ·have h0:0≤s:=by omega
  have hb:decide (s≤63)=false:=by simp;omega
  go_enter Tryz.func76,Tryz.ntmps76;go_wp2;go_ret;exact ⟨rfl,rfl⟩

theorem Qal (s:Int) (w:World) (h0:0≤s) (h1:s<64) :
  Calls Tryz.prog 71 #[.int .i64 s] w fun e w'=>e=.returned (.int .i64 (s % 8))∧w=w':=by
 go_enter Tryz.func71,Tryz.ntmps71;go_wp2_with (go_at_call 70;refine (Qaf _ _ (by omega) (by omega)).mono ?_;rintro e w' ⟨rfl,rfl⟩)
 go_ret;exact ⟨rfl,rfl⟩
theorem Ja (s:Int) (w:World) (h0:0≤s) (h1:s<64) :
  Calls Tryz.prog 72 #[.int .i64 s] w fun e w'=>e=.returned (.int .i64 (s / 8))∧w=w':=by
 go_enter Tryz.func72,Tryz.ntmps72;go_wp2_with (go_at_call 70;refine (Qaf _ _ (by omega) (by omega)).mono ?_;rintro e w' ⟨rfl,rfl⟩)
 go_ret;exact ⟨rfl,rfl⟩
theorem rank_no (s:Int) (w:World) (h:s<0∨64≤s) :
  Calls Tryz.prog 72 #[.int .i64 s] w fun e w'=>e=.returned (.int .i64 (-1))∧w=w':=by
 go_enter Tryz.func72,Tryz.ntmps72;go_wp2_with (go_at_call 70;refine (right_no _ _ h).mono ?_;rintro e w' ⟨rfl,rfl⟩)
 go_ret;exact ⟨rfl,rfl⟩


theorem rfile_yes (s:Int) (w:World) (h0:0≤s) (h1:s<64) :
  Calls Tryz.prog 77 #[.int .i64 s] w fun e w'=>e=.returned (.int .i64 (s % 8))∧w=w':=by
 go_enter Tryz.func77,Tryz.ntmps77;go_wp2_with (go_at_call 76;refine (Qay _ _ (by omega) (by omega)).mono ?_;rintro e w' ⟨rfl,rfl⟩)
 go_loop [0] (fun t=>∃ y:Int,0≤y∧y<64∧y % 8=s % 8∧t=.int .i64 y) (fun t=>(intOf t).toNat)
 case atStart=>exact ⟨s,h0,h1,rfl,rfl⟩
 case round =>
  obtain ⟨y,hy0,hy1,hy2,rfl⟩:=hrel;have H:=Qh hy2;clear hy2;by_cases hlt:8≤y
  ·go_wp2
   go_round
   case rel=>exact ⟨y-8,by omega,by omega,by have:=H.out;omega,rfl⟩
   case measure=>simp [intOf];omega
  ·go_wp2
   go_ret;exact ⟨Ys (by have:=H.out;omega),rfl⟩
theorem Yo (s:Int) (w:World) (h0:0≤s) (h1:s<64) :
  Calls Tryz.prog 78 #[.int .i64 s] w fun e w'=>e=.returned (.int .i64 (s / 8))∧w=w':=by
 go_enter Tryz.func78,Tryz.ntmps78;go_wp2_with (go_at_call 76;refine (Qay _ _ (by omega) (by omega)).mono ?_;rintro e w' ⟨rfl,rfl⟩)
 go_loop [0,3] (fun t r=>∃ y n:Int,0≤y∧y<64∧0≤n∧n<9∧y / 8+n=s / 8∧t=.int .i64 y∧r=.int .i64 n) (fun t _=>(intOf t).toNat)
 case atStart=>exact ⟨s,0,h0,h1,by omega,by omega,by omega,rfl,rfl⟩
 case round =>
  obtain ⟨y,n,hy0,hy1,hn0,hn1,hy2,rfl,rfl⟩:=hrel;have H:=Qh hy2;clear hy2;by_cases hlt:8≤y
  ·go_wp2
   go_round
   case rel=>exact ⟨y-8,n+1,by omega,by omega,by omega,by have:=H.out;omega,by have:=H.out;omega,rfl,rfl⟩
   case measure=>simp [intOf];omega
  ·go_wp2
   go_ret;exact ⟨Ys (by have:=H.out;omega),rfl⟩
theorem onEdge_yes (s:Int) (w:World) (h0:0≤s) (h1:s<8) :
  Calls Tryz.prog 196 #[.int .i64 s] w fun e w'=>e=.returned (.bool true)∧w=w':=by
 go_enter Tryz.func196,Tryz.ntmps196;go_wp2;go_ret;exact ⟨rfl,rfl⟩
theorem onEdge_no (s:Int) (w:World) (h:s<0∨8≤s) :
  Calls Tryz.prog 196 #[.int .i64 s] w fun e w'=>e=.returned (.bool false)∧w=w':=by
 rcases h with h|h
 ·go_enter Tryz.func196,Tryz.ntmps196
  go_wp2;go_ret;exact ⟨rfl,rfl⟩
 ·have h0:0≤s:=by omega
  have hb:decide (s<8)=false:=by simp;omega
  go_enter Tryz.func196,Tryz.ntmps196;go_wp2;go_ret;exact ⟨rfl,rfl⟩
theorem at_yes (f r:Int) (w:World) (f0:0≤f) (f1:f<8) (r0:0≤r) (r1:r<8) :
  Calls Tryz.prog 175 #[.int .i64 f,.int .i64 r] w fun e w'=>e=.returned (.tuple #[.int .i64 (r*8+f),.bool true])∧w=w':=by
 go_enter Tryz.func175,Tryz.ntmps175;go_wp2_with (go_at_call 196;refine (onEdge_yes _ _ (by omega) (by omega)).mono ?_;rintro e w' ⟨rfl,rfl⟩)
 go_ret2;exact ⟨rfl,rfl⟩
theorem at_no (f r:Int) (w:World) (h:f<0∨8≤f∨r<0∨8≤r) :
  Calls Tryz.prog 175 #[.int .i64 f,.int .i64 r] w fun e w'=>e=.returned (.tuple #[.int .i64 0,.bool false])∧w=w':=by
 by_cases hf:f<0∨8≤f
 ·go_enter Tryz.func175,Tryz.ntmps175
  go_wp2_with (go_at_call 196;refine (onEdge_no _ _ hf).mono ?_;rintro e w' ⟨rfl,rfl⟩)
  go_ret2;exact ⟨rfl,rfl⟩
 ·have f0:0≤f:=by omega
  have f1:f<8:=by omega
  have hr:r<0∨8≤r:=by omega
  clear hf h;go_enter Tryz.func175,Tryz.ntmps175;go_wp2_with fail
  refine (onEdge_yes _ _ (by omega) (by omega)).mono ?_;rintro e w' ⟨rfl,rfl⟩;go_wp2_with fail
  refine (onEdge_no _ _ hr).mono ?_;rintro e w' ⟨rfl,rfl⟩;go_wp2;go_ret2;exact ⟨rfl,rfl⟩
theorem gap_is (a b:Int) (w:World) (a0:0≤a) (a1:a<8) (b0:0≤b) (b1:b<8) :
  Calls Tryz.prog 147 #[.int .i64 a,.int .i64 b] w fun e w'=>e=.returned (.int .i64 (max (a-b) (b-a)))∧w=w':=by
 by_cases h:a<b
 ·go_enter Tryz.func147,Tryz.ntmps147
  go_wp2;go_ret;exact ⟨Ys (by omega),rfl⟩
 ·go_enter Tryz.func147,Tryz.ntmps147
  go_wp2;go_ret;exact ⟨Ys (by omega),rfl⟩
theorem rstep_yes (s f r:Int) (w:World) (h0:0≤s) (h1:s<64) (f0:0≤s % 8+f) (f1:s % 8+f<8) (r0:0≤s / 8+r) (r1:s / 8+r<8) :
  Calls Tryz.prog 174 #[.int .i64 s,.int .i64 f,.int .i64 r] w fun e w'=>e=.returned (.int .i64 ((s / 8+r)*8+(s % 8+f)))∧w=w':=by
 go_enter Tryz.func174,Tryz.ntmps174;go_wp2_with (go_at_call 76;refine (Qay _ _ (by omega) (by omega)).mono ?_;rintro e w' ⟨rfl,rfl⟩)
 go_loop [7] (fun t=>∃ k:Int,0≤k∧k≤(s / 8+r)*8+(s % 8+f)∧t=.int .i64 k) (fun t=>(64-intOf t).toNat)
 case atStart=>exact ⟨0,by omega,by omega,rfl⟩
 case round =>
  obtain ⟨k,hk0,hk1,rfl⟩:=hrel;have hk2:k<64:=by omega
  by_cases hf:k % 8-s % 8=f
  ·have b1:(k % 8-s % 8 == f)=true:=beq_iff_eq.2 hf
   by_cases hr:k / 8-s / 8=r
   ·have b2:(k / 8-s / 8 == r)=true:=beq_iff_eq.2 hr
    have H:=Qh (show k=(s / 8+r)*8+(s % 8+f) by omega);clear hf hr;go_wp2_with (first|(go_at_call 77;refine (rfile_yes _ _ (by omega) (by omega)).mono ?_;rintro e w' ⟨rfl,rfl⟩)|(go_at_call 78;refine (Yo _ _ (by omega) (by omega)).mono ?_;rintro e w' ⟨rfl,rfl⟩))
    go_ret;exact ⟨Ys H.out,rfl⟩
   ·have b2:(k / 8-s / 8 == r)=false:=beq_eq_false_iff_ne.2 hr
    have hk3:k<(s / 8+r)*8+(s % 8+f):=by omega
    clear hf hr;go_wp2_with (first|(go_at_call 77;refine (rfile_yes _ _ (by omega) (by omega)).mono ?_;rintro e w' ⟨rfl,rfl⟩)|(go_at_call 78;refine (Yo _ _ (by omega) (by omega)).mono ?_;rintro e w' ⟨rfl,rfl⟩))
    go_round
    case rel=>exact ⟨k+1,by omega,by omega,rfl⟩
    case measure=>simp [intOf];omega
  ·have b1:(k % 8-s % 8 == f)=false:=beq_eq_false_iff_ne.2 hf
   have hk3:k<(s / 8+r)*8+(s % 8+f):=by omega
   clear hf;go_wp2_with (first|(go_at_call 77;refine (rfile_yes _ _ (by omega) (by omega)).mono ?_;rintro e w' ⟨rfl,rfl⟩)|(go_at_call 78;refine (Yo _ _ (by omega) (by omega)).mono ?_;rintro e w' ⟨rfl,rfl⟩))
   go_round
   case rel=>exact ⟨k+1,by omega,by omega,rfl⟩
   case measure=>simp [intOf];omega
theorem rstep_no (s f r:Int) (w:World) (h0:0≤s) (h1:s<64) (h:s % 8+f<0∨8≤s % 8+f∨s / 8+r<0∨8≤s / 8+r) :
  Calls Tryz.prog 174 #[.int .i64 s,.int .i64 f,.int .i64 r] w fun e w'=>e=.returned (.int .i64 (-1))∧w=w':=by
 go_enter Tryz.func174,Tryz.ntmps174;go_wp2_with (go_at_call 76;refine (Qay _ _ (by omega) (by omega)).mono ?_;rintro e w' ⟨rfl,rfl⟩)
 go_loop [7] (fun t=>∃ k:Int,0≤k∧k≤64∧t=.int .i64 k) (fun t=>(64-intOf t).toNat)
 case atStart=>exact ⟨0,by omega,by omega,rfl⟩
 case round =>
  obtain ⟨k,hk0,hk1,rfl⟩:=hrel;by_cases hk2:k<64
  ·by_cases hf:k % 8-s % 8=f
   ·have b1:(k % 8-s % 8 == f)=true:=beq_iff_eq.2 hf
    have b2:(k / 8-s / 8 == r)=false:=beq_eq_false_iff_ne.2 (by omega);clear hf;go_wp2_with (first|(go_at_call 77;refine (rfile_yes _ _ (by omega) (by omega)).mono ?_;rintro e w' ⟨rfl,rfl⟩)|(go_at_call 78;refine (Yo _ _ (by omega) (by omega)).mono ?_;rintro e w' ⟨rfl,rfl⟩))
    go_round
    case rel=>exact ⟨k+1,by omega,by omega,rfl⟩
    case measure=>simp [intOf];omega
   ·have b1:(k % 8-s % 8 == f)=false:=beq_eq_false_iff_ne.2 hf
    clear hf;go_wp2_with (first|(go_at_call 77;refine (rfile_yes _ _ (by omega) (by omega)).mono ?_;rintro e w' ⟨rfl,rfl⟩)|(go_at_call 78;refine (Yo _ _ (by omega) (by omega)).mono ?_;rintro e w' ⟨rfl,rfl⟩))
    go_round
    case rel=>exact ⟨k+1,by omega,by omega,rfl⟩
    case measure=>simp [intOf];omega
  ·go_wp2
   go_ret;exact ⟨rfl,rfl⟩
theorem rstep_off (s f r:Int) (w:World) (h:s<0∨64≤s) :
  Calls Tryz.prog 174 #[.int .i64 s,.int .i64 f,.int .i64 r] w fun e w'=>e=.returned (.int .i64 (-1))∧w=w':=by
 go_enter Tryz.func174,Tryz.ntmps174;go_wp2_with (go_at_call 76;refine (rright_no _ _ h).mono ?_;rintro e w' ⟨rfl,rfl⟩)
 go_ret;exact ⟨rfl,rfl⟩

theorem step_yes (s f r:Int) (w:World) (h0:0≤s) (h1:s<64) (f0:0≤s % 8+f) (f1:s % 8+f<8) (r0:0≤s / 8+r) (r1:s / 8+r<8) :
  Calls Tryz.prog 158 #[.int .i64 s,.int .i64 f,.int .i64 r] w fun e w'=>e=.returned (.tuple #[.int .i64 ((s / 8+r)*8+(s % 8+f)),.bool true])∧w=w':=by
 go_enter Tryz.func158,Tryz.ntmps158;go_wp2_with (first|(go_at_call 70;refine (Qaf _ _ (by omega) (by omega)).mono ?_;rintro e w' ⟨rfl,rfl⟩)|(go_at_call 71;refine (Qal _ _ (by omega) (by omega)).mono ?_;rintro e w' ⟨rfl,rfl⟩)|(go_at_call 72;refine (Ja _ _ (by omega) (by omega)).mono ?_;rintro e w' ⟨rfl,rfl⟩)|(go_at_call 175;refine (at_yes _ _ _ (by omega) (by omega) (by omega) (by omega)).mono ?_;rintro e w' ⟨rfl,rfl⟩))
 go_ret2;exact ⟨rfl,rfl⟩
theorem step_off (s f r:Int) (w:World) (h:s<0∨64≤s) :
  Calls Tryz.prog 158 #[.int .i64 s,.int .i64 f,.int .i64 r] w fun e w'=>e=.returned (.tuple #[.int .i64 0,.bool false])∧w=w':=by
 go_enter Tryz.func158,Tryz.ntmps158;go_wp2_with (go_at_call 70;refine (right_no _ _ h).mono ?_;rintro e w' ⟨rfl,rfl⟩)
 go_ret2;exact ⟨rfl,rfl⟩
theorem wrap_off (x:Int) (h0:-9223372036854775808≤x) (h1:x<9223372036854775808+8) (h:x<0∨8≤x):wrap64 x<0∨8≤wrap64 x:=by
 unfold wrap64;omega
theorem off_wrapped (s f r:Int) (h0:0≤s) (h1:s<64) (wf:(Lit.int .i64 f).wf=true) (wr:(Lit.int .i64 r).wf=true) (h:s % 8+f<0∨8≤s % 8+f∨s / 8+r<0∨8≤s / 8+r) :
  wrap64 (s % 8+f)<0∨8≤wrap64 (s % 8+f)∨wrap64 (s / 8+r)<0∨8≤wrap64 (s / 8+r):=by
 have bf:=bounds_i64 wf;have br:=bounds_i64 wr;by_cases hx:s % 8+f<0∨8≤s % 8+f
 ·rcases wrap_off _ (by omega) (by omega) hx with g|g
  ·exact .inl g
  ·exact .inr (.inl g)
 ·rcases wrap_off (s / 8+r) (by omega) (by omega) (by omega) with g|g
  ·exact .inr (.inr (.inl g))
  ·exact .inr (.inr (.inr g))
theorem step_no (s f r:Int) (w:World) (h0:0≤s) (h1:s<64) (wf:(Lit.int .i64 f).wf=true) (wr:(Lit.int .i64 r).wf=true) (h:s % 8+f<0∨8≤s % 8+f∨s / 8+r<0∨8≤s / 8+r) :
  Calls Tryz.prog 158 #[.int .i64 s,.int .i64 f,.int .i64 r] w fun e w'=>e=.returned (.tuple #[.int .i64 0,.bool false])∧w=w':=by
 have H:=Qh (off_wrapped s f r h0 h1 wf wr h);clear wf wr h;go_enter Tryz.func158,Tryz.ntmps158;go_wp2_with (first|(go_at_call 70;refine (Qaf _ _ (by omega) (by omega)).mono ?_;rintro e w' ⟨rfl,rfl⟩)|(go_at_call 71;refine (Qal _ _ (by omega) (by omega)).mono ?_;rintro e w' ⟨rfl,rfl⟩)|(go_at_call 72;refine (Ja _ _ (by omega) (by omega)).mono ?_;rintro e w' ⟨rfl,rfl⟩))
 refine (at_no _ _ _ H.out).mono ?_;rintro e w' ⟨rfl,rfl⟩;go_wp2;go_ret2;exact ⟨rfl,rfl⟩

def farI (a b:Int):Int:=max (max (a % 8-b % 8) (b % 8-a % 8)) (max (a / 8-b / 8) (b / 8-a / 8))
theorem far_yes (a b:Int) (w:World) (a0:0≤a) (a1:a<64) (b0:0≤b) (b1:b<64) :
  Calls Tryz.prog 109 #[.int .i64 a,.int .i64 b] w fun e w'=>e=.returned (.int .i64 (farI a b))∧w=w':=by
 go_enter Tryz.func109,Tryz.ntmps109;go_wp2_with (first|(go_at_call 70;refine (Qaf _ _ (by omega) (by omega)).mono ?_;rintro e w' ⟨rfl,rfl⟩)|(go_at_call 71;refine (Qal _ _ (by omega) (by omega)).mono ?_;rintro e w' ⟨rfl,rfl⟩)|(go_at_call 72;refine (Ja _ _ (by omega) (by omega)).mono ?_;rintro e w' ⟨rfl,rfl⟩)|(go_at_call 147;refine (gap_is _ _ _ (by omega) (by omega) (by omega) (by omega)).mono ?_;rintro e w' ⟨rfl,rfl⟩))
 all_goals
  go_ret;exact ⟨Ys (by unfold farI;omega),rfl⟩
theorem far_no (a b:Int) (w:World) (h:a<0∨64≤a∨b<0∨64≤b) :
  Calls Tryz.prog 109 #[.int .i64 a,.int .i64 b] w fun e w'=>e=.returned (.int .i64 (-1))∧w=w':=by
 by_cases ha:a<0∨64≤a
 ·go_enter Tryz.func109,Tryz.ntmps109
  go_wp2_with (go_at_call 70;refine (right_no _ _ ha).mono ?_;rintro e w' ⟨rfl,rfl⟩)
  go_ret;exact ⟨rfl,rfl⟩
 ·have a0:0≤a:=by omega
  have a1:a<64:=by omega
  have hb:b<0∨64≤b:=by omega
  clear ha h;go_enter Tryz.func109,Tryz.ntmps109;go_wp2_with fail
  refine (Qaf _ _ (by omega) (by omega)).mono ?_;rintro e w' ⟨rfl,rfl⟩;go_wp2_with fail
  refine (right_no _ _ hb).mono ?_;rintro e w' ⟨rfl,rfl⟩;go_wp2;go_ret;exact ⟨rfl,rfl⟩
theorem rfar_yes (a b:Int) (w:World) (a0:0≤a) (a1:a<64) (b0:0≤b) (b1:b<64) :
  Calls Tryz.prog 31 #[.int .i64 a,.int .i64 b] w fun e w'=>e=.returned (.int .i64 (farI a b))∧w=w':=by
 go_enter Tryz.func31,Tryz.ntmps31;go_wp2_with (first|(go_at_call 76;refine (Qay _ _ (by omega) (by omega)).mono ?_;rintro e w' ⟨rfl,rfl⟩)|(go_at_call 77;refine (rfile_yes _ _ (by omega) (by omega)).mono ?_;rintro e w' ⟨rfl,rfl⟩)|(go_at_call 78;refine (Yo _ _ (by omega) (by omega)).mono ?_;rintro e w' ⟨rfl,rfl⟩))
 all_goals
  go_ret;exact ⟨Ys (by unfold farI;omega),rfl⟩
theorem rfar_no (a b:Int) (w:World) (h:a<0∨64≤a∨b<0∨64≤b) :
  Calls Tryz.prog 31 #[.int .i64 a,.int .i64 b] w fun e w'=>e=.returned (.int .i64 (-1))∧w=w':=by
 by_cases ha:a<0∨64≤a
 ·go_enter Tryz.func31,Tryz.ntmps31
  go_wp2_with (go_at_call 76;refine (rright_no _ _ ha).mono ?_;rintro e w' ⟨rfl,rfl⟩)
  go_ret;exact ⟨rfl,rfl⟩
 ·have a0:0≤a:=by omega
  have a1:a<64:=by omega
  have hb:b<0∨64≤b:=by omega
  clear ha h;go_enter Tryz.func31,Tryz.ntmps31;go_wp2_with fail
  refine (Qay _ _ (by omega) (by omega)).mono ?_;rintro e w' ⟨rfl,rfl⟩;go_wp2_with fail
  refine (rright_no _ _ hb).mono ?_;rintro e w' ⟨rfl,rfl⟩;go_wp2;go_ret;exact ⟨rfl,rfl⟩
theorem mright_yes (m:Int) (w:World) (h0:m≠0) (h1:-6≤m) (h2:m≤6) :
  Calls Tryz.prog 153 #[.int .i64 m] w fun e w'=>e=.returned (.bool true)∧w=w':=by
 have b0:(m != 0)=true:=bne_iff_ne.2 h0;have b1:(m == 0)=false:=beq_eq_false_iff_ne.2 h0;go_enter Tryz.func153,Tryz.ntmps153;go_wp2;go_ret;exact ⟨rfl,rfl⟩
theorem mright_no (m:Int) (w:World) (h:m < -6∨m=0∨6<m) :
  Calls Tryz.prog 153 #[.int .i64 m] w fun e w'=>e=.returned (.bool false)∧w=w':=by
 rcases h with h|h|h
 ·have b0:(m != 0)=true:=bne_iff_ne.2 (by omega)
  have b1:decide (-6≤m)=false:=by simp;omega
  go_enter Tryz.func153,Tryz.ntmps153;go_wp2;go_ret;exact ⟨rfl,rfl⟩
 ·subst h
  go_enter Tryz.func153,Tryz.ntmps153;go_wp2;go_ret;exact ⟨rfl,rfl⟩
 ·have b0:(m != 0)=true:=bne_iff_ne.2 (by omega)
  have b1:-6≤m:=by omega
  have b2:decide (m≤6)=false:=by simp;omega
  go_enter Tryz.func153,Tryz.ntmps153;go_wp2;go_ret;exact ⟨rfl,rfl⟩
theorem mkind_no (m:Int) (w:World) (h:m < -6∨m=0∨6<m) :
  Calls Tryz.prog 120 #[.int .i64 m] w fun e w'=>e=.returned (.int .i64 0)∧w=w':=by
 go_enter Tryz.func120,Tryz.ntmps120;go_wp2_with fail
 refine (mright_no _ _ h).mono ?_;rintro e w' ⟨rfl,rfl⟩;go_wp2;go_ret;exact ⟨rfl,rfl⟩
theorem mkind_w (m:Int) (w:World) (h0:0<m) (h1:m≤6) :
  Calls Tryz.prog 120 #[.int .i64 m] w fun e w'=>e=.returned (.int .i64 m)∧w=w':=by
 go_enter Tryz.func120,Tryz.ntmps120;go_wp2_with fail
 refine (mright_yes _ _ (by omega) (by omega) (by omega)).mono ?_;rintro e w' ⟨rfl,rfl⟩;go_wp2;go_ret;exact ⟨Ys (by omega),rfl⟩
theorem mkind_b (m:Int) (w:World) (h0:m<0) (h1:-6≤m) :
  Calls Tryz.prog 120 #[.int .i64 m] w fun e w'=>e=.returned (.int .i64 (-m))∧w=w':=by
 go_enter Tryz.func120,Tryz.ntmps120;go_wp2_with fail
 refine (mright_yes _ _ (by omega) (by omega) (by omega)).mono ?_;rintro e w' ⟨rfl,rfl⟩;go_wp2;go_ret;exact ⟨Ys (by omega),rfl⟩
theorem mside_no (m:Int) (w:World) (h:m < -6∨m=0∨6<m) :
  Calls Tryz.prog 132 #[.int .i64 m] w fun e w'=>e=.returned (.int .i64 (-1))∧w=w':=by
 go_enter Tryz.func132,Tryz.ntmps132;go_wp2_with fail
 refine (mright_no _ _ h).mono ?_;rintro e w' ⟨rfl,rfl⟩;go_wp2;go_ret;exact ⟨rfl,rfl⟩
theorem mside_w (m:Int) (w:World) (h0:0<m) (h1:m≤6) :
  Calls Tryz.prog 132 #[.int .i64 m] w fun e w'=>e=.returned (.int .i64 0)∧w=w':=by
 go_enter Tryz.func132,Tryz.ntmps132;go_wp2_with fail
 refine (mright_yes _ _ (by omega) (by omega) (by omega)).mono ?_;rintro e w' ⟨rfl,rfl⟩;go_wp2;go_ret;exact ⟨rfl,rfl⟩
theorem mside_b (m:Int) (w:World) (h0:m<0) (h1:-6≤m) :
  Calls Tryz.prog 132 #[.int .i64 m] w fun e w'=>e=.returned (.int .i64 1)∧w=w':=by
 go_enter Tryz.func132,Tryz.ntmps132;go_wp2_with fail
 refine (mright_yes _ _ (by omega) (by omega) (by omega)).mono ?_;rintro e w' ⟨rfl,rfl⟩;go_wp2;go_ret;exact ⟨rfl,rfl⟩
theorem make_noside (k s:Int) (w:World) (h1:1≤k) (h6:k≤6) (h:s≠0) (h':s≠1) :
  Calls Tryz.prog 136 #[.int .i64 k,.int .i64 s] w fun e w'=>e=.returned (.int .i64 0)∧w=w':=by
 have b:decide (k<1)=false:=by simp;omega
 have b':decide (6<k)=false:=by simp;omega
 have c:(s == 0)=false:=beq_eq_false_iff_ne.2 h;have c':(s == 1)=false:=beq_eq_false_iff_ne.2 h';clear h h';go_enter Tryz.func136,Tryz.ntmps136;go_wp2;go_ret;exact ⟨rfl,rfl⟩
theorem make_w (k:Int) (w:World) (h1:1≤k) (h6:k≤6) :
  Calls Tryz.prog 136 #[.int .i64 k,.int .i64 0] w fun e w'=>e=.returned (.int .i64 k)∧w=w':=by
 have b:decide (k<1)=false:=by simp;omega
 have b':decide (6<k)=false:=by simp;omega
 go_enter Tryz.func136,Tryz.ntmps136;go_wp2;go_ret;exact ⟨rfl,rfl⟩
theorem make_b (k:Int) (w:World) (h1:1≤k) (h6:k≤6) :
  Calls Tryz.prog 136 #[.int .i64 k,.int .i64 1] w fun e w'=>e=.returned (.int .i64 (-k))∧w=w':=by
 have b:decide (k<1)=false:=by simp;omega
 have b':decide (6<k)=false:=by simp;omega
 go_enter Tryz.func136,Tryz.ntmps136;go_wp2;go_ret;exact ⟨rfl,rfl⟩
def inOrd (n:Nat):Int:=if n<6 then 6-(n:Int) else (n:Int)-12
theorem inOrder_is (n:Nat) (w:World) (h:n<12) :
  Calls Tryz.prog 195 #[.int .i64 n] w fun e w'=>e=.returned (.int .i64 (inOrd n))∧w=w':=by
 by_cases h6:n<6
 ·have e1:(n:Int) / 6=0:=by omega
  have e2:(n:Int) % 6=n:=by omega
  go_enter Tryz.func195,Tryz.ntmps195;go_wp2_with fail
  refine (make_w _ _ (by omega) (by omega)).mono ?_;rintro e w' ⟨rfl,rfl⟩;go_wp2;go_ret;exact ⟨Ys (by simp [inOrd,h6]),rfl⟩
 ·have e1:(n:Int) / 6=1:=by omega
  have e2:(n:Int) % 6=n-6:=by omega
  go_enter Tryz.func195,Tryz.ntmps195;go_wp2_with fail
  refine (make_b _ _ (by omega) (by omega)).mono ?_;rintro e w' ⟨rfl,rfl⟩;go_wp2;go_ret;exact ⟨Ys (by simp only [inOrd,h6,if_false];omega),rfl⟩
theorem rkind_no (m:Int) (w:World) (h:m < -6∨m=0∨6<m) :
  Calls Tryz.prog 83 #[.int .i64 m] w fun e w'=>e=.returned (.int .i64 0)∧w=w':=by
 have H:=Qh h;clear h;go_enter Tryz.func83,Tryz.ntmps83;go_wp2
 go_loop [3] (fun t=>∃ k:Int,1≤k∧k≤7∧t=.int .i64 k) (fun t=>7-(intOf t).toNat)
 case atStart=>exact ⟨1,by omega,by omega,rfl⟩
 case round =>
  obtain ⟨k,h1,h7,rfl⟩:=hrel;by_cases hk:k≤6
  ·have b1:(m == k)=false:=beq_eq_false_iff_ne.2 (by have:=H.out;omega)
   have b2:(m == 0-k)=false:=beq_eq_false_iff_ne.2 (by have:=H.out;omega);have b3:(m == -k)=false:=beq_eq_false_iff_ne.2 (by have:=H.out;omega);go_wp2
   go_round
   case rel=>exact ⟨k+1,by omega,by omega,rfl⟩
   case measure=>simp [intOf];omega
  ·go_wp2
   go_ret;exact ⟨rfl,rfl⟩
theorem rkind_yes (m q:Int) (w:World) (h:m=q∨m=-q) (h1:1≤q) (h6:q≤6) :
  Calls Tryz.prog 83 #[.int .i64 m] w fun e w'=>e=.returned (.int .i64 q)∧w=w':=by
 have H:=Qh h;clear h;go_enter Tryz.func83,Tryz.ntmps83;go_wp2
 go_loop [3] (fun t=>∃ k:Int,1≤k∧k≤q∧t=.int .i64 k) (fun t=>7-(intOf t).toNat)
 case atStart=>exact ⟨1,by omega,by omega,rfl⟩
 case round =>
  obtain ⟨k,h1,h7,rfl⟩:=hrel;by_cases hk:k=q
  ·subst hk
   rcases H.out with h|h
   ·subst h
    go_wp2;go_ret;exact ⟨rfl,rfl⟩
   ·have b1:(m == k)=false:=beq_eq_false_iff_ne.2 (by omega)
    have b2:(m == 0-k)=true:=beq_iff_eq.2 (by omega);have b3:(m == -k)=true:=beq_iff_eq.2 (by omega);clear h;go_wp2;go_ret;exact ⟨rfl,rfl⟩
  ·have b1:(m == k)=false:=beq_eq_false_iff_ne.2 (by have:=H.out;omega)
   have b2:(m == 0-k)=false:=beq_eq_false_iff_ne.2 (by have:=H.out;omega);have b3:(m == -k)=false:=beq_eq_false_iff_ne.2 (by have:=H.out;omega);have hlt:k<q:=by omega
   clear hk;go_wp2
   go_round
   case rel=>exact ⟨k+1,by omega,by omega,rfl⟩
   case measure=>simp [intOf];omega
theorem other_w (w:World):Calls Tryz.prog 96 #[.int .i64 0] w fun e w'=>e=.returned (.int .i64 1)∧w=w':=by
 go_enter Tryz.func96,Tryz.ntmps96;go_wp2;go_ret;exact ⟨rfl,rfl⟩
theorem other_b (w:World):Calls Tryz.prog 96 #[.int .i64 1] w fun e w'=>e=.returned (.int .i64 0)∧w=w':=by
 go_enter Tryz.func96,Tryz.ntmps96;go_wp2;go_ret;exact ⟨rfl,rfl⟩
theorem other_no (s:Int) (w:World) (h0:s≠0) (h1:s≠1):Calls Tryz.prog 96 #[.int .i64 s] w fun e w'=>e=.returned (.int .i64 (-1))∧w=w':=by
 have b0:(s == 0)=false:=beq_eq_false_iff_ne.2 h0;have b1:(s == 1)=false:=beq_eq_false_iff_ne.2 h1;clear h0 h1;go_enter Tryz.func96,Tryz.ntmps96;go_wp2;go_ret;exact ⟨rfl,rfl⟩
structure Kept (w w':World):Prop where
 os:w'.os=w.os
 output:w'.output=w.output
 size:w.heap.size≤w'.heap.size
 block:∀ k,k<w.heap.size→w'.heap[k]?=w.heap[k]?
theorem Kept.refl (w:World):Kept w w:=⟨rfl,rfl,Nat.le_refl _,fun _ _=>rfl⟩
theorem Kept.trans {a b c:World} (h:Kept a b) (k:Kept b c):Kept a c :=
 ⟨k.os.trans h.os,k.output.trans h.output,Nat.le_trans h.size k.size,fun i hi=>(k.block i (Nat.lt_of_lt_of_le hi h.size)).trans (h.block i hi)⟩
theorem Kept.alloc {a w:World} (h:Kept a w) (o:Obj):Kept a (w.alloc o) :=
 h.trans ⟨rfl,rfl,by simp,fun k hk=>Below.heap_alloc _ _ _ hk⟩
theorem Kept.setCell {a w:World} (h:Kept a w) {p:Addr} (hp:a.heap.size≤p.block) (u:Value):Kept a (w.setCell p u) :=
 ⟨h.os,h.output,by simpa [World.setCell] using h.size,fun k hk=>(Below.heap_setCell w p u k (by omega)).trans (h.block k hk)⟩
theorem Kept.drew {a w:World} (h:Kept a w):Kept a w.drew:=⟨h.os,h.output,h.size,h.block⟩
theorem Kept.drewN {a w:World} (h:Kept a w) (n:Nat):Kept a (w.drewN n):=⟨h.os,h.output,h.size,h.block⟩
theorem Kept.grownBy {a w w':World} {row:Option Nat} (h:Kept a w) (hg:w.grownBy w' row) (hr:∀ k,row=some k→a.heap.size≤k):Kept a w' :=
 ⟨hg.os.trans h.os,hg.output.trans h.output,Nat.le_trans h.size hg.size,fun k hk=>(hg.block k (Nat.lt_of_lt_of_le hk h.size) (fun e=>by have:=hr k e.symm;omega)).trans (h.block k hk)⟩
theorem Kept.of_grown {a w:World} (g:Grown a w):Kept a w:=by
 refine ⟨g.1.1,g.1.2.1,g.2.2,fun k hk=>?_⟩;have hb:=g.1.2.2 k hk;split at hb
 ·next c t fr c' t' fr' h1 h2 =>
  obtain ⟨rfl,rfl,hs,hc⟩:=hb;rw [h1,h2];have:c'=c:=Array.ext_getElem? fun j=>hc j (fun f=>f)
  rw [this]
 ·next es clock es' clock' h1 h2 =>
  rcases hb with hb|⟨rfl,rfl⟩
  ·exact hb.elim
  ·rw [h1,h2]
 ·exact hb
theorem Kept.frame {W w':World} (h:Kept W w') (may:MemPlace→Prop):W.keptBut w' may:=by
 refine ⟨h.os,h.output,fun i hi=>?_⟩;rw [h.block i hi];split <;> simp_all
theorem Kept.heap {a w:World} (h:Kept a w) {g:Nat} {o:Obj} (hg:a.heap[g]?=some o):w.heap[g]?=some o :=
 (h.block g (Yc hg)).trans hg
theorem post_kept {H:Type} {enc:TypeId × Value→H} {P:Program} {f:Func} {s:ChangeSpec} {W W':World} {args:Array Value} {v:Value} {ds gs:List (DataW H)} {before pa pv:List MemPlace}
  (hW:DataW.Whole enc P f.params.toList s.vars false W args.toList ds gs before)
  (hres:DataW.TrodAll enc P W' W.heap.size (fun _=>false) false f.resultTypes.toList (v.resultList f.resultTypes.size) (s.fn H (ds++gs)).results [])
  (hargs:DataW.TrodAll enc P W' 0 (fun b=>decide (b<W.heap.size)) true f.params.toList args.toList (s.fn H (ds++gs)).args pa)
  (hvars:DataW.TrodVars enc P W' (fun b=>decide (b<W.heap.size)) s.vars (s.fn H (ds++gs)).vars pv)
  (hk:Kept W W'):s.post enc P f false true false false W args v W' :=
 ⟨ds,gs,before,[],pa,pv,hW,hres,hargs,hvars,hk.frame _,fun h=>by cases h⟩
theorem Qa {w w':World} (k:Kept w w') {a:Addr} {v:Value} (h:w.cell? a=some v):w'.cell? a=some v :=
 (World.cell?_of_block (k.block a.block (World.block_lt_of_cell? w a h))).trans h
theorem rg_take {P:Program} {ops:Array Oper} {Q:Exit→Act→World→Prop} {md:Region.Mode} {S:World→Prop} {i:Nat} {oi:Oper} {v:Value} {fuel:Nat} {listed:Array Bool} {a:Act} {w:World} (dst:Option Tmp)
  (hi:ops[i]?=some oi) (hd:oi.dst=dst) (hs:Region.noSelect ops=true) (hf:Region.free md ops listed i=true) (hr:(Region.ready md ops listed).contains i=true)
  (hQ:∀ c a w,Q (.panic c) (a.put dst v) w→Q (.panic c) a w) (hy:YieldsIf P ops S oi v a) (hS:S w)
  (h:wpAnyH P md ops Q S fuel (listed.setIfInBounds i true) (a.put dst v) w):wpAnyH P md ops Q S (fuel+1) listed a w:=by
 subst hd;exact wpAnyH_take hi hs hf hr hQ hy hS h
theorem Qah {P:Program} {f:FuncId} {args:Array Value} {w:World} {n:Nat} {v:Value}
  (h:Calls P f args (w.drewN n) fun e w'=>e=.returned v∧w.drewN n=w'):Calls P f args (w.drewN n) fun e w''=>e=.returned v∧∃ m,w''=w.drewN m :=
 h.mono fun _ _ ⟨he,hm⟩=>⟨he,n,hm.symm⟩
section
variable {P:Program} {ops:Array Oper} {Q:Exit→Act→World→Prop} {md:Region.Mode} {S:World→Prop} {oi:Oper} {v:Value} {fuel:Nat} {listed:Array Bool} {a:Act} {w:World}
theorem rY (i:Nat) (d:Tmp) (hi:ops[i]?=some oi) (hd:oi.dst=some d) (hy:YieldsIf P ops S oi v a) (hS:S w)
  (h:wpAnyH P md ops Q S fuel (listed.setIfInBounds i true) (a.put (some d) v) w) (hs:Region.noSelect ops=true:=by kernel_rfl) (hf:Region.free md ops listed i=true:=by kernel_rfl) (hr:(Region.ready md ops listed).contains i=true:=by kernel_rfl)
  (hQ:∀ c a w,Q (.panic c) (a.put (some d) v) w→Q (.panic c) a w:=by exact fun _ _ _ h=>h):wpAnyH P md ops Q S (fuel+1) listed a w :=
 rg_take (some d) hi hd hs hf hr hQ hy hS h
theorem rT (i:Nat) (d:Tmp) (v:Value) (hi:ops[i]?=some oi) (hd:oi.dst=some d) (hS:S w)
  (h:wpAnyH P md ops Q S fuel (listed.setIfInBounds i true) (a.put (some d) v) w) (hs:Region.noSelect ops=true:=by kernel_rfl) (hf:Region.free md ops listed i=true:=by kernel_rfl) (hr:(Region.ready md ops listed).contains i=true:=by kernel_rfl)
  (hQ:∀ c a w,Q (.panic c) (a.put (some d) v) w→Q (.panic c) a w:=by exact fun _ _ _ h=>h)
  (hw:Region.wanted oi (yielded ops a.tmps)=true:=by rfl) (hy:∀ w,S w→(execOp a.eval oi).run P w=.ok (.value v) w:=by intro _ _;go_simp):wpAnyH P md ops Q S (fuel+1) listed a w :=
 rg_take (some d) hi hd hs hf hr hQ (.inl ⟨hw,hy⟩) hS h
theorem rC (i:Nat) (d:Tmp) (v:Value) (hi:ops[i]?=some oi) (hd:oi.dst=some d) {A:Addr} {u:Value} (hc:∀ w,S w→w.cell? A=some u) (hS:S w)
  (h:wpAnyH P md ops Q S fuel (listed.setIfInBounds i true) (a.put (some d) v) w) (hs:Region.noSelect ops=true:=by kernel_rfl) (hf:Region.free md ops listed i=true:=by kernel_rfl) (hr:(Region.ready md ops listed).contains i=true:=by kernel_rfl)
  (hQ:∀ c a w,Q (.panic c) (a.put (some d) v) w→Q (.panic c) a w:=by exact fun _ _ _ h=>h)
  (hw:Region.wanted oi (yielded ops a.tmps)=true:=by rfl) (hy:∀ w,w.cell? A=some u→(execOp a.eval oi).run P w=.ok (.value v) w:=by intro _ h';go_simp):wpAnyH P md ops Q S (fuel+1) listed a w :=
 rg_take (some d) hi hd hs hf hr hQ (.inl ⟨hw,fun w hS=>hy w (hc w hS)⟩) hS h
theorem rN (i:Nat) (d:Tmp) (hi:ops[i]?=some oi) (hd:oi.dst=some d) (hS:S w)
  (h:wpAnyH P md ops Q S fuel (listed.setIfInBounds i true) (a.put (some d) undef) w) (hs:Region.noSelect ops=true:=by kernel_rfl) (hf:Region.free md ops listed i=true:=by kernel_rfl) (hr:(Region.ready md ops listed).contains i=true:=by kernel_rfl)
  (hQ:∀ c a w,Q (.panic c) (a.put (some d) undef) w→Q (.panic c) a w:=by exact fun _ _ _ h=>h)
  (hw:Region.wanted oi (yielded ops a.tmps)=false:=by rfl):wpAnyH P md ops Q S (fuel+1) listed a w :=
 rg_take (some d) hi hd hs hf hr hQ (.inr ⟨hw,rfl⟩) hS h
theorem rR (i:Nat) (ho:ops[i]?=some oi)
  (h:∀ K':Act→World→Prop,Shut (∀ a w,S w→(S w→wpAnyH P md ops Q S fuel (listed.setIfInBounds i true) a w)→K' a w)→if Region.wanted oi (yielded ops a.tmps)=true then Oper.wp P oi a w K' Q else K' (a.put oi.dst undef) w)
  (hr:Region.ready md ops listed=[i]:=by kernel_rfl):wpAnyH P md ops Q S (fuel+1) listed a w :=
 wpAnyH_ready hr (by simp) (AllReadyH.cons ho h AllReadyH.nil)
end
theorem pA (l:List Value) (ds:List Deferred) (d:Nat) (v:Value):Act.put ⟨l.toArray,ds⟩ (some d) v=⟨(l.set d v).toArray,ds⟩:=by simp [Act.put]
theorem pN (a:Act) (v:Value):a.put none v=a:=rfl
theorem sZ (x y:Value) (l:List Value):(x::l).set 0 y=y::l:=rfl
theorem sU (x y:Value) (l:List Value) (n:Nat):(x::l).set (n+1) y=x::l.set n y:=rfl
set_option maxRecDepth 100000
def cl (B:List Int):List Value:=B.map (Value.int .i8)
theorem Yp (B:List Int):(cl B).length=B.length:=by simp [cl]
theorem cl_get (B:List Int) (i:Nat) (h:i<B.length):(cl B)[i]?=some (.int .i8 (B.getD i 0)):=by
 simp [cl,List.getD,List.getElem?_eq_getElem h]
theorem cl_set (B:List Int) (i:Nat) (x:Int):(cl B).set i (.int .i8 x)=cl (B.set i x):=by
 simp [cl,List.map_set]
def Brd (B:List Int):Prop:=B.length=64∧∀ i,i<64→-128≤B.getD i 0∧B.getD i 0≤127
theorem size24:(Tryz.prog.info? 24).map (·.size)=some 64:=by kernel_rfl
theorem info22:(Tryz.prog.info? 22).map (fun i=>(i.zero,i.size))=some (some (.int .i8 0),1):=by kernel_rfl
theorem cells22:Tryz.prog.cellsOf 22=1:=by kernel_rfl
theorem cells24:Tryz.prog.cellsOf 24=64:=by kernel_rfl
theorem run_index_cl (B:List Int) (hB:B.length=64) (k:Nat) (hk:k<64) (w:World) :
  (Instr.index 24 (.agg (cl B).toArray) (.int .i64 k)).run Tryz.prog w=.ok (.int .i8 (B.getD k 0)) w:=by
 have h1:(0:Int)≤(k:Int)∧(k:Int)<((64:Nat):Int):=by omega
 have h2:=cl_get B k (by omega)
 have hs:(sizeOf 22).run Tryz.prog w=.ok 1 w:=by
  cases hq:Tryz.prog.info? 22 with
  | none=>have:=info22;simp [hq] at this
  | some i=>have:=info22;simp [hq] at this;simp [sizeOf,typeInfo,hq,this.2]
 simp only [Instr.index,asIntOf,Sem.run_bind,Sem.run_pure,Result.andThen_ok,run_underlying Tryz.underlying24,if_pos h1,hs];simp [part,isAgg,run_underlying Tryz.underlying22,h2]
theorem Jf {B:List Int} (hB:B.length=64):(Tryz.prog.info? 24).map (·.size)=some (cl B).toArray.size:=by rw [size24];simp [Yp,hB]
theorem Qf {ops:Array Oper} {rest:List Oper} {o:Oper} {a:Act} {w:World} {Q:Exit→Act→World→Prop} (hw:Region.wanted o (yielded ops a.tmps)=true) (x:Operand) (ho:o.op=.load 24 x)
  (g:Nat) (hx:a.eval x=.pointer (some ⟨g,0,none⟩)) (B:List Int) (hg:w.heap[g]?=some (.cells (cl B).toArray 24 (0,0)))
  (hi:(Tryz.prog.info? 24).map (·.size)=some (cl B).toArray.size)
  (h:wpList Tryz.prog ops Q rest (a.put o.dst (.agg (cl B).toArray)) w):wpList Tryz.prog ops Q (o::rest) a w :=
 wpList_step fun _ hK=>by
  rw [if_pos hw];exact wp_load_row 24 x ho g hx _ _ (0,0) _ hg Tryz.underlying24 rfl hi (hK _ _ h)
theorem man_yes (B:List Int) (hB:Brd B) (k:Nat) (hk:k<64) (w:World) :
  Calls Tryz.prog 121 #[.agg (cl B).toArray,.int .i64 k] w fun e w'=>e=.returned (.int .i64 (B.getD k 0))∧Kept w w':=by
 have hc:(w.alloc (.cells (cl B).toArray 24)).cell? ⟨w.heap.size,k,none⟩=some (.int .i8 (B.getD k 0)):=by
  rw [cell_of_row _ _ k _ _ (0,0) (heap_alloc_new w _)];simpa using cl_get B k (by rw [hB.1];exact hk)
 obtain ⟨hb1,hb2⟩:=hB.2 k hk;clear hB;generalize B.getD k 0=x at *;go_enter Tryz.func121,Tryz.ntmps121;go_wp2_with fail
 refine (Qaf _ _ (by omega) (by omega)).mono ?_;rintro e w' ⟨rfl,rfl⟩;go_wp2;go_ret;exact ⟨rfl,(Kept.refl _).alloc _⟩
theorem man_no (B:List Int) (s:Int) (h:s<0∨64≤s) (w:World) :
  Calls Tryz.prog 121 #[.agg (cl B).toArray,.int .i64 s] w fun e w'=>e=.returned (.int .i64 0)∧Kept w w':=by
 go_enter Tryz.func121,Tryz.ntmps121;go_wp2_with fail
 refine (right_no _ _ h).mono ?_;rintro e w' ⟨rfl,rfl⟩;go_wp2;go_ret;exact ⟨rfl,(Kept.refl _).alloc _⟩
def manB (x:Int):Bool:=x != 0 && decide (-6≤x) && decide (x≤6)
def kindI (x:Int):Int:=if manB x then (if 0<x then x else -x) else 0
def sideI (x:Int):Int:=if manB x then (if 0<x then 0 else 1) else -1
theorem Jk (x:Int):manB x=true↔x≠0∧-6≤x∧x≤6:=by simp [manB,and_assoc]
theorem manB_not (x:Int):manB x=false↔x < -6∨x=0∨6<x:=by
 rw [← Bool.not_eq_true,Jk];omega
theorem mright_any (m:Int) (w:World) :
  Calls Tryz.prog 153 #[.int .i64 m] w fun e w'=>e=.returned (.bool (manB m))∧w=w':=by
 by_cases h:manB m=true
 ·have:=(Jk m).1 h
  rw [h];exact mright_yes m w this.1 this.2.1 this.2.2
 ·have h':manB m=false:=by simpa using h
  rw [h'];exact mright_no m w ((manB_not m).1 h')
theorem Qar (m:Int) (w:World) :
  Calls Tryz.prog 120 #[.int .i64 m] w fun e w'=>e=.returned (.int .i64 (kindI m))∧w=w':=by
 unfold kindI;by_cases h:manB m=true
 ·have:=(Jk m).1 h
  rw [if_pos h];by_cases h0:0<m
  ·rw [if_pos h0];exact mkind_w m w h0 this.2.2
  ·rw [if_neg h0];exact mkind_b m w (by omega) this.2.1
 ·rw [if_neg h];exact mkind_no m w ((manB_not m).1 (by simpa using h))
theorem mside_any (m:Int) (w:World) :
  Calls Tryz.prog 132 #[.int .i64 m] w fun e w'=>e=.returned (.int .i64 (sideI m))∧w=w':=by
 unfold sideI;by_cases h:manB m=true
 ·have:=(Jk m).1 h
  rw [if_pos h];by_cases h0:0<m
  ·rw [if_pos h0];exact mside_w m w h0 this.2.2
  ·rw [if_neg h0];exact mside_b m w (by omega) this.2.1
 ·rw [if_neg h];exact mside_no m w ((manB_not m).1 (by simpa using h))
theorem rkind_any (m:Int) (w:World) :
  Calls Tryz.prog 83 #[.int .i64 m] w fun e w'=>e=.returned (.int .i64 (kindI m))∧w=w':=by
 unfold kindI;by_cases h:manB m=true
 ·have:=(Jk m).1 h
  rw [if_pos h];by_cases h0:0<m
  ·rw [if_pos h0];exact rkind_yes m m w (.inl rfl) (by omega) this.2.2
  ·rw [if_neg h0];exact rkind_yes m (-m) w (.inr (by omega)) (by omega) (by omega)
 ·rw [if_neg h];exact rkind_no m w ((manB_not m).1 (by simpa using h))
theorem kindI_one (x:Int):(kindI x == 1)=(x == 1 || x == -1):=by
 rw [Bool.eq_iff_iff];simp only [beq_iff_eq,Bool.or_eq_true];unfold kindI;by_cases h:manB x=true
 ·rw [if_pos h];split <;> omega
 ·rw [if_neg h];have:=(manB_not x).1 (by simpa using h);omega
def edge (B:List Int) (i:Nat):Bool:=(kindI (B.getD i 0) == 1) && (((i:Int) / 8 == 0) || ((i:Int) / 8 == 7))
theorem pawnAtEdge_no (B:List Int) (hB:Brd B) (he:∀ i,i<64→edge B i=false) (w:World) :
  Calls Tryz.prog 126 #[.agg (cl B).toArray] w fun e w'=>e=.returned (.bool false)∧Kept w w':=by
 have H:=Qh hB;have HE:=Qh he;have hz:=Qh (Jf hB.1);clear hB he;go_enter Tryz.func126,Tryz.ntmps126;go_wp2_with (refine Qf (by rfl) _ rfl _ rfl _ (heap_alloc_new w _) hz.out ?_)
 go_loop [7] (fun t=>∃ k:Nat,k≤64∧t=.int .i64 k) (fun t=>64-(intOf t).toNat)
 case atStart=>exact ⟨0,by omega,rfl⟩
 case round =>
  obtain ⟨k,hk,rfl⟩:=hrel;by_cases hlt:k<64
  ·have hx:=run_index_cl B H.out.1 k hlt
   obtain ⟨hb1,hb2⟩:=H.out.2 k hlt;have he:=HE.out k hlt;unfold edge at he;generalize B.getD k 0=x at *;by_cases hp:(kindI x == 1)=true
   ·rw [hp,Bool.true_and,Bool.or_eq_false_iff] at he
    obtain ⟨e1,e2⟩:=he;go_wp2_with fail
    refine (Ja _ _ (by omega) (by omega)).mono ?_;rintro e w' ⟨rfl,rfl⟩;go_wp2_with fail
    refine (Qar _ _).mono ?_;rintro e w' ⟨rfl,rfl⟩;go_wp2
    go_round
    case rel=>exact ⟨k+1,by omega,by go_num⟩
    case measure=>simp [intOf];omega
   ·have hp':(kindI x == 1)=false:=by simpa using hp
    clear he hp;go_wp2_with fail
    refine (Ja _ _ (by omega) (by omega)).mono ?_;rintro e w' ⟨rfl,rfl⟩;go_wp2_with fail
    refine (Qar _ _).mono ?_;rintro e w' ⟨rfl,rfl⟩;go_wp2
    go_round
    case rel=>exact ⟨k+1,by omega,by go_num⟩
    case measure=>simp [intOf];omega
  ·go_wp2
   go_ret;exact ⟨rfl,(Kept.refl _).alloc _⟩
theorem pawnAtEdge_yes (B:List Int) (hB:Brd B) (n:Nat) (hn:n<64) (he:edge B n=true) (hf:∀ i,i<n→edge B i=false) (w:World) :
  Calls Tryz.prog 126 #[.agg (cl B).toArray] w fun e w'=>e=.returned (.bool true)∧Kept w w':=by
 have H:=Qh hB;have HF:=Qh hf;have HE:=Qh he;have hz:=Qh (Jf hB.1);clear hB he hf;go_enter Tryz.func126,Tryz.ntmps126;go_wp2_with (refine Qf (by rfl) _ rfl _ rfl _ (heap_alloc_new w _) hz.out ?_)
 go_loop [7] (fun t=>∃ k:Nat,k≤n∧t=.int .i64 k) (fun t=>64-(intOf t).toNat)
 case atStart=>exact ⟨0,by omega,rfl⟩
 case round =>
  obtain ⟨k,hk,rfl⟩:=hrel;have hlt:k<64:=by omega
  have hx:=run_index_cl B H.out.1 k hlt;obtain ⟨hb1,hb2⟩:=H.out.2 k hlt;by_cases hkn:k=n
  ·subst hkn
   have he:=HE.out;unfold edge at he;generalize B.getD k 0=x at *;rw [Bool.and_eq_true] at he;obtain ⟨hp,he⟩:=he;by_cases h0:((k:Int) / 8 == 0)=true
   ·clear he
    go_wp2_with fail
    refine (Ja _ _ (by omega) (by omega)).mono ?_;rintro e w' ⟨rfl,rfl⟩;go_wp2_with fail
    refine (Qar _ _).mono ?_;rintro e w' ⟨rfl,rfl⟩;go_wp2;go_ret;exact ⟨rfl,(Kept.refl _).alloc _⟩
   ·have h0':((k:Int) / 8 == 0)=false:=by simpa using h0
    rw [h0',Bool.false_or] at he;clear h0;go_wp2_with fail
    refine (Ja _ _ (by omega) (by omega)).mono ?_;rintro e w' ⟨rfl,rfl⟩;go_wp2_with fail
    refine (Qar _ _).mono ?_;rintro e w' ⟨rfl,rfl⟩;go_wp2;go_ret;exact ⟨rfl,(Kept.refl _).alloc _⟩
  ·have he:=HF.out k (by omega)
   have hkn':k<n:=by omega
   clear hkn;unfold edge at he;generalize B.getD k 0=x at *;by_cases hp:(kindI x == 1)=true
   ·rw [hp,Bool.true_and,Bool.or_eq_false_iff] at he
    obtain ⟨e1,e2⟩:=he;go_wp2_with fail
    refine (Ja _ _ (by omega) (by omega)).mono ?_;rintro e w' ⟨rfl,rfl⟩;go_wp2_with fail
    refine (Qar _ _).mono ?_;rintro e w' ⟨rfl,rfl⟩;go_wp2
    go_round
    case rel=>exact ⟨k+1,by omega,by go_num⟩
    case measure=>simp [intOf];omega
   ·have hp':(kindI x == 1)=false:=by simpa using hp
    clear he hp;go_wp2_with fail
    refine (Ja _ _ (by omega) (by omega)).mono ?_;rintro e w' ⟨rfl,rfl⟩;go_wp2_with fail
    refine (Qar _ _).mono ?_;rintro e w' ⟨rfl,rfl⟩;go_wp2
    go_round
    case rel=>exact ⟨k+1,by omega,by go_num⟩
    case measure=>simp [intOf];omega
def sel (p:Nat→Bool) (n:Nat):List Nat:=(List.range n).filter p
theorem sel_yes {p:Nat→Bool} {n:Nat} (h:p n=true):sel p (n+1)=sel p n++[n]:=by
 simp [sel,List.range_succ,List.filter_append,h]
theorem sel_no {p:Nat→Bool} {n:Nat} (h:p n=false):sel p (n+1)=sel p n:=by
 simp [sel,List.range_succ,List.filter_append,h]
theorem sel_le (p:Nat→Bool) (n:Nat):(sel p n).length≤n:=by
 have:=List.length_filter_le p (List.range n);simpa [sel] using this
def cnt (p:Nat→Bool) (n:Nat):Nat:=(sel p n).length
theorem cnt_yes {p:Nat→Bool} {n:Nat} (h:p n=true):cnt p (n+1)=cnt p n+1:=by simp [cnt,sel_yes h]
theorem cnt_no {p:Nat→Bool} {n:Nat} (h:p n=false):cnt p (n+1)=cnt p n:=by simp [cnt,sel_no h]
theorem cnt_le (p:Nat→Bool) (n:Nat):cnt p n≤n:=sel_le p n
def hit (kind side x:Int):Bool:=manB x && (sideI x == side) && (kind == 0 || kindI x == kind)
def many (B:List Int) (kind side:Int):Nat:=cnt (fun i=>hit kind side (B.getD i 0)) 64
theorem many_is (B:List Int) (hB:Brd B) (kind side:Int) (w:World) :
  Calls Tryz.prog 125 #[.agg (cl B).toArray,.int .i64 kind,.int .i64 side] w fun e w'=>e=.returned (.int .i64 (many B kind side:Nat))∧Kept w w':=by
 have H:=Qh hB;have hz:=Qh (Jf hB.1);clear hB;obtain ⟨p,hp⟩:∃ p,p=fun i=>hit kind side (B.getD i 0):=⟨_,rfl⟩
 have HM:Hid (many B kind side=cnt p 64):=by rw [hp];rfl
 have HP:=Qh hp;clear hp;go_enter Tryz.func125,Tryz.ntmps125;go_wp2_with (refine Qf (by rfl) _ rfl _ rfl _ (heap_alloc_new w _) hz.out ?_)
 go_loop [7,12] (fun n i=>∃ k:Nat,k≤64∧i=.int .i64 k∧n=.int .i64 (cnt p k:Nat)) (fun _ i=>64-(intOf i).toNat)
 case atStart=>exact ⟨0,by omega,rfl,rfl⟩
 case round =>
  obtain ⟨k,hk,rfl,rfl⟩:=hrel;have hc:=cnt_le p k;by_cases hlt:k<64
  ·have hx:=run_index_cl B H.out.1 k hlt
   obtain ⟨hb1,hb2⟩:=H.out.2 k hlt;obtain ⟨x,ex⟩:∃ x,x=B.getD k 0:=⟨_,rfl⟩;rw [← ex] at hx hb1 hb2;have hq:Hid (p k=hit kind side x):=by rw [ex,HP.out];rfl
   clear ex;by_cases h1:manB x=true
   ·by_cases h2:(sideI x == side)=true
    ·by_cases h3:(kind == 0)=true
     ·have HQ:Hid (p k=true):=by rw [hq.out];unfold hit;rw [h1,h2,h3];rfl
      go_wp2_with fail
      refine (mright_any _ _).mono ?_;rintro e w' ⟨rfl,rfl⟩;go_wp2_with fail
      refine (mside_any _ _).mono ?_;rintro e w' ⟨rfl,rfl⟩;go_wp2
      go_round
      case rel=>exact ⟨k+1,by omega,by go_num,by rw [cnt_yes HQ.out];go_num⟩
      case measure=>simp [intOf];omega
     ·have h3':(kind == 0)=false:=by simpa using h3
      clear h3;by_cases h4:(kindI x == kind)=true
      ·have HQ:Hid (p k=true):=by rw [hq.out];unfold hit;rw [h1,h2,h3',h4];rfl
       go_wp2_with fail
       refine (mright_any _ _).mono ?_;rintro e w' ⟨rfl,rfl⟩;go_wp2_with fail
       refine (mside_any _ _).mono ?_;rintro e w' ⟨rfl,rfl⟩;go_wp2_with fail
       refine (Qar _ _).mono ?_;rintro e w' ⟨rfl,rfl⟩;go_wp2
       go_round
       case rel=>exact ⟨k+1,by omega,by go_num,by rw [cnt_yes HQ.out];go_num⟩
       case measure=>simp [intOf];omega
      ·have h4':(kindI x == kind)=false:=by simpa using h4
       clear h4;have HQ:Hid (p k=false):=by rw [hq.out];unfold hit;rw [h1,h2,h3',h4'];rfl
       go_wp2_with fail
       refine (mright_any _ _).mono ?_;rintro e w' ⟨rfl,rfl⟩;go_wp2_with fail
       refine (mside_any _ _).mono ?_;rintro e w' ⟨rfl,rfl⟩;go_wp2_with fail
       refine (Qar _ _).mono ?_;rintro e w' ⟨rfl,rfl⟩;go_wp2
       go_round
       case rel=>exact ⟨k+1,by omega,by go_num,by rw [cnt_no HQ.out]⟩
       case measure=>simp [intOf];omega
    ·have h2':(sideI x == side)=false:=by simpa using h2
     clear h2;have HQ:Hid (p k=false):=by rw [hq.out];unfold hit;rw [h1,h2'];rfl
     go_wp2_with fail
     refine (mright_any _ _).mono ?_;rintro e w' ⟨rfl,rfl⟩;go_wp2_with fail
     refine (mside_any _ _).mono ?_;rintro e w' ⟨rfl,rfl⟩;go_wp2
     go_round
     case rel=>exact ⟨k+1,by omega,by go_num,by rw [cnt_no HQ.out]⟩
     case measure=>simp [intOf];omega
   ·have h1':manB x=false:=by simpa using h1
    clear h1;have HQ:Hid (p k=false):=by rw [hq.out];unfold hit;rw [h1'];rfl
    go_wp2_with fail
    refine (mright_any _ _).mono ?_;rintro e w' ⟨rfl,rfl⟩;go_wp2
    go_round
    case rel=>exact ⟨k+1,by omega,by go_num,by rw [cnt_no HQ.out]⟩
    case measure=>simp [intOf];omega
  ·go_wp2
   go_ret;exact ⟨Ys (by rw [HM.out,show k=64 by omega]),(Kept.refl _).alloc _⟩
def okB (x:Int):Bool:=x == 0 || manB x
def Jq (B:List Int):Bool:=B.all okB
theorem rright_yes' (B:List Int) (hB:Brd B) (h:∀ i,i<64→okB (B.getD i 0)=true) (w:World) :
  Calls Tryz.prog 73 #[.agg (cl B).toArray] w fun e w'=>e=.returned (.bool true)∧Kept w w':=by
 have H:=Qh hB;have HK:=Qh h;clear hB h;go_enter Tryz.func73,Tryz.ntmps73;go_wp2
 go_loop [3] (fun i=>∃ k:Nat,k≤64∧i=.int .i64 k) (fun i=>64-(intOf i).toNat)
 case atStart=>exact ⟨0,by omega,rfl⟩
 case round =>
  obtain ⟨k,hk,rfl⟩:=hrel;by_cases hlt:k<64
  ·have hc:(w.alloc (.cells (cl B).toArray 24)).cell? ⟨w.heap.size,k,none⟩=some (.int .i8 (B.getD k 0)):=by
    rw [cell_of_row _ _ k _ _ (0,0) (heap_alloc_new w _)];simpa using cl_get B k (by rw [H.out.1];exact hlt)
   obtain ⟨hb1,hb2⟩:=H.out.2 k hlt;have ho:=HK.out k hlt;generalize B.getD k 0=x at *;by_cases h0:(x == 0)=true
   ·have h0':(x != 0)=false:=by simpa using h0
    clear h0 ho;go_wp2
    go_round
    case rel=>exact ⟨k+1,by omega,by go_num⟩
    case measure=>simp [intOf];omega
   ·have h0':(x != 0)=true:=by simpa using h0
    have hm:manB x=true:=by
     unfold okB at ho;simpa [h0] using ho
    have hk0:(kindI x == 0)=false:=by
     have:=(Jk x).1 hm;rw [beq_eq_false_iff_ne];unfold kindI;rw [if_pos hm];split <;> omega
    clear h0 ho hm;go_wp2_with fail
    refine (rkind_any _ _).mono ?_;rintro e w' ⟨rfl,rfl⟩;go_wp2
    go_round
    case rel=>exact ⟨k+1,by omega,by go_num⟩
    case measure=>simp [intOf];omega
  ·go_wp2
   go_ret;exact ⟨rfl,(Kept.refl _).alloc _⟩
theorem rright_no' (B:List Int) (hB:Brd B) (n:Nat) (hn:n<64) (h:okB (B.getD n 0)=false) (hf:∀ i,i<n→okB (B.getD i 0)=true) (w:World) :
  Calls Tryz.prog 73 #[.agg (cl B).toArray] w fun e w'=>e=.returned (.bool false)∧Kept w w':=by
 have H:=Qh hB;have HK:=Qh hf;have HN:=Qh h;clear hB h hf;go_enter Tryz.func73,Tryz.ntmps73;go_wp2
 go_loop [3] (fun i=>∃ k:Nat,k≤n∧i=.int .i64 k) (fun i=>64-(intOf i).toNat)
 case atStart=>exact ⟨0,by omega,rfl⟩
 case round =>
  obtain ⟨k,hk,rfl⟩:=hrel;have hlt:k<64:=by omega
  have hc:(w.alloc (.cells (cl B).toArray 24)).cell? ⟨w.heap.size,k,none⟩=some (.int .i8 (B.getD k 0)):=by
   rw [cell_of_row _ _ k _ _ (0,0) (heap_alloc_new w _)];simpa using cl_get B k (by rw [H.out.1];exact hlt)
  obtain ⟨hb1,hb2⟩:=H.out.2 k hlt;by_cases he:k=n
  ·subst he
   have ho:=HN.out;generalize B.getD k 0=x at *;unfold okB at ho;rw [Bool.or_eq_false_iff] at ho;have h0':(x != 0)=true:=by have:=ho.1;simpa using this
   have hk0:(kindI x == 0)=true:=by
    rw [beq_iff_eq];unfold kindI;rw [if_neg (by rw [ho.2];decide)]
   clear ho;go_wp2_with fail
   refine (rkind_any _ _).mono ?_;rintro e w' ⟨rfl,rfl⟩;go_wp2;go_ret;exact ⟨rfl,(Kept.refl _).alloc _⟩
  ·have ho:=HK.out k (by omega)
   have hkn:k<n:=by omega
   clear he;generalize B.getD k 0=x at *;by_cases h0:(x == 0)=true
   ·have h0':(x != 0)=false:=by simpa using h0
    clear h0 ho;go_wp2
    go_round
    case rel=>exact ⟨k+1,by omega,by go_num⟩
    case measure=>simp [intOf];omega
   ·have h0':(x != 0)=true:=by simpa using h0
    have hm:manB x=true:=by
     unfold okB at ho;simpa [h0] using ho
    have hk0:(kindI x == 0)=false:=by
     have:=(Jk x).1 hm;rw [beq_eq_false_iff_ne];unfold kindI;rw [if_pos hm];split <;> omega
    clear h0 ho hm;go_wp2_with fail
    refine (rkind_any _ _).mono ?_;rintro e w' ⟨rfl,rfl⟩;go_wp2
    go_round
    case rel=>exact ⟨k+1,by omega,by go_num⟩
    case measure=>simp [intOf];omega
theorem first_or (p:Nat→Bool) (n:Nat):(∀ i,i<n→p i=false)∨∃ k,k<n∧p k=true∧∀ i,i<k→p i=false:=by
 induction n with
 | zero=>exact .inl (fun i hi=>by omega)
 | succ n ih =>
  rcases ih with h|⟨k,hk,h1,h2⟩
  ·by_cases hp:p n=true
   ·exact .inr ⟨n,by omega,hp,h⟩
   ·refine .inl (fun i hi=>?_)
    by_cases he:i=n
    ·subst he;simpa using hp
    ·exact h i (by omega)
  ·exact .inr ⟨k,by omega,h1,h2⟩
theorem getD_at (B:List Int) (i:Nat) (h:i<B.length):B.getD i 0=B[i]:=by simp [List.getD,List.getElem?_eq_getElem h]
theorem rightB_iff (B:List Int) (hB:B.length=64):Jq B=true↔∀ i,i<64→okB (B.getD i 0)=true:=by
 unfold Jq;rw [List.all_eq_true];constructor
 ·intro h i hi
  have:i<B.length:=by omega
  rw [getD_at _ _ this];exact h _ (List.getElem_mem this)
 ·intro h x hx
  obtain ⟨i,hi,rfl⟩:=List.getElem_of_mem hx;have:=h i (by omega);rwa [getD_at _ _ hi] at this
theorem rright_is (B:List Int) (hB:Brd B) (w:World) :
  Calls Tryz.prog 73 #[.agg (cl B).toArray] w fun e w'=>e=.returned (.bool (Jq B))∧Kept w w':=by
 rcases first_or (fun i=>!okB (B.getD i 0)) 64 with h|⟨k,hk,h1,h2⟩
 ·have h':∀ i,i<64→okB (B.getD i 0)=true:=fun i hi=>by simpa using h i hi
  rw [(rightB_iff B hB.1).2 h'];exact rright_yes' B hB h' w
 ·have h1':okB (B.getD k 0)=false:=by simpa using h1
  have:Jq B=false:=by
   rw [← Bool.not_eq_true,rightB_iff B hB.1];intro h;rw [h k hk] at h1'
   cases h1'
  rw [this];exact rright_no' B hB k hk h1' (fun i hi=>by simpa using h2 i hi) w
def edgeB (B:List Int):Bool:=(List.range 64).any (edge B)
theorem pawnAtEdge_is (B:List Int) (hB:Brd B) (w:World) :
  Calls Tryz.prog 126 #[.agg (cl B).toArray] w fun e w'=>e=.returned (.bool (edgeB B))∧Kept w w':=by
 rcases first_or (edge B) 64 with h|⟨k,hk,h1,h2⟩
 ·have:edgeB B=false:=by
   unfold edgeB;rw [List.any_eq_false];intro i hi;rw [h i (by simpa using hi)];decide
  rw [this];exact pawnAtEdge_no B hB h w
 ·have:edgeB B=true:=by
   unfold edgeB;rw [List.any_eq_true];exact ⟨k,by simpa using hk,h1⟩
  rw [this];exact pawnAtEdge_yes B hB k hk h1 h2 w
def nl (l:List Nat):List Value:=l.map fun (i:Nat)=>Value.int .i64 (i:Int)
theorem nl_snoc (l:List Nat) (k:Nat):nl (l++[k])=nl l++[.int .i64 (k:Int)]:=by simp [nl]
theorem infoInt:(Tryz.prog.info? 3).map (fun i=>(i.zero,i.size,i.bytes))=some (some (.int .i64 0),1,8):=by kernel_rfl
def Owns (w:World) (base:Nat) (v:Value) (l:List Nat):Prop:=w.ownsRow base 3 1 v l.length (nl l)
theorem Owns.low {w:World} {base b:Nat} {v:Value} {l:List Nat} (h:Owns w base v l) (hb:b≤base):Owns w b v l:=by
 obtain ⟨h1,h2⟩:=h;refine ⟨h1,?_⟩;rcases h2 with h2|⟨g,cap,cur,e1,e2,e3⟩
 ·exact .inl h2
 ·exact .inr ⟨g,cap,cur,e1,by omega,e3⟩
theorem Owns.slice {w:World} {base:Nat} {v:Value} {l:List Nat} (h:Owns w base v l):∃ a cap,v=.slice a l.length cap:=by
 rcases h.2 with ⟨e,h0⟩|⟨g,cap,cur,e,_⟩
 ·exact ⟨none,0,by rw [e,h0]⟩
 ·exact ⟨_,_,e⟩
theorem Owns.at_ {w:World} {base:Nat} {a:Option Addr} {n cap:Nat} {l:List Nat} (h:Owns w base (.slice a n cap) l) (j:Nat) (hj:j<l.length) :
  ∃ g,a=some ⟨g,0,none⟩∧w.cell? ⟨g,j,none⟩=some (.int .i64 (l.getD j 0:Nat)):=by
 rcases h.2 with ⟨e,h0⟩|⟨g,cap',cur,e,_,hh,hnc,_,hcs,ht⟩
 ·omega
 ·injection e with e1 e2 e3
  refine ⟨g,e1,?_⟩;rw [cell_of_row w g j cur _ (0,0) hh];have h2:(cur.toList.take (l.length*1))[j]?=(nl l)[j]?:=by rw [ht]
  rw [List.getElem?_take,if_pos (by omega)] at h2;simp only [Array.getElem?_toList] at h2;rw [h2];simp [nl,List.getD,List.getElem?_eq_getElem hj]
theorem owns_none (w:World) (b:Nat) (p:Nat→Bool):Owns w b (.slice none 0 0) (sel p 0):=by
 have:sel p 0=[]:=by simp [sel]
 rw [this];exact World.ownsRow_nil _ _ _ _
def Gives (w:World) (l:List Nat) (e:Ending) (w':World):Prop:=∃ v,e=.returned v∧Owns w' w.heap.size v l∧Kept w w'
def Yq (B:List Int) (m:Int):List Nat:=sel (fun i=>B.getD i 0 == m) 64
theorem where_step {w W wr w1:World} {v v':Value} {p:Nat→Bool} {k:Nat} {o:Obj} (hp:p k=true) (hW:W.heap.size=w.heap.size+1) (hK:Kept W wr)
  (hown:Owns wr (w.heap.size+1) v (sel p k)) (hown':w1.ownsRow (w.heap.size+1) 3 1 v' ((sel p k).length+1) (nl (sel p k)++[.int .i64 (k:Int)])) (hg:(wr.alloc o).grownBy w1 v.ownBlock) :
  Owns w1 (w.heap.size+1) v' (sel p (k+1))∧Kept W w1:=by
 refine ⟨?_,?_⟩
 ·unfold Owns
  rw [sel_yes hp,nl_snoc];simpa using hown'
 ·exact (hK.alloc o).grownBy hg (fun g hgv=>by have:=(World.ownsRow.lt hown g hgv).1;omega)
set_option maxRecDepth 100000 in
theorem Qao (B:List Int) (hB:Brd B) (m:Int) (w:World) :
  Calls Tryz.prog 74 #[.agg (cl B).toArray,.int .i64 m] w (Gives w (Yq B m)):=by
 have H:=Qh hB;clear hB;obtain ⟨p,hp⟩:∃ p:Nat→Bool,p=fun i=>B.getD i 0 == m:=⟨_,rfl⟩
 have HM:Hid (Yq B m=sel p 64):=by rw [hp];rfl
 have HP:=Qh hp;clear hp;obtain ⟨i0,hi,hz0,hz1,hz2⟩:=info_parts infoInt;obtain ⟨W,eW⟩:∃ W,W=w.alloc (.cells (cl B).toArray 24):=⟨_,rfl⟩;have HW:=Qh eW;have hsz:=Qh (show W.heap.size=w.heap.size+1 by rw [eW];simp);have hbl:=Qh (show W.heap[w.heap.size]?=some (.cells (cl B).toArray 24 (0,0)) by rw [eW];exact heap_alloc_new w _);clear eW;go_enter Tryz.func74,Tryz.ntmps74;go_wp2
 go_loopw [5,6] (fun v i wr=>∃ k:Nat,k≤64∧i=.int .i64 k∧Owns wr (w.heap.size+1) v (sel p k)∧Kept W wr) (fun _ i _=>64-(intOf i).toNat)
 case atStart=>exact ⟨0,by omega,rfl,owns_none _ _ _,by rw [HW.out];exact Kept.refl _⟩
 case round =>
  obtain ⟨k,hk,rfl,hown,hK⟩:=hrel;have hsl:=sel_le p k;by_cases hlt:k<64
  ·have hc:wr.cell? ⟨w.heap.size,k,none⟩=some (.int .i8 (B.getD k 0)):=by
    rw [cell_of_row _ _ k _ _ (0,0) (hK.heap hbl.out)];simpa using cl_get B k (by rw [H.out.1];exact hlt)
   obtain ⟨hb1,hb2⟩:=H.out.2 k hlt;obtain ⟨x,ex⟩:∃ x,x=B.getD k 0:=⟨_,rfl⟩;rw [← ex] at hc hb1 hb2;have hq:Hid (p k=(x == m)):=by rw [ex,HP.out];rfl
   clear ex;by_cases h1:(x == m)=true
   ·have HQ:Hid (p k=true):=by rw [hq.out];exact h1
    go_wp2_with (at_builtin;refine wpList_append_own _ rfl _ _ 84 rfl (w.heap.size+1) 3 i0 (.int .i64 0) 1 8 Tryz.underlying84 hi hz0 hz1 hz2 rfl (by decide) _ _ _ rfl (World.ownsRow.alloc hown _) ⟨wr.heap.size,0,none⟩ 1 1 [.int .i64 (k:Int)] rfl rfl ?c1 ?c2 ?c3 ?c4 ?c5 ?_)
    case c1 =>
     intro j u hj
     match j,hj with
     | 0,hj=>simp at hj;subst hj;simp [Addr.add]
    case c2=>intro u hu;simp at hu;subst hu;rfl
    case c3=>unfold maxLen;omega
    case c4=>omega
    case c5=>have:=hK.size;have:=hsz.out;simp;omega
    intro v' w1 hown' hgrow _;have R:=where_step HQ.out hsz.out hK hown hown' hgrow;clear hown' hgrow hown hK hc;go_wp2;go_roundw
    case rel=>exact ⟨k+1,by omega,by go_num,R.1,R.2⟩
    case measure=>simp [intOf];omega
   ·have h1':(x == m)=false:=by simpa using h1
    clear h1;have HQ:Hid (p k=false):=by rw [hq.out];exact h1'
    go_wp2;go_roundw
    case rel=>exact ⟨k+1,by omega,by go_num,by rw [sel_no HQ.out];exact hown,hK⟩
    case measure=>simp [intOf];omega
  ·go_wp2
   go_ret;refine ⟨_,rfl,?_,?_⟩
   ·rw [HM.out,show 64=k by omega];exact hown.low (by omega)
   ·refine Kept.trans ?_ hK
    rw [HW.out];exact (Kept.refl _).alloc _
def term (B:List Int) (kind side:Int) (j n:Nat):Nat :=
 if kind=0∨kind=(j:Int) then (if side=0 then cnt (fun i=>B.getD i 0 == (j:Int)) n else if side=1 then cnt (fun i=>B.getD i 0 == -(j:Int)) n else 0) else 0
def rsum (B:List Int) (kind side:Int):Nat→Nat
 | 0=>0
 | j+1=>rsum B kind side j+term B kind side (j+1) 64
theorem term_le (B:List Int) (kind side:Int) (j:Nat):term B kind side j 64≤64:=by
 unfold term;split
 ·split
  ·exact cnt_le _ _
  ·split
   ·exact cnt_le _ _
   ·omega
 ·omega
theorem rsum_le (B:List Int) (kind side:Int) (j:Nat):rsum B kind side j≤64*j:=by
 induction j with
 | zero=>simp [rsum]
 | succ j ih=>have:=term_le B kind side (j+1);simp only [rsum];omega
theorem cnt_succ (p:Nat→Bool) (n:Nat):cnt p (n+1)=cnt p n+(p n).toNat:=by
 cases h:p n
 ·rw [cnt_no h];rfl
 ·rw [cnt_yes h];rfl
theorem cnt_zero (p:Nat→Bool):cnt p 0=0:=by simp [cnt,sel]
def one (kind side x:Int) (j:Nat):Nat :=
 if kind=0∨kind=(j:Int) then (if side=0 then (x == (j:Int)).toNat else if side=1 then (x == -(j:Int)).toNat else 0) else 0
theorem term_succ (B:List Int) (kind side:Int) (j n:Nat):term B kind side j (n+1)=term B kind side j n+one kind side (B.getD n 0) j:=by
 unfold term one;split
 ·split
  ·rw [cnt_succ]
  ·split
   ·rw [cnt_succ]
   ·rfl
 ·rfl
theorem one_hit (kind side x:Int):(hit kind side x).toNat=one kind side x 1+one kind side x 2+one kind side x 3+one kind side x 4+one kind side x 5+one kind side x 6:=by
 by_cases hm:manB x=true
 ·have h:=(Jk x).1 hm
  have hx:x=-6∨x=-5∨x=-4∨x=-3∨x=-2∨x=-1∨x=1∨x=2∨x=3∨x=4∨x=5∨x=6:=by omega
  have e1:∀ a b:Int,(a == b)=decide (a=b):=fun a b=>by by_cases h:a=b <;> simp [h]
  have e2:∀ a:Int,decide (a=kind)=decide (kind=a):=fun a=>by simp [eq_comm]
  have e3:∀ a:Int,decide (a=side)=decide (side=a):=fun a=>by simp [eq_comm]
  rcases hx with rfl|rfl|rfl|rfl|rfl|rfl|rfl|rfl|rfl|rfl|rfl|rfl
  all_goals
   unfold hit sideI kindI one;simp only [hm,e1,e2,e3];by_cases h0:side=0
   ·subst h0
    by_cases k0:kind=0
    ·subst k0;simp
    ·simp [k0];try (clear e1 e2 e3;split <;> simp_all)
   ·by_cases h1:side=1
    ·subst h1
     by_cases k0:kind=0
     ·subst k0;simp
     ·simp [k0];try (clear e1 e2 e3;split <;> simp_all)
    ·simp [h0,h1]
 ·have hm':manB x=false:=by simpa using hm
  have h:=(manB_not x).1 hm'
  have z:∀ j:Nat,1≤j→j≤6→one kind side x j=0:=by
   intro j h1 h2;have a1:(x == (j:Int))=false:=beq_eq_false_iff_ne.2 (by omega);have a2:(x == -(j:Int))=false:=beq_eq_false_iff_ne.2 (by omega);unfold one;rw [a1,a2];simp
  have hh:hit kind side x=false:=by unfold hit;rw [hm'];rfl
  rw [hh,z 1 (by omega) (by omega),z 2 (by omega) (by omega),z 3 (by omega) (by omega),z 4 (by omega) (by omega),z 5 (by omega) (by omega),z 6 (by omega) (by omega)];rfl
theorem term_zero (B:List Int) (kind side:Int) (j:Nat):term B kind side j 0=0:=by
 unfold term;simp [cnt_zero]
theorem six_terms (B:List Int) (kind side:Int) (n:Nat) :
  term B kind side 1 n+term B kind side 2 n+term B kind side 3 n+term B kind side 4 n+term B kind side 5 n+term B kind side 6 n=cnt (fun i=>hit kind side (B.getD i 0)) n:=by
 induction n with
 | zero=>simp [term_zero,cnt_zero]
 | succ n ih =>
  rw [cnt_succ,← ih,one_hit];simp only [term_succ];omega
theorem rsum_six (B:List Int) (kind side:Int):rsum B kind side 6=many B kind side:=by
 unfold many;rw [← six_terms];simp only [rsum,Nat.reduceAdd];omega
theorem rmany_is (B:List Int) (hB:Brd B) (kind side:Int) (w:World) :
  Calls Tryz.prog 75 #[.agg (cl B).toArray,.int .i64 kind,.int .i64 side] w fun e w'=>e=.returned (.int .i64 (many B kind side:Nat))∧Kept w w':=by
 have H:=Qh hB;have hz:=Qh (Jf hB.1);clear hB;obtain ⟨W,eW⟩:∃ W,W=w.alloc (.cells (cl B).toArray 24):=⟨_,rfl⟩;have HW:=Qh eW;have hbl:=Qh (show W.heap[w.heap.size]?=some (.cells (cl B).toArray 24 (0,0)) by rw [eW];exact heap_alloc_new w _);clear eW;go_enter Tryz.func75,Tryz.ntmps75;go_wp2
 go_loopw [7,8] (fun n i wr=>∃ k:Nat,k≤6∧i=.int .i64 ((k:Int)+1)∧n=.int .i64 (rsum B kind side k:Nat)∧Kept W wr) (fun _ i _=>7-(intOf i).toNat)
 case atStart=>exact ⟨0,by omega,rfl,rfl,by rw [HW.out];exact Kept.refl _⟩
 case round =>
  obtain ⟨k,hk,rfl,rfl,hK⟩:=hrel;have hr:=rsum_le B kind side k;by_cases hlt:k<6
  ·by_cases hskip:(kind != 0)=true∧(kind != (k:Int)+1)=true
   ·have HT:Hid (rsum B kind side (k+1)=rsum B kind side k):=by
     simp only [bne_iff_ne] at hskip;show rsum B kind side k+term B kind side (k+1) 64=_;unfold term;rw [if_neg (by omega)];rfl
    obtain ⟨s1,s2⟩:=hskip;go_wp2;go_roundw
    case rel=>exact ⟨k+1,by omega,by go_num,by rw [HT.out],hK⟩
    case measure=>simp [intOf];omega
   ·have hC:((kind != 0)=false)∨((kind != 0)=true∧(kind != (k:Int)+1)=false):=by
     by_cases h:(kind != 0)=true
     ·exact .inr ⟨h,by simpa [h] using hskip⟩
     ·exact .inl (by simpa using h)
    have hT:∀ x,term B kind side (k+1) 64=x→Hid (rsum B kind side (k+1)=rsum B kind side k+x):=fun x hx=>by
     rw [← hx];exact Qh rfl
    have hcond:Hid (kind=0∨kind=((k+1:Nat):Int)):=by
     rcases hC with h|⟨_,h⟩
     ·exact .inl (by simpa using h)
     ·exact .inr (by have:kind=(k:Int)+1:=(by simpa using h);omega)
    have HT:=Qh hT;clear hT hskip;by_cases hs0:(side == 0)=true
    ·have hs1:(side == 1)=false:=by
      rw [beq_eq_false_iff_ne];have:=beq_iff_eq.1 hs0;omega
     have HX:=HT.out (cnt (fun i=>B.getD i 0 == ((k+1:Nat):Int)) 64) (by
      unfold term;rw [if_pos hcond.out,if_pos (beq_iff_eq.1 hs0)])
     have hle:=cnt_le (fun i=>B.getD i 0 == ((k+1:Nat):Int)) 64;have hlen:=Qh (show (Yq B ((k:Int)+1)).length=cnt (fun i=>B.getD i 0 == ((k+1:Nat):Int)) 64 from rfl);generalize cnt (fun i=>B.getD i 0 == ((k+1:Nat):Int)) 64=c at HX hle hlen;clear HT;rcases hC with hC|⟨hC,hC'⟩
     all_goals
      go_wp2_with (first|(with_reducible refine wpList_load_row rfl 24 _ rfl _ rfl _ _ _ _ (hK.heap hbl.out) Tryz.underlying24 rfl hz.out ?_))
      refine (Qao B H.out ((k:Int)+1) _).mono ?_;rintro e w1 ⟨v,rfl,hown,hK1⟩;obtain ⟨aa,cap,rfl⟩:=hown.slice;rw [hlen.out];clear hlen hown;go_wp2;go_roundw
      case rel=>exact ⟨k+1,by omega,by go_num,by rw [HX.out];go_num,hK.trans hK1⟩
      case measure=>simp [intOf];omega
    ·have hs0':(side == 0)=false:=by simpa using hs0
     by_cases hs1:(side == 1)=true
     ·have HX:=HT.out (cnt (fun i=>B.getD i 0 == -((k+1:Nat):Int)) 64) (by
       unfold term;rw [if_pos hcond.out,if_neg (by simpa using hs0),if_pos (beq_iff_eq.1 hs1)])
      have hle:=cnt_le (fun i=>B.getD i 0 == -((k+1:Nat):Int)) 64;have hlen:=Qh (show (Yq B (-((k:Int)+1))).length=cnt (fun i=>B.getD i 0 == -((k+1:Nat):Int)) 64 from rfl);generalize cnt (fun i=>B.getD i 0 == -((k+1:Nat):Int)) 64=c at HX hle hlen;clear HT hs0;rcases hC with hC|⟨hC,hC'⟩
      all_goals
       go_wp2_with (first|(with_reducible refine wpList_load_row rfl 24 _ rfl _ rfl _ _ _ _ (hK.heap hbl.out) Tryz.underlying24 rfl hz.out ?_))
       refine (Qao B H.out _ _).mono ?_;rintro e w1 ⟨v,rfl,hown,hK1⟩;obtain ⟨aa,cap,rfl⟩:=hown.slice;rw [hlen.out];clear hlen hown;go_wp2;go_roundw
       case rel=>exact ⟨k+1,by omega,by go_num,by rw [HX.out];go_num,hK.trans hK1⟩
       case measure=>simp [intOf];omega
     ·have hs1':(side == 1)=false:=by simpa using hs1
      have HX:=HT.out 0 (by
       unfold term;rw [if_pos hcond.out,if_neg (by simpa using hs0),if_neg (by simpa using hs1)])
      clear HT hs0 hs1;rcases hC with hC|⟨hC,hC'⟩
      all_goals
       go_wp2;go_roundw
       case rel=>exact ⟨k+1,by omega,by go_num,by rw [HX.out];rfl,hK⟩
       case measure=>simp [intOf];omega
  ·go_wp2
   go_ret;refine ⟨Ys ?_,?_⟩
   ·rw [show k=6 by omega,rsum_six]
   ·refine Kept.trans ?_ hK
    rw [HW.out];exact (Kept.refl _).alloc _
def headI:List Nat→Int
 | []=>-1
 | a::_=>a
theorem sel_none {p:Nat→Bool} {n:Nat} (h:∀ i,i<n→p i=false):sel p n=[]:=by
 unfold sel;rw [List.filter_eq_nil_iff];intro i hi;rw [h i (by simpa using hi)];decide
theorem sel_first {p:Nat→Bool} {k:Nat} (h1:p k=true) (h2:∀ i,i<k→p i=false) (n:Nat) (hn:k<n):∃ t,sel p n=k::t:=by
 induction n with
 | zero=>omega
 | succ n ih =>
  by_cases hk:k<n
  ·obtain ⟨t,ht⟩:=ih hk
   cases hp:p n
   ·exact ⟨t,by rw [sel_no hp,ht]⟩
   ·exact ⟨t++[n],by rw [sel_yes hp,ht];rfl⟩
  ·have:k=n:=by omega
   subst this;exact ⟨[],by rw [sel_yes h1,sel_none h2];rfl⟩
theorem index_no (B:List Int) (hB:Brd B) (x:Int) (g c:Nat) (t:TypeId) (w:World) (hg:w.heap[g]?=some (.cells (cl B).toArray t (0,0))) (hn:∀ i,i<64→(B.getD i 0 == x)=false) :
  Calls Tryz.prog 146 #[.slice (some ⟨g,0,none⟩) 64 c,.int .i8 x] w fun e w'=>e=.returned (.int .i64 (-1))∧w=w':=by
 have H:=Qh hB;have HG:=Qh hg;have HN:=Qh hn;clear hB hg hn;go_enter Tryz.func146,Tryz.ntmps146;go_wp2
 go_loop [8] (fun i=>∃ k:Nat,k≤64∧i=.int .i64 k) (fun i=>64-(intOf i).toNat)
 case atStart=>exact ⟨0,by omega,rfl⟩
 case round =>
  obtain ⟨k,hk,rfl⟩:=hrel;by_cases hlt:k<64
  ·have hc:w.cell? ⟨g,k,none⟩=some (.int .i8 (B.getD k 0)):=by
    rw [cell_of_row _ _ k _ _ (0,0) HG.out];simpa using cl_get B k (by rw [H.out.1];exact hlt)
   have hne:(x == B.getD k 0)=false:=by
    have:=HN.out k hlt;rw [beq_eq_false_iff_ne] at this ⊢;exact fun e=>this e.symm
   generalize B.getD k 0=y at *;go_wp2
   go_round
   case rel=>exact ⟨k+1,by omega,by go_num⟩
   case measure=>simp [intOf];omega
  ·go_wp2
   go_ret;exact ⟨rfl,rfl⟩
theorem index_yes (B:List Int) (hB:Brd B) (x:Int) (g c n:Nat) (t:TypeId) (w:World) (hg:w.heap[g]?=some (.cells (cl B).toArray t (0,0))) (hl:n<64) (hx:B.getD n 0=x) (hn:∀ i,i<n→(B.getD i 0 == x)=false) :
  Calls Tryz.prog 146 #[.slice (some ⟨g,0,none⟩) 64 c,.int .i8 x] w fun e w'=>e=.returned (.int .i64 n)∧w=w':=by
 have H:=Qh hB;have HG:=Qh hg;have HN:=Qh hn;have HX:=Qh hx;clear hB hg hn hx;go_enter Tryz.func146,Tryz.ntmps146;go_wp2
 go_loop [8] (fun i=>∃ k:Nat,k≤n∧i=.int .i64 k) (fun i=>64-(intOf i).toNat)
 case atStart=>exact ⟨0,by omega,rfl⟩
 case round =>
  obtain ⟨k,hk,rfl⟩:=hrel;have hlt:k<64:=by omega
  have hc:w.cell? ⟨g,k,none⟩=some (.int .i8 (B.getD k 0)):=by
   rw [cell_of_row _ _ k _ _ (0,0) HG.out];simpa using cl_get B k (by rw [H.out.1];exact hlt)
  by_cases he:k=n
  ·subst he
   rw [HX.out] at hc;go_wp2;go_ret;exact ⟨rfl,rfl⟩
  ·have hne:(x == B.getD k 0)=false:=by
    have:=HN.out k (by omega);rw [beq_eq_false_iff_ne] at this ⊢;exact fun e=>this e.symm
   generalize B.getD k 0=y at *;have hkn:k<n:=by omega
   clear he;go_wp2
   go_round
   case rel=>exact ⟨k+1,by omega,by go_num⟩
   case measure=>simp [intOf];omega
theorem index_is (B:List Int) (hB:Brd B) (x:Int) (g c:Nat) (t:TypeId) (w:World) (hg:w.heap[g]?=some (.cells (cl B).toArray t (0,0))) :
  Calls Tryz.prog 146 #[.slice (some ⟨g,0,none⟩) 64 c,.int .i8 x] w fun e w'=>e=.returned (.int .i64 (headI (Yq B x)))∧w=w':=by
 rcases first_or (fun i=>B.getD i 0 == x) 64 with h|⟨k,hk,h1,h2⟩
 ·have e:Yq B x=[]:=sel_none h
  rw [e];exact index_no B hB x g c t w hg h
 ·obtain ⟨r,hr⟩:=sel_first h1 h2 64 hk
  have e:Yq B x=k::r:=hr;rw [e];exact index_yes B hB x g c k t w hg hk (by simpa using h1) h2
theorem headI_bd (B:List Int) (x:Int):-1≤headI (Yq B x)∧headI (Yq B x)<64:=by
 cases h:Yq B x with
 | nil=>exact ⟨by decide,by decide⟩
 | cons a t =>
  have:a ∈ Yq B x:=by rw [h];simp
  simp [Yq,sel] at this;show -1≤(a:Int)∧(a:Int)<64;omega
theorem king_no (B:List Int) (side:Int) (h0:side≠0) (h1:side≠1) (w:World) :
  Calls Tryz.prog 107 #[.agg (cl B).toArray,.int .i64 side] w fun e w'=>e=.returned (.int .i64 (-1))∧Kept w w':=by
 go_enter Tryz.func107,Tryz.ntmps107;go_wp2_with fail
 refine (make_noside _ _ _ (by omega) (by omega) h0 h1).mono ?_;rintro e w' ⟨rfl,rfl⟩;go_wp2;go_ret;exact ⟨rfl,(Kept.refl _).alloc _⟩
theorem king_w (B:List Int) (hB:Brd B) (w:World) :
  Calls Tryz.prog 107 #[.agg (cl B).toArray,.int .i64 0] w fun e w'=>e=.returned (.int .i64 (headI (Yq B 6)))∧Kept w w':=by
 go_enter Tryz.func107,Tryz.ntmps107;go_wp2_with fail
 refine (make_w _ _ (by omega) (by omega)).mono ?_;rintro e w' ⟨rfl,rfl⟩;go_wp2_with fail
 refine (index_is B hB 6 _ _ _ _ (heap_alloc_new w _)).mono ?_;rintro e w' ⟨rfl,rfl⟩;go_wp2;go_ret;exact ⟨rfl,(Kept.refl _).alloc _⟩
theorem king_b (B:List Int) (hB:Brd B) (w:World) :
  Calls Tryz.prog 107 #[.agg (cl B).toArray,.int .i64 1] w fun e w'=>e=.returned (.int .i64 (headI (Yq B (-6))))∧Kept w w':=by
 go_enter Tryz.func107,Tryz.ntmps107;go_wp2_with fail
 refine (make_b _ _ (by omega) (by omega)).mono ?_;rintro e w' ⟨rfl,rfl⟩;go_wp2_with fail
 refine (index_is B hB (-6) _ _ _ _ (heap_alloc_new w _)).mono ?_;rintro e w' ⟨rfl,rfl⟩;go_wp2;go_ret;exact ⟨rfl,(Kept.refl _).alloc _⟩
set_option linter.unusedSimpArgs false
def beqB (A B:List Int):Bool:=(List.range 64).all fun i=>A.getD i 0 == B.getD i 0
theorem beqB_iff {A B:List Int} (hA:A.length=64) (hB:B.length=64):beqB A B=true↔A=B:=by
 unfold beqB;rw [List.all_eq_true];constructor
 ·intro h
  refine List.ext_getElem (by omega) fun i h1 h2=>?_
  have:=h i (by simp;omega);rw [getD_at _ _ h1,getD_at _ _ h2] at this;simpa using this
 ·rintro rfl i _
  simp
theorem run_part_cl (A:List Int) (hA:A.length=64) (i:Nat) (hi:i<64) (w:World):(part 22 (cl A).toArray (i*1)).run Tryz.prog w=.ok (.int .i8 (A.getD i 0)) w:=by
 have h2:=cl_get A i (by omega);simp [part,isAgg,run_underlying Tryz.underlying22,h2]
theorem run_eqItems_cl (d:Nat) (A B:List Int) (hA:A.length=64) (hB:B.length=64) (w:World):∀ is:List Nat,(∀ i ∈ is,i<64) →
  (Op.eqItems (d+1) 22 1 (cl A).toArray (cl B).toArray is).run Tryz.prog w=.ok (is.all fun i=>A.getD i 0 == B.getD i 0) w
 | [],_=>by simp [Op.eqItems]
 | i::is,h=>by
  have h1:=run_part_cl A hA i (h i (by simp)) w;have h2:=run_part_cl B hB i (h i (by simp)) w;have ih:=run_eqItems_cl d A B hA hB w is (fun j hj=>h j (by simp [hj]));simp only [Op.eqItems,Sem.run_bind,h1,h2,Result.andThen_ok]
  have h3:∀ a b:Int,(Op.equalIn (d+1) 22 (.int .i8 a) (.int .i8 b)).run Tryz.prog w=.ok (a == b) w:=fun a b=>by
   simp [Op.equalIn,run_underlying Tryz.underlying22]
  rw [h3];simp only [Result.andThen_ok,List.all_cons]
  cases hab:(A.getD i 0 == B.getD i 0)
  ·rfl
  ·rw [Bool.true_and,← ih];rfl
theorem run_equal_cl (A B:List Int) (hA:A.length=64) (hB:B.length=64) (w:World) :
  (Op.equal 24 (.agg (cl A).toArray) (.agg (cl B).toArray)).run Tryz.prog w=.ok (beqB A B) w:=by
 obtain ⟨i,hi⟩:∃ i,Tryz.prog.info? 22=some i:=by
  cases hq:Tryz.prog.info? 22 with
  | none=>have:=info22;simp [hq] at this
  | some i=>exact ⟨i,rfl⟩
 have h:∀ d:Nat,(Op.equalIn (d+1+1) 24 (.agg (cl A).toArray) (.agg (cl B).toArray)).run Tryz.prog w=.ok (beqB A B) w:=fun d=>by
  rw [run_equalIn_array w (d+1) _ _ Tryz.underlying24 hi,cells22];exact run_eqItems_cl d A B hA hB w _ (fun i hi=>by simpa using hi)
 exact h 9998
theorem eqGuard24:Tryz.prog.eqGuardType Tryz.prog.depth 24=false:=by kernel_rfl
theorem run_eqGuard_cl (op:BinOp) (x y:Operand) (a b:Array Value) (w:World):(eqGuard op 24 x y (.agg a) (.agg b)).run Tryz.prog w=.ok () w:=by
 unfold eqGuard
 cases op <;> simp [eqGuard24,Sem.run_bind]
theorem run_eql_cl (A B:List Int) (hA:A.length=64) (hB:B.length=64) (w:World) :
  (binOp .eql 24 (.agg (cl A).toArray) (.agg (cl B).toArray)).run Tryz.prog w=.ok (.bool (beqB A B)) w:=by
 simp only [binOp,Sem.run_bind,run_equal_cl A B hA hB w,Result.andThen_ok,Sem.run_pure]
def Zb:List Int:=List.replicate 64 0
theorem Zb_brd:Brd Zb:=by
 refine ⟨rfl,fun i hi=>?_⟩;have:Zb.getD i 0=0:=by unfold Zb;rw [List.getD,List.getElem?_replicate];split <;> rfl
 omega
theorem zeroB:(Tryz.prog.info? 24).map (fun i=>(i.zero,i.size))=some (some (.agg (cl Zb).toArray),64):=by kernel_rfl
theorem run_zero_b (w:World):(zeroValue 24).run Tryz.prog w=.ok (.agg (cl Zb).toArray) w:=(zero_of_info zeroB).1 w
theorem wpList_new_b {ops:Array Oper} {rest:List Oper} {o:Oper} {a:Act} {w:World} {Q:Exit→Act→World→Prop} (hgd:o.guard=none) (ho:o.op=.alloc 24)
  (h:wpList Tryz.prog ops Q rest (a.put o.dst (.pointer (some ⟨w.heap.size,0,none⟩))) (w.alloc (.cells (cl Zb).toArray 24))):wpList Tryz.prog ops Q (o::rest) a w:=by
 refine wpList_plain hgd fun _ hK=>?_
 unfold Oper.wp execOp;simp only [ho,Instr.alloc,Sem.run_bind,run_zero_b,Result.andThen_ok,newVar,newRow,Value.cells];exact hK _ _ h
def tab (f:Nat→Int):List Int:=(List.range 64).map f
theorem Qax (f:Nat→Int):(tab f).length=64:=by simp [tab]
theorem tab_get (f:Nat→Int) (i:Nat) (h:i<64):(tab f).getD i 0=f i:=by simp [tab,List.getD,h]
theorem tab_ext {f g:Nat→Int} (h:∀ i,i<64→f i=g i):tab f=tab g:=by
 unfold tab;exact List.map_congr_left fun i hi=>h i (by simpa using hi)
theorem tab_of (B:List Int) (h:B.length=64):tab (fun i=>B.getD i 0)=B:=by
 refine List.ext_getElem (by rw [Qax,h]) fun i h1 h2=>?_
 rw [← getD_at _ _ h1,← getD_at _ _ h2,tab_get _ i (by omega)]
theorem tab_set (f:Nat→Int) (k:Nat) (x:Int):(tab f).set k x=tab (fun i=>if i=k then x else f i):=by
 refine List.ext_getElem (by simp [Qax]) fun i h1 h2=>?_
 have h3:i<64:=by simpa [Qax] using h1
 rw [List.getElem_set];by_cases e:k=i
 ·subst e
  simp [tab]
 ·have e':¬ i=k:=fun h=>e h.symm
  simp [tab,e,e']
theorem tab_brd {f:Nat→Int} (h:∀ i,i<64→-128≤f i∧f i≤127):Brd (tab f) :=
 ⟨Qax f,fun i hi=>by rw [tab_get f i hi];exact h i hi⟩
theorem cl_one (B:List Int):(cl B).toArray.all (·.oneCell')=true:=by
 rw [Array.all_eq_true_iff_forall_mem];intro v hv;simp only [List.mem_toArray,cl,List.mem_map] at hv;obtain ⟨x,_,rfl⟩:=hv;rfl
theorem cl_set_arr (B:List Int) (i:Nat) (x:Int):(cl B).toArray.setIfInBounds i (.int .i8 x)=(cl (B.set i x)).toArray:=by
 rw [← cl_set];simp
theorem cl_size (B:List Int) (h:B.length=64):(cl B).toArray.size=64:=by simp [Yp,h]
theorem heap_set_cl {w:World} {g k:Nat} {B:List Int} {t:TypeId} (x:Int) (hg:w.heap[g]?=some (.cells (cl B).toArray t (0,0))) :
  (w.setCell ⟨g,k,none⟩ (.int .i8 x)).heap[g]?=some (.cells (cl (B.set k x)).toArray t (0,0)):=by
 rw [heap_setCell_same w g k _ t _ hg,cl_set_arr]
theorem cell_cl {w:World} {g:Nat} {B:List Int} {t:TypeId} (hB:B.length=64) (hg:w.heap[g]?=some (.cells (cl B).toArray t (0,0))) (k:Nat) (hk:k<64) :
  w.cell? ⟨g,k,none⟩=some (.int .i8 (B.getD k 0)):=by
 rw [cell_of_row _ _ k _ _ (0,0) hg];simpa using cl_get B k (by omega)
theorem Kept.setRow {a w:World} (h:Kept a w) {g:Nat} (hg:a.heap.size≤g) (c:Array Value):Kept a (w.setRow g c) :=
 ⟨h.os,h.output,by simpa using h.size,fun k hk=>(setRow_other w g k c (by omega)).trans (h.block k hk)⟩
theorem Jy {P:Program} {ops:Array Oper} {rest:List Oper} {o:Oper} {a:Act} {w:World} {Q:Exit→Act→World→Prop} (hg:o.guard=none) (t:TypeId) (parts:Array (Nat × Operand)) (ho:o.op=.build t parts)
  (cells:Array Value) (hf:P.built t (parts.map fun (i,x)=>(i,a.eval x)).toList=some cells)
  (h:wpList P ops Q rest (a.put o.dst (.agg cells)) w):wpList P ops Q (o::rest) a w :=
 wpList_build hg t parts ho (by rw [hf];rfl) (by rw [hf];exact h)
def Fb:List Int:=[4,2,3,5,6,3,2,4,1,1,1,1,1,1,1,1,0,0,0,0,0,0,0,0,0,0,0,0,0,0,0,0,0,0,0,0,0,0,0,0,0,0,0,0,0,0,0,0,-1,-1,-1,-1,-1,-1,-1,-1,-4,-2,-3,-5,-6,-3,-2,-4]
theorem Fb_brd:Brd Fb:=by
 refine ⟨rfl,?_⟩;have:∀ i:Fin 64,-128≤Fb.getD i.val 0∧Fb.getD i.val 0≤127:=by decide +kernel
 exact fun i hi=>this ⟨i,hi⟩
theorem first_is (w:World):Calls Tryz.prog 52 #[] w fun e w'=>e=.returned (.agg (cl Fb).toArray)∧Kept w w':=by
 have hz:=Qh (Jf Fb_brd.1);have hbl:=heap_alloc_new w (.cells (cl Zb).toArray 24);have HB:=Qh hbl;clear hbl;go_enter Tryz.func52,Tryz.ntmps52
 go_wp2_with (first
  | (with_reducible refine wpList_new_b rfl rfl ?_)
  | (refine Jy rfl 24 _ rfl (cl Fb).toArray (by kernel_rfl) ?_)
  | (refine wpList_store_row rfl 24 _ _ rfl w.heap.size (cl Fb).toArray rfl rfl 24 _ HB.out hz.out (by rw [cl_size _ Zb_brd.1,cl_size _ Fb_brd.1]) (cl_one _) ?_))
 refine bodyPost_ret (v:=.agg (cl Fb).toArray) ?_ rfl ⟨rfl,?_⟩
 ·exact results_cell_row rfl _ _ w.heap.size 24 _ (0,0) _ rfl (setRow_heap _ _ _ _ _ _ HB.out) Tryz.underlying24 rfl hz.out
 ·exact ((Kept.refl _).alloc _).setRow (Nat.le_refl _) _
def al (x:Int):Int:=if manB x then x else 0
def aloneL (B:List Int):List Int:=tab fun i=>al (B.getD i 0)
def mid (f:Int→Int) (B:List Int) (k:Nat):Nat→Int:=fun i=>if i<k then f (B.getD i 0) else B.getD i 0
theorem mid_zero (f:Int→Int) (B:List Int) (h:B.length=64):tab (mid f B 0)=B:=by
 exact (tab_ext fun i hi=>by simp [mid]).trans (tab_of B h)
theorem mid_same {f:Int→Int} {B:List Int} {k:Nat} (h:f (B.getD k 0)=B.getD k 0):tab (mid f B (k+1))=tab (mid f B k):=by
 refine tab_ext fun i hi=>?_
 unfold mid;by_cases e:i=k
 ·subst e;rw [if_pos (by omega),if_neg (by omega),h]
 ·by_cases l:i<k
  ·rw [if_pos (by omega),if_pos l]
  ·rw [if_neg (by omega),if_neg l]
theorem mid_set {f:Int→Int} {B:List Int} {k:Nat} {y:Int} (h:f (B.getD k 0)=y):(tab (mid f B k)).set k y=tab (mid f B (k+1)):=by
 rw [tab_set];refine tab_ext fun i hi=>?_
 unfold mid;by_cases e:i=k
 ·subst e;rw [if_pos rfl,if_pos (by omega),h]
 ·rw [if_neg e]
  by_cases l:i<k
  ·rw [if_pos l,if_pos (by omega)]
  ·rw [if_neg l,if_neg (by omega)]
theorem mid_end (f:Int→Int) (B:List Int) (k:Nat) (h:¬ k<64):tab (mid f B k)=tab (fun i=>f (B.getD i 0)) :=
 tab_ext fun i hi=>by unfold mid;rw [if_pos (by omega)]
def RetB (w:World) (A:List Int) (e:Ending) (w':World):Prop:=e=.returned (.agg (cl A).toArray)∧Kept w w'
set_option maxRecDepth 100000 in
theorem menAlone_is (B:List Int) (hB:Brd B) (w:World) :
  Calls Tryz.prog 157 #[.agg (cl B).toArray] w (RetB w (aloneL B)):=by
 have H:=Qh hB;have hz:=Qh (Jf hB.1);have h00:=Qh (heap_alloc2_old w (.cells (cl B).toArray 24) (.cells (cl Zb).toArray 24));have h01:=Qh (heap_alloc2_new w (.cells (cl B).toArray 24) (.cells (cl Zb).toArray 24));clear hB;go_enter Tryz.func157,Tryz.ntmps157
 go_wp2_with (first
  | (with_reducible refine wpList_new_b rfl rfl ?_)
  | (with_reducible refine wpList_load_row rfl 24 _ rfl _ rfl _ _ _ _ h00.out Tryz.underlying24 rfl hz.out ?_))
 go_loopw [6] (fun i wr=>∃ k:Nat,k≤64∧i=.int .i64 k∧Hid (wr.heap[w.heap.size]?=some (.cells (cl (tab (mid al B k))).toArray 24 (0,0)))∧Hid (wr.heap[w.heap.size+1]?=some (.cells (cl Zb).toArray 24 (0,0)))∧Kept w wr) (fun i _=>64-(intOf i).toNat)
 case atStart=>exact ⟨0,by omega,rfl,by rw [mid_zero _ _ H.out.1];exact h00,h01,((Kept.refl _).alloc _).alloc _⟩
 case round =>
  obtain ⟨k,hk,rfl,g0,g1,hK⟩:=hrel;by_cases hlt:k<64
  ·have hx:=run_index_cl B H.out.1 k hlt
   obtain ⟨hb1,hb2⟩:=H.out.2 k hlt;obtain ⟨x,ex⟩:∃ x,x=B.getD k 0:=⟨_,rfl⟩;rw [← ex] at hx hb1 hb2;have EX:=Qh ex;clear ex;by_cases hm:manB x=true
   ·have HS:Hid (al (B.getD k 0)=B.getD k 0):=by rw [← EX.out];exact if_pos hm
    go_wp2_with fail
    refine (mright_any _ _).mono ?_;rintro e w' ⟨rfl,rfl⟩;go_wp2;go_roundw
    case rel=>exact ⟨k+1,by omega,by go_num,by rw [mid_same HS.out];exact g0,g1,hK⟩
    case measure=>simp [intOf];omega
   ·have hm':manB x=false:=by simpa using hm
    have HS:Hid (al (B.getD k 0)=0):=by rw [← EX.out];exact if_neg hm
    clear hm;have hc:=cell_cl (Qax _) g0.out k hlt;have hf:=frozen_of_row wr w.heap.size k _ _ g0.out;have hg:Hid _:=heap_set_cl (k:=k) 0 g0.out;have hg':Hid _:=(heap_setCell_other wr ⟨w.heap.size,k,none⟩ (w.heap.size+1) (.int .i8 0) (by simp)).trans g1.out;have hK':=hK.setCell (p:=⟨w.heap.size,k,none⟩) (Nat.le_refl _) (.int .i8 0);generalize (tab (mid al B k)).getD k 0=y at hc;go_wp2_with fail
    refine (mright_any _ _).mono ?_;rintro e w' ⟨rfl,rfl⟩;go_wp2;go_roundw
    case rel=>exact ⟨k+1,by omega,by go_num,by rw [← mid_set HS.out];exact hg,hg',hK'⟩
    case measure=>simp [intOf];omega
  ·have hz':=Qh (Jf (Qax (mid al B k)))
   go_wp2_with (first
    | (with_reducible refine wpList_load_row rfl 24 _ rfl _ rfl _ _ _ _ g0.out Tryz.underlying24 rfl hz'.out ?_)
    | (refine wpList_store_row rfl 24 _ _ rfl (w.heap.size+1) (cl (tab (mid al B k))).toArray rfl rfl 24 _ g1.out hz'.out (by rw [cl_size _ Zb_brd.1,cl_size _ (Qax _)]) (cl_one _) ?_))
   refine bodyPost_ret (v:=.agg (cl (tab (mid al B k))).toArray) ?_ rfl ⟨?_,?_⟩
   ·exact results_cell_row rfl _ _ (w.heap.size+1) 24 _ (0,0) _ rfl (setRow_heap _ _ _ _ _ _ g1.out) Tryz.underlying24 rfl hz'.out
   ·rw [mid_end _ _ _ hlt];rfl
   ·exact hK.setRow (by omega) _
theorem alone_eq (B:List Int) (hB:Brd B):beqB B (aloneL B)=Jq B:=by
 unfold aloneL;rw [Bool.eq_iff_iff,beqB_iff hB.1 (Qax _),rightB_iff B hB.1]
 have hal:∀ x,al x=x↔okB x=true:=by
  intro x;unfold al okB;by_cases h:manB x=true
  ·simp [h]
  ·rw [if_neg h,Bool.or_eq_true,beq_iff_eq]
   exact ⟨fun e=>.inl e.symm,fun e=>e.elim (fun e=>e.symm) (fun e=>absurd e h)⟩
 constructor
 ·intro h i hi
  have:B.getD i 0=al (B.getD i 0):=by
   have:=congrArg (fun l:List Int=>l.getD i 0) h;simpa only [tab_get _ i hi] using this
  exact (hal _).1 this.symm
 ·intro h
  rw [← tab_of B hB.1];refine (tab_ext fun i hi=>?_);rw [tab_of B hB.1];exact ((hal _).2 (h i hi)).symm
theorem al_brd (B:List Int) (hB:Brd B):Brd (aloneL B) :=
 tab_brd fun i hi=>by have:=hB.2 i hi;unfold al;split <;> omega
theorem take_load {ops:Array Oper} {S:World→Prop} {op:Oper} {a:Act} (hw:Region.wanted op (yielded ops a.tmps)=true) (x:Operand) (ho:op.op=.load 24 x)
  (g:Nat) (hx:a.eval x=.pointer (some ⟨g,0,none⟩)) (B:List Int) (hB:B.length=64) (hS:∀ w,S w→w.heap[g]?=some (.cells (cl B).toArray 24 (0,0))) :
  YieldsIf Tryz.prog ops S op (.agg (cl B).toArray) a :=
 yieldsIf_load_mid hw 24 x ho g 0 hx (cl B) _ (fun w h j v hv=>by rw [cell_of_row _ _ _ _ _ (0,0) (hS w h)];simpa using hv) Tryz.underlying24 rfl (by rw [size24,Yp,hB])
theorem take_eql {ops:Array Oper} {S:World→Prop} {op:Oper} {a:Act} {b:Bool} (hw:Region.wanted op (yielded ops a.tmps)=true) (x y:Operand) (ty:TypeId) (ho:op.op=.binOp .eql 24 x y ty)
  (A B:List Int) (hx:a.eval x=.agg (cl A).toArray) (hy:a.eval y=.agg (cl B).toArray) (h:A.length=64∧B.length=64∧beqB A B=b):YieldsIf Tryz.prog ops S op (.bool b) a :=
 .inl ⟨hw,fun w _=>by
  unfold execOp;simp only [ho,hx,hy,Sem.run_bind,run_eqGuard_cl,run_eql_cl A B h.1 h.2.1,Result.andThen_ok,Sem.run_pure,h.2.2]⟩
theorem bright_is (B:List Int) (hB:Brd B) (w:World) :
  Calls Tryz.prog 124 #[.agg (cl B).toArray] w fun e w'=>e=.returned (.bool (Jq B))∧Kept w w':=by
 have hbl:=Qh (heap_alloc_new w (.cells (cl B).toArray 24));have HB:=Qh hB;clear hB;go_enter Tryz.func124,Tryz.ntmps124;go_wp2;refine wp_region_held_drew (S:=Kept _) (by kernel_rfl) (Kept.refl _).drew (fun Qj=>?_);refine rY 0 3 rfl rfl (take_load (by rfl) _ rfl _ rfl B HB.out.1 (fun _ h=>h.heap (hbl.out))) Qj ?_;simp only [pA,pN,sZ,sU];refine rY 1 4 rfl rfl (take_load (by rfl) _ rfl _ rfl B HB.out.1 (fun _ h=>h.heap (hbl.out))) Qj ?_;simp only [pA,pN,sZ,sU];refine rR 2 rfl (fun K hK=>?_);go_simp;refine (menAlone_is B HB.out _).mono ?_;rintro e w1 ⟨rfl,gw1⟩;refine hK.out _ _ (Qj.trans gw1) (fun _=>?_);replace Qj:=Qj.trans gw1;clear hK K;refine rY 3 6 rfl rfl (take_eql (by rfl) _ _ _ rfl B (aloneL B) rfl rfl (⟨HB.out.1,(al_brd B HB.out).1,alone_eq B HB.out⟩)) Qj ?_;simp only [pA,pN,sZ,sU];refine rT 4 2 (.bool (Jq B)) rfl rfl Qj ?_;simp only [pA,pN,sZ,sU];refine wpAnyH_done (by kernel_rfl) ?_ _;go_wp2;go_ret;exact ⟨rfl,((Kept.refl _).alloc _).trans Qj⟩
def manyI (B:List Int) (kind side:Int):Int:=(many B kind side:Nat)
theorem many_i (B:List Int) (hB:Brd B) (kind side:Int) (w:World) :
  Calls Tryz.prog 125 #[.agg (cl B).toArray,.int .i64 kind,.int .i64 side] w fun e w'=>e=.returned (.int .i64 (manyI B kind side))∧Kept w w':=many_is B hB kind side w
theorem rmany_i (B:List Int) (hB:Brd B) (kind side:Int) (w:World) :
  Calls Tryz.prog 75 #[.agg (cl B).toArray,.int .i64 kind,.int .i64 side] w fun e w'=>e=.returned (.int .i64 (manyI B kind side))∧Kept w w':=rmany_is B hB kind side w
def Qx (B:List Int):Int :=
 if Jq B=false then 5 else if manyI B 6 0≠1∨manyI B 6 1≠1 then 6 else if edgeB B=true then 7 else if 16<manyI B 0 0∨16<manyI B 0 1 then 8 else 0
theorem wrong_is (B:List Int) (hB:Brd B) (w:World) :
  Calls Tryz.prog 85 #[.agg (cl B).toArray] w fun e w'=>e=.returned (.int .i64 (Qx B))∧Kept w w':=by
 have hbl:=Qh (heap_alloc_new w (.cells (cl B).toArray 24));have hk0:=(Kept.refl w).alloc (.cells (cl B).toArray 24);have hz:=Qh (Jf hB.1);have HB:=Qh hB;clear hB;by_cases h1:Jq B=true
 ·by_cases h2:(manyI B 6 0 != 1)=true
  ·have HW:Hid (6=Qx B):=by
    unfold Qx;rw [if_neg (by rw [h1];decide),if_pos (.inl (bne_iff_ne.1 h2))];rfl
   go_enter Tryz.func85,Tryz.ntmps85;go_wp2_with (refine Qf (by rfl) _ rfl _ rfl _ (hbl.out) hz.out ?_)
   refine (bright_is B HB.out _).mono ?_;rintro e w1 ⟨rfl,g1⟩;go_wp2_with (refine Qf (by rfl) _ rfl _ rfl _ (g1.heap hbl.out) hz.out ?_)
   refine (many_i B HB.out 6 0 _).mono ?_;rintro e w2 ⟨rfl,g2⟩;go_wp2;go_ret;exact ⟨Ys HW.out,(hk0.trans g1).trans g2⟩
  ·have h2':(manyI B 6 0 != 1)=false:=by simpa using h2
   by_cases h3:(manyI B 6 1 != 1)=true
   ·have HW:Hid (6=Qx B):=by
     unfold Qx;rw [if_neg (by rw [h1];decide),if_pos (.inr (bne_iff_ne.1 h3))];rfl
    clear h2;go_enter Tryz.func85,Tryz.ntmps85;go_wp2_with (refine Qf (by rfl) _ rfl _ rfl _ (hbl.out) hz.out ?_)
    refine (bright_is B HB.out _).mono ?_;rintro e w1 ⟨rfl,g1⟩;go_wp2_with (refine Qf (by rfl) _ rfl _ rfl _ (g1.heap hbl.out) hz.out ?_)
    refine (many_i B HB.out 6 0 _).mono ?_;rintro e w2 ⟨rfl,g2⟩;go_wp2_with (refine Qf (by rfl) _ rfl _ rfl _ ((g1.trans g2).heap hbl.out) hz.out ?_)
    refine (many_i B HB.out 6 1 _).mono ?_;rintro e w3 ⟨rfl,g3⟩;go_wp2;go_ret;exact ⟨Ys HW.out,((hk0.trans g1).trans g2).trans g3⟩
   ·have h3':(manyI B 6 1 != 1)=false:=by simpa using h3
    have hkings:Hid (¬ (manyI B 6 0≠1∨manyI B 6 1≠1)):=by
     have a1:manyI B 6 0=1:=by simpa using h2'
     have a2:manyI B 6 1=1:=by simpa using h3'
     show ¬ _;omega
    clear h2 h3;by_cases h4:edgeB B=true
    ·have HW:Hid (7=Qx B):=by
      unfold Qx;rw [if_neg (by rw [h1];decide),if_neg hkings.out,if_pos h4];rfl
     go_enter Tryz.func85,Tryz.ntmps85;go_wp2_with (refine Qf (by rfl) _ rfl _ rfl _ (hbl.out) hz.out ?_)
     refine (bright_is B HB.out _).mono ?_;rintro e w1 ⟨rfl,g1⟩;go_wp2_with (refine Qf (by rfl) _ rfl _ rfl _ (g1.heap hbl.out) hz.out ?_)
     refine (many_i B HB.out 6 0 _).mono ?_;rintro e w2 ⟨rfl,g2⟩;go_wp2_with (refine Qf (by rfl) _ rfl _ rfl _ ((g1.trans g2).heap hbl.out) hz.out ?_)
     refine (many_i B HB.out 6 1 _).mono ?_;rintro e w3 ⟨rfl,g3⟩;go_wp2_with (refine Qf (by rfl) _ rfl _ rfl _ (((g1.trans g2).trans g3).heap hbl.out) hz.out ?_)
     refine (pawnAtEdge_is B HB.out _).mono ?_;rintro e w4 ⟨rfl,g4⟩;go_wp2;go_ret;exact ⟨Ys HW.out,(((hk0.trans g1).trans g2).trans g3).trans g4⟩
    ·have h4':edgeB B=false:=by simpa using h4
     clear h4;by_cases h5:16<manyI B 0 0
     ·have HW:Hid (8=Qx B):=by
       unfold Qx;rw [if_neg (by rw [h1];decide),if_neg hkings.out,if_neg (by rw [h4'];decide),if_pos (.inl h5)];rfl
      go_enter Tryz.func85,Tryz.ntmps85;go_wp2_with (refine Qf (by rfl) _ rfl _ rfl _ (hbl.out) hz.out ?_)
      refine (bright_is B HB.out _).mono ?_;rintro e w1 ⟨rfl,g1⟩;go_wp2_with (refine Qf (by rfl) _ rfl _ rfl _ (g1.heap hbl.out) hz.out ?_)
      refine (many_i B HB.out 6 0 _).mono ?_;rintro e w2 ⟨rfl,g2⟩;go_wp2_with (refine Qf (by rfl) _ rfl _ rfl _ ((g1.trans g2).heap hbl.out) hz.out ?_)
      refine (many_i B HB.out 6 1 _).mono ?_;rintro e w3 ⟨rfl,g3⟩;go_wp2_with (refine Qf (by rfl) _ rfl _ rfl _ (((g1.trans g2).trans g3).heap hbl.out) hz.out ?_)
      refine (pawnAtEdge_is B HB.out _).mono ?_;rintro e w4 ⟨rfl,g4⟩;go_wp2_with (refine Qf (by rfl) _ rfl _ rfl _ ((((g1.trans g2).trans g3).trans g4).heap hbl.out) hz.out ?_)
      refine (many_i B HB.out 0 0 _).mono ?_;rintro e w5 ⟨rfl,g5⟩;go_wp2;go_ret;exact ⟨Ys HW.out,((((hk0.trans g1).trans g2).trans g3).trans g4).trans g5⟩
     ·have h5':decide (16<manyI B 0 0)=false:=by simpa using h5
      by_cases h6:16<manyI B 0 1
      all_goals
       have h6':decide (16<manyI B 0 1)=decide (16<manyI B 0 1):=rfl
      ·have HW:Hid (8=Qx B):=by
        unfold Qx;rw [if_neg (by rw [h1];decide),if_neg hkings.out,if_neg (by rw [h4'];decide),if_pos (.inr h6)];rfl
       clear h6';go_enter Tryz.func85,Tryz.ntmps85;go_wp2_with (refine Qf (by rfl) _ rfl _ rfl _ (hbl.out) hz.out ?_)
       refine (bright_is B HB.out _).mono ?_;rintro e w1 ⟨rfl,g1⟩;go_wp2_with (refine Qf (by rfl) _ rfl _ rfl _ (g1.heap hbl.out) hz.out ?_)
       refine (many_i B HB.out 6 0 _).mono ?_;rintro e w2 ⟨rfl,g2⟩;go_wp2_with (refine Qf (by rfl) _ rfl _ rfl _ ((g1.trans g2).heap hbl.out) hz.out ?_)
       refine (many_i B HB.out 6 1 _).mono ?_;rintro e w3 ⟨rfl,g3⟩;go_wp2_with (refine Qf (by rfl) _ rfl _ rfl _ (((g1.trans g2).trans g3).heap hbl.out) hz.out ?_)
       refine (pawnAtEdge_is B HB.out _).mono ?_;rintro e w4 ⟨rfl,g4⟩;go_wp2_with (refine Qf (by rfl) _ rfl _ rfl _ ((((g1.trans g2).trans g3).trans g4).heap hbl.out) hz.out ?_)
       refine (many_i B HB.out 0 0 _).mono ?_;rintro e w5 ⟨rfl,g5⟩;go_wp2_with (refine Qf (by rfl) _ rfl _ rfl _ (((((g1.trans g2).trans g3).trans g4).trans g5).heap hbl.out) hz.out ?_)
       refine (many_i B HB.out 0 1 _).mono ?_;rintro e w6 ⟨rfl,g6⟩;go_wp2;go_ret;exact ⟨Ys HW.out,(((((hk0.trans g1).trans g2).trans g3).trans g4).trans g5).trans g6⟩
      ·have HW:Hid (0=Qx B):=by
        unfold Qx;rw [if_neg (by rw [h1];decide),if_neg hkings.out,if_neg (by rw [h4'];decide),if_neg (by omega)];rfl
       clear h6';have h6':decide (16<manyI B 0 1)=false:=by simpa using h6
       go_enter Tryz.func85,Tryz.ntmps85;go_wp2_with (refine Qf (by rfl) _ rfl _ rfl _ (hbl.out) hz.out ?_)
       refine (bright_is B HB.out _).mono ?_;rintro e w1 ⟨rfl,g1⟩;go_wp2_with (refine Qf (by rfl) _ rfl _ rfl _ (g1.heap hbl.out) hz.out ?_)
       refine (many_i B HB.out 6 0 _).mono ?_;rintro e w2 ⟨rfl,g2⟩;go_wp2_with (refine Qf (by rfl) _ rfl _ rfl _ ((g1.trans g2).heap hbl.out) hz.out ?_)
       refine (many_i B HB.out 6 1 _).mono ?_;rintro e w3 ⟨rfl,g3⟩;go_wp2_with (refine Qf (by rfl) _ rfl _ rfl _ (((g1.trans g2).trans g3).heap hbl.out) hz.out ?_)
       refine (pawnAtEdge_is B HB.out _).mono ?_;rintro e w4 ⟨rfl,g4⟩;go_wp2_with (refine Qf (by rfl) _ rfl _ rfl _ ((((g1.trans g2).trans g3).trans g4).heap hbl.out) hz.out ?_)
       refine (many_i B HB.out 0 0 _).mono ?_;rintro e w5 ⟨rfl,g5⟩;go_wp2_with (refine Qf (by rfl) _ rfl _ rfl _ (((((g1.trans g2).trans g3).trans g4).trans g5).heap hbl.out) hz.out ?_)
       refine (many_i B HB.out 0 1 _).mono ?_;rintro e w6 ⟨rfl,g6⟩;go_wp2;go_ret;exact ⟨Ys HW.out,(((((hk0.trans g1).trans g2).trans g3).trans g4).trans g5).trans g6⟩
 ·have h1':Jq B=false:=by simpa using h1
  clear h1
  have HW:Hid (5=Qx B):=by
   unfold Qx;rw [if_pos h1'];rfl
  go_enter Tryz.func85,Tryz.ntmps85;go_wp2_with (refine Qf (by rfl) _ rfl _ rfl _ (hbl.out) hz.out ?_)
  refine (bright_is B HB.out _).mono ?_;rintro e w1 ⟨rfl,g1⟩;go_wp2;go_ret;exact ⟨Ys HW.out,hk0.trans g1⟩
theorem hit_w (x:Int):hit 6 0 x=(x == 6):=by
 rw [Bool.eq_iff_iff,beq_iff_eq];unfold hit sideI kindI;by_cases h:manB x=true
 ·have:=(Jk x).1 h
  by_cases h0:0<x
  ·simp [h,h0]
  ·simp [h,h0];omega
 ·have:=(manB_not x).1 (by simpa using h)
  simp [h];omega
theorem hit_b (x:Int):hit 6 1 x=(x == -6):=by
 rw [Bool.eq_iff_iff,beq_iff_eq];unfold hit sideI kindI;by_cases h:manB x=true
 ·have:=(Jk x).1 h
  by_cases h0:0<x
  ·simp [h,h0];omega
  ·simp [h,h0];omega
 ·have:=(manB_not x).1 (by simpa using h)
  simp [h];omega
theorem kings_w (B:List Int):((Yq B 6).length:Int)=manyI B 6 0:=by
 unfold manyI many Yq cnt;simp only [hit_w]
theorem kings_b (B:List Int):((Yq B (-6)).length:Int)=manyI B 6 1:=by
 unfold manyI many Yq cnt;simp only [hit_b]
def rEdge (B:List Int) (f:Nat):Bool:=B.getD f 0 == 1 || B.getD f 0 == -1 || B.getD (56+f) 0 == 1 || B.getD (56+f) 0 == -1
theorem edge_low (B:List Int) (f:Nat) (h:f<8):edge B f=(B.getD f 0 == 1 || B.getD f 0 == -1):=by
 unfold edge;have e:(((f:Int) / 8 == 0))=true:=by rw [beq_iff_eq];omega
 rw [e,kindI_one];simp
theorem edge_high (B:List Int) (f:Nat) (h:f<8):edge B (56+f)=(B.getD (56+f) 0 == 1 || B.getD (56+f) 0 == -1):=by
 unfold edge;have e:((((56+f:Nat):Int) / 8 == 7))=true:=by rw [beq_iff_eq];omega
 rw [e,kindI_one];simp
theorem edge_mid (B:List Int) (i:Nat) (h0:8≤i) (h1:i<56):edge B i=false:=by
 unfold edge;have e1:(((i:Int) / 8 == 0))=false:=by rw [beq_eq_false_iff_ne];omega
 have e2:(((i:Int) / 8 == 7))=false:=by rw [beq_eq_false_iff_ne];omega
 rw [e1,e2];simp
theorem rEdge_edge (B:List Int) (f:Nat) (h:f<8):rEdge B f=(edge B f || edge B (56+f)):=by
 rw [edge_low B f h,edge_high B f h];unfold rEdge;simp only [Bool.or_assoc]
theorem edgeB_false (B:List Int) (h:∀ f,f<8→rEdge B f=false):edgeB B=false:=by
 unfold edgeB;rw [List.any_eq_false];intro i hi;have hi:i<64:=by simpa using hi
 by_cases h0:i<8
 ·have:=h i h0
  rw [rEdge_edge B i h0,Bool.or_eq_false_iff] at this;rw [this.1];decide
 ·by_cases h1:i<56
  ·rw [edge_mid B i (by omega) h1];decide
  ·have:=h (i-56) (by omega)
   rw [rEdge_edge B _ (by omega),Bool.or_eq_false_iff,show 56+(i-56)=i by omega] at this;rw [this.2];decide
theorem edgeB_true (B:List Int) (f:Nat) (hf:f<8) (h:rEdge B f=true):edgeB B=true:=by
 unfold edgeB;rw [List.any_eq_true];rw [rEdge_edge B f hf,Bool.or_eq_true] at h;rcases h with h|h
 ·exact ⟨f,by simp;omega,h⟩
 ·exact ⟨56+f,by simp;omega,h⟩
theorem Qan (B:List Int) (hB:Brd B) (w:World) :
  Calls Tryz.prog 30 #[.agg (cl B).toArray] w fun e w'=>e=.returned (.int .i64 (Qx B))∧Kept w w':=by
 have hbl:=Qh (heap_alloc_new w (.cells (cl B).toArray 24));have hk0:=(Kept.refl w).alloc (.cells (cl B).toArray 24);have hz:=Qh (Jf hB.1);have HB:=Qh hB;clear hB;by_cases h1:Jq B=true
 ·by_cases h2:(manyI B 6 0 != 1)=true
  ·have HW:Hid (6=Qx B):=by
    unfold Qx;rw [if_neg (by rw [h1];decide),if_pos (.inl (bne_iff_ne.1 h2))];rfl
   go_enter Tryz.func30,Tryz.ntmps30;go_wp2_with (refine Qf (by rfl) _ rfl _ rfl _ (hbl.out) hz.out ?_)
   refine (rright_is B HB.out _).mono ?_;rintro e w1 ⟨rfl,g1⟩;go_wp2_with (refine Qf (by rfl) _ rfl _ rfl _ (g1.heap hbl.out) hz.out ?_)
   refine (Qao B HB.out 6 _).mono ?_;rintro e w2 ⟨v,rfl,o2,g2⟩;obtain ⟨aa,cap,rfl⟩:=o2.slice;have hlen:=kings_w B;clear o2;go_wp2;go_ret;exact ⟨Ys HW.out,(hk0.trans g1).trans g2⟩
  ·have h2':(manyI B 6 0 != 1)=false:=by simpa using h2
   by_cases h3:(manyI B 6 1 != 1)=true
   ·have HW:Hid (6=Qx B):=by
     unfold Qx;rw [if_neg (by rw [h1];decide),if_pos (.inr (bne_iff_ne.1 h3))];rfl
    clear h2;go_enter Tryz.func30,Tryz.ntmps30;go_wp2_with (refine Qf (by rfl) _ rfl _ rfl _ (hbl.out) hz.out ?_)
    refine (rright_is B HB.out _).mono ?_;rintro e w1 ⟨rfl,g1⟩;go_wp2_with (refine Qf (by rfl) _ rfl _ rfl _ (g1.heap hbl.out) hz.out ?_)
    refine (Qao B HB.out 6 _).mono ?_;rintro e w2 ⟨v,rfl,o2,g2⟩;obtain ⟨aa,cap,rfl⟩:=o2.slice;have hlen:=kings_w B;clear o2;go_wp2_with (refine Qf (by rfl) _ rfl _ rfl _ ((g1.trans g2).heap hbl.out) hz.out ?_)
    refine (Qao B HB.out (-6) _).mono ?_;rintro e w3 ⟨v,rfl,o3,g3⟩;obtain ⟨ab,cap',rfl⟩:=o3.slice;have hlen':=kings_b B;clear o3;go_wp2;go_ret;exact ⟨Ys HW.out,((hk0.trans g1).trans g2).trans g3⟩
   ·have h3':(manyI B 6 1 != 1)=false:=by simpa using h3
    have hkings:Hid (¬ (manyI B 6 0≠1∨manyI B 6 1≠1)):=by
     have a1:manyI B 6 0=1:=by simpa using h2'
     have a2:manyI B 6 1=1:=by simpa using h3'
     show ¬ _;omega
    clear h2 h3;rcases first_or (rEdge B) 8 with h4|⟨n,hn,h4,h5⟩
    ·have h4':edgeB B=false:=edgeB_false B h4
     have H4:=Qh h4;clear h4;go_enter Tryz.func30,Tryz.ntmps30;go_wp2_with (refine Qf (by rfl) _ rfl _ rfl _ (hbl.out) hz.out ?_)
     refine (rright_is B HB.out _).mono ?_;rintro e w1 ⟨rfl,g1⟩;go_wp2_with (refine Qf (by rfl) _ rfl _ rfl _ (g1.heap hbl.out) hz.out ?_)
     refine (Qao B HB.out 6 _).mono ?_;rintro e w2 ⟨v,rfl,o2,g2⟩;obtain ⟨aa,cap,rfl⟩:=o2.slice;have hlen:=kings_w B;clear o2;go_wp2_with (refine Qf (by rfl) _ rfl _ rfl _ ((g1.trans g2).heap hbl.out) hz.out ?_)
     refine (Qao B HB.out (-6) _).mono ?_;rintro e w3 ⟨v,rfl,o3,g3⟩;obtain ⟨ab,cap',rfl⟩:=o3.slice;have hlen':=kings_b B;clear o3;go_wp2;have hbl3:=Qh (((g1.trans g2).trans g3).heap hbl.out);have hk3:=((hk0.trans g1).trans g2).trans g3;clear hlen hlen' g1 g2 g3 hk0
     go_loop [3] (fun i=>∃ k:Nat,k≤8∧i=.int .i64 k) (fun i=>8-(intOf i).toNat)
     case atStart=>exact ⟨0,by omega,rfl⟩
     case round =>
      obtain ⟨k,hk,rfl⟩:=hrel;by_cases hlt:k<8
      ·have hc:w3.cell? ⟨w.heap.size,k,none⟩=some (.int .i8 (B.getD k 0)):=by
        rw [cell_of_row _ _ k _ _ (0,0) hbl3.out];simpa using cl_get B k (by rw [HB.out.1];omega)
       have hc':w3.cell? ⟨w.heap.size,56+k,none⟩=some (.int .i8 (B.getD (56+k) 0)):=by
        rw [cell_of_row _ _ (56+k) _ _ (0,0) hbl3.out];simpa using cl_get B (56+k) (by rw [HB.out.1];omega)
       have hn:=H4.out k hlt;unfold rEdge at hn;simp only [Bool.or_eq_false_iff] at hn;obtain ⟨⟨⟨n1,n2⟩,n3⟩,n4⟩:=hn;have ei:((56:Int)+(k:Int)).toNat=56+k:=by omega
       generalize B.getD k 0=x at *;generalize B.getD (56+k) 0=y at *;go_wp2
       go_round
       case rel=>exact ⟨k+1,by omega,by go_num⟩
       case measure=>simp [intOf];omega
      ·clear H4
       by_cases h5:16<manyI B 0 0
       ·have HW:Hid (8=Qx B):=by
         unfold Qx;rw [if_neg (by rw [h1];decide),if_neg hkings.out,if_neg (by rw [h4'];decide),if_pos (.inl h5)];rfl
        go_wp2_with (refine Qf (by rfl) _ rfl _ rfl _ (hbl3.out) hz.out ?_)
        refine (rmany_i B HB.out 0 0 _).mono ?_;rintro e w5 ⟨rfl,g5⟩;go_wp2;go_ret;exact ⟨Ys HW.out,hk3.trans g5⟩
       ·have h5':decide (16<manyI B 0 0)=false:=by simpa using h5
        by_cases h6:16<manyI B 0 1
        ·have HW:Hid (8=Qx B):=by
          unfold Qx;rw [if_neg (by rw [h1];decide),if_neg hkings.out,if_neg (by rw [h4'];decide),if_pos (.inr h6)];rfl
         go_wp2_with (refine Qf (by rfl) _ rfl _ rfl _ (hbl3.out) hz.out ?_)
         refine (rmany_i B HB.out 0 0 _).mono ?_;rintro e w5 ⟨rfl,g5⟩;go_wp2_with (refine Qf (by rfl) _ rfl _ rfl _ (g5.heap hbl3.out) hz.out ?_)
         refine (rmany_i B HB.out 0 1 _).mono ?_;rintro e w6 ⟨rfl,g6⟩;go_wp2;go_ret;exact ⟨Ys HW.out,(hk3.trans g5).trans g6⟩
        ·have HW:Hid (0=Qx B):=by
          unfold Qx;rw [if_neg (by rw [h1];decide),if_neg hkings.out,if_neg (by rw [h4'];decide),if_neg (by omega)];rfl
         have h6':decide (16<manyI B 0 1)=false:=by simpa using h6
         go_wp2_with (refine Qf (by rfl) _ rfl _ rfl _ (hbl3.out) hz.out ?_)
         refine (rmany_i B HB.out 0 0 _).mono ?_;rintro e w5 ⟨rfl,g5⟩;go_wp2_with (refine Qf (by rfl) _ rfl _ rfl _ (g5.heap hbl3.out) hz.out ?_)
         refine (rmany_i B HB.out 0 1 _).mono ?_;rintro e w6 ⟨rfl,g6⟩;go_wp2;go_ret;exact ⟨Ys HW.out,(hk3.trans g5).trans g6⟩
    ·have HW:Hid (7=Qx B):=by
      unfold Qx;rw [if_neg (by rw [h1];decide),if_neg hkings.out,if_pos (edgeB_true B n hn h4)];rfl
     have H4:=Qh h4;have H5:=Qh h5;clear h4 h5;go_enter Tryz.func30,Tryz.ntmps30;go_wp2_with (refine Qf (by rfl) _ rfl _ rfl _ (hbl.out) hz.out ?_)
     refine (rright_is B HB.out _).mono ?_;rintro e w1 ⟨rfl,g1⟩;go_wp2_with (refine Qf (by rfl) _ rfl _ rfl _ (g1.heap hbl.out) hz.out ?_)
     refine (Qao B HB.out 6 _).mono ?_;rintro e w2 ⟨v,rfl,o2,g2⟩;obtain ⟨aa,cap,rfl⟩:=o2.slice;have hlen:=kings_w B;clear o2;go_wp2_with (refine Qf (by rfl) _ rfl _ rfl _ ((g1.trans g2).heap hbl.out) hz.out ?_)
     refine (Qao B HB.out (-6) _).mono ?_;rintro e w3 ⟨v,rfl,o3,g3⟩;obtain ⟨ab,cap',rfl⟩:=o3.slice;have hlen':=kings_b B;clear o3;go_wp2;have hbl3:=Qh (((g1.trans g2).trans g3).heap hbl.out);have hk3:=((hk0.trans g1).trans g2).trans g3;clear hlen hlen' g1 g2 g3 hk0
     go_loop [3] (fun i=>∃ k:Nat,k≤n∧i=.int .i64 k) (fun i=>8-(intOf i).toNat)
     case atStart=>exact ⟨0,by omega,rfl⟩
     case round =>
      obtain ⟨k,hk,rfl⟩:=hrel;have hlt:k<8:=by omega
      have hc:w3.cell? ⟨w.heap.size,k,none⟩=some (.int .i8 (B.getD k 0)):=by
       rw [cell_of_row _ _ k _ _ (0,0) hbl3.out];simpa using cl_get B k (by rw [HB.out.1];omega)
      have hc':w3.cell? ⟨w.heap.size,56+k,none⟩=some (.int .i8 (B.getD (56+k) 0)):=by
       rw [cell_of_row _ _ (56+k) _ _ (0,0) hbl3.out];simpa using cl_get B (56+k) (by rw [HB.out.1];omega)
      have ei:((56:Int)+(k:Int)).toNat=56+k:=by omega
      by_cases he:k=n
      ·subst he
       have hn:=H4.out;unfold rEdge at hn;generalize B.getD k 0=x at *;generalize B.getD (56+k) 0=y at *;by_cases n1:(x == 1)=true
       ·clear hn
        go_wp2;go_ret;exact ⟨Ys HW.out,hk3⟩
       ·have n1':(x == 1)=false:=by simpa using n1
        by_cases n2:(x == -1)=true
        ·clear hn n1
         go_wp2;go_ret;exact ⟨Ys HW.out,hk3⟩
        ·have n2':(x == -1)=false:=by simpa using n2
         by_cases n3:(y == 1)=true
         ·clear hn n1 n2
          go_wp2;go_ret;exact ⟨Ys HW.out,hk3⟩
         ·have n3':(y == 1)=false:=by simpa using n3
          rw [n1',n2',n3'] at hn;have n4:(y == -1)=true:=by simpa using hn
          clear hn n1 n2 n3;go_wp2;go_ret;exact ⟨Ys HW.out,hk3⟩
      ·have hn:=H5.out k (by omega)
       have hkn:k<n:=by omega
       clear he;unfold rEdge at hn;simp only [Bool.or_eq_false_iff] at hn;obtain ⟨⟨⟨n1,n2⟩,n3⟩,n4⟩:=hn;generalize B.getD k 0=x at *;generalize B.getD (56+k) 0=y at *;go_wp2
       go_round
       case rel=>exact ⟨k+1,by omega,by go_num⟩
       case measure=>simp [intOf];omega
 ·have h1':Jq B=false:=by simpa using h1
  clear h1
  have HW:Hid (5=Qx B):=by
   unfold Qx;rw [if_pos h1'];rfl
  go_enter Tryz.func30,Tryz.ntmps30;go_wp2_with (refine Qf (by rfl) _ rfl _ rfl _ (hbl.out) hz.out ?_)
  refine (rright_is B HB.out _).mono ?_;rintro e w1 ⟨rfl,g1⟩;go_wp2;go_ret;exact ⟨Ys HW.out,hk0.trans g1⟩
end Go.Proofs.YtlpeiolgcaddjaaGreatDoor
