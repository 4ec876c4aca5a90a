/- SqC · MeB · MvS: my texts, in their order. -/
import Derived.Test.YtlpeiolgcaddjaaGreatDoorPkA
import Derived.Test.YtlpeiolgcaddjaaGreatDoorPkL
import Derived.Test.YtlpeiolgcaddjaaGreatDoorPkO
import Derived.Deep.QuietTactic
import Derived.BigQuiet
import Derived.Laws.Cover4
import Derived.WalkSpells
import Derived.Laws.RangeAny
import Derived.Laws.Runes
import Derived.Laws.IdiomStrings
namespace Go.Proofs.YtlpeiolgcaddjaaGreatDoor
open Go.RowKit
set_option linter.unusedVariables false
def Qu (s:Int):ByteArray:=⟨#[(97+(s % 8).toNat).toUInt8,(49+(s / 8).toNat).toUInt8]⟩
theorem runes_name (n:Nat) (h:n<64):runesBytes [97+(n:Int) % 8,49+(n:Int) / 8]=Qu n:=by
 have:∀ m:Fin 64,runesBytes [97+((m:Nat):Int) % 8,49+((m:Nat):Int) / 8]=Qu ((m:Nat):Int):=by decide +kernel
 exact this ⟨n,h⟩
theorem cut_name (n:Nat) (h:n<64):(⟨#[97,98,99,100,101,102,103,104]⟩:ByteArray).extract ((n:Int) % 8).toNat ((n:Int) % 8+1).toNat++(⟨#[49,50,51,52,53,54,55,56]⟩:ByteArray).extract ((n:Int) / 8).toNat ((n:Int) / 8+1).toNat=Qu n:=by
 have:∀ m:Fin 64,(⟨#[97,98,99,100,101,102,103,104]⟩:ByteArray).extract (((m:Nat):Int) % 8).toNat (((m:Nat):Int) % 8+1).toNat++(⟨#[49,50,51,52,53,54,55,56]⟩:ByteArray).extract (((m:Nat):Int) / 8).toNat (((m:Nat):Int) / 8+1).toNat=Qu ((m:Nat):Int):=by decide +kernel
 exact this ⟨n,h⟩

theorem cut_name' (s:Int) (h0:0≤s) (h1:s<64):(⟨#[97,98,99,100,101,102,103,104]⟩:ByteArray).extract (s % 8).toNat (s % 8+1).toNat++(⟨#[49,50,51,52,53,54,55,56]⟩:ByteArray).extract (s / 8).toNat (s / 8+1).toNat=Qu s:=by
 obtain ⟨n,rfl⟩:=Int.eq_ofNat_of_zero_le h0;exact cut_name n (by omega)

theorem conv_name (s:Int) (h0:0≤s) (h1:s<64) (w:World) :
  (convert 82 9 (.slice (some ⟨w.heap.size,0,none⟩) 2 2)).run Tryz.prog (w.alloc (.cells #[.int .i32 (97+s % 8),.int .i32 (49+s / 8)] 21))=.ok (.string (Qu s)) (w.alloc (.cells #[.int .i32 (97+s % 8),.int .i32 (49+s / 8)] 21)):=by
 obtain ⟨n,rfl⟩:=Int.eq_ofNat_of_zero_le h0;rw [run_convert_runes _ 82 9 21 _ 2 2 [97+(n:Int) % 8,49+(n:Int) / 8] (by simp) Tryz.underlying82 Tryz.underlying21 Tryz.underlying9 ?_]
 ·rw [← runes_name n (by omega)];rfl
 ·intro j hj
  match j,hj with
  | 0,_=>simp [Addr.add,go_sem]
  | 1,_=>simp [Addr.add,go_sem]
theorem name_yes (s:Int) (w:World) (h0:0≤s) (h1:s<64) :
  Calls Tryz.prog 29 #[.int .i64 s] w fun e w'=>e=.returned (.string (Qu s))∧w'=w.alloc (.cells #[.int .i32 (97+s % 8),.int .i32 (49+s / 8)] 21):=by
 have hc:=conv_name s h0 h1 w;go_enter Tryz.func29,Tryz.ntmps29;go_wp2_with (first|(go_at_call 70;refine (Qaf _ _ (by omega) (by omega)).mono ?_;rintro e w' ⟨rfl,rfl⟩)|(go_at_call 71;refine (Qal _ _ (by omega) (by omega)).mono ?_;rintro e w' ⟨rfl,rfl⟩)|(go_at_call 72;refine (Ja _ _ (by omega) (by omega)).mono ?_;rintro e w' ⟨rfl,rfl⟩))
 go_ret;exact ⟨rfl,rfl⟩
theorem name_grown (s:Int) (w:World) (h0:0≤s) (h1:s<64) :
  Calls Tryz.prog 29 #[.int .i64 s] w fun e w'=>e=.returned (.string (Qu s))∧Grown w w' :=
 (name_yes s w h0 h1).mono fun _ _ ⟨he,hw⟩=>⟨he,by rw [hw];exact (Grown.refl _).alloc _ _⟩
theorem inOrd_inj {a b:Nat} (ha:a<12) (hb:b<12) (h:a≠b):inOrd a≠inOrd b:=by
 unfold inOrd;split <;> split <;> omega
def letters:ByteArray:=⟨#[75,81,82,66,78,80,107,113,114,98,110,112]⟩
def signs:ByteArray:=⟨#[226,153,148,226,153,149,226,153,150,226,153,151,226,153,152,226,153,153,226,153,154,226,153,155,226,153,156,226,153,157,226,153,158,226,153,159]⟩
def runeL (n:Nat):Nat:=[75,81,82,66,78,80,107,113,114,98,110,112].getD n 0
def Twelve (all:ByteArray) (k:Nat) (r:Nat→Nat):Prop:=all.size=12*k∧1≤k∧(∀ n,n<12→Utf8.decode all (k*n)=(r n,k))∧(∀ a b,a<12→b<12→a≠b→r a≠r b)∧(∀ n,n<12→r n<10000)
theorem twelve_letters:Twelve letters 1 runeL:=by
 refine ⟨rfl,by omega,?_,?_,?_⟩
 ·have:∀ n:Fin 12,Utf8.decode letters (1*n.val)=(runeL n.val,1):=by decide +kernel
  exact fun n h=>this ⟨n,h⟩
 ·have:∀ a b:Fin 12,a.val≠b.val→runeL a.val≠runeL b.val:=by decide +kernel
  exact fun a b ha hb=>this ⟨a,ha⟩ ⟨b,hb⟩
 ·have:∀ n:Fin 12,runeL n.val<10000:=by decide +kernel
  exact fun n h=>this ⟨n,h⟩
theorem twelve_next {all:ByteArray} {k:Nat} {r:Nat→Nat} (h:Twelve all k r) (w:World) (j:Nat) (hj:j<12) (ty:TypeId) :
  (Instr.next (.pointer (some ⟨w.heap.size,0,none⟩)) true ty).run Tryz.prog (w.iter all (k*j))=.ok (.tuple #[.bool true,.int .i64 (k*j:Nat),.int .i32 (r j:Nat)]) (w.iter all (k*(j+1))):=by
 have hp:k*j<all.size:=by rw [h.1,Nat.mul_comm];exact Nat.mul_lt_mul_of_pos_right hj h.2.1
 rw [run_next_any w all (k*j) ty hp,h.2.2.1 j hj,Nat.mul_succ]
theorem pick_yes (all:ByteArray) (k:Nat) (r:Nat→Nat) (T:Twelve all k r) (n:Nat) (hn:n<12) (w:World) :
  Calls Tryz.prog 173 #[.string all,.int .i64 (inOrd n)] w fun e w'=>e=.returned (.string (Utf8.encode (r n:Nat)))∧Grown w w':=by
 have HT:=Qh T;clear T;go_enter Tryz.func173,Tryz.ntmps173;go_wp2
 go_loopw [5] (fun t5 w'=>∃ j:Nat,j≤n∧t5=.int .i64 j∧w'=w.iter all (k*j)) (fun t5 _=>12-(intOf t5).toNat)
 case atStart=>exact ⟨0,by omega,rfl,rfl⟩
 case round =>
  obtain ⟨j,hj,rfl,rfl⟩:=hrel;have hnx:=twelve_next HT.out w j (by omega);by_cases he:j=n
  ·subst he
   go_wp2_with fail
   refine (inOrder_is j _ (by omega)).mono ?_;rintro e w' ⟨rfl,rfl⟩;go_wp2;go_ret;exact ⟨rfl,grown_iter _ _ _⟩
  ·have b1:(inOrd j == inOrd n)=false:=beq_eq_false_iff_ne.2 (inOrd_inj (by omega) (by omega) he)
   have hlt:j<n:=by omega
   clear he;go_wp2_with fail
   refine (inOrder_is j _ (by omega)).mono ?_;rintro e w' ⟨rfl,rfl⟩;go_wp2;go_roundw
   case rel=>exact ⟨j+1,by omega,by go_num,rfl⟩
   case measure=>simp [intOf];omega
def lettN (n:Nat):ByteArray:=⟨#[(runeL n).toUInt8]⟩
theorem enc_letter (n:Nat) (h:n<12):Utf8.encode (runeL n:Nat)=lettN n:=by
 have:∀ n:Fin 12,Utf8.encode (runeL n.val:Nat)=lettN n.val:=by decide +kernel
 exact this ⟨n,h⟩
theorem letter_yes (n:Nat) (hn:n<12) (w:World) :
  Calls Tryz.prog 152 #[.int .i64 (inOrd n)] w fun e w'=>e=.returned (.string (lettN n))∧Grown w w':=by
 go_enter Tryz.func152,Tryz.ntmps152;go_wp2_with fail
 refine (pick_yes letters 1 runeL twelve_letters n hn _).mono ?_;rw [enc_letter n hn];rintro e w1 ⟨rfl,g1⟩;go_wp2;go_ret;exact ⟨rfl,g1⟩
set_option linter.unusedSimpArgs false
set_option maxRecDepth 100000
theorem name_k (s:Int) (w:World) (h0:0≤s) (h1:s<64):Calls Tryz.prog 29 #[.int .i64 s] w fun e w'=>e=.returned (.string (Qu s))∧Kept w w' :=
 (name_grown s w h0 h1).mono fun _ _ ⟨a,b⟩=>⟨a,Kept.of_grown b⟩
end Go.Proofs.YtlpeiolgcaddjaaGreatDoor
