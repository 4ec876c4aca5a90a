/- NoA: my texts, in their order. -/
import Derived.Test.YtlpeiolgcaddjaaGreatDoorPkLh
import Derived.Test.YtlpeiolgcaddjaaGreatDoorPkU
namespace Go.Proofs.YtlpeiolgcaddjaaGreatDoor
open Go.RowKit
set_option linter.unusedVariables false
set_option linter.unusedSimpArgs false
set_option maxRecDepth 100000
def capK (k:Int):ByteArray:=lettN (6-k).toNat
def kdI (p:Ps) (m:Mv):Int:=kindI (bAt p.B m.f)
def headK (k:Int):ByteArray:=if k=1 then ⟨#[]⟩ else capK k
def tailB (n:Int):ByteArray:=if n=0 then ⟨#[]⟩ else ⟨#[61]⟩++capK n
def Js (m:Mv):ByteArray:=if m.f % 8<m.t % 8 then ⟨#[79,45,79]⟩ else ⟨#[79,45,79,45,79]⟩
def fileT (s:Int):ByteArray:=⟨#[(97+(s % 8).toNat).toUInt8]⟩
def rankT (s:Int):ByteArray:=⟨#[(49+(s / 8).toNat).toUInt8]⟩
def rivB (p:Ps) (m n:Mv):Bool:=((n.t == m.t) && (n.f != m.f)) && (kdI p n == kdI p m)
def rivL (p:Ps) (m:Mv) (L:List Mv):List Int:=(L.filter (rivB p m)).map (·.f)
def sameF (a b:Int):Bool:=a % 8 == b % 8
def sameR (a b:Int):Bool:=a / 8 == b / 8
def Yh (p:Ps) (m:Mv) (L:List Mv):ByteArray :=
 if kdI p m=1 then (if takeB p m then fileT m.f else ⟨#[]⟩)
 else if (rivL p m L).length=0 then ⟨#[]⟩
 else if (rivL p m L).any (fun s=>sameF s m.f) then (if (rivL p m L).any (fun s=>sameR s m.f) then Qu m.f else rankT m.f) else fileT m.f
def signB (p:Ps) (m:Mv) (sg:ByteArray):ByteArray:=if takeB p m then ⟨#[120]⟩ else sg
def bareB (p:Ps) (m:Mv) (fr sg:ByteArray):ByteArray :=
 if castN p m<4 then Js m else (((headK (kdI p m)++fr)++signB p m sg)++Qu m.t)++tailB m.p
def shB (p:Ps) (m:Mv) (L:List Mv):ByteArray:=bareB p m (Yh p m L) ⟨#[]⟩
def markB (q:Ps):ByteArray:=if Qq q.B q.t then (if (legL q).length=0 then ⟨#[35]⟩ else ⟨#[43]⟩) else ⟨#[]⟩
def capQ (b:UInt8):Bool:=[66,75,78,80,81,82].contains b
theorem cap_all:∀ k:Fin 6,(capK ((k:Nat)+1:Nat)).data.toList.all capQ=true∧(capK ((k:Nat)+1:Nat)).data.toList.length=1:=by decide +kernel
theorem cap_list {k:Int} (h:1≤k∧k≤6):(∀ b,b ∈ (capK k).data.toList→capQ b=true)∧(capK k).data.toList.length=1:=by
 have:=cap_all ⟨(k-1).toNat,by omega⟩;dsimp only at this;rw [show (((k-1).toNat+1:Nat):Int)=k by omega] at this;exact ⟨List.all_eq_true.1 this.1,this.2⟩
theorem Jh (a b:ByteArray):(a++b).data.toList=a.data.toList++b.data.toList:=by simp [ByteArray.data_append]
theorem bs_ext {a b:ByteArray} (h:a.data.toList=b.data.toList):a=b:=by
 obtain ⟨⟨x⟩⟩:=a;obtain ⟨⟨y⟩⟩:=b;simp at h;rw [h]
theorem kd_in {p:Ps} {m:Mv} {f t:Nat} (F:Fm p m f t):1≤kdI p m∧kdI p m≤6:=by
 obtain ⟨h1,_⟩:=side_man F.t01 F.own;have h2:=(Jk _).1 h1;have e:kdI p m=kindI (p.B.getD f 0):=by unfold kdI bAt;rw [F.hf,Int.toNat_natCast]
 rw [e];unfold kindI;rw [h1,if_pos rfl];split <;> omega
theorem mv_ext {m n:Mv} (h1:m.f=n.f) (h2:m.t=n.t) (h3:m.p=n.p):m=n:=by
 cases m;cases n;dsimp only at h1 h2 h3;rw [h1,h2,h3]
theorem promo_none {p:Ps} {m:Mv} {f t:Nat} (F:Fm p m f t) (h:kdI p m≠1):m.p=0:=by
 have e:kdI p m=kindI (p.B.getD f 0):=by unfold kdI bAt;rw [F.hf,Int.toNat_natCast]
 have:=F.pro;rw [← e,beq_eq_false_iff_ne.2 h,Bool.false_and] at this;simpa using this.symm
theorem mark_one (q:Ps):markB q=⟨#[]⟩∨markB q=⟨#[35]⟩∨markB q=⟨#[43]⟩:=by
 unfold markB;split
 ·split
  ·exact .inr (.inl rfl)
  ·exact .inr (.inr rfl)
 ·exact .inl rfl
end Go.Proofs.YtlpeiolgcaddjaaGreatDoor
