/- PoJ · PoK · PoL: my texts, in their order. -/
import Derived.Test.YtlpeiolgcaddjaaGreatDoorPkD
import Derived.Test.YtlpeiolgcaddjaaGreatDoorPkE
import Derived.Test.YtlpeiolgcaddjaaGreatDoorPkF
namespace Go.Proofs.YtlpeiolgcaddjaaGreatDoor
open Go.RowKit
set_option linter.unusedVariables false
set_option maxRecDepth 100000
set_option linter.unusedSimpArgs false
theorem okB_bd {x:Int} (h:okB x=true):-6≤x∧x≤6:=by
 unfold okB at h;rw [Bool.or_eq_true,beq_iff_eq] at h;rcases h with h|h
 ·omega
 ·exact ((Jk x).1 h).2
theorem struck_iff {B:List Int} {s side:Int} (h0:0≤s) (h1:s<64) (hr:Jq B=true):Jl B s side=true↔∃ x,0≤x∧x<64∧sideI (bAt B x)=side∧s ∈ Jv B x:=by
 have hne:(tellL B s side).isEmpty=false↔∃ x,x ∈ outW B s side:=by
  unfold outW
  cases tellL B s side with
  | nil=>simp
  | cons a l=>simp
 unfold Jl;rw [okS_yes h0 h1,hr,Bool.true_and,Bool.true_and,Bool.not_eq_true',hne];constructor
 ·rintro ⟨x,hx⟩;exact ⟨x,(mem_outW B s side x h0 h1).1 hx⟩
 ·rintro ⟨x,hx⟩;exact ⟨x,(mem_outW B s side x h0 h1).2 hx⟩
theorem king_one {B:List Int} (hw:Qx B=0):Jq B=true∧manyI B 6 0=1∧manyI B 6 1=1:=by
 unfold Qx at hw;split at hw
 ·omega
 ·next h1 =>
  split at hw
  ·omega
  ·next h2=>exact ⟨by simpa using h1,by omega,by omega⟩
theorem mem_where (B:List Int) (m:Int) (k:Nat):k ∈ Yq B m↔k<64∧B.getD k 0=m:=by
 unfold Yq sel;rw [List.mem_filter,List.mem_range,beq_iff_eq]
theorem one_where {B:List Int} {m:Int} (h:(Yq B m).length=1) {k:Nat} (hk:k<64) (e:B.getD k 0=m):headI (Yq B m)=(k:Int):=by
 have hm:=(mem_where B m k).2 ⟨hk,e⟩
 match hL:Yq B m,h with
 | [j],_ =>
  rw [hL] at hm;obtain rfl:=List.mem_singleton.1 hm;rfl
theorem king_at {B:List Int} (hw:Qx B=0) {side:Int} (hs:side=0∨side=1):∃ k:Nat,k<64∧kingI B side=(k:Int)∧B.getD k 0=mkI 6 side:=by
 obtain ⟨_,h0,h1⟩:=king_one hw;rcases hs with rfl|rfl
 ·have hl:(Yq B 6).length=1:=by have:=kings_w B;omega
  match hL:Yq B 6,hl with
  | [j],_ =>
   have:=(mem_where B 6 j).1 (by rw [hL];simp);exact ⟨j,this.1,by show headI (Yq B 6)=_;rw [hL];rfl,this.2⟩
 ·have hl:(Yq B (-6)).length=1:=by have:=kings_b B;omega
  match hL:Yq B (-6),hl with
  | [j],_ =>
   have:=(mem_where B (-6) j).1 (by rw [hL];simp);exact ⟨j,this.1,by show headI (Yq B (-6))=_;rw [hL];rfl,this.2⟩
theorem Yj {p:Ps} (h:pwI p=0):Qx p.B=0∧Jb p=true∧Qae p=false∧casB p=true∧epB p=true:=by
 unfold pwI at h;by_cases a0:Qx p.B=0
 ·rw [if_neg (by omega)] at h
  cases a1:Jb p
  ·rw [a1,if_pos rfl] at h;omega
  ·rw [a1,if_neg (by decide)] at h
   cases a2:Qae p
   ·rw [a2,if_neg (by decide)] at h
    cases a3:casB p
    ·rw [a3,if_pos rfl] at h;omega
    ·rw [a3,if_neg (by decide)] at h
     cases a4:epB p
     ·rw [a4,if_pos rfl] at h;omega
     ·exact ⟨a0,rfl,rfl,rfl,rfl⟩
   ·rw [a2,if_pos rfl] at h;omega
 ·rw [if_pos a0] at h;exact absurd h a0
theorem pos_right {p:Ps} (a0:Qx p.B=0) (a1:Jb p=true) (a2:Qae p=false) (a3:casB p=true) (a4:epB p=true):pwI p=0:=by
 unfold pwI;rw [if_neg (by omega),if_neg (by rw [a1];decide),if_neg (by rw [a2];decide),if_neg (by rw [a3];decide),if_neg (by rw [a4];decide)]
theorem PAt.kb {W w:World} {g k:Nat} {p:Ps} (h:PAt W k p) (hk:KB W g w) (hne:k≠g):PAt w k p:=⟨h.len,hk.heap hne h.at_⟩
theorem KB.row {W w:World} {g:Nat} (h:KB W g w) (c:Array Value):KB W g (w.setRow g c) :=
 ⟨h.os,h.output,by simpa using h.size,fun k hk hne=>(setRow_other w g k c hne).trans (h.block k hk hne)⟩
theorem KB.set {W w:World} {g:Nat} (h:KB W g w) (k:Nat) (u:Value):KB W g (w.setCell ⟨g,k,none⟩ u) :=
 ⟨h.os,h.output,by simpa [World.setCell] using h.size,fun i hi hne=>(Below.heap_setCell w ⟨g,k,none⟩ u i (by exact fun e=>hne e)).trans (h.block i hi hne)⟩
theorem take_build_p4 {ops:Array Oper} {S:World→Prop} {op:Oper} {a:Act} (hw:Region.wanted op (yielded ops a.tmps)=true) (x0 x1 x2 x3:Operand) (ho:op.op=.build 26 #[(0,x0),(1,x1),(2,x2),(3,x3)])
  (B:List Int) (t c e:Int) (hB:B.length=64) (h0:a.eval x0=.agg (cl B).toArray) (h1:a.eval x1=.int .i64 t) (h2:a.eval x2=.int .i64 c) (h3:a.eval x3=.int .i64 e):YieldsIf Tryz.prog ops S op (.agg (pl ⟨B,t,c,e⟩).toArray) a :=
 .inl ⟨hw,fun w _=>by
  have hp:((#[(0,x0),(1,x1),(2,x2),(3,x3)]:Array (Nat × Operand)).map fun (i,x)=>(i,a.eval x)).toList=[(0,.agg (cl B).toArray),(1,.int .i64 t),(2,.int .i64 c),(3,.int .i64 e)]:=by simp [h0,h1,h2,h3]
  have hf:=built_pos4 B hB t c e
  have hr:(Instr.build 26 ((#[(0,x0),(1,x1),(2,x2),(3,x3)]:Array (Nat × Operand)).map fun (i,x)=>(i,a.eval x))).run Tryz.prog w=.ok (.agg (pl ⟨B,t,c,e⟩).toArray) w:=by
   exact run_build w 26 _ _ (by rw [hp];exact hf)
  unfold execOp;simp only [ho,Sem.run_bind,hr,Result.andThen_ok,Sem.run_pure]⟩
theorem rfile_k (s:Int) (w:World) (h0:0≤s) (h1:s<64):Calls Tryz.prog 77 #[.int .i64 s] w fun e w'=>e=.returned (.int .i64 (s % 8))∧Kept w w' :=
 (rfile_yes s w h0 h1).mono fun _ _ ⟨a,b⟩=>⟨a,b ▸ Kept.refl _⟩
theorem rrank_k (s:Int) (w:World) (h0:0≤s) (h1:s<64):Calls Tryz.prog 78 #[.int .i64 s] w fun e w'=>e=.returned (.int .i64 (s / 8))∧Kept w w' :=
 (Yo s w h0 h1).mono fun _ _ ⟨a,b⟩=>⟨a,b ▸ Kept.refl _⟩
end Go.Proofs.YtlpeiolgcaddjaaGreatDoor
