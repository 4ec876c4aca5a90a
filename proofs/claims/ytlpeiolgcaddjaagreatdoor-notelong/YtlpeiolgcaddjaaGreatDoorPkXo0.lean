/- NoA · NoF: my texts, in their order. -/
import Derived.Test.YtlpeiolgcaddjaaGreatDoorPkXBo0
import Derived.Test.YtlpeiolgcaddjaaGreatDoorPkXWo0
import Derived.Test.YtlpeiolgcaddjaaGreatDoorPkA
import Derived.Test.YtlpeiolgcaddjaaGreatDoorPkB
import Derived.Test.YtlpeiolgcaddjaaGreatDoorPkC
import Derived.Test.YtlpeiolgcaddjaaGreatDoorPkD
import Derived.Test.YtlpeiolgcaddjaaGreatDoorPkE
import Derived.Test.YtlpeiolgcaddjaaGreatDoorPkF
import Derived.Test.YtlpeiolgcaddjaaGreatDoorPkGa
import Derived.Test.YtlpeiolgcaddjaaGreatDoorPkGb
import Derived.Test.YtlpeiolgcaddjaaGreatDoorPkGc
import Derived.Test.YtlpeiolgcaddjaaGreatDoorPkGd
import Derived.Test.YtlpeiolgcaddjaaGreatDoorPkGe
import Derived.Test.YtlpeiolgcaddjaaGreatDoorPkGh
import Derived.Test.YtlpeiolgcaddjaaGreatDoorPkH
import Derived.Test.YtlpeiolgcaddjaaGreatDoorPkI
import Derived.Test.YtlpeiolgcaddjaaGreatDoorPkJ
import Derived.Test.YtlpeiolgcaddjaaGreatDoorPkK
import Derived.Test.YtlpeiolgcaddjaaGreatDoorPkL
import Derived.Test.YtlpeiolgcaddjaaGreatDoorPkLa
import Derived.Test.YtlpeiolgcaddjaaGreatDoorPkLd
import Derived.Test.YtlpeiolgcaddjaaGreatDoorPkLe
import Derived.Test.YtlpeiolgcaddjaaGreatDoorPkLf
import Derived.Test.YtlpeiolgcaddjaaGreatDoorPkLg
import Derived.Test.YtlpeiolgcaddjaaGreatDoorPkLh
import Derived.Test.YtlpeiolgcaddjaaGreatDoorPkLi
import Derived.Test.YtlpeiolgcaddjaaGreatDoorPkM
import Derived.Test.YtlpeiolgcaddjaaGreatDoorPkN
import Derived.Test.YtlpeiolgcaddjaaGreatDoorPkNa
import Derived.Test.YtlpeiolgcaddjaaGreatDoorPkNb
import Derived.Test.YtlpeiolgcaddjaaGreatDoorPkNc
import Derived.Test.YtlpeiolgcaddjaaGreatDoorPkNd
import Derived.Test.YtlpeiolgcaddjaaGreatDoorPkNf
import Derived.Test.YtlpeiolgcaddjaaGreatDoorPkO
import Derived.Test.YtlpeiolgcaddjaaGreatDoorPkP
import Derived.Test.YtlpeiolgcaddjaaGreatDoorPkR
import Derived.Test.YtlpeiolgcaddjaaGreatDoorPkU
import Derived.Test.YtlpeiolgcaddjaaGreatDoorPkV
namespace Go.Proofs.YtlpeiolgcaddjaaGreatDoor
open Go.RowKit
set_option linter.unusedVariables false
set_option linter.unusedSimpArgs false
set_option maxRecDepth 100000
theorem long_inj {p:Ps} (hB:Brd p.B) (hr:pwI p=0) {m n:Mv} (hm:legB p m=true) (hn:legB p n=true) (e:longB p m=longB p n):m=n:=by
 obtain ⟨_,_,om⟩:=Yg hB hr hm;obtain ⟨_,_,on⟩:=Yg hB hr hn;obtain ⟨f,t,F⟩:=Yt hB om;obtain ⟨g,u,G⟩:=Yt hB on;have f0:0≤m.f:=by have:=F.hf;omega
 have f1:m.f<64:=by have:=F.hf;have:=F.f1;omega
 have g0:0≤n.f:=by have:=G.hf;omega
 have g1:n.f<64:=by have:=G.hf;have:=G.f1;omega
 rcases bare_eq F G _ _ _ (name_sq f0 f1) (name_sq g0 g1) (by intro b hb;simp at hb;rw [hb];decide) e with h|⟨_,ek,ea,es,et,ep⟩
 ·exact h
 ·exact mv_ext (name_inj f0 f1 g0 g1 ea) et ep
theorem nl_size (p:Ps) (m:Mv):(nlB p m).size≤9:=by
 have:=ln_size p m;have:=mk_size (behP p m);unfold nlB;rw [ByteArray.size_append];omega
end Go.Proofs.YtlpeiolgcaddjaaGreatDoor
