/- PoE · PoF · TyF · BoO: my texts, in their order. -/
import Derived.Test.YtlbipjmmlobofaaGreatDoorPkA08
import Derived.Test.YtlbipjmmlobofaaGreatDoorPkA26
import Derived.Test.YtlbipjmmlobofaaGreatDoorPkA32
import Derived.ProofKit
import Derived.OpenShut
import Derived.DataBytes
namespace Go.Proofs.YtlbipjmmlobofaaGreatDoor
open Go.RowKit
set_option linter.unusedVariables false
set_option linter.unusedSimpArgs false
theorem rbacked_1 (B:List Int) (hB:Brd B) (w:World) :
  Calls Tryz.prog 32 #[.agg (cl B).toArray,.int .i64 1] w fun e w'=>e=.returned (.bool ((B.getD 4 0 == 6) && (B.getD 7 0 == 4)))∧Kept w w':=by
 have hbl:=heap_alloc_new w (.cells (cl B).toArray 24)
 have ca:=board_cell hB hbl 4 (by omega)
 have cb:=board_cell hB hbl 7 (by omega)
 obtain ⟨ba1,ba2⟩:=hB.2 4 (by omega)
 obtain ⟨bb1,bb2⟩:=hB.2 7 (by omega)
 clear hbl hB
 generalize B.getD 4 0=xa at *
 generalize B.getD 7 0=xb at *
 cases h:(xa == 6)
 ·rw [Bool.false_and]
  go_enter Tryz.func32,Tryz.ntmps32
  go_wp2
  go_ret
  exact ⟨rfl,(Kept.refl _).alloc _⟩
 ·rw [Bool.true_and]
  go_enter Tryz.func32,Tryz.ntmps32
  go_wp2
  go_ret
  exact ⟨rfl,(Kept.refl _).alloc _⟩
theorem rbacked_2 (B:List Int) (hB:Brd B) (w:World) :
  Calls Tryz.prog 32 #[.agg (cl B).toArray,.int .i64 2] w fun e w'=>e=.returned (.bool ((B.getD 4 0 == 6) && (B.getD 0 0 == 4)))∧Kept w w':=by
 have hbl:=heap_alloc_new w (.cells (cl B).toArray 24)
 have ca:=board_cell hB hbl 4 (by omega)
 have cb:=board_cell hB hbl 0 (by omega)
 obtain ⟨ba1,ba2⟩:=hB.2 4 (by omega)
 obtain ⟨bb1,bb2⟩:=hB.2 0 (by omega)
 clear hbl hB
 generalize B.getD 4 0=xa at *
 generalize B.getD 0 0=xb at *
 cases h:(xa == 6)
 ·rw [Bool.false_and]
  go_enter Tryz.func32,Tryz.ntmps32
  go_wp2
  go_ret
  exact ⟨rfl,(Kept.refl _).alloc _⟩
 ·rw [Bool.true_and]
  go_enter Tryz.func32,Tryz.ntmps32
  go_wp2
  go_ret
  exact ⟨rfl,(Kept.refl _).alloc _⟩
theorem rbacked_4 (B:List Int) (hB:Brd B) (w:World) :
  Calls Tryz.prog 32 #[.agg (cl B).toArray,.int .i64 4] w fun e w'=>e=.returned (.bool ((B.getD 60 0 == (-6)) && (B.getD 63 0 == (-4))))∧Kept w w':=by
 have hbl:=heap_alloc_new w (.cells (cl B).toArray 24)
 have ca:=board_cell hB hbl 60 (by omega)
 have cb:=board_cell hB hbl 63 (by omega)
 obtain ⟨ba1,ba2⟩:=hB.2 60 (by omega)
 obtain ⟨bb1,bb2⟩:=hB.2 63 (by omega)
 clear hbl hB
 generalize B.getD 60 0=xa at *
 generalize B.getD 63 0=xb at *
 cases h:(xa == (-6))
 ·rw [Bool.false_and]
  go_enter Tryz.func32,Tryz.ntmps32
  go_wp2
  go_ret
  exact ⟨rfl,(Kept.refl _).alloc _⟩
 ·rw [Bool.true_and]
  go_enter Tryz.func32,Tryz.ntmps32
  go_wp2
  go_ret
  exact ⟨rfl,(Kept.refl _).alloc _⟩
theorem rbacked_8 (B:List Int) (hB:Brd B) (w:World) :
  Calls Tryz.prog 32 #[.agg (cl B).toArray,.int .i64 8] w fun e w'=>e=.returned (.bool ((B.getD 60 0 == (-6)) && (B.getD 56 0 == (-4))))∧Kept w w':=by
 have hbl:=heap_alloc_new w (.cells (cl B).toArray 24)
 have ca:=board_cell hB hbl 60 (by omega)
 have cb:=board_cell hB hbl 56 (by omega)
 obtain ⟨ba1,ba2⟩:=hB.2 60 (by omega)
 obtain ⟨bb1,bb2⟩:=hB.2 56 (by omega)
 clear hbl hB
 generalize B.getD 60 0=xa at *
 generalize B.getD 56 0=xb at *
 cases h:(xa == (-6))
 ·rw [Bool.false_and]
  go_enter Tryz.func32,Tryz.ntmps32
  go_wp2
  go_ret
  exact ⟨rfl,(Kept.refl _).alloc _⟩
 ·rw [Bool.true_and]
  go_enter Tryz.func32,Tryz.ntmps32
  go_wp2
  go_ret
  exact ⟨rfl,(Kept.refl _).alloc _⟩
theorem rbacked_is (B:List Int) (hB:Brd B) (r:Int) (w:World) :
  Calls Tryz.prog 32 #[.agg (cl B).toArray,.int .i64 r] w fun e w'=>e=.returned (.bool (backB B r))∧Kept w w':=by
 unfold backB
 by_cases h1:r=1
 ·subst h1;rw [if_pos rfl];exact rbacked_1 B hB w
 ·rw [if_neg h1]
  by_cases h2:r=2
  ·subst h2;rw [if_pos rfl];exact rbacked_2 B hB w
  ·rw [if_neg h2]
   by_cases h4:r=4
   ·subst h4;rw [if_pos rfl];exact rbacked_4 B hB w
   ·rw [if_neg h4]
    by_cases h8:r=8
    ·subst h8;rw [if_pos rfl];exact rbacked_8 B hB w
    ·rw [if_neg h8]
     have b1:(r == 1)=false:=beq_eq_false_iff_ne.2 h1
     have b2:(r == 2)=false:=beq_eq_false_iff_ne.2 h2
     have b4:(r == 4)=false:=beq_eq_false_iff_ne.2 h4
     have b8:(r == 8)=false:=beq_eq_false_iff_ne.2 h8
     clear h1 h2 h4 h8 hB
     go_enter Tryz.func32,Tryz.ntmps32
     go_wp2
     go_ret
     exact ⟨rfl,(Kept.refl _).alloc _⟩
theorem rhas_is (c r:Int) (w:World) (h0:0≤c) (h1:c≤15) (r0:1≤r) (r1:r≤8) :
  Calls Tryz.prog 31 #[.int .i64 c,.int .i64 r] w fun e w'=>e=.returned (.bool (rgtB c r))∧Kept w w':=by
 have hq0:0≤c / r:=Int.ediv_nonneg h0 (by omega)
 have hq1:c / r≤15:=Int.le_trans (Int.ediv_le_self r h0) h1
 have hrz:(r == 0)=false:=beq_eq_false_iff_ne.2 (by omega)
 have hrz':r≠0:=by omega
 have hd:c.tdiv r=c / r:=Int.tdiv_eq_ediv_of_nonneg h0
 have HV:Hid (rgtB c r=(c / r % 2 == 1)):=by rfl
 go_enter Tryz.func31,Tryz.ntmps31
 go_wp2
 go_ret
 exact ⟨by rw [HV.out];rfl,Kept.refl _⟩
theorem rpassed_low (p:Ps) (hB:Brd p.B) (he:p.e<0) (w:World) :
  Calls Tryz.prog 33 #[.agg (pl p).toArray] w fun e w'=>e=.returned (.int .i64 (passI p))∧Kept w w':=by
 have HF:Hid (passI p=-1):=by unfold passI;rw [if_neg (by omega),if_neg (by omega)];rfl
 have HP:=Qh (PAt.new w hB.1)
 have ct:=HP.out.turn
 have ce:=HP.out.ep
 clear hB
 go_enter Tryz.func33,Tryz.ntmps33
 go_wp2
 go_ret
 exact ⟨by rw [HF.out];rfl,(Kept.refl _).alloc _⟩
theorem rpassed_high (p:Ps) (hB:Brd p.B) (he:63<p.e) (w:World) :
  Calls Tryz.prog 33 #[.agg (pl p).toArray] w fun e w'=>e=.returned (.int .i64 (passI p))∧Kept w w':=by
 have HF:Hid (passI p=-1):=by unfold passI;rw [if_neg (by omega),if_neg (by omega)];rfl
 have he0:¬ p.e<0:=by omega
 have HP:=Qh (PAt.new w hB.1)
 have ct:=HP.out.turn
 have ce:=HP.out.ep
 clear hB
 go_enter Tryz.func33,Tryz.ntmps33
 go_wp2
 go_ret
 exact ⟨by rw [HF.out];rfl,(Kept.refl _).alloc _⟩
theorem rpassed_side (p:Ps) (hB:Brd p.B) (h0:0≤p.e) (h1:p.e<64) (t0:p.t≠0) (t1:p.t≠1) (w:World) :
  Calls Tryz.prog 33 #[.agg (pl p).toArray] w fun e w'=>e=.returned (.int .i64 (passI p))∧Kept w w':=by
 have HF:Hid (passI p=-1):=by unfold passI;rw [if_neg (fun h=>t0 h.1),if_neg (fun h=>t1 h.1)];rfl
 have he0:¬ p.e<0:=by omega
 have he1:¬ 63<p.e:=by omega
 have b0:(p.t == 0)=false:=beq_eq_false_iff_ne.2 t0
 have b1:(p.t == 1)=false:=beq_eq_false_iff_ne.2 t1
 have HP:=Qh (PAt.new w hB.1)
 have ct:=HP.out.turn
 have ce:=HP.out.ep
 clear hB t0 t1
 go_enter Tryz.func33,Tryz.ntmps33
 go_wp2
 go_ret
 exact ⟨by rw [HF.out];rfl,(Kept.refl _).alloc _⟩
theorem rpassed_off_w (p:Ps) (hB:Brd p.B) (h0:0≤p.e) (h1:p.e<64) (ht:p.t=0) (hr:¬ (40≤p.e∧p.e<48)) (w:World) :
  Calls Tryz.prog 33 #[.agg (pl p).toArray] w fun e w'=>e=.returned (.int .i64 (passI p))∧Kept w w':=by
 have HF:Hid (passI p=-1):=by unfold passI;rw [if_neg (fun h=>hr ⟨h.2.1,h.2.2.1⟩),if_neg (fun h=>by rw [ht] at h;exact absurd h.1 (by decide))];rfl
 have he0:¬ p.e<0:=by omega
 have he1:¬ 63<p.e:=by omega
 have br:(p.e / 8 == 5)=false:=beq_eq_false_iff_ne.2 (by omega)
 have HP:=Qh (PAt.new w hB.1)
 have ct:=HP.out.turn
 have ce:=HP.out.ep
 rw [ht] at ct
 clear hB hr
 go_enter Tryz.func33,Tryz.ntmps33
 go_wp2_with fail
 refine (rrank_yes _ _ h0 h1).mono ?_
 rintro e w' ⟨rfl,rfl⟩
 go_wp2
 go_ret
 exact ⟨by rw [HF.out];rfl,(Kept.refl _).alloc _⟩
set_option maxHeartbeats 1000000 in
theorem rpassed0_w (p:Ps) (hB:Brd p.B) (ht:p.t=0) (hlo:40≤p.e) (hhi:p.e<48) (e0:bAt p.B p.e≠0) (w:World) :
  Calls Tryz.prog 33 #[.agg (pl p).toArray] w fun e w'=>e=.returned (.int .i64 (passI p))∧Kept w w':=by
 have HF:Hid (passI p=-1):=by unfold passI;rw [if_neg (fun h=>e0 h.2.2.2.1),if_neg (fun h=>by rw [ht] at h;exact absurd h.1 (by decide))];rfl
 have b0:(bAt p.B p.e == 0)=false:=beq_eq_false_iff_ne.2 e0
 clear e0
 have he0:¬ p.e<0:=by omega
 have he1:¬ 63<p.e:=by omega
 have br:(p.e / 8 == 5)=true:=beq_iff_eq.2 (by omega)
 have HP:=Qh (PAt.new w hB.1)
 have ct:=HP.out.turn
 have ce:=HP.out.ep
 rw [ht] at ct
 have c0:=HP.out.sq p.e.toNat (by omega)
 have c1:=HP.out.sq (p.e+8).toNat (by omega)
 have c2:=HP.out.sq (p.e-8).toNat (by omega)
 obtain ⟨x00,x01⟩:=hB.2 p.e.toNat (by omega)
 obtain ⟨x10,x11⟩:=hB.2 (p.e+8).toNat (by omega)
 obtain ⟨x20,x21⟩:=hB.2 (p.e-8).toNat (by omega)
 unfold bAt at b0
 clear hB
 generalize p.B.getD p.e.toNat 0=x0 at *
 generalize p.B.getD (p.e+8).toNat 0=x1 at *
 generalize p.B.getD (p.e-8).toNat 0=x2 at *
 go_enter Tryz.func33,Tryz.ntmps33
 go_wp2_with fail
 refine (rrank_yes _ _ (by omega) (by omega)).mono ?_
 rintro e w' ⟨rfl,rfl⟩
 go_wp2
 go_ret
 exact ⟨by rw [HF.out];rfl,(Kept.refl _).alloc _⟩
set_option maxHeartbeats 1000000 in
theorem rpassed1_w (p:Ps) (hB:Brd p.B) (ht:p.t=0) (hlo:40≤p.e) (hhi:p.e<48) (e0:bAt p.B p.e=0) (e1:bAt p.B (p.e+8)≠0) (w:World) :
  Calls Tryz.prog 33 #[.agg (pl p).toArray] w fun e w'=>e=.returned (.int .i64 (passI p))∧Kept w w':=by
 have HF:Hid (passI p=-1):=by unfold passI;rw [if_neg (fun h=>e1 h.2.2.2.2.1),if_neg (fun h=>by rw [ht] at h;exact absurd h.1 (by decide))];rfl
 have b0:(bAt p.B p.e == 0)=true:=beq_iff_eq.2 e0
 have b1:(bAt p.B (p.e+8) == 0)=false:=beq_eq_false_iff_ne.2 e1
 clear e0 e1
 have he0:¬ p.e<0:=by omega
 have he1:¬ 63<p.e:=by omega
 have br:(p.e / 8 == 5)=true:=beq_iff_eq.2 (by omega)
 have HP:=Qh (PAt.new w hB.1)
 have ct:=HP.out.turn
 have ce:=HP.out.ep
 rw [ht] at ct
 have c0:=HP.out.sq p.e.toNat (by omega)
 have c1:=HP.out.sq (p.e+8).toNat (by omega)
 have c2:=HP.out.sq (p.e-8).toNat (by omega)
 obtain ⟨x00,x01⟩:=hB.2 p.e.toNat (by omega)
 obtain ⟨x10,x11⟩:=hB.2 (p.e+8).toNat (by omega)
 obtain ⟨x20,x21⟩:=hB.2 (p.e-8).toNat (by omega)
 unfold bAt at b0 b1
 clear hB
 generalize p.B.getD p.e.toNat 0=x0 at *
 generalize p.B.getD (p.e+8).toNat 0=x1 at *
 generalize p.B.getD (p.e-8).toNat 0=x2 at *
 go_enter Tryz.func33,Tryz.ntmps33
 go_wp2_with fail
 refine (rrank_yes _ _ (by omega) (by omega)).mono ?_
 rintro e w' ⟨rfl,rfl⟩
 go_wp2
 go_ret
 exact ⟨by rw [HF.out];rfl,(Kept.refl _).alloc _⟩
set_option maxHeartbeats 1000000 in
theorem rpassed2_w (p:Ps) (hB:Brd p.B) (ht:p.t=0) (hlo:40≤p.e) (hhi:p.e<48) (e0:bAt p.B p.e=0) (e1:bAt p.B (p.e+8)=0) (e2:bAt p.B (p.e-8)≠(-1)) (w:World) :
  Calls Tryz.prog 33 #[.agg (pl p).toArray] w fun e w'=>e=.returned (.int .i64 (passI p))∧Kept w w':=by
 have HF:Hid (passI p=-1):=by unfold passI;rw [if_neg (fun h=>e2 h.2.2.2.2.2),if_neg (fun h=>by rw [ht] at h;exact absurd h.1 (by decide))];rfl
 have b0:(bAt p.B p.e == 0)=true:=beq_iff_eq.2 e0
 have b1:(bAt p.B (p.e+8) == 0)=true:=beq_iff_eq.2 e1
 have b2:(bAt p.B (p.e-8) == (-1))=false:=beq_eq_false_iff_ne.2 e2
 clear e0 e1 e2
 have he0:¬ p.e<0:=by omega
 have he1:¬ 63<p.e:=by omega
 have br:(p.e / 8 == 5)=true:=beq_iff_eq.2 (by omega)
 have HP:=Qh (PAt.new w hB.1)
 have ct:=HP.out.turn
 have ce:=HP.out.ep
 rw [ht] at ct
 have c0:=HP.out.sq p.e.toNat (by omega)
 have c1:=HP.out.sq (p.e+8).toNat (by omega)
 have c2:=HP.out.sq (p.e-8).toNat (by omega)
 obtain ⟨x00,x01⟩:=hB.2 p.e.toNat (by omega)
 obtain ⟨x10,x11⟩:=hB.2 (p.e+8).toNat (by omega)
 obtain ⟨x20,x21⟩:=hB.2 (p.e-8).toNat (by omega)
 unfold bAt at b0 b1 b2
 clear hB
 generalize p.B.getD p.e.toNat 0=x0 at *
 generalize p.B.getD (p.e+8).toNat 0=x1 at *
 generalize p.B.getD (p.e-8).toNat 0=x2 at *
 go_enter Tryz.func33,Tryz.ntmps33
 go_wp2_with fail
 refine (rrank_yes _ _ (by omega) (by omega)).mono ?_
 rintro e w' ⟨rfl,rfl⟩
 go_wp2
 go_ret
 exact ⟨by rw [HF.out];rfl,(Kept.refl _).alloc _⟩
set_option maxHeartbeats 1000000 in
theorem rpassed3_w (p:Ps) (hB:Brd p.B) (ht:p.t=0) (hlo:40≤p.e) (hhi:p.e<48) (e0:bAt p.B p.e=0) (e1:bAt p.B (p.e+8)=0) (e2:bAt p.B (p.e-8)=(-1)) (w:World) :
  Calls Tryz.prog 33 #[.agg (pl p).toArray] w fun e w'=>e=.returned (.int .i64 (passI p))∧Kept w w':=by
 have HF:Hid (passI p=p.e-8):=by unfold passI;rw [if_pos ⟨ht,by omega,by omega,e0,e1,e2⟩];rfl
 have b0:(bAt p.B p.e == 0)=true:=beq_iff_eq.2 e0
 have b1:(bAt p.B (p.e+8) == 0)=true:=beq_iff_eq.2 e1
 have b2:(bAt p.B (p.e-8) == (-1))=true:=beq_iff_eq.2 e2
 clear e0 e1 e2
 have he0:¬ p.e<0:=by omega
 have he1:¬ 63<p.e:=by omega
 have br:(p.e / 8 == 5)=true:=beq_iff_eq.2 (by omega)
 have HP:=Qh (PAt.new w hB.1)
 have ct:=HP.out.turn
 have ce:=HP.out.ep
 rw [ht] at ct
 have c0:=HP.out.sq p.e.toNat (by omega)
 have c1:=HP.out.sq (p.e+8).toNat (by omega)
 have c2:=HP.out.sq (p.e-8).toNat (by omega)
 obtain ⟨x00,x01⟩:=hB.2 p.e.toNat (by omega)
 obtain ⟨x10,x11⟩:=hB.2 (p.e+8).toNat (by omega)
 obtain ⟨x20,x21⟩:=hB.2 (p.e-8).toNat (by omega)
 unfold bAt at b0 b1 b2
 clear hB
 generalize p.B.getD p.e.toNat 0=x0 at *
 generalize p.B.getD (p.e+8).toNat 0=x1 at *
 generalize p.B.getD (p.e-8).toNat 0=x2 at *
 go_enter Tryz.func33,Tryz.ntmps33
 go_wp2_with fail
 refine (rrank_yes _ _ (by omega) (by omega)).mono ?_
 rintro e w' ⟨rfl,rfl⟩
 go_wp2
 go_ret
 exact ⟨by rw [HF.out];rfl,(Kept.refl _).alloc _⟩
theorem rpassed_off_b (p:Ps) (hB:Brd p.B) (h0:0≤p.e) (h1:p.e<64) (ht:p.t=1) (hr:¬ (16≤p.e∧p.e<24)) (w:World) :
  Calls Tryz.prog 33 #[.agg (pl p).toArray] w fun e w'=>e=.returned (.int .i64 (passI p))∧Kept w w':=by
 have HF:Hid (passI p=-1):=by unfold passI;rw [if_neg (fun h=>by rw [ht] at h;exact absurd h.1 (by decide)),if_neg (fun h=>hr ⟨h.2.1,h.2.2.1⟩)];rfl
 have he0:¬ p.e<0:=by omega
 have he1:¬ 63<p.e:=by omega
 have br:(p.e / 8 == 2)=false:=beq_eq_false_iff_ne.2 (by omega)
 have HP:=Qh (PAt.new w hB.1)
 have ct:=HP.out.turn
 have ce:=HP.out.ep
 rw [ht] at ct
 clear hB hr
 go_enter Tryz.func33,Tryz.ntmps33
 go_wp2_with fail
 refine (rrank_yes _ _ h0 h1).mono ?_
 rintro e w' ⟨rfl,rfl⟩
 go_wp2
 go_ret
 exact ⟨by rw [HF.out];rfl,(Kept.refl _).alloc _⟩
set_option maxHeartbeats 1000000 in
theorem rpassed0_b (p:Ps) (hB:Brd p.B) (ht:p.t=1) (hlo:16≤p.e) (hhi:p.e<24) (e0:bAt p.B p.e≠0) (w:World) :
  Calls Tryz.prog 33 #[.agg (pl p).toArray] w fun e w'=>e=.returned (.int .i64 (passI p))∧Kept w w':=by
 have HF:Hid (passI p=-1):=by unfold passI;rw [if_neg (fun h=>by rw [ht] at h;exact absurd h.1 (by decide)),if_neg (fun h=>e0 h.2.2.2.1)];rfl
 have b0:(bAt p.B p.e == 0)=false:=beq_eq_false_iff_ne.2 e0
 clear e0
 have he0:¬ p.e<0:=by omega
 have he1:¬ 63<p.e:=by omega
 have br:(p.e / 8 == 2)=true:=beq_iff_eq.2 (by omega)
 have HP:=Qh (PAt.new w hB.1)
 have ct:=HP.out.turn
 have ce:=HP.out.ep
 rw [ht] at ct
 have c0:=HP.out.sq p.e.toNat (by omega)
 have c1:=HP.out.sq (p.e-8).toNat (by omega)
 have c2:=HP.out.sq (p.e+8).toNat (by omega)
 obtain ⟨x00,x01⟩:=hB.2 p.e.toNat (by omega)
 obtain ⟨x10,x11⟩:=hB.2 (p.e-8).toNat (by omega)
 obtain ⟨x20,x21⟩:=hB.2 (p.e+8).toNat (by omega)
 unfold bAt at b0
 clear hB
 generalize p.B.getD p.e.toNat 0=x0 at *
 generalize p.B.getD (p.e-8).toNat 0=x1 at *
 generalize p.B.getD (p.e+8).toNat 0=x2 at *
 go_enter Tryz.func33,Tryz.ntmps33
 go_wp2_with fail
 refine (rrank_yes _ _ (by omega) (by omega)).mono ?_
 rintro e w' ⟨rfl,rfl⟩
 go_wp2
 go_ret
 exact ⟨by rw [HF.out];rfl,(Kept.refl _).alloc _⟩
set_option maxHeartbeats 1000000 in
theorem rpassed1_b (p:Ps) (hB:Brd p.B) (ht:p.t=1) (hlo:16≤p.e) (hhi:p.e<24) (e0:bAt p.B p.e=0) (e1:bAt p.B (p.e-8)≠0) (w:World) :
  Calls Tryz.prog 33 #[.agg (pl p).toArray] w fun e w'=>e=.returned (.int .i64 (passI p))∧Kept w w':=by
 have HF:Hid (passI p=-1):=by unfold passI;rw [if_neg (fun h=>by rw [ht] at h;exact absurd h.1 (by decide)),if_neg (fun h=>e1 h.2.2.2.2.1)];rfl
 have b0:(bAt p.B p.e == 0)=true:=beq_iff_eq.2 e0
 have b1:(bAt p.B (p.e-8) == 0)=false:=beq_eq_false_iff_ne.2 e1
 clear e0 e1
 have he0:¬ p.e<0:=by omega
 have he1:¬ 63<p.e:=by omega
 have br:(p.e / 8 == 2)=true:=beq_iff_eq.2 (by omega)
 have HP:=Qh (PAt.new w hB.1)
 have ct:=HP.out.turn
 have ce:=HP.out.ep
 rw [ht] at ct
 have c0:=HP.out.sq p.e.toNat (by omega)
 have c1:=HP.out.sq (p.e-8).toNat (by omega)
 have c2:=HP.out.sq (p.e+8).toNat (by omega)
 obtain ⟨x00,x01⟩:=hB.2 p.e.toNat (by omega)
 obtain ⟨x10,x11⟩:=hB.2 (p.e-8).toNat (by omega)
 obtain ⟨x20,x21⟩:=hB.2 (p.e+8).toNat (by omega)
 unfold bAt at b0 b1
 clear hB
 generalize p.B.getD p.e.toNat 0=x0 at *
 generalize p.B.getD (p.e-8).toNat 0=x1 at *
 generalize p.B.getD (p.e+8).toNat 0=x2 at *
 go_enter Tryz.func33,Tryz.ntmps33
 go_wp2_with fail
 refine (rrank_yes _ _ (by omega) (by omega)).mono ?_
 rintro e w' ⟨rfl,rfl⟩
 go_wp2
 go_ret
 exact ⟨by rw [HF.out];rfl,(Kept.refl _).alloc _⟩
set_option maxHeartbeats 1000000 in
theorem rpassed2_b (p:Ps) (hB:Brd p.B) (ht:p.t=1) (hlo:16≤p.e) (hhi:p.e<24) (e0:bAt p.B p.e=0) (e1:bAt p.B (p.e-8)=0) (e2:bAt p.B (p.e+8)≠1) (w:World) :
  Calls Tryz.prog 33 #[.agg (pl p).toArray] w fun e w'=>e=.returned (.int .i64 (passI p))∧Kept w w':=by
 have HF:Hid (passI p=-1):=by unfold passI;rw [if_neg (fun h=>by rw [ht] at h;exact absurd h.1 (by decide)),if_neg (fun h=>e2 h.2.2.2.2.2)];rfl
 have b0:(bAt p.B p.e == 0)=true:=beq_iff_eq.2 e0
 have b1:(bAt p.B (p.e-8) == 0)=true:=beq_iff_eq.2 e1
 have b2:(bAt p.B (p.e+8) == 1)=false:=beq_eq_false_iff_ne.2 e2
 clear e0 e1 e2
 have he0:¬ p.e<0:=by omega
 have he1:¬ 63<p.e:=by omega
 have br:(p.e / 8 == 2)=true:=beq_iff_eq.2 (by omega)
 have HP:=Qh (PAt.new w hB.1)
 have ct:=HP.out.turn
 have ce:=HP.out.ep
 rw [ht] at ct
 have c0:=HP.out.sq p.e.toNat (by omega)
 have c1:=HP.out.sq (p.e-8).toNat (by omega)
 have c2:=HP.out.sq (p.e+8).toNat (by omega)
 obtain ⟨x00,x01⟩:=hB.2 p.e.toNat (by omega)
 obtain ⟨x10,x11⟩:=hB.2 (p.e-8).toNat (by omega)
 obtain ⟨x20,x21⟩:=hB.2 (p.e+8).toNat (by omega)
 unfold bAt at b0 b1 b2
 clear hB
 generalize p.B.getD p.e.toNat 0=x0 at *
 generalize p.B.getD (p.e-8).toNat 0=x1 at *
 generalize p.B.getD (p.e+8).toNat 0=x2 at *
 go_enter Tryz.func33,Tryz.ntmps33
 go_wp2_with fail
 refine (rrank_yes _ _ (by omega) (by omega)).mono ?_
 rintro e w' ⟨rfl,rfl⟩
 go_wp2
 go_ret
 exact ⟨by rw [HF.out];rfl,(Kept.refl _).alloc _⟩
set_option maxHeartbeats 1000000 in
theorem rpassed3_b (p:Ps) (hB:Brd p.B) (ht:p.t=1) (hlo:16≤p.e) (hhi:p.e<24) (e0:bAt p.B p.e=0) (e1:bAt p.B (p.e-8)=0) (e2:bAt p.B (p.e+8)=1) (w:World) :
  Calls Tryz.prog 33 #[.agg (pl p).toArray] w fun e w'=>e=.returned (.int .i64 (passI p))∧Kept w w':=by
 have HF:Hid (passI p=p.e+8):=by unfold passI;rw [if_neg (fun h=>by rw [ht] at h;exact absurd h.1 (by decide)),if_pos ⟨ht,by omega,by omega,e0,e1,e2⟩];rfl
 have b0:(bAt p.B p.e == 0)=true:=beq_iff_eq.2 e0
 have b1:(bAt p.B (p.e-8) == 0)=true:=beq_iff_eq.2 e1
 have b2:(bAt p.B (p.e+8) == 1)=true:=beq_iff_eq.2 e2
 clear e0 e1 e2
 have he0:¬ p.e<0:=by omega
 have he1:¬ 63<p.e:=by omega
 have br:(p.e / 8 == 2)=true:=beq_iff_eq.2 (by omega)
 have HP:=Qh (PAt.new w hB.1)
 have ct:=HP.out.turn
 have ce:=HP.out.ep
 rw [ht] at ct
 have c0:=HP.out.sq p.e.toNat (by omega)
 have c1:=HP.out.sq (p.e-8).toNat (by omega)
 have c2:=HP.out.sq (p.e+8).toNat (by omega)
 obtain ⟨x00,x01⟩:=hB.2 p.e.toNat (by omega)
 obtain ⟨x10,x11⟩:=hB.2 (p.e-8).toNat (by omega)
 obtain ⟨x20,x21⟩:=hB.2 (p.e+8).toNat (by omega)
 unfold bAt at b0 b1 b2
 clear hB
 generalize p.B.getD p.e.toNat 0=x0 at *
 generalize p.B.getD (p.e-8).toNat 0=x1 at *
 generalize p.B.getD (p.e+8).toNat 0=x2 at *
 go_enter Tryz.func33,Tryz.ntmps33
 go_wp2_with fail
 refine (rrank_yes _ _ (by omega) (by omega)).mono ?_
 rintro e w' ⟨rfl,rfl⟩
 go_wp2
 go_ret
 exact ⟨by rw [HF.out];rfl,(Kept.refl _).alloc _⟩
theorem rpassed_is (p:Ps) (hB:Brd p.B) (w:World) :
  Calls Tryz.prog 33 #[.agg (pl p).toArray] w fun e w'=>e=.returned (.int .i64 (passI p))∧Kept w w':=by
 by_cases a0:p.e<0
 ·exact rpassed_low p hB a0 w
 ·by_cases a1:63<p.e
  ·exact rpassed_high p hB a1 w
  ·by_cases h0:p.t=0
   ·by_cases hr:40≤p.e∧p.e<48
    ·by_cases e0:bAt p.B p.e=0
     ·by_cases e1:bAt p.B (p.e+8)=0
      ·by_cases e2:bAt p.B (p.e-8)=(-1)
       ·exact rpassed3_w p hB h0 hr.1 hr.2 e0 e1 e2 w
       ·exact rpassed2_w p hB h0 hr.1 hr.2 e0 e1 e2 w
      ·exact rpassed1_w p hB h0 hr.1 hr.2 e0 e1 w
     ·exact rpassed0_w p hB h0 hr.1 hr.2 e0 w
    ·exact rpassed_off_w p hB (by omega) (by omega) h0 hr w
   ·by_cases h1:p.t=1
    ·by_cases hr:16≤p.e∧p.e<24
     ·by_cases e0:bAt p.B p.e=0
      ·by_cases e1:bAt p.B (p.e-8)=0
       ·by_cases e2:bAt p.B (p.e+8)=1
        ·exact rpassed3_b p hB h1 hr.1 hr.2 e0 e1 e2 w
        ·exact rpassed2_b p hB h1 hr.1 hr.2 e0 e1 e2 w
       ·exact rpassed1_b p hB h1 hr.1 hr.2 e0 e1 w
      ·exact rpassed0_b p hB h1 hr.1 hr.2 e0 w
     ·exact rpassed_off_b p hB (by omega) (by omega) h1 hr w
    ·exact rpassed_side p hB (by omega) (by omega) h0 h1 w
theorem rpw_board (p:Ps) (hB:Brd p.B) (a0:wrongI p.B≠0) (w:World) :
  Calls Tryz.prog 11 #[.agg (pl p).toArray] w fun e w'=>e=.returned (.int .i64 (pwI p))∧Kept w w':=by
 have HP:=Qh (PAt.new w hB.1)
 have HK0:=Qh ((Kept.refl w).alloc (.cells (pl p).toArray 26))
 have HB:=Qh hB
 have HC0:=Qh (rwrong_is p.B hB)
 have HF:Hid (pwI p=wrongI p.B):=by unfold pwI;rw [if_pos a0];rfl
 have b0:(wrongI p.B != 0)=true:=bne_iff_ne.2 a0
 clear hB a0
 go_enter Tryz.func11,Tryz.ntmps11
 go_wp2_with (first|(refine wpList_load_ps (by rfl) _ rfl _ rfl _ (HP.out) ?_)|(refine wpList_load_pb (by rfl) _ rfl _ rfl _ (HP.out) ?_))
 refine (HC0.out _).mono ?_
 rintro e w1 ⟨rfl,k1⟩
 have HK1:=Qh (HK0.out.trans k1)
 have HP1:=Qh (HP.out.kept k1)
 have ct:=HP1.out.turn
 have cc:=HP1.out.cas
 have ce:=HP1.out.ep
 clear k1
 go_wp2
 go_ret
 exact ⟨by rw [HF.out];rfl,HK1.out⟩
theorem rpw_t0 (p:Ps) (hB:Brd p.B) (a0:wrongI p.B=0) (h:p.t<0) (w:World) :
  Calls Tryz.prog 11 #[.agg (pl p).toArray] w fun e w'=>e=.returned (.int .i64 (pwI p))∧Kept w w':=by
 have HP:=Qh (PAt.new w hB.1)
 have HK0:=Qh ((Kept.refl w).alloc (.cells (pl p).toArray 26))
 have HB:=Qh hB
 have HC0:=Qh (rwrong_is p.B hB)
 have HF:Hid (pwI p=5):=by
  have:withinB p=false:=by rw [← Bool.not_eq_true,within_iff];omega
  unfold pwI;rw [if_neg (by omega),if_pos this];rfl
 rw [a0] at HC0
 clear hB a0
 go_enter Tryz.func11,Tryz.ntmps11
 go_wp2_with (first|(refine wpList_load_ps (by rfl) _ rfl _ rfl _ (HP.out) ?_)|(refine wpList_load_pb (by rfl) _ rfl _ rfl _ (HP.out) ?_))
 refine (HC0.out _).mono ?_
 rintro e w1 ⟨rfl,k1⟩
 have HK1:=Qh (HK0.out.trans k1)
 have HP1:=Qh (HP.out.kept k1)
 have ct:=HP1.out.turn
 have cc:=HP1.out.cas
 have ce:=HP1.out.ep
 clear k1
 go_wp2
 go_ret
 exact ⟨by rw [HF.out];rfl,HK1.out⟩
theorem rpw_t1 (p:Ps) (hB:Brd p.B) (a0:wrongI p.B=0) (h:1<p.t) (w:World) :
  Calls Tryz.prog 11 #[.agg (pl p).toArray] w fun e w'=>e=.returned (.int .i64 (pwI p))∧Kept w w':=by
 have HP:=Qh (PAt.new w hB.1)
 have HK0:=Qh ((Kept.refl w).alloc (.cells (pl p).toArray 26))
 have HB:=Qh hB
 have HC0:=Qh (rwrong_is p.B hB)
 have HF:Hid (pwI p=5):=by
  have:withinB p=false:=by rw [← Bool.not_eq_true,within_iff];omega
  unfold pwI;rw [if_neg (by omega),if_pos this];rfl
 have n0:¬ p.t<0:=by omega
 rw [a0] at HC0
 clear hB a0
 go_enter Tryz.func11,Tryz.ntmps11
 go_wp2_with (first|(refine wpList_load_ps (by rfl) _ rfl _ rfl _ (HP.out) ?_)|(refine wpList_load_pb (by rfl) _ rfl _ rfl _ (HP.out) ?_))
 refine (HC0.out _).mono ?_
 rintro e w1 ⟨rfl,k1⟩
 have HK1:=Qh (HK0.out.trans k1)
 have HP1:=Qh (HP.out.kept k1)
 have ct:=HP1.out.turn
 have cc:=HP1.out.cas
 have ce:=HP1.out.ep
 clear k1
 go_wp2
 go_ret
 exact ⟨by rw [HF.out];rfl,HK1.out⟩
theorem rpw_c0 (p:Ps) (hB:Brd p.B) (a0:wrongI p.B=0) (n0:¬ p.t<0) (n1:¬ 1<p.t) (h:p.c<0) (w:World) :
  Calls Tryz.prog 11 #[.agg (pl p).toArray] w fun e w'=>e=.returned (.int .i64 (pwI p))∧Kept w w':=by
 have HP:=Qh (PAt.new w hB.1)
 have HK0:=Qh ((Kept.refl w).alloc (.cells (pl p).toArray 26))
 have HB:=Qh hB
 have HC0:=Qh (rwrong_is p.B hB)
 have HF:Hid (pwI p=5):=by
  have:withinB p=false:=by rw [← Bool.not_eq_true,within_iff];omega
  unfold pwI;rw [if_neg (by omega),if_pos this];rfl
 rw [a0] at HC0
 clear hB a0
 go_enter Tryz.func11,Tryz.ntmps11
 go_wp2_with (first|(refine wpList_load_ps (by rfl) _ rfl _ rfl _ (HP.out) ?_)|(refine wpList_load_pb (by rfl) _ rfl _ rfl _ (HP.out) ?_))
 refine (HC0.out _).mono ?_
 rintro e w1 ⟨rfl,k1⟩
 have HK1:=Qh (HK0.out.trans k1)
 have HP1:=Qh (HP.out.kept k1)
 have ct:=HP1.out.turn
 have cc:=HP1.out.cas
 have ce:=HP1.out.ep
 clear k1
 go_wp2
 go_ret
 exact ⟨by rw [HF.out];rfl,HK1.out⟩
theorem rpw_c1 (p:Ps) (hB:Brd p.B) (a0:wrongI p.B=0) (n0:¬ p.t<0) (n1:¬ 1<p.t) (h:15<p.c) (w:World) :
  Calls Tryz.prog 11 #[.agg (pl p).toArray] w fun e w'=>e=.returned (.int .i64 (pwI p))∧Kept w w':=by
 have HP:=Qh (PAt.new w hB.1)
 have HK0:=Qh ((Kept.refl w).alloc (.cells (pl p).toArray 26))
 have HB:=Qh hB
 have HC0:=Qh (rwrong_is p.B hB)
 have HF:Hid (pwI p=5):=by
  have:withinB p=false:=by rw [← Bool.not_eq_true,within_iff];omega
  unfold pwI;rw [if_neg (by omega),if_pos this];rfl
 have n2:¬ p.c<0:=by omega
 rw [a0] at HC0
 clear hB a0
 go_enter Tryz.func11,Tryz.ntmps11
 go_wp2_with (first|(refine wpList_load_ps (by rfl) _ rfl _ rfl _ (HP.out) ?_)|(refine wpList_load_pb (by rfl) _ rfl _ rfl _ (HP.out) ?_))
 refine (HC0.out _).mono ?_
 rintro e w1 ⟨rfl,k1⟩
 have HK1:=Qh (HK0.out.trans k1)
 have HP1:=Qh (HP.out.kept k1)
 have ct:=HP1.out.turn
 have cc:=HP1.out.cas
 have ce:=HP1.out.ep
 clear k1
 go_wp2
 go_ret
 exact ⟨by rw [HF.out];rfl,HK1.out⟩
theorem rpw_e0 (p:Ps) (hB:Brd p.B) (a0:wrongI p.B=0) (n0:¬ p.t<0) (n1:¬ 1<p.t) (n2:¬ p.c<0) (n3:¬ 15<p.c) (h:p.e < -1) (w:World) :
  Calls Tryz.prog 11 #[.agg (pl p).toArray] w fun e w'=>e=.returned (.int .i64 (pwI p))∧Kept w w':=by
 have HP:=Qh (PAt.new w hB.1)
 have HK0:=Qh ((Kept.refl w).alloc (.cells (pl p).toArray 26))
 have HB:=Qh hB
 have HC0:=Qh (rwrong_is p.B hB)
 have HF:Hid (pwI p=5):=by
  have:withinB p=false:=by rw [← Bool.not_eq_true,within_iff];omega
  unfold pwI;rw [if_neg (by omega),if_pos this];rfl
 rw [a0] at HC0
 clear hB a0
 go_enter Tryz.func11,Tryz.ntmps11
 go_wp2_with (first|(refine wpList_load_ps (by rfl) _ rfl _ rfl _ (HP.out) ?_)|(refine wpList_load_pb (by rfl) _ rfl _ rfl _ (HP.out) ?_))
 refine (HC0.out _).mono ?_
 rintro e w1 ⟨rfl,k1⟩
 have HK1:=Qh (HK0.out.trans k1)
 have HP1:=Qh (HP.out.kept k1)
 have ct:=HP1.out.turn
 have cc:=HP1.out.cas
 have ce:=HP1.out.ep
 clear k1
 go_wp2
 go_ret
 exact ⟨by rw [HF.out];rfl,HK1.out⟩
theorem rpw_e1 (p:Ps) (hB:Brd p.B) (a0:wrongI p.B=0) (n0:¬ p.t<0) (n1:¬ 1<p.t) (n2:¬ p.c<0) (n3:¬ 15<p.c) (h:63<p.e) (w:World) :
  Calls Tryz.prog 11 #[.agg (pl p).toArray] w fun e w'=>e=.returned (.int .i64 (pwI p))∧Kept w w':=by
 have HP:=Qh (PAt.new w hB.1)
 have HK0:=Qh ((Kept.refl w).alloc (.cells (pl p).toArray 26))
 have HB:=Qh hB
 have HC0:=Qh (rwrong_is p.B hB)
 have HF:Hid (pwI p=5):=by
  have:withinB p=false:=by rw [← Bool.not_eq_true,within_iff];omega
  unfold pwI;rw [if_neg (by omega),if_pos this];rfl
 have n4:¬ p.e < -1:=by omega
 rw [a0] at HC0
 clear hB a0
 go_enter Tryz.func11,Tryz.ntmps11
 go_wp2_with (first|(refine wpList_load_ps (by rfl) _ rfl _ rfl _ (HP.out) ?_)|(refine wpList_load_pb (by rfl) _ rfl _ rfl _ (HP.out) ?_))
 refine (HC0.out _).mono ?_
 rintro e w1 ⟨rfl,k1⟩
 have HK1:=Qh (HK0.out.trans k1)
 have HP1:=Qh (HP.out.kept k1)
 have ct:=HP1.out.turn
 have cc:=HP1.out.cas
 have ce:=HP1.out.ep
 clear k1
 go_wp2
 go_ret
 exact ⟨by rw [HF.out];rfl,HK1.out⟩
set_option maxRecDepth 100000 in
set_option maxHeartbeats 2000000 in
theorem rpw_far (p:Ps) (hB:Brd p.B) (a0:wrongI p.B=0) (a1:withinB p=true) (ha:(farA (kingI p.B 0) (kingI p.B 1) == 1)=true) (w:World) :
  Calls Tryz.prog 11 #[.agg (pl p).toArray] w fun e w'=>e=.returned (.int .i64 (pwI p))∧Kept w w':=by
 have HP:=Qh (PAt.new w hB.1)
 have HK0:=Qh ((Kept.refl w).alloc (.cells (pl p).toArray 26))
 have HB:=Qh hB
 have HC0:=Qh (rwrong_is p.B hB)
 obtain ⟨t01,⟨c0,c1⟩,e0,e1⟩:=(within_iff p).1 a1
 have hwr:IntKind.i64.wrap (1-p.t)=1-p.t:=by rcases t01 with h|h <;> rw [h] <;> decide
 have n0:¬ p.t<0:=by omega
 have n1:¬ 1<p.t:=by omega
 have n2:¬ p.c<0:=by omega
 have n3:¬ 15<p.c:=by omega
 have n4:¬ p.e < -1:=by omega
 have n5:¬ 63<p.e:=by omega
 have HKa:=Qh (rking_is p.B hB 0)
 have HKb:=Qh (rking_is p.B hB 1)
 have HFa:=Qh (rfar_any (kingI p.B 0) (kingI p.B 1))
 have HCk:=Qh (rcheck_is p.B hB (1-p.t) (by omega))
 have HTo:Hid (touchB p=((farA (kingI p.B 0) (kingI p.B 1) == 1) || checkB p.B (1-p.t))):=by
  have:otherI p.t=1-p.t:=by unfold otherI;split <;> first|omega|(split <;> omega)
  unfold touchB;rw [this];rfl
 rw [ha] at HTo
 have HF:Hid (pwI p=9):=by
  unfold pwI;rw [if_neg (by omega),if_neg (by rw [a1];decide),if_pos (by rw [HTo.out];rfl)];rfl
 rw [a0] at HC0
 clear hB a0 a1 HTo
 generalize farA (kingI p.B 0) (kingI p.B 1)=F at *
 generalize checkB p.B (1-p.t)=cb at *
 generalize kingI p.B 0=K0 at *
 generalize kingI p.B 1=K1 at *
 go_enter Tryz.func11,Tryz.ntmps11
 go_wp2_with (first|(refine wpList_load_ps (by rfl) _ rfl _ rfl _ (HP.out) ?_)|(refine wpList_load_pb (by rfl) _ rfl _ rfl _ (HP.out) ?_))
 refine (HC0.out _).mono ?_
 rintro e w1 ⟨rfl,k1⟩
 have HK1:=Qh (HK0.out.trans k1)
 have HP1:=Qh (HP.out.kept k1)
 have ct:=HP1.out.turn
 have cc:=HP1.out.cas
 have ce:=HP1.out.ep
 clear k1
 go_wp2
 refine wp_region_held_drew (S:=Kept _) (by kernel_rfl) (Kept.refl _).drew (fun Qj=>?_)
 refine rT 0 39 (.pointer (some ⟨w.heap.size,0,none⟩)) rfl rfl Qj ?_
 simp only [pA,pN,sZ,sU]
 refine rY 1 40 rfl rfl (take_load_pb (by rfl) _ rfl _ rfl p HB.out.1 (fun _ h=>(HP1.out).kept h)) Qj ?_
 simp only [pA,pN,sZ,sU]
 refine rT 3 42 (.pointer (some ⟨w.heap.size,0,none⟩)) rfl rfl Qj ?_
 simp only [pA,pN,sZ,sU]
 refine rY 4 43 rfl rfl (take_load_pb (by rfl) _ rfl _ rfl p HB.out.1 (fun _ h=>(HP1.out).kept h)) Qj ?_
 simp only [pA,pN,sZ,sU]
 refine rR 2 rfl (fun K hK=>?_)
 go_simp
 refine (HKa.out _).mono ?_
 rintro e x1 ⟨rfl,gx1⟩
 refine hK.out _ _ (Qj.trans gx1) (fun _=>?_)
 replace Qj:=Qj.trans gx1
 clear hK K
 refine rR 5 rfl (fun K hK=>?_)
 go_simp
 refine (HKb.out _).mono ?_
 rintro e x2 ⟨rfl,gx2⟩
 refine hK.out _ _ (Qj.trans gx2) (fun _=>?_)
 replace Qj:=Qj.trans gx2
 clear hK K
 refine rR 6 rfl (fun K hK=>?_)
 go_simp
 refine (HFa.out _).mono ?_
 rintro e x3 ⟨rfl,gx3⟩
 refine hK.out _ _ (Qj.trans gx3) (fun _=>?_)
 replace Qj:=Qj.trans gx3
 clear hK K
 refine rT 7 46 (.bool true) rfl rfl Qj ?_
 simp only [pA,pN,sZ,sU]
 refine rT 8 47 (.bool true) rfl rfl Qj ?_
 simp only [pA,pN,sZ,sU]
 refine rN 9 48 rfl rfl Qj ?_
 simp only [pA,pN,sZ,sU]
 refine rN 10 49 rfl rfl Qj ?_
 simp only [pA,pN,sZ,sU]
 refine rN 11 50 rfl rfl Qj ?_
 simp only [pA,pN,sZ,sU]
 refine rN 12 51 rfl rfl Qj ?_
 simp only [pA,pN,sZ,sU]
 refine rN 13 52 rfl rfl Qj ?_
 simp only [pA,pN,sZ,sU]
 refine rN 14 53 rfl rfl Qj ?_
 simp only [pA,pN,sZ,sU]
 refine rT 15 54 (.bool true) rfl rfl Qj ?_
 simp only [pA,pN,sZ,sU]
 refine wpAnyH_done (by kernel_rfl) ?_ _
 have HA:=Qh Qj
 clear Qj ct cc ce
 go_wp2
 go_ret
 exact ⟨by rw [HF.out];rfl,HK1.out.trans HA.out⟩
set_option maxRecDepth 100000 in
set_option maxHeartbeats 2000000 in
theorem rpw_chk (p:Ps) (hB:Brd p.B) (a0:wrongI p.B=0) (a1:withinB p=true) (ha:(farA (kingI p.B 0) (kingI p.B 1) == 1)=false) (hb:checkB p.B (1-p.t)=true) (w:World) :
  Calls Tryz.prog 11 #[.agg (pl p).toArray] w fun e w'=>e=.returned (.int .i64 (pwI p))∧Kept w w':=by
 have HP:=Qh (PAt.new w hB.1)
 have HK0:=Qh ((Kept.refl w).alloc (.cells (pl p).toArray 26))
 have HB:=Qh hB
 have HC0:=Qh (rwrong_is p.B hB)
 obtain ⟨t01,⟨c0,c1⟩,e0,e1⟩:=(within_iff p).1 a1
 have hwr:IntKind.i64.wrap (1-p.t)=1-p.t:=by rcases t01 with h|h <;> rw [h] <;> decide
 have n0:¬ p.t<0:=by omega
 have n1:¬ 1<p.t:=by omega
 have n2:¬ p.c<0:=by omega
 have n3:¬ 15<p.c:=by omega
 have n4:¬ p.e < -1:=by omega
 have n5:¬ 63<p.e:=by omega
 have HKa:=Qh (rking_is p.B hB 0)
 have HKb:=Qh (rking_is p.B hB 1)
 have HFa:=Qh (rfar_any (kingI p.B 0) (kingI p.B 1))
 have HCk:=Qh (rcheck_is p.B hB (1-p.t) (by omega))
 have HTo:Hid (touchB p=((farA (kingI p.B 0) (kingI p.B 1) == 1) || checkB p.B (1-p.t))):=by
  have:otherI p.t=1-p.t:=by unfold otherI;split <;> first|omega|(split <;> omega)
  unfold touchB;rw [this];rfl
 rw [ha,hb] at HTo
 have HF:Hid (pwI p=9):=by
  unfold pwI;rw [if_neg (by omega),if_neg (by rw [a1];decide),if_pos (by rw [HTo.out];rfl)];rfl
 rw [a0] at HC0
 rw [hb] at HCk
 clear hB a0 a1 HTo hb
 generalize farA (kingI p.B 0) (kingI p.B 1)=F at *
 generalize kingI p.B 0=K0 at *
 generalize kingI p.B 1=K1 at *
 go_enter Tryz.func11,Tryz.ntmps11
 go_wp2_with (first|(refine wpList_load_ps (by rfl) _ rfl _ rfl _ (HP.out) ?_)|(refine wpList_load_pb (by rfl) _ rfl _ rfl _ (HP.out) ?_))
 refine (HC0.out _).mono ?_
 rintro e w1 ⟨rfl,k1⟩
 have HK1:=Qh (HK0.out.trans k1)
 have HP1:=Qh (HP.out.kept k1)
 have ct:=HP1.out.turn
 have cc:=HP1.out.cas
 have ce:=HP1.out.ep
 clear k1
 go_wp2
 refine wp_region_held_drew (S:=Kept _) (by kernel_rfl) (Kept.refl _).drew (fun Qj=>?_)
 refine rT 0 39 (.pointer (some ⟨w.heap.size,0,none⟩)) rfl rfl Qj ?_
 simp only [pA,pN,sZ,sU]
 refine rY 1 40 rfl rfl (take_load_pb (by rfl) _ rfl _ rfl p HB.out.1 (fun _ h=>(HP1.out).kept h)) Qj ?_
 simp only [pA,pN,sZ,sU]
 refine rT 3 42 (.pointer (some ⟨w.heap.size,0,none⟩)) rfl rfl Qj ?_
 simp only [pA,pN,sZ,sU]
 refine rY 4 43 rfl rfl (take_load_pb (by rfl) _ rfl _ rfl p HB.out.1 (fun _ h=>(HP1.out).kept h)) Qj ?_
 simp only [pA,pN,sZ,sU]
 refine rR 2 rfl (fun K hK=>?_)
 go_simp
 refine (HKa.out _).mono ?_
 rintro e x1 ⟨rfl,gx1⟩
 refine hK.out _ _ (Qj.trans gx1) (fun _=>?_)
 replace Qj:=Qj.trans gx1
 clear hK K
 refine rR 5 rfl (fun K hK=>?_)
 go_simp
 refine (HKb.out _).mono ?_
 rintro e x2 ⟨rfl,gx2⟩
 refine hK.out _ _ (Qj.trans gx2) (fun _=>?_)
 replace Qj:=Qj.trans gx2
 clear hK K
 refine rR 6 rfl (fun K hK=>?_)
 go_simp
 refine (HFa.out _).mono ?_
 rintro e x3 ⟨rfl,gx3⟩
 refine hK.out _ _ (Qj.trans gx3) (fun _=>?_)
 replace Qj:=Qj.trans gx3
 clear hK K
 refine rT 7 46 (.bool false) rfl rfl Qj ?_
 simp only [pA,pN,sZ,sU]
 refine rT 8 47 (.bool false) rfl rfl Qj ?_
 simp only [pA,pN,sZ,sU]
 refine rT 9 48 (.pointer (some ⟨w.heap.size,0,none⟩)) rfl rfl Qj ?_
 simp only [pA,pN,sZ,sU]
 refine rY 10 49 rfl rfl (take_load_pb (by rfl) _ rfl _ rfl p HB.out.1 (fun _ h=>(HP1.out).kept h)) Qj ?_
 simp only [pA,pN,sZ,sU]
 refine rT 11 50 (.pointer (some ⟨w.heap.size,64,none⟩)) rfl rfl Qj ?_
 simp only [pA,pN,sZ,sU]
 refine rC 12 51 (.int .i64 p.t) rfl rfl (fun _ h=>kept_cell h (HP1.out.turn)) Qj ?_
 simp only [pA,pN,sZ,sU]
 refine rT 13 52 (.int .i64 (1-p.t)) rfl rfl Qj ?_
 simp only [pA,pN,sZ,sU]
 refine rR 14 rfl (fun K hK=>?_)
 go_simp
 refine (HCk.out _).mono ?_
 rintro e x4 ⟨rfl,gx4⟩
 refine hK.out _ _ (Qj.trans gx4) (fun _=>?_)
 replace Qj:=Qj.trans gx4
 clear hK K
 refine rT 15 54 (.bool true) rfl rfl Qj ?_
 simp only [pA,pN,sZ,sU]
 refine wpAnyH_done (by kernel_rfl) ?_ _
 have HA:=Qh Qj
 clear Qj ct cc ce
 go_wp2
 go_ret
 exact ⟨by rw [HF.out];rfl,HK1.out.trans HA.out⟩
def rg (k:Nat):Int:=[1,2,4,8,16].getD k 0
theorem rg_at {k:Nat} (hk:k<4):rg k=hR k∧1≤rg k∧rg k≤8∧2*rg k=rg (k+1):=by
 have:k=0∨k=1∨k=2∨k=3:=by omega
 rcases this with rfl|rfl|rfl|rfl <;> decide
theorem rg_end {k:Nat} (hk:k≤4) (h:¬ k<4):¬ rg k≤8:=by
 obtain rfl:k=4:=by omega
 decide
set_option maxRecDepth 100000 in
set_option maxHeartbeats 4000000 in
theorem rpw_rest (p:Ps) (hB:Brd p.B) (a0:wrongI p.B=0) (a1:withinB p=true) (a2:touchB p=false) (w:World) :
  Calls Tryz.prog 11 #[.agg (pl p).toArray] w fun e w'=>e=.returned (.int .i64 (pwI p))∧Kept w w':=by
 have HP:=Qh (PAt.new w hB.1)
 have HK0:=Qh ((Kept.refl w).alloc (.cells (pl p).toArray 26))
 have HB:=Qh hB
 have HC0:=Qh (rwrong_is p.B hB)
 obtain ⟨t01,⟨c0,c1⟩,e0,e1⟩:=(within_iff p).1 a1
 have hwr:IntKind.i64.wrap (1-p.t)=1-p.t:=by rcases t01 with h|h <;> rw [h] <;> decide
 have n0:¬ p.t<0:=by omega
 have n1:¬ 1<p.t:=by omega
 have n2:¬ p.c<0:=by omega
 have n3:¬ 15<p.c:=by omega
 have n4:¬ p.e < -1:=by omega
 have n5:¬ 63<p.e:=by omega
 have HKa:=Qh (rking_is p.B hB 0)
 have HKb:=Qh (rking_is p.B hB 1)
 have HFa:=Qh (rfar_any (kingI p.B 0) (kingI p.B 1))
 have HCk:=Qh (rcheck_is p.B hB (1-p.t) (by omega))
 have HTo:Hid (touchB p=((farA (kingI p.B 0) (kingI p.B 1) == 1) || checkB p.B (1-p.t))):=by
  have:otherI p.t=1-p.t:=by unfold otherI;split <;> first|omega|(split <;> omega)
  unfold touchB;rw [this];rfl
 rw [a2] at HTo
 obtain ⟨ha,hb⟩:=Bool.or_eq_false_iff.1 HTo.out.symm
 have HF10:Hid (casB p=false→pwI p=10):=by
  show _→_
  intro h;unfold pwI;rw [if_neg (by omega),if_neg (by rw [a1];decide),if_neg (by rw [a2];decide),if_pos h]
 have HF11:Hid (casB p=true→0≤p.e→passI p<0→pwI p=11):=by
  show _→_
  intro h h1 h2
  have:epB p=false:=by
   unfold epB passB
   rw [show decide (0≤passI p)=false by rw [decide_eq_false_iff_not];omega,show (p.e == -1)=false by rw [beq_eq_false_iff_ne];omega]
   rfl
  unfold pwI;rw [if_neg (by omega),if_neg (by rw [a1];decide),if_neg (by rw [a2];decide),if_neg (by rw [h];decide),if_pos this]
 have HF0:Hid (casB p=true→(p.e<0∨0≤passI p)→pwI p=0):=by
  show _→_
  intro h h1
  have:epB p=true:=by
   unfold epB passB
   rw [Bool.or_eq_true,decide_eq_true_iff,beq_iff_eq]
   omega
  unfold pwI;rw [if_neg (by omega),if_neg (by rw [a1];decide),if_neg (by rw [a2];decide),if_neg (by rw [h];decide),if_neg (by rw [this];decide)]
 have HPs:=Qh (rpassed_is p hB)
 have HBk:=Qh (rbacked_is p.B hB)
 have HHas:=Qh (fun r w h1 h2=>rhas_is p.c r w c0 c1 h1 h2)
 rw [a0] at HC0
 rw [hb] at HCk
 clear hB a0 a1 a2 HTo hb
 generalize farA (kingI p.B 0) (kingI p.B 1)=F at *
 generalize kingI p.B 0=K0 at *
 generalize kingI p.B 1=K1 at *
 go_enter Tryz.func11,Tryz.ntmps11
 go_wp2_with (first|(refine wpList_load_ps (by rfl) _ rfl _ rfl _ (HP.out) ?_)|(refine wpList_load_pb (by rfl) _ rfl _ rfl _ (HP.out) ?_))
 refine (HC0.out _).mono ?_
 rintro e w1 ⟨rfl,k1⟩
 have HK1:=Qh (HK0.out.trans k1)
 have HP1:=Qh (HP.out.kept k1)
 have ct:=HP1.out.turn
 have cc:=HP1.out.cas
 have ce:=HP1.out.ep
 clear k1
 go_wp2
 refine wp_region_held_drew (S:=Kept _) (by kernel_rfl) (Kept.refl _).drew (fun Qj=>?_)
 refine rT 0 39 (.pointer (some ⟨w.heap.size,0,none⟩)) rfl rfl Qj ?_
 simp only [pA,pN,sZ,sU]
 refine rY 1 40 rfl rfl (take_load_pb (by rfl) _ rfl _ rfl p HB.out.1 (fun _ h=>(HP1.out).kept h)) Qj ?_
 simp only [pA,pN,sZ,sU]
 refine rT 3 42 (.pointer (some ⟨w.heap.size,0,none⟩)) rfl rfl Qj ?_
 simp only [pA,pN,sZ,sU]
 refine rY 4 43 rfl rfl (take_load_pb (by rfl) _ rfl _ rfl p HB.out.1 (fun _ h=>(HP1.out).kept h)) Qj ?_
 simp only [pA,pN,sZ,sU]
 refine rR 2 rfl (fun K hK=>?_)
 go_simp
 refine (HKa.out _).mono ?_
 rintro e x1 ⟨rfl,gx1⟩
 refine hK.out _ _ (Qj.trans gx1) (fun _=>?_)
 replace Qj:=Qj.trans gx1
 clear hK K
 refine rR 5 rfl (fun K hK=>?_)
 go_simp
 refine (HKb.out _).mono ?_
 rintro e x2 ⟨rfl,gx2⟩
 refine hK.out _ _ (Qj.trans gx2) (fun _=>?_)
 replace Qj:=Qj.trans gx2
 clear hK K
 refine rR 6 rfl (fun K hK=>?_)
 go_simp
 refine (HFa.out _).mono ?_
 rintro e x3 ⟨rfl,gx3⟩
 refine hK.out _ _ (Qj.trans gx3) (fun _=>?_)
 replace Qj:=Qj.trans gx3
 clear hK K
 refine rT 7 46 (.bool false) rfl rfl Qj ?_
 simp only [pA,pN,sZ,sU]
 refine rT 8 47 (.bool false) rfl rfl Qj ?_
 simp only [pA,pN,sZ,sU]
 refine rT 9 48 (.pointer (some ⟨w.heap.size,0,none⟩)) rfl rfl Qj ?_
 simp only [pA,pN,sZ,sU]
 refine rY 10 49 rfl rfl (take_load_pb (by rfl) _ rfl _ rfl p HB.out.1 (fun _ h=>(HP1.out).kept h)) Qj ?_
 simp only [pA,pN,sZ,sU]
 refine rT 11 50 (.pointer (some ⟨w.heap.size,64,none⟩)) rfl rfl Qj ?_
 simp only [pA,pN,sZ,sU]
 refine rC 12 51 (.int .i64 p.t) rfl rfl (fun _ h=>kept_cell h (HP1.out.turn)) Qj ?_
 simp only [pA,pN,sZ,sU]
 refine rT 13 52 (.int .i64 (1-p.t)) rfl rfl Qj ?_
 simp only [pA,pN,sZ,sU]
 refine rR 14 rfl (fun K hK=>?_)
 go_simp
 refine (HCk.out _).mono ?_
 rintro e x4 ⟨rfl,gx4⟩
 refine hK.out _ _ (Qj.trans gx4) (fun _=>?_)
 replace Qj:=Qj.trans gx4
 clear hK K
 refine rT 15 54 (.bool false) rfl rfl Qj ?_
 simp only [pA,pN,sZ,sU]
 refine wpAnyH_done (by kernel_rfl) ?_ _
 have HK2:=Qh (HK1.out.trans Qj)
 have HP2:=Qh (HP1.out.kept Qj)
 clear Qj ct cc ce gx1 gx2 gx3 gx4
 go_wp2
 go_loopw [4] (fun t4 wr=>∃ k:Nat,k≤4∧t4=.int .i64 (rg k)∧(∀ j,j<k→okC p j=true)∧Kept x4 wr) (fun t4 _=>(16-intOf t4).toNat)
 case atStart=>exact ⟨0,by omega,rfl,fun j hj=>by omega,Kept.refl _⟩
 case round =>
  obtain ⟨k,hk,rfl,hno,hK⟩:=hrel
  have HNo:=Qh hno
  have HK:=Qh (HK2.out.trans hK)
  have HKr:=Qh hK
  have HPr:=Qh (HP2.out.kept hK)
  clear hno hK
  by_cases hlt:k<4
  ·obtain ⟨r1,r2,r3,r4⟩:=rg_at hlt
   have HN:=Qh r4
   have HOk:Hid (okC p k=(!rgtB p.c (rg k) || backB p.B (rg k))):=by rw [r1];rfl
   have HH:=Qh (fun w=>HHas.out (rg k) w r2 r3)
   have HBr:=Qh (HBk.out (rg k))
   have cc:=HPr.out.cas
   clear r1 r4
   generalize backB p.B (rg k)=bb at *
   generalize hrr:rg k=r at *
   have HRR:=Qh hrr
   clear hrr
   cases hh:rgtB p.c r
   ·rw [hh] at HOk HH
    clear hh
    go_wp2_with fail
    refine (HH.out _).mono ?_
    rintro e w3 ⟨rfl,k3⟩
    have HK3:=Qh (HKr.out.trans k3)
    clear k3 cc
    go_wp2
    go_roundw
    case rel=>exact ⟨k+1,by omega,by rw [← HN.out],fun j hj=>by rcases Nat.lt_succ_iff_lt_or_eq.1 hj with h|h;exact HNo.out j h;rw [h,HOk.out];rfl,HK3.out⟩
    case measure=>simp [intOf];omega
   ·rw [hh] at HOk HH
    clear hh
    cases bb
    ·have HF:=Qh (HF10.out (cas_no hlt HOk.out))
     go_wp2_with fail
     refine (HH.out _).mono ?_
     rintro e w3 ⟨rfl,k3⟩
     have HK3:=Qh (HK.out.trans k3)
     have HP3:=Qh (HPr.out.kept k3)
     clear k3 cc
     go_wp2_with (first|(refine wpList_load_ps (by rfl) _ rfl _ rfl _ (HP3.out) ?_)|(refine wpList_load_pb (by rfl) _ rfl _ rfl _ (HP3.out) ?_))
     refine (HBr.out _).mono ?_
     rintro e w4 ⟨rfl,k4⟩
     have HK4:=Qh (HK3.out.trans k4)
     clear k4
     go_wp2
     go_ret
     exact ⟨by rw [HF.out];rfl,HK4.out⟩
    ·skip
     go_wp2_with fail
     refine (HH.out _).mono ?_
     rintro e w3 ⟨rfl,k3⟩
     have HK3:=Qh (HKr.out.trans k3)
     have HP3:=Qh (HPr.out.kept k3)
     clear k3 cc
     go_wp2_with (first|(refine wpList_load_ps (by rfl) _ rfl _ rfl _ (HP3.out) ?_)|(refine wpList_load_pb (by rfl) _ rfl _ rfl _ (HP3.out) ?_))
     refine (HBr.out _).mono ?_
     rintro e w4 ⟨rfl,k4⟩
     have HK4:=Qh (HK3.out.trans k4)
     clear k4
     go_wp2
     go_roundw
     case rel=>exact ⟨k+1,by omega,by rw [← HN.out],fun j hj=>by rcases Nat.lt_succ_iff_lt_or_eq.1 hj with h|h;exact HNo.out j h;rw [h,HOk.out];rfl,HK4.out⟩
     case measure=>simp [intOf];omega
  ·have HCas:=Qh (cas_yes (p:=p) (fun j hj=>HNo.out j (by omega)))
   have hend:=rg_end hk hlt
   have ce:=HPr.out.ep
   generalize rg k=r at *
   by_cases he:0≤p.e
   ·by_cases hp:passI p<0
    ·have HF:=Qh (HF11.out HCas.out he hp)
     generalize passI p=ps at *
     go_wp2_with (first|(refine wpList_load_ps (by rfl) _ rfl _ rfl _ (HPr.out) ?_)|(refine wpList_load_pb (by rfl) _ rfl _ rfl _ (HPr.out) ?_))
     refine (HPs.out _).mono ?_
     rintro e w3 ⟨rfl,k3⟩
     have HK3:=Qh (HK.out.trans k3)
     clear k3 ce
     go_wp2
     go_ret
     exact ⟨by rw [HF.out];rfl,HK3.out⟩
    ·have HF:=Qh (HF0.out HCas.out (by omega))
     have hp':¬ passI p<0:=hp
     generalize passI p=ps at *
     go_wp2_with (first|(refine wpList_load_ps (by rfl) _ rfl _ rfl _ (HPr.out) ?_)|(refine wpList_load_pb (by rfl) _ rfl _ rfl _ (HPr.out) ?_))
     refine (HPs.out _).mono ?_
     rintro e w3 ⟨rfl,k3⟩
     have HK3:=Qh (HK.out.trans k3)
     clear k3 ce
     go_wp2
     go_ret
     exact ⟨by rw [HF.out];rfl,HK3.out⟩
   ·have HF:=Qh (HF0.out HCas.out (by omega))
    go_wp2
    go_ret
    exact ⟨by rw [HF.out];rfl,HK.out⟩
theorem rpwrong_is (p:Ps) (hB:Brd p.B) (w:World) :
  Calls Tryz.prog 11 #[.agg (pl p).toArray] w fun e w'=>e=.returned (.int .i64 (pwI p))∧Kept w w':=by
 by_cases a0:wrongI p.B=0
 ·cases a1:withinB p
  ·have:=mt (within_iff p).2 (by rw [a1];decide)
   by_cases n0:p.t<0
   ·exact rpw_t0 p hB a0 n0 w
   ·by_cases n1:1<p.t
    ·exact rpw_t1 p hB a0 n1 w
    ·by_cases n2:p.c<0
     ·exact rpw_c0 p hB a0 n0 n1 n2 w
     ·by_cases n3:15<p.c
      ·exact rpw_c1 p hB a0 n0 n1 n3 w
      ·by_cases n4:p.e < -1
       ·exact rpw_e0 p hB a0 n0 n1 n2 n3 n4 w
       ·exact rpw_e1 p hB a0 n0 n1 n2 n3 (by omega) w
  ·cases a2:touchB p
   ·exact rpw_rest p hB a0 a1 a2 w
   ·obtain ⟨t01,_⟩:=(within_iff p).1 a1
    have ho:otherI p.t=1-p.t:=by unfold otherI;split <;> first|omega|(split <;> omega)
    unfold touchB at a2
    rw [ho] at a2
    cases ha:(farA (kingI p.B 0) (kingI p.B 1) == 1)
    ·rw [ha,Bool.false_or] at a2
     exact rpw_chk p hB a0 a1 ha a2 w
    ·exact rpw_far p hB a0 a1 ha w
 ·exact rpw_board p hB a0 w
set_option maxRecDepth 100000
set_option maxHeartbeats 4000000

theorem take_load_po {ops:Array Oper} {S:World→Prop} {op:Oper} {a:Act} (hw:Region.wanted op (yielded ops a.tmps)=true) (x:Operand) (ho:op.op=.load 26 x)
  (g:Nat) (hx:a.eval x=.pointer (some ⟨g,0,none⟩)) (p:Ps) (hp:p.B.length=64) (hS:∀ w,S w→w.rangeAt g 0 (pl p)):YieldsIf Tryz.prog ops S op (.agg (pl p).toArray) a :=
 yieldsIf_load_mid hw 26 x ho g 0 hx (pl p) _ hS Tryz.underlying26 rfl (by rw [sizeP,pl_length hp])
theorem kcheck_is (K:Tk) (hB:Brd K.B) (w:World) (hT:Tabs w):Calls Tryz.prog 10 #[kv K] w fun e w'=>e=.returned (.int .i64 (pwI (pk K)))∧Kept w w':=by
 have H1:=Qh (KAt.new w hB.1)
 have K1:=Qh ((Kept.refl w).alloc (.cells (kcl K).toArray 30))
 have hlen:=Qh hB.1
 have HW:=Qh (fun w hT=>pwrong_is (pk K) hB w hT)
 have HTb:=Qh (hT.kept K1.out)
 clear hB hT
 go_enter Tryz.func10,Tryz.ntmps10
 go_upto_region 1 with (refine wpList_box_k rfl _ rfl K rfl ?_)
 generalize w.alloc (.cells (kcl K).toArray 30)=W1 at *
 generalize w.heap.size=g at *
 go_wp2_with (refine wpList_load_midw (by rfl) 26 _ rfl g 0 rfl (pl (pk K)) _ H1.out.pos Tryz.underlying26 rfl (by rw [sizeP,pl_length hlen.out]) ?_)
 refine (HW.out _ HTb.out).mono ?_
 rintro e w2 ⟨rfl,k2⟩
 have K2:=Qh (K1.out.trans k2)
 clear k2
 go_wp2
 go_ret
 exact ⟨rfl,K2.out⟩
theorem kwr_no (K:Tk) (hB:Brd K.B) (h:okK K=false) (w:World) (hT:tabsW w) (hP:Tabs w) :
  Calls Tryz.prog 3 #[kv K] w fun e w'=>e=.returned (.bool true)∧Kept w w':=by
 have H1:=Qh (KAt.new w hB.1)
 have K1:=Qh ((Kept.refl w).alloc (.cells (kcl K).toArray 30))
 have HT:=Qh hT
 have HP:=Qh hP
 have hlen:=Qh hB.1
 have HWk:=Qh (fun w hT=>task_wakes w hT)
 have HWr:=Qh (fun w hT=>kwrite_no K hB h w hT)
 have HRf:=Qh (fun w=>rkwrite_no K hB h w)
 have HCk:=Qh (fun w hT=>kcheck_is K hB w hT)
 have HPw:=Qh (fun w=>rpwrong_is (pk K) hB w)
 have HRd:=Qh (fun w hT=>taskread_is ⟨#[]⟩ (by decide) w hT)
 unfold KRet at HRd
 generalize (rdz fsL rlL (bs ⟨#[]⟩)).1=zn at *
 generalize (rdz fsL rlL (bs ⟨#[]⟩)).2=ze at *
 generalize rdK ⟨#[]⟩=Ka at *
 generalize pwI (pk K)=c at *
 clear hT hP h hB
 go_enter Tryz.func3,Tryz.ntmps3
 go_upto_region 1 with (refine wpList_box_k rfl _ rfl K rfl ?_)
 generalize w.alloc (.cells (kcl K).toArray 30)=W1 at *
 generalize w.heap.size=g at *
 go_wp2_with fail
 refine (HWk.out _ (HT.out.kept K1.out).1).mono ?_
 rintro e w2 ⟨rfl,k2⟩
 have H2:=Qh (H1.out.heap k2)
 have K2:=Qh (K1.out.trans k2)
 clear k2
 go_wp2_with (refine wpList_load_k (by rfl) _ rfl g rfl K H2.out ?_)
 refine (HWr.out _ (HT.out.kept K2.out)).mono ?_
 rintro e w3 ⟨rfl,k3⟩
 have K3:=Qh (K2.out.trans k3)
 have H3:=Qh (H2.out.heap k3)
 clear k3
 go_wp2_with (refine wpList_load_k (by rfl) _ rfl g rfl K H3.out ?_)
 refine (HRf.out _).mono ?_
 rintro e w4 ⟨rfl,k4⟩
 have K4:=Qh (K3.out.trans k4)
 have H4:=Qh (H3.out.heap k4)
 clear k4
 have HTP:=Qh (HP.out.kept K4.out)
 go_upto_region 5 with fail
 go_cut [37] from 6 (fun s37 wc=>s37=.bool false∧KAt wc g K∧Kept w wc)
 case first =>
  refine wp_region_held_drew (S:=Kept _) (by kernel_rfl) (Kept.refl _).drew (fun Qj=>?_)
  refine rT 0 22 (.string ⟨#[]⟩) rfl rfl Qj ?_
  simp only [Act.put,sA,sZ,sU]
  refine rT 1 23 (.string ⟨#[]⟩) rfl rfl Qj ?_
  simp only [pA,pN,sZ,sU]
  refine rT 2 24 (.bool false) rfl rfl Qj ?_
  simp only [pA,pN,sZ,sU]
  refine rT 3 25 (.bool false) rfl rfl Qj ?_
  simp only [pA,pN,sZ,sU]
  refine rT 4 26 (.int .i64 5) rfl rfl Qj ?_
  simp only [pA,pN,sZ,sU]
  refine rT 5 27 (.int .i64 5) rfl rfl Qj ?_
  simp only [pA,pN,sZ,sU]
  refine rT 6 28 (.bool false) rfl rfl Qj ?_
  simp only [pA,pN,sZ,sU]
  refine rT 7 29 (.bool false) rfl rfl Qj ?_
  simp only [pA,pN,sZ,sU]
  refine rT 8 30 (.bool false) rfl rfl Qj ?_
  simp only [pA,pN,sZ,sU]
  refine rY 9 31 rfl rfl (take_load_k (by rfl) _ rfl g rfl K hlen.out (fun _ h=>(H4.out.heap h).range)) Qj ?_
  simp only [Act.put,sA,pA,pN,sZ,sU]
  refine rT 11 33 (.pointer (some ⟨g,0,none⟩)) rfl rfl Qj ?_
  simp only [pA,pN,sZ,sU]
  refine rY 12 34 rfl rfl (take_load_po (by rfl) _ rfl g rfl (pk K) hlen.out (fun _ h=>(H4.out.heap h).pos)) Qj ?_
  simp only [Act.put,sA,pA,pN,sZ,sU]
  refine wpAnyH_ready (rs:=[10]) (by kernel_rfl) (by simp) ?_
  refine AllReadyH.cons rfl (fun K' hK'=>?_) AllReadyH.nil
  ·first|rw [if_pos (by rfl)]|skip
   go_simp
   refine (HCk.out _ (HTP.out.kept Qj)).mono ?_
   rintro e wa ⟨rfl,k5⟩
   refine hK'.out _ _ (Qj.trans k5) (fun _=>?_)
   replace Qj:=Qj.trans k5
   clear hK' K' k5
   refine wpAnyH_ready (rs:=[13]) (by kernel_rfl) (by simp) ?_
   refine AllReadyH.cons rfl (fun K' hK'=>?_) AllReadyH.nil
   first|rw [if_pos (by rfl)]|skip
   go_simp
   refine (HPw.out _).mono ?_
   rintro e wb ⟨rfl,k5⟩
   refine hK'.out _ _ (Qj.trans k5) (fun _=>?_)
   replace Qj:=Qj.trans k5
   clear hK' K' k5
   refine rT 14 36 (.bool false) rfl rfl Qj ?_
   simp only [pA,pN,sZ,sU]
   refine rT 15 37 (.bool false) rfl rfl Qj ?_
   simp only [pA,pN,sZ,sU]
   refine wpAnyH_done (by kernel_rfl) ?_ _
   go_wp2
   go_meet
   case rel=>exact ⟨rfl,H4.out.heap Qj,K4.out.trans Qj⟩
 case rest =>
 obtain ⟨rfl,hA1,hK1⟩:=hcut
 have H5:=Qh hA1
 have K5:=Qh hK1
 clear hA1 hK1
 generalize wc=wd at *
 go_wp2_with fail
 refine (HRd.out _ (HT.out.kept K5.out).1).mono ?_
 rintro e w6 ⟨rfl,hl1,k6⟩
 have K6:=Qh ((K5.out.trans k6).alloc (.cells (kcl Ka).toArray 30))
 have HL1:=Qh hl1
 clear k6 hl1
 go_upto_region 8 with (first|(with_reducible refine wpList_new_k rfl rfl ?_)|(refine wpList_store_newk rfl _ _ rfl Z75 Ka Z75_len HL1.out rfl rfl ?_))
 generalize w6.alloc (.cells (kcl Ka).toArray 30)=X at *
 generalize w6.heap.size=ga at *
 go_wp2
 go_ret
 exact ⟨rfl,K6.out⟩
theorem kwr_yes (K:Tk) (hB:Brd K.B) (h:okK K=true) (w:World) (hT:tabsW w) (hP:Tabs w) :
  Calls Tryz.prog 3 #[kv K] w fun e w'=>e=.returned (.bool true)∧Kept w w':=by
 have H1:=Qh (KAt.new w hB.1)
 have K1:=Qh ((Kept.refl w).alloc (.cells (kcl K).toArray 30))
 have HT:=Qh hT
 have HP:=Qh hP
 have hlen:=Qh hB.1
 have HWk:=Qh (fun w hT=>task_wakes w hT)
 have HWr:=Qh (fun w hT=>kwrite_yes K hB h w hT)
 have HRf:=Qh (fun w=>rkwrite_yes K hB h w)
 have HCk:=Qh (fun w hT=>kcheck_is K hB w hT)
 have HPw:=Qh (fun w=>rpwrong_is (pk K) hB w)
 have z1:=txK_small h
 have hrd:=txK_rd hB h
 have HRd:=Qh (fun w hT=>taskread_is (txK K) (by omega) w hT)
 unfold KRet at HRd
 rw [hrd.1,hrd.2] at HRd
 generalize txK K=T at *
 generalize pwI (pk K)=c at *
 clear hT hP h hB hrd
 go_enter Tryz.func3,Tryz.ntmps3
 go_upto_region 1 with (refine wpList_box_k rfl _ rfl K rfl ?_)
 generalize w.alloc (.cells (kcl K).toArray 30)=W1 at *
 generalize w.heap.size=g at *
 go_wp2_with fail
 refine (HWk.out _ (HT.out.kept K1.out).1).mono ?_
 rintro e w2 ⟨rfl,k2⟩
 have H2:=Qh (H1.out.heap k2)
 have K2:=Qh (K1.out.trans k2)
 clear k2
 go_wp2_with (refine wpList_load_k (by rfl) _ rfl g rfl K H2.out ?_)
 refine (HWr.out _ (HT.out.kept K2.out)).mono ?_
 rintro e w3 ⟨rfl,k3⟩
 have K3:=Qh (K2.out.trans k3)
 have H3:=Qh (H2.out.heap k3)
 clear k3
 go_wp2_with (refine wpList_load_k (by rfl) _ rfl g rfl K H3.out ?_)
 refine (HRf.out _).mono ?_
 rintro e w4 ⟨rfl,k4⟩
 have K4:=Qh (K3.out.trans k4)
 have H4:=Qh (H3.out.heap k4)
 clear k4
 have HTP:=Qh (HP.out.kept K4.out)
 go_upto_region 5 with fail
 go_cut [37] from 6 (fun s37 wc=>s37=.bool false∧KAt wc g K∧Kept w wc)
 case first =>
  refine wp_region_held_drew (S:=Kept _) (by kernel_rfl) (Kept.refl _).drew (fun Qj=>?_)
  refine rT 0 22 (.string T) rfl rfl Qj ?_
  simp only [Act.put,sA,sZ,sU]
  refine rT 1 23 (.string T) rfl rfl Qj ?_
  simp only [pA,pN,sZ,sU]
  refine rT 2 24 (.bool false) rfl rfl Qj ?_
  simp only [pA,pN,sZ,sU]
  refine rT 3 25 (.bool false) rfl rfl Qj ?_
  simp only [pA,pN,sZ,sU]
  refine rT 4 26 (.int .i64 0) rfl rfl Qj ?_
  simp only [pA,pN,sZ,sU]
  refine rT 5 27 (.int .i64 0) rfl rfl Qj ?_
  simp only [pA,pN,sZ,sU]
  refine rT 6 28 (.bool false) rfl rfl Qj ?_
  simp only [pA,pN,sZ,sU]
  refine rT 7 29 (.bool false) rfl rfl Qj ?_
  simp only [pA,pN,sZ,sU]
  refine rT 8 30 (.bool false) rfl rfl Qj ?_
  simp only [pA,pN,sZ,sU]
  refine rY 9 31 rfl rfl (take_load_k (by rfl) _ rfl g rfl K hlen.out (fun _ h=>(H4.out.heap h).range)) Qj ?_
  simp only [Act.put,sA,pA,pN,sZ,sU]
  refine rT 11 33 (.pointer (some ⟨g,0,none⟩)) rfl rfl Qj ?_
  simp only [pA,pN,sZ,sU]
  refine rY 12 34 rfl rfl (take_load_po (by rfl) _ rfl g rfl (pk K) hlen.out (fun _ h=>(H4.out.heap h).pos)) Qj ?_
  simp only [Act.put,sA,pA,pN,sZ,sU]
  refine wpAnyH_ready (rs:=[10]) (by kernel_rfl) (by simp) ?_
  refine AllReadyH.cons rfl (fun K' hK'=>?_) AllReadyH.nil
  ·first|rw [if_pos (by rfl)]|skip
   go_simp
   refine (HCk.out _ (HTP.out.kept Qj)).mono ?_
   rintro e wa ⟨rfl,k5⟩
   refine hK'.out _ _ (Qj.trans k5) (fun _=>?_)
   replace Qj:=Qj.trans k5
   clear hK' K' k5
   refine wpAnyH_ready (rs:=[13]) (by kernel_rfl) (by simp) ?_
   refine AllReadyH.cons rfl (fun K' hK'=>?_) AllReadyH.nil
   first|rw [if_pos (by rfl)]|skip
   go_simp
   refine (HPw.out _).mono ?_
   rintro e wb ⟨rfl,k5⟩
   refine hK'.out _ _ (Qj.trans k5) (fun _=>?_)
   replace Qj:=Qj.trans k5
   clear hK' K' k5
   refine rT 14 36 (.bool false) rfl rfl Qj ?_
   simp only [pA,pN,sZ,sU]
   refine rT 15 37 (.bool false) rfl rfl Qj ?_
   simp only [pA,pN,sZ,sU]
   refine wpAnyH_done (by kernel_rfl) ?_ _
   go_wp2
   go_meet
   case rel=>exact ⟨rfl,H4.out.heap Qj,K4.out.trans Qj⟩
 case rest =>
 obtain ⟨rfl,hA1,hK1⟩:=hcut
 have H5:=Qh hA1
 have K5:=Qh hK1
 clear hA1 hK1
 generalize wc=wd at *
 go_wp2_with fail
 refine (HRd.out _ (HT.out.kept K5.out).1).mono ?_
 rintro e w6 ⟨rfl,hl1,k6⟩
 have K6:=Qh ((K5.out.trans k6).alloc (.cells (kcl K).toArray 30))
 have H6:=Qh ((H5.out.heap k6).heap ((Kept.refl w6).alloc (.cells (kcl K).toArray 30)))
 have H7:=Qh (KAt.new w6 hlen.out)
 clear k6 hl1
 go_upto_region 8 with (first|(with_reducible refine wpList_new_k rfl rfl ?_)|(refine wpList_store_newk rfl _ _ rfl Z75 K Z75_len hlen.out rfl rfl ?_))
 generalize w6.alloc (.cells (kcl K).toArray 30)=X at *
 generalize w6.heap.size=ga at *
 go_wp2_with (first|(refine wpList_load_k (by rfl) _ rfl ga rfl K H7.out ?_)|(refine wpList_load_k (by rfl) _ rfl g rfl K H6.out ?_)|(refine wpList_eql_k (by rfl) _ _ _ rfl K hlen.out rfl rfl ?_))
 go_ret
 exact ⟨rfl,K6.out⟩
theorem walkTaskWrites (K:Tk) (hB:Brd K.B) (w:World) (hT:tabsW w∧Tabs w) :
  Calls Tryz.prog 3 #[kv K] w fun e w'=>e=.returned (.bool true)∧Kept w w':=by
 cases h:okK K
 ·exact kwr_no K hB h w hT.1 hT.2
 ·exact kwr_yes K hB h w hT.1 hT.2
end Go.Proofs.YtlbipjmmlobofaaGreatDoor
namespace Go.Proofs.YtlbipjmmlobofaaGreatDoor
set_option maxRecDepth 100000
open Go.ChangeShapes Go.WideShapes Go.ChangeAt Go.RowKit
set_option linter.unusedVariables false
section
variable {H:Type} {enc:TypeId × Value→H}
def dB (H:Type) (B:List Int):DataW H:=.agg (B.map fun x=>.lit (.int .i8 x))
theorem wf_i8 (x:Int):(Lit.int .i8 x).wf=true↔-128≤x∧x≤127:=by
 have e1:IntKind.i8.min=-128:=by decide
 have e2:IntKind.i8.max=127:=by decide
 simp [Lit.wf,e1,e2]
theorem chunk {cs:List Value} {i:Nat} (h:i<cs.length):(cs.drop (i*1)).take 1=[cs[i]]:=by
 rw [Nat.mul_one,List.drop_eq_getElem_cons h];rfl
set_option maxRecDepth 100000 in
theorem shut_board {W:World} {base:Nat} {sp:Nat→Bool} {hd:Bool} (B:List Int) (hB:Brd B):DataW.Trod enc Tryz.prog W base sp hd 24 (.agg (cl B).toArray) (dB H B) []:=by
 refine ⟨2,?_⟩
 have hc:(Value.agg (cl B).toArray).cells.toList=cl B:=rfl
 rw [hc]
 have step:∀ i ∈ List.range 64,DataW.trod enc Tryz.prog W base sp hd 1 22 (((cl B).drop (i*Tryz.prog.cellsOf 22)).take (Tryz.prog.cellsOf 22))=some ((DataW.lit (.int .i8 (B.getD i 0)),[]):DataW H × List MemPlace):=by
  intro i hi
  have hi64:i<64:=by simpa using hi
  have hlt:i<(cl B).length:=by rw [cl_length,hB.1];exact hi64
  rw [cells22,chunk hlt]
  have h3:=cl_get B i (by rw [hB.1];exact hi64)
  rw [List.getElem?_eq_getElem hlt] at h3
  rw [Option.some.inj h3]
  have hw:=(wf_i8 _).2 (hB.2 i hi64)
  unfold DataW.trod
  rw [Tryz.underlying22]
  simp only [hw,and_self,if_true]
 have hm:=mapM_some_of_forall (f:=fun i=>DataW.trod enc Tryz.prog W base sp hd 1 22 (((cl B).drop (i*Tryz.prog.cellsOf 22)).take (Tryz.prog.cellsOf 22))) (List.range 64) step
 unfold DataW.trod
 rw [Tryz.underlying24]
 simp only [cl_length,hB.1,cells24,if_true,hm,Option.map_some,Option.some.injEq,Prod.mk.injEq]
 refine ⟨?_,?_⟩
 ·unfold dB
  congr 1
  refine List.ext_getElem (by simp [hB.1]) fun i h1 h2=>?_
  have h3:i<B.length:=by simpa using h2
  simp [List.getD,List.getElem?_eq_getElem h3]
 ·rw [List.flatMap_eq_nil_iff]
  intro x hx
  simp only [List.mem_map] at hx
  obtain ⟨i,_,rfl⟩:=hx
  rfl
end
end Go.Proofs.YtlbipjmmlobofaaGreatDoor
