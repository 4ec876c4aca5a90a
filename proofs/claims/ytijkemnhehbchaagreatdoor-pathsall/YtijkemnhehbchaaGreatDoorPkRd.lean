/- PaC: my texts, in their order. -/
import Derived.Test.YtijkemnhehbchaaGreatDoorPkE
import Derived.Test.YtijkemnhehbchaaGreatDoorPkGa
import Derived.Test.YtijkemnhehbchaaGreatDoorPkGe
import Derived.Test.YtijkemnhehbchaaGreatDoorPkH
import Derived.Test.YtijkemnhehbchaaGreatDoorPkL
import Derived.Test.YtijkemnhehbchaaGreatDoorPkLa
import Derived.Test.YtijkemnhehbchaaGreatDoorPkLf
import Derived.Test.YtijkemnhehbchaaGreatDoorPkLh
import Derived.Test.YtijkemnhehbchaaGreatDoorPkM
import Derived.Test.YtijkemnhehbchaaGreatDoorPkR
import Derived.Test.YtijkemnhehbchaaGreatDoorPkRb
namespace Go.Proofs.YtijkemnhehbchaaGreatDoor
open Go.RowKit
set_option linter.unusedVariables false
set_option linter.unusedSimpArgs false
set_option maxRecDepth 100000
def wrE (p:Ps) (n:Int):Int:=if pwI p≠0 then pwI p else if n<0∨8<n then 3 else 0
theorem wrE_p {p:Ps} (h:pwI p≠0) (n:Int):wrE p n=pwI p:=by unfold wrE;rw [if_pos h]
theorem wrE_n {p:Ps} (h:pwI p=0) {n:Int} (hn:n<0∨8<n):wrE p n=3:=by unfold wrE;rw [if_neg (by omega),if_pos hn]
theorem wrE_ok {p:Ps} (h:pwI p=0) {n:Int} (h1:0≤n) (h2:n≤8):wrE p n=0:=by unfold wrE;rw [if_neg (by omega),if_neg (by omega)]
theorem pwr_is (p:Ps) (hB:Brd p.B) (n:Int) (w:World) (hT:TabG w) :
  Calls Tryz.prog 18 #[.agg (pl p).toArray,.int .i64 n] w fun e w'=>e=.returned (.int .i64 (wrE p n))∧Kept w w':=by
 have HP:=Qh (PAt.new w hB.1)
 have HK0:=Qh ((Kept.refl w).alloc (.cells (pl p).toArray 26))
 have HT:=Qh (hT.kept HK0.out)
 have HC:=Qh (fun w h=>pwrong_is p hB w h)
 by_cases h:pwI p=0
 ·rw [h] at HC
  by_cases h1:n<0
  ·rw [wrE_n h (.inl h1)]
   clear hB hT h
   go_enter Tryz.func18,Tryz.ntmps18
   go_wp2_with (first|(refine wpList_load_ps (by rfl) _ rfl _ rfl _ (HP.out) ?_)|(refine wpList_load_pb (by rfl) _ rfl _ rfl _ (HP.out) ?_))
   refine (HC.out _ HT.out.tabm.tabs).mono ?_
   rintro e w1 ⟨rfl,k1⟩
   have HK1:=Qh (HK0.out.trans k1)
   clear k1
   go_wp2
   go_ret
   exact ⟨rfl,HK1.out⟩
  ·by_cases h2:8<n
   ·rw [wrE_n h (.inr h2)]
    clear hB hT h
    go_enter Tryz.func18,Tryz.ntmps18
    go_wp2_with (first|(refine wpList_load_ps (by rfl) _ rfl _ rfl _ (HP.out) ?_)|(refine wpList_load_pb (by rfl) _ rfl _ rfl _ (HP.out) ?_))
    refine (HC.out _ HT.out.tabm.tabs).mono ?_
    rintro e w1 ⟨rfl,k1⟩
    have HK1:=Qh (HK0.out.trans k1)
    clear k1
    go_wp2
    go_ret
    exact ⟨rfl,HK1.out⟩
   ·rw [wrE_ok h (by omega) (by omega)]
    clear hB hT h
    go_enter Tryz.func18,Tryz.ntmps18
    go_wp2_with (first|(refine wpList_load_ps (by rfl) _ rfl _ rfl _ (HP.out) ?_)|(refine wpList_load_pb (by rfl) _ rfl _ rfl _ (HP.out) ?_))
    refine (HC.out _ HT.out.tabm.tabs).mono ?_
    rintro e w1 ⟨rfl,k1⟩
    have HK1:=Qh (HK0.out.trans k1)
    clear k1
    go_wp2
    go_ret
    exact ⟨rfl,HK1.out⟩
 ·rw [wrE_p h]
  have hv:(pwI p != 0)=true:=bne_iff_ne.2 h
  generalize pwI p=v at *
  clear hB hT h
  go_enter Tryz.func18,Tryz.ntmps18
  go_wp2_with (first|(refine wpList_load_ps (by rfl) _ rfl _ rfl _ (HP.out) ?_)|(refine wpList_load_pb (by rfl) _ rfl _ rfl _ (HP.out) ?_))
  refine (HC.out _ HT.out.tabm.tabs).mono ?_
  rintro e w1 ⟨rfl,k1⟩
  have HK1:=Qh (HK0.out.trans k1)
  clear k1
  go_wp2
  go_ret
  exact ⟨rfl,HK1.out⟩
set_option maxHeartbeats 2000000 in
theorem pbeh_is (p:Ps) (hB:Brd p.B) (m:Mv) (hok:okM p m=true) (w:World) (hT:TabM w) :
  Calls Tryz.prog 74 #[.agg (pl p).toArray,.agg (ml m).toArray] w (RetP w (behP p m)):=by
 have HP:Hid (PAt _ _ p):=⟨hB.1,heap_alloc2_old w (.cells (pl p).toArray 26) (.cells (ml m).toArray 54)⟩
 have HM:Hid (MAt _ _ m):=⟨heap_alloc2_new w (.cells (pl p).toArray 26) (.cells (ml m).toArray 54)⟩
 have HK0:=Qh (((Kept.refl w).alloc (.cells (pl p).toArray 26)).alloc (.cells (ml m).toArray 54))
 have HK1:=Qh (HK0.out.alloc (.cells (pl Zp).toArray 26))
 have HP1:=Qh (HP.out.kept ((Kept.refl _).alloc (.cells (pl Zp).toArray 26)))
 have HM1:=Qh (MAt.kept HM.out ((Kept.refl _).alloc (.cells (pl Zp).toArray 26)))
 have HR1:Hid (PAt _ _ Zp):=PAt.new ((w.alloc (.cells (pl p).toArray 26)).alloc (.cells (ml m).toArray 54)) Zp_len
 have hsz:((w.alloc (.cells (pl p).toArray 26)).alloc (.cells (ml m).toArray 54)).heap.size=w.heap.size+2:=by simp
 rw [hsz] at HR1
 have HT:=Qh (hT.kept HK1.out)
 have HMk:=Qh (fun w hw=>make_yes p hB m hok w hw)
 have hql:Hid ((behP p m).B.length=64):=behB_len hB.1
 generalize behP p m=q at *
 clear hB hT HP HM HK0 hsz hok
 go_enter Tryz.func74,Tryz.ntmps74
 go_wp2_with (first|(with_reducible refine wpList_new_p rfl rfl ?_)|(refine wpList_load_ps (by rfl) _ rfl _ rfl _ HP1.out ?_)|(refine wpList_load_mv (by rfl) _ rfl _ rfl _ HM1.out ?_))
 refine (HMk.out _ HT.out).mono ?_
 rintro e w1 ⟨rfl,k1⟩
 have KA:=Qh ((Kept.refl w1).alloc (.cells (pl q).toArray 26))
 have HK3:=Qh ((HK1.out.trans k1).trans KA.out)
 have HR3:=Qh ((HR1.out.kept k1).kept KA.out)
 have HQ:=Qh (PAt.new w1 hql.out)
 clear k1 KA
 go_wp2_with (first|(with_reducible refine wpList_new_p rfl rfl ?_)|((with_reducible refine wpList_store_newp rfl _ _ rfl Zp q Zp_len hql.out ?_ ?_ ?_);exact rfl;exact rfl)|(refine wpList_load_ps (by rfl) _ rfl _ rfl _ HQ.out ?_)|(refine wpList_store_ps rfl _ _ rfl (w.heap.size+2) Zp q HR3.out hql.out rfl rfl ?_))
 refine bodyPost_ret (v:=.agg (pl q).toArray) ?_ rfl ⟨rfl,HK3.out.setRow (by omega) _⟩
 exact results_p rfl _ rfl (HR3.out.setRow hql.out)
theorem RuAt.kb {W w:World} {gp r g:Nat} {a b:Addr} (h:RuAt W r g a b) (hk:KB W gp w) (n:r≠gp∧g≠gp):RuAt w r g a b:=⟨hk.cell n.1 h.gen,hk.cell n.1 h.eye,hk.cell (a:=⟨g,0,none⟩) n.2 h.ey⟩
end Go.Proofs.YtijkemnhehbchaaGreatDoor
