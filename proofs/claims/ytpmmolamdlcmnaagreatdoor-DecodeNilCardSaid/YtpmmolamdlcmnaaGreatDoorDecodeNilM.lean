/- The tied card of downpourlaw12.DecodeNil. -/
import Derived.Test.YtpmmolamdlcmnaaGreatDoorZ17
namespace Go.Proofs.YtpmmolamdlcmnaaGreatDoor.Dc
open Go.RowKit
open VecM RdM Vc Sp Pc El Cd
set_option maxRecDepth 100000 in
set_option maxHeartbeats 1600000 in
theorem dcnil_walk (id n c : Nat) (len : Int) (A : Option Addr) (w : World) (ht : DTab w) :
    Calls Tryz.prog 3 #[.agg #[.int .u32 (id : Int), .slice A n c], .int .i64 len] w fun e w' => e = .returned (.bool true) ∧ Below w.heap.size w w' := by
  have hal : Below w.heap.size w (w.alloc (.cells #[.int .u32 (id : Int), .slice A n c] 25)) := (Below.refl _ _).alloc (Nat.le_refl _) _
  have hx := heap_alloc_new w (.cells #[.int .u32 (id : Int), .slice A n c] 25)
  have hz : (w.alloc (.cells #[.int .u32 (id : Int), .slice A n c] 25)).heap.size = w.heap.size + 1 := by simp
  have HT := Lib.hid ht
  have HB0 := Lib.hid hal
  have KX := Lib.hid (fun (W : World) (hW : Below (w.alloc (.cells #[.int .u32 (id : Int), .slice A n c] 25)).heap.size (w.alloc (.cells #[.int .u32 (id : Int), .slice A n c] 25)) W) => (And.intro (show W.cell? ⟨w.heap.size, 0, none⟩ = some (.int .u32 (id : Int)) from dcell_at ((hW.block w.heap.size (by omega)).trans hx) rfl) (show W.cell? ⟨w.heap.size, 1, none⟩ = some (.slice A n c) from dcell_at ((hW.block w.heap.size (by omega)).trans hx) rfl)))
  clear hal hx hz ht
  go_enter Tryz.func3, Tryz.ntmps3
  go_upto_region 1 with fail
  generalize (w.alloc (.cells #[.int .u32 (id : Int), .slice A n c] 25)) = w0 at *
  go_wp2_with fail
  refine (image_nil len w0).mono ?_
  rintro e w1 ⟨rfl, hb1⟩
  have HB1 := Lib.hid hb1.out
  clear hb1
  obtain ⟨c0, c1⟩ := KX.out w1 HB1.out
  go_wp2_with fail
  refine (says_nil id w1).mono ?_
  rintro e w2 ⟨rfl, hb2⟩
  have HB2 := Lib.hid (HB1.out.trans (hb2.out.mono HB1.out.size))
  clear hb2 c0 c1
  obtain ⟨c0, c1⟩ := KX.out w2 HB2.out
  go_wp2_with fail
  refine (take_nil id n c A w2).mono ?_
  rintro e w3 ⟨rfl, hb3⟩
  have HB3 := Lib.hid (HB2.out.trans (hb3.out.mono HB2.out.size))
  clear hb3 c0 c1
  go_wp2_with fail
  refine (taken_nil w3).mono ?_
  rintro e w4 ⟨rfl, rfl⟩
  go_wp2_with fail
  refine (needs_nil w3).mono ?_
  rintro e w5 ⟨rfl, hb5⟩
  have HB5 := Lib.hid (HB0.out.trans ((HB3.out.trans (hb5.out.mono HB3.out.size)).mono HB0.out.size))
  clear hb5
  go_wp2_with fail
  refine (awake12_any w5 (HT.out.grow HB5.out)).mono ?_
  rintro e w6 ⟨rfl, hb6⟩
  have HB6 := Lib.hid (HB5.out.trans (hb6.out.mono HB5.out.size))
  clear hb6
  go_wp2_with fail
  go_ret
  exact ⟨rfl, HB6.out⟩
end Go.Proofs.YtpmmolamdlcmnaaGreatDoor.Dc
namespace Go.Proofs.YtpmmolamdlcmnaaGreatDoor
open Go.RowKit Go.ChangeShapes Go.WideShapes Go.ChangeAt Vc
set_option maxRecDepth 100000 in
theorem decodeNil_lifted (os : Os) (started : os.Started) (H : Type) (enc : TypeId × Value → H) :
    ReturnsInHanded {} Tryz.checked os 3 .any (fun w args => (Rows.decodeNilSpec.pre enc Tryz.prog Tryz.f3 [] false w args ∧ laidMetH Tryz.prog LB w) ∧ sizedMet enc Tryz.prog Tryz.f3 (OpenSpec.ofChange Rows.decodeNilSpec) false w args) (Rows.decodeNilSpec.post enc Tryz.prog Tryz.f3 false true false false) := by
  refine law_lift_laid (C := Tryz.checked) (tb := 4) (X := fun w _ => laidMetH Tryz.prog LB w) (fun _ _ _ hh h => h.of_heap hh) Tryz.own started (by kernel_rfl) Tryz.func3
    (ChangeSpec.witness_shaped (enc := enc) (C := Tryz.checked) (os := os) (X := fun w _ => laidMetH Tryz.prog LB w) false (World.doorLaid Tryz.prog 400 os) #[.agg #[.int .u32 0, .slice none 0 0], .int .i64 0] 8 rfl (World.shaped_of_RefB (by kernel_rfl) (by kernel_rfl)) (by kernel_rfl) (by kernel_rfl) (by kernel_rfl) (door_metB os _)) Tryz.laidOut (by kernel_rfl) rfl rfl Tryz.underlying4 ?_ ?_
  · intro ds hds
    match ds, hds with
    | [_, _], _ => rfl
  intro W base args ds p hval0 hA0 _ _ hsz0 hX0
  have hval : ∀ (j : Nat) t v, Tryz.f3.params[j]? = some t → args[j]? = some v → Value.okWide Tryz.prog W .any base t v := hval0
  have hA : DataW.TrodAll enc Tryz.prog W 0 (fun _ => true) true Tryz.f3.params.toList args.toList ds p := hA0
  rw [Tryz.params3] at hA hval
  obtain ⟨v0, v1, d0, d1, p0, p1, rfl, rfl, rfl, h0, h1⟩ := trodAll_two hA
  obtain ⟨i0, A0, n0, cap0, l0, rfl, hil0, hrow0, hnc0, hcm0⟩ := open_c2 Tryz.underlying25 ⟨rfl, rfl⟩ Tryz.underlying22 Tryz.underlying23 Tryz.underlying5 Tryz.cells5 ⟨by kernel_rfl, by kernel_rfl⟩ (by kernel_rfl) (hval 0 25 v0 rfl rfl) h0
  obtain ⟨x1, rfl, hx1, hy1⟩ := open_i64 Tryz.underlying3 (hval 1 3 v1 rfl rfl) h1
  exact Dc.dcnil_walk i0 n0 cap0 x1 A0 W (dtab_of_laid hX0)

theorem decodeNil_holds : Rows.DecodeNilSaid :=
  OpenClaim.holds_of_wide 3 Tryz.f3 rfl rfl rfl rfl rfl rfl rfl ⟨rfl, rfl, rfl, rfl, rfl⟩ rfl rfl rfl rfl rfl (by kernel_rfl) Tryz.func3 (by kernel_rfl)
    (of_decide_eq_true (by kernel_rfl)) (by unfold Func.isWrapper; rw [if_neg (of_decide_eq_false (by kernel_rfl))]; exact ⟨rfl, rfl⟩)
    (fun os started H enc _ => decodeNil_lifted os started H enc)

theorem decodeNil_card : Rows.DecodeNilCardSaid :=
  Claim7.holds_tied_plain_at .later [] [.data] true _ false
    decodeNil_holds (fun _ h => by cases h) (by kernel_rfl) (fun _ h => by cases h) decodeNil_row_tie rfl ⟨rfl, rfl⟩ (by kernel_rfl) rfl
    (fun f fn hf hfn => by
      obtain rfl : f = 3 := Option.some.inj ((show Tryz.prog.funcNamed "downpour/downpourlaw12.DecodeNil" = some 3 by kernel_rfl).symm.trans hf) |>.symm
      obtain rfl : fn = Tryz.f3 := (Option.some.inj (Tryz.func3.symm.trans hfn)).symm
      exact ⟨by kernel_rfl, fun j t ht => by
        rw [Tryz.params3] at ht
        have hm : t ∈ [25, 3] := by simpa using Array.mem_of_getElem? ht
        have hall : ([25, 3].all fun u => !Tryz.prog.wantsStandIn u) = true := by kernel_rfl
        exact (show Tryz.prog.wantsStandIn t = false by simpa using List.all_eq_true.1 hall t hm)⟩)
    (by kernel_rfl)
end Go.Proofs.YtpmmolamdlcmnaaGreatDoor
