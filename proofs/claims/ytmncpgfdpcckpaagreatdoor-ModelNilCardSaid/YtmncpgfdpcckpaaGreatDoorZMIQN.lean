/- The reference's sameSlot, maySlot, zero: by contracts. -/
import Derived.Test.YtmncpgfdpcckpaaGreatDoorZZHQN
import Derived.Test.YtmncpgfdpcckpaaGreatDoorZSQN
import Derived.Test.YtmncpgfdpcckpaaGreatDoorZMCQN
import Derived.Test.YtmncpgfdpcckpaaGreatDoorMoAwQN
import Derived.Test.YtmncpgfdpcckpaaGreatDoorZHQN
set_option maxRecDepth 100000
namespace Go.Proofs.YtmncpgfdpcckpaaGreatDoor
open Go.RowKit
set_option maxHeartbeats 800000 in
theorem rslotSame_any (v v' : Nat) (l l' : Int) (B n c n' c' : Nat) (A A' : Option Addr) (h h' : List UInt8) (w : World) (hl : Row w B A n (bv h)) (hl' : Row w B A' n' (bv h')) (hB : B ≤ w.heap.size) :
  Calls Tryz.prog 28 #[.agg #[.int .u32 (v : Int), .int .i64 l, .slice A n c], .agg #[.int .u32 (v' : Int), .int .i64 l', .slice A' n' c']] w (fun e w' => ∃ b : Bool, e = .returned (.bool b) ∧ Hid (b = decide (v = v' ∧ l = l' ∧ h = h')) ∧ Below w.heap.size w w') := by
 have k1 : ∀ W, Below B w W → (convert 22 9 (.slice A n c)).run Tryz.prog W = .ok (.string ⟨h.toArray⟩) W := fun W hW => run_string_row (hl.below hW) _ _ _ 5 Tryz.underlying22 Tryz.underlying5 Tryz.underlying9
 have k2 : ∀ W, Below B w W → (convert 22 9 (.slice A' n' c')).run Tryz.prog W = .ok (.string ⟨h'.toArray⟩) W := fun W hW => run_string_row (hl'.below hW) _ _ _ 5 Tryz.underlying22 Tryz.underlying5 Tryz.underlying9
 have hb0 : Below w.heap.size w ((w.alloc (.cells #[.int .u32 (v : Int), .int .i64 l, .slice A n c] 34)).alloc (.cells #[.int .u32 (v' : Int), .int .i64 l', .slice A' n' c'] 34)) := ((Below.refl _ _).alloc (Nat.le_refl _) _).alloc (by simp) _
 have q1 := k1 _ (hb0.mono hB)
 have q2 := k2 _ (hb0.mono hB)
 clear k1 k2
 by_cases h0 : v = v'
 case neg =>
  have hne : ((v : Int) == (v' : Int)) = false := by simp; omega
  have HN := Lib.hid h0
  clear h0
  go_enter Tryz.func28, Tryz.ntmps28
  go_wp2_with fail
  go_ret
  exact ⟨_, rfl, (by show _ = _; simp [HN.out]), hb0⟩
 subst h0
 by_cases h1 : l = l'
 case neg =>
  have hne : ((l : Int) == (l' : Int)) = false := by simp; omega
  have HN := Lib.hid h1
  clear h1
  go_enter Tryz.func28, Tryz.ntmps28
  go_wp2_with fail
  go_ret
  exact ⟨_, rfl, (by show _ = _; simp [HN.out]), hb0⟩
 subst h1
 go_enter Tryz.func28, Tryz.ntmps28
 go_wp2_with fail
 go_ret
 exact ⟨_, rfl, (by show _ = _; by_cases e : h = h' <;> simp [e]), hb0⟩
end Go.Proofs.YtmncpgfdpcckpaaGreatDoor
namespace Go.Proofs.YtmncpgfdpcckpaaGreatDoor
open Go.RowKit
set_option maxHeartbeats 3200000 in
theorem rsameS {w : World} {P Q : Nat → Prop} {cs ds : Array Value} {L K : LSt} (hl : IsSt w P cs L) (hk : IsSt w Q ds K) :
  Calls Tryz.prog 12 #[.agg cs, .agg ds] w (SameOk (L.eqb K) w) := by
 obtain ⟨LA0, Lc0, LA1, Lc1, LA, Lc, rfl, l0, l1, l2⟩ := hl
 obtain ⟨KA0, Kc0, KA1, Kc1, KA, Kc, rfl, k0, k1, k2⟩ := hk
 have hx := heap_alloc2_old w (.cells (L.cells LA0 Lc0 LA1 Lc1 LA Lc) 39) (.cells (K.cells KA0 Kc0 KA1 Kc1 KA Kc) 39)
 have hy := heap_alloc2_new w (.cells (L.cells LA0 Lc0 LA1 Lc1 LA Lc) 39) (.cells (K.cells KA0 Kc0 KA1 Kc1 KA Kc) 39)
 have hb : Below w.heap.size w ((w.alloc (.cells (L.cells LA0 Lc0 LA1 Lc1 LA Lc) 39)).alloc (.cells (K.cells KA0 Kc0 KA1 Kc1 KA Kc) 39)) := ((Below.refl _ _).alloc (Nat.le_refl _) _).alloc (by simp) _
 have HL := Lib.hid (And.intro (Array.getElem?_eq_some_iff.1 hx).1 hx)
 have HK := Lib.hid (And.intro (Array.getElem?_eq_some_iff.1 hy).1 hy)
 have HB := Lib.hid hb
 have L0 := Lib.hid l0
 have L1 := Lib.hid l1
 have L2 := Lib.hid l2
 have K0 := Lib.hid k0
 have K1 := Lib.hid k1
 have K2 := Lib.hid k2
 clear hx hy hb l0 l1 l2 k0 k1 k2
 obtain ⟨B, hB⟩ : ∃ B, L.eqb K = B := ⟨_, rfl⟩
 rw [hB]
 have HE := Lib.hid hB
 clear hB
 unfold LSt.eqb at HE
 go_enter Tryz.func12, Tryz.ntmps12
 go_upto_region 1 with fail
 generalize ((w.alloc (.cells (L.cells LA0 Lc0 LA1 Lc1 LA Lc) 39)).alloc (.cells (K.cells KA0 Kc0 KA1 Kc1 KA Kc) 39)) = w1 at *
 have xL := ((Below.refl w1.heap.size w1).block w.heap.size HL.out.1).trans HL.out.2
 have cL0 : w1.cell? ⟨w.heap.size, 0, none⟩ = some (.int .i64 L.act) := by rw [cell_of_row w1 _ 0 _ _ (0, 0) xL]; rfl
 have cL1 : w1.cell? ⟨w.heap.size, 1, none⟩ = some (.int .i64 L.trial) := by rw [cell_of_row w1 _ 1 _ _ (0, 0) xL]; rfl
 have cL2 : w1.cell? ⟨w.heap.size, 2, none⟩ = some (.int .u32 (L.flo : Int)) := by rw [cell_of_row w1 _ 2 _ _ (0, 0) xL]; rfl
 have cL3 : w1.cell? ⟨w.heap.size, 3, none⟩ = some (.int .u32 (L.gen : Int)) := by rw [cell_of_row w1 _ 3 _ _ (0, 0) xL]; rfl
 have cL4 : w1.cell? ⟨w.heap.size, 4, none⟩ = some (.int .u32 (L.v0 : Int)) := by rw [cell_of_row w1 _ 4 _ _ (0, 0) xL]; rfl
 have cL5 : w1.cell? ⟨w.heap.size, 5, none⟩ = some (.int .i64 L.l0) := by rw [cell_of_row w1 _ 5 _ _ (0, 0) xL]; rfl
 have cL6 : w1.cell? ⟨w.heap.size, 6, none⟩ = some (.slice LA0 L.h0.length Lc0) := by rw [cell_of_row w1 _ 6 _ _ (0, 0) xL]; rfl
 clear xL
 have xK := ((Below.refl w1.heap.size w1).block (w.heap.size + 1) HK.out.1).trans HK.out.2
 have cK0 : w1.cell? ⟨(w.heap.size + 1), 0, none⟩ = some (.int .i64 K.act) := by rw [cell_of_row w1 _ 0 _ _ (0, 0) xK]; rfl
 have cK1 : w1.cell? ⟨(w.heap.size + 1), 1, none⟩ = some (.int .i64 K.trial) := by rw [cell_of_row w1 _ 1 _ _ (0, 0) xK]; rfl
 have cK2 : w1.cell? ⟨(w.heap.size + 1), 2, none⟩ = some (.int .u32 (K.flo : Int)) := by rw [cell_of_row w1 _ 2 _ _ (0, 0) xK]; rfl
 have cK3 : w1.cell? ⟨(w.heap.size + 1), 3, none⟩ = some (.int .u32 (K.gen : Int)) := by rw [cell_of_row w1 _ 3 _ _ (0, 0) xK]; rfl
 have cK4 : w1.cell? ⟨(w.heap.size + 1), 4, none⟩ = some (.int .u32 (K.v0 : Int)) := by rw [cell_of_row w1 _ 4 _ _ (0, 0) xK]; rfl
 have cK5 : w1.cell? ⟨(w.heap.size + 1), 5, none⟩ = some (.int .i64 K.l0) := by rw [cell_of_row w1 _ 5 _ _ (0, 0) xK]; rfl
 have cK6 : w1.cell? ⟨(w.heap.size + 1), 6, none⟩ = some (.slice KA0 K.h0.length Kc0) := by rw [cell_of_row w1 _ 6 _ _ (0, 0) xK]; rfl
 clear xK
 by_cases e0 : L.act = K.act
 case neg =>
  have q0 : ((L.act : Int) == (K.act : Int)) = false := by simp; omega
  have hbf : B = false := by rw [← HE.out]; simp [e0]
  subst hbf
  go_wp2_with fail
  go_ret
  exact ⟨rfl, HB.out⟩
 have q0 : ((L.act : Int) == (K.act : Int)) = true := by simp; omega
 by_cases e1 : L.trial = K.trial
 case neg =>
  have q1 : ((L.trial : Int) == (K.trial : Int)) = false := by simp; omega
  have hbf : B = false := by rw [← HE.out]; simp [e1]
  subst hbf
  go_wp2_with fail
  go_ret
  exact ⟨rfl, HB.out⟩
 have q1 : ((L.trial : Int) == (K.trial : Int)) = true := by simp; omega
 by_cases e2 : L.flo = K.flo
 case neg =>
  have q2 : ((L.flo : Int) == (K.flo : Int)) = false := by simp; omega
  have hbf : B = false := by rw [← HE.out]; simp [e2]
  subst hbf
  go_wp2_with fail
  go_ret
  exact ⟨rfl, HB.out⟩
 have q2 : ((L.flo : Int) == (K.flo : Int)) = true := by simp; omega
 by_cases e3 : L.gen = K.gen
 case neg =>
  have q3 : ((L.gen : Int) == (K.gen : Int)) = false := by simp; omega
  have hbf : B = false := by rw [← HE.out]; simp [e3]
  subst hbf
  go_wp2_with fail
  go_ret
  exact ⟨rfl, HB.out⟩
 have q3 : ((L.gen : Int) == (K.gen : Int)) = true := by simp; omega
 go_wp2_with fail
 refine (rslotSame_any L.v0 K.v0 L.l0 K.l0 w1.heap.size L.h0.length Lc0 K.h0.length Kc0 LA0 KA0 L.h0 K.h0 w1 ((L0.out.row.below HB.out).more HB.out.size) ((K0.out.row.below HB.out).more HB.out.size) (Nat.le_refl _)).mono ?_
 rintro e w2 ⟨b, rfl, hbb, hb2⟩
 have HB2 := Lib.hid (HB.out.trans (hb2.mono HB.out.size))
 have H12 := Lib.hid hb2
 have HBB := Lib.hid hbb.out
 clear cL0 cL1 cL2 cL3 cL4 cL5 cL6 cK0 cK1 cK2 cK3 cK4 cK5 cK6
 clear hbb hb2
 have xL := (H12.out.block w.heap.size HL.out.1).trans HL.out.2
 have cL7 : w2.cell? ⟨w.heap.size, 7, none⟩ = some (.int .u32 (L.v1 : Int)) := by rw [cell_of_row w2 _ 7 _ _ (0, 0) xL]; rfl
 have cL8 : w2.cell? ⟨w.heap.size, 8, none⟩ = some (.int .i64 L.l1) := by rw [cell_of_row w2 _ 8 _ _ (0, 0) xL]; rfl
 have cL9 : w2.cell? ⟨w.heap.size, 9, none⟩ = some (.slice LA1 L.h1.length Lc1) := by rw [cell_of_row w2 _ 9 _ _ (0, 0) xL]; rfl
 clear xL
 have xK := (H12.out.block (w.heap.size + 1) HK.out.1).trans HK.out.2
 have cK7 : w2.cell? ⟨(w.heap.size + 1), 7, none⟩ = some (.int .u32 (K.v1 : Int)) := by rw [cell_of_row w2 _ 7 _ _ (0, 0) xK]; rfl
 have cK8 : w2.cell? ⟨(w.heap.size + 1), 8, none⟩ = some (.int .i64 K.l1) := by rw [cell_of_row w2 _ 8 _ _ (0, 0) xK]; rfl
 have cK9 : w2.cell? ⟨(w.heap.size + 1), 9, none⟩ = some (.slice KA1 K.h1.length Kc1) := by rw [cell_of_row w2 _ 9 _ _ (0, 0) xK]; rfl
 clear xK
 cases b with
 | false =>
  have hbf : B = false := by
   rw [← HE.out, decide_eq_false_iff_not]
   intro h
   exact absurd HBB.out (by rw [decide_eq_true h.2.2.2.2.1]; decide)
  subst hbf
  go_wp2_with fail
  go_ret
  exact ⟨rfl, HB2.out⟩
 | true =>
  have E4 := Lib.hid (of_decide_eq_true HBB.out.symm)
  clear HBB
  go_wp2_with fail
  refine (rslotSame_any L.v1 K.v1 L.l1 K.l1 w2.heap.size L.h1.length Lc1 K.h1.length Kc1 LA1 KA1 L.h1 K.h1 w2 ((L1.out.row.below HB2.out).more HB2.out.size) ((K1.out.row.below HB2.out).more HB2.out.size) (Nat.le_refl _)).mono ?_
  rintro e w3 ⟨b, rfl, hbb, hb3⟩
  have HB3 := Lib.hid (HB2.out.trans (hb3.mono HB2.out.size))
  have H13 := Lib.hid (H12.out.trans (hb3.mono H12.out.size))
  have HBB := Lib.hid hbb.out
  clear cL7 cL8 cL9 cK7 cK8 cK9
  clear hbb hb3
  have xL := (H13.out.block w.heap.size HL.out.1).trans HL.out.2
  have cL10 : w3.cell? ⟨w.heap.size, 10, none⟩ = some (.bool L.on) := by rw [cell_of_row w3 _ 10 _ _ (0, 0) xL]; rfl
  have cL11 : w3.cell? ⟨w.heap.size, 11, none⟩ = some (.int .u32 (L.m.s : Int)) := by rw [cell_of_row w3 _ 11 _ _ (0, 0) xL]; rfl
  have cL12 : w3.cell? ⟨w.heap.size, 12, none⟩ = some (.int .u32 (L.m.v : Int)) := by rw [cell_of_row w3 _ 12 _ _ (0, 0) xL]; rfl
  have cL13 : w3.cell? ⟨w.heap.size, 13, none⟩ = some (.int .i64 L.m.l) := by rw [cell_of_row w3 _ 13 _ _ (0, 0) xL]; rfl
  have cL14 : w3.cell? ⟨w.heap.size, 14, none⟩ = some (.int .i64 L.m.z) := by rw [cell_of_row w3 _ 14 _ _ (0, 0) xL]; rfl
  have cL15 : w3.cell? ⟨w.heap.size, 15, none⟩ = some (.int .i64 L.m.p) := by rw [cell_of_row w3 _ 15 _ _ (0, 0) xL]; rfl
  have cL16 : w3.cell? ⟨w.heap.size, 16, none⟩ = some (.slice LA L.m.h.length Lc) := by rw [cell_of_row w3 _ 16 _ _ (0, 0) xL]; rfl
  clear xL
  have xK := (H13.out.block (w.heap.size + 1) HK.out.1).trans HK.out.2
  have cK10 : w3.cell? ⟨(w.heap.size + 1), 10, none⟩ = some (.bool K.on) := by rw [cell_of_row w3 _ 10 _ _ (0, 0) xK]; rfl
  have cK11 : w3.cell? ⟨(w.heap.size + 1), 11, none⟩ = some (.int .u32 (K.m.s : Int)) := by rw [cell_of_row w3 _ 11 _ _ (0, 0) xK]; rfl
  have cK12 : w3.cell? ⟨(w.heap.size + 1), 12, none⟩ = some (.int .u32 (K.m.v : Int)) := by rw [cell_of_row w3 _ 12 _ _ (0, 0) xK]; rfl
  have cK13 : w3.cell? ⟨(w.heap.size + 1), 13, none⟩ = some (.int .i64 K.m.l) := by rw [cell_of_row w3 _ 13 _ _ (0, 0) xK]; rfl
  have cK14 : w3.cell? ⟨(w.heap.size + 1), 14, none⟩ = some (.int .i64 K.m.z) := by rw [cell_of_row w3 _ 14 _ _ (0, 0) xK]; rfl
  have cK15 : w3.cell? ⟨(w.heap.size + 1), 15, none⟩ = some (.int .i64 K.m.p) := by rw [cell_of_row w3 _ 15 _ _ (0, 0) xK]; rfl
  have cK16 : w3.cell? ⟨(w.heap.size + 1), 16, none⟩ = some (.slice KA K.m.h.length Kc) := by rw [cell_of_row w3 _ 16 _ _ (0, 0) xK]; rfl
  clear xK
  cases b with
  | false =>
   have hbf : B = false := by
    rw [← HE.out, decide_eq_false_iff_not]
    intro h
    exact absurd HBB.out (by rw [decide_eq_true h.2.2.2.2.2.1]; decide)
   subst hbf
   go_wp2_with fail
   go_ret
   exact ⟨rfl, HB3.out⟩
  | true =>
   have E5 := Lib.hid (of_decide_eq_true HBB.out.symm)
   clear HBB
   by_cases e6 : L.on = K.on
   case neg =>
    have q6 : (L.on == K.on) = false := by simpa using e6
    have hbf : B = false := by
     rw [← HE.out, decide_eq_false_iff_not]
     intro h
     exact e6 h.2.2.2.2.2.2.1
    subst hbf
    go_wp2_with fail
    go_ret
    exact ⟨rfl, HB3.out⟩
   have q6 : (L.on == K.on) = true := by simpa using e6
   go_wp2_with fail
   refine (rmanSame_any L.m.s L.m.v K.m.s K.m.v L.m.l L.m.z L.m.p K.m.l K.m.z K.m.p w3.heap.size L.m.h.length Lc K.m.h.length Kc LA KA L.m.h K.m.h w3 ((L2.out.row.below HB3.out).more HB3.out.size) ((K2.out.row.below HB3.out).more HB3.out.size) (Nat.le_refl _)).mono ?_
   rintro e w4 ⟨b, rfl, hbb, hb4⟩
   have HB4 := Lib.hid (HB3.out.trans (hb4.mono HB3.out.size))
   have hbf : b = B := by
    rw [← HE.out, hbb.out]
    apply Bool.eq_iff_iff.2
    rw [decide_eq_true_eq, decide_eq_true_eq]
    exact ⟨fun h => ⟨e0, e1, e2, e3, E4.out, E5.out, e6, h⟩, fun h => h.2.2.2.2.2.2.2⟩
   subst hbf
   clear hbb hb4
   clear cL10 cL11 cL12 cL13 cL14 cL15 cL16 cK10 cK11 cK12 cK13 cK14 cK15 cK16
   go_wp2_with fail
   go_ret
   exact ⟨rfl, HB4.out⟩
end Go.Proofs.YtmncpgfdpcckpaaGreatDoor
namespace Go.Proofs.YtmncpgfdpcckpaaGreatDoor.Mo
open Go.RowKit
open VecM RdM Vc Sp Pc El Cd Dc
theorem mpk_nil (w : World) (A : Option Addr) (n c : Nat) : Calls Tryz.prog 6 #[.pointer none, .slice A n c] w fun e w' => e = .returned (.int .i64 1) ∧ w = w' := by
 go_enter Tryz.func6, Tryz.ntmps6
 go_wp2_with fail
 go_ret
 exact ⟨rfl, rfl⟩
theorem mstatus_nil (w : World) : Calls Tryz.prog 9 #[.pointer none] w fun e w' => e = .returned (.int .i64 3) ∧ w = w' := by
 go_enter Tryz.func9, Tryz.ntmps9
 go_wp2_with fail
 go_ret
 exact ⟨rfl, rfl⟩
theorem mkept_nil (w : World) : Calls Tryz.prog 10 #[.pointer none] w fun e w' => e = .returned (.int .i64 0) ∧ w = w' := by
 go_enter Tryz.func10, Tryz.ntmps10
 go_wp2_with fail
 go_ret
 exact ⟨rfl, rfl⟩
theorem mrun_nil (w : World) : Calls Tryz.prog 11 #[.pointer none] w fun e w' => e = .returned (.slice none 0 0) ∧ w = w' := by
 go_enter Tryz.func11, Tryz.ntmps11
 go_wp2_with fail
 go_ret
 exact ⟨rfl, rfl⟩
theorem mturn_start_nil (w : World) : Calls Tryz.prog 23 #[.pointer none, .func (.func 24) #[] #[]] w fun e w' => e = .returned (.int .i64 1) ∧ w = w' := by
 go_enter Tryz.func23, Tryz.ntmps23
 go_wp2_with fail
 go_ret
 exact ⟨rfl, rfl⟩
theorem mstart_nil (w : World) : Calls Tryz.prog 7 #[.pointer none] w fun e w' => e = .returned (.int .i64 1) ∧ w = w' := by
 have HT := Lib.hid (mturn_start_nil w)
 go_enter Tryz.func7, Tryz.ntmps7
 go_wp2_with fail
 refine HT.out.mono ?_
 rintro e w1 ⟨rfl, rfl⟩
 go_wp2_with fail
 go_ret
 exact ⟨rfl, rfl⟩
theorem mturn_conf_nil (w : World) : Calls Tryz.prog 23 #[.pointer none, .func (.func 25) #[] #[]] w fun e w' => e = .returned (.int .i64 1) ∧ w = w' := by
 go_enter Tryz.func23, Tryz.ntmps23
 go_wp2_with fail
 go_ret
 exact ⟨rfl, rfl⟩
theorem mconf_nil (w : World) : Calls Tryz.prog 8 #[.pointer none] w fun e w' => e = .returned (.int .i64 1) ∧ w = w' := by
 have HT := Lib.hid (mturn_conf_nil w)
 go_enter Tryz.func8, Tryz.ntmps8
 go_wp2_with fail
 refine HT.out.mono ?_
 rintro e w1 ⟨rfl, rfl⟩
 go_wp2_with fail
 go_ret
 exact ⟨rfl, rfl⟩
set_option maxHeartbeats 800000 in
theorem mstate_nil (w : World) : Calls Tryz.prog 13 #[.pointer none] w fun e w' => e = .returned (.agg zState) ∧ Below w.heap.size w w' := by
 have HX := Lib.hid (heap_alloc_new w (.cells #[.int .i64 0, .int .i64 0, .int .u32 0, .int .u32 0, .int .u32 0, .int .i64 0, .slice none 0 0, .int .u32 0, .int .i64 0, .slice none 0 0, .bool false, .int .u32 0, .int .u32 0, .int .i64 0, .int .i64 0, .int .i64 0, .slice none 0 0] 39))
 go_enter Tryz.func13, Tryz.ntmps13
 go_wp2_with ((with_reducible show wpList _ _ _ _ _ _); refine wpList_store_row rfl _ (.tmp 2) (.tmp 7) rfl w.heap.size zState rfl rfl _ _ HX.out (by kernel_rfl) (by rfl) (by simp [zState, Value.oneCell']) ?_)
 have hrow := setRow_heap _ _ _ zState _ _ HX.out
 refine bodyPost_ret (results_cell_row rfl _ _ w.heap.size _ _ (0, 0) _ rfl hrow Tryz.underlying39 rfl (by kernel_rfl)) rfl ?_
 exact ⟨rfl, below_setRow2 ((Below.refl _ _).alloc (Nat.le_refl _) _) (Nat.le_refl _) _⟩
set_option maxHeartbeats 1600000 in
theorem modelnil_walk (y : EEv) (w : World) (ht : Sh.Tab w) (hd : DTab w) : Calls Tryz.prog 3 #[.agg y.vals.toArray] w fun e w' => e = .returned (.bool true) ∧ Below w.heap.size w w' := by
 obtain ⟨d, a, n, A, m, c, l⟩ := y
 have hb : Below w.heap.size w (w.alloc (.cells #[.int .i64 d, .slice A m c, .int .i64 a, .int .i64 n] 24)) := (Below.refl _ _).alloc (Nat.le_refl _) _
 have HB := Lib.hid hb
 have hx := heap_alloc_new w (.cells #[.int .i64 d, .slice A m c, .int .i64 a, .int .i64 n] 24)
 have hc := cell_of_row _ w.heap.size 1 _ _ (0, 0) hx
 have HT := Lib.hid (ht.below hb ht.1)
 have HD := Lib.hid (hd.grow hb)
 clear hb hx ht hd
 show Calls Tryz.prog 3 #[.agg #[.int .i64 d, .slice A m c, .int .i64 a, .int .i64 n]] w _
 go_enter Tryz.func3, Tryz.ntmps3
 go_upto_region 2 with fail
 generalize w.alloc (.cells #[.int .i64 d, .slice A m c, .int .i64 a, .int .i64 n] 24) = w1 at *
 go_wp2_with (first
  | (go_at_call 6; refine (mpk_nil _ _ _ _).mono ?_; rintro e w' ⟨rfl, rfl⟩)
  | (go_at_call 7; refine (mstart_nil _).mono ?_; rintro e w' ⟨rfl, rfl⟩)
  | (go_at_call 8; refine (mconf_nil _).mono ?_; rintro e w' ⟨rfl, rfl⟩)
  | (go_at_call 9; refine (mstatus_nil _).mono ?_; rintro e w' ⟨rfl, rfl⟩)
  | (go_at_call 10; refine (mkept_nil _).mono ?_; rintro e w' ⟨rfl, rfl⟩)
  | (go_at_call 11; refine (mrun_nil _).mono ?_; rintro e w' ⟨rfl, rfl⟩))
 refine (mstate_nil w1).mono ?_
 rintro e w2 ⟨rfl, hb2⟩
 have HB2 := Lib.hid hb2
 clear hb2 hc
 go_wp2_with fail
 refine (rsameS (L := LSt.zero) (K := LSt.zero) (zero_is w2 (fun _ => True)) (zero_is w2 (fun _ => True))).mono ?_
 rintro e w3 ⟨rfl, hb3⟩
 rw [eqb_refl]
 have HB13 := Lib.hid (HB2.out.trans (hb3.mono HB2.out.size))
 clear hb3 HB2
 go_wp2_with fail
 refine (awake25_any w3 (HT.out.below HB13.out HT.out.1) (HD.out.grow HB13.out)).mono ?_
 rintro e w4 ⟨rfl, hb4⟩
 have HB4 := Lib.hid hb4
 clear hb4
 go_wp2_with fail
 go_ret
 exact ⟨rfl, HB.out.trans ((HB13.out.trans (HB4.out.mono HB13.out.size)).mono HB.out.size)⟩
end Go.Proofs.YtmncpgfdpcckpaaGreatDoor.Mo
