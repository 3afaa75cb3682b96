/- StateSpoilt: the cases. -/
import Derived.Test.YtnbpjajgfpdddaaStSpM
namespace Go.Proofs.Ytnbpjajgfpdddaa
open Go.RowKit
set_option maxRecDepth 100000 in
set_option maxHeartbeats 1600000 in
theorem spoilt_4f (flo gen v0 v1 : Nat) (act tr l0 l1 : Int) (h0 h1 : List UInt8) (m : LMan) (A0 A1 A : Option Addr) (c0 c1 c : Nat) (how : Int) (w : World) (hs : IsSt w (fun _ => True) #[.int .i64 act, .int .i64 tr, .int .u32 (flo : Int), .int .u32 (gen : Int), .int .u32 (v0 : Int), .int .i64 l0, .slice A0 h0.length c0, .int .u32 (v1 : Int), .int .i64 l1, .slice A1 h1.length c1, .bool false, .int .u32 (m.s : Int), .int .u32 (m.v : Int), .int .i64 m.l, .int .i64 m.z, .int .i64 m.p, .slice A m.h.length c] (⟨act, tr, flo, gen, v0, l0, h0, v1, l1, h1, false, m⟩ : LSt)) (hm : ((⟨act, tr, flo, gen, v0, l0, h0, v1, l1, h1, false, m⟩ : LSt)).may = true) (hj : IntKind.u64.wrap how % 6 = 4) :
    Calls Try.prog 5 #[.agg #[.int .i64 act, .int .i64 tr, .int .u32 (flo : Int), .int .u32 (gen : Int), .int .u32 (v0 : Int), .int .i64 l0, .slice A0 h0.length c0, .int .u32 (v1 : Int), .int .i64 l1, .slice A1 h1.length c1, .bool false, .int .u32 (m.s : Int), .int .u32 (m.v : Int), .int .i64 m.l, .int .i64 m.z, .int .i64 m.p, .slice A m.h.length c], .int .i64 how] w fun e w' => e = .returned (.bool true) ∧ Below w.heap.size w w' := by
  have kmay : ((⟨act, tr, flo, gen, v0, l0, h0, v1, l1, h1, true, m⟩ : LSt)).may = false := (spoilt_m4f hm).1
  have keq : ((⟨act, tr, flo, gen, v0, l0, h0, v1, l1, h1, false, m⟩ : LSt)).eqb (⟨act, tr, flo, gen, v0, l0, h0, v1, l1, h1, true, m⟩ : LSt) = false := (spoilt_m4f hm).2
  have HM := Lib.hid hm
  have KM := Lib.hid kmay
  have KE := Lib.hid keq
  have HLG := Lib.hid (light_of_may hm)
  have hu : 0 ≤ IntKind.u64.wrap how := by rw [IntKind.wrap_u64]; omega
  have HJ : Hid ((IntKind.u64.wrap how).tmod 6 = 4) := Lib.hid (by rw [Int.tmod_eq_emod_of_nonneg hu]; exact hj)
  have HJ2 := Lib.hid hj
  have IN : Hid ((Try.prog.info? 30).map (·.size) = some (#[.int .i64 act, .int .i64 tr, .int .u32 (flo : Int), .int .u32 (gen : Int), .int .u32 (v0 : Int), .int .i64 l0, .slice A0 h0.length c0, .int .u32 (v1 : Int), .int .i64 l1, .slice A1 h1.length c1, .bool false, .int .u32 (m.s : Int), .int .u32 (m.v : Int), .int .i64 m.l, .int .i64 m.z, .int .i64 m.p, .slice A m.h.length c] : Array Value).size) := Lib.hid (by kernel_rfl)
  have IK : Hid ((Try.prog.info? 30).map (·.size) = some (#[.int .i64 act, .int .i64 tr, .int .u32 (flo : Int), .int .u32 (gen : Int), .int .u32 (v0 : Int), .int .i64 l0, .slice A0 h0.length c0, .int .u32 (v1 : Int), .int .i64 l1, .slice A1 h1.length c1, .bool true, .int .u32 (m.s : Int), .int .u32 (m.v : Int), .int .i64 m.l, .int .i64 m.z, .int .i64 m.p, .slice A m.h.length c] : Array Value).size) := Lib.hid (by kernel_rfl)
  have ON : Hid ((#[.int .i64 act, .int .i64 tr, .int .u32 (flo : Int), .int .u32 (gen : Int), .int .u32 (v0 : Int), .int .i64 l0, .slice A0 h0.length c0, .int .u32 (v1 : Int), .int .i64 l1, .slice A1 h1.length c1, .bool false, .int .u32 (m.s : Int), .int .u32 (m.v : Int), .int .i64 m.l, .int .i64 m.z, .int .i64 m.p, .slice A m.h.length c] : Array Value).all (·.oneCell') = true) := Lib.hid (by simp [Value.oneCell'])
  have e0 := ((Env.start w).addSt hs).alloc #[.int .i64 act, .int .i64 tr, .int .u32 (flo : Int), .int .u32 (gen : Int), .int .u32 (v0 : Int), .int .i64 l0, .slice A0 h0.length c0, .int .u32 (v1 : Int), .int .i64 l1, .slice A1 h1.length c1, .bool false, .int .u32 (m.s : Int), .int .u32 (m.v : Int), .int .i64 m.l, .int .i64 m.z, .int .i64 m.p, .slice A m.h.length c] 30
  have E0 := Lib.hid e0
  clear e0 hs hm hj hu kmay keq
  go_enter Try.func5, Try.ntmps5
  go_wp2_with ((with_reducible show wpList _ _ _ _ _ _); refine wpList_load_row (o := ⟨some 8, _, _, _, _, _⟩) rfl _ (.tmp 2) rfl w.heap.size rfl _ _ _ _ (E0.out.bx _ _ _ (.head _)) Try.underlying30 rfl IN.out ?_)
  generalize w.alloc (.cells #[.int .i64 act, .int .i64 tr, .int .u32 (flo : Int), .int .u32 (gen : Int), .int .u32 (v0 : Int), .int .i64 l0, .slice A0 h0.length c0, .int .u32 (v1 : Int), .int .i64 l1, .slice A1 h1.length c1, .bool false, .int .u32 (m.s : Int), .int .u32 (m.v : Int), .int .i64 m.l, .int .i64 m.z, .int .i64 m.p, .slice A m.h.length c] 30) = w0 at *
  refine (heavyS_no (E0.out.st _ _ (.head _)) HLG.out).mono ?_
  rintro e w1 ⟨rfl, hb1⟩
  have E1 := Lib.hid (E0.out.below hb1)
  clear hb1 E0 HLG
  go_wp2_with ((with_reducible show wpList _ _ _ _ _ _); refine wpList_load_rowG (o := ⟨some 12, _, _, _, _, _⟩) (by rfl) _ (.tmp 2) rfl w.heap.size rfl _ _ _ _ (E1.out.bx _ _ _ (.head _)) Try.underlying30 rfl IN.out ?_)
  refine (mayS (E1.out.st _ _ (.head _))).mono ?_
  rintro e w2 ⟨rfl, hb2⟩
  rw [HM.out]
  have E2 := Lib.hid (E1.out.below hb2)
  clear hb2 E1 HM
  have ba : Below w2.heap.size w2 (w2.alloc (.cells #[.int .i64 act, .int .i64 tr, .int .u32 (flo : Int), .int .u32 (gen : Int), .int .u32 (v0 : Int), .int .i64 l0, .slice A0 h0.length c0, .int .u32 (v1 : Int), .int .i64 l1, .slice A1 h1.length c1, .bool false, .int .u32 (m.s : Int), .int .u32 (m.v : Int), .int .i64 m.l, .int .i64 m.z, .int .i64 m.p, .slice A m.h.length c] 30)) := (Below.refl _ _).alloc (Nat.le_refl _) _
  have HX5 := Lib.hid (heap_alloc_new w2 (.cells #[.int .i64 act, .int .i64 tr, .int .u32 (flo : Int), .int .u32 (gen : Int), .int .u32 (v0 : Int), .int .i64 l0, .slice A0 h0.length c0, .int .u32 (v1 : Int), .int .i64 l1, .slice A1 h1.length c1, .bool false, .int .u32 (m.s : Int), .int .u32 (m.v : Int), .int .i64 m.l, .int .i64 m.z, .int .i64 m.p, .slice A m.h.length c] 30))
  have HB3 := Lib.hid (E2.out.b.trans (ba.mono E2.out.b.size))
  have HG5 := Lib.hid E2.out.b.size
  have S3 := Lib.hid (((E2.out.st _ _ (.head _)).imp (P' := fun b => b < w2.heap.size) (fun b hb _ => hb)).below ba)
  have X3 := Lib.hid ((ba.block _ (Array.getElem?_eq_some_iff.1 (E2.out.bx _ _ _ (.head _))).1).trans (E2.out.bx _ _ _ (.head _)))
  have LT5 := Lib.hid (Array.getElem?_eq_some_iff.1 (E2.out.bx _ _ _ (.head _))).1
  go_upto_region 4 with (first
    | ((with_reducible show wpList _ _ _ _ _ _); refine wpList_load_row (o := ⟨some 17, _, _, _, _, _⟩) rfl _ (.tmp 2) rfl w.heap.size rfl _ _ _ _ (E2.out.bx _ _ _ (.head _)) Try.underlying30 rfl IN.out ?_)
    | ((with_reducible show wpList _ _ _ _ _ _); refine wpList_store_new rfl rfl _ (.tmp 5) (.tmp 17) rfl _ _ #[.int .i64 act, .int .i64 tr, .int .u32 (flo : Int), .int .u32 (gen : Int), .int .u32 (v0 : Int), .int .i64 l0, .slice A0 h0.length c0, .int .u32 (v1 : Int), .int .i64 l1, .slice A1 h1.length c1, .bool false, .int .u32 (m.s : Int), .int .u32 (m.v : Int), .int .i64 m.l, .int .i64 m.z, .int .i64 m.p, .slice A m.h.length c] _ rfl rfl IN.out (by rfl) ON.out ?_))
  clear ba E2 ON
  generalize w2.alloc (.cells #[.int .i64 act, .int .i64 tr, .int .u32 (flo : Int), .int .u32 (gen : Int), .int .u32 (v0 : Int), .int .i64 l0, .slice A0 h0.length c0, .int .u32 (v1 : Int), .int .i64 l1, .slice A1 h1.length c1, .bool false, .int .u32 (m.s : Int), .int .u32 (m.v : Int), .int .i64 m.l, .int .i64 m.z, .int .i64 m.p, .slice A m.h.length c] 30) = w3 at *
  generalize w2.heap.size = b5 at *
  have k10 : w3.cell? ⟨b5, 10, none⟩ = _ := cell_of_row w3 b5 10 _ _ (0, 0) HX5.out
  have f10 := frozen_of_row w3 b5 10 _ _ HX5.out
  go_upto_region 16 with (first | rw [HJ.out] | rw [HJ2.out])
  have ko : ∀ b, b ≠ b5 → (w3.setCell ⟨b5, 10, none⟩ (.bool true)).heap[b]? = w3.heap[b]? := fun b hb => (heap_setCell_other _ _ _ _ hb)
  have hx : (w3.setCell ⟨b5, 10, none⟩ (.bool true)).heap[b5]? = some (.cells #[.int .i64 act, .int .i64 tr, .int .u32 (flo : Int), .int .u32 (gen : Int), .int .u32 (v0 : Int), .int .i64 l0, .slice A0 h0.length c0, .int .u32 (v1 : Int), .int .i64 l1, .slice A1 h1.length c1, .bool true, .int .u32 (m.s : Int), .int .u32 (m.v : Int), .int .i64 m.l, .int .i64 m.z, .int .i64 m.p, .slice A m.h.length c] 30 (0, 0)) := (heap_setCell_same _ b5 10 _ _ (.bool true) HX5.out)
  have hst : IsSt (w3.setCell ⟨b5, 10, none⟩ (.bool true)) (fun _ => True) #[.int .i64 act, .int .i64 tr, .int .u32 (flo : Int), .int .u32 (gen : Int), .int .u32 (v0 : Int), .int .i64 l0, .slice A0 h0.length c0, .int .u32 (v1 : Int), .int .i64 l1, .slice A1 h1.length c1, .bool false, .int .u32 (m.s : Int), .int .u32 (m.v : Int), .int .i64 m.l, .int .i64 m.z, .int .i64 m.p, .slice A m.h.length c] (⟨act, tr, flo, gen, v0, l0, h0, v1, l1, h1, false, m⟩ : LSt) := (S3.out.keep (by simp) fun b hb _ => ko b (by omega)).imp fun _ _ _ => trivial
  obtain ⟨rr0, rr1, rr⟩ := IsSt.rows (K := (⟨act, tr, flo, gen, v0, l0, h0, v1, l1, h1, false, m⟩ : LSt)) (A0 := A0) (c0 := c0) (A1 := A1) (c1 := c1) (A := A) (c := c) S3.out
  have hkt : IsSt (w3.setCell ⟨b5, 10, none⟩ (.bool true)) (fun _ => True) #[.int .i64 act, .int .i64 tr, .int .u32 (flo : Int), .int .u32 (gen : Int), .int .u32 (v0 : Int), .int .i64 l0, .slice A0 h0.length c0, .int .u32 (v1 : Int), .int .i64 l1, .slice A1 h1.length c1, .bool true, .int .u32 (m.s : Int), .int .u32 (m.v : Int), .int .i64 m.l, .int .i64 m.z, .int .i64 m.p, .slice A m.h.length c] (⟨act, tr, flo, gen, v0, l0, h0, v1, l1, h1, true, m⟩ : LSt) := by
    refine ⟨A0, c0, A1, c1, A, c, rfl, ?_, ?_, (rr.keep (by simp) fun b hb _ => ko b (by omega)).imp fun _ _ _ => trivial⟩
    · exact (rr0.keep (by simp) fun b hb _ => ko b (by omega)).imp fun _ _ _ => trivial
    · exact (rr1.keep (by simp) fun b hb _ => ko b (by omega)).imp fun _ _ _ => trivial
  have en : Env w (w3.setCell ⟨b5, 10, none⟩ (.bool true)) [(b5, #[.int .i64 act, .int .i64 tr, .int .u32 (flo : Int), .int .u32 (gen : Int), .int .u32 (v0 : Int), .int .i64 l0, .slice A0 h0.length c0, .int .u32 (v1 : Int), .int .i64 l1, .slice A1 h1.length c1, .bool true, .int .u32 (m.s : Int), .int .u32 (m.v : Int), .int .i64 m.l, .int .i64 m.z, .int .i64 m.p, .slice A m.h.length c], 30), (w.heap.size, #[.int .i64 act, .int .i64 tr, .int .u32 (flo : Int), .int .u32 (gen : Int), .int .u32 (v0 : Int), .int .i64 l0, .slice A0 h0.length c0, .int .u32 (v1 : Int), .int .i64 l1, .slice A1 h1.length c1, .bool false, .int .u32 (m.s : Int), .int .u32 (m.v : Int), .int .i64 m.l, .int .i64 m.z, .int .i64 m.p, .slice A m.h.length c], 30)] [(#[.int .i64 act, .int .i64 tr, .int .u32 (flo : Int), .int .u32 (gen : Int), .int .u32 (v0 : Int), .int .i64 l0, .slice A0 h0.length c0, .int .u32 (v1 : Int), .int .i64 l1, .slice A1 h1.length c1, .bool true, .int .u32 (m.s : Int), .int .u32 (m.v : Int), .int .i64 m.l, .int .i64 m.z, .int .i64 m.p, .slice A m.h.length c], (⟨act, tr, flo, gen, v0, l0, h0, v1, l1, h1, true, m⟩ : LSt)), (#[.int .i64 act, .int .i64 tr, .int .u32 (flo : Int), .int .u32 (gen : Int), .int .u32 (v0 : Int), .int .i64 l0, .slice A0 h0.length c0, .int .u32 (v1 : Int), .int .i64 l1, .slice A1 h1.length c1, .bool false, .int .u32 (m.s : Int), .int .u32 (m.v : Int), .int .i64 m.l, .int .i64 m.z, .int .i64 m.p, .slice A m.h.length c], (⟨act, tr, flo, gen, v0, l0, h0, v1, l1, h1, false, m⟩ : LSt))] [] := by
    refine ⟨(HB3.out.setCell HG5.out _), fun g cs t hg => ?_, fun cs K hm => ?_, fun cs M hm => (by cases hm)⟩
    · rcases List.mem_cons.1 hg with e | hg
      · injection e with e1 e2; injection e2 with e2 e3; subst e1 e2 e3; exact hx
      · rcases List.mem_cons.1 hg with e | hg
        · injection e with e1 e2; injection e2 with e2 e3; subst e1 e2 e3; exact (ko _ (by have := LT5.out; omega)).trans X3.out
        · cases hg
    · rcases List.mem_cons.1 hm with e | hm
      · injection e with e1 e2; subst e1 e2; exact hkt
      · rcases List.mem_cons.1 hm with e | hm
        · injection e with e1 e2; subst e1 e2; exact hst
        · cases hm
  have EK := Lib.hid en
  clear en ko hx hst hkt rr0 rr1 rr k10 f10 HX5 HB3 HG5 S3 X3 LT5
  generalize (w3.setCell ⟨b5, 10, none⟩ (.bool true)) = w4 at *
  go_wp2_with ((with_reducible show wpList _ _ _ _ _ _); refine wpList_load_row (o := ⟨some 54, _, _, _, _, _⟩) rfl _ (.tmp 5) rfl b5 rfl _ _ _ _ (EK.out.bx _ _ _ (.head _)) Try.underlying30 rfl IK.out ?_)
  refine (bytesS_no (EK.out.st _ _ (.head _)) KM.out).mono ?_
  rintro e w5 ⟨rfl, hb5⟩
  have E5 := Lib.hid (EK.out.below hb5)
  clear hb5 EK
  go_wp2_with ((with_reducible show wpList _ _ _ _ _ _); refine wpList_load_row (o := ⟨some 58, _, _, _, _, _⟩) rfl _ (.tmp 5) rfl b5 rfl _ _ _ _ (E5.out.bx _ _ _ (.head _)) Try.underlying30 rfl IK.out ?_)
  refine (mayS (E5.out.st _ _ (.head _))).mono ?_
  rintro e w6 ⟨rfl, hb6⟩
  rw [KM.out]
  have E6 := Lib.hid (E5.out.below hb6)
  clear hb6 E5
  go_wp2_with (first
    | ((with_reducible show wpList _ _ _ _ _ _); refine wpList_load_rowG (o := ⟨some 66, _, _, _, _, _⟩) (by rfl) _ (.tmp 2) rfl w.heap.size rfl _ _ _ _ (E6.out.bx _ _ _ (.tail _ (.head _))) Try.underlying30 rfl IN.out ?_)
    | ((with_reducible show wpList _ _ _ _ _ _); refine wpList_load_rowG (o := ⟨some 67, _, _, _, _, _⟩) (by rfl) _ (.tmp 5) rfl b5 rfl _ _ _ _ (E6.out.bx _ _ _ (.head _)) Try.underlying30 rfl IK.out ?_))
  refine (sameS (E6.out.st _ _ (.tail _ (.head _))) (E6.out.st _ _ (.head _))).mono ?_
  rintro e w7 ⟨rfl, hb7⟩
  rw [KE.out]
  have E7 := Lib.hid (E6.out.below hb7)
  clear hb7 E6
  go_wp2_with fail
  refine (awake19_any _).mono ?_
  rintro e wz ⟨rfl, hbz⟩
  have hb := (E7.out.below hbz).b
  go_wp2_with fail
  go_ret
  exact ⟨rfl, hb⟩
set_option maxRecDepth 100000 in
set_option maxHeartbeats 1600000 in
theorem spoilt_50 (flo gen v0 v1 : Nat) (tr l0 l1 : Int) (h0 h1 : List UInt8) (on : Bool) (m : LMan) (A0 A1 A : Option Addr) (c0 c1 c : Nat) (how : Int) (w : World) (hs : IsSt w (fun _ => True) #[.int .i64 0, .int .i64 tr, .int .u32 (flo : Int), .int .u32 (gen : Int), .int .u32 (v0 : Int), .int .i64 l0, .slice A0 h0.length c0, .int .u32 (v1 : Int), .int .i64 l1, .slice A1 h1.length c1, .bool on, .int .u32 (m.s : Int), .int .u32 (m.v : Int), .int .i64 m.l, .int .i64 m.z, .int .i64 m.p, .slice A m.h.length c] (⟨0, tr, flo, gen, v0, l0, h0, v1, l1, h1, on, m⟩ : LSt)) (hm : ((⟨0, tr, flo, gen, v0, l0, h0, v1, l1, h1, on, m⟩ : LSt)).may = true) (hj : IntKind.u64.wrap how % 6 = 5) :
    Calls Try.prog 5 #[.agg #[.int .i64 0, .int .i64 tr, .int .u32 (flo : Int), .int .u32 (gen : Int), .int .u32 (v0 : Int), .int .i64 l0, .slice A0 h0.length c0, .int .u32 (v1 : Int), .int .i64 l1, .slice A1 h1.length c1, .bool on, .int .u32 (m.s : Int), .int .u32 (m.v : Int), .int .i64 m.l, .int .i64 m.z, .int .i64 m.p, .slice A m.h.length c], .int .i64 how] w fun e w' => e = .returned (.bool true) ∧ Below w.heap.size w w' := by
  have kmay : ((⟨0, tr, flo, gen, v0, l0, h0, 1, 0, [], on, m⟩ : LSt)).may = false := (spoilt_m50 hm).1
  have keq : ((⟨0, tr, flo, gen, v0, l0, h0, v1, l1, h1, on, m⟩ : LSt)).eqb (⟨0, tr, flo, gen, v0, l0, h0, 1, 0, [], on, m⟩ : LSt) = false := (spoilt_m50 hm).2
  have HM := Lib.hid hm
  have KM := Lib.hid kmay
  have KE := Lib.hid keq
  have HLG := Lib.hid (light_of_may hm)
  have hu : 0 ≤ IntKind.u64.wrap how := by rw [IntKind.wrap_u64]; omega
  have HJ : Hid ((IntKind.u64.wrap how).tmod 6 = 5) := Lib.hid (by rw [Int.tmod_eq_emod_of_nonneg hu]; exact hj)
  have HJ2 := Lib.hid hj
  have IN : Hid ((Try.prog.info? 30).map (·.size) = some (#[.int .i64 0, .int .i64 tr, .int .u32 (flo : Int), .int .u32 (gen : Int), .int .u32 (v0 : Int), .int .i64 l0, .slice A0 h0.length c0, .int .u32 (v1 : Int), .int .i64 l1, .slice A1 h1.length c1, .bool on, .int .u32 (m.s : Int), .int .u32 (m.v : Int), .int .i64 m.l, .int .i64 m.z, .int .i64 m.p, .slice A m.h.length c] : Array Value).size) := Lib.hid (by kernel_rfl)
  have IK : Hid ((Try.prog.info? 30).map (·.size) = some (#[.int .i64 0, .int .i64 tr, .int .u32 (flo : Int), .int .u32 (gen : Int), .int .u32 (v0 : Int), .int .i64 l0, .slice A0 h0.length c0, .int .u32 1, .int .i64 0, .slice none 0 0, .bool on, .int .u32 (m.s : Int), .int .u32 (m.v : Int), .int .i64 m.l, .int .i64 m.z, .int .i64 m.p, .slice A m.h.length c] : Array Value).size) := Lib.hid (by kernel_rfl)
  have ON : Hid ((#[.int .i64 0, .int .i64 tr, .int .u32 (flo : Int), .int .u32 (gen : Int), .int .u32 (v0 : Int), .int .i64 l0, .slice A0 h0.length c0, .int .u32 (v1 : Int), .int .i64 l1, .slice A1 h1.length c1, .bool on, .int .u32 (m.s : Int), .int .u32 (m.v : Int), .int .i64 m.l, .int .i64 m.z, .int .i64 m.p, .slice A m.h.length c] : Array Value).all (·.oneCell') = true) := Lib.hid (by simp [Value.oneCell'])
  have e0 := ((Env.start w).addSt hs).alloc #[.int .i64 0, .int .i64 tr, .int .u32 (flo : Int), .int .u32 (gen : Int), .int .u32 (v0 : Int), .int .i64 l0, .slice A0 h0.length c0, .int .u32 (v1 : Int), .int .i64 l1, .slice A1 h1.length c1, .bool on, .int .u32 (m.s : Int), .int .u32 (m.v : Int), .int .i64 m.l, .int .i64 m.z, .int .i64 m.p, .slice A m.h.length c] 30
  have E0 := Lib.hid e0
  clear e0 hs hm hj hu kmay keq
  go_enter Try.func5, Try.ntmps5
  go_wp2_with ((with_reducible show wpList _ _ _ _ _ _); refine wpList_load_row (o := ⟨some 8, _, _, _, _, _⟩) rfl _ (.tmp 2) rfl w.heap.size rfl _ _ _ _ (E0.out.bx _ _ _ (.head _)) Try.underlying30 rfl IN.out ?_)
  generalize w.alloc (.cells #[.int .i64 0, .int .i64 tr, .int .u32 (flo : Int), .int .u32 (gen : Int), .int .u32 (v0 : Int), .int .i64 l0, .slice A0 h0.length c0, .int .u32 (v1 : Int), .int .i64 l1, .slice A1 h1.length c1, .bool on, .int .u32 (m.s : Int), .int .u32 (m.v : Int), .int .i64 m.l, .int .i64 m.z, .int .i64 m.p, .slice A m.h.length c] 30) = w0 at *
  refine (heavyS_no (E0.out.st _ _ (.head _)) HLG.out).mono ?_
  rintro e w1 ⟨rfl, hb1⟩
  have E1 := Lib.hid (E0.out.below hb1)
  clear hb1 E0 HLG
  go_wp2_with ((with_reducible show wpList _ _ _ _ _ _); refine wpList_load_rowG (o := ⟨some 12, _, _, _, _, _⟩) (by rfl) _ (.tmp 2) rfl w.heap.size rfl _ _ _ _ (E1.out.bx _ _ _ (.head _)) Try.underlying30 rfl IN.out ?_)
  refine (mayS (E1.out.st _ _ (.head _))).mono ?_
  rintro e w2 ⟨rfl, hb2⟩
  rw [HM.out]
  have E2 := Lib.hid (E1.out.below hb2)
  clear hb2 E1 HM
  have ba : Below w2.heap.size w2 (w2.alloc (.cells #[.int .i64 0, .int .i64 tr, .int .u32 (flo : Int), .int .u32 (gen : Int), .int .u32 (v0 : Int), .int .i64 l0, .slice A0 h0.length c0, .int .u32 (v1 : Int), .int .i64 l1, .slice A1 h1.length c1, .bool on, .int .u32 (m.s : Int), .int .u32 (m.v : Int), .int .i64 m.l, .int .i64 m.z, .int .i64 m.p, .slice A m.h.length c] 30)) := (Below.refl _ _).alloc (Nat.le_refl _) _
  have HX5 := Lib.hid (heap_alloc_new w2 (.cells #[.int .i64 0, .int .i64 tr, .int .u32 (flo : Int), .int .u32 (gen : Int), .int .u32 (v0 : Int), .int .i64 l0, .slice A0 h0.length c0, .int .u32 (v1 : Int), .int .i64 l1, .slice A1 h1.length c1, .bool on, .int .u32 (m.s : Int), .int .u32 (m.v : Int), .int .i64 m.l, .int .i64 m.z, .int .i64 m.p, .slice A m.h.length c] 30))
  have HB3 := Lib.hid (E2.out.b.trans (ba.mono E2.out.b.size))
  have HG5 := Lib.hid E2.out.b.size
  have S3 := Lib.hid (((E2.out.st _ _ (.head _)).imp (P' := fun b => b < w2.heap.size) (fun b hb _ => hb)).below ba)
  have X3 := Lib.hid ((ba.block _ (Array.getElem?_eq_some_iff.1 (E2.out.bx _ _ _ (.head _))).1).trans (E2.out.bx _ _ _ (.head _)))
  have LT5 := Lib.hid (Array.getElem?_eq_some_iff.1 (E2.out.bx _ _ _ (.head _))).1
  go_upto_region 4 with (first
    | ((with_reducible show wpList _ _ _ _ _ _); refine wpList_load_row (o := ⟨some 17, _, _, _, _, _⟩) rfl _ (.tmp 2) rfl w.heap.size rfl _ _ _ _ (E2.out.bx _ _ _ (.head _)) Try.underlying30 rfl IN.out ?_)
    | ((with_reducible show wpList _ _ _ _ _ _); refine wpList_store_new rfl rfl _ (.tmp 5) (.tmp 17) rfl _ _ #[.int .i64 0, .int .i64 tr, .int .u32 (flo : Int), .int .u32 (gen : Int), .int .u32 (v0 : Int), .int .i64 l0, .slice A0 h0.length c0, .int .u32 (v1 : Int), .int .i64 l1, .slice A1 h1.length c1, .bool on, .int .u32 (m.s : Int), .int .u32 (m.v : Int), .int .i64 m.l, .int .i64 m.z, .int .i64 m.p, .slice A m.h.length c] _ rfl rfl IN.out (by rfl) ON.out ?_))
  clear ba E2 ON
  generalize w2.alloc (.cells #[.int .i64 0, .int .i64 tr, .int .u32 (flo : Int), .int .u32 (gen : Int), .int .u32 (v0 : Int), .int .i64 l0, .slice A0 h0.length c0, .int .u32 (v1 : Int), .int .i64 l1, .slice A1 h1.length c1, .bool on, .int .u32 (m.s : Int), .int .u32 (m.v : Int), .int .i64 m.l, .int .i64 m.z, .int .i64 m.p, .slice A m.h.length c] 30) = w3 at *
  generalize w2.heap.size = b5 at *
  have k0 : w3.cell? ⟨b5, 0, none⟩ = _ := cell_of_row w3 b5 0 _ _ (0, 0) HX5.out
  have f0 := frozen_of_row w3 b5 0 _ _ HX5.out
  have k7 : w3.cell? ⟨b5, 7, none⟩ = _ := cell_of_row w3 b5 7 _ _ (0, 0) HX5.out
  have f7 := frozen_of_row w3 b5 7 _ _ HX5.out
  have k8 : w3.cell? ⟨b5, 8, none⟩ = _ := cell_of_row w3 b5 8 _ _ (0, 0) HX5.out
  have f8 := frozen_of_row w3 b5 8 _ _ HX5.out
  have k9 : w3.cell? ⟨b5, 9, none⟩ = _ := cell_of_row w3 b5 9 _ _ (0, 0) HX5.out
  have f9 := frozen_of_row w3 b5 9 _ _ HX5.out
  go_upto_region 16 with (first | rw [HJ.out] | rw [HJ2.out])
  have ko : ∀ b, b ≠ b5 → (((w3.setCell ⟨b5, 7, none⟩ (.int .u32 1)).setCell ⟨b5, 8, none⟩ (.int .i64 0)).setCell ⟨b5, 9, none⟩ (.slice none 0 0)).heap[b]? = w3.heap[b]? := fun b hb => ((heap_setCell_other _ _ _ _ hb).trans ((heap_setCell_other _ _ _ _ hb).trans (heap_setCell_other _ _ _ _ hb)))
  have hx : (((w3.setCell ⟨b5, 7, none⟩ (.int .u32 1)).setCell ⟨b5, 8, none⟩ (.int .i64 0)).setCell ⟨b5, 9, none⟩ (.slice none 0 0)).heap[b5]? = some (.cells #[.int .i64 0, .int .i64 tr, .int .u32 (flo : Int), .int .u32 (gen : Int), .int .u32 (v0 : Int), .int .i64 l0, .slice A0 h0.length c0, .int .u32 1, .int .i64 0, .slice none 0 0, .bool on, .int .u32 (m.s : Int), .int .u32 (m.v : Int), .int .i64 m.l, .int .i64 m.z, .int .i64 m.p, .slice A m.h.length c] 30 (0, 0)) := (heap_setCell_same _ b5 9 _ _ (.slice none 0 0) (heap_setCell_same _ b5 8 _ _ (.int .i64 0) (heap_setCell_same _ b5 7 _ _ (.int .u32 1) HX5.out)))
  have hst : IsSt (((w3.setCell ⟨b5, 7, none⟩ (.int .u32 1)).setCell ⟨b5, 8, none⟩ (.int .i64 0)).setCell ⟨b5, 9, none⟩ (.slice none 0 0)) (fun _ => True) #[.int .i64 0, .int .i64 tr, .int .u32 (flo : Int), .int .u32 (gen : Int), .int .u32 (v0 : Int), .int .i64 l0, .slice A0 h0.length c0, .int .u32 (v1 : Int), .int .i64 l1, .slice A1 h1.length c1, .bool on, .int .u32 (m.s : Int), .int .u32 (m.v : Int), .int .i64 m.l, .int .i64 m.z, .int .i64 m.p, .slice A m.h.length c] (⟨0, tr, flo, gen, v0, l0, h0, v1, l1, h1, on, m⟩ : LSt) := (S3.out.keep (by simp) fun b hb _ => ko b (by omega)).imp fun _ _ _ => trivial
  obtain ⟨rr0, rr1, rr⟩ := IsSt.rows (K := (⟨0, tr, flo, gen, v0, l0, h0, v1, l1, h1, on, m⟩ : LSt)) (A0 := A0) (c0 := c0) (A1 := A1) (c1 := c1) (A := A) (c := c) S3.out
  have hkt : IsSt (((w3.setCell ⟨b5, 7, none⟩ (.int .u32 1)).setCell ⟨b5, 8, none⟩ (.int .i64 0)).setCell ⟨b5, 9, none⟩ (.slice none 0 0)) (fun _ => True) #[.int .i64 0, .int .i64 tr, .int .u32 (flo : Int), .int .u32 (gen : Int), .int .u32 (v0 : Int), .int .i64 l0, .slice A0 h0.length c0, .int .u32 1, .int .i64 0, .slice none 0 0, .bool on, .int .u32 (m.s : Int), .int .u32 (m.v : Int), .int .i64 m.l, .int .i64 m.z, .int .i64 m.p, .slice A m.h.length c] (⟨0, tr, flo, gen, v0, l0, h0, 1, 0, [], on, m⟩ : LSt) := by
    refine ⟨A0, c0, none, 0, A, c, rfl, ?_, ?_, (rr.keep (by simp) fun b hb _ => ko b (by omega)).imp fun _ _ _ => trivial⟩
    · exact (rr0.keep (by simp) fun b hb _ => ko b (by omega)).imp fun _ _ _ => trivial
    · exact .nil _ _ _
  have en : Env w (((w3.setCell ⟨b5, 7, none⟩ (.int .u32 1)).setCell ⟨b5, 8, none⟩ (.int .i64 0)).setCell ⟨b5, 9, none⟩ (.slice none 0 0)) [(b5, #[.int .i64 0, .int .i64 tr, .int .u32 (flo : Int), .int .u32 (gen : Int), .int .u32 (v0 : Int), .int .i64 l0, .slice A0 h0.length c0, .int .u32 1, .int .i64 0, .slice none 0 0, .bool on, .int .u32 (m.s : Int), .int .u32 (m.v : Int), .int .i64 m.l, .int .i64 m.z, .int .i64 m.p, .slice A m.h.length c], 30), (w.heap.size, #[.int .i64 0, .int .i64 tr, .int .u32 (flo : Int), .int .u32 (gen : Int), .int .u32 (v0 : Int), .int .i64 l0, .slice A0 h0.length c0, .int .u32 (v1 : Int), .int .i64 l1, .slice A1 h1.length c1, .bool on, .int .u32 (m.s : Int), .int .u32 (m.v : Int), .int .i64 m.l, .int .i64 m.z, .int .i64 m.p, .slice A m.h.length c], 30)] [(#[.int .i64 0, .int .i64 tr, .int .u32 (flo : Int), .int .u32 (gen : Int), .int .u32 (v0 : Int), .int .i64 l0, .slice A0 h0.length c0, .int .u32 1, .int .i64 0, .slice none 0 0, .bool on, .int .u32 (m.s : Int), .int .u32 (m.v : Int), .int .i64 m.l, .int .i64 m.z, .int .i64 m.p, .slice A m.h.length c], (⟨0, tr, flo, gen, v0, l0, h0, 1, 0, [], on, m⟩ : LSt)), (#[.int .i64 0, .int .i64 tr, .int .u32 (flo : Int), .int .u32 (gen : Int), .int .u32 (v0 : Int), .int .i64 l0, .slice A0 h0.length c0, .int .u32 (v1 : Int), .int .i64 l1, .slice A1 h1.length c1, .bool on, .int .u32 (m.s : Int), .int .u32 (m.v : Int), .int .i64 m.l, .int .i64 m.z, .int .i64 m.p, .slice A m.h.length c], (⟨0, tr, flo, gen, v0, l0, h0, v1, l1, h1, on, m⟩ : LSt))] [] := by
    refine ⟨(((HB3.out.setCell HG5.out _).setCell HG5.out _).setCell HG5.out _), fun g cs t hg => ?_, fun cs K hm => ?_, fun cs M hm => (by cases hm)⟩
    · rcases List.mem_cons.1 hg with e | hg
      · injection e with e1 e2; injection e2 with e2 e3; subst e1 e2 e3; exact hx
      · rcases List.mem_cons.1 hg with e | hg
        · injection e with e1 e2; injection e2 with e2 e3; subst e1 e2 e3; exact (ko _ (by have := LT5.out; omega)).trans X3.out
        · cases hg
    · rcases List.mem_cons.1 hm with e | hm
      · injection e with e1 e2; subst e1 e2; exact hkt
      · rcases List.mem_cons.1 hm with e | hm
        · injection e with e1 e2; subst e1 e2; exact hst
        · cases hm
  have EK := Lib.hid en
  clear en ko hx hst hkt rr0 rr1 rr k0 f0 k7 f7 k8 f8 k9 f9 HX5 HB3 HG5 S3 X3 LT5
  generalize (((w3.setCell ⟨b5, 7, none⟩ (.int .u32 1)).setCell ⟨b5, 8, none⟩ (.int .i64 0)).setCell ⟨b5, 9, none⟩ (.slice none 0 0)) = w4 at *
  go_wp2_with ((with_reducible show wpList _ _ _ _ _ _); refine wpList_load_row (o := ⟨some 54, _, _, _, _, _⟩) rfl _ (.tmp 5) rfl b5 rfl _ _ _ _ (EK.out.bx _ _ _ (.head _)) Try.underlying30 rfl IK.out ?_)
  refine (bytesS_no (EK.out.st _ _ (.head _)) KM.out).mono ?_
  rintro e w5 ⟨rfl, hb5⟩
  have E5 := Lib.hid (EK.out.below hb5)
  clear hb5 EK
  go_wp2_with ((with_reducible show wpList _ _ _ _ _ _); refine wpList_load_row (o := ⟨some 58, _, _, _, _, _⟩) rfl _ (.tmp 5) rfl b5 rfl _ _ _ _ (E5.out.bx _ _ _ (.head _)) Try.underlying30 rfl IK.out ?_)
  refine (mayS (E5.out.st _ _ (.head _))).mono ?_
  rintro e w6 ⟨rfl, hb6⟩
  rw [KM.out]
  have E6 := Lib.hid (E5.out.below hb6)
  clear hb6 E5
  go_wp2_with (first
    | ((with_reducible show wpList _ _ _ _ _ _); refine wpList_load_rowG (o := ⟨some 66, _, _, _, _, _⟩) (by rfl) _ (.tmp 2) rfl w.heap.size rfl _ _ _ _ (E6.out.bx _ _ _ (.tail _ (.head _))) Try.underlying30 rfl IN.out ?_)
    | ((with_reducible show wpList _ _ _ _ _ _); refine wpList_load_rowG (o := ⟨some 67, _, _, _, _, _⟩) (by rfl) _ (.tmp 5) rfl b5 rfl _ _ _ _ (E6.out.bx _ _ _ (.head _)) Try.underlying30 rfl IK.out ?_))
  refine (sameS (E6.out.st _ _ (.tail _ (.head _))) (E6.out.st _ _ (.head _))).mono ?_
  rintro e w7 ⟨rfl, hb7⟩
  rw [KE.out]
  have E7 := Lib.hid (E6.out.below hb7)
  clear hb7 E6
  go_wp2_with fail
  refine (awake19_any _).mono ?_
  rintro e wz ⟨rfl, hbz⟩
  have hb := (E7.out.below hbz).b
  go_wp2_with fail
  go_ret
  exact ⟨rfl, hb⟩
set_option maxRecDepth 100000 in
set_option maxHeartbeats 1600000 in
theorem spoilt_51 (flo gen v0 v1 : Nat) (tr l0 l1 : Int) (h0 h1 : List UInt8) (on : Bool) (m : LMan) (A0 A1 A : Option Addr) (c0 c1 c : Nat) (how : Int) (w : World) (hs : IsSt w (fun _ => True) #[.int .i64 1, .int .i64 tr, .int .u32 (flo : Int), .int .u32 (gen : Int), .int .u32 (v0 : Int), .int .i64 l0, .slice A0 h0.length c0, .int .u32 (v1 : Int), .int .i64 l1, .slice A1 h1.length c1, .bool on, .int .u32 (m.s : Int), .int .u32 (m.v : Int), .int .i64 m.l, .int .i64 m.z, .int .i64 m.p, .slice A m.h.length c] (⟨1, tr, flo, gen, v0, l0, h0, v1, l1, h1, on, m⟩ : LSt)) (hm : ((⟨1, tr, flo, gen, v0, l0, h0, v1, l1, h1, on, m⟩ : LSt)).may = true) (hj : IntKind.u64.wrap how % 6 = 5) :
    Calls Try.prog 5 #[.agg #[.int .i64 1, .int .i64 tr, .int .u32 (flo : Int), .int .u32 (gen : Int), .int .u32 (v0 : Int), .int .i64 l0, .slice A0 h0.length c0, .int .u32 (v1 : Int), .int .i64 l1, .slice A1 h1.length c1, .bool on, .int .u32 (m.s : Int), .int .u32 (m.v : Int), .int .i64 m.l, .int .i64 m.z, .int .i64 m.p, .slice A m.h.length c], .int .i64 how] w fun e w' => e = .returned (.bool true) ∧ Below w.heap.size w w' := by
  have kmay : ((⟨1, tr, flo, gen, 1, 0, [], v1, l1, h1, on, m⟩ : LSt)).may = false := (spoilt_m51 hm).1
  have keq : ((⟨1, tr, flo, gen, v0, l0, h0, v1, l1, h1, on, m⟩ : LSt)).eqb (⟨1, tr, flo, gen, 1, 0, [], v1, l1, h1, on, m⟩ : LSt) = false := (spoilt_m51 hm).2
  have HM := Lib.hid hm
  have KM := Lib.hid kmay
  have KE := Lib.hid keq
  have HLG := Lib.hid (light_of_may hm)
  have hu : 0 ≤ IntKind.u64.wrap how := by rw [IntKind.wrap_u64]; omega
  have HJ : Hid ((IntKind.u64.wrap how).tmod 6 = 5) := Lib.hid (by rw [Int.tmod_eq_emod_of_nonneg hu]; exact hj)
  have HJ2 := Lib.hid hj
  have IN : Hid ((Try.prog.info? 30).map (·.size) = some (#[.int .i64 1, .int .i64 tr, .int .u32 (flo : Int), .int .u32 (gen : Int), .int .u32 (v0 : Int), .int .i64 l0, .slice A0 h0.length c0, .int .u32 (v1 : Int), .int .i64 l1, .slice A1 h1.length c1, .bool on, .int .u32 (m.s : Int), .int .u32 (m.v : Int), .int .i64 m.l, .int .i64 m.z, .int .i64 m.p, .slice A m.h.length c] : Array Value).size) := Lib.hid (by kernel_rfl)
  have IK : Hid ((Try.prog.info? 30).map (·.size) = some (#[.int .i64 1, .int .i64 tr, .int .u32 (flo : Int), .int .u32 (gen : Int), .int .u32 1, .int .i64 0, .slice none 0 0, .int .u32 (v1 : Int), .int .i64 l1, .slice A1 h1.length c1, .bool on, .int .u32 (m.s : Int), .int .u32 (m.v : Int), .int .i64 m.l, .int .i64 m.z, .int .i64 m.p, .slice A m.h.length c] : Array Value).size) := Lib.hid (by kernel_rfl)
  have ON : Hid ((#[.int .i64 1, .int .i64 tr, .int .u32 (flo : Int), .int .u32 (gen : Int), .int .u32 (v0 : Int), .int .i64 l0, .slice A0 h0.length c0, .int .u32 (v1 : Int), .int .i64 l1, .slice A1 h1.length c1, .bool on, .int .u32 (m.s : Int), .int .u32 (m.v : Int), .int .i64 m.l, .int .i64 m.z, .int .i64 m.p, .slice A m.h.length c] : Array Value).all (·.oneCell') = true) := Lib.hid (by simp [Value.oneCell'])
  have e0 := ((Env.start w).addSt hs).alloc #[.int .i64 1, .int .i64 tr, .int .u32 (flo : Int), .int .u32 (gen : Int), .int .u32 (v0 : Int), .int .i64 l0, .slice A0 h0.length c0, .int .u32 (v1 : Int), .int .i64 l1, .slice A1 h1.length c1, .bool on, .int .u32 (m.s : Int), .int .u32 (m.v : Int), .int .i64 m.l, .int .i64 m.z, .int .i64 m.p, .slice A m.h.length c] 30
  have E0 := Lib.hid e0
  clear e0 hs hm hj hu kmay keq
  go_enter Try.func5, Try.ntmps5
  go_wp2_with ((with_reducible show wpList _ _ _ _ _ _); refine wpList_load_row (o := ⟨some 8, _, _, _, _, _⟩) rfl _ (.tmp 2) rfl w.heap.size rfl _ _ _ _ (E0.out.bx _ _ _ (.head _)) Try.underlying30 rfl IN.out ?_)
  generalize w.alloc (.cells #[.int .i64 1, .int .i64 tr, .int .u32 (flo : Int), .int .u32 (gen : Int), .int .u32 (v0 : Int), .int .i64 l0, .slice A0 h0.length c0, .int .u32 (v1 : Int), .int .i64 l1, .slice A1 h1.length c1, .bool on, .int .u32 (m.s : Int), .int .u32 (m.v : Int), .int .i64 m.l, .int .i64 m.z, .int .i64 m.p, .slice A m.h.length c] 30) = w0 at *
  refine (heavyS_no (E0.out.st _ _ (.head _)) HLG.out).mono ?_
  rintro e w1 ⟨rfl, hb1⟩
  have E1 := Lib.hid (E0.out.below hb1)
  clear hb1 E0 HLG
  go_wp2_with ((with_reducible show wpList _ _ _ _ _ _); refine wpList_load_rowG (o := ⟨some 12, _, _, _, _, _⟩) (by rfl) _ (.tmp 2) rfl w.heap.size rfl _ _ _ _ (E1.out.bx _ _ _ (.head _)) Try.underlying30 rfl IN.out ?_)
  refine (mayS (E1.out.st _ _ (.head _))).mono ?_
  rintro e w2 ⟨rfl, hb2⟩
  rw [HM.out]
  have E2 := Lib.hid (E1.out.below hb2)
  clear hb2 E1 HM
  have ba : Below w2.heap.size w2 (w2.alloc (.cells #[.int .i64 1, .int .i64 tr, .int .u32 (flo : Int), .int .u32 (gen : Int), .int .u32 (v0 : Int), .int .i64 l0, .slice A0 h0.length c0, .int .u32 (v1 : Int), .int .i64 l1, .slice A1 h1.length c1, .bool on, .int .u32 (m.s : Int), .int .u32 (m.v : Int), .int .i64 m.l, .int .i64 m.z, .int .i64 m.p, .slice A m.h.length c] 30)) := (Below.refl _ _).alloc (Nat.le_refl _) _
  have HX5 := Lib.hid (heap_alloc_new w2 (.cells #[.int .i64 1, .int .i64 tr, .int .u32 (flo : Int), .int .u32 (gen : Int), .int .u32 (v0 : Int), .int .i64 l0, .slice A0 h0.length c0, .int .u32 (v1 : Int), .int .i64 l1, .slice A1 h1.length c1, .bool on, .int .u32 (m.s : Int), .int .u32 (m.v : Int), .int .i64 m.l, .int .i64 m.z, .int .i64 m.p, .slice A m.h.length c] 30))
  have HB3 := Lib.hid (E2.out.b.trans (ba.mono E2.out.b.size))
  have HG5 := Lib.hid E2.out.b.size
  have S3 := Lib.hid (((E2.out.st _ _ (.head _)).imp (P' := fun b => b < w2.heap.size) (fun b hb _ => hb)).below ba)
  have X3 := Lib.hid ((ba.block _ (Array.getElem?_eq_some_iff.1 (E2.out.bx _ _ _ (.head _))).1).trans (E2.out.bx _ _ _ (.head _)))
  have LT5 := Lib.hid (Array.getElem?_eq_some_iff.1 (E2.out.bx _ _ _ (.head _))).1
  go_upto_region 4 with (first
    | ((with_reducible show wpList _ _ _ _ _ _); refine wpList_load_row (o := ⟨some 17, _, _, _, _, _⟩) rfl _ (.tmp 2) rfl w.heap.size rfl _ _ _ _ (E2.out.bx _ _ _ (.head _)) Try.underlying30 rfl IN.out ?_)
    | ((with_reducible show wpList _ _ _ _ _ _); refine wpList_store_new rfl rfl _ (.tmp 5) (.tmp 17) rfl _ _ #[.int .i64 1, .int .i64 tr, .int .u32 (flo : Int), .int .u32 (gen : Int), .int .u32 (v0 : Int), .int .i64 l0, .slice A0 h0.length c0, .int .u32 (v1 : Int), .int .i64 l1, .slice A1 h1.length c1, .bool on, .int .u32 (m.s : Int), .int .u32 (m.v : Int), .int .i64 m.l, .int .i64 m.z, .int .i64 m.p, .slice A m.h.length c] _ rfl rfl IN.out (by rfl) ON.out ?_))
  clear ba E2 ON
  generalize w2.alloc (.cells #[.int .i64 1, .int .i64 tr, .int .u32 (flo : Int), .int .u32 (gen : Int), .int .u32 (v0 : Int), .int .i64 l0, .slice A0 h0.length c0, .int .u32 (v1 : Int), .int .i64 l1, .slice A1 h1.length c1, .bool on, .int .u32 (m.s : Int), .int .u32 (m.v : Int), .int .i64 m.l, .int .i64 m.z, .int .i64 m.p, .slice A m.h.length c] 30) = w3 at *
  generalize w2.heap.size = b5 at *
  have k0 : w3.cell? ⟨b5, 0, none⟩ = _ := cell_of_row w3 b5 0 _ _ (0, 0) HX5.out
  have f0 := frozen_of_row w3 b5 0 _ _ HX5.out
  have k4 : w3.cell? ⟨b5, 4, none⟩ = _ := cell_of_row w3 b5 4 _ _ (0, 0) HX5.out
  have f4 := frozen_of_row w3 b5 4 _ _ HX5.out
  have k5 : w3.cell? ⟨b5, 5, none⟩ = _ := cell_of_row w3 b5 5 _ _ (0, 0) HX5.out
  have f5 := frozen_of_row w3 b5 5 _ _ HX5.out
  have k6 : w3.cell? ⟨b5, 6, none⟩ = _ := cell_of_row w3 b5 6 _ _ (0, 0) HX5.out
  have f6 := frozen_of_row w3 b5 6 _ _ HX5.out
  go_upto_region 16 with (first | rw [HJ.out] | rw [HJ2.out])
  have ko : ∀ b, b ≠ b5 → (((w3.setCell ⟨b5, 4, none⟩ (.int .u32 1)).setCell ⟨b5, 5, none⟩ (.int .i64 0)).setCell ⟨b5, 6, none⟩ (.slice none 0 0)).heap[b]? = w3.heap[b]? := fun b hb => ((heap_setCell_other _ _ _ _ hb).trans ((heap_setCell_other _ _ _ _ hb).trans (heap_setCell_other _ _ _ _ hb)))
  have hx : (((w3.setCell ⟨b5, 4, none⟩ (.int .u32 1)).setCell ⟨b5, 5, none⟩ (.int .i64 0)).setCell ⟨b5, 6, none⟩ (.slice none 0 0)).heap[b5]? = some (.cells #[.int .i64 1, .int .i64 tr, .int .u32 (flo : Int), .int .u32 (gen : Int), .int .u32 1, .int .i64 0, .slice none 0 0, .int .u32 (v1 : Int), .int .i64 l1, .slice A1 h1.length c1, .bool on, .int .u32 (m.s : Int), .int .u32 (m.v : Int), .int .i64 m.l, .int .i64 m.z, .int .i64 m.p, .slice A m.h.length c] 30 (0, 0)) := (heap_setCell_same _ b5 6 _ _ (.slice none 0 0) (heap_setCell_same _ b5 5 _ _ (.int .i64 0) (heap_setCell_same _ b5 4 _ _ (.int .u32 1) HX5.out)))
  have hst : IsSt (((w3.setCell ⟨b5, 4, none⟩ (.int .u32 1)).setCell ⟨b5, 5, none⟩ (.int .i64 0)).setCell ⟨b5, 6, none⟩ (.slice none 0 0)) (fun _ => True) #[.int .i64 1, .int .i64 tr, .int .u32 (flo : Int), .int .u32 (gen : Int), .int .u32 (v0 : Int), .int .i64 l0, .slice A0 h0.length c0, .int .u32 (v1 : Int), .int .i64 l1, .slice A1 h1.length c1, .bool on, .int .u32 (m.s : Int), .int .u32 (m.v : Int), .int .i64 m.l, .int .i64 m.z, .int .i64 m.p, .slice A m.h.length c] (⟨1, tr, flo, gen, v0, l0, h0, v1, l1, h1, on, m⟩ : LSt) := (S3.out.keep (by simp) fun b hb _ => ko b (by omega)).imp fun _ _ _ => trivial
  obtain ⟨rr0, rr1, rr⟩ := IsSt.rows (K := (⟨1, tr, flo, gen, v0, l0, h0, v1, l1, h1, on, m⟩ : LSt)) (A0 := A0) (c0 := c0) (A1 := A1) (c1 := c1) (A := A) (c := c) S3.out
  have hkt : IsSt (((w3.setCell ⟨b5, 4, none⟩ (.int .u32 1)).setCell ⟨b5, 5, none⟩ (.int .i64 0)).setCell ⟨b5, 6, none⟩ (.slice none 0 0)) (fun _ => True) #[.int .i64 1, .int .i64 tr, .int .u32 (flo : Int), .int .u32 (gen : Int), .int .u32 1, .int .i64 0, .slice none 0 0, .int .u32 (v1 : Int), .int .i64 l1, .slice A1 h1.length c1, .bool on, .int .u32 (m.s : Int), .int .u32 (m.v : Int), .int .i64 m.l, .int .i64 m.z, .int .i64 m.p, .slice A m.h.length c] (⟨1, tr, flo, gen, 1, 0, [], v1, l1, h1, on, m⟩ : LSt) := by
    refine ⟨none, 0, A1, c1, A, c, rfl, ?_, ?_, (rr.keep (by simp) fun b hb _ => ko b (by omega)).imp fun _ _ _ => trivial⟩
    · exact .nil _ _ _
    · exact (rr1.keep (by simp) fun b hb _ => ko b (by omega)).imp fun _ _ _ => trivial
  have en : Env w (((w3.setCell ⟨b5, 4, none⟩ (.int .u32 1)).setCell ⟨b5, 5, none⟩ (.int .i64 0)).setCell ⟨b5, 6, none⟩ (.slice none 0 0)) [(b5, #[.int .i64 1, .int .i64 tr, .int .u32 (flo : Int), .int .u32 (gen : Int), .int .u32 1, .int .i64 0, .slice none 0 0, .int .u32 (v1 : Int), .int .i64 l1, .slice A1 h1.length c1, .bool on, .int .u32 (m.s : Int), .int .u32 (m.v : Int), .int .i64 m.l, .int .i64 m.z, .int .i64 m.p, .slice A m.h.length c], 30), (w.heap.size, #[.int .i64 1, .int .i64 tr, .int .u32 (flo : Int), .int .u32 (gen : Int), .int .u32 (v0 : Int), .int .i64 l0, .slice A0 h0.length c0, .int .u32 (v1 : Int), .int .i64 l1, .slice A1 h1.length c1, .bool on, .int .u32 (m.s : Int), .int .u32 (m.v : Int), .int .i64 m.l, .int .i64 m.z, .int .i64 m.p, .slice A m.h.length c], 30)] [(#[.int .i64 1, .int .i64 tr, .int .u32 (flo : Int), .int .u32 (gen : Int), .int .u32 1, .int .i64 0, .slice none 0 0, .int .u32 (v1 : Int), .int .i64 l1, .slice A1 h1.length c1, .bool on, .int .u32 (m.s : Int), .int .u32 (m.v : Int), .int .i64 m.l, .int .i64 m.z, .int .i64 m.p, .slice A m.h.length c], (⟨1, tr, flo, gen, 1, 0, [], v1, l1, h1, on, m⟩ : LSt)), (#[.int .i64 1, .int .i64 tr, .int .u32 (flo : Int), .int .u32 (gen : Int), .int .u32 (v0 : Int), .int .i64 l0, .slice A0 h0.length c0, .int .u32 (v1 : Int), .int .i64 l1, .slice A1 h1.length c1, .bool on, .int .u32 (m.s : Int), .int .u32 (m.v : Int), .int .i64 m.l, .int .i64 m.z, .int .i64 m.p, .slice A m.h.length c], (⟨1, tr, flo, gen, v0, l0, h0, v1, l1, h1, on, m⟩ : LSt))] [] := by
    refine ⟨(((HB3.out.setCell HG5.out _).setCell HG5.out _).setCell HG5.out _), fun g cs t hg => ?_, fun cs K hm => ?_, fun cs M hm => (by cases hm)⟩
    · rcases List.mem_cons.1 hg with e | hg
      · injection e with e1 e2; injection e2 with e2 e3; subst e1 e2 e3; exact hx
      · rcases List.mem_cons.1 hg with e | hg
        · injection e with e1 e2; injection e2 with e2 e3; subst e1 e2 e3; exact (ko _ (by have := LT5.out; omega)).trans X3.out
        · cases hg
    · rcases List.mem_cons.1 hm with e | hm
      · injection e with e1 e2; subst e1 e2; exact hkt
      · rcases List.mem_cons.1 hm with e | hm
        · injection e with e1 e2; subst e1 e2; exact hst
        · cases hm
  have EK := Lib.hid en
  clear en ko hx hst hkt rr0 rr1 rr k0 f0 k4 f4 k5 f5 k6 f6 HX5 HB3 HG5 S3 X3 LT5
  generalize (((w3.setCell ⟨b5, 4, none⟩ (.int .u32 1)).setCell ⟨b5, 5, none⟩ (.int .i64 0)).setCell ⟨b5, 6, none⟩ (.slice none 0 0)) = w4 at *
  go_wp2_with ((with_reducible show wpList _ _ _ _ _ _); refine wpList_load_row (o := ⟨some 54, _, _, _, _, _⟩) rfl _ (.tmp 5) rfl b5 rfl _ _ _ _ (EK.out.bx _ _ _ (.head _)) Try.underlying30 rfl IK.out ?_)
  refine (bytesS_no (EK.out.st _ _ (.head _)) KM.out).mono ?_
  rintro e w5 ⟨rfl, hb5⟩
  have E5 := Lib.hid (EK.out.below hb5)
  clear hb5 EK
  go_wp2_with ((with_reducible show wpList _ _ _ _ _ _); refine wpList_load_row (o := ⟨some 58, _, _, _, _, _⟩) rfl _ (.tmp 5) rfl b5 rfl _ _ _ _ (E5.out.bx _ _ _ (.head _)) Try.underlying30 rfl IK.out ?_)
  refine (mayS (E5.out.st _ _ (.head _))).mono ?_
  rintro e w6 ⟨rfl, hb6⟩
  rw [KM.out]
  have E6 := Lib.hid (E5.out.below hb6)
  clear hb6 E5
  go_wp2_with (first
    | ((with_reducible show wpList _ _ _ _ _ _); refine wpList_load_rowG (o := ⟨some 66, _, _, _, _, _⟩) (by rfl) _ (.tmp 2) rfl w.heap.size rfl _ _ _ _ (E6.out.bx _ _ _ (.tail _ (.head _))) Try.underlying30 rfl IN.out ?_)
    | ((with_reducible show wpList _ _ _ _ _ _); refine wpList_load_rowG (o := ⟨some 67, _, _, _, _, _⟩) (by rfl) _ (.tmp 5) rfl b5 rfl _ _ _ _ (E6.out.bx _ _ _ (.head _)) Try.underlying30 rfl IK.out ?_))
  refine (sameS (E6.out.st _ _ (.tail _ (.head _))) (E6.out.st _ _ (.head _))).mono ?_
  rintro e w7 ⟨rfl, hb7⟩
  rw [KE.out]
  have E7 := Lib.hid (E6.out.below hb7)
  clear hb7 E6
  go_wp2_with fail
  refine (awake19_any _).mono ?_
  rintro e wz ⟨rfl, hbz⟩
  have hb := (E7.out.below hbz).b
  go_wp2_with fail
  go_ret
  exact ⟨rfl, hb⟩
end Go.Proofs.Ytnbpjajgfpdddaa
