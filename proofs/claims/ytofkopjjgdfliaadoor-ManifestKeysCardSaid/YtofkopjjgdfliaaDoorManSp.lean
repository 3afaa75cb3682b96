/- ManifestSpoilt's walk. -/
import Derived.Test.YtofkopjjgdfliaaDoorManAw
namespace Go.Proofs.YtofkopjjgdfliaaDoor
open Go.RowKit
open Sh
theorem mayM {cs : Array Value} {M : LMan} {w : World} {P : Nat → Prop} (h : IsMan w P cs M) : Calls Tryd.prog 13 #[.agg cs] w fun e w' => e = .returned (.bool M.may) ∧ Below w.heap.size w w' := by
  obtain ⟨A, c, rfl, r⟩ := h
  exact manMay_any _ _ _ _ _ A _ c w
theorem eqbM_refl (M : LMan) : M.eqb M = true := by simp [LMan.eqb]
theorem eqbM_eq {M K : LMan} (h : M.eqb K = true) : M = K := by
  obtain ⟨a1, a2, a3, a4, a5, a6⟩ := M
  obtain ⟨b1, b2, b3, b4, b5, b6⟩ := K
  simp [LMan.eqb] at h
  obtain ⟨rfl, rfl, rfl, rfl, rfl, rfl⟩ := h
  rfl
theorem manSp_m0 {s v : Nat} {l z p : Int} {h : List UInt8} (hm : (⟨s, v, l, z, p, h⟩ : LMan).may = true) : (⟨s, v, 0, z, p, h⟩ : LMan).may = false ∧ (⟨s, v, l, z, p, h⟩ : LMan).eqb (⟨s, v, 0, z, p, h⟩ : LMan) = false := by
  have hk : (⟨s, v, 0, z, p, h⟩ : LMan).may = false := by
    cases hx : (⟨s, v, 0, z, p, h⟩ : LMan).may with
    | false => rfl
    | true =>
      exfalso
      obtain ⟨L, Z, P, e1, e2, e3, h1, h2, h3, h4, h5, h6⟩ := man_bounds hx
      dsimp only at e1 e2 e3
      omega
  refine ⟨hk, ?_⟩
  cases he : (⟨s, v, l, z, p, h⟩ : LMan).eqb (⟨s, v, 0, z, p, h⟩ : LMan) with
  | false => rfl
  | true => rw [eqbM_eq he] at hm; rw [hm] at hk; cases hk
theorem manSp_m1 {s v : Nat} {l z p : Int} {h : List UInt8} (hm : (⟨s, v, l, z, p, h⟩ : LMan).may = true) : (⟨s, v, 513, z, p, h⟩ : LMan).may = false ∧ (⟨s, v, l, z, p, h⟩ : LMan).eqb (⟨s, v, 513, z, p, h⟩ : LMan) = false := by
  have hk : (⟨s, v, 513, z, p, h⟩ : LMan).may = false := by
    cases hx : (⟨s, v, 513, z, p, h⟩ : LMan).may with
    | false => rfl
    | true =>
      exfalso
      obtain ⟨L, Z, P, e1, e2, e3, h1, h2, h3, h4, h5, h6⟩ := man_bounds hx
      dsimp only at e1 e2 e3
      omega
  refine ⟨hk, ?_⟩
  cases he : (⟨s, v, l, z, p, h⟩ : LMan).eqb (⟨s, v, 513, z, p, h⟩ : LMan) with
  | false => rfl
  | true => rw [eqbM_eq he] at hm; rw [hm] at hk; cases hk
theorem manSp_m2 {s v : Nat} {l z p : Int} {h : List UInt8} (hm : (⟨s, v, l, z, p, h⟩ : LMan).may = true) : (⟨s, v, l, 17, p, h⟩ : LMan).may = false ∧ (⟨s, v, l, z, p, h⟩ : LMan).eqb (⟨s, v, l, 17, p, h⟩ : LMan) = false := by
  have hk : (⟨s, v, l, 17, p, h⟩ : LMan).may = false := by
    cases hx : (⟨s, v, l, 17, p, h⟩ : LMan).may with
    | false => rfl
    | true =>
      exfalso
      obtain ⟨L, Z, P, e1, e2, e3, h1, h2, h3, h4, h5, h6⟩ := man_bounds hx
      dsimp only at e1 e2 e3
      omega
  refine ⟨hk, ?_⟩
  cases he : (⟨s, v, l, z, p, h⟩ : LMan).eqb (⟨s, v, l, 17, p, h⟩ : LMan) with
  | false => rfl
  | true => rw [eqbM_eq he] at hm; rw [hm] at hk; cases hk
theorem manSp_m3 {s v : Nat} {l z p : Int} {h : List UInt8} (hm : (⟨s, v, l, z, p, h⟩ : LMan).may = true) : (⟨s, v, l, z, 17, h⟩ : LMan).may = false ∧ (⟨s, v, l, z, p, h⟩ : LMan).eqb (⟨s, v, l, z, 17, h⟩ : LMan) = false := by
  have hk : (⟨s, v, l, z, 17, h⟩ : LMan).may = false := by
    cases hx : (⟨s, v, l, z, 17, h⟩ : LMan).may with
    | false => rfl
    | true =>
      exfalso
      obtain ⟨L, Z, P, e1, e2, e3, h1, h2, h3, h4, h5, h6⟩ := man_bounds hx
      dsimp only at e1 e2 e3
      omega
  refine ⟨hk, ?_⟩
  cases he : (⟨s, v, l, z, p, h⟩ : LMan).eqb (⟨s, v, l, z, 17, h⟩ : LMan) with
  | false => rfl
  | true => rw [eqbM_eq he] at hm; rw [hm] at hk; cases hk
theorem manSp_m4 {s v : Nat} {l z p : Int} {h : List UInt8} (hm : (⟨s, v, l, z, p, h⟩ : LMan).may = true) : (⟨s, v, l, z, p, (h.take 31)⟩ : LMan).may = false ∧ (⟨s, v, l, z, p, h⟩ : LMan).eqb (⟨s, v, l, z, p, (h.take 31)⟩ : LMan) = false := by
  have hk : (⟨s, v, l, z, p, (h.take 31)⟩ : LMan).may = false := by
    cases hx : (⟨s, v, l, z, p, (h.take 31)⟩ : LMan).may with
    | false => rfl
    | true =>
      exfalso
      obtain ⟨L, Z, P, e1, e2, e3, h1, h2, h3, h4, h5, h6⟩ := man_bounds hx
      dsimp only at e1 e2 e3
      have h7 := may_32 hm; simp at h6 h7; omega
  refine ⟨hk, ?_⟩
  cases he : (⟨s, v, l, z, p, h⟩ : LMan).eqb (⟨s, v, l, z, p, (h.take 31)⟩ : LMan) with
  | false => rfl
  | true => rw [eqbM_eq he] at hm; rw [hm] at hk; cases hk
theorem manSp_m5 {s v : Nat} {l z p : Int} {h : List UInt8} (hm : (⟨s, v, l, z, p, h⟩ : LMan).may = true) : (⟨s, v, l, 0, p, h⟩ : LMan).may = false ∧ (⟨s, v, l, z, p, h⟩ : LMan).eqb (⟨s, v, l, 0, p, h⟩ : LMan) = false := by
  have hk : (⟨s, v, l, 0, p, h⟩ : LMan).may = false := by
    cases hx : (⟨s, v, l, 0, p, h⟩ : LMan).may with
    | false => rfl
    | true =>
      exfalso
      obtain ⟨L, Z, P, e1, e2, e3, h1, h2, h3, h4, h5, h6⟩ := man_bounds hx
      dsimp only at e1 e2 e3
      omega
  refine ⟨hk, ?_⟩
  cases he : (⟨s, v, l, z, p, h⟩ : LMan).eqb (⟨s, v, l, 0, p, h⟩ : LMan) with
  | false => rfl
  | true => rw [eqbM_eq he] at hm; rw [hm] at hk; cases hk
set_option maxRecDepth 100000 in
set_option maxHeartbeats 1600000 in
theorem manSp_0 (s v : Nat) (l z p : Int) (A : Option Addr) (n c : Nat) (h : List UInt8) (how : Int) (w : World) (ht : Tab w) (hs : IsMan w (fun _ => True) #[.int .u32 (s : Int), .int .u32 (v : Int), .int .i64 l, .int .i64 z, .int .i64 p, .slice A n c] (⟨s, v, l, z, p, h⟩ : LMan)) (hn : n = 32) (hnc : n ≤ c) (hm : (⟨s, v, l, z, p, h⟩ : LMan).may = true) (hj : IntKind.u64.wrap how % 6 = 0) :
    Calls Tryd.prog 5 #[.agg #[.int .u32 (s : Int), .int .u32 (v : Int), .int .i64 l, .int .i64 z, .int .i64 p, .slice A n c], .int .i64 how] w fun e w' => e = .returned (.bool true) ∧ Below w.heap.size w w' := by
  obtain ⟨km, ke⟩ : (⟨s, v, 0, z, p, h⟩ : LMan).may = false ∧ (⟨s, v, l, z, p, h⟩ : LMan).eqb (⟨s, v, 0, z, p, h⟩ : LMan) = false := manSp_m0 hm
  have hc31 : (31 : Int) ≤ (c : Int) := by omega
  subst hn
  have HM := Lib.hid hm
  have KM := Lib.hid km
  have KE := Lib.hid ke
  have HT := Lib.hid ht
  have hu : 0 ≤ IntKind.u64.wrap how := by rw [IntKind.wrap_u64]; omega
  have HJ : Hid ((IntKind.u64.wrap how).tmod 6 = 0) := Lib.hid (by rw [Int.tmod_eq_emod_of_nonneg hu]; exact hj)
  have HJ2 := Lib.hid hj
  have IN : Hid ((Tryd.prog.info? 25).map (·.size) = some (#[.int .u32 (s : Int), .int .u32 (v : Int), .int .i64 l, .int .i64 z, .int .i64 p, .slice A 32 c] : Array Value).size) := Lib.hid (by kernel_rfl)
  have IK : Hid ((Tryd.prog.info? 25).map (·.size) = some (#[.int .u32 (s : Int), .int .u32 (v : Int), .int .i64 0, .int .i64 z, .int .i64 p, .slice A 32 c] : Array Value).size) := Lib.hid (by kernel_rfl)
  have e0 := ((Env.start w).addMan hs).alloc #[.int .u32 (s : Int), .int .u32 (v : Int), .int .i64 l, .int .i64 z, .int .i64 p, .slice A 32 c] 25
  have E0 := Lib.hid e0
  have k5 := e0.cell (.head _) 5
  clear e0 hs hm hj hu km ke ht hnc
  go_enter Tryd.func5, Tryd.ntmps5
  go_wp2_with ((with_reducible show wpList _ _ _ _ _ _); refine wpList_load_rowG (o := ⟨some 13, _, _, _, _, _⟩) (by rfl) _ (.tmp 2) rfl w.heap.size rfl _ _ _ _ (E0.out.bx _ _ _ (.head _)) Tryd.underlying25 rfl IN.out ?_)
  generalize w.alloc (.cells #[.int .u32 (s : Int), .int .u32 (v : Int), .int .i64 l, .int .i64 z, .int .i64 p, .slice A 32 c] 25) = w0 at *
  refine (mayM (E0.out.mn _ _ (.head _))).mono ?_
  rintro e w2 ⟨rfl, hb2⟩
  rw [HM.out]
  have E2 := Lib.hid (E0.out.below hb2)
  clear hb2 E0 HM k5
  have ba : Below w2.heap.size w2 (w2.alloc (.cells #[.int .u32 (s : Int), .int .u32 (v : Int), .int .i64 l, .int .i64 z, .int .i64 p, .slice A 32 c] 25)) := (Below.refl _ _).alloc (Nat.le_refl _) _
  have HX5 := Lib.hid (heap_alloc_new w2 (.cells #[.int .u32 (s : Int), .int .u32 (v : Int), .int .i64 l, .int .i64 z, .int .i64 p, .slice A 32 c] 25))
  have HB3 := Lib.hid (E2.out.b.trans (ba.mono E2.out.b.size))
  have HG5 := Lib.hid E2.out.b.size
  have S3 := Lib.hid (((E2.out.mn _ _ (.head _)).imp (P' := fun b => b < w2.heap.size) (fun b hb _ => hb)).below ba)
  have X3 := Lib.hid ((ba.block _ (Array.getElem?_eq_some_iff.1 (E2.out.bx _ _ _ (.head _))).1).trans (E2.out.bx _ _ _ (.head _)))
  have LT5 := Lib.hid (Array.getElem?_eq_some_iff.1 (E2.out.bx _ _ _ (.head _))).1
  go_upto_region 4 with (first
    | ((with_reducible show wpList _ _ _ _ _ _); refine wpList_load_row (o := ⟨some 18, _, _, _, _, _⟩) rfl _ (.tmp 2) rfl w.heap.size rfl _ _ _ _ (E2.out.bx _ _ _ (.head _)) Tryd.underlying25 rfl IN.out ?_)
    | ((with_reducible show wpList _ _ _ _ _ _); refine wpList_store_new rfl rfl _ (.tmp 5) (.tmp 18) rfl _ _ #[.int .u32 (s : Int), .int .u32 (v : Int), .int .i64 l, .int .i64 z, .int .i64 p, .slice A 32 c] _ rfl rfl IN.out (by rfl) (by simp [Value.oneCell']) ?_))
  clear ba E2
  generalize w2.alloc (.cells #[.int .u32 (s : Int), .int .u32 (v : Int), .int .i64 l, .int .i64 z, .int .i64 p, .slice A 32 c] 25) = w3 at *
  generalize w2.heap.size = b5 at *
  have kk : w3.cell? ⟨b5, 2, none⟩ = _ := cell_of_row w3 b5 2 _ _ (0, 0) HX5.out
  have ff := frozen_of_row w3 b5 2 _ _ HX5.out
  have k2 : w3.cell? ⟨w.heap.size, 5, none⟩ = _ := cell_of_row w3 w.heap.size 5 _ _ (0, 0) X3.out
  go_upto_region 16 with (first | rw [HJ.out] | rw [HJ2.out])
  have ko : ∀ b, b ≠ b5 → (w3.setCell ⟨b5, 2, none⟩ (.int .i64 0)).heap[b]? = w3.heap[b]? := fun b hb => heap_setCell_other _ _ _ _ hb
  have hx : (w3.setCell ⟨b5, 2, none⟩ (.int .i64 0)).heap[b5]? = some (.cells #[.int .u32 (s : Int), .int .u32 (v : Int), .int .i64 0, .int .i64 z, .int .i64 p, .slice A 32 c] 25 (0, 0)) := heap_setCell_same _ b5 2 _ _ (.int .i64 0) HX5.out
  obtain ⟨A', c', ecs, rr⟩ := S3.out
  have eA : A = A' ∧ c = c' := by
    unfold LMan.cells at ecs
    simp only [Array.mk.injEq, List.cons.injEq, Value.slice.injEq, and_true, true_and] at ecs
    exact ⟨ecs.1, ecs.2.2⟩
  obtain ⟨rfl, rfl⟩ := eA
  have h32 : h.length = 32 := by
    unfold LMan.cells at ecs
    simp only [Array.mk.injEq, List.cons.injEq, Value.slice.injEq, and_true, true_and] at ecs
    exact ecs.symm
  have hst : IsMan (w3.setCell ⟨b5, 2, none⟩ (.int .i64 0)) (fun _ => True) #[.int .u32 (s : Int), .int .u32 (v : Int), .int .i64 l, .int .i64 z, .int .i64 p, .slice A 32 c] (⟨s, v, l, z, p, h⟩ : LMan) := ⟨A, c, by simp only [LMan.cells, h32], (rr.keep (by simp) fun b hb _ => ko b (by omega)).imp fun _ _ _ => trivial⟩
  have hkt : IsMan (w3.setCell ⟨b5, 2, none⟩ (.int .i64 0)) (fun _ => True) #[.int .u32 (s : Int), .int .u32 (v : Int), .int .i64 0, .int .i64 z, .int .i64 p, .slice A 32 c] (⟨s, v, 0, z, p, h⟩ : LMan) := by
    refine ⟨A, c, by simp [LMan.cells, h32], ?_⟩
    exact (rr.keep (by simp) fun b hb _ => ko b (by omega)).imp fun _ _ _ => trivial
  have en : Env w (w3.setCell ⟨b5, 2, none⟩ (.int .i64 0)) [(b5, #[.int .u32 (s : Int), .int .u32 (v : Int), .int .i64 0, .int .i64 z, .int .i64 p, .slice A 32 c], 25), (w.heap.size, #[.int .u32 (s : Int), .int .u32 (v : Int), .int .i64 l, .int .i64 z, .int .i64 p, .slice A 32 c], 25)] [] [(#[.int .u32 (s : Int), .int .u32 (v : Int), .int .i64 0, .int .i64 z, .int .i64 p, .slice A 32 c], (⟨s, v, 0, z, p, h⟩ : LMan)), (#[.int .u32 (s : Int), .int .u32 (v : Int), .int .i64 l, .int .i64 z, .int .i64 p, .slice A 32 c], (⟨s, v, l, z, p, h⟩ : LMan))] := by
    refine ⟨HB3.out.setCell HG5.out _, fun g cs t hg => ?_, fun cs M hm => (by cases hm), fun cs K hm => ?_⟩
    · rcases List.mem_cons.1 hg with e | hg
      · injection e with e1 e2; injection e2 with e2 e3; subst e1 e2 e3; exact hx
      · rcases List.mem_cons.1 hg with e | hg
        · injection e with e1 e2; injection e2 with e2 e3; subst e1 e2 e3; exact (ko _ (by have := LT5.out; omega)).trans X3.out
        · cases hg
    · rcases List.mem_cons.1 hm with e | hm
      · injection e with e1 e2; subst e1 e2; exact hkt
      · rcases List.mem_cons.1 hm with e | hm
        · injection e with e1 e2; subst e1 e2; exact hst
        · cases hm
  have EK := Lib.hid en
  clear en ko hx hst hkt rr kk ff k2 HX5 HB3 HG5 S3 X3 LT5 ecs h32
  generalize (w3.setCell ⟨b5, 2, none⟩ (.int .i64 0)) = w4 at *
  go_wp2_with ((with_reducible show wpList _ _ _ _ _ _); refine wpList_load_row (o := ⟨some 42, _, _, _, _, _⟩) rfl _ (.tmp 5) rfl b5 rfl _ _ _ _ (EK.out.bx _ _ _ (.head _)) Tryd.underlying25 rfl IK.out ?_)
  refine (plainM_no (EK.out.mn _ _ (.head _)) KM.out).mono ?_
  rintro e w5 ⟨rfl, hb5⟩
  have E5 := Lib.hid (EK.out.below hb5)
  clear hb5 EK
  go_wp2_with ((with_reducible show wpList _ _ _ _ _ _); refine wpList_load_row (o := ⟨some 46, _, _, _, _, _⟩) rfl _ (.tmp 5) rfl b5 rfl _ _ _ _ (E5.out.bx _ _ _ (.head _)) Tryd.underlying25 rfl IK.out ?_)
  refine (mayM (E5.out.mn _ _ (.head _))).mono ?_
  rintro e w6 ⟨rfl, hb6⟩
  rw [KM.out]
  have E6 := Lib.hid (E5.out.below hb6)
  clear hb6 E5
  go_wp2_with (first
    | ((with_reducible show wpList _ _ _ _ _ _); refine wpList_load_rowG (o := ⟨some 54, _, _, _, _, _⟩) (by rfl) _ (.tmp 2) rfl w.heap.size rfl _ _ _ _ (E6.out.bx _ _ _ (.tail _ (.head _))) Tryd.underlying25 rfl IN.out ?_)
    | ((with_reducible show wpList _ _ _ _ _ _); refine wpList_load_rowG (o := ⟨some 55, _, _, _, _, _⟩) (by rfl) _ (.tmp 5) rfl b5 rfl _ _ _ _ (E6.out.bx _ _ _ (.head _)) Tryd.underlying25 rfl IK.out ?_))
  refine (sameM (E6.out.mn _ _ (.tail _ (.head _))) (E6.out.mn _ _ (.head _))).mono ?_
  rintro e w7 ⟨rfl, hb7⟩
  rw [KE.out]
  have E7 := Lib.hid (E6.out.below hb7)
  clear hb7 E6
  go_wp2_with (first
    | ((with_reducible show wpList _ _ _ _ _ _); refine wpList_load_rowG (o := ⟨some 60, _, _, _, _, _⟩) (by rfl) _ (.tmp 2) rfl w.heap.size rfl _ _ _ _ (E7.out.bx _ _ _ (.tail _ (.head _))) Tryd.underlying25 rfl IN.out ?_)
    | ((with_reducible show wpList _ _ _ _ _ _); refine wpList_load_rowG (o := ⟨some 61, _, _, _, _, _⟩) (by rfl) _ (.tmp 2) rfl w.heap.size rfl _ _ _ _ (E7.out.bx _ _ _ (.tail _ (.head _))) Tryd.underlying25 rfl IN.out ?_))
  refine (sameM (E7.out.mn _ _ (.tail _ (.head _))) (E7.out.mn _ _ (.tail _ (.head _)))).mono ?_
  rintro e w8 ⟨rfl, hb8⟩
  rw [eqbM_refl]
  have E8 := Lib.hid (E7.out.below hb8)
  clear hb8 E7
  go_wp2_with fail
  refine (awake14_any _ (HT.out.below E8.out.b HT.out.1)).mono ?_
  rintro e wz ⟨rfl, hbz⟩
  have hb := (E8.out.below hbz).b
  go_wp2_with fail
  go_ret
  exact ⟨rfl, hb⟩
set_option maxRecDepth 100000 in
set_option maxHeartbeats 1600000 in
theorem manSp_1 (s v : Nat) (l z p : Int) (A : Option Addr) (n c : Nat) (h : List UInt8) (how : Int) (w : World) (ht : Tab w) (hs : IsMan w (fun _ => True) #[.int .u32 (s : Int), .int .u32 (v : Int), .int .i64 l, .int .i64 z, .int .i64 p, .slice A n c] (⟨s, v, l, z, p, h⟩ : LMan)) (hn : n = 32) (hnc : n ≤ c) (hm : (⟨s, v, l, z, p, h⟩ : LMan).may = true) (hj : IntKind.u64.wrap how % 6 = 1) :
    Calls Tryd.prog 5 #[.agg #[.int .u32 (s : Int), .int .u32 (v : Int), .int .i64 l, .int .i64 z, .int .i64 p, .slice A n c], .int .i64 how] w fun e w' => e = .returned (.bool true) ∧ Below w.heap.size w w' := by
  obtain ⟨km, ke⟩ : (⟨s, v, 513, z, p, h⟩ : LMan).may = false ∧ (⟨s, v, l, z, p, h⟩ : LMan).eqb (⟨s, v, 513, z, p, h⟩ : LMan) = false := manSp_m1 hm
  have hc31 : (31 : Int) ≤ (c : Int) := by omega
  subst hn
  have HM := Lib.hid hm
  have KM := Lib.hid km
  have KE := Lib.hid ke
  have HT := Lib.hid ht
  have hu : 0 ≤ IntKind.u64.wrap how := by rw [IntKind.wrap_u64]; omega
  have HJ : Hid ((IntKind.u64.wrap how).tmod 6 = 1) := Lib.hid (by rw [Int.tmod_eq_emod_of_nonneg hu]; exact hj)
  have HJ2 := Lib.hid hj
  have IN : Hid ((Tryd.prog.info? 25).map (·.size) = some (#[.int .u32 (s : Int), .int .u32 (v : Int), .int .i64 l, .int .i64 z, .int .i64 p, .slice A 32 c] : Array Value).size) := Lib.hid (by kernel_rfl)
  have IK : Hid ((Tryd.prog.info? 25).map (·.size) = some (#[.int .u32 (s : Int), .int .u32 (v : Int), .int .i64 513, .int .i64 z, .int .i64 p, .slice A 32 c] : Array Value).size) := Lib.hid (by kernel_rfl)
  have e0 := ((Env.start w).addMan hs).alloc #[.int .u32 (s : Int), .int .u32 (v : Int), .int .i64 l, .int .i64 z, .int .i64 p, .slice A 32 c] 25
  have E0 := Lib.hid e0
  have k5 := e0.cell (.head _) 5
  clear e0 hs hm hj hu km ke ht hnc
  go_enter Tryd.func5, Tryd.ntmps5
  go_wp2_with ((with_reducible show wpList _ _ _ _ _ _); refine wpList_load_rowG (o := ⟨some 13, _, _, _, _, _⟩) (by rfl) _ (.tmp 2) rfl w.heap.size rfl _ _ _ _ (E0.out.bx _ _ _ (.head _)) Tryd.underlying25 rfl IN.out ?_)
  generalize w.alloc (.cells #[.int .u32 (s : Int), .int .u32 (v : Int), .int .i64 l, .int .i64 z, .int .i64 p, .slice A 32 c] 25) = w0 at *
  refine (mayM (E0.out.mn _ _ (.head _))).mono ?_
  rintro e w2 ⟨rfl, hb2⟩
  rw [HM.out]
  have E2 := Lib.hid (E0.out.below hb2)
  clear hb2 E0 HM k5
  have ba : Below w2.heap.size w2 (w2.alloc (.cells #[.int .u32 (s : Int), .int .u32 (v : Int), .int .i64 l, .int .i64 z, .int .i64 p, .slice A 32 c] 25)) := (Below.refl _ _).alloc (Nat.le_refl _) _
  have HX5 := Lib.hid (heap_alloc_new w2 (.cells #[.int .u32 (s : Int), .int .u32 (v : Int), .int .i64 l, .int .i64 z, .int .i64 p, .slice A 32 c] 25))
  have HB3 := Lib.hid (E2.out.b.trans (ba.mono E2.out.b.size))
  have HG5 := Lib.hid E2.out.b.size
  have S3 := Lib.hid (((E2.out.mn _ _ (.head _)).imp (P' := fun b => b < w2.heap.size) (fun b hb _ => hb)).below ba)
  have X3 := Lib.hid ((ba.block _ (Array.getElem?_eq_some_iff.1 (E2.out.bx _ _ _ (.head _))).1).trans (E2.out.bx _ _ _ (.head _)))
  have LT5 := Lib.hid (Array.getElem?_eq_some_iff.1 (E2.out.bx _ _ _ (.head _))).1
  go_upto_region 4 with (first
    | ((with_reducible show wpList _ _ _ _ _ _); refine wpList_load_row (o := ⟨some 18, _, _, _, _, _⟩) rfl _ (.tmp 2) rfl w.heap.size rfl _ _ _ _ (E2.out.bx _ _ _ (.head _)) Tryd.underlying25 rfl IN.out ?_)
    | ((with_reducible show wpList _ _ _ _ _ _); refine wpList_store_new rfl rfl _ (.tmp 5) (.tmp 18) rfl _ _ #[.int .u32 (s : Int), .int .u32 (v : Int), .int .i64 l, .int .i64 z, .int .i64 p, .slice A 32 c] _ rfl rfl IN.out (by rfl) (by simp [Value.oneCell']) ?_))
  clear ba E2
  generalize w2.alloc (.cells #[.int .u32 (s : Int), .int .u32 (v : Int), .int .i64 l, .int .i64 z, .int .i64 p, .slice A 32 c] 25) = w3 at *
  generalize w2.heap.size = b5 at *
  have kk : w3.cell? ⟨b5, 2, none⟩ = _ := cell_of_row w3 b5 2 _ _ (0, 0) HX5.out
  have ff := frozen_of_row w3 b5 2 _ _ HX5.out
  have k2 : w3.cell? ⟨w.heap.size, 5, none⟩ = _ := cell_of_row w3 w.heap.size 5 _ _ (0, 0) X3.out
  go_upto_region 16 with (first | rw [HJ.out] | rw [HJ2.out])
  have ko : ∀ b, b ≠ b5 → (w3.setCell ⟨b5, 2, none⟩ (.int .i64 513)).heap[b]? = w3.heap[b]? := fun b hb => heap_setCell_other _ _ _ _ hb
  have hx : (w3.setCell ⟨b5, 2, none⟩ (.int .i64 513)).heap[b5]? = some (.cells #[.int .u32 (s : Int), .int .u32 (v : Int), .int .i64 513, .int .i64 z, .int .i64 p, .slice A 32 c] 25 (0, 0)) := heap_setCell_same _ b5 2 _ _ (.int .i64 513) HX5.out
  obtain ⟨A', c', ecs, rr⟩ := S3.out
  have eA : A = A' ∧ c = c' := by
    unfold LMan.cells at ecs
    simp only [Array.mk.injEq, List.cons.injEq, Value.slice.injEq, and_true, true_and] at ecs
    exact ⟨ecs.1, ecs.2.2⟩
  obtain ⟨rfl, rfl⟩ := eA
  have h32 : h.length = 32 := by
    unfold LMan.cells at ecs
    simp only [Array.mk.injEq, List.cons.injEq, Value.slice.injEq, and_true, true_and] at ecs
    exact ecs.symm
  have hst : IsMan (w3.setCell ⟨b5, 2, none⟩ (.int .i64 513)) (fun _ => True) #[.int .u32 (s : Int), .int .u32 (v : Int), .int .i64 l, .int .i64 z, .int .i64 p, .slice A 32 c] (⟨s, v, l, z, p, h⟩ : LMan) := ⟨A, c, by simp only [LMan.cells, h32], (rr.keep (by simp) fun b hb _ => ko b (by omega)).imp fun _ _ _ => trivial⟩
  have hkt : IsMan (w3.setCell ⟨b5, 2, none⟩ (.int .i64 513)) (fun _ => True) #[.int .u32 (s : Int), .int .u32 (v : Int), .int .i64 513, .int .i64 z, .int .i64 p, .slice A 32 c] (⟨s, v, 513, z, p, h⟩ : LMan) := by
    refine ⟨A, c, by simp [LMan.cells, h32], ?_⟩
    exact (rr.keep (by simp) fun b hb _ => ko b (by omega)).imp fun _ _ _ => trivial
  have en : Env w (w3.setCell ⟨b5, 2, none⟩ (.int .i64 513)) [(b5, #[.int .u32 (s : Int), .int .u32 (v : Int), .int .i64 513, .int .i64 z, .int .i64 p, .slice A 32 c], 25), (w.heap.size, #[.int .u32 (s : Int), .int .u32 (v : Int), .int .i64 l, .int .i64 z, .int .i64 p, .slice A 32 c], 25)] [] [(#[.int .u32 (s : Int), .int .u32 (v : Int), .int .i64 513, .int .i64 z, .int .i64 p, .slice A 32 c], (⟨s, v, 513, z, p, h⟩ : LMan)), (#[.int .u32 (s : Int), .int .u32 (v : Int), .int .i64 l, .int .i64 z, .int .i64 p, .slice A 32 c], (⟨s, v, l, z, p, h⟩ : LMan))] := by
    refine ⟨HB3.out.setCell HG5.out _, fun g cs t hg => ?_, fun cs M hm => (by cases hm), fun cs K hm => ?_⟩
    · rcases List.mem_cons.1 hg with e | hg
      · injection e with e1 e2; injection e2 with e2 e3; subst e1 e2 e3; exact hx
      · rcases List.mem_cons.1 hg with e | hg
        · injection e with e1 e2; injection e2 with e2 e3; subst e1 e2 e3; exact (ko _ (by have := LT5.out; omega)).trans X3.out
        · cases hg
    · rcases List.mem_cons.1 hm with e | hm
      · injection e with e1 e2; subst e1 e2; exact hkt
      · rcases List.mem_cons.1 hm with e | hm
        · injection e with e1 e2; subst e1 e2; exact hst
        · cases hm
  have EK := Lib.hid en
  clear en ko hx hst hkt rr kk ff k2 HX5 HB3 HG5 S3 X3 LT5 ecs h32
  generalize (w3.setCell ⟨b5, 2, none⟩ (.int .i64 513)) = w4 at *
  go_wp2_with ((with_reducible show wpList _ _ _ _ _ _); refine wpList_load_row (o := ⟨some 42, _, _, _, _, _⟩) rfl _ (.tmp 5) rfl b5 rfl _ _ _ _ (EK.out.bx _ _ _ (.head _)) Tryd.underlying25 rfl IK.out ?_)
  refine (plainM_no (EK.out.mn _ _ (.head _)) KM.out).mono ?_
  rintro e w5 ⟨rfl, hb5⟩
  have E5 := Lib.hid (EK.out.below hb5)
  clear hb5 EK
  go_wp2_with ((with_reducible show wpList _ _ _ _ _ _); refine wpList_load_row (o := ⟨some 46, _, _, _, _, _⟩) rfl _ (.tmp 5) rfl b5 rfl _ _ _ _ (E5.out.bx _ _ _ (.head _)) Tryd.underlying25 rfl IK.out ?_)
  refine (mayM (E5.out.mn _ _ (.head _))).mono ?_
  rintro e w6 ⟨rfl, hb6⟩
  rw [KM.out]
  have E6 := Lib.hid (E5.out.below hb6)
  clear hb6 E5
  go_wp2_with (first
    | ((with_reducible show wpList _ _ _ _ _ _); refine wpList_load_rowG (o := ⟨some 54, _, _, _, _, _⟩) (by rfl) _ (.tmp 2) rfl w.heap.size rfl _ _ _ _ (E6.out.bx _ _ _ (.tail _ (.head _))) Tryd.underlying25 rfl IN.out ?_)
    | ((with_reducible show wpList _ _ _ _ _ _); refine wpList_load_rowG (o := ⟨some 55, _, _, _, _, _⟩) (by rfl) _ (.tmp 5) rfl b5 rfl _ _ _ _ (E6.out.bx _ _ _ (.head _)) Tryd.underlying25 rfl IK.out ?_))
  refine (sameM (E6.out.mn _ _ (.tail _ (.head _))) (E6.out.mn _ _ (.head _))).mono ?_
  rintro e w7 ⟨rfl, hb7⟩
  rw [KE.out]
  have E7 := Lib.hid (E6.out.below hb7)
  clear hb7 E6
  go_wp2_with (first
    | ((with_reducible show wpList _ _ _ _ _ _); refine wpList_load_rowG (o := ⟨some 60, _, _, _, _, _⟩) (by rfl) _ (.tmp 2) rfl w.heap.size rfl _ _ _ _ (E7.out.bx _ _ _ (.tail _ (.head _))) Tryd.underlying25 rfl IN.out ?_)
    | ((with_reducible show wpList _ _ _ _ _ _); refine wpList_load_rowG (o := ⟨some 61, _, _, _, _, _⟩) (by rfl) _ (.tmp 2) rfl w.heap.size rfl _ _ _ _ (E7.out.bx _ _ _ (.tail _ (.head _))) Tryd.underlying25 rfl IN.out ?_))
  refine (sameM (E7.out.mn _ _ (.tail _ (.head _))) (E7.out.mn _ _ (.tail _ (.head _)))).mono ?_
  rintro e w8 ⟨rfl, hb8⟩
  rw [eqbM_refl]
  have E8 := Lib.hid (E7.out.below hb8)
  clear hb8 E7
  go_wp2_with fail
  refine (awake14_any _ (HT.out.below E8.out.b HT.out.1)).mono ?_
  rintro e wz ⟨rfl, hbz⟩
  have hb := (E8.out.below hbz).b
  go_wp2_with fail
  go_ret
  exact ⟨rfl, hb⟩
set_option maxRecDepth 100000 in
set_option maxHeartbeats 1600000 in
theorem manSp_2 (s v : Nat) (l z p : Int) (A : Option Addr) (n c : Nat) (h : List UInt8) (how : Int) (w : World) (ht : Tab w) (hs : IsMan w (fun _ => True) #[.int .u32 (s : Int), .int .u32 (v : Int), .int .i64 l, .int .i64 z, .int .i64 p, .slice A n c] (⟨s, v, l, z, p, h⟩ : LMan)) (hn : n = 32) (hnc : n ≤ c) (hm : (⟨s, v, l, z, p, h⟩ : LMan).may = true) (hj : IntKind.u64.wrap how % 6 = 2) :
    Calls Tryd.prog 5 #[.agg #[.int .u32 (s : Int), .int .u32 (v : Int), .int .i64 l, .int .i64 z, .int .i64 p, .slice A n c], .int .i64 how] w fun e w' => e = .returned (.bool true) ∧ Below w.heap.size w w' := by
  obtain ⟨km, ke⟩ : (⟨s, v, l, 17, p, h⟩ : LMan).may = false ∧ (⟨s, v, l, z, p, h⟩ : LMan).eqb (⟨s, v, l, 17, p, h⟩ : LMan) = false := manSp_m2 hm
  have hc31 : (31 : Int) ≤ (c : Int) := by omega
  subst hn
  have HM := Lib.hid hm
  have KM := Lib.hid km
  have KE := Lib.hid ke
  have HT := Lib.hid ht
  have hu : 0 ≤ IntKind.u64.wrap how := by rw [IntKind.wrap_u64]; omega
  have HJ : Hid ((IntKind.u64.wrap how).tmod 6 = 2) := Lib.hid (by rw [Int.tmod_eq_emod_of_nonneg hu]; exact hj)
  have HJ2 := Lib.hid hj
  have IN : Hid ((Tryd.prog.info? 25).map (·.size) = some (#[.int .u32 (s : Int), .int .u32 (v : Int), .int .i64 l, .int .i64 z, .int .i64 p, .slice A 32 c] : Array Value).size) := Lib.hid (by kernel_rfl)
  have IK : Hid ((Tryd.prog.info? 25).map (·.size) = some (#[.int .u32 (s : Int), .int .u32 (v : Int), .int .i64 l, .int .i64 17, .int .i64 p, .slice A 32 c] : Array Value).size) := Lib.hid (by kernel_rfl)
  have e0 := ((Env.start w).addMan hs).alloc #[.int .u32 (s : Int), .int .u32 (v : Int), .int .i64 l, .int .i64 z, .int .i64 p, .slice A 32 c] 25
  have E0 := Lib.hid e0
  have k5 := e0.cell (.head _) 5
  clear e0 hs hm hj hu km ke ht hnc
  go_enter Tryd.func5, Tryd.ntmps5
  go_wp2_with ((with_reducible show wpList _ _ _ _ _ _); refine wpList_load_rowG (o := ⟨some 13, _, _, _, _, _⟩) (by rfl) _ (.tmp 2) rfl w.heap.size rfl _ _ _ _ (E0.out.bx _ _ _ (.head _)) Tryd.underlying25 rfl IN.out ?_)
  generalize w.alloc (.cells #[.int .u32 (s : Int), .int .u32 (v : Int), .int .i64 l, .int .i64 z, .int .i64 p, .slice A 32 c] 25) = w0 at *
  refine (mayM (E0.out.mn _ _ (.head _))).mono ?_
  rintro e w2 ⟨rfl, hb2⟩
  rw [HM.out]
  have E2 := Lib.hid (E0.out.below hb2)
  clear hb2 E0 HM k5
  have ba : Below w2.heap.size w2 (w2.alloc (.cells #[.int .u32 (s : Int), .int .u32 (v : Int), .int .i64 l, .int .i64 z, .int .i64 p, .slice A 32 c] 25)) := (Below.refl _ _).alloc (Nat.le_refl _) _
  have HX5 := Lib.hid (heap_alloc_new w2 (.cells #[.int .u32 (s : Int), .int .u32 (v : Int), .int .i64 l, .int .i64 z, .int .i64 p, .slice A 32 c] 25))
  have HB3 := Lib.hid (E2.out.b.trans (ba.mono E2.out.b.size))
  have HG5 := Lib.hid E2.out.b.size
  have S3 := Lib.hid (((E2.out.mn _ _ (.head _)).imp (P' := fun b => b < w2.heap.size) (fun b hb _ => hb)).below ba)
  have X3 := Lib.hid ((ba.block _ (Array.getElem?_eq_some_iff.1 (E2.out.bx _ _ _ (.head _))).1).trans (E2.out.bx _ _ _ (.head _)))
  have LT5 := Lib.hid (Array.getElem?_eq_some_iff.1 (E2.out.bx _ _ _ (.head _))).1
  go_upto_region 4 with (first
    | ((with_reducible show wpList _ _ _ _ _ _); refine wpList_load_row (o := ⟨some 18, _, _, _, _, _⟩) rfl _ (.tmp 2) rfl w.heap.size rfl _ _ _ _ (E2.out.bx _ _ _ (.head _)) Tryd.underlying25 rfl IN.out ?_)
    | ((with_reducible show wpList _ _ _ _ _ _); refine wpList_store_new rfl rfl _ (.tmp 5) (.tmp 18) rfl _ _ #[.int .u32 (s : Int), .int .u32 (v : Int), .int .i64 l, .int .i64 z, .int .i64 p, .slice A 32 c] _ rfl rfl IN.out (by rfl) (by simp [Value.oneCell']) ?_))
  clear ba E2
  generalize w2.alloc (.cells #[.int .u32 (s : Int), .int .u32 (v : Int), .int .i64 l, .int .i64 z, .int .i64 p, .slice A 32 c] 25) = w3 at *
  generalize w2.heap.size = b5 at *
  have kk : w3.cell? ⟨b5, 3, none⟩ = _ := cell_of_row w3 b5 3 _ _ (0, 0) HX5.out
  have ff := frozen_of_row w3 b5 3 _ _ HX5.out
  have k2 : w3.cell? ⟨w.heap.size, 5, none⟩ = _ := cell_of_row w3 w.heap.size 5 _ _ (0, 0) X3.out
  go_upto_region 16 with (first | rw [HJ.out] | rw [HJ2.out])
  have ko : ∀ b, b ≠ b5 → (w3.setCell ⟨b5, 3, none⟩ (.int .i64 17)).heap[b]? = w3.heap[b]? := fun b hb => heap_setCell_other _ _ _ _ hb
  have hx : (w3.setCell ⟨b5, 3, none⟩ (.int .i64 17)).heap[b5]? = some (.cells #[.int .u32 (s : Int), .int .u32 (v : Int), .int .i64 l, .int .i64 17, .int .i64 p, .slice A 32 c] 25 (0, 0)) := heap_setCell_same _ b5 3 _ _ (.int .i64 17) HX5.out
  obtain ⟨A', c', ecs, rr⟩ := S3.out
  have eA : A = A' ∧ c = c' := by
    unfold LMan.cells at ecs
    simp only [Array.mk.injEq, List.cons.injEq, Value.slice.injEq, and_true, true_and] at ecs
    exact ⟨ecs.1, ecs.2.2⟩
  obtain ⟨rfl, rfl⟩ := eA
  have h32 : h.length = 32 := by
    unfold LMan.cells at ecs
    simp only [Array.mk.injEq, List.cons.injEq, Value.slice.injEq, and_true, true_and] at ecs
    exact ecs.symm
  have hst : IsMan (w3.setCell ⟨b5, 3, none⟩ (.int .i64 17)) (fun _ => True) #[.int .u32 (s : Int), .int .u32 (v : Int), .int .i64 l, .int .i64 z, .int .i64 p, .slice A 32 c] (⟨s, v, l, z, p, h⟩ : LMan) := ⟨A, c, by simp only [LMan.cells, h32], (rr.keep (by simp) fun b hb _ => ko b (by omega)).imp fun _ _ _ => trivial⟩
  have hkt : IsMan (w3.setCell ⟨b5, 3, none⟩ (.int .i64 17)) (fun _ => True) #[.int .u32 (s : Int), .int .u32 (v : Int), .int .i64 l, .int .i64 17, .int .i64 p, .slice A 32 c] (⟨s, v, l, 17, p, h⟩ : LMan) := by
    refine ⟨A, c, by simp [LMan.cells, h32], ?_⟩
    exact (rr.keep (by simp) fun b hb _ => ko b (by omega)).imp fun _ _ _ => trivial
  have en : Env w (w3.setCell ⟨b5, 3, none⟩ (.int .i64 17)) [(b5, #[.int .u32 (s : Int), .int .u32 (v : Int), .int .i64 l, .int .i64 17, .int .i64 p, .slice A 32 c], 25), (w.heap.size, #[.int .u32 (s : Int), .int .u32 (v : Int), .int .i64 l, .int .i64 z, .int .i64 p, .slice A 32 c], 25)] [] [(#[.int .u32 (s : Int), .int .u32 (v : Int), .int .i64 l, .int .i64 17, .int .i64 p, .slice A 32 c], (⟨s, v, l, 17, p, h⟩ : LMan)), (#[.int .u32 (s : Int), .int .u32 (v : Int), .int .i64 l, .int .i64 z, .int .i64 p, .slice A 32 c], (⟨s, v, l, z, p, h⟩ : LMan))] := by
    refine ⟨HB3.out.setCell HG5.out _, fun g cs t hg => ?_, fun cs M hm => (by cases hm), fun cs K hm => ?_⟩
    · rcases List.mem_cons.1 hg with e | hg
      · injection e with e1 e2; injection e2 with e2 e3; subst e1 e2 e3; exact hx
      · rcases List.mem_cons.1 hg with e | hg
        · injection e with e1 e2; injection e2 with e2 e3; subst e1 e2 e3; exact (ko _ (by have := LT5.out; omega)).trans X3.out
        · cases hg
    · rcases List.mem_cons.1 hm with e | hm
      · injection e with e1 e2; subst e1 e2; exact hkt
      · rcases List.mem_cons.1 hm with e | hm
        · injection e with e1 e2; subst e1 e2; exact hst
        · cases hm
  have EK := Lib.hid en
  clear en ko hx hst hkt rr kk ff k2 HX5 HB3 HG5 S3 X3 LT5 ecs h32
  generalize (w3.setCell ⟨b5, 3, none⟩ (.int .i64 17)) = w4 at *
  go_wp2_with ((with_reducible show wpList _ _ _ _ _ _); refine wpList_load_row (o := ⟨some 42, _, _, _, _, _⟩) rfl _ (.tmp 5) rfl b5 rfl _ _ _ _ (EK.out.bx _ _ _ (.head _)) Tryd.underlying25 rfl IK.out ?_)
  refine (plainM_no (EK.out.mn _ _ (.head _)) KM.out).mono ?_
  rintro e w5 ⟨rfl, hb5⟩
  have E5 := Lib.hid (EK.out.below hb5)
  clear hb5 EK
  go_wp2_with ((with_reducible show wpList _ _ _ _ _ _); refine wpList_load_row (o := ⟨some 46, _, _, _, _, _⟩) rfl _ (.tmp 5) rfl b5 rfl _ _ _ _ (E5.out.bx _ _ _ (.head _)) Tryd.underlying25 rfl IK.out ?_)
  refine (mayM (E5.out.mn _ _ (.head _))).mono ?_
  rintro e w6 ⟨rfl, hb6⟩
  rw [KM.out]
  have E6 := Lib.hid (E5.out.below hb6)
  clear hb6 E5
  go_wp2_with (first
    | ((with_reducible show wpList _ _ _ _ _ _); refine wpList_load_rowG (o := ⟨some 54, _, _, _, _, _⟩) (by rfl) _ (.tmp 2) rfl w.heap.size rfl _ _ _ _ (E6.out.bx _ _ _ (.tail _ (.head _))) Tryd.underlying25 rfl IN.out ?_)
    | ((with_reducible show wpList _ _ _ _ _ _); refine wpList_load_rowG (o := ⟨some 55, _, _, _, _, _⟩) (by rfl) _ (.tmp 5) rfl b5 rfl _ _ _ _ (E6.out.bx _ _ _ (.head _)) Tryd.underlying25 rfl IK.out ?_))
  refine (sameM (E6.out.mn _ _ (.tail _ (.head _))) (E6.out.mn _ _ (.head _))).mono ?_
  rintro e w7 ⟨rfl, hb7⟩
  rw [KE.out]
  have E7 := Lib.hid (E6.out.below hb7)
  clear hb7 E6
  go_wp2_with (first
    | ((with_reducible show wpList _ _ _ _ _ _); refine wpList_load_rowG (o := ⟨some 60, _, _, _, _, _⟩) (by rfl) _ (.tmp 2) rfl w.heap.size rfl _ _ _ _ (E7.out.bx _ _ _ (.tail _ (.head _))) Tryd.underlying25 rfl IN.out ?_)
    | ((with_reducible show wpList _ _ _ _ _ _); refine wpList_load_rowG (o := ⟨some 61, _, _, _, _, _⟩) (by rfl) _ (.tmp 2) rfl w.heap.size rfl _ _ _ _ (E7.out.bx _ _ _ (.tail _ (.head _))) Tryd.underlying25 rfl IN.out ?_))
  refine (sameM (E7.out.mn _ _ (.tail _ (.head _))) (E7.out.mn _ _ (.tail _ (.head _)))).mono ?_
  rintro e w8 ⟨rfl, hb8⟩
  rw [eqbM_refl]
  have E8 := Lib.hid (E7.out.below hb8)
  clear hb8 E7
  go_wp2_with fail
  refine (awake14_any _ (HT.out.below E8.out.b HT.out.1)).mono ?_
  rintro e wz ⟨rfl, hbz⟩
  have hb := (E8.out.below hbz).b
  go_wp2_with fail
  go_ret
  exact ⟨rfl, hb⟩
set_option maxRecDepth 100000 in
set_option maxHeartbeats 1600000 in
theorem manSp_3 (s v : Nat) (l z p : Int) (A : Option Addr) (n c : Nat) (h : List UInt8) (how : Int) (w : World) (ht : Tab w) (hs : IsMan w (fun _ => True) #[.int .u32 (s : Int), .int .u32 (v : Int), .int .i64 l, .int .i64 z, .int .i64 p, .slice A n c] (⟨s, v, l, z, p, h⟩ : LMan)) (hn : n = 32) (hnc : n ≤ c) (hm : (⟨s, v, l, z, p, h⟩ : LMan).may = true) (hj : IntKind.u64.wrap how % 6 = 3) :
    Calls Tryd.prog 5 #[.agg #[.int .u32 (s : Int), .int .u32 (v : Int), .int .i64 l, .int .i64 z, .int .i64 p, .slice A n c], .int .i64 how] w fun e w' => e = .returned (.bool true) ∧ Below w.heap.size w w' := by
  obtain ⟨km, ke⟩ : (⟨s, v, l, z, 17, h⟩ : LMan).may = false ∧ (⟨s, v, l, z, p, h⟩ : LMan).eqb (⟨s, v, l, z, 17, h⟩ : LMan) = false := manSp_m3 hm
  have hc31 : (31 : Int) ≤ (c : Int) := by omega
  subst hn
  have HM := Lib.hid hm
  have KM := Lib.hid km
  have KE := Lib.hid ke
  have HT := Lib.hid ht
  have hu : 0 ≤ IntKind.u64.wrap how := by rw [IntKind.wrap_u64]; omega
  have HJ : Hid ((IntKind.u64.wrap how).tmod 6 = 3) := Lib.hid (by rw [Int.tmod_eq_emod_of_nonneg hu]; exact hj)
  have HJ2 := Lib.hid hj
  have IN : Hid ((Tryd.prog.info? 25).map (·.size) = some (#[.int .u32 (s : Int), .int .u32 (v : Int), .int .i64 l, .int .i64 z, .int .i64 p, .slice A 32 c] : Array Value).size) := Lib.hid (by kernel_rfl)
  have IK : Hid ((Tryd.prog.info? 25).map (·.size) = some (#[.int .u32 (s : Int), .int .u32 (v : Int), .int .i64 l, .int .i64 z, .int .i64 17, .slice A 32 c] : Array Value).size) := Lib.hid (by kernel_rfl)
  have e0 := ((Env.start w).addMan hs).alloc #[.int .u32 (s : Int), .int .u32 (v : Int), .int .i64 l, .int .i64 z, .int .i64 p, .slice A 32 c] 25
  have E0 := Lib.hid e0
  have k5 := e0.cell (.head _) 5
  clear e0 hs hm hj hu km ke ht hnc
  go_enter Tryd.func5, Tryd.ntmps5
  go_wp2_with ((with_reducible show wpList _ _ _ _ _ _); refine wpList_load_rowG (o := ⟨some 13, _, _, _, _, _⟩) (by rfl) _ (.tmp 2) rfl w.heap.size rfl _ _ _ _ (E0.out.bx _ _ _ (.head _)) Tryd.underlying25 rfl IN.out ?_)
  generalize w.alloc (.cells #[.int .u32 (s : Int), .int .u32 (v : Int), .int .i64 l, .int .i64 z, .int .i64 p, .slice A 32 c] 25) = w0 at *
  refine (mayM (E0.out.mn _ _ (.head _))).mono ?_
  rintro e w2 ⟨rfl, hb2⟩
  rw [HM.out]
  have E2 := Lib.hid (E0.out.below hb2)
  clear hb2 E0 HM k5
  have ba : Below w2.heap.size w2 (w2.alloc (.cells #[.int .u32 (s : Int), .int .u32 (v : Int), .int .i64 l, .int .i64 z, .int .i64 p, .slice A 32 c] 25)) := (Below.refl _ _).alloc (Nat.le_refl _) _
  have HX5 := Lib.hid (heap_alloc_new w2 (.cells #[.int .u32 (s : Int), .int .u32 (v : Int), .int .i64 l, .int .i64 z, .int .i64 p, .slice A 32 c] 25))
  have HB3 := Lib.hid (E2.out.b.trans (ba.mono E2.out.b.size))
  have HG5 := Lib.hid E2.out.b.size
  have S3 := Lib.hid (((E2.out.mn _ _ (.head _)).imp (P' := fun b => b < w2.heap.size) (fun b hb _ => hb)).below ba)
  have X3 := Lib.hid ((ba.block _ (Array.getElem?_eq_some_iff.1 (E2.out.bx _ _ _ (.head _))).1).trans (E2.out.bx _ _ _ (.head _)))
  have LT5 := Lib.hid (Array.getElem?_eq_some_iff.1 (E2.out.bx _ _ _ (.head _))).1
  go_upto_region 4 with (first
    | ((with_reducible show wpList _ _ _ _ _ _); refine wpList_load_row (o := ⟨some 18, _, _, _, _, _⟩) rfl _ (.tmp 2) rfl w.heap.size rfl _ _ _ _ (E2.out.bx _ _ _ (.head _)) Tryd.underlying25 rfl IN.out ?_)
    | ((with_reducible show wpList _ _ _ _ _ _); refine wpList_store_new rfl rfl _ (.tmp 5) (.tmp 18) rfl _ _ #[.int .u32 (s : Int), .int .u32 (v : Int), .int .i64 l, .int .i64 z, .int .i64 p, .slice A 32 c] _ rfl rfl IN.out (by rfl) (by simp [Value.oneCell']) ?_))
  clear ba E2
  generalize w2.alloc (.cells #[.int .u32 (s : Int), .int .u32 (v : Int), .int .i64 l, .int .i64 z, .int .i64 p, .slice A 32 c] 25) = w3 at *
  generalize w2.heap.size = b5 at *
  have kk : w3.cell? ⟨b5, 4, none⟩ = _ := cell_of_row w3 b5 4 _ _ (0, 0) HX5.out
  have ff := frozen_of_row w3 b5 4 _ _ HX5.out
  have k2 : w3.cell? ⟨w.heap.size, 5, none⟩ = _ := cell_of_row w3 w.heap.size 5 _ _ (0, 0) X3.out
  go_upto_region 16 with (first | rw [HJ.out] | rw [HJ2.out])
  have ko : ∀ b, b ≠ b5 → (w3.setCell ⟨b5, 4, none⟩ (.int .i64 17)).heap[b]? = w3.heap[b]? := fun b hb => heap_setCell_other _ _ _ _ hb
  have hx : (w3.setCell ⟨b5, 4, none⟩ (.int .i64 17)).heap[b5]? = some (.cells #[.int .u32 (s : Int), .int .u32 (v : Int), .int .i64 l, .int .i64 z, .int .i64 17, .slice A 32 c] 25 (0, 0)) := heap_setCell_same _ b5 4 _ _ (.int .i64 17) HX5.out
  obtain ⟨A', c', ecs, rr⟩ := S3.out
  have eA : A = A' ∧ c = c' := by
    unfold LMan.cells at ecs
    simp only [Array.mk.injEq, List.cons.injEq, Value.slice.injEq, and_true, true_and] at ecs
    exact ⟨ecs.1, ecs.2.2⟩
  obtain ⟨rfl, rfl⟩ := eA
  have h32 : h.length = 32 := by
    unfold LMan.cells at ecs
    simp only [Array.mk.injEq, List.cons.injEq, Value.slice.injEq, and_true, true_and] at ecs
    exact ecs.symm
  have hst : IsMan (w3.setCell ⟨b5, 4, none⟩ (.int .i64 17)) (fun _ => True) #[.int .u32 (s : Int), .int .u32 (v : Int), .int .i64 l, .int .i64 z, .int .i64 p, .slice A 32 c] (⟨s, v, l, z, p, h⟩ : LMan) := ⟨A, c, by simp only [LMan.cells, h32], (rr.keep (by simp) fun b hb _ => ko b (by omega)).imp fun _ _ _ => trivial⟩
  have hkt : IsMan (w3.setCell ⟨b5, 4, none⟩ (.int .i64 17)) (fun _ => True) #[.int .u32 (s : Int), .int .u32 (v : Int), .int .i64 l, .int .i64 z, .int .i64 17, .slice A 32 c] (⟨s, v, l, z, 17, h⟩ : LMan) := by
    refine ⟨A, c, by simp [LMan.cells, h32], ?_⟩
    exact (rr.keep (by simp) fun b hb _ => ko b (by omega)).imp fun _ _ _ => trivial
  have en : Env w (w3.setCell ⟨b5, 4, none⟩ (.int .i64 17)) [(b5, #[.int .u32 (s : Int), .int .u32 (v : Int), .int .i64 l, .int .i64 z, .int .i64 17, .slice A 32 c], 25), (w.heap.size, #[.int .u32 (s : Int), .int .u32 (v : Int), .int .i64 l, .int .i64 z, .int .i64 p, .slice A 32 c], 25)] [] [(#[.int .u32 (s : Int), .int .u32 (v : Int), .int .i64 l, .int .i64 z, .int .i64 17, .slice A 32 c], (⟨s, v, l, z, 17, h⟩ : LMan)), (#[.int .u32 (s : Int), .int .u32 (v : Int), .int .i64 l, .int .i64 z, .int .i64 p, .slice A 32 c], (⟨s, v, l, z, p, h⟩ : LMan))] := by
    refine ⟨HB3.out.setCell HG5.out _, fun g cs t hg => ?_, fun cs M hm => (by cases hm), fun cs K hm => ?_⟩
    · rcases List.mem_cons.1 hg with e | hg
      · injection e with e1 e2; injection e2 with e2 e3; subst e1 e2 e3; exact hx
      · rcases List.mem_cons.1 hg with e | hg
        · injection e with e1 e2; injection e2 with e2 e3; subst e1 e2 e3; exact (ko _ (by have := LT5.out; omega)).trans X3.out
        · cases hg
    · rcases List.mem_cons.1 hm with e | hm
      · injection e with e1 e2; subst e1 e2; exact hkt
      · rcases List.mem_cons.1 hm with e | hm
        · injection e with e1 e2; subst e1 e2; exact hst
        · cases hm
  have EK := Lib.hid en
  clear en ko hx hst hkt rr kk ff k2 HX5 HB3 HG5 S3 X3 LT5 ecs h32
  generalize (w3.setCell ⟨b5, 4, none⟩ (.int .i64 17)) = w4 at *
  go_wp2_with ((with_reducible show wpList _ _ _ _ _ _); refine wpList_load_row (o := ⟨some 42, _, _, _, _, _⟩) rfl _ (.tmp 5) rfl b5 rfl _ _ _ _ (EK.out.bx _ _ _ (.head _)) Tryd.underlying25 rfl IK.out ?_)
  refine (plainM_no (EK.out.mn _ _ (.head _)) KM.out).mono ?_
  rintro e w5 ⟨rfl, hb5⟩
  have E5 := Lib.hid (EK.out.below hb5)
  clear hb5 EK
  go_wp2_with ((with_reducible show wpList _ _ _ _ _ _); refine wpList_load_row (o := ⟨some 46, _, _, _, _, _⟩) rfl _ (.tmp 5) rfl b5 rfl _ _ _ _ (E5.out.bx _ _ _ (.head _)) Tryd.underlying25 rfl IK.out ?_)
  refine (mayM (E5.out.mn _ _ (.head _))).mono ?_
  rintro e w6 ⟨rfl, hb6⟩
  rw [KM.out]
  have E6 := Lib.hid (E5.out.below hb6)
  clear hb6 E5
  go_wp2_with (first
    | ((with_reducible show wpList _ _ _ _ _ _); refine wpList_load_rowG (o := ⟨some 54, _, _, _, _, _⟩) (by rfl) _ (.tmp 2) rfl w.heap.size rfl _ _ _ _ (E6.out.bx _ _ _ (.tail _ (.head _))) Tryd.underlying25 rfl IN.out ?_)
    | ((with_reducible show wpList _ _ _ _ _ _); refine wpList_load_rowG (o := ⟨some 55, _, _, _, _, _⟩) (by rfl) _ (.tmp 5) rfl b5 rfl _ _ _ _ (E6.out.bx _ _ _ (.head _)) Tryd.underlying25 rfl IK.out ?_))
  refine (sameM (E6.out.mn _ _ (.tail _ (.head _))) (E6.out.mn _ _ (.head _))).mono ?_
  rintro e w7 ⟨rfl, hb7⟩
  rw [KE.out]
  have E7 := Lib.hid (E6.out.below hb7)
  clear hb7 E6
  go_wp2_with (first
    | ((with_reducible show wpList _ _ _ _ _ _); refine wpList_load_rowG (o := ⟨some 60, _, _, _, _, _⟩) (by rfl) _ (.tmp 2) rfl w.heap.size rfl _ _ _ _ (E7.out.bx _ _ _ (.tail _ (.head _))) Tryd.underlying25 rfl IN.out ?_)
    | ((with_reducible show wpList _ _ _ _ _ _); refine wpList_load_rowG (o := ⟨some 61, _, _, _, _, _⟩) (by rfl) _ (.tmp 2) rfl w.heap.size rfl _ _ _ _ (E7.out.bx _ _ _ (.tail _ (.head _))) Tryd.underlying25 rfl IN.out ?_))
  refine (sameM (E7.out.mn _ _ (.tail _ (.head _))) (E7.out.mn _ _ (.tail _ (.head _)))).mono ?_
  rintro e w8 ⟨rfl, hb8⟩
  rw [eqbM_refl]
  have E8 := Lib.hid (E7.out.below hb8)
  clear hb8 E7
  go_wp2_with fail
  refine (awake14_any _ (HT.out.below E8.out.b HT.out.1)).mono ?_
  rintro e wz ⟨rfl, hbz⟩
  have hb := (E8.out.below hbz).b
  go_wp2_with fail
  go_ret
  exact ⟨rfl, hb⟩
set_option maxRecDepth 100000 in
set_option maxHeartbeats 1600000 in
theorem manSp_4 (s v : Nat) (l z p : Int) (A : Option Addr) (n c : Nat) (h : List UInt8) (how : Int) (w : World) (ht : Tab w) (hs : IsMan w (fun _ => True) #[.int .u32 (s : Int), .int .u32 (v : Int), .int .i64 l, .int .i64 z, .int .i64 p, .slice A n c] (⟨s, v, l, z, p, h⟩ : LMan)) (hn : n = 32) (hnc : n ≤ c) (hm : (⟨s, v, l, z, p, h⟩ : LMan).may = true) (hj : IntKind.u64.wrap how % 6 = 4) :
    Calls Tryd.prog 5 #[.agg #[.int .u32 (s : Int), .int .u32 (v : Int), .int .i64 l, .int .i64 z, .int .i64 p, .slice A n c], .int .i64 how] w fun e w' => e = .returned (.bool true) ∧ Below w.heap.size w w' := by
  obtain ⟨km, ke⟩ : (⟨s, v, l, z, p, (h.take 31)⟩ : LMan).may = false ∧ (⟨s, v, l, z, p, h⟩ : LMan).eqb (⟨s, v, l, z, p, (h.take 31)⟩ : LMan) = false := manSp_m4 hm
  have hc31 : (31 : Int) ≤ (c : Int) := by omega
  subst hn
  have HM := Lib.hid hm
  have KM := Lib.hid km
  have KE := Lib.hid ke
  have HT := Lib.hid ht
  have hu : 0 ≤ IntKind.u64.wrap how := by rw [IntKind.wrap_u64]; omega
  have HJ : Hid ((IntKind.u64.wrap how).tmod 6 = 4) := Lib.hid (by rw [Int.tmod_eq_emod_of_nonneg hu]; exact hj)
  have HJ2 := Lib.hid hj
  have IN : Hid ((Tryd.prog.info? 25).map (·.size) = some (#[.int .u32 (s : Int), .int .u32 (v : Int), .int .i64 l, .int .i64 z, .int .i64 p, .slice A 32 c] : Array Value).size) := Lib.hid (by kernel_rfl)
  have IK : Hid ((Tryd.prog.info? 25).map (·.size) = some (#[.int .u32 (s : Int), .int .u32 (v : Int), .int .i64 l, .int .i64 z, .int .i64 p, .slice A 31 c] : Array Value).size) := Lib.hid (by kernel_rfl)
  have e0 := ((Env.start w).addMan hs).alloc #[.int .u32 (s : Int), .int .u32 (v : Int), .int .i64 l, .int .i64 z, .int .i64 p, .slice A 32 c] 25
  have E0 := Lib.hid e0
  have k5 := e0.cell (.head _) 5
  clear e0 hs hm hj hu km ke ht hnc
  go_enter Tryd.func5, Tryd.ntmps5
  go_wp2_with ((with_reducible show wpList _ _ _ _ _ _); refine wpList_load_rowG (o := ⟨some 13, _, _, _, _, _⟩) (by rfl) _ (.tmp 2) rfl w.heap.size rfl _ _ _ _ (E0.out.bx _ _ _ (.head _)) Tryd.underlying25 rfl IN.out ?_)
  generalize w.alloc (.cells #[.int .u32 (s : Int), .int .u32 (v : Int), .int .i64 l, .int .i64 z, .int .i64 p, .slice A 32 c] 25) = w0 at *
  refine (mayM (E0.out.mn _ _ (.head _))).mono ?_
  rintro e w2 ⟨rfl, hb2⟩
  rw [HM.out]
  have E2 := Lib.hid (E0.out.below hb2)
  clear hb2 E0 HM k5
  have ba : Below w2.heap.size w2 (w2.alloc (.cells #[.int .u32 (s : Int), .int .u32 (v : Int), .int .i64 l, .int .i64 z, .int .i64 p, .slice A 32 c] 25)) := (Below.refl _ _).alloc (Nat.le_refl _) _
  have HX5 := Lib.hid (heap_alloc_new w2 (.cells #[.int .u32 (s : Int), .int .u32 (v : Int), .int .i64 l, .int .i64 z, .int .i64 p, .slice A 32 c] 25))
  have HB3 := Lib.hid (E2.out.b.trans (ba.mono E2.out.b.size))
  have HG5 := Lib.hid E2.out.b.size
  have S3 := Lib.hid (((E2.out.mn _ _ (.head _)).imp (P' := fun b => b < w2.heap.size) (fun b hb _ => hb)).below ba)
  have X3 := Lib.hid ((ba.block _ (Array.getElem?_eq_some_iff.1 (E2.out.bx _ _ _ (.head _))).1).trans (E2.out.bx _ _ _ (.head _)))
  have LT5 := Lib.hid (Array.getElem?_eq_some_iff.1 (E2.out.bx _ _ _ (.head _))).1
  go_upto_region 4 with (first
    | ((with_reducible show wpList _ _ _ _ _ _); refine wpList_load_row (o := ⟨some 18, _, _, _, _, _⟩) rfl _ (.tmp 2) rfl w.heap.size rfl _ _ _ _ (E2.out.bx _ _ _ (.head _)) Tryd.underlying25 rfl IN.out ?_)
    | ((with_reducible show wpList _ _ _ _ _ _); refine wpList_store_new rfl rfl _ (.tmp 5) (.tmp 18) rfl _ _ #[.int .u32 (s : Int), .int .u32 (v : Int), .int .i64 l, .int .i64 z, .int .i64 p, .slice A 32 c] _ rfl rfl IN.out (by rfl) (by simp [Value.oneCell']) ?_))
  clear ba E2
  generalize w2.alloc (.cells #[.int .u32 (s : Int), .int .u32 (v : Int), .int .i64 l, .int .i64 z, .int .i64 p, .slice A 32 c] 25) = w3 at *
  generalize w2.heap.size = b5 at *
  have kk : w3.cell? ⟨b5, 5, none⟩ = _ := cell_of_row w3 b5 5 _ _ (0, 0) HX5.out
  have ff := frozen_of_row w3 b5 5 _ _ HX5.out
  have k2 : w3.cell? ⟨w.heap.size, 5, none⟩ = _ := cell_of_row w3 w.heap.size 5 _ _ (0, 0) X3.out
  go_upto_region 16 with (first | rw [HJ.out] | rw [HJ2.out])
  have ko : ∀ b, b ≠ b5 → (w3.setCell ⟨b5, 5, none⟩ (.slice A 31 c)).heap[b]? = w3.heap[b]? := fun b hb => heap_setCell_other _ _ _ _ hb
  have hx : (w3.setCell ⟨b5, 5, none⟩ (.slice A 31 c)).heap[b5]? = some (.cells #[.int .u32 (s : Int), .int .u32 (v : Int), .int .i64 l, .int .i64 z, .int .i64 p, .slice A 31 c] 25 (0, 0)) := heap_setCell_same _ b5 5 _ _ (.slice A 31 c) HX5.out
  obtain ⟨A', c', ecs, rr⟩ := S3.out
  have eA : A = A' ∧ c = c' := by
    unfold LMan.cells at ecs
    simp only [Array.mk.injEq, List.cons.injEq, Value.slice.injEq, and_true, true_and] at ecs
    exact ⟨ecs.1, ecs.2.2⟩
  obtain ⟨rfl, rfl⟩ := eA
  have h32 : h.length = 32 := by
    unfold LMan.cells at ecs
    simp only [Array.mk.injEq, List.cons.injEq, Value.slice.injEq, and_true, true_and] at ecs
    exact ecs.symm
  have hst : IsMan (w3.setCell ⟨b5, 5, none⟩ (.slice A 31 c)) (fun _ => True) #[.int .u32 (s : Int), .int .u32 (v : Int), .int .i64 l, .int .i64 z, .int .i64 p, .slice A 32 c] (⟨s, v, l, z, p, h⟩ : LMan) := ⟨A, c, by simp only [LMan.cells, h32], (rr.keep (by simp) fun b hb _ => ko b (by omega)).imp fun _ _ _ => trivial⟩
  have hkt : IsMan (w3.setCell ⟨b5, 5, none⟩ (.slice A 31 c)) (fun _ => True) #[.int .u32 (s : Int), .int .u32 (v : Int), .int .i64 l, .int .i64 z, .int .i64 p, .slice A 31 c] (⟨s, v, l, z, p, (h.take 31)⟩ : LMan) := by
    refine ⟨A, c, by simp [LMan.cells, h32], ?_⟩
    have r2 := ((rr.keep (w' := (w3.setCell ⟨b5, 5, none⟩ (.slice A 31 c))) (by simp) fun b hb _ => ko b (by omega)).imp (P' := fun _ => True) fun _ _ _ => trivial)
    refine ⟨by rw [bv_length], fun _ => ?_⟩
    obtain ⟨b, o, e, hlt, h1, hc⟩ := r2.2 (by show 0 < h.length; omega)
    refine ⟨b, o, e, hlt, h1, fun j u hu => hc j u ?_⟩
    have hu2 : (bv (h.take 31))[j]? = some u := hu
    rw [← bv_take] at hu2
    by_cases hj : j < 31
    · rwa [List.getElem?_take_of_lt hj] at hu2
    · rw [List.getElem?_eq_none (by simp; omega)] at hu2; cases hu2
  have en : Env w (w3.setCell ⟨b5, 5, none⟩ (.slice A 31 c)) [(b5, #[.int .u32 (s : Int), .int .u32 (v : Int), .int .i64 l, .int .i64 z, .int .i64 p, .slice A 31 c], 25), (w.heap.size, #[.int .u32 (s : Int), .int .u32 (v : Int), .int .i64 l, .int .i64 z, .int .i64 p, .slice A 32 c], 25)] [] [(#[.int .u32 (s : Int), .int .u32 (v : Int), .int .i64 l, .int .i64 z, .int .i64 p, .slice A 31 c], (⟨s, v, l, z, p, (h.take 31)⟩ : LMan)), (#[.int .u32 (s : Int), .int .u32 (v : Int), .int .i64 l, .int .i64 z, .int .i64 p, .slice A 32 c], (⟨s, v, l, z, p, h⟩ : LMan))] := by
    refine ⟨HB3.out.setCell HG5.out _, fun g cs t hg => ?_, fun cs M hm => (by cases hm), fun cs K hm => ?_⟩
    · rcases List.mem_cons.1 hg with e | hg
      · injection e with e1 e2; injection e2 with e2 e3; subst e1 e2 e3; exact hx
      · rcases List.mem_cons.1 hg with e | hg
        · injection e with e1 e2; injection e2 with e2 e3; subst e1 e2 e3; exact (ko _ (by have := LT5.out; omega)).trans X3.out
        · cases hg
    · rcases List.mem_cons.1 hm with e | hm
      · injection e with e1 e2; subst e1 e2; exact hkt
      · rcases List.mem_cons.1 hm with e | hm
        · injection e with e1 e2; subst e1 e2; exact hst
        · cases hm
  have EK := Lib.hid en
  clear en ko hx hst hkt rr kk ff k2 HX5 HB3 HG5 S3 X3 LT5 ecs h32
  generalize (w3.setCell ⟨b5, 5, none⟩ (.slice A 31 c)) = w4 at *
  go_wp2_with ((with_reducible show wpList _ _ _ _ _ _); refine wpList_load_row (o := ⟨some 42, _, _, _, _, _⟩) rfl _ (.tmp 5) rfl b5 rfl _ _ _ _ (EK.out.bx _ _ _ (.head _)) Tryd.underlying25 rfl IK.out ?_)
  refine (plainM_no (EK.out.mn _ _ (.head _)) KM.out).mono ?_
  rintro e w5 ⟨rfl, hb5⟩
  have E5 := Lib.hid (EK.out.below hb5)
  clear hb5 EK
  go_wp2_with ((with_reducible show wpList _ _ _ _ _ _); refine wpList_load_row (o := ⟨some 46, _, _, _, _, _⟩) rfl _ (.tmp 5) rfl b5 rfl _ _ _ _ (E5.out.bx _ _ _ (.head _)) Tryd.underlying25 rfl IK.out ?_)
  refine (mayM (E5.out.mn _ _ (.head _))).mono ?_
  rintro e w6 ⟨rfl, hb6⟩
  rw [KM.out]
  have E6 := Lib.hid (E5.out.below hb6)
  clear hb6 E5
  go_wp2_with (first
    | ((with_reducible show wpList _ _ _ _ _ _); refine wpList_load_rowG (o := ⟨some 54, _, _, _, _, _⟩) (by rfl) _ (.tmp 2) rfl w.heap.size rfl _ _ _ _ (E6.out.bx _ _ _ (.tail _ (.head _))) Tryd.underlying25 rfl IN.out ?_)
    | ((with_reducible show wpList _ _ _ _ _ _); refine wpList_load_rowG (o := ⟨some 55, _, _, _, _, _⟩) (by rfl) _ (.tmp 5) rfl b5 rfl _ _ _ _ (E6.out.bx _ _ _ (.head _)) Tryd.underlying25 rfl IK.out ?_))
  refine (sameM (E6.out.mn _ _ (.tail _ (.head _))) (E6.out.mn _ _ (.head _))).mono ?_
  rintro e w7 ⟨rfl, hb7⟩
  rw [KE.out]
  have E7 := Lib.hid (E6.out.below hb7)
  clear hb7 E6
  go_wp2_with (first
    | ((with_reducible show wpList _ _ _ _ _ _); refine wpList_load_rowG (o := ⟨some 60, _, _, _, _, _⟩) (by rfl) _ (.tmp 2) rfl w.heap.size rfl _ _ _ _ (E7.out.bx _ _ _ (.tail _ (.head _))) Tryd.underlying25 rfl IN.out ?_)
    | ((with_reducible show wpList _ _ _ _ _ _); refine wpList_load_rowG (o := ⟨some 61, _, _, _, _, _⟩) (by rfl) _ (.tmp 2) rfl w.heap.size rfl _ _ _ _ (E7.out.bx _ _ _ (.tail _ (.head _))) Tryd.underlying25 rfl IN.out ?_))
  refine (sameM (E7.out.mn _ _ (.tail _ (.head _))) (E7.out.mn _ _ (.tail _ (.head _)))).mono ?_
  rintro e w8 ⟨rfl, hb8⟩
  rw [eqbM_refl]
  have E8 := Lib.hid (E7.out.below hb8)
  clear hb8 E7
  go_wp2_with fail
  refine (awake14_any _ (HT.out.below E8.out.b HT.out.1)).mono ?_
  rintro e wz ⟨rfl, hbz⟩
  have hb := (E8.out.below hbz).b
  go_wp2_with fail
  go_ret
  exact ⟨rfl, hb⟩
set_option maxRecDepth 100000 in
set_option maxHeartbeats 1600000 in
theorem manSp_5 (s v : Nat) (l z p : Int) (A : Option Addr) (n c : Nat) (h : List UInt8) (how : Int) (w : World) (ht : Tab w) (hs : IsMan w (fun _ => True) #[.int .u32 (s : Int), .int .u32 (v : Int), .int .i64 l, .int .i64 z, .int .i64 p, .slice A n c] (⟨s, v, l, z, p, h⟩ : LMan)) (hn : n = 32) (hnc : n ≤ c) (hm : (⟨s, v, l, z, p, h⟩ : LMan).may = true) (hj : IntKind.u64.wrap how % 6 = 5) :
    Calls Tryd.prog 5 #[.agg #[.int .u32 (s : Int), .int .u32 (v : Int), .int .i64 l, .int .i64 z, .int .i64 p, .slice A n c], .int .i64 how] w fun e w' => e = .returned (.bool true) ∧ Below w.heap.size w w' := by
  obtain ⟨km, ke⟩ : (⟨s, v, l, 0, p, h⟩ : LMan).may = false ∧ (⟨s, v, l, z, p, h⟩ : LMan).eqb (⟨s, v, l, 0, p, h⟩ : LMan) = false := manSp_m5 hm
  have hc31 : (31 : Int) ≤ (c : Int) := by omega
  subst hn
  have HM := Lib.hid hm
  have KM := Lib.hid km
  have KE := Lib.hid ke
  have HT := Lib.hid ht
  have hu : 0 ≤ IntKind.u64.wrap how := by rw [IntKind.wrap_u64]; omega
  have HJ : Hid ((IntKind.u64.wrap how).tmod 6 = 5) := Lib.hid (by rw [Int.tmod_eq_emod_of_nonneg hu]; exact hj)
  have HJ2 := Lib.hid hj
  have IN : Hid ((Tryd.prog.info? 25).map (·.size) = some (#[.int .u32 (s : Int), .int .u32 (v : Int), .int .i64 l, .int .i64 z, .int .i64 p, .slice A 32 c] : Array Value).size) := Lib.hid (by kernel_rfl)
  have IK : Hid ((Tryd.prog.info? 25).map (·.size) = some (#[.int .u32 (s : Int), .int .u32 (v : Int), .int .i64 l, .int .i64 0, .int .i64 p, .slice A 32 c] : Array Value).size) := Lib.hid (by kernel_rfl)
  have e0 := ((Env.start w).addMan hs).alloc #[.int .u32 (s : Int), .int .u32 (v : Int), .int .i64 l, .int .i64 z, .int .i64 p, .slice A 32 c] 25
  have E0 := Lib.hid e0
  have k5 := e0.cell (.head _) 5
  clear e0 hs hm hj hu km ke ht hnc
  go_enter Tryd.func5, Tryd.ntmps5
  go_wp2_with ((with_reducible show wpList _ _ _ _ _ _); refine wpList_load_rowG (o := ⟨some 13, _, _, _, _, _⟩) (by rfl) _ (.tmp 2) rfl w.heap.size rfl _ _ _ _ (E0.out.bx _ _ _ (.head _)) Tryd.underlying25 rfl IN.out ?_)
  generalize w.alloc (.cells #[.int .u32 (s : Int), .int .u32 (v : Int), .int .i64 l, .int .i64 z, .int .i64 p, .slice A 32 c] 25) = w0 at *
  refine (mayM (E0.out.mn _ _ (.head _))).mono ?_
  rintro e w2 ⟨rfl, hb2⟩
  rw [HM.out]
  have E2 := Lib.hid (E0.out.below hb2)
  clear hb2 E0 HM k5
  have ba : Below w2.heap.size w2 (w2.alloc (.cells #[.int .u32 (s : Int), .int .u32 (v : Int), .int .i64 l, .int .i64 z, .int .i64 p, .slice A 32 c] 25)) := (Below.refl _ _).alloc (Nat.le_refl _) _
  have HX5 := Lib.hid (heap_alloc_new w2 (.cells #[.int .u32 (s : Int), .int .u32 (v : Int), .int .i64 l, .int .i64 z, .int .i64 p, .slice A 32 c] 25))
  have HB3 := Lib.hid (E2.out.b.trans (ba.mono E2.out.b.size))
  have HG5 := Lib.hid E2.out.b.size
  have S3 := Lib.hid (((E2.out.mn _ _ (.head _)).imp (P' := fun b => b < w2.heap.size) (fun b hb _ => hb)).below ba)
  have X3 := Lib.hid ((ba.block _ (Array.getElem?_eq_some_iff.1 (E2.out.bx _ _ _ (.head _))).1).trans (E2.out.bx _ _ _ (.head _)))
  have LT5 := Lib.hid (Array.getElem?_eq_some_iff.1 (E2.out.bx _ _ _ (.head _))).1
  go_upto_region 4 with (first
    | ((with_reducible show wpList _ _ _ _ _ _); refine wpList_load_row (o := ⟨some 18, _, _, _, _, _⟩) rfl _ (.tmp 2) rfl w.heap.size rfl _ _ _ _ (E2.out.bx _ _ _ (.head _)) Tryd.underlying25 rfl IN.out ?_)
    | ((with_reducible show wpList _ _ _ _ _ _); refine wpList_store_new rfl rfl _ (.tmp 5) (.tmp 18) rfl _ _ #[.int .u32 (s : Int), .int .u32 (v : Int), .int .i64 l, .int .i64 z, .int .i64 p, .slice A 32 c] _ rfl rfl IN.out (by rfl) (by simp [Value.oneCell']) ?_))
  clear ba E2
  generalize w2.alloc (.cells #[.int .u32 (s : Int), .int .u32 (v : Int), .int .i64 l, .int .i64 z, .int .i64 p, .slice A 32 c] 25) = w3 at *
  generalize w2.heap.size = b5 at *
  have kk : w3.cell? ⟨b5, 3, none⟩ = _ := cell_of_row w3 b5 3 _ _ (0, 0) HX5.out
  have ff := frozen_of_row w3 b5 3 _ _ HX5.out
  have k2 : w3.cell? ⟨w.heap.size, 5, none⟩ = _ := cell_of_row w3 w.heap.size 5 _ _ (0, 0) X3.out
  go_upto_region 16 with (first | rw [HJ.out] | rw [HJ2.out])
  have ko : ∀ b, b ≠ b5 → (w3.setCell ⟨b5, 3, none⟩ (.int .i64 0)).heap[b]? = w3.heap[b]? := fun b hb => heap_setCell_other _ _ _ _ hb
  have hx : (w3.setCell ⟨b5, 3, none⟩ (.int .i64 0)).heap[b5]? = some (.cells #[.int .u32 (s : Int), .int .u32 (v : Int), .int .i64 l, .int .i64 0, .int .i64 p, .slice A 32 c] 25 (0, 0)) := heap_setCell_same _ b5 3 _ _ (.int .i64 0) HX5.out
  obtain ⟨A', c', ecs, rr⟩ := S3.out
  have eA : A = A' ∧ c = c' := by
    unfold LMan.cells at ecs
    simp only [Array.mk.injEq, List.cons.injEq, Value.slice.injEq, and_true, true_and] at ecs
    exact ⟨ecs.1, ecs.2.2⟩
  obtain ⟨rfl, rfl⟩ := eA
  have h32 : h.length = 32 := by
    unfold LMan.cells at ecs
    simp only [Array.mk.injEq, List.cons.injEq, Value.slice.injEq, and_true, true_and] at ecs
    exact ecs.symm
  have hst : IsMan (w3.setCell ⟨b5, 3, none⟩ (.int .i64 0)) (fun _ => True) #[.int .u32 (s : Int), .int .u32 (v : Int), .int .i64 l, .int .i64 z, .int .i64 p, .slice A 32 c] (⟨s, v, l, z, p, h⟩ : LMan) := ⟨A, c, by simp only [LMan.cells, h32], (rr.keep (by simp) fun b hb _ => ko b (by omega)).imp fun _ _ _ => trivial⟩
  have hkt : IsMan (w3.setCell ⟨b5, 3, none⟩ (.int .i64 0)) (fun _ => True) #[.int .u32 (s : Int), .int .u32 (v : Int), .int .i64 l, .int .i64 0, .int .i64 p, .slice A 32 c] (⟨s, v, l, 0, p, h⟩ : LMan) := by
    refine ⟨A, c, by simp [LMan.cells, h32], ?_⟩
    exact (rr.keep (by simp) fun b hb _ => ko b (by omega)).imp fun _ _ _ => trivial
  have en : Env w (w3.setCell ⟨b5, 3, none⟩ (.int .i64 0)) [(b5, #[.int .u32 (s : Int), .int .u32 (v : Int), .int .i64 l, .int .i64 0, .int .i64 p, .slice A 32 c], 25), (w.heap.size, #[.int .u32 (s : Int), .int .u32 (v : Int), .int .i64 l, .int .i64 z, .int .i64 p, .slice A 32 c], 25)] [] [(#[.int .u32 (s : Int), .int .u32 (v : Int), .int .i64 l, .int .i64 0, .int .i64 p, .slice A 32 c], (⟨s, v, l, 0, p, h⟩ : LMan)), (#[.int .u32 (s : Int), .int .u32 (v : Int), .int .i64 l, .int .i64 z, .int .i64 p, .slice A 32 c], (⟨s, v, l, z, p, h⟩ : LMan))] := by
    refine ⟨HB3.out.setCell HG5.out _, fun g cs t hg => ?_, fun cs M hm => (by cases hm), fun cs K hm => ?_⟩
    · rcases List.mem_cons.1 hg with e | hg
      · injection e with e1 e2; injection e2 with e2 e3; subst e1 e2 e3; exact hx
      · rcases List.mem_cons.1 hg with e | hg
        · injection e with e1 e2; injection e2 with e2 e3; subst e1 e2 e3; exact (ko _ (by have := LT5.out; omega)).trans X3.out
        · cases hg
    · rcases List.mem_cons.1 hm with e | hm
      · injection e with e1 e2; subst e1 e2; exact hkt
      · rcases List.mem_cons.1 hm with e | hm
        · injection e with e1 e2; subst e1 e2; exact hst
        · cases hm
  have EK := Lib.hid en
  clear en ko hx hst hkt rr kk ff k2 HX5 HB3 HG5 S3 X3 LT5 ecs h32
  generalize (w3.setCell ⟨b5, 3, none⟩ (.int .i64 0)) = w4 at *
  go_wp2_with ((with_reducible show wpList _ _ _ _ _ _); refine wpList_load_row (o := ⟨some 42, _, _, _, _, _⟩) rfl _ (.tmp 5) rfl b5 rfl _ _ _ _ (EK.out.bx _ _ _ (.head _)) Tryd.underlying25 rfl IK.out ?_)
  refine (plainM_no (EK.out.mn _ _ (.head _)) KM.out).mono ?_
  rintro e w5 ⟨rfl, hb5⟩
  have E5 := Lib.hid (EK.out.below hb5)
  clear hb5 EK
  go_wp2_with ((with_reducible show wpList _ _ _ _ _ _); refine wpList_load_row (o := ⟨some 46, _, _, _, _, _⟩) rfl _ (.tmp 5) rfl b5 rfl _ _ _ _ (E5.out.bx _ _ _ (.head _)) Tryd.underlying25 rfl IK.out ?_)
  refine (mayM (E5.out.mn _ _ (.head _))).mono ?_
  rintro e w6 ⟨rfl, hb6⟩
  rw [KM.out]
  have E6 := Lib.hid (E5.out.below hb6)
  clear hb6 E5
  go_wp2_with (first
    | ((with_reducible show wpList _ _ _ _ _ _); refine wpList_load_rowG (o := ⟨some 54, _, _, _, _, _⟩) (by rfl) _ (.tmp 2) rfl w.heap.size rfl _ _ _ _ (E6.out.bx _ _ _ (.tail _ (.head _))) Tryd.underlying25 rfl IN.out ?_)
    | ((with_reducible show wpList _ _ _ _ _ _); refine wpList_load_rowG (o := ⟨some 55, _, _, _, _, _⟩) (by rfl) _ (.tmp 5) rfl b5 rfl _ _ _ _ (E6.out.bx _ _ _ (.head _)) Tryd.underlying25 rfl IK.out ?_))
  refine (sameM (E6.out.mn _ _ (.tail _ (.head _))) (E6.out.mn _ _ (.head _))).mono ?_
  rintro e w7 ⟨rfl, hb7⟩
  rw [KE.out]
  have E7 := Lib.hid (E6.out.below hb7)
  clear hb7 E6
  go_wp2_with (first
    | ((with_reducible show wpList _ _ _ _ _ _); refine wpList_load_rowG (o := ⟨some 60, _, _, _, _, _⟩) (by rfl) _ (.tmp 2) rfl w.heap.size rfl _ _ _ _ (E7.out.bx _ _ _ (.tail _ (.head _))) Tryd.underlying25 rfl IN.out ?_)
    | ((with_reducible show wpList _ _ _ _ _ _); refine wpList_load_rowG (o := ⟨some 61, _, _, _, _, _⟩) (by rfl) _ (.tmp 2) rfl w.heap.size rfl _ _ _ _ (E7.out.bx _ _ _ (.tail _ (.head _))) Tryd.underlying25 rfl IN.out ?_))
  refine (sameM (E7.out.mn _ _ (.tail _ (.head _))) (E7.out.mn _ _ (.tail _ (.head _)))).mono ?_
  rintro e w8 ⟨rfl, hb8⟩
  rw [eqbM_refl]
  have E8 := Lib.hid (E7.out.below hb8)
  clear hb8 E7
  go_wp2_with fail
  refine (awake14_any _ (HT.out.below E8.out.b HT.out.1)).mono ?_
  rintro e wz ⟨rfl, hbz⟩
  have hb := (E8.out.below hbz).b
  go_wp2_with fail
  go_ret
  exact ⟨rfl, hb⟩
set_option maxRecDepth 100000 in
set_option maxHeartbeats 800000 in
theorem manSp_no (cs : Array Value) (M : LMan) (how : Int) (w : World) (ht : Tab w) (hs : IsMan w (fun _ => True) cs M) (hm : M.may = false) :
    Calls Tryd.prog 5 #[.agg cs, .int .i64 how] w fun e w' => e = .returned (.bool true) ∧ Below w.heap.size w w' := by
  have HM := Lib.hid hm
  have HT := Lib.hid ht
  have IN := Lib.hid hs.inf
  have e0 := ((Env.start w).addMan hs).alloc cs 25
  have E0 := Lib.hid e0
  obtain ⟨A, c, ecs, _⟩ := hs
  have k5 := (e0.cell (.head _) 5).trans (by rw [ecs]; rfl : cs[5]? = some (.slice A M.h.length c))
  obtain ⟨nh, hnh⟩ : ∃ nh, M.h.length = nh := ⟨_, rfl⟩
  rw [hnh] at k5
  clear e0 hm ht ecs hnh
  by_cases h100 : 100 < nh
  · go_enter Tryd.func5, Tryd.ntmps5
    go_wp2_with fail
    generalize w.alloc (.cells cs 25) = w0 at *
    refine (awake14_any _ (HT.out.below E0.out.b HT.out.1)).mono ?_
    rintro e wz ⟨rfl, hbz⟩
    have hb := (E0.out.below hbz).b
    go_wp2_with fail
    go_ret
    exact ⟨rfl, hb⟩
  · have q1 : decide ((100 : Int) < (nh : Int)) = false := by simp; omega
    have q2 : (nh : Int) ≤ 100 := by omega
    go_enter Tryd.func5, Tryd.ntmps5
    go_wp2_with ((with_reducible show wpList _ _ _ _ _ _); refine wpList_load_rowG (o := ⟨some 13, _, _, _, _, _⟩) (by rfl) _ (.tmp 2) rfl w.heap.size rfl _ _ _ _ (E0.out.bx _ _ _ (.head _)) Tryd.underlying25 rfl IN.out ?_)
    generalize w.alloc (.cells cs 25) = w0 at *
    refine (mayM (E0.out.mn _ _ (.head _))).mono ?_
    rintro e w2 ⟨rfl, hb2⟩
    rw [HM.out]
    have E2 := Lib.hid (E0.out.below hb2)
    clear hb2 E0 k5
    go_wp2_with fail
    refine (awake14_any _ (HT.out.below E2.out.b HT.out.1)).mono ?_
    rintro e wz ⟨rfl, hbz⟩
    have hb := (E2.out.below hbz).b
    go_wp2_with fail
    go_ret
    exact ⟨rfl, hb⟩
theorem manSp_walk (s v : Nat) (l z p : Int) (A : Option Addr) (n c : Nat) (h : List UInt8) (how : Int) (w : World) (ht : Tab w) (hr : Row w w.heap.size A n (bv h)) (hnc : n ≤ c) :
    Calls Tryd.prog 5 #[.agg #[.int .u32 (s : Int), .int .u32 (v : Int), .int .i64 l, .int .i64 z, .int .i64 p, .slice A n c], .int .i64 how] w fun e w' => e = .returned (.bool true) ∧ Below w.heap.size w w' := by
  have hs := man_in (s := s) (v := v) (l := l) (z := z) (p := p) (c := c) hr
  cases hm : (⟨s, v, l, z, p, h⟩ : LMan).may with
  | false => exact manSp_no _ _ how w ht hs hm
  | true =>
  have hn : n = 32 := by rw [← hr.blen]; exact may_32 hm
  have hj : IntKind.u64.wrap how % 6 = 0 ∨ IntKind.u64.wrap how % 6 = 1 ∨ IntKind.u64.wrap how % 6 = 2 ∨ IntKind.u64.wrap how % 6 = 3 ∨ IntKind.u64.wrap how % 6 = 4 ∨ IntKind.u64.wrap how % 6 = 5 := by omega
  rcases hj with hj | hj | hj | hj | hj | hj
  · exact manSp_0 s v l z p A n c h how w ht hs hn hnc hm hj
  · exact manSp_1 s v l z p A n c h how w ht hs hn hnc hm hj
  · exact manSp_2 s v l z p A n c h how w ht hs hn hnc hm hj
  · exact manSp_3 s v l z p A n c h how w ht hs hn hnc hm hj
  · exact manSp_4 s v l z p A n c h how w ht hs hn hnc hm hj
  · exact manSp_5 s v l z p A n c h how w ht hs hn hnc hm hj
end Go.Proofs.YtofkopjjgdfliaaDoor
