/- slices.Grow, slices.Concat, manifest.Bytes: by contracts. -/
import Derived.Test.YtidcnoejihjgjaaGreatDoorZVQF
import Derived.Test.YtidcnoejihjgjaaGreatDoorZRQF
import Derived.Test.YtidcnoejihjgjaaGreatDoorZSQF
namespace Go.Proofs.YtidcnoejihjgjaaGreatDoor
open Go.RowKit
open Sh
theorem own_none {w : World} {base n c : Nat} {A : Option Addr} {xs : List Value} (h : w.ownsRow base 5 1 (.slice A n c) n xs) : w.ownsRow base 5 1 (.slice A 0 c) 0 (bv []) := by
  refine ⟨rfl, ?_⟩
  rcases h.2 with ⟨h0, _⟩ | ⟨g, cap, cur, hv, hb, hg, hnc, hm, hcs, _⟩
  · injection h0 with e1 e2 e3
    subst e1 e3
    exact .inl ⟨rfl, rfl⟩
  · injection hv with e1 e2 e3
    subst e1 e3
    exact .inr ⟨g, c, cur, rfl, hb, hg, Nat.zero_le _, hm, hcs, by simp [bv]⟩
def GotB (n : Nat) (l : List UInt8) (w : World) (e : Ending) (w' : World) : Prop := ∃ A c, e = .returned (.slice A n c) ∧ Hid (w'.ownsRow w.heap.size 5 1 (.slice A n c) n (bv l)) ∧ Hid (Below w.heap.size w w')
set_option maxRecDepth 100000 in
set_option maxHeartbeats 800000 in
theorem grow_nil (m : Nat) (h0 : 0 < m) (h1 : m ≤ 1000) (w : World) : Calls Tryz.prog 93 #[.slice none 0 0, .int .i64 (m : Int)] w (GotB 0 [] w) := by
  obtain ⟨i0, hi, hz0, hz1, hz2⟩ := info_parts Tryz.info5
  have q0 : ¬ (m : Int) < 0 := by omega
  have q1 : (0 : Int) < (m : Int) := by omega
  go_enter Tryz.func93, Tryz.ntmps93
  go_wp2_with (at_builtin; refine wpList_appZ rfl (.tmp 20) (.tmp 21) 22 3 rfl w.heap.size 5 i0 Tryz.underlying22 Tryz.underlying3 hi hz0 hz1 hz2 (.slice none 0 0) 0 [] rfl (World.ownsRow_nil w w.heap.size 5 1) m rfl (by omega) (by omega) (Nat.le_refl _) ?_; intro v3 w3 hown3 hg3; obtain ⟨A3, c3, rfl, _⟩ := own_slice hown3)
  go_ret
  exact ⟨A3, c3, rfl, own_none hown3, below_app (Below.refl _ _) (Nat.le_refl _) (World.ownsRow_nil w w.heap.size 5 1) (Nat.le_refl _) hg3⟩
set_option maxRecDepth 100000 in
set_option maxHeartbeats 1600000 in
theorem concat2 (g n1 c1 n2 c2 : Nat) (A1 A2 : Option Addr) (l1 l2 : List UInt8) (w : World) (hg : w.heap[g]? = some (.cells #[.slice A1 n1 c1, .slice A2 n2 c2] 22 (0, 0))) (r1 : Row w w.heap.size A1 n1 (bv l1)) (r2 : Row w w.heap.size A2 n2 (bv l2)) (h0 : 0 < n1 + n2) (h1 : n1 + n2 ≤ 1000) :
    Calls Tryz.prog 72 #[.slice (some ⟨g, 0, none⟩) 2 2] w (GotB (n1 + n2) (l1 ++ l2) w) := by
  obtain ⟨i0, hi, hz0, hz1, hz2⟩ := info_parts Tryz.info5
  have k0 : w.cell? ⟨g, 0, none⟩ = some (.slice A1 n1 c1) := by rw [cell_of_row w g 0 _ _ (0, 0) hg]; rfl
  have k1 : w.cell? ⟨g, 1, none⟩ = some (.slice A2 n2 c2) := by rw [cell_of_row w g 1 _ _ (0, 0) hg]; rfl
  have HG := Lib.hid hg
  have R1 := Lib.hid r1
  have R2 := Lib.hid r2
  have q1 : (n1 : Int) ≤ 1000 := by omega
  have q2 : (n2 : Int) ≤ 1000 := by omega
  have H0 := Lib.hid h0
  have H1 := Lib.hid h1
  clear hg r1 r2 h0 h1
  go_enter Tryz.func72, Tryz.ntmps72
  go_wp2_with fail
  go_loop [11, 3] (fun x s => (x = .int .i64 0 ∧ s = .int .i64 0) ∨ (x = .int .i64 1 ∧ s = .int .i64 (n1 : Int)) ∨ (x = .int .i64 2 ∧ s = .int .i64 ((n1 + n2 : Nat) : Int))) (fun x _ => 2 - (intOf x).toNat)
  case atStart => exact .inl ⟨rfl, rfl⟩
  case round =>
    rcases hrel with ⟨rfl, rfl⟩ | ⟨rfl, rfl⟩ | ⟨rfl, rfl⟩
    · go_wp2_with fail
      go_round
      case rel => exact .inr (.inl ⟨rfl, by go_num⟩)
      case measure => simp [intOf]
    · go_wp2_with fail
      go_round
      case rel => exact .inr (.inr ⟨rfl, by go_num⟩)
      case measure => simp [intOf]
    · obtain ⟨m, hm⟩ : ∃ m, n1 + n2 = m := ⟨_, rfl⟩
      rw [hm] at H0 H1 ⊢
      have HM := Lib.hid hm
      clear hm
      go_wp2_with fail
      refine (grow_nil m H0.out H1.out w).mono ?_
      rintro e w1 ⟨A3, c3, rfl, O3, B3⟩
      obtain ⟨lk, hlk⟩ : ∃ lk : Nat → List UInt8, lk = fun k => match k with | 0 => [] | 1 => l1 | _ => l1 ++ l2 := ⟨_, rfl⟩
      obtain ⟨nk, hnk⟩ : ∃ nk : Nat → Nat, nk = fun k => match k with | 0 => 0 | 1 => n1 | _ => n1 + n2 := ⟨_, rfl⟩
      have LK0 : Hid (lk 0 = []) := Lib.hid (by subst hlk; rfl)
      have LK1 : Hid (lk 1 = lk 0 ++ l1) := Lib.hid (by subst hlk; rfl)
      have LK2 : Hid (lk 2 = lk 1 ++ l2) := Lib.hid (by subst hlk; rfl)
      have LKR : Hid (lk 2 = l1 ++ l2) := Lib.hid (by subst hlk; rfl)
      have NK0 : Hid (nk 0 = 0) := Lib.hid (by subst hnk; rfl)
      have NK1 : Hid (nk 1 = nk 0 + n1) := Lib.hid (by subst hnk; exact (Nat.zero_add _).symm)
      have NK2 : Hid (nk 2 = nk 1 + n2) := Lib.hid (by subst hnk; rfl)
      have HST : Hid (World.ownsRow w1 w.heap.size 5 1 (.slice A3 0 c3) 0 (bv (lk 0))) := Lib.hid (by rw [LK0.out]; exact O3.out)
      clear hlk hnk O3
      go_wp2_with fail
      go_loopw [27, 6] (fun x s wr => ∃ (k n : Nat) (A : Option Addr) (c : Nat), k ≤ 2 ∧ x = .int .i64 k ∧ s = .slice A n c ∧ Hid (World.ownsRow wr w.heap.size 5 1 (.slice A n c) n (bv (lk k))) ∧ Hid (n = nk k) ∧ Hid (Below w.heap.size w wr)) (fun x _ _ => 2 - (intOf x).toNat)
      case atStart => exact ⟨0, 0, A3, c3, by omega, rfl, rfl, HST, Lib.hid NK0.out.symm, B3⟩
      case round =>
        clear HST B3
        obtain ⟨k, n, A, c, hk, rfl, rfl, HO, HN, HB⟩ := hrel
        rcases (by omega : k = 0 ∨ k = 1 ∨ k = 2) with rfl | rfl | rfl
        · have kk := ((HB.out.block g (Array.getElem?_eq_some_iff.1 HG.out).1).trans HG.out)
          have kc := cell_of_row wr g 0 _ _ (0, 0) kk
          have hn2 : n ≤ 1000 := by rw [HN.out, NK0.out]; have := H1.out; have := HM.out; omega
          clear kk
          go_wp2_with (at_builtin; refine wpList_app rfl (.tmp 31) (.tmp 32) 22 rfl w.heap.size 5 i0 (.int .u8 0) 1 Tryz.underlying22 hi hz0 hz1 hz2 rfl _ n (bv (lk 0)) rfl HO.out w.heap.size A1 n1 c1 (bv l1) rfl (R1.out.below HB.out) (bv_one _) (by unfold maxLen; omega) (by omega) HB.out.size ?_; intro v5 w5 hown5 hg5 hat5; obtain ⟨A5, c5, rfl, _⟩ := own_slice hown5)
          have HB5 := Lib.hid (below_app HB.out HB.out.size HO.out (Nat.le_refl _) hg5)
          have HO5 : Hid (World.ownsRow w5 w.heap.size 5 1 (.slice A5 (n + n1) c5) (n + n1) (bv (lk 1))) := Lib.hid (by rw [LK1.out, bv_append]; exact hown5)
          go_roundw
          case rel => exact ⟨1, n + n1, A5, c5, by omega, by go_num, rfl, HO5, Lib.hid (by rw [HN.out, NK1.out]), HB5⟩
          case measure => simp [intOf]
        · have kk := ((HB.out.block g (Array.getElem?_eq_some_iff.1 HG.out).1).trans HG.out)
          have kc := cell_of_row wr g 1 _ _ (0, 0) kk
          have hn2 : n ≤ 1000 := by rw [HN.out, NK1.out, NK0.out]; have := H1.out; have := HM.out; omega
          clear kk
          go_wp2_with (at_builtin; refine wpList_app rfl (.tmp 31) (.tmp 32) 22 rfl w.heap.size 5 i0 (.int .u8 0) 1 Tryz.underlying22 hi hz0 hz1 hz2 rfl _ n (bv (lk 1)) rfl HO.out w.heap.size A2 n2 c2 (bv l2) rfl (R2.out.below HB.out) (bv_one _) (by unfold maxLen; omega) (by omega) HB.out.size ?_; intro v5 w5 hown5 hg5 hat5; obtain ⟨A5, c5, rfl, _⟩ := own_slice hown5)
          have HB5 := Lib.hid (below_app HB.out HB.out.size HO.out (Nat.le_refl _) hg5)
          have HO5 : Hid (World.ownsRow w5 w.heap.size 5 1 (.slice A5 (n + n2) c5) (n + n2) (bv (lk 2))) := Lib.hid (by rw [LK2.out, bv_append]; exact hown5)
          go_roundw
          case rel => exact ⟨2, n + n2, A5, c5, by omega, by go_num, rfl, HO5, Lib.hid (by rw [HN.out, NK2.out]), HB5⟩
          case measure => simp [intOf]
        · go_wp2_with fail
          go_ret
          have e : n = m := by rw [HN.out, NK2.out, NK1.out, NK0.out]; have := HM.out; omega
          subst e
          have hO := HO.out
          rw [LKR.out] at hO
          unfold GotB
          rw [HM.out]
          exact ⟨A, c, rfl, Lib.hid hO, HB⟩
end Go.Proofs.YtidcnoejihjgjaaGreatDoor
namespace Go.Proofs.YtidcnoejihjgjaaGreatDoor
open Go.RowKit
open Sh
def LMan.w32 (M : LMan) : Prop := M.s < 4294967296 ∧ M.v < 4294967296
theorem plainM_yes {cs : Array Value} {M : LMan} {w : World} {P : Nat → Prop} (h : IsMan w P cs M) (hm : M.may = true) (hw : M.w32) :
    Calls Tryz.prog 71 #[.agg cs] w (PlainOk M.bytes w) := by
  obtain ⟨A, c, rfl, r⟩ := h
  obtain ⟨s, v, l, z, p, h⟩ := M
  obtain ⟨L, Z, Q, rfl, rfl, rfl, h1, h2, h3, h4, h5, h6⟩ := man_bounds hm
  simp only at h6
  have e : plainB s v L Z Q h = (⟨s, v, (L : Int), (Z : Int), (Q : Int), h⟩ : LMan).bytes := by unfold LMan.bytes; simp
  rw [← e]
  unfold LMan.cells
  have hm2 : manB (L : Int) (Z : Int) (Q : Int) 32 = true := by have := hm; unfold LMan.may at this; rw [h6] at this; exact this
  have r2 := r.row
  simp only [h6] at r2 ⊢
  exact plain_yes s v L Z Q A c w.heap.size h w hw.1 hw.2 h2 h4 h5 hm2 r2 (Nat.le_refl _)
def MBytesOk (l : List UInt8) (w : World) (e : Ending) (w' : World) : Prop := ∃ A c, e = .returned (.tuple #[.slice A 76 c, .int .i64 0]) ∧ Hid (w'.ownsRow w.heap.size 5 1 (.slice A 76 c) 76 (bv l)) ∧ Hid (Below w.heap.size w w')
set_option maxRecDepth 100000 in
set_option maxHeartbeats 800000 in
theorem manBytes_yes {cs : Array Value} {M : LMan} {w : World} {P : Nat → Prop} (A : Option Addr) (n c : Nat) (key : List UInt8) (ht : Tab w) (hk : Row w w.heap.size A n (bv key)) (hn : n ≤ 1000000) (h : IsMan w P cs M) (hm : M.may = true) (hw : M.w32) :
    Calls Tryz.prog 47 #[.slice A n c, .agg cs] w (MBytesOk (M.bytes ++ tagOf key M.bytes) w) := by
  have hb0 : Below w.heap.size w (w.alloc (.cells cs 32)) := (Below.refl _ _).alloc (Nat.le_refl _) _
  have H0 := Lib.hid (h.below hb0)
  have B0 := Lib.hid hb0
  have BX := Lib.hid (heap_alloc_new w (.cells cs 32))
  have HM := Lib.hid hm
  have HW := Lib.hid hw
  have HT := Lib.hid ht
  have HK := Lib.hid hk
  have I := Lib.hid h.inf
  clear h hb0 hm hw ht hk
  go_enter Tryz.func47, Tryz.ntmps47
  go_wp2_with ((with_reducible show wpList _ _ _ _ _ _); refine wpList_load_row (o := ⟨some 9, _, _, _, _, _⟩) rfl _ (.tmp 3) rfl w.heap.size rfl _ _ _ _ BX.out Tryz.underlying32 rfl I.out ?_)
  refine (plainM_yes H0.out HM.out HW.out).mono ?_
  rintro e w1 ⟨A1, c1, rfl, O1, hb1⟩
  have B1 := Lib.hid (B0.out.trans (hb1.out.mono B0.out.size))
  have R1 := Lib.hid (Row.of_own O1.out)
  have K1 := Lib.hid ((HK.out.below B1.out).more B1.out.size)
  have T1 := Lib.hid (HT.out.below B1.out HT.out.1)
  clear hb1 O1 B0 H0 BX HK HT
  go_wp2_with fail
  refine (tag_any w1.heap.size n c A key w1.heap.size 44 c1 A1 M.bytes w1 T1.out K1.out (Nat.le_refl _) R1.out (Nat.le_refl _) (by omega) (by omega)).mono ?_
  rintro e w2 ⟨A2, c2, rfl, O2, hb2⟩
  have ba : Below w2.heap.size w2 (w2.alloc (.cells #[.slice A1 44 c1, .slice A2 32 c2] 22)) := (Below.refl _ _).alloc (Nat.le_refl _) _
  have B3 := Lib.hid ((B1.out.trans (hb2.out.mono B1.out.size)).trans (ba.mono (Nat.le_trans B1.out.size hb2.out.size)))
  have R13 := Lib.hid ((R1.out.below (hb2.out.trans (ba.mono hb2.out.size))).more (hb2.out.trans (ba.mono hb2.out.size)).size)
  have R23 := Lib.hid (((Row.of_own O2.out).below ba).more ba.size)
  have X3 := Lib.hid (heap_alloc_new w2 (.cells #[.slice A1 44 c1, .slice A2 32 c2] 22))
  clear O2 hb2 ba K1 T1 R1
  go_wp2_with fail
  generalize w2.alloc (.cells #[.slice A1 44 c1, .slice A2 32 c2] 22) = w3 at *
  refine (concat2 w2.heap.size 44 c1 32 c2 A1 A2 M.bytes (tagOf key M.bytes) w3 X3.out R13.out R23.out (by omega) (by omega)).mono ?_
  rintro e w4 ⟨A4, c4, rfl, O4, hb4⟩
  have B4 := Lib.hid (B3.out.trans (hb4.out.mono B3.out.size))
  have O5 := Lib.hid (own_base O4.out B3.out.size)
  clear O4 hb4
  go_wp2_with fail
  go_ret2
  exact ⟨A4, c4, rfl, O5, B4⟩
end Go.Proofs.YtidcnoejihjgjaaGreatDoor
