/- session.Admit, what it refuses what it admits: by contract. -/
import Derived.Test.YtmncpgfdpcckpaaGreatDoorZMAQN
set_option maxRecDepth 100000
namespace Go.Proofs.YtmncpgfdpcckpaaGreatDoor
open Go.RowKit
set_option maxHeartbeats 4000000 in
theorem admit_gf (act : Int) (flo gen v0 : Nat) (l0 : Int) (A0 : Option Addr) (n0 c0 : Nat) (v1 : Nat) (l1 : Int) (A1 : Option Addr) (n1 c1 : Nat) (s v : Nat) (l z p : Int) (A : Option Addr) (n c B : Nat) (h0 h1 h : List UInt8) (ms mv : Nat) (ml mz mp : Int) (MA : Option Addr) (mn mc : Nat) (mh : List UInt8) (w : World) (hmay : mayB2 act 0 v0 l0 h0 v1 l1 h1 false s v l z p h = true) (hmm : manB ml mz mp mn = true) (hmn : mn = 32) (hn0 : n0 ≤ 1000000000) (hn1 : n1 ≤ 1000000000) (hn : n ≤ 1000000000) (hnw : newB (mayB2 act 0 v0 l0 h0 v1 l1 h1 false s v l z p h) act flo v0 v1 false v mv = true) (hge : gen < 4294967294) (hl0 : Row w B A0 n0 (bv h0)) (hl1 : Row w B A1 n1 (bv h1)) (hl : Row w B A n (bv h)) (hlm : Row w B MA mn (bv mh)) (hB : B ≤ w.heap.size) :
  Calls Tryz.prog 41 #[.agg #[.int .i64 act, .int .i64 0, .int .u32 (flo : Int), .int .u32 (gen : Int), .int .u32 (v0 : Int), .int .i64 l0, .slice A0 n0 c0, .int .u32 (v1 : Int), .int .i64 l1, .slice A1 n1 c1, .bool false, .int .u32 (s : Int), .int .u32 (v : Int), .int .i64 l, .int .i64 z, .int .i64 p, .slice A n c], .agg #[.int .u32 (ms : Int), .int .u32 (mv : Int), .int .i64 ml, .int .i64 mz, .int .i64 mp, .slice MA mn mc]] w (AdmitYes act flo gen v0 l0 n0 v1 l1 n1 ms mv ml mz mp h0 h1 mh w) := by
 have HMAY := Lib.hid hmay
 have HGE := Lib.hid hge
 clear hge
 have HNW := Lib.hid hnw
 clear hnw
 have HMN := Lib.hid hmn
 clear hmn
 have HN0 := Lib.hid hn0
 have HN1 := Lib.hid hn1
 have HN := Lib.hid hn
 clear hn0 hn1 hn
 have hmay9 := Lib.hid hmay
 have HMM := Lib.hid hmm
 clear hmm
 have HB : Hid (Below w.heap.size w (((w.alloc (.cells #[.int .i64 act, .int .i64 0, .int .u32 (flo : Int), .int .u32 (gen : Int), .int .u32 (v0 : Int), .int .i64 l0, .slice A0 n0 c0, .int .u32 (v1 : Int), .int .i64 l1, .slice A1 n1 c1, .bool false, .int .u32 (s : Int), .int .u32 (v : Int), .int .i64 l, .int .i64 z, .int .i64 p, .slice A n c] 39)).alloc (.cells #[.int .u32 (ms : Int), .int .u32 (mv : Int), .int .i64 ml, .int .i64 mz, .int .i64 mp, .slice MA mn mc] 37)).alloc (.cells zState 39))) := (((Below.refl _ _).alloc (Nat.le_refl _) _).alloc (by simp) _).alloc (by simp; omega) _
 have CM := Lib.hid (may_any act 0 flo gen v0 l0 A0 n0 c0 v1 l1 A1 n1 c1 false s v l z p A n c B h0 h1 h _ (hl0.below (HB.out.mono hB)) (hl1.below (HB.out.mono hB)) (hl.below (HB.out.mono hB)) (Nat.le_trans hB HB.out.size))
 obtain ⟨x0, x1, x2⟩ := alloc3 w (.cells #[.int .i64 act, .int .i64 0, .int .u32 (flo : Int), .int .u32 (gen : Int), .int .u32 (v0 : Int), .int .i64 l0, .slice A0 n0 c0, .int .u32 (v1 : Int), .int .i64 l1, .slice A1 n1 c1, .bool false, .int .u32 (s : Int), .int .u32 (v : Int), .int .i64 l, .int .i64 z, .int .i64 p, .slice A n c] 39) (.cells #[.int .u32 (ms : Int), .int .u32 (mv : Int), .int .i64 ml, .int .i64 mz, .int .i64 mp, .slice MA mn mc] 37) (.cells zState 39)
 have X0 := Lib.hid x0
 have X1 := Lib.hid x1
 have X2 := Lib.hid x2
 have HL0 := Lib.hid hl0
 have HL1 := Lib.hid hl1
 have HL := Lib.hid hl
 have HLM := Lib.hid hlm
 have HBB := Lib.hid hB
 clear hl0 hl1 hl hlm hB x0 x1 x2 hmay
 go_enter Tryz.func41, Tryz.ntmps41
 go_wp2_with fail
 refine CM.out.mono ?_
 rintro e w1 ⟨rfl, hb1⟩
 rw [HMAY.out]
 have HB1 : Hid (Below w.heap.size w w1) := HB.out.trans (hb1.mono HB.out.size)
 have Y0 := Lib.hid ((hb1.block w.heap.size (by simp <;> omega)).trans X0.out)
 have Y1 := Lib.hid ((hb1.block (w.heap.size + 1) (by simp <;> omega)).trans X1.out)
 have Y2 := Lib.hid ((hb1.block (w.heap.size + 2) (by simp <;> omega)).trans X2.out)
 clear hb1 X0 X1 X2 CM HMAY HB
 obtain ⟨y0, y1, y2, y3, y4, y5⟩ := bx6 Y1.out
 go_wp2_with fail
 refine (manMay_any ms mv ml mz mp MA mn mc w1).mono ?_
 rintro e w2 ⟨rfl, hb2⟩
 rw [HMM.out]
 have HB2 : Hid (Below w.heap.size w w2) := HB1.out.trans (hb2.mono HB1.out.size)
 have L1 : Hid (w.heap.size + 2 < w1.heap.size) := (Array.getElem?_eq_some_iff.1 Y2.out).1
 have Z0 := Lib.hid ((hb2.block w.heap.size (by have := L1.out; omega)).trans Y0.out)
 have Z1 := Lib.hid ((hb2.block (w.heap.size + 1) (by have := L1.out; omega)).trans Y1.out)
 have Z2 := Lib.hid ((hb2.block (w.heap.size + 2) L1.out).trans Y2.out)
 clear y0 y1 y2 y3 y4 y5 hb2 Y0 Y1 Y2 HMM L1
 obtain ⟨-, k1x, -, -, -, -, -, -, k10x⟩ := bx17 Z0.out
 obtain ⟨y0, y1, y2, y3, y4, y5⟩ := bx6 Z1.out
 go_wp2_with ((with_reducible show wpList _ _ _ _ _ _); refine wpList_load_row (o := ⟨some 33, _, _, _, _, _⟩) rfl _ (.tmp 2) rfl w.heap.size rfl _ _ _ _ Z0.out Tryz.underlying39 rfl (by kernel_rfl) ?_)
 refine (newer_any act 0 flo gen v0 l0 A0 n0 c0 v1 l1 A1 n1 c1 false s v l z p A n c B h0 h1 h mv w2 (HL0.out.below (HB2.out.mono HBB.out)) (HL1.out.below (HB2.out.mono HBB.out)) (HL.out.below (HB2.out.mono HBB.out)) (Nat.le_trans HBB.out HB2.out.size)).mono ?_
 rintro e w9 ⟨rfl, hb9⟩
 rw [HNW.out]
 have HB9 : Hid (Below w.heap.size w w9) := HB2.out.trans (hb9.mono HB2.out.size)
 have L9 : Hid (w.heap.size + 2 < w2.heap.size) := (Array.getElem?_eq_some_iff.1 Z2.out).1
 have U0 := Lib.hid ((hb9.block w.heap.size (by have := L9.out; omega)).trans Z0.out)
 have U1 := Lib.hid ((hb9.block (w.heap.size + 1) (by have := L9.out; omega)).trans Z1.out)
 have U2 := Lib.hid ((hb9.block (w.heap.size + 2) L9.out).trans Z2.out)
 clear hb9 L9 k1x k10x y0 y1 y2 y3 y4 y5 HNW
 have gx := bxg U0.out
 have hge : decide ((4294967294 : Int) ≤ (gen : Int)) = false := by have := HGE.out; exact decide_eq_false (by omega)
 go_wp2_with ((with_reducible show wpList _ _ _ _ _ _); refine wpList_load_row (o := ⟨some 44, _, _, _, _, _⟩) rfl _ (.tmp 2) rfl w.heap.size rfl _ _ _ _ U0.out Tryz.underlying39 rfl (by kernel_rfl) ?_)
 have CD := Lib.hid (drop_yes act 0 flo gen v0 l0 A0 n0 c0 v1 l1 A1 n1 c1 false s v l z p A n c B h0 h1 h w9 hmay9.out (HL0.out.below (HB9.out.mono HBB.out)) (HL1.out.below (HB9.out.mono HBB.out)) (HL.out.below (HB9.out.mono HBB.out)) (Nat.le_trans HBB.out HB9.out.size) HN0.out HN1.out HN.out)
 refine CD.out.mono ?_
 rintro e wd ⟨D0, k0, D1, k1, D, kd, rfl, P0, P1, -, hbd⟩
 clear CD
 have LU := Lib.hid (Array.getElem?_eq_some_iff.1 U2.out).1
 have T0 := Lib.hid ((hbd.out.block (w.heap.size + 1) (by have := LU.out; omega)).trans U1.out)
 have T2 := Lib.hid ((hbd.out.block (w.heap.size + 2) LU.out).trans U2.out)
 have HW9 := Lib.hid hbd.out.size
 have HBD : Hid (Below w.heap.size w wd) := HB9.out.trans (hbd.out.mono HB9.out.size)
 have LD : Hid (w.heap.size + 2 < wd.heap.size) := (Array.getElem?_eq_some_iff.1 T2.out).1
 obtain ⟨g1, hg1⟩ : ∃ g1 : Nat, g1 = gen + 1 := ⟨_, rfl⟩
 have hgw : IntKind.u32.wrap ((gen : Int) + 1) = (g1 : Int) := by rw [IntKind.wrap_u32]; have := HGE.out; omega
 have HG1 := Lib.hid hg1
 clear gx hge U0 U2 hbd hg1
 go_upto_region 13 with fail
 have kA : ∀ b, b < wd.heap.size → (wd.alloc (.cells #[.int .i64 act, .int .i64 0, .int .u32 (flo : Int), .int .u32 (g1 : Int), .int .u32 (v0 : Int), .int .i64 l0, .slice D0 n0 k0, .int .u32 (v1 : Int), .int .i64 l1, .slice D1 n1 k1, .bool false, .int .u32 0, .int .u32 0, .int .i64 0, .int .i64 0, .int .i64 0, .slice D 0 kd] 39)).heap[b]? = wd.heap[b]? := fun b hb => heap_alloc_old wd _ hb
 have HBA : Hid (Below w.heap.size w (wd.alloc (.cells #[.int .i64 act, .int .i64 0, .int .u32 (flo : Int), .int .u32 (g1 : Int), .int .u32 (v0 : Int), .int .i64 l0, .slice D0 n0 k0, .int .u32 (v1 : Int), .int .i64 l1, .slice D1 n1 k1, .bool false, .int .u32 0, .int .u32 0, .int .i64 0, .int .i64 0, .int .i64 0, .slice D 0 kd] 39))) := HBD.out.alloc HBD.out.size _
 have T1A := Lib.hid ((kA (w.heap.size + 1) (by have := LD.out; omega)).trans T0.out)
 have T2A := Lib.hid ((kA (w.heap.size + 2) LD.out).trans T2.out)
 have TAH := Lib.hid (heap_alloc_new wd (.cells #[.int .i64 act, .int .i64 0, .int .u32 (flo : Int), .int .u32 (g1 : Int), .int .u32 (v0 : Int), .int .i64 l0, .slice D0 n0 k0, .int .u32 (v1 : Int), .int .i64 l1, .slice D1 n1 k1, .bool false, .int .u32 0, .int .u32 0, .int .i64 0, .int .i64 0, .int .i64 0, .slice D 0 kd] 39))
 have KA := Lib.hid kA
 have SA : Hid ((wd.alloc (.cells #[.int .i64 act, .int .i64 0, .int .u32 (flo : Int), .int .u32 (g1 : Int), .int .u32 (v0 : Int), .int .i64 l0, .slice D0 n0 k0, .int .u32 (v1 : Int), .int .i64 l1, .slice D1 n1 k1, .bool false, .int .u32 0, .int .u32 0, .int .i64 0, .int .i64 0, .int .i64 0, .slice D 0 kd] 39)).heap.size = wd.heap.size + 1) := Lib.hid (by simp)
 clear kA T0 T2 hgw
 generalize wd.alloc (.cells #[.int .i64 act, .int .i64 0, .int .u32 (flo : Int), .int .u32 (g1 : Int), .int .u32 (v0 : Int), .int .i64 l0, .slice D0 n0 k0, .int .u32 (v1 : Int), .int .i64 l1, .slice D1 n1 k1, .bool false, .int .u32 0, .int .u32 0, .int .i64 0, .int .i64 0, .int .i64 0, .slice D 0 kd] 39) = wA at *
 have f10 := frozen_of_row wA wd.heap.size 10 _ _ TAH.out
 have f11 := frozen_of_row wA wd.heap.size 11 _ _ TAH.out
 have f12 := frozen_of_row wA wd.heap.size 12 _ _ TAH.out
 have f13 := frozen_of_row wA wd.heap.size 13 _ _ TAH.out
 have f14 := frozen_of_row wA wd.heap.size 14 _ _ TAH.out
 have f15 := frozen_of_row wA wd.heap.size 15 _ _ TAH.out
 have f16 := frozen_of_row wA wd.heap.size 16 _ _ TAH.out
 have c10 := cell_of_row wA wd.heap.size 10 _ _ (0, 0) TAH.out
 have c11 := cell_of_row wA wd.heap.size 11 _ _ (0, 0) TAH.out
 have c12 := cell_of_row wA wd.heap.size 12 _ _ (0, 0) TAH.out
 have c13 := cell_of_row wA wd.heap.size 13 _ _ (0, 0) TAH.out
 have c14 := cell_of_row wA wd.heap.size 14 _ _ (0, 0) TAH.out
 have c15 := cell_of_row wA wd.heap.size 15 _ _ (0, 0) TAH.out
 have c16 := cell_of_row wA wd.heap.size 16 _ _ (0, 0) TAH.out
 obtain ⟨y0, y1, y2, y3, y4, y5⟩ := bx6 T1A.out
 have ne1 : ¬ (w.heap.size + 1 = wd.heap.size) := by have := LD.out; omega
 have ne2 : ¬ (wd.heap.size = w.heap.size + 1) := by have := LD.out; omega
 go_region
 have KB : Hid (∀ b, b ≠ wd.heap.size → ((((((((wA.setCell ⟨wd.heap.size, 10, none⟩ (.bool true)).setCell ⟨wd.heap.size, 11, none⟩ (.int .u32 (ms : Int))).setCell ⟨wd.heap.size, 12, none⟩ (.int .u32 (mv : Int))).setCell ⟨wd.heap.size, 13, none⟩ (.int .i64 ml)).setCell ⟨wd.heap.size, 14, none⟩ (.int .i64 mz)).setCell ⟨wd.heap.size, 15, none⟩ (.int .i64 mp)).setCell ⟨wd.heap.size, 16, none⟩ (.slice MA mn mc)).drew).heap[b]? = wA.heap[b]?) := Lib.hid (fun b hb => keep7 hb _ _ _ _ _ _ _)
 have T1B := Lib.hid ((KB.out (w.heap.size + 1) ne1).trans T1A.out)
 have T2B := Lib.hid ((KB.out (w.heap.size + 2) (by have := LD.out; omega)).trans T2A.out)
 have TB : Hid (((((((((wA.setCell ⟨wd.heap.size, 10, none⟩ (.bool true)).setCell ⟨wd.heap.size, 11, none⟩ (.int .u32 (ms : Int))).setCell ⟨wd.heap.size, 12, none⟩ (.int .u32 (mv : Int))).setCell ⟨wd.heap.size, 13, none⟩ (.int .i64 ml)).setCell ⟨wd.heap.size, 14, none⟩ (.int .i64 mz)).setCell ⟨wd.heap.size, 15, none⟩ (.int .i64 mp)).setCell ⟨wd.heap.size, 16, none⟩ (.slice MA mn mc)).drew).heap[wd.heap.size]? = some (.cells #[.int .i64 act, .int .i64 0, .int .u32 (flo : Int), .int .u32 (g1 : Int), .int .u32 (v0 : Int), .int .i64 l0, .slice D0 n0 k0, .int .u32 (v1 : Int), .int .i64 l1, .slice D1 n1 k1, .bool true, .int .u32 (ms : Int), .int .u32 (mv : Int), .int .i64 ml, .int .i64 mz, .int .i64 mp, .slice MA mn mc] 39 (0, 0))) := Lib.hid (set7d TAH.out (.bool true) (.int .u32 (ms : Int)) (.int .u32 (mv : Int)) (.int .i64 ml) (.int .i64 mz) (.int .i64 mp) (.slice MA mn mc))
 have SB : Hid (((((((((wA.setCell ⟨wd.heap.size, 10, none⟩ (.bool true)).setCell ⟨wd.heap.size, 11, none⟩ (.int .u32 (ms : Int))).setCell ⟨wd.heap.size, 12, none⟩ (.int .u32 (mv : Int))).setCell ⟨wd.heap.size, 13, none⟩ (.int .i64 ml)).setCell ⟨wd.heap.size, 14, none⟩ (.int .i64 mz)).setCell ⟨wd.heap.size, 15, none⟩ (.int .i64 mp)).setCell ⟨wd.heap.size, 16, none⟩ (.slice MA mn mc)).drew).heap.size = wd.heap.size + 1) := Lib.hid ((size7 _ _ _ _ _ _ _).trans SA.out)
 have HWD := Lib.hid HBD.out.size
 have HBX : Hid (Below w.heap.size w ((((((((wA.setCell ⟨wd.heap.size, 10, none⟩ (.bool true)).setCell ⟨wd.heap.size, 11, none⟩ (.int .u32 (ms : Int))).setCell ⟨wd.heap.size, 12, none⟩ (.int .u32 (mv : Int))).setCell ⟨wd.heap.size, 13, none⟩ (.int .i64 ml)).setCell ⟨wd.heap.size, 14, none⟩ (.int .i64 mz)).setCell ⟨wd.heap.size, 15, none⟩ (.int .i64 mp)).setCell ⟨wd.heap.size, 16, none⟩ (.slice MA mn mc)).drew)) := Lib.hid (below7 HBA.out HWD.out _ _ _ _ _ _ _)
 clear f10 f11 f12 f13 f14 f15 f16 c10 c11 c12 c13 c14 c15 c16 y0 y1 y2 y3 y4 y5 T1A T2A TAH SA HBA
 generalize (((((((wA.setCell ⟨wd.heap.size, 10, none⟩ (.bool true)).setCell ⟨wd.heap.size, 11, none⟩ (.int .u32 (ms : Int))).setCell ⟨wd.heap.size, 12, none⟩ (.int .u32 (mv : Int))).setCell ⟨wd.heap.size, 13, none⟩ (.int .i64 ml)).setCell ⟨wd.heap.size, 14, none⟩ (.int .i64 mz)).setCell ⟨wd.heap.size, 15, none⟩ (.int .i64 mp)).setCell ⟨wd.heap.size, 16, none⟩ (.slice MA mn mc)).drew = wB at *
 obtain ⟨y0, y1, y2, y3, y4, y5⟩ := bx6 T1B.out
 go_wp2_with fail
 refine (clone_any B mn mc MA mh wB (HLM.out.below (HBX.out.mono HBB.out)) (by have := HMN.out; omega) (Nat.le_trans HBB.out HBX.out.size)).mono ?_
 rintro e w5 ⟨AN, nn, cN, rfl, hnn, hown, hb5⟩
 have hn2 : nn = mn := by rw [hnn]; exact HLM.out.blen
 have HN2 := Lib.hid hn2
 have T2C := Lib.hid ((hb5.block (w.heap.size + 2) (by have := SB.out; have := LD.out; omega)).trans T2B.out)
 have TC := Lib.hid ((hb5.block wd.heap.size (by have := SB.out; omega)).trans TB.out)
 have HB5 : Hid (Below w.heap.size w w5) := HBX.out.trans (hb5.mono HBX.out.size)
 have K5 : Hid (∀ b, b < wd.heap.size + 1 → w5.heap[b]? = wB.heap[b]?) := Lib.hid (fun b hb => hb5.block b (by have := SB.out; omega))
 have PN := Lib.hid (RowF.of_own hown)
 have f16 := frozen_of_row w5 wd.heap.size 16 _ _ TC.out
 have c16 := cell_of_row w5 wd.heap.size 16 _ _ (0, 0) TC.out
 have TD : Hid ((w5.setCell ⟨wd.heap.size, 16, none⟩ (.slice AN nn cN)).heap[wd.heap.size]? = some (.cells #[.int .i64 act, .int .i64 0, .int .u32 (flo : Int), .int .u32 (g1 : Int), .int .u32 (v0 : Int), .int .i64 l0, .slice D0 n0 k0, .int .u32 (v1 : Int), .int .i64 l1, .slice D1 n1 k1, .bool true, .int .u32 (ms : Int), .int .u32 (mv : Int), .int .i64 ml, .int .i64 mz, .int .i64 mp, .slice AN nn cN] 39 (0, 0))) := Lib.hid (heap_setCell_same w5 wd.heap.size 16 _ _ _ TC.out)
 have T2D : Hid ((w5.setCell ⟨wd.heap.size, 16, none⟩ (.slice AN nn cN)).heap[w.heap.size + 1 + 1]? = some (.cells zState 39 (0, 0))) := Lib.hid ((heap_setCell_other _ _ _ _ (by show w.heap.size + 1 + 1 ≠ wd.heap.size; have := LD.out; omega)).trans T2C.out)
 clear hnn hn2 hown hb5 y0 y1 y2 y3 y4 y5 T1B T2B TB T2C TC
 go_wp2_with (first
  | ((with_reducible show wpList _ _ _ _ _ _); refine wpList_load_row (o := ⟨some 58, _, _, _, _, _⟩) rfl _ (.tmp 6) rfl wd.heap.size rfl _ _ _ _ TD.out Tryz.underlying39 rfl (by kernel_rfl) ?_)
  | ((with_reducible show wpList _ _ _ _ _ _); refine wpList_store_row rfl _ (.tmp 4) (.tmp 58) rfl (w.heap.size + 1 + 1) #[.int .i64 act, .int .i64 0, .int .u32 (flo : Int), .int .u32 (g1 : Int), .int .u32 (v0 : Int), .int .i64 l0, .slice D0 n0 k0, .int .u32 (v1 : Int), .int .i64 l1, .slice D1 n1 k1, .bool true, .int .u32 (ms : Int), .int .u32 (mv : Int), .int .i64 ml, .int .i64 mz, .int .i64 mp, .slice AN nn cN] rfl rfl _ _ T2D.out (by kernel_rfl) (by rfl) (by simp [Value.oneCell']) ?_))
 have hrow : ((w5.setCell ⟨wd.heap.size, 16, none⟩ (.slice AN nn cN)).setRow (w.heap.size + 1 + 1) #[.int .i64 act, .int .i64 0, .int .u32 (flo : Int), .int .u32 (g1 : Int), .int .u32 (v0 : Int), .int .i64 l0, .slice D0 n0 k0, .int .u32 (v1 : Int), .int .i64 l1, .slice D1 n1 k1, .bool true, .int .u32 (ms : Int), .int .u32 (mv : Int), .int .i64 ml, .int .i64 mz, .int .i64 mp, .slice AN nn cN]).heap[w.heap.size + 1 + 1]? = some (.cells #[.int .i64 act, .int .i64 0, .int .u32 (flo : Int), .int .u32 (g1 : Int), .int .u32 (v0 : Int), .int .i64 l0, .slice D0 n0 k0, .int .u32 (v1 : Int), .int .i64 l1, .slice D1 n1 k1, .bool true, .int .u32 (ms : Int), .int .u32 (mv : Int), .int .i64 ml, .int .i64 mz, .int .i64 mp, .slice AN nn cN] 39 (0, 0)) := setRow_heap _ _ _ _ _ _ T2D.out
 have hk5 : ∀ b, w9.heap.size ≤ b → b ≠ wd.heap.size → ((w5.setCell ⟨wd.heap.size, 16, none⟩ (.slice AN nn cN)).setRow (w.heap.size + 1 + 1) #[.int .i64 act, .int .i64 0, .int .u32 (flo : Int), .int .u32 (g1 : Int), .int .u32 (v0 : Int), .int .i64 l0, .slice D0 n0 k0, .int .u32 (v1 : Int), .int .i64 l1, .slice D1 n1 k1, .bool true, .int .u32 (ms : Int), .int .u32 (mv : Int), .int .i64 ml, .int .i64 mz, .int .i64 mp, .slice AN nn cN]).heap[b]? = w5.heap[b]? := fun b h1 h2 => (setRow_other _ (w.heap.size + 1 + 1) b _ (by have := LU.out; omega)).trans (heap_setCell_other _ _ _ _ h2)
 have hk : ∀ b, w9.heap.size ≤ b → b < wd.heap.size → ((w5.setCell ⟨wd.heap.size, 16, none⟩ (.slice AN nn cN)).setRow (w.heap.size + 1 + 1) #[.int .i64 act, .int .i64 0, .int .u32 (flo : Int), .int .u32 (g1 : Int), .int .u32 (v0 : Int), .int .i64 l0, .slice D0 n0 k0, .int .u32 (v1 : Int), .int .i64 l1, .slice D1 n1 k1, .bool true, .int .u32 (ms : Int), .int .u32 (mv : Int), .int .i64 ml, .int .i64 mz, .int .i64 mp, .slice AN nn cN]).heap[b]? = wd.heap[b]? := fun b h1 h2 => (hk5 b h1 (by omega)).trans ((K5.out b (by omega)).trans ((KB.out b (by omega)).trans (KA.out b h2)))
 have hs5 : wd.heap.size ≤ w5.heap.size := by
  have := (Array.getElem?_eq_some_iff.1 TD.out).1
  simp at this
  omega
 have hl9 : w.heap.size ≤ w9.heap.size := HB9.out.size
 have hb9 : w9.heap.size ≤ wd.heap.size := HW9.out
 have hbB : wB.heap.size = wd.heap.size + 1 := SB.out
 refine bodyPost_ret (results_cell_tmp_row rfl _ _ (w.heap.size + 1 + 1) _ _ (0, 0) _ rfl hrow Tryz.underlying39 rfl (by kernel_rfl)) rfl ?_
 have e2 : nn = 32 := HN2.out.trans HMN.out
 subst e2
 have e1 := HG1.out
 subst e1
 exact ⟨D0, k0, D1, k1, AN, cN, rfl, Lib.hid ((P0.out.keep (by simpa using hs5) hk).less hl9), Lib.hid ((P1.out.keep (by simpa using hs5) hk).less hl9), Lib.hid ((PN.out.keep (by simp) (fun b h1 h2 => hk5 b (by omega) (by omega))).less (by omega)), Lib.hid (below_setRow2 (HB5.out.setCell HWD.out _) (by omega) _)⟩
end Go.Proofs.YtmncpgfdpcckpaaGreatDoor
namespace Go.Proofs.YtmncpgfdpcckpaaGreatDoor
open Go.RowKit
set_option maxHeartbeats 4000000 in
theorem admit_gt (act : Int) (flo gen v0 : Nat) (l0 : Int) (A0 : Option Addr) (n0 c0 : Nat) (v1 : Nat) (l1 : Int) (A1 : Option Addr) (n1 c1 : Nat) (s v : Nat) (l z p : Int) (A : Option Addr) (n c B : Nat) (h0 h1 h : List UInt8) (ms mv : Nat) (ml mz mp : Int) (MA : Option Addr) (mn mc : Nat) (mh : List UInt8) (w : World) (hmay : mayB2 act 0 v0 l0 h0 v1 l1 h1 true s v l z p h = true) (hmm : manB ml mz mp mn = true) (hmn : mn = 32) (hn0 : n0 ≤ 1000000000) (hn1 : n1 ≤ 1000000000) (hn : n ≤ 1000000000) (hs : decide (s = ms ∧ v = mv ∧ l = ml ∧ z = mz ∧ p = mp ∧ h = mh) = false) (hnw : newB (mayB2 act 0 v0 l0 h0 v1 l1 h1 true s v l z p h) act flo v0 v1 true v mv = true) (hge : gen < 4294967294) (hl0 : Row w B A0 n0 (bv h0)) (hl1 : Row w B A1 n1 (bv h1)) (hl : Row w B A n (bv h)) (hlm : Row w B MA mn (bv mh)) (hB : B ≤ w.heap.size) :
  Calls Tryz.prog 41 #[.agg #[.int .i64 act, .int .i64 0, .int .u32 (flo : Int), .int .u32 (gen : Int), .int .u32 (v0 : Int), .int .i64 l0, .slice A0 n0 c0, .int .u32 (v1 : Int), .int .i64 l1, .slice A1 n1 c1, .bool true, .int .u32 (s : Int), .int .u32 (v : Int), .int .i64 l, .int .i64 z, .int .i64 p, .slice A n c], .agg #[.int .u32 (ms : Int), .int .u32 (mv : Int), .int .i64 ml, .int .i64 mz, .int .i64 mp, .slice MA mn mc]] w (AdmitYes act flo gen v0 l0 n0 v1 l1 n1 ms mv ml mz mp h0 h1 mh w) := by
 have HMAY := Lib.hid hmay
 have HGE := Lib.hid hge
 clear hge
 have HNW := Lib.hid hnw
 clear hnw
 have HS := Lib.hid hs
 clear hs
 have HMN := Lib.hid hmn
 clear hmn
 have HN0 := Lib.hid hn0
 have HN1 := Lib.hid hn1
 have HN := Lib.hid hn
 clear hn0 hn1 hn
 have hmay9 := Lib.hid hmay
 have HMM := Lib.hid hmm
 clear hmm
 have HB : Hid (Below w.heap.size w (((w.alloc (.cells #[.int .i64 act, .int .i64 0, .int .u32 (flo : Int), .int .u32 (gen : Int), .int .u32 (v0 : Int), .int .i64 l0, .slice A0 n0 c0, .int .u32 (v1 : Int), .int .i64 l1, .slice A1 n1 c1, .bool true, .int .u32 (s : Int), .int .u32 (v : Int), .int .i64 l, .int .i64 z, .int .i64 p, .slice A n c] 39)).alloc (.cells #[.int .u32 (ms : Int), .int .u32 (mv : Int), .int .i64 ml, .int .i64 mz, .int .i64 mp, .slice MA mn mc] 37)).alloc (.cells zState 39))) := (((Below.refl _ _).alloc (Nat.le_refl _) _).alloc (by simp) _).alloc (by simp; omega) _
 have CM := Lib.hid (may_any act 0 flo gen v0 l0 A0 n0 c0 v1 l1 A1 n1 c1 true s v l z p A n c B h0 h1 h _ (hl0.below (HB.out.mono hB)) (hl1.below (HB.out.mono hB)) (hl.below (HB.out.mono hB)) (Nat.le_trans hB HB.out.size))
 obtain ⟨x0, x1, x2⟩ := alloc3 w (.cells #[.int .i64 act, .int .i64 0, .int .u32 (flo : Int), .int .u32 (gen : Int), .int .u32 (v0 : Int), .int .i64 l0, .slice A0 n0 c0, .int .u32 (v1 : Int), .int .i64 l1, .slice A1 n1 c1, .bool true, .int .u32 (s : Int), .int .u32 (v : Int), .int .i64 l, .int .i64 z, .int .i64 p, .slice A n c] 39) (.cells #[.int .u32 (ms : Int), .int .u32 (mv : Int), .int .i64 ml, .int .i64 mz, .int .i64 mp, .slice MA mn mc] 37) (.cells zState 39)
 have X0 := Lib.hid x0
 have X1 := Lib.hid x1
 have X2 := Lib.hid x2
 have HL0 := Lib.hid hl0
 have HL1 := Lib.hid hl1
 have HL := Lib.hid hl
 have HLM := Lib.hid hlm
 have HBB := Lib.hid hB
 clear hl0 hl1 hl hlm hB x0 x1 x2 hmay
 go_enter Tryz.func41, Tryz.ntmps41
 go_wp2_with fail
 refine CM.out.mono ?_
 rintro e w1 ⟨rfl, hb1⟩
 rw [HMAY.out]
 have HB1 : Hid (Below w.heap.size w w1) := HB.out.trans (hb1.mono HB.out.size)
 have Y0 := Lib.hid ((hb1.block w.heap.size (by simp <;> omega)).trans X0.out)
 have Y1 := Lib.hid ((hb1.block (w.heap.size + 1) (by simp <;> omega)).trans X1.out)
 have Y2 := Lib.hid ((hb1.block (w.heap.size + 2) (by simp <;> omega)).trans X2.out)
 clear hb1 X0 X1 X2 CM HMAY HB
 obtain ⟨y0, y1, y2, y3, y4, y5⟩ := bx6 Y1.out
 go_wp2_with fail
 refine (manMay_any ms mv ml mz mp MA mn mc w1).mono ?_
 rintro e w2 ⟨rfl, hb2⟩
 rw [HMM.out]
 have HB2 : Hid (Below w.heap.size w w2) := HB1.out.trans (hb2.mono HB1.out.size)
 have L1 : Hid (w.heap.size + 2 < w1.heap.size) := (Array.getElem?_eq_some_iff.1 Y2.out).1
 have Z0 := Lib.hid ((hb2.block w.heap.size (by have := L1.out; omega)).trans Y0.out)
 have Z1 := Lib.hid ((hb2.block (w.heap.size + 1) (by have := L1.out; omega)).trans Y1.out)
 have Z2 := Lib.hid ((hb2.block (w.heap.size + 2) L1.out).trans Y2.out)
 clear y0 y1 y2 y3 y4 y5 hb2 Y0 Y1 Y2 HMM L1
 obtain ⟨-, c1x, -, -, -, -, -, -, c10x⟩ := bx17 Z0.out
 obtain ⟨d0, d1, d2, d3, d4, d5⟩ := bx6n Z0.out
 obtain ⟨y0, y1, y2, y3, y4, y5⟩ := bx6 Z1.out
 go_wp2_with fail
 refine (manSame_any s v ms mv l z p ml mz mp B n c mn mc A MA h mh w2 (HL.out.below (HB2.out.mono HBB.out)) (HLM.out.below (HB2.out.mono HBB.out)) (Nat.le_trans HBB.out HB2.out.size)).mono ?_
 rintro e w3 ⟨q, rfl, hq, hb3⟩
 have hq2 := hq.out
 rw [HS.out] at hq2
 subst hq2
 have HB3 : Hid (Below w.heap.size w w3) := HB2.out.trans (hb3.mono HB2.out.size)
 have L1 : Hid (w.heap.size + 2 < w2.heap.size) := (Array.getElem?_eq_some_iff.1 Z2.out).1
 have V0 := Lib.hid ((hb3.block w.heap.size (by have := L1.out; omega)).trans Z0.out)
 have V1 := Lib.hid ((hb3.block (w.heap.size + 1) (by have := L1.out; omega)).trans Z1.out)
 have V2 := Lib.hid ((hb3.block (w.heap.size + 2) L1.out).trans Z2.out)
 clear hb3 hq Z0 Z1 Z2 L1 c1x c10x d0 d1 d2 d3 d4 d5 y0 y1 y2 y3 y4 y5
 obtain ⟨-, k1x, -, -, -, -, -, -, k10x⟩ := bx17 V0.out
 obtain ⟨y0, y1, y2, y3, y4, y5⟩ := bx6 V1.out
 go_wp2_with ((with_reducible show wpList _ _ _ _ _ _); refine wpList_load_row (o := ⟨some 33, _, _, _, _, _⟩) rfl _ (.tmp 2) rfl w.heap.size rfl _ _ _ _ V0.out Tryz.underlying39 rfl (by kernel_rfl) ?_)
 refine (newer_any act 0 flo gen v0 l0 A0 n0 c0 v1 l1 A1 n1 c1 true s v l z p A n c B h0 h1 h mv w3 (HL0.out.below (HB3.out.mono HBB.out)) (HL1.out.below (HB3.out.mono HBB.out)) (HL.out.below (HB3.out.mono HBB.out)) (Nat.le_trans HBB.out HB3.out.size)).mono ?_
 rintro e w9 ⟨rfl, hb9⟩
 rw [HNW.out]
 have HB9 : Hid (Below w.heap.size w w9) := HB3.out.trans (hb9.mono HB3.out.size)
 have L9 : Hid (w.heap.size + 2 < w3.heap.size) := (Array.getElem?_eq_some_iff.1 V2.out).1
 have U0 := Lib.hid ((hb9.block w.heap.size (by have := L9.out; omega)).trans V0.out)
 have U1 := Lib.hid ((hb9.block (w.heap.size + 1) (by have := L9.out; omega)).trans V1.out)
 have U2 := Lib.hid ((hb9.block (w.heap.size + 2) L9.out).trans V2.out)
 clear hb9 L9 k1x k10x y0 y1 y2 y3 y4 y5 HNW
 have gx := bxg U0.out
 have hge : decide ((4294967294 : Int) ≤ (gen : Int)) = false := by have := HGE.out; exact decide_eq_false (by omega)
 go_wp2_with ((with_reducible show wpList _ _ _ _ _ _); refine wpList_load_row (o := ⟨some 44, _, _, _, _, _⟩) rfl _ (.tmp 2) rfl w.heap.size rfl _ _ _ _ U0.out Tryz.underlying39 rfl (by kernel_rfl) ?_)
 have CD := Lib.hid (drop_yes act 0 flo gen v0 l0 A0 n0 c0 v1 l1 A1 n1 c1 true s v l z p A n c B h0 h1 h w9 hmay9.out (HL0.out.below (HB9.out.mono HBB.out)) (HL1.out.below (HB9.out.mono HBB.out)) (HL.out.below (HB9.out.mono HBB.out)) (Nat.le_trans HBB.out HB9.out.size) HN0.out HN1.out HN.out)
 refine CD.out.mono ?_
 rintro e wd ⟨D0, k0, D1, k1, D, kd, rfl, P0, P1, -, hbd⟩
 clear CD
 have LU := Lib.hid (Array.getElem?_eq_some_iff.1 U2.out).1
 have T0 := Lib.hid ((hbd.out.block (w.heap.size + 1) (by have := LU.out; omega)).trans U1.out)
 have T2 := Lib.hid ((hbd.out.block (w.heap.size + 2) LU.out).trans U2.out)
 have HW9 := Lib.hid hbd.out.size
 have HBD : Hid (Below w.heap.size w wd) := HB9.out.trans (hbd.out.mono HB9.out.size)
 have LD : Hid (w.heap.size + 2 < wd.heap.size) := (Array.getElem?_eq_some_iff.1 T2.out).1
 obtain ⟨g1, hg1⟩ : ∃ g1 : Nat, g1 = gen + 1 := ⟨_, rfl⟩
 have hgw : IntKind.u32.wrap ((gen : Int) + 1) = (g1 : Int) := by rw [IntKind.wrap_u32]; have := HGE.out; omega
 have HG1 := Lib.hid hg1
 clear gx hge U0 U2 hbd hg1
 go_upto_region 13 with fail
 have kA : ∀ b, b < wd.heap.size → (wd.alloc (.cells #[.int .i64 act, .int .i64 0, .int .u32 (flo : Int), .int .u32 (g1 : Int), .int .u32 (v0 : Int), .int .i64 l0, .slice D0 n0 k0, .int .u32 (v1 : Int), .int .i64 l1, .slice D1 n1 k1, .bool false, .int .u32 0, .int .u32 0, .int .i64 0, .int .i64 0, .int .i64 0, .slice D 0 kd] 39)).heap[b]? = wd.heap[b]? := fun b hb => heap_alloc_old wd _ hb
 have HBA : Hid (Below w.heap.size w (wd.alloc (.cells #[.int .i64 act, .int .i64 0, .int .u32 (flo : Int), .int .u32 (g1 : Int), .int .u32 (v0 : Int), .int .i64 l0, .slice D0 n0 k0, .int .u32 (v1 : Int), .int .i64 l1, .slice D1 n1 k1, .bool false, .int .u32 0, .int .u32 0, .int .i64 0, .int .i64 0, .int .i64 0, .slice D 0 kd] 39))) := HBD.out.alloc HBD.out.size _
 have T1A := Lib.hid ((kA (w.heap.size + 1) (by have := LD.out; omega)).trans T0.out)
 have T2A := Lib.hid ((kA (w.heap.size + 2) LD.out).trans T2.out)
 have TAH := Lib.hid (heap_alloc_new wd (.cells #[.int .i64 act, .int .i64 0, .int .u32 (flo : Int), .int .u32 (g1 : Int), .int .u32 (v0 : Int), .int .i64 l0, .slice D0 n0 k0, .int .u32 (v1 : Int), .int .i64 l1, .slice D1 n1 k1, .bool false, .int .u32 0, .int .u32 0, .int .i64 0, .int .i64 0, .int .i64 0, .slice D 0 kd] 39))
 have KA := Lib.hid kA
 have SA : Hid ((wd.alloc (.cells #[.int .i64 act, .int .i64 0, .int .u32 (flo : Int), .int .u32 (g1 : Int), .int .u32 (v0 : Int), .int .i64 l0, .slice D0 n0 k0, .int .u32 (v1 : Int), .int .i64 l1, .slice D1 n1 k1, .bool false, .int .u32 0, .int .u32 0, .int .i64 0, .int .i64 0, .int .i64 0, .slice D 0 kd] 39)).heap.size = wd.heap.size + 1) := Lib.hid (by simp)
 clear kA T0 T2 hgw
 generalize wd.alloc (.cells #[.int .i64 act, .int .i64 0, .int .u32 (flo : Int), .int .u32 (g1 : Int), .int .u32 (v0 : Int), .int .i64 l0, .slice D0 n0 k0, .int .u32 (v1 : Int), .int .i64 l1, .slice D1 n1 k1, .bool false, .int .u32 0, .int .u32 0, .int .i64 0, .int .i64 0, .int .i64 0, .slice D 0 kd] 39) = wA at *
 have f10 := frozen_of_row wA wd.heap.size 10 _ _ TAH.out
 have f11 := frozen_of_row wA wd.heap.size 11 _ _ TAH.out
 have f12 := frozen_of_row wA wd.heap.size 12 _ _ TAH.out
 have f13 := frozen_of_row wA wd.heap.size 13 _ _ TAH.out
 have f14 := frozen_of_row wA wd.heap.size 14 _ _ TAH.out
 have f15 := frozen_of_row wA wd.heap.size 15 _ _ TAH.out
 have f16 := frozen_of_row wA wd.heap.size 16 _ _ TAH.out
 have c10 := cell_of_row wA wd.heap.size 10 _ _ (0, 0) TAH.out
 have c11 := cell_of_row wA wd.heap.size 11 _ _ (0, 0) TAH.out
 have c12 := cell_of_row wA wd.heap.size 12 _ _ (0, 0) TAH.out
 have c13 := cell_of_row wA wd.heap.size 13 _ _ (0, 0) TAH.out
 have c14 := cell_of_row wA wd.heap.size 14 _ _ (0, 0) TAH.out
 have c15 := cell_of_row wA wd.heap.size 15 _ _ (0, 0) TAH.out
 have c16 := cell_of_row wA wd.heap.size 16 _ _ (0, 0) TAH.out
 obtain ⟨y0, y1, y2, y3, y4, y5⟩ := bx6 T1A.out
 have ne1 : ¬ (w.heap.size + 1 = wd.heap.size) := by have := LD.out; omega
 have ne2 : ¬ (wd.heap.size = w.heap.size + 1) := by have := LD.out; omega
 go_region
 have KB : Hid (∀ b, b ≠ wd.heap.size → ((((((((wA.setCell ⟨wd.heap.size, 10, none⟩ (.bool true)).setCell ⟨wd.heap.size, 11, none⟩ (.int .u32 (ms : Int))).setCell ⟨wd.heap.size, 12, none⟩ (.int .u32 (mv : Int))).setCell ⟨wd.heap.size, 13, none⟩ (.int .i64 ml)).setCell ⟨wd.heap.size, 14, none⟩ (.int .i64 mz)).setCell ⟨wd.heap.size, 15, none⟩ (.int .i64 mp)).setCell ⟨wd.heap.size, 16, none⟩ (.slice MA mn mc)).drew).heap[b]? = wA.heap[b]?) := Lib.hid (fun b hb => keep7 hb _ _ _ _ _ _ _)
 have T1B := Lib.hid ((KB.out (w.heap.size + 1) ne1).trans T1A.out)
 have T2B := Lib.hid ((KB.out (w.heap.size + 2) (by have := LD.out; omega)).trans T2A.out)
 have TB : Hid (((((((((wA.setCell ⟨wd.heap.size, 10, none⟩ (.bool true)).setCell ⟨wd.heap.size, 11, none⟩ (.int .u32 (ms : Int))).setCell ⟨wd.heap.size, 12, none⟩ (.int .u32 (mv : Int))).setCell ⟨wd.heap.size, 13, none⟩ (.int .i64 ml)).setCell ⟨wd.heap.size, 14, none⟩ (.int .i64 mz)).setCell ⟨wd.heap.size, 15, none⟩ (.int .i64 mp)).setCell ⟨wd.heap.size, 16, none⟩ (.slice MA mn mc)).drew).heap[wd.heap.size]? = some (.cells #[.int .i64 act, .int .i64 0, .int .u32 (flo : Int), .int .u32 (g1 : Int), .int .u32 (v0 : Int), .int .i64 l0, .slice D0 n0 k0, .int .u32 (v1 : Int), .int .i64 l1, .slice D1 n1 k1, .bool true, .int .u32 (ms : Int), .int .u32 (mv : Int), .int .i64 ml, .int .i64 mz, .int .i64 mp, .slice MA mn mc] 39 (0, 0))) := Lib.hid (set7d TAH.out (.bool true) (.int .u32 (ms : Int)) (.int .u32 (mv : Int)) (.int .i64 ml) (.int .i64 mz) (.int .i64 mp) (.slice MA mn mc))
 have SB : Hid (((((((((wA.setCell ⟨wd.heap.size, 10, none⟩ (.bool true)).setCell ⟨wd.heap.size, 11, none⟩ (.int .u32 (ms : Int))).setCell ⟨wd.heap.size, 12, none⟩ (.int .u32 (mv : Int))).setCell ⟨wd.heap.size, 13, none⟩ (.int .i64 ml)).setCell ⟨wd.heap.size, 14, none⟩ (.int .i64 mz)).setCell ⟨wd.heap.size, 15, none⟩ (.int .i64 mp)).setCell ⟨wd.heap.size, 16, none⟩ (.slice MA mn mc)).drew).heap.size = wd.heap.size + 1) := Lib.hid ((size7 _ _ _ _ _ _ _).trans SA.out)
 have HWD := Lib.hid HBD.out.size
 have HBX : Hid (Below w.heap.size w ((((((((wA.setCell ⟨wd.heap.size, 10, none⟩ (.bool true)).setCell ⟨wd.heap.size, 11, none⟩ (.int .u32 (ms : Int))).setCell ⟨wd.heap.size, 12, none⟩ (.int .u32 (mv : Int))).setCell ⟨wd.heap.size, 13, none⟩ (.int .i64 ml)).setCell ⟨wd.heap.size, 14, none⟩ (.int .i64 mz)).setCell ⟨wd.heap.size, 15, none⟩ (.int .i64 mp)).setCell ⟨wd.heap.size, 16, none⟩ (.slice MA mn mc)).drew)) := Lib.hid (below7 HBA.out HWD.out _ _ _ _ _ _ _)
 clear f10 f11 f12 f13 f14 f15 f16 c10 c11 c12 c13 c14 c15 c16 y0 y1 y2 y3 y4 y5 T1A T2A TAH SA HBA
 generalize (((((((wA.setCell ⟨wd.heap.size, 10, none⟩ (.bool true)).setCell ⟨wd.heap.size, 11, none⟩ (.int .u32 (ms : Int))).setCell ⟨wd.heap.size, 12, none⟩ (.int .u32 (mv : Int))).setCell ⟨wd.heap.size, 13, none⟩ (.int .i64 ml)).setCell ⟨wd.heap.size, 14, none⟩ (.int .i64 mz)).setCell ⟨wd.heap.size, 15, none⟩ (.int .i64 mp)).setCell ⟨wd.heap.size, 16, none⟩ (.slice MA mn mc)).drew = wB at *
 obtain ⟨y0, y1, y2, y3, y4, y5⟩ := bx6 T1B.out
 go_wp2_with fail
 refine (clone_any B mn mc MA mh wB (HLM.out.below (HBX.out.mono HBB.out)) (by have := HMN.out; omega) (Nat.le_trans HBB.out HBX.out.size)).mono ?_
 rintro e w5 ⟨AN, nn, cN, rfl, hnn, hown, hb5⟩
 have hn2 : nn = mn := by rw [hnn]; exact HLM.out.blen
 have HN2 := Lib.hid hn2
 have T2C := Lib.hid ((hb5.block (w.heap.size + 2) (by have := SB.out; have := LD.out; omega)).trans T2B.out)
 have TC := Lib.hid ((hb5.block wd.heap.size (by have := SB.out; omega)).trans TB.out)
 have HB5 : Hid (Below w.heap.size w w5) := HBX.out.trans (hb5.mono HBX.out.size)
 have K5 : Hid (∀ b, b < wd.heap.size + 1 → w5.heap[b]? = wB.heap[b]?) := Lib.hid (fun b hb => hb5.block b (by have := SB.out; omega))
 have PN := Lib.hid (RowF.of_own hown)
 have f16 := frozen_of_row w5 wd.heap.size 16 _ _ TC.out
 have c16 := cell_of_row w5 wd.heap.size 16 _ _ (0, 0) TC.out
 have TD : Hid ((w5.setCell ⟨wd.heap.size, 16, none⟩ (.slice AN nn cN)).heap[wd.heap.size]? = some (.cells #[.int .i64 act, .int .i64 0, .int .u32 (flo : Int), .int .u32 (g1 : Int), .int .u32 (v0 : Int), .int .i64 l0, .slice D0 n0 k0, .int .u32 (v1 : Int), .int .i64 l1, .slice D1 n1 k1, .bool true, .int .u32 (ms : Int), .int .u32 (mv : Int), .int .i64 ml, .int .i64 mz, .int .i64 mp, .slice AN nn cN] 39 (0, 0))) := Lib.hid (heap_setCell_same w5 wd.heap.size 16 _ _ _ TC.out)
 have T2D : Hid ((w5.setCell ⟨wd.heap.size, 16, none⟩ (.slice AN nn cN)).heap[w.heap.size + 1 + 1]? = some (.cells zState 39 (0, 0))) := Lib.hid ((heap_setCell_other _ _ _ _ (by show w.heap.size + 1 + 1 ≠ wd.heap.size; have := LD.out; omega)).trans T2C.out)
 clear hnn hn2 hown hb5 y0 y1 y2 y3 y4 y5 T1B T2B TB T2C TC
 go_wp2_with (first
  | ((with_reducible show wpList _ _ _ _ _ _); refine wpList_load_row (o := ⟨some 58, _, _, _, _, _⟩) rfl _ (.tmp 6) rfl wd.heap.size rfl _ _ _ _ TD.out Tryz.underlying39 rfl (by kernel_rfl) ?_)
  | ((with_reducible show wpList _ _ _ _ _ _); refine wpList_store_row rfl _ (.tmp 4) (.tmp 58) rfl (w.heap.size + 1 + 1) #[.int .i64 act, .int .i64 0, .int .u32 (flo : Int), .int .u32 (g1 : Int), .int .u32 (v0 : Int), .int .i64 l0, .slice D0 n0 k0, .int .u32 (v1 : Int), .int .i64 l1, .slice D1 n1 k1, .bool true, .int .u32 (ms : Int), .int .u32 (mv : Int), .int .i64 ml, .int .i64 mz, .int .i64 mp, .slice AN nn cN] rfl rfl _ _ T2D.out (by kernel_rfl) (by rfl) (by simp [Value.oneCell']) ?_))
 have hrow : ((w5.setCell ⟨wd.heap.size, 16, none⟩ (.slice AN nn cN)).setRow (w.heap.size + 1 + 1) #[.int .i64 act, .int .i64 0, .int .u32 (flo : Int), .int .u32 (g1 : Int), .int .u32 (v0 : Int), .int .i64 l0, .slice D0 n0 k0, .int .u32 (v1 : Int), .int .i64 l1, .slice D1 n1 k1, .bool true, .int .u32 (ms : Int), .int .u32 (mv : Int), .int .i64 ml, .int .i64 mz, .int .i64 mp, .slice AN nn cN]).heap[w.heap.size + 1 + 1]? = some (.cells #[.int .i64 act, .int .i64 0, .int .u32 (flo : Int), .int .u32 (g1 : Int), .int .u32 (v0 : Int), .int .i64 l0, .slice D0 n0 k0, .int .u32 (v1 : Int), .int .i64 l1, .slice D1 n1 k1, .bool true, .int .u32 (ms : Int), .int .u32 (mv : Int), .int .i64 ml, .int .i64 mz, .int .i64 mp, .slice AN nn cN] 39 (0, 0)) := setRow_heap _ _ _ _ _ _ T2D.out
 have hk5 : ∀ b, w9.heap.size ≤ b → b ≠ wd.heap.size → ((w5.setCell ⟨wd.heap.size, 16, none⟩ (.slice AN nn cN)).setRow (w.heap.size + 1 + 1) #[.int .i64 act, .int .i64 0, .int .u32 (flo : Int), .int .u32 (g1 : Int), .int .u32 (v0 : Int), .int .i64 l0, .slice D0 n0 k0, .int .u32 (v1 : Int), .int .i64 l1, .slice D1 n1 k1, .bool true, .int .u32 (ms : Int), .int .u32 (mv : Int), .int .i64 ml, .int .i64 mz, .int .i64 mp, .slice AN nn cN]).heap[b]? = w5.heap[b]? := fun b h1 h2 => (setRow_other _ (w.heap.size + 1 + 1) b _ (by have := LU.out; omega)).trans (heap_setCell_other _ _ _ _ h2)
 have hk : ∀ b, w9.heap.size ≤ b → b < wd.heap.size → ((w5.setCell ⟨wd.heap.size, 16, none⟩ (.slice AN nn cN)).setRow (w.heap.size + 1 + 1) #[.int .i64 act, .int .i64 0, .int .u32 (flo : Int), .int .u32 (g1 : Int), .int .u32 (v0 : Int), .int .i64 l0, .slice D0 n0 k0, .int .u32 (v1 : Int), .int .i64 l1, .slice D1 n1 k1, .bool true, .int .u32 (ms : Int), .int .u32 (mv : Int), .int .i64 ml, .int .i64 mz, .int .i64 mp, .slice AN nn cN]).heap[b]? = wd.heap[b]? := fun b h1 h2 => (hk5 b h1 (by omega)).trans ((K5.out b (by omega)).trans ((KB.out b (by omega)).trans (KA.out b h2)))
 have hs5 : wd.heap.size ≤ w5.heap.size := by
  have := (Array.getElem?_eq_some_iff.1 TD.out).1
  simp at this
  omega
 have hl9 : w.heap.size ≤ w9.heap.size := HB9.out.size
 have hb9 : w9.heap.size ≤ wd.heap.size := HW9.out
 have hbB : wB.heap.size = wd.heap.size + 1 := SB.out
 refine bodyPost_ret (results_cell_tmp_row rfl _ _ (w.heap.size + 1 + 1) _ _ (0, 0) _ rfl hrow Tryz.underlying39 rfl (by kernel_rfl)) rfl ?_
 have e2 : nn = 32 := HN2.out.trans HMN.out
 subst e2
 have e1 := HG1.out
 subst e1
 exact ⟨D0, k0, D1, k1, AN, cN, rfl, Lib.hid ((P0.out.keep (by simpa using hs5) hk).less hl9), Lib.hid ((P1.out.keep (by simpa using hs5) hk).less hl9), Lib.hid ((PN.out.keep (by simp) (fun b h1 h2 => hk5 b (by omega) (by omega))).less (by omega)), Lib.hid (below_setRow2 (HB5.out.setCell HWD.out _) (by omega) _)⟩
end Go.Proofs.YtmncpgfdpcckpaaGreatDoor
