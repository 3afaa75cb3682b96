/- SpreadSome's walk. -/
import Derived.Test.YtfkklckoalffkaaDoorSpAwake
import Derived.Deep.RegionHeld3
import Derived.Deep.DeepCutAuto
import Derived.Test.YtfkklckoalffkaaDoorLike
namespace Go.Proofs.YtfkklckoalffkaaDoor.Sp
open Go.RowKit
open VecM RdM SoM Vc
theorem set4 {w : World} {g : Nat} {t : TypeId} {z0 z1 z2 z3 : Value} (h : w.heap[g]? = some (.cells #[z0, z1, z2, z3] t (0, 0))) (v0 v1 v2 v3 : Value) :
    ((((w.setCell ⟨g, 0, none⟩ v0).setCell ⟨g, 1, none⟩ v1).setCell ⟨g, 2, none⟩ v2).setCell ⟨g, 3, none⟩ v3).heap[g]? = some (.cells #[v0, v1, v2, v3] t (0, 0)) := by
  have h0 : (w.setCell ⟨g, 0, none⟩ v0).heap[g]? = some (.cells #[v0, z1, z2, z3] t (0, 0)) := heap_setCell_same _ g 0 _ t v0 h
  have h1 : ((w.setCell ⟨g, 0, none⟩ v0).setCell ⟨g, 1, none⟩ v1).heap[g]? = some (.cells #[v0, v1, z2, z3] t (0, 0)) := heap_setCell_same _ g 1 _ t v1 h0
  have h2 : (((w.setCell ⟨g, 0, none⟩ v0).setCell ⟨g, 1, none⟩ v1).setCell ⟨g, 2, none⟩ v2).heap[g]? = some (.cells #[v0, v1, v2, z3] t (0, 0)) := heap_setCell_same _ g 2 _ t v2 h1
  exact heap_setCell_same _ g 3 _ t v3 h2
theorem frozen4 {w : World} {g : Nat} {x y z u : Value} {t : TypeId} (h : w.heap[g]? = some (.cells #[x, y, z, u] t (0, 0))) : w.frozen? ⟨g, 0, none⟩ = false ∧ w.frozen? ⟨g, 1, none⟩ = false ∧ w.frozen? ⟨g, 2, none⟩ = false ∧ w.frozen? ⟨g, 3, none⟩ = false :=
  ⟨frozen_of_row w g 0 _ _ h, frozen_of_row w g 1 _ _ h, frozen_of_row w g 2 _ _ h, frozen_of_row w g 3 _ _ h⟩
/-- two boxes of parameters, in whatever world since wc -/
abbrev SB2 (wc : World) (g1 g2 s K P Z Z2 : Nat) (W : World) : Prop :=
  Below wc.heap.size wc W ∧ W.cell? ⟨g1, 0, none⟩ = some (.int .u32 (s : Int)) ∧ W.cell? ⟨g1, 1, none⟩ = some (.int .i64 (K : Int)) ∧ W.cell? ⟨g1, 2, none⟩ = some (.int .i64 (P : Int)) ∧ W.cell? ⟨g1, 3, none⟩ = some (.int .i64 (Z : Int)) ∧
    W.cell? ⟨g2, 0, none⟩ = some (.int .u32 (s : Int)) ∧ W.cell? ⟨g2, 1, none⟩ = some (.int .i64 (K : Int)) ∧ W.cell? ⟨g2, 2, none⟩ = some (.int .i64 (P : Int)) ∧ W.cell? ⟨g2, 3, none⟩ = some (.int .i64 (Z2 : Int))
theorem sb2_keep {wc : World} {g1 g2 s K P Z Z2 : Nat} {t1 t2 : TypeId} (h1 : wc.heap[g1]? = some (.cells #[.int .u32 (s : Int), .int .i64 (K : Int), .int .i64 (P : Int), .int .i64 (Z : Int)] t1 (0, 0))) (h2 : wc.heap[g2]? = some (.cells #[.int .u32 (s : Int), .int .i64 (K : Int), .int .i64 (P : Int), .int .i64 (Z2 : Int)] t2 (0, 0))) (W : World) (hW : Below wc.heap.size wc W) : SB2 wc g1 g2 s K P Z Z2 W := by
  obtain ⟨a0, a1, a2, a3⟩ := box4 ((hW.block g1 (Array.getElem?_eq_some_iff.1 h1).1).trans h1)
  obtain ⟨b0, b1, b2, b3⟩ := box4 ((hW.block g2 (Array.getElem?_eq_some_iff.1 h2).1).trans h2)
  exact ⟨hW, a0, a1, a2, a3, b0, b1, b2, b3⟩
theorem sb2_next {wc W W' : World} {g1 g2 s K P Z Z2 : Nat} (h : SB2 wc g1 g2 s K P Z Z2 W) (hb : Below W.heap.size W W') : Below wc.heap.size wc W' := h.1.trans (hb.mono h.1.size)
theorem sb2_below {wc W : World} {g1 g2 s K P Z Z2 : Nat} (h : SB2 wc g1 g2 s K P Z Z2 W) : Below wc.heap.size wc W := h.1
set_option maxRecDepth 100000 in
set_option maxHeartbeats 1600000 in
theorem some_walk (s : Nat) (K0 P0 Z0 : Int) (id : Nat) (hid : id < 2 ^ 32) (y : Int) (_ : -9223372036854775808 ≤ y) (_ : y ≤ 9223372036854775807) (w : World) (ht : DTab w) (hs : s < 4294967296) :
    Calls Tryd.prog 3 #[.agg #[.int .u32 (s : Int), .int .i64 K0, .int .i64 P0, .int .i64 Z0], .int .u32 (id : Int), .int .i64 y] w fun e w' => e = .returned (.bool true) ∧ Below w.heap.size w w' := by
  have hx := heap_alloc_new w (.cells #[.int .u32 (s : Int), .int .i64 K0, .int .i64 P0, .int .i64 Z0] 24)
  have hb0 : Below w.heap.size w (w.alloc (.cells #[.int .u32 (s : Int), .int .i64 K0, .int .i64 P0, .int .i64 Z0] 24)) := (Below.refl _ _).alloc (Nat.le_refl _) _
  have hz : (w.alloc (.cells #[.int .u32 (s : Int), .int .i64 K0, .int .i64 P0, .int .i64 Z0] 24)).heap.size = w.heap.size + 1 := by simp
  have HX := Lib.hid hx
  have HB0 := Lib.hid hb0
  have HZ := Lib.hid hz
  have HT := Lib.hid ht
  have HSO := Lib.hid (fun W => sound_any s K0 P0 Z0 W)
  obtain ⟨q, hq, hqp⟩ := pick_in y 16 (by omega) (by omega)
  obtain ⟨Z2, hZ2⟩ : ∃ Z2 : Nat, 1 + (q : Int) = (Z2 : Int) := ⟨q + 1, by omega⟩
  have HQ := Lib.hid hqp
  have HZ2 := Lib.hid hZ2
  have hq15 : q ≤ 15 := by omega
  have HZB : Hid (1 ≤ Z2 ∧ Z2 ≤ 16) := ⟨by omega, by omega⟩
  unfold parV at HSO
  have HS := Lib.hid hs
  have HID := Lib.hid hid
  clear hx hb0 hz ht hqp hq hZ2 hs hid
  go_enter Tryd.func3, Tryd.ntmps3
  go_wp2_with fail
  refine (HSO.out _).mono ?_
  rintro e w1 ⟨K, P, Z, rfl, hF, hb1⟩
  have hbx := (hb1.out.block w.heap.size (by have := HZ.out; omega)).trans HX.out
  have HB1 := Lib.hid (HB0.out.trans (hb1.out.mono HB0.out.size))
  have hlt1 : w.heap.size < w1.heap.size := by have := hb1.out.size; have := HZ.out; omega
  obtain ⟨c0, c1, c2, c3⟩ := box4 hbx
  obtain ⟨f0, f1, f2, f3⟩ := frozen4 hbx
  have HBX := Lib.hid hbx
  unfold parV
  clear hb1 hbx
  go_wp2_with fail
  have hst := set4 HBX.out (.int .u32 (s : Int)) (.int .i64 (K : Int)) (.int .i64 (P : Int)) (.int .i64 (Z : Int))
  have hbs : Below w.heap.size w ((((w1.setCell ⟨w.heap.size, 0, none⟩ (.int .u32 (s : Int))).setCell ⟨w.heap.size, 1, none⟩ (.int .i64 (K : Int))).setCell ⟨w.heap.size, 2, none⟩ (.int .i64 (P : Int))).setCell ⟨w.heap.size, 3, none⟩ (.int .i64 (Z : Int))) := (((HB1.out.setCell (Nat.le_refl _) _).setCell (Nat.le_refl _) _).setCell (Nat.le_refl _) _).setCell (Nat.le_refl _) _
  have hsz : ((((w1.setCell ⟨w.heap.size, 0, none⟩ (.int .u32 (s : Int))).setCell ⟨w.heap.size, 1, none⟩ (.int .i64 (K : Int))).setCell ⟨w.heap.size, 2, none⟩ (.int .i64 (P : Int))).setCell ⟨w.heap.size, 3, none⟩ (.int .i64 (Z : Int))).heap.size = w1.heap.size := by simp
  generalize ((((w1.setCell ⟨w.heap.size, 0, none⟩ (.int .u32 (s : Int))).setCell ⟨w.heap.size, 1, none⟩ (.int .i64 (K : Int))).setCell ⟨w.heap.size, 2, none⟩ (.int .i64 (P : Int))).setCell ⟨w.heap.size, 3, none⟩ (.int .i64 (Z : Int))) = W1 at *
  have HST := Lib.hid hst
  have HBS := Lib.hid hbs
  have hlt2 : w.heap.size < W1.heap.size := by omega
  clear hst hbs hsz hlt1 c0 c1 c2 c3 f0 f1 f2 f3 HBX HB1 HX HB0 HZ HSO
  have HBG := Lib.hid (Bag.start W1 (HT.out.grow HBS.out))
  refine (bag_Of HBG.out (row_any s id K P Z W1 HS.out HID.out hF.out.1 hF.out.2.1 hF.out.2.2)).mono ?_
  rintro e w2 ⟨g, h, rfl, HB2⟩
  have hb12 := HB2.out.below
  have hs12 := hb12.size
  obtain ⟨c0, c1, c2, c3⟩ := box4 ((hb12.block w.heap.size hlt2).trans HST.out)
  have hy := heap_alloc_new w2 (.cells #[.int .u32 (s : Int), .int .i64 (K : Int), .int .i64 (P : Int), .int .i64 (Z2 : Int)] 24)
  have HY := Lib.hid hy
  clear hy hb12 HBG
  go_wp2_with (first | rw [HQ.out] | rw [HZ2.out])
  have hal : Below w2.heap.size w2 (w2.alloc (.cells #[.int .u32 (s : Int), .int .i64 (K : Int), .int .i64 (P : Int), .int .i64 (Z2 : Int)] 24)) := (Below.refl _ _).alloc (Nat.le_refl _) _
  have hHB := HB2.out.read hal
  have hbx1 := (hal.block w.heap.size (by omega)).trans ((HB2.out.below.block w.heap.size hlt2).trans HST.out)
  have hgz : w2.heap.size < (w2.alloc (.cells #[.int .u32 (s : Int), .int .i64 (K : Int), .int .i64 (P : Int), .int .i64 (Z2 : Int)] 24)).heap.size := by simp
  have hbx2 := HY.out
  generalize (w2.alloc (.cells #[.int .u32 (s : Int), .int .i64 (K : Int), .int .i64 (P : Int), .int .i64 (Z2 : Int)] 24)) = wb at *
  have HBB := Lib.hid hHB
  have HX1 := Lib.hid hbx1
  have HX2 := Lib.hid hbx2
  have HBA := Lib.hid (HBS.out.trans (HBB.out.below.mono HBS.out.size))
  clear hal hHB hbx1 hbx2 HY HB2 HST hgz hlt2 hs12 c0 c1 c2 c3
  have hcnt := spX_count (s := s) (K := K) (P := P) (id := id) hF.out.1.1 (by have := hF.out; omega)
  obtain ⟨X, hX⟩ : ∃ X, spX s K P id = X := ⟨_, rfl⟩
  rw [hX] at hcnt HBB
  have HXX := Lib.hid hX
  obtain ⟨m, hm⟩ : ∃ m, (Ls X).length = m := ⟨_, rfl⟩
  rw [hm] at hcnt
  have HM := Lib.hid hm
  obtain ⟨hv, _⟩ := HBB.out.at_ 0 g h (K + P) X rfl
  have hd := HBB.out.dtab
  have HC := Lib.hid (count_any g h (K + P) X wb hv)
  rw [hm] at HC
  obtain ⟨n, hn⟩ : ∃ n, K + P = n := ⟨_, rfl⟩
  rw [hn] at hv hcnt
  have hkeep := Lib.hid (sb2_keep HX1.out HX2.out)
  have H1 := Lib.hid (fun (W : World) (hW : Below wb.heap.size wb W) => quiet_below (len_any g h n X W (hv.below hW)))
  have H2 := Lib.hid (fun (W : World) (z : Nat) (hz : 1 ≤ z ∧ z ≤ 16) => row_any s id K P z W HS.out HID.out hF.out.1 hF.out.2.1 hz)
  have H3 := Lib.hid (fun (W : World) (hW : Below wb.heap.size wb W) (g' h' : Nat) (hv' : VecAt W g' h' n X) => QB_below (same_vv g h n X g' h' X W (hv.below hW) hv'))
  rw [show decide (X = X) = true by simp] at H3
  rw [hn, hX] at H2
  unfold parV at H2
  have H4 := Lib.hid (fun (W : World) (hW : Below wb.heap.size wb W) => first_any g h n X W (hv.below hW) (hd.grow hW))
  have H5 := Lib.hid (fun (W : World) (hW : Below wb.heap.size wb W) => awake8_any W (hd.grow hW))
  have HK : Hid ((K : Int) + (P : Int) = (n : Int)) := by show _ = _; omega
  have hKP : IntKind.i64.wrap ((K : Int) + (P : Int)) = (n : Int) := by rw [HK.out]; exact IntWalk.i64_in _ (by have := hF.out; omega)
  have hk := hF.out.1.2
  have hk1 := hF.out.1.1
  have hpp := hF.out.2.1
  have hm1 : decide ((m : Int) < 1) = false := by simp; omega
  have hmn : decide (n < m) = false := by simp; omega
  have hnn : ((n : Int) != (n : Int)) = false := by simp
  have HCN := Lib.hid hcnt.2.2
  have HZF := Lib.hid hF.out.2.2
  have hid32 := HID.out
  clear hm hX hcnt hv hd HX1 HX2 hn
  refine HC.out.mono ?_
  rintro e w' ⟨rfl, rfl⟩
  go_wp2_with fail
  go_region_held3 (SB2 wb w.heap.size w2.heap.size s K P Z Z2)
    (first | exact hkeep.out _ (sb2_next (by assumption) (by assumption)) | exact hkeep.out _ (Below.refl _ _).drew | exact hkeep.out _ (Below.refl _ _))
    (first
      | (go_at_call 13; refine (H1.out _ (sb2_below (by assumption))).mono ?_; rintro e w' ⟨rfl, hbel⟩)
      | (go_at_call 11; (with_reducible refine (H2.out _ Z2 HZB.out).mono ?_); rintro e w' ⟨g', h', rfl, _, _, hv', hbel'⟩; have hbel := hbel'.out)
      | (go_at_call 11; (with_reducible refine (H2.out _ Z HZF.out).mono ?_); rintro e w' ⟨g', h', rfl, _, _, hv', hbel'⟩; have hbel := hbel'.out)
      | (go_at_call 14; refine (H3.out _ (sb2_below (by assumption)) _ _ hv'.out).mono ?_; rintro e w' ⟨rfl, hbel⟩))
  obtain ⟨hB, _, c1, _, _, _, _, _, _⟩ := (by assumption : SB2 wb w.heap.size w2.heap.size s K P Z Z2 _)
  have HBC := Lib.hid hB
  have hk64 : (K : Int) ≤ 64 := by omega
  by_cases hlt : id < K
  · have hls := HCN.out hlt
    have hm1' := HM.out
    rw [hls] at hm1'
    obtain rfl : m = 1 := by simpa using hm1'.symm
    have hF4 := Lib.hid (H4.out _ hB)
    rw [hls, show firstI [id] = (id : Int) from rfl] at hF4
    have hlt' : (id : Int) < (K : Int) := by omega
    have hd1 : decide (K ≤ id) = false := by simp; omega
    have HLT := Lib.hid hlt
    clear hls hm1' hB hlt hkeep hKP hm1 hmn hnn
    go_wp2_with fail
    refine hF4.out.mono ?_
    rintro e w8 ⟨rfl, rfl⟩
    go_wp2_with fail
    refine (H5.out _ HBC.out).mono ?_
    rintro e w9 ⟨rfl, hb9⟩
    go_wp2_with fail
    go_ret
    exact ⟨rfl, HBA.out.trans ((HBC.out.trans (hb9.out.mono HBC.out.size)).mono HBA.out.size)⟩
  · have hlt' : (K : Int) ≤ (id : Int) := by omega
    have hd1 : decide (K ≤ id) = true := by simp; omega
    clear hB hlt hkeep hKP hm1 hmn hnn
    go_wp2_with fail
    refine (H5.out _ HBC.out).mono ?_
    rintro e w9 ⟨rfl, hb9⟩
    go_wp2_with fail
    go_ret
    exact ⟨rfl, HBA.out.trans ((HBC.out.trans (hb9.out.mono HBC.out.size)).mono HBA.out.size)⟩
end Go.Proofs.YtfkklckoalffkaaDoor.Sp
