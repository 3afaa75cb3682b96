/- SpreadSessions' walk. -/
import Derived.Test.YtfkklckoalffkaaDoorSpSomeW
namespace Go.Proofs.YtfkklckoalffkaaDoor.Sp
open Go.RowKit
open VecM RdM SoM Vc
/-- three boxes of parameters, in whatever world since wc -/
abbrev SB3 (wc : World) (g1 g2 g3 : Nat) (s1 s2 s3 K P1 P2 : Nat) (P3 : Int) (Z : Nat) (W : World) : Prop :=
  Below wc.heap.size wc W ∧ (W.cell? ⟨g1, 0, none⟩ = some (.int .u32 (s1 : Int)) ∧ W.cell? ⟨g1, 1, none⟩ = some (.int .i64 (K : Int)) ∧ W.cell? ⟨g1, 2, none⟩ = some (.int .i64 (P1 : Int)) ∧ W.cell? ⟨g1, 3, none⟩ = some (.int .i64 (Z : Int))) ∧
    (W.cell? ⟨g2, 0, none⟩ = some (.int .u32 (s2 : Int)) ∧ W.cell? ⟨g2, 1, none⟩ = some (.int .i64 (K : Int)) ∧ W.cell? ⟨g2, 2, none⟩ = some (.int .i64 (P2 : Int)) ∧ W.cell? ⟨g2, 3, none⟩ = some (.int .i64 (Z : Int))) ∧
    (W.cell? ⟨g3, 0, none⟩ = some (.int .u32 (s3 : Int)) ∧ W.cell? ⟨g3, 1, none⟩ = some (.int .i64 (K : Int)) ∧ W.cell? ⟨g3, 2, none⟩ = some (.int .i64 P3) ∧ W.cell? ⟨g3, 3, none⟩ = some (.int .i64 (Z : Int)))
theorem sb3_keep {wc : World} {g1 g2 g3 s1 s2 s3 K P1 P2 : Nat} {P3 : Int} {Z : Nat} {t1 t2 t3 : TypeId} (h1 : wc.heap[g1]? = some (.cells #[.int .u32 (s1 : Int), .int .i64 (K : Int), .int .i64 (P1 : Int), .int .i64 (Z : Int)] t1 (0, 0))) (h2 : wc.heap[g2]? = some (.cells #[.int .u32 (s2 : Int), .int .i64 (K : Int), .int .i64 (P2 : Int), .int .i64 (Z : Int)] t2 (0, 0)))
    (h3 : wc.heap[g3]? = some (.cells #[.int .u32 (s3 : Int), .int .i64 (K : Int), .int .i64 P3, .int .i64 (Z : Int)] t3 (0, 0))) (W : World) (hW : Below wc.heap.size wc W) : SB3 wc g1 g2 g3 s1 s2 s3 K P1 P2 P3 Z W :=
  ⟨hW, box4 ((hW.block g1 (Array.getElem?_eq_some_iff.1 h1).1).trans h1), box4 ((hW.block g2 (Array.getElem?_eq_some_iff.1 h2).1).trans h2), box4 ((hW.block g3 (Array.getElem?_eq_some_iff.1 h3).1).trans h3)⟩
theorem sb3_next {wc W W' : World} {g1 g2 g3 s1 s2 s3 K P1 P2 : Nat} {P3 : Int} {Z : Nat} (h : SB3 wc g1 g2 g3 s1 s2 s3 K P1 P2 P3 Z W) (hb : Below W.heap.size W W') : Below wc.heap.size wc W' := h.1.trans (hb.mono h.1.size)
theorem sb3_below {wc W : World} {g1 g2 g3 s1 s2 s3 K P1 P2 : Nat} {P3 : Int} {Z : Nat} (h : SB3 wc g1 g2 g3 s1 s2 s3 K P1 P2 P3 Z W) : Below wc.heap.size wc W := h.1
set_option maxRecDepth 100000 in
set_option maxHeartbeats 3200000 in
theorem sessions_walk (s : Nat) (K0 P0 Z0 : Int) (other : Nat) (ho : other < 2 ^ 32) (id : Nat) (hid : id < 2 ^ 32) (w : World) (ht : DTab w) (hs : s < 4294967296) :
    Calls Tryd.prog 5 #[.agg #[.int .u32 (s : Int), .int .i64 K0, .int .i64 P0, .int .i64 Z0], .int .u32 (other : Int), .int .u32 (id : Int)] w fun e w' => e = .returned (.bool true) ∧ Below w.heap.size w w' := by
  have HOT := Lib.hid ho
  clear ho
  have hx := heap_alloc_new w (.cells #[.int .u32 (s : Int), .int .i64 K0, .int .i64 P0, .int .i64 Z0] 24)
  have hb0 : Below w.heap.size w (w.alloc (.cells #[.int .u32 (s : Int), .int .i64 K0, .int .i64 P0, .int .i64 Z0] 24)) := (Below.refl _ _).alloc (Nat.le_refl _) _
  have hz : (w.alloc (.cells #[.int .u32 (s : Int), .int .i64 K0, .int .i64 P0, .int .i64 Z0] 24)).heap.size = w.heap.size + 1 := by simp
  have HX := Lib.hid hx
  have HB0 := Lib.hid hb0
  have HZ := Lib.hid hz
  have HT := Lib.hid ht
  have HSO := Lib.hid (fun W => sound_any s K0 P0 Z0 W)
  unfold parV at HSO
  have HS := Lib.hid hs
  have HID := Lib.hid hid
  clear hx hb0 hz ht hs hid
  go_enter Tryd.func5, Tryd.ntmps5
  go_wp2_with fail
  refine (HSO.out _).mono ?_
  rintro e w1 ⟨K, P, Z, rfl, hF, hb1⟩
  have hbx := (hb1.out.block w.heap.size (by have := HZ.out; omega)).trans HX.out
  have HB1 := Lib.hid (HB0.out.trans (hb1.out.mono HB0.out.size))
  have hlt1 : w.heap.size < w1.heap.size := by have := hb1.out.size; have := HZ.out; omega
  obtain ⟨c0, c1, c2, c3⟩ := box4 hbx
  obtain ⟨f0, f1, f2, f3⟩ := frozen4 hbx
  have HBX := Lib.hid hbx
  unfold parV
  clear hb1 hbx
  have hF1 := hF.out
  obtain ⟨j, hj⟩ : ∃ j, id % K = j := ⟨_, rfl⟩
  have hjk : j < K := by rw [← hj]; exact Nat.mod_lt _ (by omega)
  have HJ : Hid ((id : Int) % (K : Int) = (j : Int)) := by show _ = _; omega
  have HJ2 : Hid (((id : Int).tmod (K : Int)) = (j : Int)) := by show _ = _; rw [Int.tmod_eq_emod_of_nonneg (by omega)]; exact HJ.out
  have HKM : Hid ((K : Int) % 4294967296 = (K : Int)) := by show _ = _; omega
  have hk1 : (1 : Int) ≤ (K : Int) := by omega
  have hk2 : (K : Int) ≤ 64 := by omega
  have hk0 : ((K : Int) == 0) = false := by simp; omega
  have hk00 : ¬ (K : Int) = 0 := by omega
  have HJK := Lib.hid hjk
  clear hF1 hj hjk
  go_wp2_with (first | rw [HKM.out, HJ.out] | rw [HJ.out] | rw [HJ2.out] | rw [HKM.out])
  have hst := set4 HBX.out (.int .u32 (s : Int)) (.int .i64 (K : Int)) (.int .i64 (P : Int)) (.int .i64 (Z : Int))
  have hbs : Below w.heap.size w ((((w1.setCell ⟨w.heap.size, 0, none⟩ (.int .u32 (s : Int))).setCell ⟨w.heap.size, 1, none⟩ (.int .i64 (K : Int))).setCell ⟨w.heap.size, 2, none⟩ (.int .i64 (P : Int))).setCell ⟨w.heap.size, 3, none⟩ (.int .i64 (Z : Int))) := (((HB1.out.setCell (Nat.le_refl _) _).setCell (Nat.le_refl _) _).setCell (Nat.le_refl _) _).setCell (Nat.le_refl _) _
  have hsz : ((((w1.setCell ⟨w.heap.size, 0, none⟩ (.int .u32 (s : Int))).setCell ⟨w.heap.size, 1, none⟩ (.int .i64 (K : Int))).setCell ⟨w.heap.size, 2, none⟩ (.int .i64 (P : Int))).setCell ⟨w.heap.size, 3, none⟩ (.int .i64 (Z : Int))).heap.size = w1.heap.size := by simp
  generalize ((((w1.setCell ⟨w.heap.size, 0, none⟩ (.int .u32 (s : Int))).setCell ⟨w.heap.size, 1, none⟩ (.int .i64 (K : Int))).setCell ⟨w.heap.size, 2, none⟩ (.int .i64 (P : Int))).setCell ⟨w.heap.size, 3, none⟩ (.int .i64 (Z : Int))) = W1 at *
  have hq := heap_alloc_new W1 (.cells #[.int .u32 (other : Int), .int .i64 (K : Int), .int .i64 (P : Int), .int .i64 (Z : Int)] 24)
  have hr := heap_alloc_new (W1.alloc (.cells #[.int .u32 (other : Int), .int .i64 (K : Int), .int .i64 (P : Int), .int .i64 (Z : Int)] 24)) (.cells #[.int .u32 (s : Int), .int .i64 (K : Int), .int .i64 0, .int .i64 (Z : Int)] 24)
  have hs1 : (W1.alloc (.cells #[.int .u32 (other : Int), .int .i64 (K : Int), .int .i64 (P : Int), .int .i64 (Z : Int)] 24)).heap.size = w1.heap.size + 1 := by simp [hsz]
  have hbl1 : Below W1.heap.size W1 (W1.alloc (.cells #[.int .u32 (other : Int), .int .i64 (K : Int), .int .i64 (P : Int), .int .i64 (Z : Int)] 24)) := (Below.refl _ _).alloc (Nat.le_refl _) _
  rw [hsz] at hq hbl1
  generalize (W1.alloc (.cells #[.int .u32 (other : Int), .int .i64 (K : Int), .int .i64 (P : Int), .int .i64 (Z : Int)] 24)) = W2 at *
  have hbl2 : Below W2.heap.size W2 (W2.alloc (.cells #[.int .u32 (s : Int), .int .i64 (K : Int), .int .i64 0, .int .i64 (Z : Int)] 24)) := (Below.refl _ _).alloc (Nat.le_refl _) _
  rw [hs1] at hr hbl2
  generalize (W2.alloc (.cells #[.int .u32 (s : Int), .int .i64 (K : Int), .int .i64 0, .int .i64 (Z : Int)] 24)) = wb at *
  have HX1 := Lib.hid ((hbl2.block w.heap.size (by omega)).trans ((hbl1.block w.heap.size (by omega)).trans hst))
  have HX2 := Lib.hid ((hbl2.block w1.heap.size (by omega)).trans hq)
  have HX3 := Lib.hid hr
  have hw1 := hbs.size
  have HBA := Lib.hid (hbs.trans ((hbl1.mono (by omega)).trans (hbl2.mono (by omega))))
  clear hst hbs hsz hlt1 c0 c1 c2 c3 f0 f1 f2 f3 HBX HB1 HX HB0 HZ HSO hq hr hs1 hbl1 hbl2 hw1 HJ HJ2 HKM
  have hj32 : j < 4294967296 := by have := HJK.out; omega
  have hF1 := hF.out
  have hX1 : spX s K P j = 2 ^ j := by unfold spX; rw [if_pos HJK.out]
  have hX2 : spX other K P j = 2 ^ j := by unfold spX; rw [if_pos HJK.out]
  have hX3 : spX s K 0 j = 2 ^ j := by unfold spX; rw [if_pos HJK.out]
  have hX4 : ofL K [(j : Int)] = 2 ^ j := ofL_one K j HJK.out
  have hLs : Ls (2 ^ j) = [j] := Ls_pow j (by have := HJK.out; omega)
  have hR1 := row_any s j K P Z wb HS.out hj32 hF1.1 hF1.2.1 hF1.2.2
  have hR2 := fun W => row_any other j K P Z W HOT.out hj32 hF1.1 hF1.2.1 hF1.2.2
  have hR3 := fun W => row_any s j K 0 Z W HS.out hj32 hF1.1 (by omega) hF1.2.2
  have hO := fun W (A : Option Addr) (c : Nat) (hr : Row W W.heap.size A 1 (nv [(j : Int)])) => of_any K A 1 c W.heap.size [(j : Int)] W hr (Nat.le_refl _) (by omega) (by omega)
  have hP := fun W => pieces_any s (K : Int) (P : Int) (Z : Int) W (by omega) (by omega)
  rw [show mayB (K : Int) (P : Int) (Z : Int) = true from (mayB_iff _ _ _).2 (by omega), if_pos rfl] at hP
  rw [hX1] at hR1
  rw [hX2] at hR2
  rw [hX3] at hR3
  rw [hX4] at hO
  obtain ⟨n, hn⟩ : ∃ n, K + P = n := ⟨_, rfl⟩
  have hnn : (K : Int) + (P : Int) = (n : Int) := by omega
  rw [hn] at hR1 hR2
  rw [hnn] at hP
  generalize 2 ^ j = X at *
  rw [Nat.add_zero] at hR3
  unfold parV at hR1 hR2 hR3 hP
  have HR1 := Lib.hid hR1
  have HR2 := Lib.hid hR2
  have HR3 := Lib.hid hR3
  have HO := Lib.hid hO
  have HP := Lib.hid hP
  have HLS := Lib.hid hLs
  have hkeep := Lib.hid (sb3_keep HX1.out HX2.out HX3.out)
  clear hR1 hR2 hR3 hO hP hX1 hX2 hX3 hX4 hLs hF1 hj32 hn hnn HX1 HX2 HX3
  refine HR1.out.mono ?_
  rintro e wc ⟨g, h, rfl, _, _, hv, hbc⟩
  have HV := hv
  have hd := HT.out.grow HBA.out
  have hc2 : DTab wc := hd.grow hbc.out
  have HBC := Lib.hid (HBA.out.trans (hbc.out.mono HBA.out.size))
  have hkp := Lib.hid (fun W (hW : Below wc.heap.size wc W) => (⟨hW, (hkeep.out W (hbc.out.trans (hW.mono hbc.out.size))).2⟩ : SB3 wc w.heap.size w1.heap.size (w1.heap.size + 1) s other s K P P 0 Z W))
  have H1 := Lib.hid (fun (W : World) (hW : Below wc.heap.size wc W) (g' h' : Nat) (hv' : VecAt W g' h' n X) => QB_below (same_vv g h n X g' h' X W (HV.out.below hW) hv'))
  have H2 := Lib.hid (fun (W : World) (g1 h1 g2 h2 : Nat) (v1 : VecAt W g1 h1 K X) (v2 : VecAt W g2 h2 K X) => QB_below (same_vv g1 h1 K X g2 h2 X W v1 v2))
  rw [show decide (X = X) = true by simp] at H1 H2
  have hl := fun (W : World) (hW : Below wc.heap.size wc W) => list_any g h n X W (HV.out.below hW) (hc2.grow hW)
  unfold ListOk at hl
  rw [HLS.out] at hl
  have H3 := Lib.hid hl
  have H4 := Lib.hid (fun (W : World) (hW : Below wc.heap.size wc W) => quiet_below (len_any g h n X W (HV.out.below hW)))
  have H5 := Lib.hid (fun (W : World) (hW : Below wc.heap.size wc W) => awake8_any W (hc2.grow hW))
  clear hl hd hc2 hv hbc HLS HT HS HID HOT hF HJK hkeep HR1 HV
  go_wp2_with fail
  go_region_held3 (SB3 wc w.heap.size w1.heap.size (w1.heap.size + 1) s other s K P P 0 Z)
    (first | exact hkp.out _ (sb3_next (by assumption) (by assumption)) | exact hkp.out _ (Below.refl _ _).drew | exact hkp.out _ (Below.refl _ _))
    (first
      | (go_at_call 11; (with_reducible refine (HR2.out _).mono ?_); rintro e w' ⟨gq, hq, rfl, _, _, hvq, hbel'⟩; have hbel := hbel'.out)
      | (go_at_call 11; (refine (HR3.out _).mono ?_); rintro e w' ⟨gr, hr, rfl, _, _, hvr, hbelR⟩; have hbel := hbelR.out)
      | (go_at_call 14; (with_reducible refine (H1.out _ (sb3_below (by assumption)) _ _ hvq.out).mono ?_); rintro e w' ⟨rfl, hbel⟩)
      | (go_at_call 24; refine (H3.out _ (sb3_below (by assumption))).mono ?_; rintro e w' ⟨A', c', rfl, hown', hbel'⟩; have hbel := hbel'.out; have HRW := Lib.hid (Row.of_own hown'.out))
      | (go_at_call 23; refine (HO.out _ _ _ HRW.out).mono ?_; rintro e w' ⟨go, ho, rfl, _, _, hvo, hbel'⟩; have hbel := hbel'.out)
      | (go_at_call 14; (with_reducible refine (H2.out _ _ _ _ _ (hvo.out.below hbelR.out) hvr.out).mono ?_); rintro e w' ⟨rfl, hbel⟩)
      | (go_at_call 13; refine (H4.out _ (sb3_below (by assumption))).mono ?_; rintro e w' ⟨rfl, hbel⟩)
      | (go_at_call 25; refine (HP.out _).mono ?_; rintro e w' ⟨rfl, hbel'⟩; have hbel := hbel'.out)
      | (go_at_call 16; refine (H5.out _ (sb3_below (by assumption))).mono ?_; rintro e w' ⟨rfl, hbel'⟩; have hbel := hbel'.out))
  obtain ⟨hB, _⟩ := (by assumption : SB3 wc w.heap.size w1.heap.size (w1.heap.size + 1) s other s K P P 0 Z _)
  go_wp2_with fail
  go_ret
  exact ⟨rfl, HBC.out.trans (hB.mono HBC.out.size)⟩
end Go.Proofs.YtfkklckoalffkaaDoor.Sp
