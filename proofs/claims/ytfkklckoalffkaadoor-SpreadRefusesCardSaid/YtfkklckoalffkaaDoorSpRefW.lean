/- SpreadRefuses' walk. -/
import Derived.Test.YtfkklckoalffkaaDoorSpSomeW
namespace Go.Proofs.YtfkklckoalffkaaDoor.Sp
open Go.RowKit
open VecM RdM SoM Vc
/-- two boxes of parameters, each with numbers of its own, in whatever world since wc -/
abbrev SBG (wc : World) (g1 g2 s : Nat) (K1 P1 Z1 K2 P2 Z2 : Int) (W : World) : Prop :=
  Below wc.heap.size wc W ∧ (W.cell? ⟨g1, 0, none⟩ = some (.int .u32 (s : Int)) ∧ W.cell? ⟨g1, 1, none⟩ = some (.int .i64 K1) ∧ W.cell? ⟨g1, 2, none⟩ = some (.int .i64 P1) ∧ W.cell? ⟨g1, 3, none⟩ = some (.int .i64 Z1)) ∧
    (W.cell? ⟨g2, 0, none⟩ = some (.int .u32 (s : Int)) ∧ W.cell? ⟨g2, 1, none⟩ = some (.int .i64 K2) ∧ W.cell? ⟨g2, 2, none⟩ = some (.int .i64 P2) ∧ W.cell? ⟨g2, 3, none⟩ = some (.int .i64 Z2))
theorem sbg_keep {wc : World} {g1 g2 s : Nat} {K1 P1 Z1 K2 P2 Z2 : Int} {t1 t2 : TypeId} (h1 : wc.heap[g1]? = some (.cells #[.int .u32 (s : Int), .int .i64 K1, .int .i64 P1, .int .i64 Z1] t1 (0, 0))) (h2 : wc.heap[g2]? = some (.cells #[.int .u32 (s : Int), .int .i64 K2, .int .i64 P2, .int .i64 Z2] t2 (0, 0)))
    (W : World) (hW : Below wc.heap.size wc W) : SBG wc g1 g2 s K1 P1 Z1 K2 P2 Z2 W :=
  ⟨hW, box4 ((hW.block g1 (Array.getElem?_eq_some_iff.1 h1).1).trans h1), box4 ((hW.block g2 (Array.getElem?_eq_some_iff.1 h2).1).trans h2)⟩
theorem sbg_next {wc W W' : World} {g1 g2 s : Nat} {K1 P1 Z1 K2 P2 Z2 : Int} (h : SBG wc g1 g2 s K1 P1 Z1 K2 P2 Z2 W) (hb : Below W.heap.size W W') : Below wc.heap.size wc W' := h.1.trans (hb.mono h.1.size)
theorem sbg_below {wc W : World} {g1 g2 s : Nat} {K1 P1 Z1 K2 P2 Z2 : Int} (h : SBG wc g1 g2 s K1 P1 Z1 K2 P2 Z2 W) : Below wc.heap.size wc W := h.1
def Two4 (X : Array Value) (g3 g4 : Nat) (w wx : World) : Prop :=
  wx.heap[g3]? = some (.cells X 24 (0, 0)) ∧ wx.heap[g4]? = some (.cells X 24 (0, 0)) ∧ Below w.heap.size w wx ∧ g3 ≠ g4 ∧ w.heap.size ≤ g3 ∧ w.heap.size ≤ g4
theorem two4_new (X : Array Value) (w : World) : Hid (Two4 X w.heap.size (w.heap.size + 1) w ((w.alloc (.cells X 24)).alloc (.cells X 24)).drew) :=
  ⟨heap_alloc2_old w _ _, heap_alloc2_new w _ _, (((Below.refl _ _).alloc (Nat.le_refl _) _).alloc (by simp) _).drew, by omega, by omega, by omega⟩
theorem two4_swap (X : Array Value) (w : World) : Hid (Two4 X (w.heap.size + 1) w.heap.size w ((w.alloc (.cells X 24)).alloc (.cells X 24)).drew) :=
  ⟨heap_alloc2_new w _ _, heap_alloc2_old w _ _, (((Below.refl _ _).alloc (Nat.le_refl _) _).alloc (by simp) _).drew, by omega, by omega, by omega⟩
set_option maxRecDepth 100000 in
set_option maxHeartbeats 3200000 in
theorem refuses_walk (s : Nat) (K0 P0 Z0 : Int) (y : Int) (_ : -9223372036854775808 ≤ y) (_ : y ≤ 9223372036854775807) (id : Nat) (hid : id < 2 ^ 32) (w : World) (ht : DTab w) (hs : s < 4294967296) :
    Calls Tryd.prog 6 #[.agg #[.int .u32 (s : Int), .int .i64 K0, .int .i64 P0, .int .i64 Z0], .int .i64 y, .int .u32 (id : Int)] w fun e w' => e = .returned (.bool true) ∧ Below w.heap.size w w' := by
  have hx := heap_alloc_new w (.cells #[.int .u32 (s : Int), .int .i64 K0, .int .i64 P0, .int .i64 Z0] 24)
  have hb0 : Below w.heap.size w (w.alloc (.cells #[.int .u32 (s : Int), .int .i64 K0, .int .i64 P0, .int .i64 Z0] 24)) := (Below.refl _ _).alloc (Nat.le_refl _) _
  have hz : (w.alloc (.cells #[.int .u32 (s : Int), .int .i64 K0, .int .i64 P0, .int .i64 Z0] 24)).heap.size = w.heap.size + 1 := by simp
  have HX := Lib.hid hx
  have HB0 := Lib.hid hb0
  have HZ := Lib.hid hz
  have HT := Lib.hid ht
  have HSO := Lib.hid (fun W => sound_any s K0 P0 Z0 W)
  unfold parV at HSO
  have HS := Lib.hid hs
  have HID := Lib.hid hid
  clear hx hb0 hz ht hs hid
  go_enter Tryd.func6, Tryd.ntmps6
  go_wp2_with fail
  refine (HSO.out _).mono ?_
  rintro e w1 ⟨K, P, Z, rfl, hF, hb1⟩
  have hbx := (hb1.out.block w.heap.size (by have := HZ.out; omega)).trans HX.out
  have HB1 := Lib.hid (HB0.out.trans (hb1.out.mono HB0.out.size))
  have hlt1 : w.heap.size < w1.heap.size := by have := hb1.out.size; have := HZ.out; omega
  obtain ⟨c0, c1, c2, c3⟩ := box4 hbx
  obtain ⟨f0, f1, f2, f3⟩ := frozen4 hbx
  have HBX := Lib.hid hbx
  unfold parV
  clear hb1 hbx
  go_upto_region 2 with fail
  have hst := set4 HBX.out (.int .u32 (s : Int)) (.int .i64 (K : Int)) (.int .i64 (P : Int)) (.int .i64 (Z : Int))
  have hbs : Below w.heap.size w ((((w1.setCell ⟨w.heap.size, 0, none⟩ (.int .u32 (s : Int))).setCell ⟨w.heap.size, 1, none⟩ (.int .i64 (K : Int))).setCell ⟨w.heap.size, 2, none⟩ (.int .i64 (P : Int))).setCell ⟨w.heap.size, 3, none⟩ (.int .i64 (Z : Int))) := (((HB1.out.setCell (Nat.le_refl _) _).setCell (Nat.le_refl _) _).setCell (Nat.le_refl _) _).setCell (Nat.le_refl _) _
  have HSZ : Hid (((((w1.setCell ⟨w.heap.size, 0, none⟩ (.int .u32 (s : Int))).setCell ⟨w.heap.size, 1, none⟩ (.int .i64 (K : Int))).setCell ⟨w.heap.size, 2, none⟩ (.int .i64 (P : Int))).setCell ⟨w.heap.size, 3, none⟩ (.int .i64 (Z : Int))).heap.size = w1.heap.size) := by show _ = _; simp
  generalize ((((w1.setCell ⟨w.heap.size, 0, none⟩ (.int .u32 (s : Int))).setCell ⟨w.heap.size, 1, none⟩ (.int .i64 (K : Int))).setCell ⟨w.heap.size, 2, none⟩ (.int .i64 (P : Int))).setCell ⟨w.heap.size, 3, none⟩ (.int .i64 (Z : Int))) = W1 at *
  have hsz : W1.heap.size = w1.heap.size := HSZ.out
  have hlt2 : w.heap.size < W1.heap.size := by omega
  obtain ⟨b0, b1, b2, b3⟩ := box4 hst
  have HBS := Lib.hid hbs
  clear hst hbs hsz HSZ hlt1 c0 c1 c2 c3 f0 f1 f2 f3 HBX HB1 HX HB0 HZ HSO
  go_cut [7, 8] (fun s7 s8 wx => ∃ g7 g8 : Nat, s7 = .pointer (some ⟨g7, 0, none⟩) ∧ s8 = .pointer (some ⟨g8, 0, none⟩) ∧ Hid (Two4 #[.int .u32 (s : Int), .int .i64 (K : Int), .int .i64 (P : Int), .int .i64 (Z : Int)] g7 g8 W1 wx))
  case first =>
    go_region
    all_goals
      go_wp2_with fail
      go_meet
      first
        | exact ⟨_, _, rfl, rfl, two4_new _ W1⟩
        | exact ⟨_, _, rfl, rfl, two4_swap _ W1⟩
  case rest =>
    clear b0 b1 b2 b3
    obtain ⟨g7, g8, rfl, rfl, hz⟩ := hcut
    obtain ⟨z1, z2, hbx, hne, hg7, hg8⟩ := hz.out
    obtain ⟨t, ht3, htt⟩ : ∃ t : Nat, t < 3 ∧ (IntKind.u64.wrap y).tmod 3 = (t : Int) := by
      rw [IntKind.wrap_u64 y, Int.tmod_eq_emod_of_nonneg (by omega)]
      exact ⟨(y % 18446744073709551616 % 3).toNat, by omega, by omega⟩
    have HTT := Lib.hid htt
    have f7 := frozen4 z1
    have f8 := frozen4 z2
    obtain ⟨x0, x1, x2, x3⟩ := box4 z1
    obtain ⟨y0, y1, y2, y3⟩ := box4 z2
    obtain ⟨p0, p1, p2, p3⟩ := f7
    obtain ⟨q0, q1, q2, q3⟩ := f8
    clear htt hz hlt2
    match t, ht3 with
    | 0, _ =>
      go_wp2_with (rw [HTT.out])
      have e1 : (wc.setCell ⟨g7, 1, none⟩ (.int .i64 65)).heap[g7]? = some (.cells #[.int .u32 (s : Int), .int .i64 65, .int .i64 (P : Int), .int .i64 (Z : Int)] 24 (0, 0)) := heap_setCell_same _ g7 1 _ _ (.int .i64 65) z1
      have k1 := (Below.heap_setCell (wc.setCell ⟨g7, 1, none⟩ (.int .i64 65)) ⟨g8, 1, none⟩ (.int .i64 64) g7 hne).trans e1
      have k2 : ((wc.setCell ⟨g7, 1, none⟩ (.int .i64 65)).setCell ⟨g8, 1, none⟩ (.int .i64 64)).heap[g8]? = some (.cells #[.int .u32 (s : Int), .int .i64 64, .int .i64 (P : Int), .int .i64 (Z : Int)] 24 (0, 0)) := heap_setCell_same _ g8 1 _ _ (.int .i64 64) ((Below.heap_setCell wc ⟨g7, 1, none⟩ (.int .i64 65) g8 (Ne.symm hne)).trans z2)
      have hW1 := HBS.out.size
      have hba := ((HBS.out.trans (hbx.mono hW1)).setCell (p := ⟨g7, 1, none⟩) (Nat.le_trans hW1 hg7) (.int .i64 65)).setCell (p := ⟨g8, 1, none⟩) (Nat.le_trans hW1 hg8) (.int .i64 64)
      generalize ((wc.setCell ⟨g7, 1, none⟩ (.int .i64 65)).setCell ⟨g8, 1, none⟩ (.int .i64 64)) = wz at *
      have HBA := Lib.hid hba
      have hF1 := hF.out
      have hm : mayB 65 (P : Int) (Z : Int) = false := by
        cases e : mayB 65 (P : Int) (Z : Int) with
        | false => rfl
        | true => have := (mayB_iff _ _ _).1 e; omega
      have hm2 : mayB 64 (P : Int) (Z : Int) = true := (mayB_iff _ _ _).2 (by omega)
      have hM1 := fun W => may_any s 65 (P : Int) (Z : Int) W
      have hN := fun W => row_no s id 65 (P : Int) (Z : Int) W hm
      have hP := fun W => pieces_any s 65 (P : Int) (Z : Int) W (by omega) (by omega)
      have hM2 := fun W => may_any s 64 (P : Int) (Z : Int) W
      have hR := fun W => row_at s id 64 P Z (s : Int) (id : Int) 64 (P : Int) (Z : Int) rfl rfl rfl rfl rfl W HS.out HID.out (by omega) (by omega) (by omega)
      rw [hm] at hM1 hP
      rw [hm2] at hM2
      rw [if_neg (by decide)] at hP
      obtain ⟨n, hn⟩ : ∃ n, 64 + P = n := ⟨_, rfl⟩
      have HKP : Hid (64 + (P : Int) = (n : Int)) := by show _ = _; omega
      have hKP : IntKind.i64.wrap (64 + (P : Int)) = (n : Int) := by rw [HKP.out]; exact IntWalk.i64_in _ (by omega)
      rw [hn] at hR
      generalize spX s 64 P id = X at *
      unfold parV at hM1 hN hP hM2
      have HM1 := Lib.hid hM1
      have HN := Lib.hid hN
      have HP := Lib.hid hP
      have HM2 := Lib.hid hM2
      have HR := Lib.hid hR
      have HL := Lib.hid (fun (W : World) (g h : Nat) (v : VecAt W g h n X) => quiet_below (len_any g h n X W v))
      have HSN := Lib.hid (fun (W : World) => QB_below (same_nn W))
      have HAW := Lib.hid (fun (W : World) (hW : Below wz.heap.size wz W) => awake8_any W (HT.out.grow (HBA.out.trans (hW.mono HBA.out.size))))
      have hkeep := Lib.hid (sbg_keep k1 k2)
      clear e1 k1 k2 hW1 hba hF1 hm hm2 hM1 hN hP hM2 hR hn x0 x1 x2 x3 y0 y1 y2 y3 p0 p1 p2 p3 q0 q1 q2 q3 z1 z2 hbx hne hg7 hg8 HTT
      go_region_held3 (SBG wz g7 g8 s 65 (P : Int) (Z : Int) 64 (P : Int) (Z : Int))
        (first | exact hkeep.out _ (sbg_next (by assumption) (by assumption)) | exact hkeep.out _ (Below.refl _ _).drew | exact hkeep.out _ (Below.refl _ _))
        (first
          | (go_at_call 26; (with_reducible refine (HM1.out _).mono ?_); rintro e w' ⟨rfl, hbel'⟩; have hbel := hbel'.out)
          | (go_at_call 26; (with_reducible refine (HM2.out _).mono ?_); rintro e w' ⟨rfl, hbel'⟩; have hbel := hbel'.out)
          | (go_at_call 11; (with_reducible refine (HN.out _).mono ?_); rintro e w' ⟨rfl, hbel'⟩; have hbel := hbel'.out)
          | (go_at_call 11; (with_reducible refine (HR.out _).mono ?_); rintro e w' ⟨gr, hr, rfl, _, _, hvr, hbelR⟩; have hbel := hbelR.out)
          | (go_at_call 25; refine (HP.out _).mono ?_; rintro e w' ⟨rfl, hbel'⟩; have hbel := hbel'.out)
          | (go_at_call 13; refine (HL.out _ _ _ hvr.out).mono ?_; rintro e w' ⟨rfl, hbel⟩)
          | (go_at_call 14; refine (HSN.out _).mono ?_; rintro e w' ⟨rfl, hbel⟩)
          | (go_at_call 16; refine (HAW.out _ (sbg_below (by assumption))).mono ?_; rintro e w' ⟨rfl, hbel'⟩; have hbel := hbel'.out))
      obtain ⟨hB, _⟩ := (by assumption : SBG wz g7 g8 s 65 (P : Int) (Z : Int) 64 (P : Int) (Z : Int) _)
      go_wp2_with fail
      go_ret
      exact ⟨rfl, HBA.out.trans (hB.mono HBA.out.size)⟩
    | 1, _ =>
      go_wp2_with (rw [HTT.out])
      have e1 : (wc.setCell ⟨g7, 2, none⟩ (.int .i64 17)).heap[g7]? = some (.cells #[.int .u32 (s : Int), .int .i64 (K : Int), .int .i64 17, .int .i64 (Z : Int)] 24 (0, 0)) := heap_setCell_same _ g7 2 _ _ (.int .i64 17) z1
      have k1 := (Below.heap_setCell (wc.setCell ⟨g7, 2, none⟩ (.int .i64 17)) ⟨g8, 2, none⟩ (.int .i64 16) g7 hne).trans e1
      have k2 : ((wc.setCell ⟨g7, 2, none⟩ (.int .i64 17)).setCell ⟨g8, 2, none⟩ (.int .i64 16)).heap[g8]? = some (.cells #[.int .u32 (s : Int), .int .i64 (K : Int), .int .i64 16, .int .i64 (Z : Int)] 24 (0, 0)) := heap_setCell_same _ g8 2 _ _ (.int .i64 16) ((Below.heap_setCell wc ⟨g7, 2, none⟩ (.int .i64 17) g8 (Ne.symm hne)).trans z2)
      have hW1 := HBS.out.size
      have hba := ((HBS.out.trans (hbx.mono hW1)).setCell (p := ⟨g7, 2, none⟩) (Nat.le_trans hW1 hg7) (.int .i64 17)).setCell (p := ⟨g8, 2, none⟩) (Nat.le_trans hW1 hg8) (.int .i64 16)
      generalize ((wc.setCell ⟨g7, 2, none⟩ (.int .i64 17)).setCell ⟨g8, 2, none⟩ (.int .i64 16)) = wz at *
      have HBA := Lib.hid hba
      have hF1 := hF.out
      have hm : mayB (K : Int) 17 (Z : Int) = false := by
        cases e : mayB (K : Int) 17 (Z : Int) with
        | false => rfl
        | true => have := (mayB_iff _ _ _).1 e; omega
      have hm2 : mayB (K : Int) 16 (Z : Int) = true := (mayB_iff _ _ _).2 (by omega)
      have hM1 := fun W => may_any s (K : Int) 17 (Z : Int) W
      have hN := fun W => row_no s id (K : Int) 17 (Z : Int) W hm
      have hP := fun W => pieces_any s (K : Int) 17 (Z : Int) W (by omega) (by omega)
      have hM2 := fun W => may_any s (K : Int) 16 (Z : Int) W
      have hR := fun W => row_at s id K 16 Z (s : Int) (id : Int) (K : Int) 16 (Z : Int) rfl rfl rfl rfl rfl W HS.out HID.out (by omega) (by omega) (by omega)
      rw [hm] at hM1 hP
      rw [hm2] at hM2
      rw [if_neg (by decide)] at hP
      obtain ⟨n, hn⟩ : ∃ n, K + 16 = n := ⟨_, rfl⟩
      have HKP : Hid ((K : Int) + 16 = (n : Int)) := by show _ = _; omega
      have hKP : IntKind.i64.wrap ((K : Int) + 16) = (n : Int) := by rw [HKP.out]; exact IntWalk.i64_in _ (by omega)
      rw [hn] at hR
      generalize spX s K 16 id = X at *
      unfold parV at hM1 hN hP hM2
      have HM1 := Lib.hid hM1
      have HN := Lib.hid hN
      have HP := Lib.hid hP
      have HM2 := Lib.hid hM2
      have HR := Lib.hid hR
      have HL := Lib.hid (fun (W : World) (g h : Nat) (v : VecAt W g h n X) => quiet_below (len_any g h n X W v))
      have HSN := Lib.hid (fun (W : World) => QB_below (same_nn W))
      have HAW := Lib.hid (fun (W : World) (hW : Below wz.heap.size wz W) => awake8_any W (HT.out.grow (HBA.out.trans (hW.mono HBA.out.size))))
      have hkeep := Lib.hid (sbg_keep k1 k2)
      clear e1 k1 k2 hW1 hba hF1 hm hm2 hM1 hN hP hM2 hR hn x0 x1 x2 x3 y0 y1 y2 y3 p0 p1 p2 p3 q0 q1 q2 q3 z1 z2 hbx hne hg7 hg8 HTT
      go_region_held3 (SBG wz g7 g8 s (K : Int) 17 (Z : Int) (K : Int) 16 (Z : Int))
        (first | exact hkeep.out _ (sbg_next (by assumption) (by assumption)) | exact hkeep.out _ (Below.refl _ _).drew | exact hkeep.out _ (Below.refl _ _))
        (first
          | (go_at_call 26; (with_reducible refine (HM1.out _).mono ?_); rintro e w' ⟨rfl, hbel'⟩; have hbel := hbel'.out)
          | (go_at_call 26; (with_reducible refine (HM2.out _).mono ?_); rintro e w' ⟨rfl, hbel'⟩; have hbel := hbel'.out)
          | (go_at_call 11; (with_reducible refine (HN.out _).mono ?_); rintro e w' ⟨rfl, hbel'⟩; have hbel := hbel'.out)
          | (go_at_call 11; (with_reducible refine (HR.out _).mono ?_); rintro e w' ⟨gr, hr, rfl, _, _, hvr, hbelR⟩; have hbel := hbelR.out)
          | (go_at_call 25; refine (HP.out _).mono ?_; rintro e w' ⟨rfl, hbel'⟩; have hbel := hbel'.out)
          | (go_at_call 13; refine (HL.out _ _ _ hvr.out).mono ?_; rintro e w' ⟨rfl, hbel⟩)
          | (go_at_call 14; refine (HSN.out _).mono ?_; rintro e w' ⟨rfl, hbel⟩)
          | (go_at_call 16; refine (HAW.out _ (sbg_below (by assumption))).mono ?_; rintro e w' ⟨rfl, hbel'⟩; have hbel := hbel'.out))
      obtain ⟨hB, _⟩ := (by assumption : SBG wz g7 g8 s (K : Int) 17 (Z : Int) (K : Int) 16 (Z : Int) _)
      go_wp2_with fail
      go_ret
      exact ⟨rfl, HBA.out.trans (hB.mono HBA.out.size)⟩
    | 2, _ =>
      go_wp2_with (rw [HTT.out])
      have e1 : (wc.setCell ⟨g7, 3, none⟩ (.int .i64 0)).heap[g7]? = some (.cells #[.int .u32 (s : Int), .int .i64 (K : Int), .int .i64 (P : Int), .int .i64 0] 24 (0, 0)) := heap_setCell_same _ g7 3 _ _ (.int .i64 0) z1
      have k1 := (Below.heap_setCell (wc.setCell ⟨g7, 3, none⟩ (.int .i64 0)) ⟨g8, 3, none⟩ (.int .i64 16) g7 hne).trans e1
      have k2 : ((wc.setCell ⟨g7, 3, none⟩ (.int .i64 0)).setCell ⟨g8, 3, none⟩ (.int .i64 16)).heap[g8]? = some (.cells #[.int .u32 (s : Int), .int .i64 (K : Int), .int .i64 (P : Int), .int .i64 16] 24 (0, 0)) := heap_setCell_same _ g8 3 _ _ (.int .i64 16) ((Below.heap_setCell wc ⟨g7, 3, none⟩ (.int .i64 0) g8 (Ne.symm hne)).trans z2)
      have hW1 := HBS.out.size
      have hba := ((HBS.out.trans (hbx.mono hW1)).setCell (p := ⟨g7, 3, none⟩) (Nat.le_trans hW1 hg7) (.int .i64 0)).setCell (p := ⟨g8, 3, none⟩) (Nat.le_trans hW1 hg8) (.int .i64 16)
      generalize ((wc.setCell ⟨g7, 3, none⟩ (.int .i64 0)).setCell ⟨g8, 3, none⟩ (.int .i64 16)) = wz at *
      have HBA := Lib.hid hba
      have hF1 := hF.out
      have hm : mayB (K : Int) (P : Int) 0 = false := by
        cases e : mayB (K : Int) (P : Int) 0 with
        | false => rfl
        | true => have := (mayB_iff _ _ _).1 e; omega
      have hm2 : mayB (K : Int) (P : Int) 16 = true := (mayB_iff _ _ _).2 (by omega)
      have hM1 := fun W => may_any s (K : Int) (P : Int) 0 W
      have hN := fun W => row_no s id (K : Int) (P : Int) 0 W hm
      have hP := fun W => pieces_any s (K : Int) (P : Int) 0 W (by omega) (by omega)
      have hM2 := fun W => may_any s (K : Int) (P : Int) 16 W
      have hR := fun W => row_at s id K P 16 (s : Int) (id : Int) (K : Int) (P : Int) 16 rfl rfl rfl rfl rfl W HS.out HID.out (by omega) (by omega) (by omega)
      rw [hm] at hM1 hP
      rw [hm2] at hM2
      rw [if_neg (by decide)] at hP
      obtain ⟨n, hn⟩ : ∃ n, K + P = n := ⟨_, rfl⟩
      have HKP : Hid ((K : Int) + (P : Int) = (n : Int)) := by show _ = _; omega
      have hKP : IntKind.i64.wrap ((K : Int) + (P : Int)) = (n : Int) := by rw [HKP.out]; exact IntWalk.i64_in _ (by omega)
      rw [hn] at hR
      generalize spX s K P id = X at *
      unfold parV at hM1 hN hP hM2
      have HM1 := Lib.hid hM1
      have HN := Lib.hid hN
      have HP := Lib.hid hP
      have HM2 := Lib.hid hM2
      have HR := Lib.hid hR
      have HL := Lib.hid (fun (W : World) (g h : Nat) (v : VecAt W g h n X) => quiet_below (len_any g h n X W v))
      have HSN := Lib.hid (fun (W : World) => QB_below (same_nn W))
      have HAW := Lib.hid (fun (W : World) (hW : Below wz.heap.size wz W) => awake8_any W (HT.out.grow (HBA.out.trans (hW.mono HBA.out.size))))
      have hkeep := Lib.hid (sbg_keep k1 k2)
      clear e1 k1 k2 hW1 hba hF1 hm hm2 hM1 hN hP hM2 hR hn x0 x1 x2 x3 y0 y1 y2 y3 p0 p1 p2 p3 q0 q1 q2 q3 z1 z2 hbx hne hg7 hg8 HTT
      go_region_held3 (SBG wz g7 g8 s (K : Int) (P : Int) 0 (K : Int) (P : Int) 16)
        (first | exact hkeep.out _ (sbg_next (by assumption) (by assumption)) | exact hkeep.out _ (Below.refl _ _).drew | exact hkeep.out _ (Below.refl _ _))
        (first
          | (go_at_call 26; (with_reducible refine (HM1.out _).mono ?_); rintro e w' ⟨rfl, hbel'⟩; have hbel := hbel'.out)
          | (go_at_call 26; (with_reducible refine (HM2.out _).mono ?_); rintro e w' ⟨rfl, hbel'⟩; have hbel := hbel'.out)
          | (go_at_call 11; (with_reducible refine (HN.out _).mono ?_); rintro e w' ⟨rfl, hbel'⟩; have hbel := hbel'.out)
          | (go_at_call 11; (with_reducible refine (HR.out _).mono ?_); rintro e w' ⟨gr, hr, rfl, _, _, hvr, hbelR⟩; have hbel := hbelR.out)
          | (go_at_call 25; refine (HP.out _).mono ?_; rintro e w' ⟨rfl, hbel'⟩; have hbel := hbel'.out)
          | (go_at_call 13; refine (HL.out _ _ _ hvr.out).mono ?_; rintro e w' ⟨rfl, hbel⟩)
          | (go_at_call 14; refine (HSN.out _).mono ?_; rintro e w' ⟨rfl, hbel⟩)
          | (go_at_call 16; refine (HAW.out _ (sbg_below (by assumption))).mono ?_; rintro e w' ⟨rfl, hbel'⟩; have hbel := hbel'.out))
      obtain ⟨hB, _⟩ := (by assumption : SBG wz g7 g8 s (K : Int) (P : Int) 0 (K : Int) (P : Int) 16 _)
      go_wp2_with fail
      go_ret
      exact ⟨rfl, HBA.out.trans (hB.mono HBA.out.size)⟩
end Go.Proofs.YtfkklckoalffkaaDoor.Sp
