/- PrecodeFew's walk. -/
import Derived.Test.YtfkklckoalffkaaDoorPcSound
import Derived.Test.YtfkklckoalffkaaDoorVecMore
import Derived.Test.YtfkklckoalffkaaDoorLike
import Derived.Deep.DeepCutAuto
namespace Go.Proofs.YtfkklckoalffkaaDoor.Pc
open Go.RowKit
open VecM RdM Vc Sp
/-- two boxes of parameters in whatever world since wc -/
abbrev SBF (wc : World) (g1 g2 s : Nat) (K1 P1 Z1 K2 P2 Z2 : Int) (W : World) : Prop :=
  Below wc.heap.size wc W ∧ (W.cell? ⟨g1, 0, none⟩ = some (.int .u32 (s : Int)) ∧ W.cell? ⟨g1, 1, none⟩ = some (.int .i64 K1) ∧ W.cell? ⟨g1, 2, none⟩ = some (.int .i64 P1) ∧ W.cell? ⟨g1, 3, none⟩ = some (.int .i64 Z1)) ∧
    (W.cell? ⟨g2, 0, none⟩ = some (.int .u32 (s : Int)) ∧ W.cell? ⟨g2, 1, none⟩ = some (.int .i64 K2) ∧ W.cell? ⟨g2, 2, none⟩ = some (.int .i64 P2) ∧ W.cell? ⟨g2, 3, none⟩ = some (.int .i64 Z2))
theorem sbf_keep {wc : World} {g1 g2 s : Nat} {K1 P1 Z1 K2 P2 Z2 : Int} {t1 t2 : TypeId} (h1 : wc.heap[g1]? = some (.cells #[.int .u32 (s : Int), .int .i64 K1, .int .i64 P1, .int .i64 Z1] t1 (0, 0))) (h2 : wc.heap[g2]? = some (.cells #[.int .u32 (s : Int), .int .i64 K2, .int .i64 P2, .int .i64 Z2] t2 (0, 0)))
    (W : World) (hW : Below wc.heap.size wc W) : SBF wc g1 g2 s K1 P1 Z1 K2 P2 Z2 W :=
  ⟨hW, box4 ((hW.block g1 (Array.getElem?_eq_some_iff.1 h1).1).trans h1), box4 ((hW.block g2 (Array.getElem?_eq_some_iff.1 h2).1).trans h2)⟩
theorem sbf_next {wc W W' : World} {g1 g2 s : Nat} {K1 P1 Z1 K2 P2 Z2 : Int} (h : SBF wc g1 g2 s K1 P1 Z1 K2 P2 Z2 W) (hb : Below W.heap.size W W') : Below wc.heap.size wc W' := h.1.trans (hb.mono h.1.size)
theorem sbf_below {wc W : World} {g1 g2 s : Nat} {K1 P1 Z1 K2 P2 Z2 : Int} (h : SBF wc g1 g2 s K1 P1 Z1 K2 P2 Z2 W) : Below wc.heap.size wc W := h.1
/-- two rows of pointers and what they point to, in whatever world since wc -/
def Two2 (s K P Q gA gB : Nat) (gs hs gs2 hs2 : Nat → Nat) (W : World) : Prop :=
  gA < W.heap.size ∧ gB < W.heap.size ∧ (∀ j, j < P → W.cell? ⟨gA, j, none⟩ = some (.pointer (some ⟨gs j, 0, none⟩)) ∧ VecAt W (gs j) (hs j) (K + P) (parJ s K j)) ∧
    ∀ j, j < Q → W.cell? ⟨gB, j, none⟩ = some (.pointer (some ⟨gs2 j, 0, none⟩)) ∧ VecAt W (gs2 j) (hs2 j) (K + Q) (parJ s K j)
theorem Two2.below {s K P Q gA gB : Nat} {gs hs gs2 hs2 : Nat → Nat} {W W' : World} (h : Two2 s K P Q gA gB gs hs gs2 hs2 W) (hb : Below W.heap.size W W') : Two2 s K P Q gA gB gs hs gs2 hs2 W' := by
  obtain ⟨h1, h2, h3, h4⟩ := h
  have hs := hb.size
  exact ⟨by omega, by omega, fun j hj => ⟨(hb.cell (p := ⟨gA, j, none⟩) h1).trans (h3 j hj).1, (h3 j hj).2.below hb⟩, fun j hj => ⟨(hb.cell (p := ⟨gB, j, none⟩) h2).trans (h4 j hj).1, (h4 j hj).2.below hb⟩⟩
theorem two2_of {s K P Q gA gB : Nat} {gs hs gs2 hs2 : Nat → Nat} {b1 b2 : Nat} {W1 W2 : World} (hv1 : VRows s K P P gA gs hs W1) (ho1 : W1.ownsRow b1 26 1 (.slice (some ⟨gA, 0, none⟩) P P) P (pvk gs P P)) (hb : Below W1.heap.size W1 W2)
    (hv2 : VRows s K Q Q gB gs2 hs2 W2) (ho2 : W2.ownsRow b2 26 1 (.slice (some ⟨gB, 0, none⟩) Q Q) Q (pvk gs2 Q Q)) : Two2 s K P Q gA gB gs hs gs2 hs2 W2 := by
  have h1 := (ho1.lt gA rfl).2
  have hs := hb.size
  refine ⟨by omega, (ho2.lt gB rfl).2, fun j hj => ⟨?_, (hv1 j hj).2.2.below hb⟩, fun j hj => ⟨?_, (hv2 j hj).2.2⟩⟩
  · have h := (ho1.cellAt j (by omega)).trans (pvk_get gs P P j hj)
    rw [if_pos hj] at h
    exact (hb.cell (p := ⟨gA, j, none⟩) h1).trans h
  · have h := (ho2.cellAt j (by omega)).trans (pvk_get gs2 Q Q j hj)
    rw [if_pos hj] at h
    exact h
abbrev SFw (wr : World) (gq K Q gA gB k ga gb : Nat) (W : World) : Prop :=
  Below wr.heap.size wr W ∧ W.cell? ⟨gq, 1, none⟩ = some (.int .i64 (K : Int)) ∧ W.cell? ⟨gq, 2, none⟩ = some (.int .i64 (Q : Int)) ∧ W.cell? ⟨gA, k, none⟩ = some (.pointer (some ⟨ga, 0, none⟩)) ∧ W.cell? ⟨gB, k, none⟩ = some (.pointer (some ⟨gb, 0, none⟩))
theorem sfw_next {wr W W' : World} {gq K Q gA gB k ga gb : Nat} (h : SFw wr gq K Q gA gB k ga gb W) (hb : Below W.heap.size W W') : Below wr.heap.size wr W' := h.1.trans (hb.mono h.1.size)
theorem sfw_below {wr W : World} {gq K Q gA gB k ga gb : Nat} (h : SFw wr gq K Q gA gB k ga gb W) : Below wr.heap.size wr W := h.1
set_option maxRecDepth 100000 in
set_option maxHeartbeats 3200000 in
theorem few_walk (s : Nat) (K0 P0 Z0 : Int) (y : Int) (_ : -9223372036854775808 ≤ y) (_ : y ≤ 9223372036854775807) (w : World) (ht : DTab w) (hs : s < 4294967296) :
    Calls Tryd.prog 9 #[.agg #[.int .u32 (s : Int), .int .i64 K0, .int .i64 P0, .int .i64 Z0], .int .i64 y] w fun e w' => e = .returned (.bool true) ∧ Below w.heap.size w w' := by
  have hx := heap_alloc_new w (.cells #[.int .u32 (s : Int), .int .i64 K0, .int .i64 P0, .int .i64 Z0] 24)
  have hb0 : Below w.heap.size w (w.alloc (.cells #[.int .u32 (s : Int), .int .i64 K0, .int .i64 P0, .int .i64 Z0] 24)) := (Below.refl _ _).alloc (Nat.le_refl _) _
  have hz : (w.alloc (.cells #[.int .u32 (s : Int), .int .i64 K0, .int .i64 P0, .int .i64 Z0] 24)).heap.size = w.heap.size + 1 := by simp
  have HX := Lib.hid hx
  have HB0 := Lib.hid hb0
  have HZ := Lib.hid hz
  have HT := Lib.hid ht
  have HSO := Lib.hid (fun W => sound9_any s 1 K0 P0 Z0 W (by omega))
  unfold parV at HSO
  have HS := Lib.hid hs
  clear hx hb0 hz ht hs
  go_enter Tryd.func9, Tryd.ntmps9
  go_wp2_with fail
  refine (HSO.out _).mono ?_
  rintro e w1 ⟨K, P, Z, ls, v, rfl, hF, _, hb1⟩
  have hbx := (hb1.out.block w.heap.size (by have := HZ.out; omega)).trans HX.out
  have HB1 := Lib.hid (HB0.out.trans (hb1.out.mono HB0.out.size))
  have hlt1 : w.heap.size < w1.heap.size := by have := hb1.out.size; have := HZ.out; omega
  obtain ⟨c0, c1, c2, c3⟩ := box4 hbx
  obtain ⟨f0, f1, f2, f3⟩ := frozenBox hbx
  have HBX := Lib.hid hbx
  unfold parV
  clear hb1 hbx
  have hF1 := hF.out
  obtain ⟨R, hR⟩ : ∃ R : Nat, (P : Int) + 1 = (R : Int) := ⟨P + 1, by omega⟩
  obtain ⟨Q, hQ, hQp⟩ := pick_in y (R : Int) (by omega) (by omega)
  have HR := Lib.hid hR
  have HQ := Lib.hid hQp
  have hr1 : (1 : Int) ≤ (R : Int) := by omega
  have hr2 : (R : Int) ≤ 17 := by omega
  have hr0 : ¬ (R : Int) = 0 := by omega
  have hp16 : (P : Int) ≤ 16 := by omega
  have HQP : Hid (Q ≤ P) := Lib.hid (by omega)
  clear hF1 hR hQ hQp
  go_upto_region 4 with (first | rw [HR.out] | rw [HQ.out])
  have hst := setBox HBX.out (.int .u32 (s : Int)) (.int .i64 (K : Int)) (.int .i64 (P : Int)) (.int .i64 (Z : Int))
  have hbs : Below w.heap.size w ((((w1.setCell ⟨w.heap.size, 0, none⟩ (.int .u32 (s : Int))).setCell ⟨w.heap.size, 1, none⟩ (.int .i64 (K : Int))).setCell ⟨w.heap.size, 2, none⟩ (.int .i64 (P : Int))).setCell ⟨w.heap.size, 3, none⟩ (.int .i64 (Z : Int))) := (((HB1.out.setCell (Nat.le_refl _) _).setCell (Nat.le_refl _) _).setCell (Nat.le_refl _) _).setCell (Nat.le_refl _) _
  have hsz : ((((w1.setCell ⟨w.heap.size, 0, none⟩ (.int .u32 (s : Int))).setCell ⟨w.heap.size, 1, none⟩ (.int .i64 (K : Int))).setCell ⟨w.heap.size, 2, none⟩ (.int .i64 (P : Int))).setCell ⟨w.heap.size, 3, none⟩ (.int .i64 (Z : Int))).heap.size = w1.heap.size := by simp
  generalize ((((w1.setCell ⟨w.heap.size, 0, none⟩ (.int .u32 (s : Int))).setCell ⟨w.heap.size, 1, none⟩ (.int .i64 (K : Int))).setCell ⟨w.heap.size, 2, none⟩ (.int .i64 (P : Int))).setCell ⟨w.heap.size, 3, none⟩ (.int .i64 (Z : Int))) = W1 at *
  have hq := heap_alloc_new W1 (.cells #[.int .u32 (s : Int), .int .i64 (K : Int), .int .i64 (Q : Int), .int .i64 (Z : Int)] 24)
  have hbl1 : Below W1.heap.size W1 (W1.alloc (.cells #[.int .u32 (s : Int), .int .i64 (K : Int), .int .i64 (Q : Int), .int .i64 (Z : Int)] 24)) := (Below.refl _ _).alloc (Nat.le_refl _) _
  rw [hsz] at hq hbl1
  generalize (W1.alloc (.cells #[.int .u32 (s : Int), .int .i64 (K : Int), .int .i64 (Q : Int), .int .i64 (Z : Int)] 24)) = wb at *
  have hw1 := hbs.size
  have HBA := Lib.hid (hbs.trans (hbl1.mono (by omega)))
  have hkeep := Lib.hid (sbf_keep ((hbl1.block w.heap.size (by omega)).trans hst) hq)
  have hF1 := hF.out
  have hq16 : Q ≤ 16 := by have := HQP.out; omega
  have hR1 := fun W => rows_any s K P Z W HS.out hF1.1 hF1.2.1 hF1.2.2
  have hR2 := fun W => rows_any s K Q Z W HS.out hF1.1 hq16 hF1.2.2
  unfold parV at hR1 hR2
  have HR1 := Lib.hid hR1
  have HR2 := Lib.hid hR2
  clear hst hbs hsz hlt1 c0 c1 c2 c3 f0 f1 f2 f3 HBX HB1 HX HB0 HZ HSO hq hbl1 hw1 hF1 hR1 hR2 HQ HR hr1 hr2 hr0
  generalize w1.heap.size = gq at *
  go_cut [6, 7] (fun s6 s7 wx => ∃ gA gB : Nat, ∃ gs hs gs2 hs2 : Nat → Nat, s6 = .slice (some ⟨gA, 0, none⟩) P P ∧ s7 = .slice (some ⟨gB, 0, none⟩) Q Q ∧ Hid (Two2 s K P Q gA gB gs hs gs2 hs2 wx) ∧ Hid (Below wb.heap.size wb wx))
  case first =>
    go_region_held3 (SBF wb w.heap.size gq s (K : Int) (P : Int) (Z : Int) (K : Int) (Q : Int) (Z : Int))
      (first | exact hkeep.out _ (sbf_next (by assumption) (by assumption)) | exact hkeep.out _ (Below.refl _ _).drew | exact hkeep.out _ (Below.refl _ _))
      (first
        | (go_at_call 29; (with_reducible refine (HR1.out _).mono ?_); rintro e w' ⟨gA, gs, hs, rfl, hv1, ho1, hbelA⟩; have hbel := hbelA.out)
        | (go_at_call 29; (with_reducible refine (HR2.out _).mono ?_); rintro e w' ⟨gB, gs2, hs2, rfl, hv2, ho2, hbelB⟩; have hbel := hbelB.out))
    all_goals
      have hbq := sbf_below (by assumption : SBF wb w.heap.size gq s (K : Int) (P : Int) (Z : Int) (K : Int) (Q : Int) (Z : Int) _)
      go_wp2_with fail
      go_meet
      exact ⟨gA, gB, gs, hs, gs2, hs2, rfl, rfl, Lib.hid (two2_of hv1.out.2 ho1.out hbelB.out hv2.out.2 ho2.out), Lib.hid hbq⟩
  case rest =>
    obtain ⟨gA, gB, gs, hs, gs2, hs2, rfl, rfl, h2, hbw⟩ := hcut
    obtain ⟨_, ⟨c0, c1, c2, c3⟩, ⟨d0, d1, d2, d3⟩⟩ := hkeep.out wc hbw.out
    have hpp : ((P : Int) != (P : Int)) = false := by simp
    have hqq : ((Q : Int) != (Q : Int)) = false := by simp
    have hq16i : (Q : Int) ≤ 16 := by omega
    clear HR1 HR2
    go_wp2_with fail
    clear c0 c1 c2 c3 d0 d1 d2 d3 hpp hqq
    go_loopw [43] (fun i wr => ∃ k : Nat, k ≤ Q ∧ i = .int .i64 k ∧ Hid (Below wc.heap.size wc wr)) (fun i _ => Q - (intOf i).toNat)
    case atStart => exact ⟨0, by omega, rfl, Lib.hid (Below.refl _ _)⟩
    case round =>
      obtain ⟨k, hk, rfl, hbk⟩ := hrel
      have HBW := Lib.hid (hbw.out.trans (hbk.out.mono hbw.out.size))
      have HBA2 := Lib.hid (HBA.out.trans (HBW.out.mono HBA.out.size))
      by_cases hlt : k < Q
      · obtain ⟨_, _, t3, t4⟩ := h2.out.below hbk.out
        have hkP : k < P := by have := HQP.out; omega
        obtain ⟨pa, va⟩ := t3 k hkP
        obtain ⟨pb, vb⟩ := t4 k hlt
        have hF1 := hF.out
        obtain ⟨ga, hga⟩ : ∃ ga, gs k = ga := ⟨_, rfl⟩
        obtain ⟨ha, hha⟩ : ∃ ha, hs k = ha := ⟨_, rfl⟩
        obtain ⟨gb, hgb⟩ : ∃ gb, gs2 k = gb := ⟨_, rfl⟩
        obtain ⟨hb, hhb⟩ : ∃ hb, hs2 k = hb := ⟨_, rfl⟩
        obtain ⟨X, hX⟩ : ∃ X, parJ s K k = X := ⟨_, rfl⟩
        obtain ⟨n1, hn1⟩ : ∃ n1, K + P = n1 := ⟨_, rfl⟩
        obtain ⟨n2, hn2⟩ : ∃ n2, K + Q = n2 := ⟨_, rfl⟩
        rw [hga] at pa
        rw [hgb] at pb
        rw [hga, hha, hX, hn1] at va
        rw [hgb, hhb, hX, hn2] at vb
        have hX2 := ofL_Ls vb.2.1 vb.1
        have hm256 := ls_lt X
        have hkq := fun W (hW : Below wr.heap.size wr W) => hkeep.out W (HBW.out.trans (hW.mono HBW.out.size))
        have hlA := (h2.out.below hbk.out).1
        have hlB := (h2.out.below hbk.out).2.1
        have hkp := Lib.hid (fun W (hW : Below wr.heap.size wr W) => (⟨hW, (hkq W hW).2.2.2.1, (hkq W hW).2.2.2.2.1, (hW.cell (p := ⟨gA, k, none⟩) hlA).trans pa, (hW.cell (p := ⟨gB, k, none⟩) hlB).trans pb⟩ : SFw wr gq K Q gA gB k ga gb W))
        have HDT := Lib.hid (fun W (hW : Below wr.heap.size wr W) => HT.out.grow (HBA2.out.trans (hW.mono HBA2.out.size)))
        obtain ⟨m, hm⟩ : ∃ m, (Ls X).length = m := ⟨_, rfl⟩
        have hLI := fun W (hW : Below wr.heap.size wr W) => list_any ga ha n1 X W (va.below hW) (HDT.out W hW)
        unfold ListOk at hLI
        rw [hm] at hLI hm256
        have hOF := fun W (A : Option Addr) (c : Nat) (hr : Row W W.heap.size A m (nv ((Ls X).map fun i : Nat => (i : Int)))) => of_any n2 A m c W.heap.size _ W hr (Nat.le_refl _) (by omega) vb.1
        rw [hX2] at hOF
        have HLI := Lib.hid hLI
        have HOF := Lib.hid hOF
        have hcn := fun (W : World) (g h n : Nat) (v : VecAt W g h n X) => quiet_below (count_any g h n X W v)
        rw [hm] at hcn
        have HCN := Lib.hid hcn
        have HVA := Lib.hid (fun W (hW : Below wr.heap.size wr W) => va.below hW)
        have HVB := Lib.hid (fun W (hW : Below wr.heap.size wr W) => vb.below hW)
        have hKQ : IntKind.i64.wrap ((K : Int) + (Q : Int)) = (n2 : Int) := by rw [show (K : Int) + (Q : Int) = (n2 : Int) by omega]; exact IntWalk.i64_in _ (by omega)
        have hkPi : (k : Int) < (P : Int) := by omega
        have hkQi : (k : Int) < (Q : Int) := by omega
        clear t3 t4 pa pb va vb hF1 hga hha hgb hhb hX hn1 hn2 hX2 hkq hlA hlB hm hLI hOF hcn
        go_wp2_with fail
        go_region_held3 (SFw wr gq K Q gA gB k ga gb)
          (first | exact hkp.out _ (sfw_next (by assumption) (by assumption)) | exact hkp.out _ (Below.refl _ _).drew | exact hkp.out _ (Below.refl _ _))
          (first
            | (go_at_call 24; refine (HLI.out _ (sfw_below (by assumption))).mono ?_; rintro e w' ⟨A', c', rfl, hown', hbel'⟩; have hbel := hbel'.out; have HRW := Lib.hid (Row.of_own hown'.out))
            | (go_at_call 23; refine (HOF.out _ _ _ HRW.out).mono ?_; rintro e w' ⟨g9, h9, rfl, _, _, hv9, hbel2'⟩; have hbel2 := hbel2'.out))
        obtain ⟨hB1, _⟩ := (by assumption : SFw wr gq K Q gA gB k ga gb _)
        have HB1 := Lib.hid hB1
        obtain ⟨w6, rfl⟩ : ∃ w6 : World, w6 = w' := ⟨_, rfl⟩
        clear hB1 hbel hbel' hbel2 hbel2' hown' HRW HLI HOF hKQ
        have hkp2 := Lib.hid (fun W (hW : Below w6.heap.size w6 W) => (⟨hW, (hkp.out W (HB1.out.trans (hW.mono HB1.out.size))).2⟩ : SFw w6 gq K Q gA gB k ga gb W))
        have hSM := fun W (hW : Below w6.heap.size w6 W) => QB_below (same_vv g9 h9 n2 X gb hb X W (hv9.out.below hW) (HVB.out W (HB1.out.trans (hW.mono HB1.out.size))))
        rw [show decide (X = X) = true by simp] at hSM
        have HSM := Lib.hid hSM
        have HC1 := Lib.hid (fun W (hW : Below w6.heap.size w6 W) => HCN.out W g9 h9 n2 (hv9.out.below hW))
        have HC2 := Lib.hid (fun W (hW : Below w6.heap.size w6 W) => HCN.out W ga ha n1 (HVA.out W (HB1.out.trans (hW.mono HB1.out.size))))
        have hmm : ((m : Int) != (m : Int)) = false := by simp
        clear hSM hkp HCN HVA HVB hv9
        go_wp2_with fail
        go_region_held3 (SFw w6 gq K Q gA gB k ga gb)
          (first | exact hkp2.out _ (sfw_next (by assumption) (by assumption)) | exact hkp2.out _ (Below.refl _ _).drew | exact hkp2.out _ (Below.refl _ _))
          (first
            | (go_at_call 14; refine (HSM.out _ (sfw_below (by assumption))).mono ?_; rintro e w' ⟨rfl, hbel⟩)
            | (go_at_call 12; (with_reducible refine (HC1.out _ (sfw_below (by assumption))).mono ?_); rintro e w' ⟨rfl, hbel⟩)
            | (go_at_call 12; (with_reducible refine (HC2.out _ (sfw_below (by assumption))).mono ?_); rintro e w' ⟨rfl, hbel⟩))
        obtain ⟨hB2, _⟩ := (by assumption : SFw w6 gq K Q gA gB k ga gb _)
        have hbn := Lib.hid (hbk.out.trans ((HB1.out.trans (hB2.mono HB1.out.size)).mono hbk.out.size))
        clear hB2
        go_wp2_with fail
        go_roundw
        case rel => exact ⟨k + 1, by omega, by go_num, hbn⟩
        case measure => simp [intOf]; omega
      · obtain rfl : Q = k := by omega
        have HAW := Lib.hid (awake9_any wr)
        clear hlt
        go_wp2_with fail
        refine HAW.out.mono ?_
        rintro e w9 ⟨rfl, hb9⟩
        have HB9 := Lib.hid (HBA2.out.trans (hb9.out.mono HBA2.out.size))
        go_wp2_with fail
        go_ret
        exact ⟨rfl, HB9.out⟩
end Go.Proofs.YtfkklckoalffkaaDoor.Pc
