/- elim: a row's change by contract. -/
import Derived.Test.YtgeodhffgbhmaaaDoorElRow
namespace Go.Proofs.YtgeodhffgbhmaaaDoor.El
open Go.RowKit
open VecM Vc
/-- but for the blocks of F all that was there is as it was -/
structure Fr (w w' : World) (F : Nat → Prop) : Prop where
  os : w'.os = w.os
  tape : w'.tape = w.tape
  output : w'.output = w.output
  size : w.heap.size ≤ w'.heap.size
  block : ∀ b, b < w.heap.size → ¬ F b → w'.heap[b]? = w.heap[b]?
section
variable {w w' w'' : World} {F F' : Nat → Prop}
theorem Fr.refl (w : World) (F : Nat → Prop) : Fr w w F := ⟨rfl, rfl, rfl, Nat.le_refl _, fun _ _ _ => rfl⟩
theorem Fr.of_below (hb : Below w.heap.size w w') : Fr w w' F := ⟨hb.os, hb.tape, hb.output, hb.size, fun b h _ => hb.block b h⟩
theorem Fr.of_grown {r : Nat} (hg : w.grownBy w' (some r)) (hF : F r) : Fr w w' F :=
  ⟨hg.os, hg.tape, hg.output, hg.size, fun b h hn => hg.block b h (fun e => hn (by injection e with e; rw [e]; exact hF))⟩
theorem Fr.trans (h1 : Fr w w' F) (h2 : Fr w' w'' F') (hF : ∀ b, b < w.heap.size → F' b → F b) : Fr w w'' F :=
  ⟨h2.os.trans h1.os, h2.tape.trans h1.tape, h2.output.trans h1.output, Nat.le_trans h1.size h2.size, fun b hb hn => (h2.block b (Nat.lt_of_lt_of_le hb h1.size) (fun h => hn (hF b hb h))).trans (h1.block b hb hn)⟩
theorem Fr.more (h : Fr w w' F) (hF : ∀ b, b < w.heap.size → F b → F' b) : Fr w w' F' := ⟨h.os, h.tape, h.output, h.size, fun b hb hn => h.block b hb (fun h => hn (hF b hb h))⟩
theorem Fr.below {B : Nat} (h : Fr w w' F) (hF : ∀ b, F b → B ≤ b) (hB : B ≤ w.heap.size) : Below B w w' :=
  ⟨h.os, h.tape, h.output, h.size, fun b hb => h.block b (by omega) (fun hf => by have := hF b hf; omega)⟩
end
theorem bv_xl_set (a l : List UInt8) (k : Nat) (h : k < a.length) : (bv (xl a l k)).set k (.int .u8 ((a.getD k 0 ^^^ l.getD k 0).toNat : Int)) = bv (xl a l (k + 1)) := by
  rw [← xl_set a l k h]
  simp [bv, List.map_set]
theorem xor_int (a b : UInt8) : bits .xor .u8 (a.toNat : Int) (b.toNat : Int) = ((a ^^^ b).toNat : Int) := by
  rw [u8_xor_nat _ _ (CrcM.b_lt _) (CrcM.b_lt _), ← UInt8.toNat_xor]
theorem grown_set (W : World) (g k : Nat) (v : Value) : W.grownBy (W.setCell ⟨g, k, none⟩ v) (some g) :=
  ⟨rfl, rfl, rfl, by simp, fun j _ hj => heap_setCell_other W ⟨g, k, none⟩ j v (fun e => hj (by simp [e]))⟩
theorem bv_getD (l : List UInt8) (k : Nat) (h : k < l.length) : (bv l)[k]? = some (.int .u8 ((l.getD k 0).toNat : Int)) := by
  rw [bv_get l k h, List.getD_eq_getElem?_getD, List.getElem?_eq_getElem h]; rfl
def ChOk (g h n Z d c : Nat) (l : List UInt8) (w : World) (e : Ending) (w' : World) : Prop := e = .returned (.tuple #[]) ∧ Hid (VecAt w' g h n Z) ∧ Hid (DatAt w' (some ⟨d, 0, none⟩) c l) ∧ Hid (Fr w w' (fun b => b = h ∨ b = d))
set_option maxRecDepth 100000 in
set_option maxHeartbeats 1600000 in
theorem change_any (g h n X d c m g' h' Y d' c' : Nat) (l l' : List UInt8) (w : World) (v : VecAt w g h n X) (hd : DatAt w (some ⟨d, 0, none⟩) c l) (u : VecAt w g' h' n Y) (hd' : DatAt w (some ⟨d', 0, none⟩) c' l') (hh : h ≠ h') (hdd : d ≠ d') (hl : l.length = m) (hl' : l'.length = m) (hm : m ≤ 1000) :
    Calls Tryd.prog 34 #[.agg #[.pointer (some ⟨g, 0, none⟩), .slice (some ⟨d, 0, none⟩) m c], .agg #[.pointer (some ⟨g', 0, none⟩), .slice (some ⟨d', 0, none⟩) m c']] w (ChOk g h n (X ^^^ Y) d c (xorL l l') w) := by
  have hx := heap_alloc2_old w (.cells #[.pointer (some ⟨g, 0, none⟩), .slice (some ⟨d, 0, none⟩) m c] 73) (.cells #[.pointer (some ⟨g', 0, none⟩), .slice (some ⟨d', 0, none⟩) m c'] 73)
  have hy := heap_alloc2_new w (.cells #[.pointer (some ⟨g, 0, none⟩), .slice (some ⟨d, 0, none⟩) m c] 73) (.cells #[.pointer (some ⟨g', 0, none⟩), .slice (some ⟨d', 0, none⟩) m c'] 73)
  have hb : Below w.heap.size w ((w.alloc (.cells #[.pointer (some ⟨g, 0, none⟩), .slice (some ⟨d, 0, none⟩) m c] 73)).alloc (.cells #[.pointer (some ⟨g', 0, none⟩), .slice (some ⟨d', 0, none⟩) m c'] 73)) := ((Below.refl _ _).alloc (Nat.le_refl _) _).alloc (by simp) _
  have hg' : h ≠ g' := by obtain ⟨c1, a1⟩ := VecAt.hblk v; obtain ⟨c2, a2⟩ := VecAt.gblk u; exact ne_of_types a1 a2 (by decide)
  have hhd' : h ≠ d' := by obtain ⟨c1, a1⟩ := VecAt.hblk v; obtain ⟨c2, a2⟩ := hd'.blk_u8 rfl; exact ne_of_types a1 a2 (by decide)
  have hhd : h ≠ d := by obtain ⟨c1, a1⟩ := VecAt.hblk v; obtain ⟨c2, a2⟩ := hd.blk_u8 rfl; exact ne_of_types a1 a2 (by decide)
  have hgd : g ≠ d := by obtain ⟨c1, a1⟩ := VecAt.gblk v; obtain ⟨c2, a2⟩ := hd.blk_u8 rfl; exact ne_of_types a1 a2 (by decide)
  have hlt := v.lt
  have hdlt := hd.lt (d := d) rfl
  have HV := Lib.hid (v.below hb)
  have HU := Lib.hid (u.below hb)
  have HD := Lib.hid (hd.keep fun b he => hb.block b (hd.lt he))
  have HD' := Lib.hid (hd'.keep fun b he => hb.block b (hd'.lt he))
  have HNE := Lib.hid (And.intro hg' (And.intro hhd' (And.intro hhd (And.intro hgd (And.intro hh hdd)))))
  have HL := Lib.hid hl
  have HL' := Lib.hid hl'
  have HX := Lib.hid hx
  have HY := Lib.hid hy
  have HB := Lib.hid hb
  have HLT := Lib.hid (And.intro hlt hdlt)
  clear v u hd hd' hh hdd hl hl' hx hy hb hg' hhd' hhd hgd hlt hdlt
  go_enter Tryd.func34, Tryd.ntmps34
  go_wp2_with fail
  generalize ((w.alloc (.cells #[.pointer (some ⟨g, 0, none⟩), .slice (some ⟨d, 0, none⟩) m c] 73)).alloc (.cells #[.pointer (some ⟨g', 0, none⟩), .slice (some ⟨d', 0, none⟩) m c'] 73)) = wb at *
  refine (xor_any g h n X g' h' Y wb HV.out HU.out HNE.out.2.2.2.2.1 HNE.out.1).mono ?_
  rintro e w1 ⟨rfl, hv1, hg1⟩
  have hx1 := (hg1.out.block w.heap.size (Array.getElem?_eq_some_iff.1 HX.out).1 (fun e => by injection e with e; have := HLT.out.1.2; omega)).trans HX.out
  have hy1 := (hg1.out.block (w.heap.size + 1) (Array.getElem?_eq_some_iff.1 HY.out).1 (fun e => by injection e with e; have := HLT.out.1.2; omega)).trans HY.out
  have HD1 := Lib.hid (HD.out.keep fun b he => hg1.out.block b (HD.out.lt he) (fun e => by
    have he : d = b := Option.some.inj he
    have e : b = h := Option.some.inj e
    exact HNE.out.2.2.1 (by omega)))
  have HD1' := Lib.hid (HD'.out.keep fun b he => hg1.out.block b (HD'.out.lt he) (fun e => by
    have he : d' = b := Option.some.inj he
    have e : b = h := Option.some.inj e
    exact HNE.out.2.1 (by omega)))
  have HX1 := Lib.hid hx1
  have HY1 := Lib.hid hy1
  have HF1 : Hid (Fr w w1 (fun b => b = h ∨ b = d)) := Lib.hid ((Fr.of_below HB.out).trans (Fr.of_grown hg1.out (F := fun b => b = h ∨ b = d) (.inl rfl)) fun _ _ h => h)
  have c1 : w1.cell? ⟨w.heap.size, 1, none⟩ = some (.slice (some ⟨d, 0, none⟩) m c) := by rw [cell_of_row w1 _ 1 _ _ (0, 0) hx1]; rfl
  clear hx1 hy1 HD HD' HX HY HB HV HU hg1
  go_wp2_with fail
  clear c1
  go_loopw [13] (fun x wr => ∃ k : Nat, k ≤ m ∧ x = .int .i64 k ∧ Hid (DatAt wr (some ⟨d, 0, none⟩) c (xl l l' k)) ∧ Hid (w1.grownBy wr (some d))) (fun x _ => m - (intOf x).toNat)
  case atStart => exact ⟨0, by omega, rfl, by rw [xl_zero]; exact HD1, Lib.hid ⟨rfl, rfl, rfl, Nat.le_refl _, fun _ _ _ => rfl⟩⟩
  case round =>
    obtain ⟨k, hk, rfl, hown, hgr⟩ := hrel
    by_cases hlt : k < m
    · have hka : k < l.length := by rw [HL.out]; exact hlt
      have hka' : k < l'.length := by rw [HL'.out]; exact hlt
      have hxr := (hgr.out.block w.heap.size (Array.getElem?_eq_some_iff.1 HX1.out).1 (fun e => by injection e with e; have := HLT.out.2; omega)).trans HX1.out
      have hyr := (hgr.out.block (w.heap.size + 1) (Array.getElem?_eq_some_iff.1 HY1.out).1 (fun e => by injection e with e; have := HLT.out.2; omega)).trans HY1.out
      have c1 : wr.cell? ⟨w.heap.size, 1, none⟩ = some (.slice (some ⟨d, 0, none⟩) m c) := by rw [cell_of_row wr _ 1 _ _ (0, 0) hxr]; rfl
      have c3 : wr.cell? ⟨w.heap.size + 1, 1, none⟩ = some (.slice (some ⟨d', 0, none⟩) m c') := by rw [cell_of_row wr _ 1 _ _ (0, 0) hyr]; rfl
      have hd2 := HD1'.out.keep (W' := wr) fun b he => hgr.out.block b (HD1'.out.lt he) (fun e => by
        have he : d' = b := Option.some.inj he
        have e : b = d := Option.some.inj e
        exact HNE.out.2.2.2.2.2 (by omega))
      have hcs := (hown.out.cellAt k (by rw [xl_length]; omega)).trans (bv_getD _ k (by rw [xl_length]; exact hka))
      have hfz := hown.out.frozenAt k
      rw [xl_getD l l' k k hka, if_neg (by omega)] at hcs
      have hct := (hd2.cellAt k (by omega)).trans (bv_getD _ k hka')
      have hst0 := (hown.out.stored k (.int .u8 ((l.getD k 0 ^^^ l'.getD k 0).toNat : Int))).1
      rw [bv_xl_set l l' k hka, UInt8.toNat_xor] at hst0
      have HST : Hid (DatAt (wr.setCell ⟨d, k, none⟩ (.int .u8 (((l.getD k 0).toNat ^^^ (l'.getD k 0).toNat : Nat) : Int))).drew (some ⟨d, 0, none⟩) c (xl l l' (k + 1))) := Lib.hid (by
        unfold DatAt
        rw [xl_length] at hst0 ⊢
        exact hst0)
      have HG : Hid (w1.grownBy (wr.setCell ⟨d, k, none⟩ (.int .u8 (((l.getD k 0).toNat ^^^ (l'.getD k 0).toNat : Nat) : Int))).drew (some d)) := Lib.hid (by
        have h2 := hgr.out.trans (grown_set wr d k (.int .u8 (((l.getD k 0).toNat ^^^ (l'.getD k 0).toNat : Nat) : Int)))
        exact ⟨h2.os, h2.tape, h2.output, h2.size, h2.block⟩)
      have hxor := u8_xor_nat (l.getD k 0).toNat (l'.getD k 0).toNat (CrcM.b_lt _) (CrcM.b_lt _)
      have hki : (k : Int) < (m : Int) := by omega
      clear hown hxr hyr hd2 hst0 hgr
      generalize l.getD k 0 = x at *
      generalize l'.getD k 0 = y at *
      go_wp2_with fail
      go_region
      go_wp2_with fail
      go_roundw
      case rel => exact ⟨k + 1, by omega, by go_num, HST, HG⟩
      case measure => simp [intOf]; omega
    · obtain rfl : m = k := by omega
      have HDF : Hid (DatAt wr (some ⟨d, 0, none⟩) c (xorL l l')) := Lib.hid (by
        have := hown.out
        unfold xorL
        rw [HL.out]
        exact this)
      have HVF : Hid (VecAt wr g h n (X ^^^ Y)) := Lib.hid (hv1.out.keep (hgr.out.block g hv1.out.lt.1 (fun e => HNE.out.2.2.2.1 (Option.some.inj e))) (hgr.out.block h hv1.out.lt.2 (fun e => HNE.out.2.2.1 (Option.some.inj e))))
      have HFF : Hid (Fr w wr (fun b => b = h ∨ b = d)) := Lib.hid (HF1.out.trans (Fr.of_grown hgr.out (F := fun b => b = h ∨ b = d) (.inr rfl)) fun _ _ h => h)
      clear hown hgr hv1
      go_wp2_with fail
      first | go_end0 | (simp only [Exit.inBlock, Exit.then]; refine bodyPost_ret (results_none rfl _ _ _) rfl ?_) | refine bodyPost_ret (results_none rfl _ _ _) rfl ?_
      exact ⟨rfl, HVF, HDF, HFF⟩
end Go.Proofs.YtgeodhffgbhmaaaDoor.El
