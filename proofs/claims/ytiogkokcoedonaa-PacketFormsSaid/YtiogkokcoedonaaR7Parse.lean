/- The reference's ParseSymbol: by contracts. -/
import Derived.Test.YtiogkokcoedonaaR7Packet
import Derived.Test.YtiogkokcoedonaaParse
import Derived.Deep.RegionWith
namespace Go.Proofs.Ytiogkokcoedonaa
open Go.RowKit
theorem join1 (n1 c1 : Nat) (A1 : Option Addr) (l1 : List UInt8) (W : World) (h1 : Row W W.heap.size A1 n1 (bv l1)) (ha : n1 ≤ 1000) (g : Nat) (hg : g = W.heap.size) :
    Calls Try.prog 29 #[.slice (some ⟨g, 0, none⟩) 1 1] (W.alloc (.cells #[.slice A1 n1 c1] 22)) (FreshBytes (W.alloc (.cells #[.slice A1 n1 c1] 22)).heap.size l1 (W.alloc (.cells #[.slice A1 n1 c1] 22))) := by
  subst hg
  have hr := row_new W #[.slice A1 n1 c1] 22 (0, 0)
  have hf : flat [⟨A1, n1, c1, l1⟩] = l1 := by simp [flat]
  have := join_any (W.heap.size + 1) 1 1 (some ⟨W.heap.size, 0, none⟩) [⟨A1, n1, c1, l1⟩] (W.alloc (.cells #[.slice A1 n1 c1] 22))
    ⟨hr, by
      intro r hr
      simp at hr
      subst hr
      exact (h1.alloc (Nat.le_refl _) _).more (by omega)⟩ (by omega) (by rw [hf, h1.blen]; omega) (by simp)
  rwa [hf] at this
abbrev SB2 (w W : World) : Prop := Below w.heap.size w W
theorem SB2.next {w W W' : World} (h : SB2 w W) (hb : Below W.heap.size W W') : SB2 w W' := Below.trans h (hb.mono (Below.size h))
theorem SB2.drew {w W : World} (h : SB2 w W) : SB2 w W.drew := Below.drew h
theorem SB2.alloc {w W : World} (h : SB2 w W) (o : Obj) : SB2 w (W.alloc o) := Below.alloc h (Below.size h) o
theorem SB2.mono {w W : World} (h : SB2 w W) {B : Nat} (hB : B ≤ w.heap.size) : Below B w W := Below.mono h hB
theorem SB2.set3 {w W : World} (h : SB2 w W) (x y z : Value) : SB2 w (((W.setCell ⟨w.heap.size, 0, none⟩ x).setCell ⟨w.heap.size, 1, none⟩ y).setCell ⟨w.heap.size, 2, none⟩ z) :=
  Below.setCell (Below.setCell (Below.setCell h (Nat.le_refl _) _) (Nat.le_refl _) _) (Nat.le_refl _) _
set_option maxHeartbeats 400000 in
theorem r7parse_short (n cap : Nat) (A : Option Addr) (w : World) (h : n ≤ 8) :
    Calls Try.prog 24 #[.slice A n cap] w (fun e w' => e = .returned (.tuple #[.agg #[.int .u32 0, .int .u32 0, .slice none 0 0], .int .i64 2]) ∧ Below w.heap.size w w') := by
  go_enter Try.func24, Try.ntmps24
  go_wp2
  refine bodyPost_ret (results_cell_tmp_row rfl _ _ w.heap.size _ _ (0, 0) _ rfl (heap_alloc_new _ _) Try.underlying39 rfl (by kernel_rfl)) rfl ?_
  exact ⟨rfl, (Below.refl _ _).alloc (Nat.le_refl _) _⟩
set_option maxHeartbeats 400000 in
theorem r7parse_long (n cap : Nat) (A : Option Addr) (w : World) (h : 24 < n) :
    Calls Try.prog 24 #[.slice A n cap] w (fun e w' => e = .returned (.tuple #[.agg #[.int .u32 0, .int .u32 0, .slice none 0 0], .int .i64 3]) ∧ Below w.heap.size w w') := by
  go_enter Try.func24, Try.ntmps24
  go_wp2
  refine bodyPost_ret (results_cell_tmp_row rfl _ _ w.heap.size _ _ (0, 0) _ rfl (heap_alloc_new _ _) Try.underlying39 rfl (by kernel_rfl)) rfl ?_
  exact ⟨rfl, (Below.refl _ _).alloc (Nat.le_refl _) _⟩
set_option maxHeartbeats 1600000 in
theorem r7parse_ok (B n cap : Nat) (A : Option Addr) (l : List UInt8) (w : World) (hl : Row w B A n (bv l)) (h8 : 8 < n) (h24 : n ≤ 24) (hn : n ≤ cap) (hcap : cap ≤ 9223372036854775807) (hB : B ≤ w.heap.size) :
    Calls Try.prog 24 #[.slice A n cap] w (ParseOk l w) := by
  obtain ⟨k, rfl⟩ : ∃ k, n = k + 8 := ⟨n - 8, by omega⟩
  have HL := Lib.hid hl.blen
  have h4c : (4 : Int) ≤ cap := by omega
  have h8c : (8 : Int) ≤ cap := by omega
  have h8k : (8 : Int) ≤ (k : Int) + 8 := by omega
  have hkc : (k : Int) + 8 ≤ cap := by omega
  have hr1 : Row w B A 4 (bv (l.take 4)) := by rw [← bv_take]; exact hl.head (by omega)
  have hr2 : Row w B (A.map fun x => { block := x.block, off := x.off + 4, spot := none }) 4 (bv ((l.drop 4).take 4)) := by rw [← bv_take, ← bv_drop]; exact hl.cut (by omega)
  have hr3 : Row w B (A.map fun x => { block := x.block, off := x.off + 8, spot := none }) k (bv (l.drop 8)) := by
    have := hl.cut (k := 8) (m := k) (by omega)
    rwa [List.take_of_length_le (by rw [List.length_drop, hl.1]; omega), bv_drop] at this
  go_enter Try.func24, Try.ntmps24
  go_wp2_with fail
  have hb0 : Below w.heap.size w (w.alloc (.cells #[.int .u32 0, .int .u32 0, .slice none 0 0] 39)) := (Below.refl _ _).alloc (Nat.le_refl _) _
  have hb1 : Below w.heap.size w ((w.alloc (.cells #[.int .u32 0, .int .u32 0, .slice none 0 0] 39)).drew.alloc (.cells #[.slice (A.map fun x => { block := x.block, off := x.off + 8, spot := none }) k (cap - 8)] 22)) := hb0.drew.alloc hb0.size _
  have hbox := (((Below.refl (w.heap.size + 1) (w.alloc (.cells #[.int .u32 0, .int .u32 0, .slice none 0 0] 39))).drew.alloc (by simp) (.cells #[.slice (A.map fun x => { block := x.block, off := x.off + 8, spot := none }) k (cap - 8)] 22)).block w.heap.size (by omega)).trans (heap_alloc_new w (.cells #[.int .u32 0, .int .u32 0, .slice none 0 0] 39))
  have hsz : ((w.alloc (.cells #[.int .u32 0, .int .u32 0, .slice none 0 0] 39)).drew.alloc (.cells #[.slice (A.map fun x => { block := x.block, off := x.off + 8, spot := none }) k (cap - 8)] 22)).heap.size = w.heap.size + 2 := by show ((w.alloc _).alloc _).heap.size = _; simp
  have hs1 : (w.alloc (.cells #[.int .u32 0, .int .u32 0, .slice none 0 0] 39)).drew.heap.size = w.heap.size + 1 := by show (w.alloc _).heap.size = _; simp
  have HBX := Lib.hid hbox
  clear hbox
  have hj := join1 k (cap - 8) (A.map fun x => { block := x.block, off := x.off + 8, spot := none }) (l.drop 8) (w.alloc (.cells #[.int .u32 0, .int .u32 0, .slice none 0 0] 39)).drew ((hr3.below (hb0.drew.mono hB)).more (show B ≤ (w.alloc (.cells #[.int .u32 0, .int .u32 0, .slice none 0 0] 39)).drew.heap.size from Nat.le_trans hB hb0.size)) (by omega) (w.heap.size + 1) hs1.symm
  have HJ := Lib.hid hj
  have HJ2 := Lib.hid (show Calls Try.prog 29 #[.slice (some ⟨w.heap.size + 1, 0, none⟩) 1 1] (((w.alloc (.cells #[.int .u32 0, .int .u32 0, .slice none 0 0] 39)).alloc (.cells #[.slice (A.map fun x => { block := x.block, off := x.off + 8, spot := none }) k (cap - 8)] 22)).drew) (FreshBytes ((w.alloc (.cells #[.int .u32 0, .int .u32 0, .slice none 0 0] 39)).drew.alloc (.cells #[.slice (A.map fun x => { block := x.block, off := x.off + 8, spot := none }) k (cap - 8)] 22)).heap.size (l.drop 8) ((w.alloc (.cells #[.int .u32 0, .int .u32 0, .slice none 0 0] 39)).drew.alloc (.cells #[.slice (A.map fun x => { block := x.block, off := x.off + 8, spot := none }) k (cap - 8)] 22))) from hj)
  have R1 := Lib.hid (hr1.below (hb0.drew.mono hB))
  have R2 := Lib.hid (hr2.below (hb0.drew.mono hB))
  have R1a := Lib.hid (hr1.below (hb1.mono hB))
  have R2a := Lib.hid (hr2.below (hb1.mono hB))
  have R1b : Hid (Row ((w.alloc (.cells #[.int .u32 0, .int .u32 0, .slice none 0 0] 39)).alloc (.cells #[.slice (A.map fun x => { block := x.block, off := x.off + 8, spot := none }) k (cap - 8)] 22)).drew B A 4 (bv (l.take 4))) := R1a.out
  have R2b : Hid (Row ((w.alloc (.cells #[.int .u32 0, .int .u32 0, .slice none 0 0] 39)).alloc (.cells #[.slice (A.map fun x => { block := x.block, off := x.off + 8, spot := none }) k (cap - 8)] 22)).drew B (A.map fun x => { block := x.block, off := x.off + 4, spot := none }) 4 (bv ((l.drop 4).take 4))) := R2a.out
  clear hj
  go_region_with (first
    | (go_at_call 34; (with_reducible refine (r1number_any B cap A (l.take 4) _ (by first | exact R1.out | exact R1a.out | exact R1b.out)).mono ?_); rintro e w' ⟨rfl, rfl⟩)
    | (go_at_call 34; (with_reducible refine (r1number_any B _ _ ((l.drop 4).take 4) _ (by first | exact R2.out | exact R2a.out | exact R2b.out)).mono ?_); rintro e w' ⟨rfl, rfl⟩)
    | (go_at_call 29; (first | (with_reducible refine HJ.out.mono ?_) | (with_reducible refine HJ2.out.mono ?_)); rintro e w3 ⟨A3, n3, c3, rfl, hn3, hown3, hb3⟩; have hz := (hb3.block w.heap.size (by rw [hsz]; omega)).trans HBX.out; obtain ⟨y0, y1, y2⟩ := box3 hz; have z0 := frozen_of_row w3 w.heap.size 0 _ _ hz; have z1 := frozen_of_row w3 w.heap.size 1 _ _ hz; have z2 := frozen_of_row w3 w.heap.size 2 _ _ hz; have HZ := Lib.hid hz; clear hz))
  all_goals
    go_wp2
    have hrow := store3 HZ.out (.int .u32 (CrcM.number (l.take 4) : Nat)) (.int .u32 (CrcM.number ((l.drop 4).take 4) : Nat)) (.slice A3 n3 c3)
    refine bodyPost_ret (results_cell_tmp_row rfl _ _ w.heap.size _ _ (0, 0) _ rfl hrow Try.underlying39 rfl (by kernel_rfl)) rfl ?_
    refine ⟨A3, n3, c3, rfl, ?_, ?_, ?_⟩
    · show n3 + 8 = l.length
      rw [hn3.out, List.length_drop, HL.out]; omega
    · rw [hsz] at hown3
      exact own_base (ownsRow_setCell_below (ownsRow_setCell_below (ownsRow_setCell_below hown3 (show w.heap.size < w.heap.size + 2 by omega) _) (show w.heap.size < w.heap.size + 2 by omega) _) (show w.heap.size < w.heap.size + 2 by omega) _) (by omega)
    · exact (((hb1.trans (hb3.mono (by rw [hsz]; omega))).setCell (Nat.le_refl _) _).setCell (Nat.le_refl _) _).setCell (Nat.le_refl _) _
end Go.Proofs.Ytiogkokcoedonaa
