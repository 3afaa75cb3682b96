/- packet.add, Bytes, Same: by contracts. -/
import Derived.Test.YtiogkokcoedonaaFour
import Derived.WalkSpells
import Derived.WalkLawsBesides
import Derived.Deep.DeepCutAuto
namespace Go.Proofs.Ytiogkokcoedonaa
open Go.RowKit

def AddPost (base m : Nat) (xs : List Value) (s : Nat) (w : World) (e : Ending) (w' : World) : Prop :=
  ∃ A c m', e = .returned (.slice A m' c) ∧ Hid (m' = m + 4) ∧ w'.ownsRow base 5 1 (.slice A m' c) m' (xs ++ bv (CrcM.four s)) ∧ Below base w w'
set_option maxHeartbeats 400000 in
theorem add4_any (s : Nat) (hs : s < 4294967296) (base m c : Nat) (A : Option Addr) (xs : List Value) (w : World) (hown : w.ownsRow base 5 1 (.slice A m c) m xs) (hb : base ≤ w.heap.size) (hm : m ≤ 1000000000) :
    Calls Try.prog 31 #[.slice A m c, .int .u32 (s : Int)] w (AddPost base m xs s w) := by
  obtain ⟨i0, hi, hz0, hz1, hz2⟩ := info_parts Try.info5
  have hs' : (s : Int) ≤ 4294967295 := by omega
  have HF := Lib.hid (four_cells s hs)
  clear hs
  go_enter Try.func31, Try.ntmps31
  go_wp2_with (at_builtin; refine wpList_app rfl (.tmp 5) (.tmp 17) 22 rfl base 5 i0 (.int .u8 0) 1 Try.underlying22 hi hz0 hz1 hz2 rfl _ m xs rfl (hown.alloc _) _ _ 4 4 _ rfl (row_new w _ _ _) (by intro u hu; simp at hu; rcases hu with rfl | rfl | rfl | rfl <;> rfl) (by unfold maxLen; omega) (by omega) (by simp; omega) ?_; intro v2 w2 hown2 hg2 hat2)
  obtain ⟨A2, c2, rfl, _⟩ := own_slice hown2
  go_ret
  have hb2 := below_app ((Below.refl base w).alloc hb _) (by simp; omega) (hown.alloc _) (Nat.le_refl _) hg2
  refine ⟨A2, c2, m + 4, rfl, rfl, ?_, hb2⟩
  rw [← HF.out]
  exact hown2
theorem box3 {w : World} {g : Nat} {x y z : Value} {t : TypeId} (h : w.heap[g]? = some (.cells #[x, y, z] t (0, 0))) : w.cell? ⟨g, 0, none⟩ = some x ∧ w.cell? ⟨g, 1, none⟩ = some y ∧ w.cell? ⟨g, 2, none⟩ = some z := by
  refine ⟨?_, ?_, ?_⟩ <;> rw [cell_of_row w g _ _ t (0, 0) h] <;> rfl
def symB (s id : Nat) (l : List UInt8) : List UInt8 := CrcM.four s ++ CrcM.four id ++ l
def symV (s id : Nat) (A : Option Addr) (n c : Nat) : Value := .agg #[.int .u32 (s : Int), .int .u32 (id : Int), .slice A n c]
def BytesOk (l : List UInt8) (w : World) (e : Ending) (w' : World) : Prop :=
  ∃ A n cap, e = .returned (.tuple #[.slice A n cap, .int .i64 0]) ∧ Hid (n = l.length) ∧ w'.ownsRow w.heap.size 5 1 (.slice A n cap) n (bv l) ∧ Below w.heap.size w w'
set_option maxHeartbeats 400000 in
theorem bytes_ok (s id B n cap : Nat) (A : Option Addr) (l : List UInt8) (w : World) (hs : s < 4294967296) (hid : id < 4294967296) (hl : Row w B A n (bv l)) (h1 : 1 ≤ n) (h16 : n ≤ 16) (hB : B ≤ w.heap.size) :
    Calls Try.prog 21 #[.agg #[.int .u32 (s : Int), .int .u32 (id : Int), .slice A n cap]] w (BytesOk (symB s id l) w) := by
  obtain ⟨i0, hi, hz0, hz1, hz2⟩ := info_parts Try.info5
  have HS := Lib.hid hs
  have HI := Lib.hid hid
  have HB := Lib.hid hl.blen
  clear hs hid
  go_enter Try.func21, Try.ntmps21
  go_upto_region 4 with (at_make; refine wpList_make_own _ rfl _ _ 22 rfl (w.heap.size + 1) 5 i0 (.int .u8 0) 1 Try.underlying22 hi hz0 hz1 .i64 .i64 _ (8 + n) rfl rfl (by omega) (by rw [hz2]; omega) (by unfold maxLen; omega) (by simp) ?_; intro w1 hown1 hg1)
  have hb1 : Below (w.heap.size + 1) (w.alloc _) w1 := (Below.refl _ _).grown hg1 (by simp) (by intro g h; nomatch h)
  have hbox1 := (hb1.block w.heap.size (by omega)).trans (heap_alloc_new w _)
  have hs1 : w.heap.size + 1 ≤ w1.heap.size := by have := hb1.size; simpa using this
  have hown1' : w1.ownsRow (w.heap.size + 1) 5 1 (.slice (some { block := w.heap.size + 1, off := 0 }) 0 (8 + n)) 0 [] := by simpa using hown1
  obtain ⟨y0, y1, y2⟩ := box3 hbox1
  have HBX1 := Lib.hid hbox1
  clear hbox1
  go_wp2_with fail
  refine (add4_any s HS.out (w.heap.size + 1) 0 (8 + n) _ [] w1 hown1' hs1 (by omega)).mono ?_
  rintro e w2 ⟨A2, c2, m2, rfl, hm2, hown2, hb2⟩
  have hm2' : m2 ≤ 4 := by rw [hm2.out]; omega
  have hs2 := hb2.size
  clear y0 y1 y2
  obtain ⟨y0, y1, y2⟩ := box3 ((hb2.block w.heap.size (by omega)).trans HBX1.out)
  go_wp2_with fail
  refine (add4_any id HI.out (w.heap.size + 1) m2 c2 A2 _ w2 hown2 (by omega) (by omega)).mono ?_
  rintro e w3 ⟨A3, c3, m3, rfl, hm3, hown3, hb3⟩
  have hm3' : m3 ≤ 8 := by rw [hm3.out]; omega
  have hs3 := hb3.size
  clear y0 y1 y2
  obtain ⟨y0, y1, y2⟩ := box3 ((hb3.block w.heap.size (by omega)).trans ((hb2.block w.heap.size (by omega)).trans HBX1.out))
  have hb3' : Below w.heap.size w w3 := (((Below.refl _ _).alloc (Nat.le_refl _) _).trans (hb1.mono (by omega))).trans ((hb2.mono (by omega)).trans (hb3.mono (by omega)))
  go_wp2_with (at_builtin; refine wpList_app rfl (.tmp 28) (.tmp 30) 22 rfl (w.heap.size + 1) 5 i0 (.int .u8 0) 1 Try.underlying22 hi hz0 hz1 hz2 rfl _ m3 _ rfl hown3 B A n cap (bv l) rfl (hl.below (hb3'.mono hB)) (bv_one l) (by unfold maxLen; omega) (by omega) (by omega) ?_; intro v4 w4 hown4 hg4 hat4)
  obtain ⟨A4, c4, rfl, _⟩ := own_slice hown4
  go_ret2
  have hb4 := below_app hb3' (by omega) hown3 (by omega) hg4
  refine ⟨A4, m3 + n, c4, rfl, ?_, ?_, hb4⟩
  · show _ = (symB s id l).length
    rw [hm3.out, hm2.out]
    simp [symB, CrcM.four, HB.out]; omega
  · have := own_base hown4 (show w.heap.size ≤ w.heap.size + 1 by omega)
    unfold symB
    rw [bv_append, bv_append]
    simpa using this
end Go.Proofs.Ytiogkokcoedonaa
