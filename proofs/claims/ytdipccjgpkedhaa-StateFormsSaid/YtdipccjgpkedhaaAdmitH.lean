/- session.Admit, what it refuses what it admits: by contract. -/
import Derived.Test.YtdipccjgpkedhaaAdmitB
import Derived.Test.YtdipccjgpkedhaaDrop
namespace Go.Proofs.Ytdipccjgpkedhaa
open Go.RowKit
theorem drew_heap (w : World) : w.drew.heap = w.heap := rfl
theorem RowF.of_own {w : World} {base n c : Nat} {e : TypeId} {A : Option Addr} {xs : List Value} (h : w.ownsRow base e 1 (.slice A n c) n xs) : RowF w base A n xs := by
  refine ⟨(Row.of_own h).1, fun hn => ?_⟩
  obtain ⟨b, o, ee, hlt, hc⟩ := (Row.of_own h).2 hn
  have := (h.lt b (by rw [ee]; rfl)).1
  exact ⟨b, o, ee, hlt, by omega, hc⟩
theorem keep7 {w : World} {g b : Nat} (h : b ≠ g) (b0 b1 b2 b3 b4 b5 b6 : Value) :
    ((((((((w.setCell ⟨g, 10, none⟩ b0).setCell ⟨g, 11, none⟩ b1).setCell ⟨g, 12, none⟩ b2).setCell ⟨g, 13, none⟩ b3).setCell ⟨g, 14, none⟩ b4).setCell ⟨g, 15, none⟩ b5).setCell ⟨g, 16, none⟩ b6).drew).heap[b]? = w.heap[b]? := by
  rw [drew_heap, heap_setCell_other _ _ _ _ h, heap_setCell_other _ _ _ _ h, heap_setCell_other _ _ _ _ h, heap_setCell_other _ _ _ _ h, heap_setCell_other _ _ _ _ h, heap_setCell_other _ _ _ _ h, heap_setCell_other _ _ _ _ h]
theorem below7 {w w' : World} {g B : Nat} (h : Below B w w') (hg : B ≤ g) (b0 b1 b2 b3 b4 b5 b6 : Value) :
    Below B w ((((((((w'.setCell ⟨g, 10, none⟩ b0).setCell ⟨g, 11, none⟩ b1).setCell ⟨g, 12, none⟩ b2).setCell ⟨g, 13, none⟩ b3).setCell ⟨g, 14, none⟩ b4).setCell ⟨g, 15, none⟩ b5).setCell ⟨g, 16, none⟩ b6).drew) :=
  (((((((h.setCell hg _).setCell hg _).setCell hg _).setCell hg _).setCell hg _).setCell hg _).setCell hg _).drew
theorem size7 {w : World} {g : Nat} (b0 b1 b2 b3 b4 b5 b6 : Value) :
    ((((((((w.setCell ⟨g, 10, none⟩ b0).setCell ⟨g, 11, none⟩ b1).setCell ⟨g, 12, none⟩ b2).setCell ⟨g, 13, none⟩ b3).setCell ⟨g, 14, none⟩ b4).setCell ⟨g, 15, none⟩ b5).setCell ⟨g, 16, none⟩ b6).drew).heap.size = w.heap.size := by rw [drew_heap]; simp
theorem set7d {w : World} {g : Nat} {t : TypeId} {a0 a1 a2 a3 a4 a5 a6 a7 a8 a9 a10 a11 a12 a13 a14 a15 a16 : Value} (h : w.heap[g]? = some (.cells #[a0, a1, a2, a3, a4, a5, a6, a7, a8, a9, a10, a11, a12, a13, a14, a15, a16] t (0, 0))) (b0 b1 b2 b3 b4 b5 b6 : Value) :
    ((((((((w.setCell ⟨g, 10, none⟩ b0).setCell ⟨g, 11, none⟩ b1).setCell ⟨g, 12, none⟩ b2).setCell ⟨g, 13, none⟩ b3).setCell ⟨g, 14, none⟩ b4).setCell ⟨g, 15, none⟩ b5).setCell ⟨g, 16, none⟩ b6).drew).heap[g]? = some (.cells #[a0, a1, a2, a3, a4, a5, a6, a7, a8, a9, b0, b1, b2, b3, b4, b5, b6] t (0, 0)) := by
  rw [drew_heap]
  exact set7 h b0 b1 b2 b3 b4 b5 b6
def AdmitYes (act : Int) (flo gen v0 : Nat) (l0 : Int) (n0 : Nat) (v1 : Nat) (l1 : Int) (n1 : Nat) (ms mv : Nat) (ml mz mp : Int) (h0 h1 mh : List UInt8) (w : World) (e : Ending) (w' : World) : Prop :=
  ∃ A0' c0' A1' c1' A' c', e = .returned (.tuple #[.agg #[.int .i64 act, .int .i64 0, .int .u32 (flo : Int), .int .u32 ((gen + 1 : Nat) : Int), .int .u32 (v0 : Int), .int .i64 l0, .slice A0' n0 c0', .int .u32 (v1 : Int), .int .i64 l1, .slice A1' n1 c1', .bool true, .int .u32 (ms : Int), .int .u32 (mv : Int), .int .i64 ml, .int .i64 mz, .int .i64 mp, .slice A' 32 c'], .int .i64 0]) ∧ Hid (RowF w' w.heap.size A0' n0 (bv h0)) ∧ Hid (RowF w' w.heap.size A1' n1 (bv h1)) ∧ Hid (RowF w' w.heap.size A' 32 (bv mh)) ∧ Hid (Below w.heap.size w w')
end Go.Proofs.Ytdipccjgpkedhaa
