/- digest's laws: what their helpers do; DigestOnce. -/
import Derived.Test.YtcgcmfhidolohaaDoorShaSumQ
import Derived.Test.YtcgcmfhidolohaaDoorLawLaidQ
namespace Go.Proofs.YtcgcmfhidolohaaDoor.Sh
open Go.RowKit Go.ChangeShapes Go.WideShapes Go.ChangeAt
set_option maxRecDepth 100000 in
theorem d_abc : Sha.D [97, 98, 99] = [0xba, 0x78, 0x16, 0xbf, 0x8f, 0x01, 0xcf, 0xea, 0x41, 0x41, 0x40, 0xde, 0x5d, 0xae, 0x22, 0x23, 0xb0, 0x03, 0x61, 0xa3, 0x96, 0x17, 0x7a, 0x9c, 0xb4, 0x10, 0xff, 0x61, 0xf2, 0x00, 0x15, 0xad] := by decide +kernel
theorem own_cell {w : World} {B n c : Nat} {A : Option Addr} {l : List UInt8} (h : w.ownsRow B 5 1 (.slice A n c) n (bv l)) (hn : 0 < n) : ∃ g, A = some ⟨g, 0, none⟩ ∧ B ≤ g ∧ ∀ k, k < n → w.cell? ⟨g, k, none⟩ = some (.int .u8 ((l.getD k 0).toNat : Int)) := by
  obtain ⟨g, c2, hv, hg, _⟩ := h.form hn
  injection hv with e1 e2 e3
  refine ⟨g, e1, hg, fun k hk => ?_⟩
  obtain ⟨b, o, e, _, hl, hc⟩ := (Row.of_own h).byteAt hk
  rw [e1] at e
  injection e with e
  injection e with e e'
  subst e e'
  rw [Nat.zero_add] at hc
  rw [hc, List.getD_eq_getElem?_getD, List.getElem?_eq_getElem hl]; rfl
theorem rows2_two (w : World) (r1 r2 : BRow) (t : TypeId) (h1 : Row w w.heap.size r1.A r1.n (bv r1.l)) (h2 : Row w w.heap.size r2.A r2.n (bv r2.l)) :
    Rows2 (w.alloc (.cells #[r1.val, r2.val] t)) (w.heap.size + 1) (some ⟨w.heap.size, 0, none⟩) 2 [r1, r2] := by
  refine ⟨row_new w #[r1.val, r2.val] t (0, 0), fun r hr => ?_⟩
  simp at hr
  rcases hr with rfl | rfl
  · exact (h1.alloc (Nat.le_refl _) _).more (by omega)
  · exact (h2.alloc (Nat.le_refl _) _).more (by omega)
end Go.Proofs.YtcgcmfhidolohaaDoor.Sh
