/- A manifest as bytes, and back: mathematics. -/
import Derived.Test.YtdipccjgpkedhaaStD
namespace Go.Proofs.Ytdipccjgpkedhaa
theorem four_num {l : List UInt8} (h : l.length = 4) : CrcM.four (CrcM.number l) = l := by
  match l, h with
  | [a, b, c, d], _ =>
    have := CrcM.b_lt a; have := CrcM.b_lt b; have := CrcM.b_lt c; have := CrcM.b_lt d
    simp only [CrcM.number, CrcM.four, List.foldl_cons, List.foldl_nil, List.cons.injEq, and_true]
    refine ⟨?_, ?_, ?_, ?_⟩ <;> (apply UInt8.toNat_inj.1; simp; try omega)
theorem num_lt4 {l : List UInt8} (h : l.length = 4) : CrcM.number l < 4294967296 := by
  match l, h with
  | [a, b, c, d], _ =>
    have := CrcM.b_lt a; have := CrcM.b_lt b; have := CrcM.b_lt c; have := CrcM.b_lt d
    simp only [CrcM.number, List.foldl_cons, List.foldl_nil]
    omega
def LMan.bytes (M : LMan) : List UInt8 := plainB M.s M.v M.l.toNat M.z.toNat M.p.toNat M.h
def manRead (l : List UInt8) : LMan := ⟨CrcM.number (l.take 4), CrcM.number ((l.drop 4).take 4), (CrcM.number ((l.drop 8).take 2) : Nat), ((l.getD 10 0).toNat : Int), ((l.getD 11 0).toNat : Int), l.drop 12⟩
theorem bytes_len (M : LMan) : M.bytes.length = 12 + M.h.length := by
  simp [LMan.bytes, plainB, CrcM.four]; omega
theorem manRead_bytes (M : LMan) (hs : M.s < 4294967296) (hv : M.v < 4294967296) (hm : M.may = true) : manRead M.bytes = M := by
  obtain ⟨s, v, l, z, p, h⟩ := M
  obtain ⟨L, Z, P, rfl, rfl, rfl, h1, h2, h3, h4, h5, h6⟩ := man_bounds hm
  have e1 := CrcM.number_four s hs
  have e2 := CrcM.number_four v hv
  simp only [CrcM.four] at e1 e2
  simp only [LMan.bytes, plainB, manRead, CrcM.four, List.cons_append, List.nil_append, List.take_succ_cons, List.take_zero, List.drop_succ_cons, List.drop_zero, Int.toNat_natCast, List.getD_cons_succ, List.getD_cons_zero, LMan.mk.injEq, and_true]
  refine ⟨e1, e2, ?_, ?_, ?_⟩
  · simp [CrcM.number]; omega
  · simp; omega
  · simp; omega
theorem bytes_manRead {l : List UInt8} (h : l.length = 44) : (manRead l).bytes = l := by
  match l, h with
  | a0 :: a1 :: a2 :: a3 :: a4 :: a5 :: a6 :: a7 :: a8 :: a9 :: a10 :: a11 :: t, _ =>
    have e1 := four_num (l := [a0, a1, a2, a3]) rfl
    have e2 := four_num (l := [a4, a5, a6, a7]) rfl
    have h8 := CrcM.b_lt a8; have h9 := CrcM.b_lt a9; have h10 := CrcM.b_lt a10; have h11 := CrcM.b_lt a11
    simp only [LMan.bytes, plainB, manRead, List.take_succ_cons, List.take_zero, List.drop_succ_cons, List.drop_zero, e1, e2, Int.toNat_natCast, List.getD_cons_succ, List.getD_cons_zero, List.cons_append, List.nil_append]
    simp only [CrcM.number, List.foldl_cons, List.foldl_nil, List.cons.injEq, true_and, and_true]
    refine ⟨?_, ?_, ?_, ?_⟩ <;> (apply UInt8.toNat_inj.1; simp; try omega)
theorem read_bounds {l : List UInt8} (h : l.length = 44) : (manRead l).s < 4294967296 ∧ (manRead l).v < 4294967296 ∧ (manRead l).h.length = 32 :=
  ⟨num_lt4 (by simp; omega), num_lt4 (by simp; omega), by simp [manRead]; omega⟩
end Go.Proofs.Ytdipccjgpkedhaa
