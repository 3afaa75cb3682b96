/- A manifest as bytes, and back: mathematics. -/
import Derived.Test.YtmncpgfdpcckpaaGreatDoorZSQN
namespace Go.Proofs.YtmncpgfdpcckpaaGreatDoor
theorem four_num {l : List UInt8} (h : l.length = 4) : CrcM.four (CrcM.number l) = l := by
 match l, h with
 | [a, b, c, d], _ =>
  have := CrcM.b_lt a; have := CrcM.b_lt b; have := CrcM.b_lt c; have := CrcM.b_lt d
  simp only [CrcM.number, CrcM.four, List.foldl_cons, List.foldl_nil, List.cons.injEq, and_true]
  refine ⟨?_, ?_, ?_, ?_⟩ <;> (apply UInt8.toNat_inj.1; simp; try omega)
theorem num_lt4 {l : List UInt8} (h : l.length = 4) : CrcM.number l < 4294967296 := by
 match l, h with
 | [a, b, c, d], _ =>
  have := CrcM.b_lt a; have := CrcM.b_lt b; have := CrcM.b_lt c; have := CrcM.b_lt d
  simp only [CrcM.number, List.foldl_cons, List.foldl_nil]
  omega
def LMan.bytes (M : LMan) : List UInt8 := plainB M.s M.v M.l.toNat M.z.toNat M.p.toNat M.h
def manRead (l : List UInt8) : LMan := ⟨CrcM.number (l.take 4), CrcM.number ((l.drop 4).take 4), (CrcM.number ((l.drop 8).take 2) : Nat), ((l.getD 10 0).toNat : Int), ((l.getD 11 0).toNat : Int), l.drop 12⟩
theorem bytes_len (M : LMan) : M.bytes.length = 12 + M.h.length := by
 simp [LMan.bytes, plainB, CrcM.four]; omega
theorem manRead_bytes (M : LMan) (hs : M.s < 4294967296) (hv : M.v < 4294967296) (hm : M.may = true) : manRead M.bytes = M := by
 obtain ⟨s, v, l, z, p, h⟩ := M
 obtain ⟨L, Z, P, rfl, rfl, rfl, h1, h2, h3, h4, h5, h6⟩ := man_bounds hm
 have e1 := CrcM.number_four s hs
 have e2 := CrcM.number_four v hv
 simp only [CrcM.four] at e1 e2
 simp only [LMan.bytes, plainB, manRead, CrcM.four, List.cons_append, List.nil_append, List.take_succ_cons, List.take_zero, List.drop_succ_cons, List.drop_zero, Int.toNat_natCast, List.getD_cons_succ, List.getD_cons_zero, LMan.mk.injEq, and_true]
 refine ⟨e1, e2, ?_, ?_, ?_⟩
 ·simp [CrcM.number]; omega
 ·simp; omega
 ·simp; omega
end Go.Proofs.YtmncpgfdpcckpaaGreatDoor
namespace Go.Proofs.YtmncpgfdpcckpaaGreatDoor
def readM (l : List UInt8) : LMan := if l.length = 44 ∧ (manRead l).may = true then manRead l else LMan.zero
def readE (l : List UInt8) : Int := if l.length = 44 ∧ (manRead l).may = true then 0 else 3
def LMan.ok (M : LMan) : Prop := M.may = true ∧ M.s < 4294967296 ∧ M.v < 4294967296
theorem may_32 {M : LMan} (h : M.may = true) : M.h.length = 32 := by
 obtain ⟨_, _, _, _, _, _, _, _, _, _, _, h32⟩ := man_bounds h
 exact h32
theorem readM_bytes {M : LMan} (h : M.ok) : readM M.bytes = M ∧ readE M.bytes = 0 := by
 have e := manRead_bytes M h.2.1 h.2.2 h.1
 have k : M.bytes.length = 44 ∧ (manRead M.bytes).may = true := ⟨by rw [bytes_len, may_32 h.1], by rw [e]; exact h.1⟩
 unfold readM readE
 rw [if_pos k, if_pos k]
 exact ⟨e, rfl⟩
end Go.Proofs.YtmncpgfdpcckpaaGreatDoor
