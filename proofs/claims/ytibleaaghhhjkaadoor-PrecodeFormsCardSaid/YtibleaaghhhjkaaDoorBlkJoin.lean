/- block.Join: by contract. -/
import Derived.Test.YtibleaaghhhjkaaDoorBlkSplit
namespace Go.Proofs.YtibleaaghhhjkaaDoor
open Go.RowKit
def joinF (es : List BRow) (len : Int) : List UInt8 := if len < 1 ∨ 512 < len then [] else if ((flat es).length : Int) < len then [] else (flat es).take len.toNat
def so (es : List BRow) (L k : Nat) : List UInt8 := (flat (es.take k)).take L
theorem so_le (es : List BRow) (L k : Nat) : (so es L k).length ≤ L := by simp [so]; omega
theorem so_next (es : List BRow) (L k : Nat) (r : BRow) (h : es[k]? = some r) (p : Nat) (hp : p = min r.l.length (L - (so es L k).length)) : so es L (k + 1) = so es L k ++ r.l.take p := by
  have hlk := (List.getElem?_eq_some_iff.1 h).1
  rw [List.getElem?_eq_getElem hlk] at h
  injection h with h
  have e1 : so es L (k + 1) = (flat (es.take k) ++ r.l).take L := by
    unfold so
    rw [List.take_succ_eq_append_getElem hlk, h, flat_snoc]
  have e2 : (so es L k).length = min L (flat (es.take k)).length := by unfold so; rw [List.length_take]
  rw [e1, List.take_append]
  show _ = (flat (es.take k)).take L ++ _
  congr 1
  rw [hp, e2]
  by_cases hy : r.l.length ≤ L - (flat (es.take k)).length
  · rw [show min r.l.length (L - min L (flat (es.take k)).length) = r.l.length by omega, List.take_length, List.take_of_length_le hy]
  · rw [show min r.l.length (L - min L (flat (es.take k)).length) = L - (flat (es.take k)).length by omega]
end Go.Proofs.YtibleaaghhhjkaaDoor
