/- Frames as lists of bytes. -/
import Derived.Test.YtghadeingmccfaaCrcTellsMath
namespace Go.Proofs.Ytghadeingmccfaa
namespace FrM
open CrcM (put put_length put_take put_right right)
/-- how long the frame says that it is -/
def flen (l : List UInt8) : Nat := (l.getD 3 0).toNat * 256 + (l.getD 4 0).toNat + 9
def inner (k : UInt8) (l : List UInt8) : List UInt8 := [k, UInt8.ofNat (l.length / 256), UInt8.ofNat l.length] ++ l
def frame (k : UInt8) (l : List UInt8) : List UInt8 := [68, 80] ++ put (inner k l)
theorem inner_length (k : UInt8) (l : List UInt8) : (inner k l).length = l.length + 3 := by simp [inner]
theorem frame_length (k : UInt8) (l : List UInt8) : (frame k l).length = l.length + 9 := by
  simp only [frame, List.length_append, put_length, inner_length, List.length_cons, List.length_nil]; omega
theorem frame_drop (k : UInt8) (l : List UInt8) : (frame k l).drop 2 = put (inner k l) := by simp [frame]
theorem frame_0 (k : UInt8) (l : List UInt8) : (frame k l).getD 0 0 = 68 := by simp [frame]
theorem frame_1 (k : UInt8) (l : List UInt8) : (frame k l).getD 1 0 = 80 := by simp [frame]
theorem frame_2 (k : UInt8) (l : List UInt8) : (frame k l).getD 2 0 = k := by simp [frame, put, inner]
theorem frame_flen (k : UInt8) (l : List UInt8) (h : l.length < 65536) : flen (frame k l) = l.length + 9 := by
  simp [flen, frame, put, inner]
  omega
theorem frame_right (k : UInt8) (l : List UInt8) : right ((frame k l).drop 2) := by rw [frame_drop]; exact put_right _
/-- what a frame carries -/
def load (l : List UInt8) : List UInt8 := ((l.drop 2).take ((l.drop 2).length - 4)).drop 3
theorem frame_load (k : UInt8) (l : List UInt8) : load (frame k l) = l := by
  unfold load; rw [frame_drop, put_take]; rfl
end FrM
end Go.Proofs.Ytghadeingmccfaa
