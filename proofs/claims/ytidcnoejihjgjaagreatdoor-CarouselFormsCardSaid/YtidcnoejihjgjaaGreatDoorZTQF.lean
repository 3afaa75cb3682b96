/- Frames as lists of bytes. -/
import Derived.BigQuiet
import Derived.Deep.QuietTactic
import Derived.Deep.DeepCutAuto
import Derived.Test.YtidcnoejihjgjaaGreatDoorZAQF
namespace Go.Proofs.YtidcnoejihjgjaaGreatDoor
namespace FrM
open CrcM (put put_length put_take put_right right)
def flen (l : List UInt8) : Nat := (l.getD 3 0).toNat * 256 + (l.getD 4 0).toNat + 9
def inner (k : UInt8) (l : List UInt8) : List UInt8 := [k, UInt8.ofNat (l.length / 256), UInt8.ofNat l.length] ++ l
def frame (k : UInt8) (l : List UInt8) : List UInt8 := [68, 80] ++ put (inner k l)
theorem inner_length (k : UInt8) (l : List UInt8) : (inner k l).length = l.length + 3 := by simp [inner]
theorem frame_length (k : UInt8) (l : List UInt8) : (frame k l).length = l.length + 9 := by
  simp only [frame, List.length_append, put_length, inner_length, List.length_cons, List.length_nil]; omega
def load (l : List UInt8) : List UInt8 := ((l.drop 2).take ((l.drop 2).length - 4)).drop 3
end FrM
end Go.Proofs.YtidcnoejihjgjaaGreatDoor
namespace Go.Proofs.YtidcnoejihjgjaaGreatDoor
open Go.RowKit
open FrM (flen inner frame)
open CrcM (put)

def WrapOk (l : List UInt8) (w : World) (e : Ending) (w' : World) : Prop :=
  ∃ A n cap, e = .returned (.tuple #[.slice A n cap, .int .i64 0]) ∧ Hid (n = l.length) ∧ w'.ownsRow w.heap.size 5 1 (.slice A n cap) n (bv l) ∧ Below w.heap.size w w'
theorem inner_cells (k : UInt8) (n : Nat) (h : n ≤ 291) : [Value.int .u8 (k.toNat : Int), Value.int .u8 ((n : Int) / 256), Value.int .u8 ((n : Int) % 256)] = bv [k, UInt8.ofNat (n / 256), UInt8.ofNat n] := by
  simp [bv]
  omega
set_option maxRecDepth 100000 in
set_option maxHeartbeats 400000 in
theorem wrap_ok (k : UInt8) (B n cap : Nat) (A : Option Addr) (l : List UInt8) (w : World) (hl : Row w B A n (bv l)) (hn : n ≤ 291) (hB : B ≤ w.heap.size) :
    Calls Tryz.prog 74 #[.int .i64 (k.toNat : Int), .slice A n cap] w (WrapOk (frame k l) w) := by
  obtain ⟨i0, hi, hz0, hz1, hz2⟩ := info_parts Tryz.info5
  have hk0 : (0 : Int) ≤ (k.toNat : Int) := by omega
  have hk1 : (k.toNat : Int) ≤ 255 := by have := CrcM.b_lt k; omega
  have HB := Lib.hid hl.blen
  go_enter Tryz.func74, Tryz.ntmps74
  go_wp2_with (at_builtin; refine wpList_app rfl (.tmp 27) (.tmp 28) 22 rfl w.heap.size 5 i0 (.int .u8 0) 1 Tryz.underlying22 hi hz0 hz1 hz2 rfl _ 3 _ rfl (own_lit _ rfl (Nat.le_refl _) rfl (by unfold maxLen; omega)) B A n cap (bv l) rfl (hl.alloc hB _) (bv_one l) (by unfold maxLen; omega) (by omega) (by simp) ?_; intro v2 w2 hown2 hg2 hat2; obtain ⟨A2, c2, rfl, _⟩ := own_slice hown2)
  have hb2 : Below w.heap.size w w2 := below_new hg2
  have hs2 := hb2.size
  have hown2' : w2.ownsRow w.heap.size 5 1 (.slice A2 (3 + n) c2) (3 + n) (bv (inner k l)) := by
    have e := inner_cells k n hn
    unfold inner
    rw [bv_append, HB.out, ← e]
    exact hown2
  clear hown2 hat2
  have hb2a : Below w2.heap.size w2 (w2.alloc (.cells #[.int .u8 68, .int .u8 80] 5)) := (Below.refl _ _).alloc (Nat.le_refl _) _
  have hdp : (w2.alloc (.cells #[.int .u8 68, .int .u8 80] 5)).ownsRow w.heap.size 5 1 (.slice (some ⟨w2.heap.size, 0, none⟩) 2 2) 2 (bv [68, 80]) := own_lit #[.int .u8 68, .int .u8 80] rfl hs2 rfl (by unfold maxLen; omega)
  refine (put_any _ (3 + n) c2 A2 (inner k l) _ (Row.of_own (own_below hown2' hb2a)) (by omega) (Nat.le_refl _)).mono ?_
  rintro e w3 ⟨A3, n3, c3, rfl, hn3, hown3, hb3⟩
  have hs3 := hb3.size
  have hs3' : w2.heap.size + 1 ≤ w3.heap.size := by simpa using hs3
  have e3 : n3 = (put (inner k l)).length := hn3.out
  have hn3' : n3 ≤ 300 := by rw [e3, CrcM.put_length, FrM.inner_length, HB.out]; omega
  have E3 := Lib.hid e3
  clear e3
  have hdp3 := own_below hdp hb3
  go_wp2_with (at_builtin; refine wpList_app rfl (.tmp 30) (.tmp 32) 22 rfl w.heap.size 5 i0 (.int .u8 0) 1 Tryz.underlying22 hi hz0 hz1 hz2 rfl _ 2 _ rfl hdp3 _ A3 n3 c3 _ rfl (Row.of_own hown3) (bv_one _) (by unfold maxLen; omega) (by omega) (by omega) ?_; intro v4 w4 hown4 hg4 hat4; obtain ⟨A4, c4, rfl, _⟩ := own_slice hown4)
  go_ret2
  have hb3' : Below w.heap.size w w3 := (hb2.trans (hb2a.mono hs2)).trans (hb3.mono (by simp; omega))
  have hb4 := below_app hb3' (by omega) hdp3 (Nat.le_refl _) hg4
  rw [← bv_append] at hown4
  refine ⟨A4, 2 + n3, c4, rfl, ?_, hown4, hb4⟩
  show _ = (frame k l).length
  rw [E3.out]
  simp [frame]; omega

def headOk (l : List UInt8) : Prop := l.getD 0 0 = 68 ∧ l.getD 1 0 = 80 ∧ flen l = l.length
end Go.Proofs.YtidcnoejihjgjaaGreatDoor
namespace Go.Proofs.YtidcnoejihjgjaaGreatDoor
open Go.RowKit
open FrM (flen inner frame)
theorem wrap_at (kind : Int) (k : UInt8) (hk : kind = (k.toNat : Int)) (B n cap : Nat) (A : Option Addr) (l : List UInt8) (w : World) (hl : Row w B A n (bv l)) (hn : n ≤ 291) (hB : B ≤ w.heap.size) :
    Calls Tryz.prog 74 #[.int .i64 kind, .slice A n cap] w (WrapOk (frame k l) w) := by
  subst hk; exact wrap_ok k B n cap A l w hl hn hB
end Go.Proofs.YtidcnoejihjgjaaGreatDoor
