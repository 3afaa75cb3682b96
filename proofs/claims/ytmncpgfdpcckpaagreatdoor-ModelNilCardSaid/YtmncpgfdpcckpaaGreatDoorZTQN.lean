/- Frames as lists of bytes. -/
import Derived.BigQuiet
import Derived.Deep.QuietTactic
import Derived.Deep.DeepCutAuto
import Derived.Test.YtmncpgfdpcckpaaGreatDoorZAQN
set_option maxRecDepth 100000
namespace Go.Proofs.YtmncpgfdpcckpaaGreatDoor
namespace FrM
open CrcM (put put_length put_take put_right right)
def flen (l : List UInt8) : Nat := (l.getD 3 0).toNat * 256 + (l.getD 4 0).toNat + 9
def inner (k : UInt8) (l : List UInt8) : List UInt8 := [k, UInt8.ofNat (l.length / 256), UInt8.ofNat l.length] ++ l
def frame (k : UInt8) (l : List UInt8) : List UInt8 := [68, 80] ++ put (inner k l)
theorem inner_length (k : UInt8) (l : List UInt8) : (inner k l).length = l.length + 3 := by simp [inner]
theorem frame_length (k : UInt8) (l : List UInt8) : (frame k l).length = l.length + 9 := by
 simp only [frame, List.length_append, put_length, inner_length, List.length_cons, List.length_nil]; omega
theorem frame_drop (k : UInt8) (l : List UInt8) : (frame k l).drop 2 = put (inner k l) := by simp [frame]
theorem frame_0 (k : UInt8) (l : List UInt8) : (frame k l).getD 0 0 = 68 := by simp [frame]
theorem frame_1 (k : UInt8) (l : List UInt8) : (frame k l).getD 1 0 = 80 := by simp [frame]
theorem frame_2 (k : UInt8) (l : List UInt8) : (frame k l).getD 2 0 = k := by simp [frame, put, inner]
theorem frame_flen (k : UInt8) (l : List UInt8) (h : l.length < 65536) : flen (frame k l) = l.length + 9 := by
 simp [flen, frame, put, inner]
 omega
theorem frame_right (k : UInt8) (l : List UInt8) : right ((frame k l).drop 2) := by rw [frame_drop]; exact put_right _
def load (l : List UInt8) : List UInt8 := ((l.drop 2).take ((l.drop 2).length - 4)).drop 3
theorem frame_load (k : UInt8) (l : List UInt8) : load (frame k l) = l := by
 unfold load; rw [frame_drop, put_take]; rfl
end FrM
end Go.Proofs.YtmncpgfdpcckpaaGreatDoor
namespace Go.Proofs.YtmncpgfdpcckpaaGreatDoor
open Go.RowKit
open FrM (flen inner frame)
open CrcM (put)
def WrapOk (l : List UInt8) (w : World) (e : Ending) (w' : World) : Prop :=
 ∃ A n cap, e = .returned (.tuple #[.slice A n cap, .int .i64 0]) ∧ Hid (n = l.length) ∧ w'.ownsRow w.heap.size 5 1 (.slice A n cap) n (bv l) ∧ Below w.heap.size w w'
theorem length_any (B n cap : Nat) (A : Option Addr) (l : List UInt8) (w : World) (hl : Row w B A n (bv l)) (h5 : 5 ≤ n) (hn : n ≤ cap) (hcap : cap ≤ 9223372036854775807) :
  Calls Tryz.prog 38 #[.slice A n cap] w fun e w' => e = .returned (.int .i64 (flen l : Nat)) ∧ ∃ q, w' = w.drewN q := by
 obtain ⟨b, o, rfl, _, h3l, h3⟩ := hl.byteAt (k := 3) (by omega)
 obtain ⟨b', o', e, _, h4l, h4⟩ := hl.byteAt (k := 4) (by omega)
 injection e with e
 injection e with e1 e2
 subst e1 e2
 have b3 : (l[3].toNat : Int) ≤ 255 := by have := CrcM.b_lt l[3]; omega
 have b4 : (l[4].toNat : Int) ≤ 255 := by have := CrcM.b_lt l[4]; omega
 have b3' : (0 : Int) ≤ (l[3].toNat : Int) := by omega
 have i3 : (3 : Int) < (n : Int) := by omega
 have i4 : (4 : Int) < (n : Int) := by omega
 have hf : flen l = l[3].toNat * 256 + l[4].toNat + 9 := by simp [flen, List.getD, h3l, h4l]
 have HF := Lib.hid hf
 clear hf
 go_enter Tryz.func38, Tryz.ntmps38
 go_wp2
 go_quiet (fail)
 go_wp2
 go_ret
 refine ⟨?_, nq, rfl⟩
 rw [HF.out]
 exact congrArg (fun z => Ending.returned (.int .i64 z)) (show ((l[3].toNat : Int) * 256 + (l[4].toNat : Int) + 9) = ((l[3].toNat * 256 + l[4].toNat + 9 : Nat) : Int) by omega)
def UnErr (k : Int) (w : World) (e : Ending) (w' : World) : Prop := e = .returned (.tuple #[.int .i64 0, .slice none 0 0, .int .i64 k]) ∧ Below w.heap.size w w'
def UnOk (kind : Nat) (m : List UInt8) (w : World) (e : Ending) (w' : World) : Prop :=
 ∃ A n cap, e = .returned (.tuple #[.int .i64 (kind : Int), .slice A n cap, .int .i64 0]) ∧ Hid (n = m.length) ∧ Row w' w'.heap.size A n (bv m) ∧ (n ≤ cap ∧ cap ≤ 9223372036854775807) ∧ Below w.heap.size w w'
theorem unwrap_long (n cap : Nat) (A : Option Addr) (w : World) (hn : 300 < n) : Calls Tryz.prog 20 #[.slice A n cap] w (UnErr 3 w) := by
 go_enter Tryz.func20, Tryz.ntmps20
 go_wp2_with fail
 go_ret3
 exact ⟨rfl, Below.refl _ _⟩
theorem unwrap_short (n cap : Nat) (A : Option Addr) (w : World) (hn : n < 9) : Calls Tryz.prog 20 #[.slice A n cap] w (UnErr 2 w) := by
 go_enter Tryz.func20, Tryz.ntmps20
 go_wp2_with fail
 go_ret3
 exact ⟨rfl, Below.refl _ _⟩
def headOk (l : List UInt8) : Prop := l.getD 0 0 = 68 ∧ l.getD 1 0 = 80 ∧ flen l = l.length
set_option maxHeartbeats 400000 in
theorem unwrap_head (B n cap : Nat) (A : Option Addr) (l : List UInt8) (w : World) (hl : Row w B A n (bv l)) (h9 : 9 ≤ n) (h300 : n ≤ 300) (hn : n ≤ cap) (hcap : cap ≤ 9223372036854775807) (hh : ¬ headOk l) :
  Calls Tryz.prog 20 #[.slice A n cap] w (UnErr 3 w) := by
 obtain ⟨b, o, rfl, _, h0l, h0⟩ := hl.byteAt (k := 0) (by omega)
 obtain ⟨b', o', e, _, h1l, h1⟩ := hl.byteAt (k := 1) (by omega)
 injection e with e
 injection e with e1 e2
 subst e1 e2
 rw [Nat.add_zero] at h0
 have b0 : (l[0].toNat : Int) ≤ 255 := by have := CrcM.b_lt l[0]; omega
 have b1 : (l[1].toNat : Int) ≤ 255 := by have := CrcM.b_lt l[1]; omega
 have HH := Lib.hid hh
 have HB := Lib.hid hl.blen
 clear hh
 by_cases q0 : l[0] = 68
 ·have z0 : ((l[0].toNat : Int) != 68) = false := by rw [q0]; rfl
  by_cases q1 : l[1] = 80
  ·have z1 : ((l[1].toNat : Int) != 80) = false := by rw [q1]; rfl
   have q2 : flen l ≠ n := by
    intro e
    refine HH.out ⟨by simp [List.getD, h0l, q0], by simp [List.getD, h1l, q1], by rw [HB.out]; exact e⟩
   have z2 : ((flen l : Int) != (n : Int)) = true := bne_iff_ne.2 fun e => q2 (Int.ofNat.inj e)
   clear q0 q1 q2
   go_enter Tryz.func20, Tryz.ntmps20
   go_wp2_with fail
   refine (length_any B n cap _ l w hl (by omega) hn hcap).mono ?_
   rintro e w' ⟨rfl, q, rfl⟩
   go_wp2_with fail
   go_ret3
   exact ⟨rfl, below_drewN (Below.refl _ _) q⟩
  ·have z1 : ((l[1].toNat : Int) != 80) = true := bne_iff_ne.2 fun e => q1 (UInt8.toNat.inj (by rw [show l[1].toNat = 80 by omega]; rfl))
   clear q0 q1
   go_enter Tryz.func20, Tryz.ntmps20
   go_wp2_with fail
   go_ret3
   exact ⟨rfl, Below.refl _ _⟩
 ·have z0 : ((l[0].toNat : Int) != 68) = true := bne_iff_ne.2 fun e => q0 (UInt8.toNat.inj (by rw [show l[0].toNat = 68 by omega]; rfl))
  clear q0
  go_enter Tryz.func20, Tryz.ntmps20
  go_wp2_with fail
  go_ret3
  exact ⟨rfl, Below.refl _ _⟩
theorem head_facts {w : World} {B n : Nat} {A : Option Addr} {l : List UInt8} (hl : Row w B A n (bv l)) (h9 : 9 ≤ n) (hh : headOk l) :
  ∃ b o, A = some ⟨b, o, none⟩ ∧ w.cell? ⟨b, o, none⟩ = some (.int .u8 68) ∧ w.cell? ⟨b, o + 1, none⟩ = some (.int .u8 80) ∧ flen l = n := by
 obtain ⟨b, o, rfl, _, h0l, h0⟩ := hl.byteAt (k := 0) (by omega)
 obtain ⟨b', o', e, _, h1l, h1⟩ := hl.byteAt (k := 1) (by omega)
 injection e with e
 injection e with e1 e2
 subst e1 e2
 obtain ⟨g0, g1, g2⟩ := hh
 have q0 : l[0] = 68 := by simpa [List.getD, h0l] using g0
 have q1 : l[1] = 80 := by simpa [List.getD, h1l] using g1
 rw [q0] at h0
 rw [q1] at h1
 exact ⟨b, o, rfl, h0, h1, by rw [g2, hl.blen]⟩
theorem row_from2 {w : World} {B n b o : Nat} {l : List UInt8} (hl : Row w B (some ⟨b, o, none⟩) n (bv l)) (h : 2 ≤ n) : Row w B (some ⟨b, o + 2, none⟩) (n - 2) (bv (l.drop 2)) := by
 have := hl.sub (k := 2) (m := n - 2) (A' := some ⟨b, o + 2, none⟩) (by omega) (fun b' o' e _ => by injection e with e; injection e with e1 e2; subst e1 e2; rfl)
 rwa [bv_drop, bv_take, List.take_of_length_le (by rw [List.length_drop, hl.blen]; omega)] at this
set_option maxHeartbeats 400000 in
theorem unwrap_check (B n cap : Nat) (A : Option Addr) (l : List UInt8) (w : World) (hl : Row w B A n (bv l)) (h9 : 9 ≤ n) (h300 : n ≤ 300) (hn : n ≤ cap) (hcap : cap ≤ 9223372036854775807) (hB : B ≤ w.heap.size) (hh : headOk l) (hR : ¬ isRight (l.drop 2)) :
  Calls Tryz.prog 20 #[.slice A n cap] w (UnErr 4 w) := by
 obtain ⟨b, o, rfl, z0, z1, hf⟩ := head_facts hl h9 hh
 have hrow := row_from2 hl (by omega)
 have HF := Lib.hid hf
 have HR := Lib.hid hR
 clear hf hR
 go_enter Tryz.func20, Tryz.ntmps20
 go_wp2_with fail
 refine (length_any B n cap _ l w hl (by omega) hn hcap).mono ?_
 rintro e w' ⟨rfl, q, rfl⟩
 rw [HF.out]
 go_wp2_with fail
 refine (right_no B (n - 2) (cap - 2) _ (l.drop 2) _ (hrow.drewN q) (by omega) (by omega) hB HR.out).mono ?_
 rintro e w2 ⟨rfl, hb2⟩
 go_wp2_with fail
 go_ret3
 exact ⟨rfl, (below_drewN (Below.refl _ _) q).trans hb2⟩
set_option maxHeartbeats 400000 in
theorem unwrap_ok (B n cap : Nat) (A : Option Addr) (l : List UInt8) (w : World) (hl : Row w B A n (bv l)) (h9 : 9 ≤ n) (h300 : n ≤ 300) (hn : n ≤ cap) (hcap : cap ≤ 9223372036854775807) (hB : B ≤ w.heap.size) (hh : headOk l) (hR : isRight (l.drop 2)) :
  Calls Tryz.prog 20 #[.slice A n cap] w (UnOk (l.getD 2 0).toNat (FrM.load l) w) := by
 obtain ⟨b, o, rfl, z0, z1, hf⟩ := head_facts hl h9 hh
 have hrow := row_from2 hl (by omega)
 have hbl := hl.blen
 have hld : (FrM.load l).length = n - 9 := by unfold FrM.load; rw [List.length_drop, List.length_take, List.length_drop, hbl]; omega
 have hm2 : (((l.drop 2).take ((l.drop 2).length - 4)).getD 0 0) = l.getD 2 0 := by
  simp [List.getD, List.getElem?_take]
  rw [if_pos (by omega)]
 generalize hkd : l.getD 2 0 = kd at *
 have HKD := Lib.hid hkd
 have hkb : (kd.toNat : Int) ≤ 255 := by have := CrcM.b_lt kd; omega
 clear hkd
 generalize hml : FrM.load l = ml at *
 have hml2 : ml = ((l.drop 2).take ((l.drop 2).length - 4)).drop 3 := by rw [← hml]; rfl
 have HML := Lib.hid hml2
 clear hml hml2
 have HF := Lib.hid hf
 have HR := Lib.hid hR
 have HLD := Lib.hid hld
 have HM2 := Lib.hid hm2
 have HBL := Lib.hid hbl
 clear hf hR hld hm2 hbl
 go_enter Tryz.func20, Tryz.ntmps20
 go_wp2_with fail
 refine (length_any B n cap _ l w hl (by omega) hn hcap).mono ?_
 rintro e w' ⟨rfl, q, rfl⟩
 rw [HF.out]
 go_wp2_with fail
 refine (right_yes B (n - 2) (cap - 2) _ (l.drop 2) _ (hrow.drewN q) (by omega) (by omega) (by omega) hB HR.out).mono ?_
 rintro e w2 ⟨A2, n2, c2, rfl, hn2, hown2, hb2⟩
 have hn2' : n2 = n - 6 := by
  have e := hn2.out
  rw [List.length_take, List.length_drop, HBL.out] at e
  omega
 subst hn2'
 obtain ⟨g, c2', hv, hg0, hglt⟩ := hown2.form (by omega)
 injection hv with e1 e2 e3
 subst e1 e3
 have hc2 := own_cap hown2
 have hcell := (hown2.cellAt 0 (by omega)).trans (bv_getD _ 0 (by rw [List.length_take, List.length_drop, HBL.out]; omega))
 rw [HM2.out] at hcell
 have i0 : (0 : Int) < ((n - 6 : Nat) : Int) := by omega
 have i3 : (3 : Int) ≤ ((n - 6 : Nat) : Int) := by omega
 generalize hN : n - 6 = N at *
 have HN := Lib.hid hN
 clear hN e2
 go_wp2_with fail
 go_quiet (fail)
 have hrow3 : Row w2 w2.heap.size (if c2 = 3 then some ⟨g, 0, none⟩ else some ⟨g, 3, none⟩) (N - 3) (bv ml) := by
  have := (Row.of_own hown2).tail (k := 3) (by omega) hc2.1
  rw [bv_drop, ← HML.out] at this
  simpa [Addr.add] using this
 have hb2' : Below w.heap.size w w2 := (below_drewN (Below.refl _ _) q).trans hb2
 have hlen : N - 3 = ml.length := by rw [HLD.out, ← HN.out]; omega
 have HLEN := Lib.hid hlen
 clear hlen hown2 hb2
 go_wp2_with fail
 ·go_ret3
  refine ⟨_, _, _, rfl, HLEN.out, ?_, ⟨by omega, by omega⟩, below_drewN hb2' nq⟩
  have := hrow3.drewN nq
  simpa [*] using this
 ·go_ret3
  refine ⟨_, _, _, rfl, HLEN.out, ?_, ⟨by omega, by omega⟩, below_drewN hb2' nq⟩
  have := hrow3.drewN nq
  simpa [*] using this
end Go.Proofs.YtmncpgfdpcckpaaGreatDoor
namespace Go.Proofs.YtmncpgfdpcckpaaGreatDoor
open Go.RowKit
open FrM (flen inner frame)
theorem frame_head (k : UInt8) (l : List UInt8) (h : l.length ≤ 291) : headOk (frame k l) :=
 ⟨FrM.frame_0 k l, FrM.frame_1 k l, by rw [FrM.frame_flen k l (by omega), FrM.frame_length]⟩
end Go.Proofs.YtmncpgfdpcckpaaGreatDoor
