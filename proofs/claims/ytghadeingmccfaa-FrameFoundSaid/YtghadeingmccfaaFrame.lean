/- frame.Wrap, length, Unwrap: by contracts. -/
import Derived.Test.YtghadeingmccfaaCrcPut
import Derived.Test.YtghadeingmccfaaFrameMath
import Derived.BigQuiet
import Derived.Deep.QuietTactic
import Derived.Deep.DeepCutAuto
namespace Go.Proofs.Ytghadeingmccfaa
open Go.RowKit
open FrM (flen inner frame)
open CrcM (put)

def WrapOk (l : List UInt8) (w : World) (e : Ending) (w' : World) : Prop :=
  ∃ A n cap, e = .returned (.tuple #[.slice A n cap, .int .i64 0]) ∧ Hid (n = l.length) ∧ w'.ownsRow w.heap.size 5 1 (.slice A n cap) n (bv l) ∧ Below w.heap.size w w'
theorem inner_cells (k : UInt8) (n : Nat) (h : n ≤ 291) : [Value.int .u8 (k.toNat : Int), Value.int .u8 ((n : Int) / 256), Value.int .u8 ((n : Int) % 256)] = bv [k, UInt8.ofNat (n / 256), UInt8.ofNat n] := by
  simp [bv]
  omega
set_option maxHeartbeats 400000 in
theorem wrap_ok (k : UInt8) (B n cap : Nat) (A : Option Addr) (l : List UInt8) (w : World) (hl : Row w B A n (bv l)) (hn : n ≤ 291) (hB : B ≤ w.heap.size) :
    Calls Try.prog 7 #[.int .i64 (k.toNat : Int), .slice A n cap] w (WrapOk (frame k l) w) := by
  obtain ⟨i0, hi, hz0, hz1, hz2⟩ := info_parts Try.info5
  have hk0 : (0 : Int) ≤ (k.toNat : Int) := by omega
  have hk1 : (k.toNat : Int) ≤ 255 := by have := CrcM.b_lt k; omega
  have HB := Lib.hid hl.blen
  go_enter Try.func7, Try.ntmps7
  go_wp2_with (at_builtin; refine wpList_app rfl (.tmp 27) (.tmp 28) 22 rfl w.heap.size 5 i0 (.int .u8 0) 1 Try.underlying22 hi hz0 hz1 hz2 rfl _ 3 _ rfl (own_lit _ rfl (Nat.le_refl _) rfl (by unfold maxLen; omega)) B A n cap (bv l) rfl (hl.alloc hB _) (bv_one l) (by unfold maxLen; omega) (by omega) (by simp) ?_; intro v2 w2 hown2 hg2 hat2; obtain ⟨A2, c2, rfl, _⟩ := own_slice hown2)
  have hb2 : Below w.heap.size w w2 := below_new hg2
  have hs2 := hb2.size
  have hown2' : w2.ownsRow w.heap.size 5 1 (.slice A2 (3 + n) c2) (3 + n) (bv (inner k l)) := by
    have e := inner_cells k n hn
    unfold inner
    rw [bv_append, HB.out, ← e]
    exact hown2
  clear hown2 hat2
  have hb2a : Below w2.heap.size w2 (w2.alloc (.cells #[.int .u8 68, .int .u8 80] 5)) := (Below.refl _ _).alloc (Nat.le_refl _) _
  have hdp : (w2.alloc (.cells #[.int .u8 68, .int .u8 80] 5)).ownsRow w.heap.size 5 1 (.slice (some ⟨w2.heap.size, 0, none⟩) 2 2) 2 (bv [68, 80]) := own_lit #[.int .u8 68, .int .u8 80] rfl hs2 rfl (by unfold maxLen; omega)
  refine (put_any _ (3 + n) c2 A2 (inner k l) _ (Row.of_own (own_below hown2' hb2a)) (by omega) (Nat.le_refl _)).mono ?_
  rintro e w3 ⟨A3, n3, c3, rfl, hn3, hown3, hb3⟩
  have hs3 := hb3.size
  have hs3' : w2.heap.size + 1 ≤ w3.heap.size := by simpa using hs3
  have e3 : n3 = (put (inner k l)).length := hn3.out
  have hn3' : n3 ≤ 300 := by rw [e3, CrcM.put_length, FrM.inner_length, HB.out]; omega
  have E3 := Lib.hid e3
  clear e3
  have hdp3 := own_below hdp hb3
  go_wp2_with (at_builtin; refine wpList_app rfl (.tmp 30) (.tmp 32) 22 rfl w.heap.size 5 i0 (.int .u8 0) 1 Try.underlying22 hi hz0 hz1 hz2 rfl _ 2 _ rfl hdp3 _ A3 n3 c3 _ rfl (Row.of_own hown3) (bv_one _) (by unfold maxLen; omega) (by omega) (by omega) ?_; intro v4 w4 hown4 hg4 hat4; obtain ⟨A4, c4, rfl, _⟩ := own_slice hown4)
  go_ret2
  have hb3' : Below w.heap.size w w3 := (hb2.trans (hb2a.mono hs2)).trans (hb3.mono (by simp; omega))
  have hb4 := below_app hb3' (by omega) hdp3 (Nat.le_refl _) hg4
  rw [← bv_append] at hown4
  refine ⟨A4, 2 + n3, c4, rfl, ?_, hown4, hb4⟩
  show _ = (frame k l).length
  rw [E3.out]
  simp [frame]; omega

def WrapNo (w : World) (e : Ending) (w' : World) : Prop := e = .returned (.tuple #[.slice none 0 0, .int .i64 1]) ∧ w = w'
theorem wrap_long (kind : Int) (n cap : Nat) (A : Option Addr) (w : World) (hk0 : 0 ≤ kind) (hk1 : kind ≤ 255) (hn : 291 < n) :
    Calls Try.prog 7 #[.int .i64 kind, .slice A n cap] w (WrapNo w) := by
  go_enter Try.func7, Try.ntmps7
  go_wp2_with fail
  go_ret2
  exact ⟨rfl, rfl⟩

/-- five bytes at least: the length that it says -/
theorem length_any (B n cap : Nat) (A : Option Addr) (l : List UInt8) (w : World) (hl : Row w B A n (bv l)) (h5 : 5 ≤ n) (hn : n ≤ cap) (hcap : cap ≤ 9223372036854775807) :
    Calls Try.prog 17 #[.slice A n cap] w fun e w' => e = .returned (.int .i64 (flen l : Nat)) ∧ ∃ q, w' = w.drewN q := by
  obtain ⟨b, o, rfl, _, h3l, h3⟩ := hl.byteAt (k := 3) (by omega)
  obtain ⟨b', o', e, _, h4l, h4⟩ := hl.byteAt (k := 4) (by omega)
  injection e with e
  injection e with e1 e2
  subst e1 e2
  have b3 : (l[3].toNat : Int) ≤ 255 := by have := CrcM.b_lt l[3]; omega
  have b4 : (l[4].toNat : Int) ≤ 255 := by have := CrcM.b_lt l[4]; omega
  have b3' : (0 : Int) ≤ (l[3].toNat : Int) := by omega
  have i3 : (3 : Int) < (n : Int) := by omega
  have i4 : (4 : Int) < (n : Int) := by omega
  have hf : flen l = l[3].toNat * 256 + l[4].toNat + 9 := by simp [flen, List.getD, h3l, h4l]
  have HF := Lib.hid hf
  clear hf
  go_enter Try.func17, Try.ntmps17
  go_wp2
  go_quiet (fail)
  go_wp2
  go_ret
  refine ⟨?_, nq, rfl⟩
  rw [HF.out]
  exact congrArg (fun z => Ending.returned (.int .i64 z)) (show ((l[3].toNat : Int) * 256 + (l[4].toNat : Int) + 9) = ((l[3].toNat * 256 + l[4].toNat + 9 : Nat) : Int) by omega)

def UnErr (k : Int) (w : World) (e : Ending) (w' : World) : Prop := e = .returned (.tuple #[.int .i64 0, .slice none 0 0, .int .i64 k]) ∧ Below w.heap.size w w'
def UnOk (kind : Nat) (m : List UInt8) (w : World) (e : Ending) (w' : World) : Prop :=
  ∃ A n cap, e = .returned (.tuple #[.int .i64 (kind : Int), .slice A n cap, .int .i64 0]) ∧ Hid (n = m.length) ∧ Row w' w'.heap.size A n (bv m) ∧ (n ≤ cap ∧ cap ≤ 9223372036854775807) ∧ Below w.heap.size w w'
theorem unwrap_long (n cap : Nat) (A : Option Addr) (w : World) (hn : 300 < n) : Calls Try.prog 9 #[.slice A n cap] w (UnErr 3 w) := by
  go_enter Try.func9, Try.ntmps9
  go_wp2_with fail
  go_ret3
  exact ⟨rfl, Below.refl _ _⟩
theorem unwrap_short (n cap : Nat) (A : Option Addr) (w : World) (hn : n < 9) : Calls Try.prog 9 #[.slice A n cap] w (UnErr 2 w) := by
  go_enter Try.func9, Try.ntmps9
  go_wp2_with fail
  go_ret3
  exact ⟨rfl, Below.refl _ _⟩
def headOk (l : List UInt8) : Prop := l.getD 0 0 = 68 ∧ l.getD 1 0 = 80 ∧ flen l = l.length
set_option maxHeartbeats 400000 in
theorem unwrap_head (B n cap : Nat) (A : Option Addr) (l : List UInt8) (w : World) (hl : Row w B A n (bv l)) (h9 : 9 ≤ n) (h300 : n ≤ 300) (hn : n ≤ cap) (hcap : cap ≤ 9223372036854775807) (hh : ¬ headOk l) :
    Calls Try.prog 9 #[.slice A n cap] w (UnErr 3 w) := by
  obtain ⟨b, o, rfl, _, h0l, h0⟩ := hl.byteAt (k := 0) (by omega)
  obtain ⟨b', o', e, _, h1l, h1⟩ := hl.byteAt (k := 1) (by omega)
  injection e with e
  injection e with e1 e2
  subst e1 e2
  rw [Nat.add_zero] at h0
  have b0 : (l[0].toNat : Int) ≤ 255 := by have := CrcM.b_lt l[0]; omega
  have b1 : (l[1].toNat : Int) ≤ 255 := by have := CrcM.b_lt l[1]; omega
  have HH := Lib.hid hh
  have HB := Lib.hid hl.blen
  clear hh
  by_cases q0 : l[0] = 68
  · have z0 : ((l[0].toNat : Int) != 68) = false := by rw [q0]; rfl
    by_cases q1 : l[1] = 80
    · have z1 : ((l[1].toNat : Int) != 80) = false := by rw [q1]; rfl
      have q2 : flen l ≠ n := by
        intro e
        refine HH.out ⟨by simp [List.getD, h0l, q0], by simp [List.getD, h1l, q1], by rw [HB.out]; exact e⟩
      have z2 : ((flen l : Int) != (n : Int)) = true := bne_iff_ne.2 fun e => q2 (Int.ofNat.inj e)
      clear q0 q1 q2
      go_enter Try.func9, Try.ntmps9
      go_wp2_with fail
      refine (length_any B n cap _ l w hl (by omega) hn hcap).mono ?_
      rintro e w' ⟨rfl, q, rfl⟩
      go_wp2_with fail
      go_ret3
      exact ⟨rfl, below_drewN (Below.refl _ _) q⟩
    · have z1 : ((l[1].toNat : Int) != 80) = true := bne_iff_ne.2 fun e => q1 (UInt8.toNat.inj (by rw [show l[1].toNat = 80 by omega]; rfl))
      clear q0 q1
      go_enter Try.func9, Try.ntmps9
      go_wp2_with fail
      go_ret3
      exact ⟨rfl, Below.refl _ _⟩
  · have z0 : ((l[0].toNat : Int) != 68) = true := bne_iff_ne.2 fun e => q0 (UInt8.toNat.inj (by rw [show l[0].toNat = 68 by omega]; rfl))
    clear q0
    go_enter Try.func9, Try.ntmps9
    go_wp2_with fail
    go_ret3
    exact ⟨rfl, Below.refl _ _⟩

theorem head_facts {w : World} {B n : Nat} {A : Option Addr} {l : List UInt8} (hl : Row w B A n (bv l)) (h9 : 9 ≤ n) (hh : headOk l) :
    ∃ b o, A = some ⟨b, o, none⟩ ∧ w.cell? ⟨b, o, none⟩ = some (.int .u8 68) ∧ w.cell? ⟨b, o + 1, none⟩ = some (.int .u8 80) ∧ flen l = n := by
  obtain ⟨b, o, rfl, _, h0l, h0⟩ := hl.byteAt (k := 0) (by omega)
  obtain ⟨b', o', e, _, h1l, h1⟩ := hl.byteAt (k := 1) (by omega)
  injection e with e
  injection e with e1 e2
  subst e1 e2
  obtain ⟨g0, g1, g2⟩ := hh
  have q0 : l[0] = 68 := by simpa [List.getD, h0l] using g0
  have q1 : l[1] = 80 := by simpa [List.getD, h1l] using g1
  rw [q0] at h0
  rw [q1] at h1
  exact ⟨b, o, rfl, h0, h1, by rw [g2, hl.blen]⟩
theorem row_from2 {w : World} {B n b o : Nat} {l : List UInt8} (hl : Row w B (some ⟨b, o, none⟩) n (bv l)) (h : 2 ≤ n) : Row w B (some ⟨b, o + 2, none⟩) (n - 2) (bv (l.drop 2)) := by
  have := hl.sub (k := 2) (m := n - 2) (A' := some ⟨b, o + 2, none⟩) (by omega) (fun b' o' e _ => by injection e with e; injection e with e1 e2; subst e1 e2; rfl)
  rwa [bv_drop, bv_take, List.take_of_length_le (by rw [List.length_drop, hl.blen]; omega)] at this
set_option maxHeartbeats 400000 in
theorem unwrap_check (B n cap : Nat) (A : Option Addr) (l : List UInt8) (w : World) (hl : Row w B A n (bv l)) (h9 : 9 ≤ n) (h300 : n ≤ 300) (hn : n ≤ cap) (hcap : cap ≤ 9223372036854775807) (hB : B ≤ w.heap.size) (hh : headOk l) (hR : ¬ isRight (l.drop 2)) :
    Calls Try.prog 9 #[.slice A n cap] w (UnErr 4 w) := by
  obtain ⟨b, o, rfl, z0, z1, hf⟩ := head_facts hl h9 hh
  have hrow := row_from2 hl (by omega)
  have HF := Lib.hid hf
  have HR := Lib.hid hR
  clear hf hR
  go_enter Try.func9, Try.ntmps9
  go_wp2_with fail
  refine (length_any B n cap _ l w hl (by omega) hn hcap).mono ?_
  rintro e w' ⟨rfl, q, rfl⟩
  rw [HF.out]
  go_wp2_with fail
  refine (right_no B (n - 2) (cap - 2) _ (l.drop 2) _ (hrow.drewN q) (by omega) (by omega) hB HR.out).mono ?_
  rintro e w2 ⟨rfl, hb2⟩
  go_wp2_with fail
  go_ret3
  exact ⟨rfl, (below_drewN (Below.refl _ _) q).trans hb2⟩
set_option maxHeartbeats 400000 in
theorem unwrap_ok (B n cap : Nat) (A : Option Addr) (l : List UInt8) (w : World) (hl : Row w B A n (bv l)) (h9 : 9 ≤ n) (h300 : n ≤ 300) (hn : n ≤ cap) (hcap : cap ≤ 9223372036854775807) (hB : B ≤ w.heap.size) (hh : headOk l) (hR : isRight (l.drop 2)) :
    Calls Try.prog 9 #[.slice A n cap] w (UnOk (l.getD 2 0).toNat (FrM.load l) w) := by
  obtain ⟨b, o, rfl, z0, z1, hf⟩ := head_facts hl h9 hh
  have hrow := row_from2 hl (by omega)
  have hbl := hl.blen
  have hld : (FrM.load l).length = n - 9 := by unfold FrM.load; rw [List.length_drop, List.length_take, List.length_drop, hbl]; omega
  have hm2 : (((l.drop 2).take ((l.drop 2).length - 4)).getD 0 0) = l.getD 2 0 := by
    simp [List.getD, List.getElem?_take]
    rw [if_pos (by omega)]
  generalize hkd : l.getD 2 0 = kd at *
  have HKD := Lib.hid hkd
  have hkb : (kd.toNat : Int) ≤ 255 := by have := CrcM.b_lt kd; omega
  clear hkd
  generalize hml : FrM.load l = ml at *
  have hml2 : ml = ((l.drop 2).take ((l.drop 2).length - 4)).drop 3 := by rw [← hml]; rfl
  have HML := Lib.hid hml2
  clear hml hml2
  have HF := Lib.hid hf
  have HR := Lib.hid hR
  have HLD := Lib.hid hld
  have HM2 := Lib.hid hm2
  have HBL := Lib.hid hbl
  clear hf hR hld hm2 hbl
  go_enter Try.func9, Try.ntmps9
  go_wp2_with fail
  refine (length_any B n cap _ l w hl (by omega) hn hcap).mono ?_
  rintro e w' ⟨rfl, q, rfl⟩
  rw [HF.out]
  go_wp2_with fail
  refine (right_yes B (n - 2) (cap - 2) _ (l.drop 2) _ (hrow.drewN q) (by omega) (by omega) (by omega) hB HR.out).mono ?_
  rintro e w2 ⟨A2, n2, c2, rfl, hn2, hown2, hb2⟩
  have hn2' : n2 = n - 6 := by
    have e := hn2.out
    rw [List.length_take, List.length_drop, HBL.out] at e
    omega
  subst hn2'
  obtain ⟨g, c2', hv, hg0, hglt⟩ := hown2.form (by omega)
  injection hv with e1 e2 e3
  subst e1 e3
  have hc2 := own_cap hown2
  have hcell := (hown2.cellAt 0 (by omega)).trans (bv_getD _ 0 (by rw [List.length_take, List.length_drop, HBL.out]; omega))
  rw [HM2.out] at hcell
  have i0 : (0 : Int) < ((n - 6 : Nat) : Int) := by omega
  have i3 : (3 : Int) ≤ ((n - 6 : Nat) : Int) := by omega
  generalize hN : n - 6 = N at *
  have HN := Lib.hid hN
  clear hN e2
  go_wp2_with fail
  go_quiet (fail)
  have hrow3 : Row w2 w2.heap.size (if c2 = 3 then some ⟨g, 0, none⟩ else some ⟨g, 3, none⟩) (N - 3) (bv ml) := by
    have := (Row.of_own hown2).tail (k := 3) (by omega) hc2.1
    rw [bv_drop, ← HML.out] at this
    simpa [Addr.add] using this
  have hb2' : Below w.heap.size w w2 := (below_drewN (Below.refl _ _) q).trans hb2
  have hlen : N - 3 = ml.length := by rw [HLD.out, ← HN.out]; omega
  have HLEN := Lib.hid hlen
  clear hlen hown2 hb2
  go_wp2_with fail
  · go_ret3
    refine ⟨_, _, _, rfl, HLEN.out, ?_, ⟨by omega, by omega⟩, below_drewN hb2' nq⟩
    have := hrow3.drewN nq
    simpa [*] using this
  · go_ret3
    refine ⟨_, _, _, rfl, HLEN.out, ?_, ⟨by omega, by omega⟩, below_drewN hb2' nq⟩
    have := hrow3.drewN nq
    simpa [*] using this
end Go.Proofs.Ytghadeingmccfaa
