/- StateSpoilt: the mathematics. -/
import Derived.Test.YtnbpjajgfpdddaaStAw
namespace Go.Proofs.Ytnbpjajgfpdddaa
open Go.RowKit
theorem IsSt.rows {w : World} {P : Nat → Prop} {K : LSt} {A0 A1 A : Option Addr} {c0 c1 c : Nat} (h : IsSt w P (K.cells A0 c0 A1 c1 A c) K) : RowP w P A0 K.h0.length (bv K.h0) ∧ RowP w P A1 K.h1.length (bv K.h1) ∧ RowP w P A K.m.h.length (bv K.m.h) := by
  obtain ⟨_, _, _, _, _, _, e, r0, r1, r2⟩ := h
  unfold LSt.cells at e
  simp only [Array.mk.injEq, List.cons.injEq, Value.slice.injEq, and_true, true_and] at e
  obtain ⟨⟨rfl, rfl⟩, ⟨rfl, rfl⟩, rfl, rfl⟩ := e
  exact ⟨r0, r1, r2⟩
theorem neq_of_may {L K : LSt} (h : L.may = true) (hk : K.may = false) : L.eqb K = false := by
  cases he : L.eqb K with
  | false => rfl
  | true =>
    exfalso
    obtain ⟨a1, a2, a3, a4, a5, a6, a7, a8, a9, a10, a11, ⟨m1, m2, m3, m4, m5, m6⟩⟩ := L
    obtain ⟨b1, b2, b3, b4, b5, b6, b7, b8, b9, b10, b11, ⟨n1, n2, n3, n4, n5, n6⟩⟩ := K
    simp [LSt.eqb] at he
    obtain ⟨rfl, rfl, rfl, rfl, ⟨rfl, rfl, rfl⟩, ⟨rfl, rfl, rfl⟩, rfl, rfl, rfl, rfl, rfl, rfl, rfl⟩ := he
    rw [h] at hk; cases hk
theorem not_may {L : LSt} (h : L.may = true → False) : L.may = false := by
  cases hm : L.may with
  | false => rfl
  | true => exact (h hm).elim
theorem manB_zero : manB 0 0 0 0 = false := by decide +kernel
theorem manB_pos {l z p : Int} {n : Nat} (h : manB l z p n = true) : n = 32 := by
  obtain ⟨_, _, _, _, _, _, _, _, _, _, _, h⟩ := man_bounds h
  exact h
theorem spoilt_m0 {flo gen v0 v1 : Nat} {act tr l0 l1 : Int} {h0 h1 : List UInt8} {on : Bool} {m : LMan} (hm : ((⟨act, tr, flo, gen, v0, l0, h0, v1, l1, h1, on, m⟩ : LSt)).may = true) : ((⟨2, tr, flo, gen, v0, l0, h0, v1, l1, h1, on, m⟩ : LSt)).may = false ∧ ((⟨act, tr, flo, gen, v0, l0, h0, v1, l1, h1, on, m⟩ : LSt)).eqb (⟨2, tr, flo, gen, v0, l0, h0, v1, l1, h1, on, m⟩ : LSt) = false := by
  have hk : ((⟨2, tr, flo, gen, v0, l0, h0, v1, l1, h1, on, m⟩ : LSt)).may = false := not_may fun h => by
    simp [LSt.may, mayB2] at h
  exact ⟨hk, neq_of_may hm hk⟩
theorem spoilt_m1 {flo gen v0 v1 : Nat} {act tr l0 l1 : Int} {h0 h1 : List UInt8} {on : Bool} {m : LMan} (hm : ((⟨act, tr, flo, gen, v0, l0, h0, v1, l1, h1, on, m⟩ : LSt)).may = true) : ((⟨act, 4, flo, gen, v0, l0, h0, v1, l1, h1, on, m⟩ : LSt)).may = false ∧ ((⟨act, tr, flo, gen, v0, l0, h0, v1, l1, h1, on, m⟩ : LSt)).eqb (⟨act, 4, flo, gen, v0, l0, h0, v1, l1, h1, on, m⟩ : LSt) = false := by
  have hk : ((⟨act, 4, flo, gen, v0, l0, h0, v1, l1, h1, on, m⟩ : LSt)).may = false := not_may fun h => by
    simp [LSt.may, mayB2] at h
    try omega
  exact ⟨hk, neq_of_may hm hk⟩
theorem spoilt_m20 {flo gen v0 v1 : Nat} {tr l0 l1 : Int} {h0 h1 : List UInt8} {on : Bool} {m : LMan} (hm : ((⟨0, tr, flo, gen, v0, l0, h0, v1, l1, h1, on, m⟩ : LSt)).may = true) : ((⟨0, tr, flo, gen, 0, 0, [], v1, l1, h1, on, m⟩ : LSt)).may = false ∧ ((⟨0, tr, flo, gen, v0, l0, h0, v1, l1, h1, on, m⟩ : LSt)).eqb (⟨0, tr, flo, gen, 0, 0, [], v1, l1, h1, on, m⟩ : LSt) = false := by
  have hk : ((⟨0, tr, flo, gen, 0, 0, [], v1, l1, h1, on, m⟩ : LSt)).may = false := not_may fun h => by
    simp [LSt.may, mayB2, filledB, emptyB] at h
    try omega
  exact ⟨hk, neq_of_may hm hk⟩
theorem spoilt_m21 {flo gen v0 v1 : Nat} {tr l0 l1 : Int} {h0 h1 : List UInt8} {on : Bool} {m : LMan} (hm : ((⟨1, tr, flo, gen, v0, l0, h0, v1, l1, h1, on, m⟩ : LSt)).may = true) : ((⟨1, tr, flo, gen, v0, l0, h0, 0, 0, [], on, m⟩ : LSt)).may = false ∧ ((⟨1, tr, flo, gen, v0, l0, h0, v1, l1, h1, on, m⟩ : LSt)).eqb (⟨1, tr, flo, gen, v0, l0, h0, 0, 0, [], on, m⟩ : LSt) = false := by
  have hk : ((⟨1, tr, flo, gen, v0, l0, h0, 0, 0, [], on, m⟩ : LSt)).may = false := not_may fun h => by
    simp [LSt.may, mayB2, filledB, emptyB] at h
    try omega
  exact ⟨hk, neq_of_may hm hk⟩
theorem spoilt_m30 {flo gen v0 v1 : Nat} {tr l0 l1 : Int} {h0 h1 : List UInt8} {on : Bool} {m : LMan} (hm : ((⟨0, tr, flo, gen, v0, l0, h0, v1, l1, h1, on, m⟩ : LSt)).may = true) : ((⟨0, tr, flo, gen, v0, 0, h0, v1, l1, h1, on, m⟩ : LSt)).may = false ∧ ((⟨0, tr, flo, gen, v0, l0, h0, v1, l1, h1, on, m⟩ : LSt)).eqb (⟨0, tr, flo, gen, v0, 0, h0, v1, l1, h1, on, m⟩ : LSt) = false := by
  have hk : ((⟨0, tr, flo, gen, v0, 0, h0, v1, l1, h1, on, m⟩ : LSt)).may = false := not_may fun h => by
    simp [LSt.may, mayB2, filledB, emptyB] at h
    try omega
  exact ⟨hk, neq_of_may hm hk⟩
theorem spoilt_m31 {flo gen v0 v1 : Nat} {tr l0 l1 : Int} {h0 h1 : List UInt8} {on : Bool} {m : LMan} (hm : ((⟨1, tr, flo, gen, v0, l0, h0, v1, l1, h1, on, m⟩ : LSt)).may = true) : ((⟨1, tr, flo, gen, v0, l0, h0, v1, 0, h1, on, m⟩ : LSt)).may = false ∧ ((⟨1, tr, flo, gen, v0, l0, h0, v1, l1, h1, on, m⟩ : LSt)).eqb (⟨1, tr, flo, gen, v0, l0, h0, v1, 0, h1, on, m⟩ : LSt) = false := by
  have hk : ((⟨1, tr, flo, gen, v0, l0, h0, v1, 0, h1, on, m⟩ : LSt)).may = false := not_may fun h => by
    simp [LSt.may, mayB2, filledB, emptyB] at h
    try omega
  exact ⟨hk, neq_of_may hm hk⟩
theorem spoilt_m4t {flo gen v0 v1 : Nat} {act tr l0 l1 : Int} {h0 h1 : List UInt8} {m : LMan} (hm : ((⟨act, tr, flo, gen, v0, l0, h0, v1, l1, h1, true, m⟩ : LSt)).may = true) : ((⟨act, tr, flo, gen, v0, l0, h0, v1, l1, h1, false, m⟩ : LSt)).may = false ∧ ((⟨act, tr, flo, gen, v0, l0, h0, v1, l1, h1, true, m⟩ : LSt)).eqb (⟨act, tr, flo, gen, v0, l0, h0, v1, l1, h1, false, m⟩ : LSt) = false := by
  have hk : ((⟨act, tr, flo, gen, v0, l0, h0, v1, l1, h1, false, m⟩ : LSt)).may = false := not_may fun h => by
    simp only [LSt.may, mayB2, Bool.and_eq_true] at h hm
    have h1 := hm.1.2
    have h2 := h.1.2
    simp only [if_true, if_false, Bool.false_eq_true, decide_eq_true_eq] at h1 h2
    have := manB_pos h1
    rw [h2.2.2.2.2.2] at this
    cases this
  exact ⟨hk, neq_of_may hm hk⟩
theorem spoilt_m4f {flo gen v0 v1 : Nat} {act tr l0 l1 : Int} {h0 h1 : List UInt8} {m : LMan} (hm : ((⟨act, tr, flo, gen, v0, l0, h0, v1, l1, h1, false, m⟩ : LSt)).may = true) : ((⟨act, tr, flo, gen, v0, l0, h0, v1, l1, h1, true, m⟩ : LSt)).may = false ∧ ((⟨act, tr, flo, gen, v0, l0, h0, v1, l1, h1, false, m⟩ : LSt)).eqb (⟨act, tr, flo, gen, v0, l0, h0, v1, l1, h1, true, m⟩ : LSt) = false := by
  have hk : ((⟨act, tr, flo, gen, v0, l0, h0, v1, l1, h1, true, m⟩ : LSt)).may = false := not_may fun h => by
    simp only [LSt.may, mayB2, Bool.and_eq_true] at h hm
    have h1 := hm.1.2
    have h2 := h.1.2
    simp only [if_true, if_false, Bool.false_eq_true, decide_eq_true_eq] at h1 h2
    have := manB_pos h2
    rw [h1.2.2.2.2.2] at this
    cases this
  exact ⟨hk, neq_of_may hm hk⟩
theorem spoilt_m50 {flo gen v0 v1 : Nat} {tr l0 l1 : Int} {h0 h1 : List UInt8} {on : Bool} {m : LMan} (hm : ((⟨0, tr, flo, gen, v0, l0, h0, v1, l1, h1, on, m⟩ : LSt)).may = true) : ((⟨0, tr, flo, gen, v0, l0, h0, 1, 0, [], on, m⟩ : LSt)).may = false ∧ ((⟨0, tr, flo, gen, v0, l0, h0, v1, l1, h1, on, m⟩ : LSt)).eqb (⟨0, tr, flo, gen, v0, l0, h0, 1, 0, [], on, m⟩ : LSt) = false := by
  have hk : ((⟨0, tr, flo, gen, v0, l0, h0, 1, 0, [], on, m⟩ : LSt)).may = false := not_may fun h => by
    simp [LSt.may, mayB2, filledB, emptyB] at h
    try omega
  exact ⟨hk, neq_of_may hm hk⟩
theorem spoilt_m51 {flo gen v0 v1 : Nat} {tr l0 l1 : Int} {h0 h1 : List UInt8} {on : Bool} {m : LMan} (hm : ((⟨1, tr, flo, gen, v0, l0, h0, v1, l1, h1, on, m⟩ : LSt)).may = true) : ((⟨1, tr, flo, gen, 1, 0, [], v1, l1, h1, on, m⟩ : LSt)).may = false ∧ ((⟨1, tr, flo, gen, v0, l0, h0, v1, l1, h1, on, m⟩ : LSt)).eqb (⟨1, tr, flo, gen, 1, 0, [], v1, l1, h1, on, m⟩ : LSt) = false := by
  have hk : ((⟨1, tr, flo, gen, 1, 0, [], v1, l1, h1, on, m⟩ : LSt)).may = false := not_may fun h => by
    simp [LSt.may, mayB2, filledB, emptyB] at h
    try omega
  exact ⟨hk, neq_of_may hm hk⟩
end Go.Proofs.Ytnbpjajgfpdddaa
