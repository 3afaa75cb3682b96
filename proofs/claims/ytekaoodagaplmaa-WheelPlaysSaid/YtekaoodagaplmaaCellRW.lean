/- cell.Read, cell.Write, where there is power: by contracts. -/
import Derived.Test.YtekaoodagaplmaaCellR
import Derived.Test.YtekaoodagaplmaaCellPut
namespace Go.Proofs.Ytekaoodagaplmaa
open Go.RowKit
def P0 (f : Fl) : List UInt8 := f.sub 0 256
def P1 (f : Fl) : List UInt8 := f.sub 256 256
/-- sector s is written next, under number N -/
def WrTo (f : Fl) (s N : Nat) : Prop :=
  (¬ partOk (P0 f) ∧ ¬ partOk (P1 f) ∧ s = 0 ∧ N = 1) ∨ (partOk (P1 f) ∧ (¬ partOk (P0 f) ∨ partN (P0 f) < partN (P1 f)) ∧ s = 0 ∧ N = partN (P1 f) + 1) ∨
  (partOk (P0 f) ∧ (¬ partOk (P1 f) ∨ partN (P1 f) ≤ partN (P0 f)) ∧ s = 1 ∧ N = partN (P0 f) + 1)
/-- what is read -/
def CellHas (f : Fl) (b : List UInt8) : Prop :=
  (partOk (P1 f) ∧ (¬ partOk (P0 f) ∨ partN (P0 f) < partN (P1 f)) ∧ b = partD (P1 f)) ∨ (partOk (P0 f) ∧ (¬ partOk (P1 f) ∨ partN (P1 f) ≤ partN (P0 f)) ∧ b = partD (P0 f))
theorem PartIs.yes {b : List UInt8} {base : Nat} {W : World} {wh : Bool} {num : Nat} {A : Option Addr} {n c : Nat} (h : PartIs b base W wh num A n c) (hb : partOk b) : wh = true ∧ num = partN b ∧ n = plen b ∧ n ≤ c ∧ c ≤ 9223372036854775807 ∧ Row W W.heap.size A n (bv (partD b)) ∧ ∀ g o, A = some ⟨g, o, none⟩ → 0 < n → base ≤ g := by
  rcases h with ⟨_, h⟩ | ⟨h, _⟩
  · exact h
  · exact absurd hb h
theorem PartIs.off {b : List UInt8} {base : Nat} {W : World} {wh : Bool} {num : Nat} {A : Option Addr} {n c : Nat} (h : PartIs b base W wh num A n c) (hb : ¬ partOk b) : wh = false ∧ num = 0 ∧ A = none ∧ n = 0 ∧ c = 0 := by
  rcases h with ⟨h, _⟩ | ⟨_, h⟩
  · exact absurd h hb
  · exact h
theorem PartIs.lt {b : List UInt8} {base : Nat} {W : World} {wh : Bool} {num : Nat} {A : Option Addr} {n c : Nat} (h : PartIs b base W wh num A n c) : num < 4294967296 := by
  rcases h with ⟨_, _, h, _⟩ | ⟨_, _, h, _⟩
  · rw [h]; exact partN_lt b
  · omega
theorem last_one {f : Fl} {base : Nat} {W : World} {cs : Array Value} {o0 o1 : Bool} {n0 n1 m0 m1 c0 c1 : Nat} {A0 A1 : Option Addr} (h : Parts2 f base W cs o0 n0 A0 m0 c0 o1 n1 A1 m1 c1) (h1 : partOk (P1 f)) (h0 : ¬ partOk (P0 f) ∨ partN (P0 f) < partN (P1 f)) : lastI o0 o1 n0 n1 = 1 ∧ o1 = true ∧ n1 = partN (P1 f) := by
  obtain ⟨_, p0, p1⟩ := h
  obtain ⟨e1, e2, _⟩ := p1.yes h1
  refine ⟨?_, e1, e2⟩
  unfold lastI
  rw [if_pos]
  refine ⟨e1, ?_⟩
  rcases h0 with h0 | h0
  · exact .inl (p0.off h0).1
  · by_cases ho : partOk (P0 f)
    · right
      rw [e2, (p0.yes ho).2.1]; exact h0
    · exact .inl (p0.off ho).1
theorem last_zero {f : Fl} {base : Nat} {W : World} {cs : Array Value} {o0 o1 : Bool} {n0 n1 m0 m1 c0 c1 : Nat} {A0 A1 : Option Addr} (h : Parts2 f base W cs o0 n0 A0 m0 c0 o1 n1 A1 m1 c1) (h1 : partOk (P0 f)) (h0 : ¬ partOk (P1 f) ∨ partN (P1 f) ≤ partN (P0 f)) : lastI o0 o1 n0 n1 = 0 ∧ o0 = true ∧ n0 = partN (P0 f) := by
  obtain ⟨_, p0, p1⟩ := h
  obtain ⟨e1, e2, _⟩ := p0.yes h1
  refine ⟨?_, e1, e2⟩
  unfold lastI
  rw [if_neg]
  rintro ⟨h2, h3⟩
  rcases h0 with h0 | h0
  · rw [(p1.off h0).1] at h2; cases h2
  · rcases h3 with h3 | h3
    · rw [e1] at h3; cases h3
    · by_cases ho : partOk (P1 f)
      · rw [e2, (p1.yes ho).2.1] at h3; exact absurd h3 (by have e1 : partN (f.sub 256 256) = partN (P1 f) := rfl; have e2 : partN (f.sub 0 256) = partN (P0 f) := rfl; omega)
      · rw [(p1.off ho).1] at h2; cases h2
theorem last_none {f : Fl} {base : Nat} {W : World} {cs : Array Value} {o0 o1 : Bool} {n0 n1 m0 m1 c0 c1 : Nat} {A0 A1 : Option Addr} (h : Parts2 f base W cs o0 n0 A0 m0 c0 o1 n1 A1 m1 c1) (h0 : ¬ partOk (P0 f)) (h1 : ¬ partOk (P1 f)) : lastI o0 o1 n0 n1 = 0 ∧ o0 = false := by
  obtain ⟨_, p0, p1⟩ := h
  refine ⟨?_, (p0.off h0).1⟩
  unfold lastI
  rw [if_neg]
  rintro ⟨h2, _⟩
  rw [(p1.off h1).1] at h2; cases h2
def CReadOk (b : List UInt8) (w : World) (e : Ending) (w' : World) : Prop :=
  ∃ A n c, e = .returned (.tuple #[.slice A n c, .int .i64 0]) ∧ Hid (n = b.length) ∧ Hid (n ≤ c ∧ c ≤ 9223372036854775807) ∧ Hid (Row w' w'.heap.size A n (bv b)) ∧ Hid (∀ g o, A = some ⟨g, o, none⟩ → 0 < n → w.heap.size ≤ g) ∧ Hid (Below w.heap.size w w')
theorem partD_length {b : List UInt8} (hb : b.length = 256) (h : partOk b) : (partD b).length = plen b := by
  have := h.1
  unfold partD
  simp [hb]; omega
end Go.Proofs.Ytekaoodagaplmaa
