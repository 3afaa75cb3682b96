/- A call of the wheel (three numbers, one of 32 bits, a byte slice) that came in by value; a row of them. -/
import Derived.Deep.Slices
import Derived.Test.YtoblapnnpjgpnaaGreatDoorZHQ
import Derived.Test.YtoblapnnpjgpnaaGreatDoorZAQ
import Derived.Test.YtoblapnnpjgpnaaGreatDoorLawNumsQ
namespace Go.Proofs.YtoblapnnpjgpnaaGreatDoor
open Go.ChangeShapes Go.WideShapes Go.ChangeAt Go.RowKit
/-- what a call is made of -/
structure WCall where
  d : Int
  s : Int
  a : Int
  n : Nat
  A : Option Addr
  m : Nat
  c : Nat
  l : List UInt8
def WCall.vals (x : WCall) : List Value := [.int .i64 x.d, .int .i64 x.s, .int .i64 x.a, .int .u32 (x.n : Int), .slice x.A x.m x.c]
def WCall.good (W : World) (x : WCall) : Prop :=
  Row W W.heap.size x.A x.m (bv x.l) ∧ x.m ≤ x.c ∧ x.c ≤ 9223372036854775807 ∧ (-9223372036854775808 ≤ x.d ∧ x.d ≤ 9223372036854775807) ∧ (-9223372036854775808 ≤ x.s ∧ x.s ≤ 9223372036854775807) ∧ (-9223372036854775808 ≤ x.a ∧ x.a ≤ 9223372036854775807) ∧ x.n < 4294967296
/-- a row of calls: each one's five cells -/
def WCalls (W : World) (A : Option Addr) (n : Nat) (ys : List WCall) : Prop :=
  ys.length = n ∧ (∀ y ∈ ys, y.good W) ∧ (0 < n → ∃ b o, A = some ⟨b, o, none⟩ ∧ b < W.heap.size ∧ ∀ i (hi : i < ys.length), ∀ j v, ys[i].vals[j]? = some v → W.cell? ⟨b, o + (i * 5 + j), none⟩ = some v)
theorem WCalls.at_ {W W' : World} {A : Option Addr} {n : Nat} {ys : List WCall} (h : WCalls W A n ys) (hb : Below W.heap.size W W') {k : Nat} (hk : k < n) :
    ∃ b o y, A = some ⟨b, o, none⟩ ∧ b < W.heap.size ∧ y ∈ ys ∧ ys[k]? = some y ∧ y.good W ∧ W'.cell? ⟨b, o + k * 5, none⟩ = some (.int .i64 y.d) ∧ W'.cell? ⟨b, o + k * 5 + 1, none⟩ = some (.int .i64 y.s) ∧ W'.cell? ⟨b, o + k * 5 + 2, none⟩ = some (.int .i64 y.a) ∧ W'.cell? ⟨b, o + k * 5 + 3, none⟩ = some (.int .u32 (y.n : Int)) ∧ W'.cell? ⟨b, o + k * 5 + 4, none⟩ = some (.slice y.A y.m y.c) := by
  obtain ⟨hl, hg, hc⟩ := h
  obtain ⟨b, o, e, hbl, hcell⟩ := hc (by omega)
  have hk' : k < ys.length := by omega
  have key : ∀ j v, (ys[k]).vals[j]? = some v → W'.cell? ⟨b, o + (k * 5 + j), none⟩ = some v := fun j v hv => (hb.cell (p := ⟨b, o + (k * 5 + j), none⟩) hbl).trans (hcell k hk' j v hv)
  exact ⟨b, o, ys[k], e, hbl, List.getElem_mem hk', List.getElem?_eq_getElem hk', hg _ (List.getElem_mem hk'), key 0 _ rfl, key 1 _ rfl, key 2 _ rfl, key 3 _ rfl, key 4 _ rfl⟩
end Go.Proofs.YtoblapnnpjgpnaaGreatDoor
