/- cell.last, read: by contracts, where there is power. -/
import Derived.Test.YtekaoodagaplmaaCell
namespace Go.Proofs.Ytekaoodagaplmaa
open Go.RowKit
def lastI (w0 w1 : Bool) (n0 n1 : Nat) : Nat := if w1 = true ∧ (w0 = false ∨ n0 < n1) then 1 else 0
theorem PartIs.below {b : List UInt8} {base : Nat} {W W' : World} {wh : Bool} {num : Nat} {A : Option Addr} {n c : Nat} (h : PartIs b base W wh num A n c) (hb : Below W.heap.size W W') : PartIs b base W' wh num A n c := by
  rcases h with ⟨h1, h2, h3, h4, h5, h6, h7, h8⟩ | h
  · exact .inl ⟨h1, h2, h3, h4, h5, h6, (h7.below hb).more hb.size, h8⟩
  · exact .inr h
theorem PartIs.more {b : List UInt8} {base base' : Nat} {W : World} {wh : Bool} {num : Nat} {A : Option Addr} {n c : Nat} (h : PartIs b base W wh num A n c) (hb : base' ≤ base) : PartIs b base' W wh num A n c := by
  rcases h with ⟨h1, h2, h3, h4, h5, h6, h7, h8⟩ | h
  · exact .inl ⟨h1, h2, h3, h4, h5, h6, h7, fun g o e h0 => Nat.le_trans hb (h8 g o e h0)⟩
  · exact .inr h
/-- a block below the parts' own is written -/
theorem PartIs.grown {b : List UInt8} {base g : Nat} {W W' : World} {wh : Bool} {num : Nat} {A : Option Addr} {n c : Nat} (h : PartIs b base W wh num A n c) (hg : W.grownBy W' (some g)) (hgb : g < base) : PartIs b base W' wh num A n c := by
  rcases h with ⟨h1, h2, h3, h4, h5, h6, h7, h8⟩ | h
  · exact .inl ⟨h1, h2, h3, h4, h5, h6, (h7.apart (fun h0 b o e => by have := h8 b o e h0; omega) hg (Nat.le_refl _)).more hg.size, h8⟩
  · exact .inr h
def pv (wh : Bool) (num : Nat) (A : Option Addr) (n c : Nat) : List Value := [.bool wh, .int .u32 (num : Int), .slice A n c]
/-- the two parts of flash f, as the six cells cs -/
def PartsIs (f : Fl) (base : Nat) (W : World) (cs : List Value) : Prop :=
  ∃ wh0 n0 A0 m0 c0 wh1 n1 A1 m1 c1, cs = pv wh0 n0 A0 m0 c0 ++ pv wh1 n1 A1 m1 c1 ∧ PartIs (f.sub 0 256) base W wh0 n0 A0 m0 c0 ∧ PartIs (f.sub 256 256) base W wh1 n1 A1 m1 c1
def Z3 : List Value := pv false 0 none 0 0
end Go.Proofs.Ytekaoodagaplmaa
