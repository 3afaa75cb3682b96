/- cell.last, read: by contracts, where there is power. -/
import Derived.Test.YtmlmpjokmbgmcaaCell
namespace Go.Proofs.Ytmlmpjokmbgmcaa
open Go.RowKit
def lastI (w0 w1 : Bool) (n0 n1 : Nat) : Nat := if w1 = true ∧ (w0 = false ∨ n0 < n1) then 1 else 0
set_option maxRecDepth 100000 in
set_option maxHeartbeats 1600000 in
theorem last_any (w0 w1 : Bool) (n0 n1 : Nat) (v0 v1 : Value) (w : World) :
    Calls Try.prog 44 #[.agg #[.bool w0, .int .u32 (n0 : Int), v0, .bool w1, .int .u32 (n1 : Int), v1]] w fun e w' => e = .returned (.int .i64 (lastI w0 w1 n0 n1 : Nat)) ∧ Hid (Below w.heap.size w w') := by
  have HB : Hid (Below w.heap.size w (w.alloc (.cells #[.bool w0, .int .u32 (n0 : Int), v0, .bool w1, .int .u32 (n1 : Int), v1] 90))) := (Below.refl _ _).alloc (Nat.le_refl _) _
  cases w1 with
  | false =>
    have HL : Hid (lastI w0 false n0 n1 = 0) := by show _ = _; unfold lastI; rw [if_neg (by simp)]
    go_enter Try.func44, Try.ntmps44
    go_wp2_with fail
    go_ret
    exact ⟨by rw [HL.out]; rfl, HB⟩
  | true =>
    cases w0 with
    | false =>
      have HL : Hid (lastI false true n0 n1 = 1) := by show _ = _; unfold lastI; rw [if_pos (by simp)]
      go_enter Try.func44, Try.ntmps44
      go_wp2_with fail
      go_ret
      exact ⟨by rw [HL.out]; rfl, HB⟩
    | true =>
      by_cases h : n0 < n1
      · have HL : Hid (lastI true true n0 n1 = 1) := by show _ = _; unfold lastI; rw [if_pos ⟨rfl, .inr h⟩]
        have hi : (n0 : Int) < n1 := by omega
        clear h
        go_enter Try.func44, Try.ntmps44
        go_wp2_with fail
        go_ret
        exact ⟨by rw [HL.out]; rfl, HB⟩
      · have HL : Hid (lastI true true n0 n1 = 0) := by
          show _ = _; unfold lastI
          rw [if_neg]
          rintro ⟨_, h1 | h1⟩
          · cases h1
          · exact h h1
        have hi : ¬ (n0 : Int) < n1 := by omega
        clear h
        go_enter Try.func44, Try.ntmps44
        go_wp2_with fail
        go_ret
        exact ⟨by rw [HL.out]; rfl, HB⟩
theorem PartIs.below {b : List UInt8} {base : Nat} {W W' : World} {wh : Bool} {num : Nat} {A : Option Addr} {n c : Nat} (h : PartIs b base W wh num A n c) (hb : Below W.heap.size W W') : PartIs b base W' wh num A n c := by
  rcases h with ⟨h1, h2, h3, h4, h5, h6, h7, h8⟩ | h
  · exact .inl ⟨h1, h2, h3, h4, h5, h6, (h7.below hb).more hb.size, h8⟩
  · exact .inr h
theorem PartIs.more {b : List UInt8} {base base' : Nat} {W : World} {wh : Bool} {num : Nat} {A : Option Addr} {n c : Nat} (h : PartIs b base W wh num A n c) (hb : base' ≤ base) : PartIs b base' W wh num A n c := by
  rcases h with ⟨h1, h2, h3, h4, h5, h6, h7, h8⟩ | h
  · exact .inl ⟨h1, h2, h3, h4, h5, h6, h7, fun g o e h0 => Nat.le_trans hb (h8 g o e h0)⟩
  · exact .inr h
/-- a block below the parts' own is written -/
theorem PartIs.grown {b : List UInt8} {base g : Nat} {W W' : World} {wh : Bool} {num : Nat} {A : Option Addr} {n c : Nat} (h : PartIs b base W wh num A n c) (hg : W.grownBy W' (some g)) (hgb : g < base) : PartIs b base W' wh num A n c := by
  rcases h with ⟨h1, h2, h3, h4, h5, h6, h7, h8⟩ | h
  · exact .inl ⟨h1, h2, h3, h4, h5, h6, (h7.apart (fun h0 b o e => by have := h8 b o e h0; omega) hg (Nat.le_refl _)).more hg.size, h8⟩
  · exact .inr h
def pv (wh : Bool) (num : Nat) (A : Option Addr) (n c : Nat) : List Value := [.bool wh, .int .u32 (num : Int), .slice A n c]
/-- the two parts of flash f, as the six cells cs -/
def PartsIs (f : Fl) (base : Nat) (W : World) (cs : List Value) : Prop :=
  ∃ wh0 n0 A0 m0 c0 wh1 n1 A1 m1 c1, cs = pv wh0 n0 A0 m0 c0 ++ pv wh1 n1 A1 m1 c1 ∧ PartIs (f.sub 0 256) base W wh0 n0 A0 m0 c0 ∧ PartIs (f.sub 256 256) base W wh1 n1 A1 m1 c1
def Z3 : List Value := pv false 0 none 0 0
/-- so many parts read -/
def RdAt (f : Fl) (gP : Nat) (k : Nat) (W : World) : Prop :=
  (k = 0 ∧ W.heap[gP]? = some (.cells (Z3 ++ Z3).toArray 90 (0, 0))) ∨
  (k = 1 ∧ ∃ wh0 n0 A0 m0 c0, W.heap[gP]? = some (.cells (pv wh0 n0 A0 m0 c0 ++ Z3).toArray 90 (0, 0)) ∧ PartIs (f.sub 0 256) (gP + 1) W wh0 n0 A0 m0 c0) ∨
  (k = 2 ∧ ∃ cs, W.heap[gP]? = some (.cells cs.toArray 90 (0, 0)) ∧ PartsIs f (gP + 1) W cs)
end Go.Proofs.Ytmlmpjokmbgmcaa
