/- MacInner's walk. -/
import Derived.Test.YtcgcmfhidolohaaDoorMacTagQ
import Derived.Test.YtcgcmfhidolohaaDoorZA
namespace Go.Proofs.YtcgcmfhidolohaaDoor.Sh
open Go.RowKit
theorem wpList_copy_grown {P : Program} {w : World} {ops : Array Oper} {rest : List Oper} {o : Oper} {a : Act} {Q : Exit → Act → World → Prop} (hgd : o.guard = none) (d s : Operand) (dT sT : TypeId)
    (ho : o.op = .call { callee := .builtin .copy, args := #[d, s], argTypes := #[dT, sT] }) (elem : TypeId) (hu : P.underlying dT = some (.slice elem)) (hsz : (P.info? elem).map (·.size) = some 1)
    (dp sp : Option Addr) (dLen dCap sLen sCap : Nat) (hd : a.eval d = .slice dp dLen dCap) (hs : a.eval s = .slice sp sLen sCap)
    (g off : Nat) (cur : List Value) (t : TypeId) (hg : w.heap[g]? = some (.cells cur.toArray t (0, 0))) (cs : List Value) (hn : cs.length = Nat.min sLen dLen)
    (hpos : 0 < cs.length → dp = some ⟨g, off, none⟩ ∧ ∃ ad, sp = some ad ∧ ∀ j v, cs[j]? = some v → w.cell? (ad.add j) = some v)
    (hfit : off + cs.length ≤ cur.length) (h1 : ∀ v ∈ cs, v.oneCell' = true)
    (h : ∀ w', Hid (w'.heap[g]? = some (.cells (splice cur off cs).toArray t (0, 0))) → Hid (w.grownBy w' (some g)) → wpList P ops Q rest (a.put o.dst (goInt cs.length)) w') :
    wpList P ops Q (o :: rest) a w := by
  by_cases h0 : cs.length = 0
  · obtain rfl : cs = [] := List.eq_nil_of_length_eq_zero h0
    refine wpList_copy_nothing hgd d s dT sT ho elem hu hsz dp sp dLen dCap sLen sCap hd hs (by simpa using hn.symm) ?_
    exact h w (show _ = _ by simpa [splice] using hg) ⟨rfl, rfl, rfl, Nat.le_refl _, fun _ _ _ => rfl⟩
  · obtain ⟨rfl, ad, rfl, hsrc⟩ := hpos (by omega)
    refine wpList_copy_own hgd d s dT sT ho elem hu hsz g off dLen dCap ad sLen sCap hd hs cur.toArray t hg cs hn hsrc (by simpa using hfit) h1 ?_
    exact h _ (show _ = _ by simpa [splice] using setRow_heap w g _ _ t _ hg) ⟨rfl, rfl, rfl, by simp, fun k _ hk => setRow_other w g k _ (fun e => hk (by rw [e]))⟩
def TwoZ (Z : List Value) (g1 g2 : Nat) (w wx : World) : Prop :=
  wx.heap[g1]? = some (.cells Z.toArray 5 (0, 0)) ∧ wx.heap[g2]? = some (.cells Z.toArray 5 (0, 0)) ∧ g1 ≠ g2 ∧ w.heap.size ≤ g1 ∧ w.heap.size ≤ g2 ∧ Below w.heap.size w wx
theorem two_new (Z : List Value) (w : World) : TwoZ Z w.heap.size (w.heap.size + 1) w ((w.alloc (.cells Z.toArray 5)).alloc (.cells Z.toArray 5)) :=
  ⟨heap_alloc2_old w _ _, heap_alloc2_new w _ _, by omega, Nat.le_refl _, by omega, ((Below.refl _ _).alloc (Nat.le_refl _) _).alloc (by simp) _⟩
theorem TwoZ.swap {Z : List Value} {g1 g2 : Nat} {w wx : World} (h : TwoZ Z g1 g2 w wx) : TwoZ Z g2 g1 w wx := ⟨h.2.1, h.1, h.2.2.1.symm, h.2.2.2.2.1, h.2.2.2.1, h.2.2.2.2.2⟩
theorem TwoZ.drew {Z : List Value} {g1 g2 : Nat} {w wx : World} (h : TwoZ Z g1 g2 w.drew wx) : TwoZ Z g1 g2 w wx := ⟨h.1, h.2.1, h.2.2.1, h.2.2.2.1, h.2.2.2.2.1, (Below.refl _ _).drew.trans h.2.2.2.2.2⟩
def TwoB (l : List UInt8) (k g1 g2 : Nat) (w wx : World) : Prop :=
  BAt wx g1 64 (xorTo l 0x36 k) ∧ BAt wx g2 64 (xorTo l 0x5c k) ∧ Below w.heap.size w wx
theorem xorTo_next (l : List UInt8) (x : UInt8) (k : Nat) (i : Nat) : xorTo l x (k + 1) i = if i = k then l.getD k 0 ^^^ x else xorTo l x k i := by
  unfold xorTo
  by_cases e : i = k
  · subst e; rw [if_pos rfl, if_pos (by omega)]
  · rw [if_neg e]
    by_cases h9 : i < k
    · rw [if_pos (by omega), if_pos h9]
    · rw [if_neg (by omega), if_neg h9]
end Go.Proofs.YtcgcmfhidolohaaDoor.Sh
