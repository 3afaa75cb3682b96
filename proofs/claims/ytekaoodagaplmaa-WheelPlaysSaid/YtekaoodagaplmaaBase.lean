/- Words for memory used by this seat's walks: a slice whose cells read as a list; lists of bytes as cells; how these stay while memory grows. -/
import Derived.WalkKit
import Derived.Below
import Derived.Laws.OwnMore
import Derived.Laws.Rows
import Derived.Lib.Hide
import Derived.OpenShut
import Derived.Deep.Draws
import Derived.IntWalk
import Derived.Laws.IdiomStrings
import Derived.Laws.BytesArg
import Derived.Lib.SlBytesConst
namespace Go.Proofs.Ytekaoodagaplmaa
open Go.RowKit

/-- the slice of base A and length n reads, cell by cell, as xs, and lies below block B -/
def Row (w : World) (B : Nat) (A : Option Addr) (n : Nat) (xs : List Value) : Prop :=
  xs.length = n ∧ (0 < n → ∃ b o, A = some ⟨b, o, none⟩ ∧ b < B ∧ ∀ j u, xs[j]? = some u → w.cell? ⟨b, o + j, none⟩ = some u)
/-- bytes as cells -/
def bv (l : List UInt8) : List Value := l.map fun x => .int .u8 (x.toNat : Int)
theorem bv_length (l : List UInt8) : (bv l).length = l.length := by simp [bv]
theorem bv_get (l : List UInt8) (k : Nat) (h : k < l.length) : (bv l)[k]? = some (.int .u8 (l[k].toNat : Int)) := by
  simp [bv, h]
theorem bv_append (l m : List UInt8) : bv (l ++ m) = bv l ++ bv m := by simp [bv]
theorem bv_take (l : List UInt8) (k : Nat) : (bv l).take k = bv (l.take k) := by simp [bv]
theorem bv_drop (l : List UInt8) (k : Nat) : (bv l).drop k = bv (l.drop k) := by simp [bv]

section
variable {w w' : World} {B B' n : Nat} {A A' : Option Addr} {xs : List Value}
theorem Row.nil (w : World) (B : Nat) (A : Option Addr) : Row w B A 0 [] := ⟨rfl, fun h => absurd h (by omega)⟩
theorem Row.cellAt (h : Row w B A n xs) {k : Nat} (hk : k < n) {u : Value} (hu : xs[k]? = some u) : ∃ b o, A = some ⟨b, o, none⟩ ∧ b < B ∧ w.cell? ⟨b, o + k, none⟩ = some u := by
  obtain ⟨b, o, e, hb, hc⟩ := h.2 (by omega)
  exact ⟨b, o, e, hb, hc k u hu⟩
theorem Row.byteAt {l : List UInt8} (h : Row w B A n (bv l)) {k : Nat} (hk : k < n) : ∃ b o, A = some ⟨b, o, none⟩ ∧ b < B ∧ ∃ hl : k < l.length, w.cell? ⟨b, o + k, none⟩ = some (.int .u8 (l[k].toNat : Int)) := by
  have hl : k < l.length := by have := h.1; rw [bv_length] at this; omega
  obtain ⟨b, o, e, hb, hc⟩ := h.cellAt hk (bv_get l k hl)
  exact ⟨b, o, e, hb, hl, hc⟩
theorem Row.keep (h : Row w B A n xs) (hk : ∀ p : Addr, p.block < B → w'.cell? p = w.cell? p) : Row w' B A n xs :=
  ⟨h.1, fun hn => by
    obtain ⟨b, o, e, hb, hc⟩ := h.2 hn
    exact ⟨b, o, e, hb, fun j u hu => (hk _ hb).trans (hc j u hu)⟩⟩
theorem Row.more (h : Row w B A n xs) (hB : B ≤ B') : Row w B' A n xs :=
  ⟨h.1, fun hn => by
    obtain ⟨b, o, e, hb, hc⟩ := h.2 hn
    exact ⟨b, o, e, by omega, hc⟩⟩
theorem Row.below (h : Row w B A n xs) (hb : Below B w w') : Row w' B A n xs := h.keep fun _ hp => hb.cell hp
theorem Row.drew (h : Row w B A n xs) : Row w.drew B A n xs := h
theorem Row.drewN (h : Row w B A n xs) (k : Nat) : Row (w.drewN k) B A n xs := h
theorem Row.grown (h : Row w B A n xs) {row : Option Nat} (hg : w.grownBy w' row) (hB : B ≤ w.heap.size) (hr : ∀ g, row = some g → B ≤ g) : Row w' B A n xs :=
  h.below ((Below.refl _ _).grown hg hB hr)
theorem Row.len (h : Row w B A n xs) : xs.length = n := h.1
theorem Row.blen {l : List UInt8} (h : Row w B A n (bv l)) : l.length = n := by have := h.1; rwa [bv_length] at this
theorem Row.alloc (h : Row w B A n xs) (hB : B ≤ w.heap.size) (o : Obj) : Row (w.alloc o) B A n xs := h.below ((Below.refl _ _).alloc hB o)
theorem Row.setCell (h : Row w B A n xs) {p : Addr} (hB : B ≤ p.block) (u : Value) : Row (w.setCell p u) B A n xs := h.below ((Below.refl _ _).setCell hB u)
theorem Row.sub (h : Row w B A n xs) {k m : Nat} (hk : k + m ≤ n) (hA : ∀ b o, A = some ⟨b, o, none⟩ → 0 < m → A' = some ⟨b, o + k, none⟩) : Row w B A' m ((xs.drop k).take m) := by
  refine ⟨by rw [List.length_take, List.length_drop, h.1]; omega, fun hn => ?_⟩
  obtain ⟨b, o, e, hb, hc⟩ := h.2 (by omega)
  refine ⟨b, o + k, hA b o e hn, hb, fun j u hu => ?_⟩
  rw [show o + k + j = o + (k + j) by omega]
  refine hc _ u ?_
  by_cases hj : j < m
  · rw [List.getElem?_take_of_lt hj, List.getElem?_drop] at hu; exact hu
  · rw [List.getElem?_take_eq_none (by omega)] at hu; cases hu
theorem Row.cut (h : Row w B A n xs) {k m : Nat} (hk : k + m ≤ n) : Row w B (A.map fun x => x.add k) m ((xs.drop k).take m) := by
  refine h.sub hk fun b o e _ => ?_
  subst e
  show some (Addr.add ⟨b, o, none⟩ k) = _
  congr 1
  unfold Addr.add; split <;> simp_all
/-- 's[k:]', as the walk spells it -/
theorem Row.tail (h : Row w B A n xs) {k cap : Nat} (hk : k ≤ n) (hn : n ≤ cap) : Row w B (if cap = k then A else A.map fun x => x.add k) (n - k) (xs.drop k) := by
  have e : (xs.drop k).take (n - k) = xs.drop k := List.take_of_length_le (by rw [List.length_drop, h.1]; omega)
  by_cases hc : cap = k
  · rw [if_pos hc]
    have h0 : n - k = 0 := by omega
    have h1 : xs.drop k = [] := List.drop_of_length_le (by rw [h.1]; omega)
    rw [h0, h1]
    exact Row.nil _ _ _
  · rw [if_neg hc]
    have := h.cut (k := k) (m := n - k) (by omega)
    rwa [e] at this
theorem Row.head (h : Row w B A n xs) {k : Nat} (hk : k ≤ n) : Row w B A k (xs.take k) := by
  have := h.sub (k := 0) (m := k) (A' := A) (by omega) fun b o e _ => by simpa using e
  simpa using this
/-- 's[1:]' of a slice that is not empty, as the walk spells it -/
theorem Row.next {m c : Nat} (h : Row w B A (m + 1) xs) (hc : m ≤ c) : Row w B (if c = 0 then A else A.map fun x => { block := x.block, off := x.off + 1 }) m (xs.drop 1) := by
  have e : (xs.drop 1).take m = xs.drop 1 := List.take_of_length_le (by rw [List.length_drop, h.1]; omega)
  have := h.sub (k := 1) (m := m) (A' := if c = 0 then A else A.map fun x => { block := x.block, off := x.off + 1 }) (by omega) fun b o e hm => by
    subst e
    rw [if_neg (by omega)]
    rfl
  rwa [e] at this
theorem Row.of_own {base e c : Nat} (h : w.ownsRow base e 1 (.slice A n c) n xs) : Row w w.heap.size A n xs := by
  refine ⟨by simpa using h.1, fun hn => ?_⟩
  rcases h.2 with ⟨hv, h0⟩ | ⟨g, cap, cur, hv, _, hg, _, _, _, ht⟩
  · omega
  · injection hv with e1 e2 e3
    refine ⟨g, 0, e1, (Array.getElem?_eq_some_iff.1 hg).1, fun j u hu => ?_⟩
    rw [Nat.zero_add, cell_of_row w g j cur e (0, 0) hg]
    rw [← ht] at hu
    have hl := (List.getElem?_eq_some_iff.1 hu).1
    rw [List.getElem?_take_of_lt (by simp at hl; omega)] at hu
    simpa using hu
end

/-- an opened byte slice: its bytes -/
theorem row_of_ints {w : World} {a : Addr} {len : Nat} {zs : List Int} (hlen : len ≤ zs.length)
    (hc : ∀ i, i < zs.length → w.cell? (a.add i) = some (.int .u8 (zs.getD i 0))) (hwf : ∀ n ∈ zs, (Lit.int .u8 n).wf = true) (ha : a.block < w.heap.size ∨ len = 0) :
    Row w w.heap.size (some a) len (bv ((zs.take len).map fun z => UInt8.ofNat z.toNat)) := by
  refine ⟨by simp [bv]; omega, fun hn => ?_⟩
  obtain ⟨b, o, rfl, hcell⟩ := ints_at hc (by omega)
  have hB : b < w.heap.size := by
    rcases ha with h | h
    · exact h
    · omega
  refine ⟨b, o, rfl, hB, fun j u hu => ?_⟩
  simp only [bv, List.map_map] at hu
  rw [List.getElem?_map] at hu
  cases hz : (zs.take len)[j]? with
  | none => rw [hz] at hu; cases hu
  | some z =>
    rw [hz] at hu
    have hjl := (List.getElem?_eq_some_iff.1 hz).1
    have hj : j < len := by simp at hjl; omega
    rw [List.getElem?_take_of_lt hj] at hz
    have hm : z ∈ zs := List.mem_of_getElem? hz
    have hz2 := hwf z hm
    have hb : 0 ≤ z ∧ z ≤ 255 := by simpa [Lit.wf, IntKind.min, IntKind.max, IntKind.signed, IntKind.bits] using hz2
    rw [hcell j (by omega)]
    simp only [Option.map_some, Function.comp] at hu
    rw [← hu, show zs.getD j 0 = z by simp [hz]]
    congr 2
    simp
    omega
/-- 'int(uint64(x) % uint64(m))' -/
theorem pick_in (x m : Int) (h0 : 0 < m) (h1 : m ≤ 4611686018427387904) : ∃ k : Nat, (k : Int) < m ∧ wrap64 ((IntKind.u64.wrap x).tmod m) = (k : Int) := by
  have e : IntKind.u64.wrap x = x % 18446744073709551616 := by simp [IntKind.wrap, IntKind.bits, IntKind.signed]
  have hn : 0 ≤ IntKind.u64.wrap x := by rw [e]; omega
  have hm : (IntKind.u64.wrap x).tmod m = IntKind.u64.wrap x % m := Int.tmod_eq_emod_of_nonneg hn
  have a0 : 0 ≤ IntKind.u64.wrap x % m := Int.emod_nonneg _ (by omega)
  have a1 : IntKind.u64.wrap x % m < m := Int.emod_lt_of_pos _ h0
  refine ⟨(IntKind.u64.wrap x % m).toNat, by omega, ?_⟩
  rw [hm, IntWalk.wrap64_in _ ⟨by omega, by omega⟩]
  omega
/-- a block that the call has just laid -/
theorem row_new (w : World) (cs : Array Value) (t : TypeId) (fr : Nat × Nat) : Row (w.alloc (.cells cs t fr)) (w.heap.size + 1) (some ⟨w.heap.size, 0, none⟩) cs.size cs.toList := by
  refine ⟨by simp, fun _ => ⟨_, 0, rfl, by omega, fun j u hu => ?_⟩⟩
  rw [Nat.zero_add, World.cell?_alloc_mark]
  simpa using hu

section
variable {P : Program}
/-- 'string(b)' of a byte slice that reads as l -/
theorem run_string_row {w : World} {B n : Nat} {A : Option Addr} {l : List UInt8} (h : Row w B A n (bv l)) (cap : Nat) (src dst e : TypeId) (hs : P.underlying src = some (.slice e)) (he : P.underlying e = some (.int .u8)) (hd : P.underlying dst = some .string) :
    (convert src dst (.slice A n cap)).run P w = .ok (.string ⟨l.toArray⟩) w := by
  have hl := h.blen
  cases A with
  | none =>
    have h0 : n = 0 := by
      rcases Nat.eq_zero_or_pos n with h0 | h0
      · exact h0
      · obtain ⟨b, o, e, _⟩ := h.2 h0
        cases e
    have hl0 : l = [] := List.eq_nil_of_length_eq_zero (by omega)
    subst hl0
    exact run_convert_bytes_nil w src e hs he n cap dst hd
  | some a =>
    subst hl
    refine run_convert_bytes_back w src dst e a cap l hs he hd fun j hj => ?_
    obtain ⟨b, o, e, _, hl, hc⟩ := h.byteAt hj
    injection e with e
    subst e
    rw [← hc]
    congr 1
    unfold Addr.add; split <;> simp_all
end
end Go.Proofs.Ytekaoodagaplmaa
