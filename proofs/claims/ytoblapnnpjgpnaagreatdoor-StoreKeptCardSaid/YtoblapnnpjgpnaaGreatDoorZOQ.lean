/- SHA-256 as plain mathematics: on numbers below 2^32 and bytes. -/
import Derived.WalkSpells
import Derived.WalkLawsBesides
import Derived.Laws.ResultCell
import Derived.Laws.Rows
import Derived.Deep.RegionWith
import Derived.BigQuiet
import Derived.Deep.QuietTactic
import Derived.Deep.MidRow
import Derived.Deep.WholeRow
import Derived.Laws.Tables
import Derived.Laws.NewBlocks
import Derived.StillTailTactics
import Derived.RegionTactic
import Derived.Deep.DeepCutAuto
import Derived.Deep.LoopGhost
import Derived.Test.YtoblapnnpjgpnaaGreatDoorRows
import Derived.Test.YtoblapnnpjgpnaaGreatDoorZAQ
import Derived.Test.YtoblapnnpjgpnaaGreatDoorR1JoinQ
namespace Go.Proofs.YtoblapnnpjgpnaaGreatDoor.Sha

def add (a b : Nat) : Nat := (a + b) % 4294967296
def rotr (x n : Nat) : Nat := (x / 2 ^ n) ||| (x * 2 ^ (32 - n) % 4294967296)
def not32 (x : Nat) : Nat := x ^^^ 4294967295
structure S8 where
  a : Nat
  b : Nat
  c : Nat
  d : Nat
  e : Nat
  f : Nat
  g : Nat
  h : Nat
deriving DecidableEq
def S8.get (s : S8) (i : Nat) : Nat :=
  match i with
  | 0 => s.a | 1 => s.b | 2 => s.c | 3 => s.d | 4 => s.e | 5 => s.f | 6 => s.g | _ => s.h
def S8.lt (s : S8) : Prop := s.a < 4294967296 ∧ s.b < 4294967296 ∧ s.c < 4294967296 ∧ s.d < 4294967296 ∧ s.e < 4294967296 ∧ s.f < 4294967296 ∧ s.g < 4294967296 ∧ s.h < 4294967296
def big1 (x : Nat) : Nat := rotr x 6 ^^^ rotr x 11 ^^^ rotr x 25
def big0 (x : Nat) : Nat := rotr x 2 ^^^ rotr x 13 ^^^ rotr x 22
def small0 (x : Nat) : Nat := rotr x 7 ^^^ rotr x 18 ^^^ x / 8
def small1 (x : Nat) : Nat := rotr x 17 ^^^ rotr x 19 ^^^ x / 1024
def choice (e f g : Nat) : Nat := (e &&& f) ^^^ (not32 e &&& g)
def major (a b c : Nat) : Nat := (a &&& b) ^^^ (a &&& c) ^^^ (b &&& c)
def t1 (s : S8) (x : Nat) : Nat := add (add (add s.h (big1 s.e)) (choice s.e s.f s.g)) x
def t2 (s : S8) : Nat := add (big0 s.a) (major s.a s.b s.c)
def round (s : S8) (x : Nat) : S8 := ⟨add (t1 s x) (t2 s), s.a, s.b, s.c, add s.d (t1 s x), s.e, s.f, s.g⟩
def plus (s t : S8) : S8 := ⟨add s.a t.a, add s.b t.b, add s.c t.c, add s.d t.d, add s.e t.e, add s.f t.f, add s.g t.g, add s.h t.h⟩
def first : S8 := ⟨0x6a09e667, 0xbb67ae85, 0x3c6ef372, 0xa54ff53a, 0x510e527f, 0x9b05688c, 0x1f83d9ab, 0x5be0cd19⟩
def ks : List Nat := [
  0x428a2f98, 0x71374491, 0xb5c0fbcf, 0xe9b5dba5, 0x3956c25b, 0x59f111f1, 0x923f82a4, 0xab1c5ed5,
  0xd807aa98, 0x12835b01, 0x243185be, 0x550c7dc3, 0x72be5d74, 0x80deb1fe, 0x9bdc06a7, 0xc19bf174,
  0xe49b69c1, 0xefbe4786, 0x0fc19dc6, 0x240ca1cc, 0x2de92c6f, 0x4a7484aa, 0x5cb0a9dc, 0x76f988da,
  0x983e5152, 0xa831c66d, 0xb00327c8, 0xbf597fc7, 0xc6e00bf3, 0xd5a79147, 0x06ca6351, 0x14292967,
  0x27b70a85, 0x2e1b2138, 0x4d2c6dfc, 0x53380d13, 0x650a7354, 0x766a0abb, 0x81c2c92e, 0x92722c85,
  0xa2bfe8a1, 0xa81a664b, 0xc24b8b70, 0xc76c51a3, 0xd192e819, 0xd6990624, 0xf40e3585, 0x106aa070,
  0x19a4c116, 0x1e376c08, 0x2748774c, 0x34b0bcb5, 0x391c0cb3, 0x4ed8aa4a, 0x5b9cca4f, 0x682e6ff3,
  0x748f82ee, 0x78a5636f, 0x84c87814, 0x8cc70208, 0x90befffa, 0xa4506ceb, 0xbef9a3f7, 0xc67178f2]
/-- four bytes as a number -/
def num4 (a b c d : UInt8) : Nat := ((a.toNat * 256 + b.toNat) * 256 + c.toNat) * 256 + d.toNat
/-- word j of the first sixteen -/
def word (bl : List UInt8) (j : Nat) : Nat := num4 (bl.getD (4 * j) 0) (bl.getD (4 * j + 1) 0) (bl.getD (4 * j + 2) 0) (bl.getD (4 * j + 3) 0)
def words (bl : List UInt8) : List Nat := (List.range 16).map (word bl)
def next (l : List Nat) : List Nat :=
  l ++ [add (add (add (small1 (l.getD (l.length - 2) 0)) (l.getD (l.length - 7) 0)) (small0 (l.getD (l.length - 15) 0))) (l.getD (l.length - 16) 0)]
def sched : Nat → List Nat → List Nat
  | 0, l => l
  | k + 1, l => next (sched k l)
def wordsOf (bl : List UInt8) : List Nat := sched 48 (words bl)
/-- the rounds from the first on, k of them -/
def rounds (ws : List Nat) (s : S8) : Nat → S8
  | 0 => s
  | k + 1 => round (rounds ws s k) (add (ks.getD k 0) (ws.getD k 0))
def mix (s : S8) (bl : List UInt8) : S8 := plus s (rounds (wordsOf bl) s 64)
/-- a sum that is not at its end -/
structure H where
  st : S8
  bl : List UInt8
  wait : Nat
def H.put (h : H) (x : UInt8) : H :=
  if h.wait + 1 = 64 then ⟨mix h.st (h.bl.set h.wait x), h.bl.set h.wait x, 0⟩ else ⟨h.st, h.bl.set h.wait x, h.wait + 1⟩
def H.Ok (h : H) : Prop := h.st.lt ∧ h.bl.length = 64 ∧ h.wait < 64
def H.take (h : H) (l : List UInt8) : H := l.foldl H.put h
def start : H := ⟨first, List.replicate 64 0, 0⟩
def len8 (n : Nat) : List UInt8 := [UInt8.ofNat (n / 2 ^ 56), UInt8.ofNat (n / 2 ^ 48), UInt8.ofNat (n / 2 ^ 40), UInt8.ofNat (n / 2 ^ 32), UInt8.ofNat (n / 2 ^ 24), UInt8.ofNat (n / 2 ^ 16), UInt8.ofNat (n / 2 ^ 8), UInt8.ofNat n]
/-- how many noughts stand behind the 80 -/
def noughts (wait : Nat) : Nat := (119 - wait) % 64
def H.done (h : H) (total : Nat) : H := ((h.put 0x80).take (List.replicate (noughts h.wait) 0)).take (len8 (total * 8))
def four (x : Nat) : List UInt8 := [UInt8.ofNat (x / 16777216), UInt8.ofNat (x / 65536), UInt8.ofNat (x / 256), UInt8.ofNat x]
def S8.bytes (s : S8) : List UInt8 := four s.a ++ four s.b ++ four s.c ++ four s.d ++ four s.e ++ four s.f ++ four s.g ++ four s.h
/-- the digest -/
def D (l : List UInt8) : List UInt8 := ((start.take l).done l.length).st.bytes

theorem add_lt (a b : Nat) : add a b < 4294967296 := Nat.mod_lt _ (by decide)
theorem xor_lt (a b : Nat) (ha : a < 4294967296) (hb : b < 4294967296) : a ^^^ b < 4294967296 := Nat.xor_lt_two_pow (n := 32) ha hb
theorem or_lt (a b : Nat) (ha : a < 4294967296) (hb : b < 4294967296) : a ||| b < 4294967296 := Nat.or_lt_two_pow (n := 32) ha hb
theorem and_lt (a b : Nat) (ha : a < 4294967296) : a &&& b < 4294967296 := Nat.lt_of_le_of_lt Nat.and_le_left ha
theorem rotr_lt (x n : Nat) (h : x < 4294967296) : rotr x n < 4294967296 :=
  or_lt _ _ (Nat.lt_of_le_of_lt (Nat.div_le_self _ _) h) (Nat.mod_lt _ (by decide))
theorem not_lt (x : Nat) (h : x < 4294967296) : not32 x < 4294967296 := xor_lt _ _ h (by decide)
theorem round_ok (s : S8) (x : Nat) (h : s.lt) : (round s x).lt :=
  ⟨add_lt _ _, h.1, h.2.1, h.2.2.1, add_lt _ _, h.2.2.2.2.1, h.2.2.2.2.2.1, h.2.2.2.2.2.2.1⟩
theorem plus_ok (s t : S8) : (plus s t).lt := ⟨add_lt _ _, add_lt _ _, add_lt _ _, add_lt _ _, add_lt _ _, add_lt _ _, add_lt _ _, add_lt _ _⟩
theorem rounds_ok (ws : List Nat) (s : S8) (h : s.lt) : ∀ k, (rounds ws s k).lt
  | 0 => h
  | k + 1 => round_ok _ _ (rounds_ok ws s h k)
theorem mix_ok (s : S8) (bl : List UInt8) : (mix s bl).lt := plus_ok _ _
theorem get_lt (s : S8) (h : s.lt) (i : Nat) : s.get i < 4294967296 := by
  obtain ⟨h0, h1, h2, h3, h4, h5, h6, h7⟩ := h
  unfold S8.get
  split <;> assumption
theorem num4_lt (a b c d : UInt8) : num4 a b c d < 4294967296 := by
  have := a.toNat_lt; have := b.toNat_lt; have := c.toNat_lt; have := d.toNat_lt
  unfold num4; omega
theorem words_length (bl : List UInt8) : (words bl).length = 16 := by simp [words]
theorem sched_length (k : Nat) (l : List Nat) : (sched k l).length = l.length + k := by
  induction k with
  | zero => rfl
  | succ k ih => simp [sched, next, ih]; omega
theorem next_lt (l : List Nat) (h : ∀ x ∈ l, x < 4294967296) : ∀ x ∈ next l, x < 4294967296 := by
  intro x hx
  unfold next at hx
  rcases List.mem_append.1 hx with hx | hx
  · exact h x hx
  · rw [List.mem_singleton] at hx; subst hx; exact add_lt _ _
theorem sched_lt (k : Nat) (l : List Nat) (h : ∀ x ∈ l, x < 4294967296) : ∀ x ∈ sched k l, x < 4294967296 := by
  induction k with
  | zero => exact h
  | succ k ih => exact next_lt _ ih
theorem words_lt (bl : List UInt8) : ∀ x ∈ words bl, x < 4294967296 := by
  intro x hx
  obtain ⟨j, _, rfl⟩ := List.mem_map.1 hx
  exact num4_lt _ _ _ _
theorem wordsOf_lt (bl : List UInt8) : ∀ x ∈ wordsOf bl, x < 4294967296 := sched_lt _ _ (words_lt _)
theorem getD_lt {l : List Nat} (h : ∀ x ∈ l, x < 4294967296) (k : Nat) : l.getD k 0 < 4294967296 := by
  rw [List.getD_eq_getElem?_getD]
  cases e : l[k]? with
  | none => decide
  | some x => exact h x (List.mem_of_getElem? e)
theorem take_append (h : H) (l m : List UInt8) : h.take (l ++ m) = (h.take l).take m := by simp [H.take, List.foldl_append]
theorem put_wait (h : H) (x : UInt8) : (h.put x).wait = if h.wait + 1 = 64 then 0 else h.wait + 1 := by
  unfold H.put; split <;> rfl
theorem start_ok : start.Ok := by
  refine ⟨?_, by simp [start], by decide⟩
  unfold S8.lt start; decide
end Go.Proofs.YtoblapnnpjgpnaaGreatDoor.Sha
namespace Go.Proofs.YtoblapnnpjgpnaaGreatDoor.Sh
open Go.RowKit
theorem set8 {w : World} {g : Nat} {t : TypeId} {z0 z1 z2 z3 z4 z5 z6 z7 : Value} (h : w.heap[g]? = some (.cells #[z0, z1, z2, z3, z4, z5, z6, z7] t (0, 0))) (v0 v1 v2 v3 v4 v5 v6 v7 : Value) :
    ((((((((w.setCell ⟨g, 0, none⟩ v0).setCell ⟨g, 1, none⟩ v1).setCell ⟨g, 2, none⟩ v2).setCell ⟨g, 3, none⟩ v3).setCell ⟨g, 4, none⟩ v4).setCell ⟨g, 5, none⟩ v5).setCell ⟨g, 6, none⟩ v6).setCell ⟨g, 7, none⟩ v7).heap[g]? = some (.cells #[v0, v1, v2, v3, v4, v5, v6, v7] t (0, 0)) := by
  have h0 : (w.setCell ⟨g, 0, none⟩ v0).heap[g]? = some (.cells #[v0, z1, z2, z3, z4, z5, z6, z7] t (0, 0)) := heap_setCell_same _ g 0 _ t v0 h
  have h1 : ((w.setCell ⟨g, 0, none⟩ v0).setCell ⟨g, 1, none⟩ v1).heap[g]? = some (.cells #[v0, v1, z2, z3, z4, z5, z6, z7] t (0, 0)) := heap_setCell_same _ g 1 _ t v1 h0
  have h2 : (((w.setCell ⟨g, 0, none⟩ v0).setCell ⟨g, 1, none⟩ v1).setCell ⟨g, 2, none⟩ v2).heap[g]? = some (.cells #[v0, v1, v2, z3, z4, z5, z6, z7] t (0, 0)) := heap_setCell_same _ g 2 _ t v2 h1
  have h3 : ((((w.setCell ⟨g, 0, none⟩ v0).setCell ⟨g, 1, none⟩ v1).setCell ⟨g, 2, none⟩ v2).setCell ⟨g, 3, none⟩ v3).heap[g]? = some (.cells #[v0, v1, v2, v3, z4, z5, z6, z7] t (0, 0)) := heap_setCell_same _ g 3 _ t v3 h2
  have h4 : (((((w.setCell ⟨g, 0, none⟩ v0).setCell ⟨g, 1, none⟩ v1).setCell ⟨g, 2, none⟩ v2).setCell ⟨g, 3, none⟩ v3).setCell ⟨g, 4, none⟩ v4).heap[g]? = some (.cells #[v0, v1, v2, v3, v4, z5, z6, z7] t (0, 0)) := heap_setCell_same _ g 4 _ t v4 h3
  have h5 : ((((((w.setCell ⟨g, 0, none⟩ v0).setCell ⟨g, 1, none⟩ v1).setCell ⟨g, 2, none⟩ v2).setCell ⟨g, 3, none⟩ v3).setCell ⟨g, 4, none⟩ v4).setCell ⟨g, 5, none⟩ v5).heap[g]? = some (.cells #[v0, v1, v2, v3, v4, v5, z6, z7] t (0, 0)) := heap_setCell_same _ g 5 _ t v5 h4
  have h6 : (((((((w.setCell ⟨g, 0, none⟩ v0).setCell ⟨g, 1, none⟩ v1).setCell ⟨g, 2, none⟩ v2).setCell ⟨g, 3, none⟩ v3).setCell ⟨g, 4, none⟩ v4).setCell ⟨g, 5, none⟩ v5).setCell ⟨g, 6, none⟩ v6).heap[g]? = some (.cells #[v0, v1, v2, v3, v4, v5, v6, z7] t (0, 0)) := heap_setCell_same _ g 6 _ t v6 h5
  have h7 : ((((((((w.setCell ⟨g, 0, none⟩ v0).setCell ⟨g, 1, none⟩ v1).setCell ⟨g, 2, none⟩ v2).setCell ⟨g, 3, none⟩ v3).setCell ⟨g, 4, none⟩ v4).setCell ⟨g, 5, none⟩ v5).setCell ⟨g, 6, none⟩ v6).setCell ⟨g, 7, none⟩ v7).heap[g]? = some (.cells #[v0, v1, v2, v3, v4, v5, v6, v7] t (0, 0)) := heap_setCell_same _ g 7 _ t v7 h6
  exact h7
theorem big1_bits (x : Nat) (h : x < 4294967296) : bits .xor .u32 (bits .xor .u32 (Sha.rotr x 6 : Nat) (Sha.rotr x 11 : Nat)) (Sha.rotr x 25 : Nat) = ((Sha.big1 x : Nat) : Int) := by
  rw [u32_xor_nat _ _ (Sha.rotr_lt _ _ h) (Sha.rotr_lt _ _ h), u32_xor_nat _ _ (Sha.xor_lt _ _ (Sha.rotr_lt _ _ h) (Sha.rotr_lt _ _ h)) (Sha.rotr_lt _ _ h)]; rfl
theorem big0_bits (x : Nat) (h : x < 4294967296) : bits .xor .u32 (bits .xor .u32 (Sha.rotr x 2 : Nat) (Sha.rotr x 13 : Nat)) (Sha.rotr x 22 : Nat) = ((Sha.big0 x : Nat) : Int) := by
  rw [u32_xor_nat _ _ (Sha.rotr_lt _ _ h) (Sha.rotr_lt _ _ h), u32_xor_nat _ _ (Sha.xor_lt _ _ (Sha.rotr_lt _ _ h) (Sha.rotr_lt _ _ h)) (Sha.rotr_lt _ _ h)]; rfl
theorem not_bits (e : Nat) (h : e < 4294967296) : bits .xor .u32 IntKind.u32.max (e : Int) = ((Sha.not32 e : Nat) : Int) := by
  rw [show IntKind.u32.max = ((4294967295 : Nat) : Int) from rfl, u32_xor_nat 4294967295 e (by decide) h, Nat.xor_comm]; rfl
theorem choice_bits (e f g : Nat) (he : e < 4294967296) (hf : f < 4294967296) (hg : g < 4294967296) :
    bits .xor .u32 (bits .and .u32 (e : Int) (f : Int)) (bits .and .u32 (bits .xor .u32 IntKind.u32.max (e : Int)) (g : Int)) = ((Sha.choice e f g : Nat) : Int) := by
  rw [not_bits e he, u32_and_nat _ _ he hf, u32_and_nat _ _ (Sha.not_lt _ he) hg, u32_xor_nat _ _ (Sha.and_lt _ _ he) (Sha.and_lt _ _ (Sha.not_lt _ he))]; rfl
theorem major_bits (a b c : Nat) (ha : a < 4294967296) (hb : b < 4294967296) (hc : c < 4294967296) :
    bits .xor .u32 (bits .xor .u32 (bits .and .u32 (a : Int) (b : Int)) (bits .and .u32 (a : Int) (c : Int))) (bits .and .u32 (b : Int) (c : Int)) = ((Sha.major a b c : Nat) : Int) := by
  rw [u32_and_nat _ _ ha hb, u32_and_nat _ _ ha hc, u32_and_nat _ _ hb hc, u32_xor_nat _ _ (Sha.and_lt _ _ ha) (Sha.and_lt _ _ ha), u32_xor_nat _ _ (Sha.xor_lt _ _ (Sha.and_lt _ _ ha) (Sha.and_lt _ _ ha)) (Sha.and_lt _ _ hb)]; rfl
def s8v (s : Sha.S8) : Array Value := #[.int .u32 (s.a : Int), .int .u32 (s.b : Int), .int .u32 (s.c : Int), .int .u32 (s.d : Int), .int .u32 (s.e : Int), .int .u32 (s.f : Int), .int .u32 (s.g : Int), .int .u32 (s.h : Int)]
end Go.Proofs.YtoblapnnpjgpnaaGreatDoor.Sh
namespace Go.Proofs.YtoblapnnpjgpnaaGreatDoor.Sh
open Go.RowKit
/-- an element of an array by its index -/
theorem run_index_row {P : Program} {t e : TypeId} {n : Nat} {i : TypeInfo} (ht : P.underlying t = some (.array n e)) (hi : P.info? e = some i) (hs : i.size = 1) (hag : ∀ w : World, (isAgg e).run P w = .ok false w) (cs : Array Value) (k : Nat) (v : Value) (h : k < n) (hv : cs[k]? = some v) : ∀ w : World,
    (Instr.index t (.agg cs) (.int .i64 (k : Int))).run P w = .ok v w := by
  intro w
  have hp : (part e cs k).run P w = .ok v w := by
    simp [part, hag, sizeOf, typeInfo, hi, hs, hv]
  simp [Instr.index, asIntOf, run_underlying ht, sizeOf, typeInfo, hi, hs, h]
  exact hp
/-- block g holds 64 words, of which those below n are f's -/
def WAt (W : World) (g n : Nat) (f : Nat → Nat) : Prop :=
  ∃ cs : Array Value, W.heap[g]? = some (.cells cs 74 (0, 0)) ∧ cs.size = 64 ∧ ∀ i, i < n → cs[i]? = some (.int .u32 (f i : Int))
section
variable {W W' : World} {g n : Nat} {f f' : Nat → Nat}
theorem WAt.at_ (h : WAt W g n f) {i : Nat} (hi : i < n) : W.cell? ⟨g, i, none⟩ = some (.int .u32 (f i : Int)) := by
  obtain ⟨cs, hg, _, hc⟩ := h
  rw [cell_of_row W g i cs _ (0, 0) hg]
  exact hc i hi
theorem WAt.some_ (h : WAt W g n f) {i : Nat} (hi : i < 64) : ∃ v, W.cell? ⟨g, i, none⟩ = some v := by
  obtain ⟨cs, hg, hs, hc⟩ := h
  rw [cell_of_row W g i cs _ (0, 0) hg]
  exact ⟨cs[i], by rw [Array.getElem?_eq_getElem]⟩
theorem WAt.frozen (h : WAt W g n f) (i : Nat) : W.frozen? ⟨g, i, none⟩ = false := by
  obtain ⟨cs, hg, _, _⟩ := h
  exact frozen_of_row W g i cs _ hg
theorem WAt.store (h : WAt W g n f) {k n' x : Nat} (hk : k < 64) (hf : ∀ i, i < n' → i = k ∧ f' i = x ∨ i ≠ k ∧ i < n ∧ f' i = f i) : WAt (W.setCell ⟨g, k, none⟩ (.int .u32 (x : Int))) g n' f' := by
  obtain ⟨cs, hg, hs, hc⟩ := h
  refine ⟨cs.setIfInBounds k (.int .u32 (x : Int)), heap_setCell_same W g k cs _ _ hg, by simpa using hs, fun i hi => ?_⟩
  rw [Array.getElem?_setIfInBounds]
  rcases hf i hi with ⟨rfl, e⟩ | ⟨h1, h2, e⟩
  · rw [if_pos rfl, if_pos (by omega), e]
  · rw [if_neg (fun e' => h1 e'.symm), e]; exact hc i h2
theorem WAt.keep (h : WAt W g n f) (hb : W'.heap[g]? = W.heap[g]?) : WAt W' g n f := by
  obtain ⟨cs, hg, r⟩ := h
  exact ⟨cs, hb.trans hg, r⟩
end
/-- word j behind k bytes -/
def accW (bl : List UInt8) (j k : Nat) : Nat := ((bl.drop (4 * j)).take (min 4 (k - 4 * j))).foldl (fun a x => a * 256 + x.toNat) 0
theorem fold4_lt (l : List UInt8) (n : Nat) (h : l.length ≤ n) : l.foldl (fun a x => a * 256 + x.toNat) 0 < 256 ^ n := by
  induction n generalizing l with
  | zero =>
    have : l = [] := List.eq_nil_of_length_eq_zero (by omega)
    subst this; decide
  | succ n ih =>
    rcases l.eq_nil_or_concat with rfl | ⟨m, x, rfl⟩
    · exact Nat.pos_of_ne_zero (by simp)
    · rw [List.concat_eq_append, List.foldl_append]
      have h1 := ih m (by simp at h; omega)
      have h2 := x.toNat_lt
      simp only [List.foldl_cons, List.foldl_nil]
      rw [Nat.pow_succ]
      omega
theorem accW_word (bl : List UInt8) (j : Nat) (hb : bl.length = 64) (hj : j < 16) : accW bl j 64 = Sha.word bl j := by
  unfold accW
  rw [show min 4 (64 - 4 * j) = 4 by omega]
  have hd : ∀ i, i < 4 → (bl.drop (4 * j))[i]? = some (bl.getD (4 * j + i) 0) := by
    intro i hi
    rw [List.getElem?_drop, List.getD, List.getElem?_eq_getElem (by omega)]; rfl
  have e : (bl.drop (4 * j)).take 4 = [bl.getD (4 * j) 0, bl.getD (4 * j + 1) 0, bl.getD (4 * j + 2) 0, bl.getD (4 * j + 3) 0] := by
    apply List.ext_getElem?
    intro i
    rcases (by omega : i = 0 ∨ i = 1 ∨ i = 2 ∨ i = 3 ∨ 4 ≤ i) with rfl | rfl | rfl | rfl | h
    · rw [List.getElem?_take_of_lt (by omega), hd 0 (by omega)]; rfl
    · rw [List.getElem?_take_of_lt (by omega), hd 1 (by omega)]; rfl
    · rw [List.getElem?_take_of_lt (by omega), hd 2 (by omega)]; rfl
    · rw [List.getElem?_take_of_lt (by omega), hd 3 (by omega)]; rfl
    · rw [List.getElem?_take_eq_none (by omega), List.getElem?_eq_none (by simp; omega)]
  rw [e]
  simp [Sha.word, Sha.num4]
/-- word i of those that the schedule tells -/
def schW (bl : List UInt8) (i : Nat) : Nat := (Sha.wordsOf bl).getD i 0
theorem sched_getD (k m : Nat) (l : List Nat) (i : Nat) (h : i < l.length + k) : (Sha.sched (k + m) l).getD i 0 = (Sha.sched k l).getD i 0 := by
  induction m with
  | zero => rfl
  | succ m ih =>
    rw [← ih]
    show (Sha.next (Sha.sched (k + m) l)).getD i 0 = _
    have hl := Sha.sched_length (k + m) l
    unfold Sha.next
    simp only [List.getD]
    rw [List.getElem?_append_left (by omega)]
theorem schW_word (bl : List UInt8) (j : Nat) (hj : j < 16) : schW bl j = Sha.word bl j := by
  unfold schW Sha.wordsOf
  rw [show (48 : Nat) = 0 + 48 from rfl, sched_getD 0 48 _ _ (by rw [Sha.words_length]; omega)]
  show (Sha.words bl).getD j 0 = _
  simp [Sha.words, List.getD, hj]
theorem schW_next (bl : List UInt8) (i : Nat) (h1 : 16 ≤ i) (h2 : i < 64) : schW bl i = Sha.add (Sha.add (Sha.add (Sha.small1 (schW bl (i - 2))) (schW bl (i - 7))) (Sha.small0 (schW bl (i - 15)))) (schW bl (i - 16)) := by
  have key : ∀ j, j < i → schW bl j = (Sha.sched (i - 16) (Sha.words bl)).getD j 0 := by
    intro j hj
    unfold schW Sha.wordsOf
    rw [show 48 = (i - 16) + (64 - i) by omega, sched_getD _ _ _ _ (by rw [Sha.words_length]; omega)]
  have hl := Sha.sched_length (i - 16) (Sha.words bl)
  rw [Sha.words_length] at hl
  rw [key (i - 2) (by omega), key (i - 7) (by omega), key (i - 15) (by omega), key (i - 16) (by omega)]
  unfold schW Sha.wordsOf
  rw [show 48 = (i - 16 + 1) + (63 - i) by omega, sched_getD _ _ _ _ (by rw [Sha.words_length]; omega)]
  show (Sha.next _).getD i 0 = _
  unfold Sha.next
  simp only [List.getD]
  rw [List.getElem?_append_right (by omega), hl, show 16 + (i - 16) = i by omega, Nat.sub_self]
  rfl
theorem schW_lt (bl : List UInt8) (i : Nat) : schW bl i < 4294967296 := Sha.getD_lt (Sha.wordsOf_lt bl) i
theorem Tryz.info22 : (Tryz.prog.info? 22).map (fun i => (i.zero, i.size, i.bytes)) = some (some (.int .u32 0), 1, 4) := by kernel_rfl
def blkZ : Array Value := (List.replicate 64 (Value.int .u32 0)).toArray
theorem blkZ_zero (w : World) : (zeroValue 74).run Tryz.prog w = .ok (.agg blkZ) w := by kernel_rfl
theorem isAgg_u32 (w : World) : (isAgg 22).run Tryz.prog w = .ok false w := by kernel_rfl
def SchedA (bl : List UInt8) (Z : Array Value) (w : World) (n : Nat) (f : Nat → Nat) (wr : World) : Prop :=
  WAt wr (w.heap.size + 1 + 1) n f ∧ wr.heap[w.heap.size + 1]? = some (.cells Z 74 (0, 0)) ∧ Below w.heap.size w wr
theorem SchedA.store {bl : List UInt8} {Z : Array Value} {w wr : World} {n n' k x : Nat} {f f' : Nat → Nat} (h : SchedA bl Z w n f wr) (hk : k < 64) (hf : ∀ i, i < n' → i = k ∧ f' i = x ∨ i ≠ k ∧ i < n ∧ f' i = f i) :
    SchedA bl Z w n' f' (wr.setCell ⟨w.heap.size + 1 + 1, k, none⟩ (.int .u32 (x : Int))) :=
  ⟨h.1.store hk hf, (heap_setCell_other _ _ _ _ (by show _ ≠ w.heap.size + 1 + 1; omega)).trans h.2.1, h.2.2.setCell (by show w.heap.size ≤ w.heap.size + 1 + 1; omega) _⟩
theorem blkZ_size {Z : Array Value} (hZ : blkZ = Z) : Z.size = 64 := by
  subst hZ
  unfold blkZ
  rw [List.size_toArray, List.length_replicate]
theorem acc_or (a : Nat) (x : UInt8) (h : a < 16777216) : bits .or .u32 ((a : Int) * 256) (x.toNat : Int) = ((a * 256 + x.toNat : Nat) : Int) := by
  have hx := x.toNat_lt
  rw [show (a : Int) * 256 = ((a * 256 : Nat) : Int) by omega, u32_or_nat _ _ (by omega) (by omega), nat_join 8 _ _ (by omega) (by omega)]
theorem same_of {P : Program} {f : FuncId} {args : Array Value} {w : World} {v : Value} (h : Calls P f args w fun e w' => e = .returned v ∧ w = w') : Calls P f args w fun e w' => e = .returned v ∧ w' = w :=
  h.mono fun _ _ ⟨he, hw⟩ => ⟨he, hw.symm⟩
theorem small0_bits (x : Nat) (h : x < 4294967296) : bits .xor .u32 (bits .xor .u32 (Sha.rotr x 7 : Nat) (Sha.rotr x 18 : Nat)) ((x : Int) / 8) = ((Sha.small0 x : Nat) : Int) := by
  rw [show (x : Int) / 8 = ((x / 8 : Nat) : Int) by omega, u32_xor_nat _ _ (Sha.rotr_lt _ _ h) (Sha.rotr_lt _ _ h), u32_xor_nat _ _ (Sha.xor_lt _ _ (Sha.rotr_lt _ _ h) (Sha.rotr_lt _ _ h)) (by omega)]; rfl
theorem small1_bits (x : Nat) (h : x < 4294967296) : bits .xor .u32 (bits .xor .u32 (Sha.rotr x 17 : Nat) (Sha.rotr x 19 : Nat)) ((x : Int) / 1024) = ((Sha.small1 x : Nat) : Int) := by
  rw [show (x : Int) / 1024 = ((x / 1024 : Nat) : Int) by omega, u32_xor_nat _ _ (Sha.rotr_lt _ _ h) (Sha.rotr_lt _ _ h), u32_xor_nat _ _ (Sha.xor_lt _ _ (Sha.rotr_lt _ _ h) (Sha.rotr_lt _ _ h)) (by omega)]; rfl
theorem all_one {cs : Array Value} {n : Nat} {f : Nat → Nat} (hs : cs.size = n) (h : ∀ i, i < n → cs[i]? = some (.int .u32 (f i : Int))) : cs.all (·.oneCell') = true := by
  rw [Array.all_eq_true]
  intro i hi
  have := h i (by omega)
  rw [Array.getElem?_eq_getElem hi] at this
  injection this with this
  rw [this]; rfl
theorem below_setRow {B g : Nat} {w w' : World} (h : Below B w w') (hg : B ≤ g) (cs : Array Value) : Below B w (w'.setRow g cs) :=
  ⟨h.os, h.tape, h.output, by simpa using h.size, fun k hk => (setRow_other w' g k cs (by omega)).trans (h.block k hk)⟩
end Go.Proofs.YtoblapnnpjgpnaaGreatDoor.Sh
namespace Go.Proofs.YtoblapnnpjgpnaaGreatDoor.Sh
open Go.RowKit
/-- cell i of a hasher: its state (f), its block, how many bytes wait, how many there were -/
def hcell (f : Nat → Nat) (bl : List UInt8) (wait : Nat) (tot : Int) (i : Nat) : Value :=
  if i < 8 then .int .u32 (f i : Int)
  else if i < 72 then .int .u8 ((bl.getD (i - 8) 0).toNat : Int)
  else if i = 72 then .int .i64 (wait : Int)
  else .int .u64 tot
section
variable {W W' : World} {g : Nat} {f f' : Nat → Nat} {bl bl' : List UInt8} {wait wait' : Nat} {tot tot' : Int}
end
/-- the program's own tables: block 0 the first state, block 1 the constants -/
def Tab (W : World) : Prop :=
  2 ≤ W.heap.size ∧ (∀ i, i < 8 → W.cell? ⟨0, i, none⟩ = some (.int .u32 (Sha.first.get i : Int))) ∧ (∀ i, i < 64 → W.cell? ⟨1, i, none⟩ = some (.int .u32 (Sha.ks.getD i 0 : Int)))
theorem Tab.keep {W W' : World} (h : Tab W) (hs : W.heap.size ≤ W'.heap.size) (hb : ∀ k, k < 2 → W'.heap[k]? = W.heap[k]?) : Tab W' := by
  refine ⟨by have := h.1; omega, fun i hi => ?_, fun i hi => ?_⟩
  · rw [World.cell?_of_block (hb 0 (by omega))]; exact h.2.1 i hi
  · rw [World.cell?_of_block (hb 1 (by omega))]; exact h.2.2 i hi
theorem Tab.below {W W' : World} {B : Nat} (h : Tab W) (hb : Below B W W') (hB : 2 ≤ B) : Tab W' :=
  h.keep hb.size fun k hk => hb.block k (by omega)
theorem Tab.grown {W W' : World} {g : Nat} (h : Tab W) (hb : W.grownBy W' (some g)) (hg : 2 ≤ g) : Tab W' :=
  h.keep hb.size fun k hk => hb.block k (by have := h.1; omega) (by intro e; injection e; omega)
theorem s8v_size (s : Sha.S8) : (s8v s).size = 8 := rfl
theorem s8v_get (s : Sha.S8) (i : Nat) (h : i < 8) : (s8v s)[i]? = some (.int .u32 (s.get i : Int)) := by
  rcases (by omega : i = 0 ∨ i = 1 ∨ i = 2 ∨ i = 3 ∨ i = 4 ∨ i = 5 ∨ i = 6 ∨ i = 7) with rfl | rfl | rfl | rfl | rfl | rfl | rfl | rfl <;> rfl
theorem cells8 {w : World} {q : Nat} {t : TypeId} {v0 v1 v2 v3 v4 v5 v6 v7 : Value} (h : w.heap[q]? = some (.cells #[v0, v1, v2, v3, v4, v5, v6, v7] t (0, 0))) :
    (w.cell? ⟨q, 0, none⟩ = some v0 ∧ w.cell? ⟨q, 1, none⟩ = some v1 ∧ w.cell? ⟨q, 2, none⟩ = some v2 ∧ w.cell? ⟨q, 3, none⟩ = some v3 ∧ w.cell? ⟨q, 4, none⟩ = some v4 ∧ w.cell? ⟨q, 5, none⟩ = some v5 ∧ w.cell? ⟨q, 6, none⟩ = some v6 ∧ w.cell? ⟨q, 7, none⟩ = some v7) ∧
    (w.frozen? ⟨q, 0, none⟩ = false ∧ w.frozen? ⟨q, 1, none⟩ = false ∧ w.frozen? ⟨q, 2, none⟩ = false ∧ w.frozen? ⟨q, 3, none⟩ = false ∧ w.frozen? ⟨q, 4, none⟩ = false ∧ w.frozen? ⟨q, 5, none⟩ = false ∧ w.frozen? ⟨q, 6, none⟩ = false ∧ w.frozen? ⟨q, 7, none⟩ = false) := by
  refine ⟨⟨?_, ?_, ?_, ?_, ?_, ?_, ?_, ?_⟩, ?_⟩
  iterate 8 (rw [cell_of_row w q _ _ t (0, 0) h]; rfl)
  exact ⟨frozen_of_row w q 0 _ _ h, frozen_of_row w q 1 _ _ h, frozen_of_row w q 2 _ _ h, frozen_of_row w q 3 _ _ h, frozen_of_row w q 4 _ _ h, frozen_of_row w q 5 _ _ h, frozen_of_row w q 6 _ _ h, frozen_of_row w q 7 _ _ h⟩
def MixA (q : Nat) (ws : List Nat) (s : Sha.S8) (k : Nat) (w wr : World) : Prop :=
  wr.heap[q]? = some (.cells (s8v (Sha.rounds ws s k)) 73 (0, 0)) ∧ Below w.heap.size w wr
theorem MixA.next {q k : Nat} {ws : List Nat} {s S : Sha.S8} {w w' : World} {a b c d e f g h : Nat} (hb : Below w.heap.size w w') (hrow : w'.heap[q]? = some (.cells (s8v S) 73 (0, 0))) (hq : w.heap.size ≤ q) (he : Sha.rounds ws s (k + 1) = ⟨a, b, c, d, e, f, g, h⟩) :
    Hid (MixA q ws s (k + 1) w ((((((((w'.setCell ⟨q, 0, none⟩ (.int .u32 (a : Int))).setCell ⟨q, 1, none⟩ (.int .u32 (b : Int))).setCell ⟨q, 2, none⟩ (.int .u32 (c : Int))).setCell ⟨q, 3, none⟩ (.int .u32 (d : Int))).setCell ⟨q, 4, none⟩ (.int .u32 (e : Int))).setCell ⟨q, 5, none⟩ (.int .u32 (f : Int))).setCell ⟨q, 6, none⟩ (.int .u32 (g : Int))).setCell ⟨q, 7, none⟩ (.int .u32 (h : Int)))) := by
  refine ⟨?_, ?_⟩
  · rw [he]; exact set8 hrow _ _ _ _ _ _ _ _
  · exact (((((((hb.setCell hq _).setCell hq _).setCell hq _).setCell hq _).setCell hq _).setCell hq _).setCell hq _).setCell hq _
theorem grown_set (W : World) (g k : Nat) (v : Value) : W.grownBy (W.setCell ⟨g, k, none⟩ v) (some g) :=
  ⟨rfl, rfl, rfl, by simp, fun j _ hj => heap_setCell_other W ⟨g, k, none⟩ j v (fun e => hj (by simp [e]))⟩
def partly (s t : Sha.S8) (k : Nat) (i : Nat) : Nat := if i < k then Sha.add (s.get i) (t.get i) else s.get i
theorem partly_all (s t : Sha.S8) (i : Nat) (h : i < 8) : (Sha.plus s t).get i = partly s t 8 i := by
  unfold partly; rw [if_pos h]
  rcases (by omega : i = 0 ∨ i = 1 ∨ i = 2 ∨ i = 3 ∨ i = 4 ∨ i = 5 ∨ i = 6 ∨ i = 7) with rfl | rfl | rfl | rfl | rfl | rfl | rfl | rfl <;> rfl
end Go.Proofs.YtoblapnnpjgpnaaGreatDoor.Sh
namespace Go.Proofs.YtoblapnnpjgpnaaGreatDoor.Sha
theorem put_part (st : S8) (bl c : List UInt8) (hb : bl.length = 64) (hc : c.length = 64) : ∀ j, j < 64 → (H.mk st bl 0).take (c.take j) = ⟨st, c.take j ++ bl.drop j, j⟩
  | 0, _ => by simp [H.take]
  | j + 1, hj => by
    have ih := put_part st bl c hb hc j (by omega)
    have hx : c.take (j + 1) = c.take j ++ [c[j]'(by omega)] := List.take_succ_eq_append_getElem (by omega)
    rw [hx, take_append, ih]
    show H.put ⟨st, c.take j ++ bl.drop j, j⟩ (c[j]'(by omega)) = _
    unfold H.put
    rw [if_neg (by show ¬ j + 1 = 64; omega)]
    congr 1
    have hl : (c.take j).length = j := by rw [List.length_take]; omega
    show (c.take j ++ bl.drop j).set j (c[j]'(by omega)) = _
    rw [List.set_append_right _ _ (by omega), hl, Nat.sub_self, List.drop_eq_getElem_cons (by omega), List.set_cons_zero, List.append_assoc]
    rfl
theorem put_chunk (st : S8) (bl c : List UInt8) (hb : bl.length = 64) (hc : c.length = 64) : (H.mk st bl 0).take c = ⟨mix st c, c, 0⟩ := by
  have h63 := put_part st bl c hb hc 63 (by omega)
  have hx : c = c.take 63 ++ [c[63]'(by omega)] := by
    have h1 : c.take 64 = c.take 63 ++ [c[63]'(by omega)] := List.take_succ_eq_append_getElem (by omega)
    rw [List.take_of_length_le (by omega)] at h1
    exact h1
  have e : (H.mk st bl 0).take c = ((H.mk st bl 0).take (c.take 63)).put (c[63]'(by omega)) := by
    conv => lhs; rw [hx]
    rw [take_append]; rfl
  rw [e, h63]
  unfold H.put
  rw [if_pos (by show 63 + 1 = 64; rfl)]
  have hl : (c.take 63).length = 63 := by rw [List.length_take]; omega
  have hs : (c.take 63 ++ bl.drop 63).set 63 (c[63]'(by omega)) = c := by
    conv => rhs; rw [hx]
    rw [List.set_append_right _ _ (by omega), hl, Nat.sub_self, List.drop_eq_getElem_cons (by omega), List.set_cons_zero, List.drop_of_length_le (by omega)]
  show H.mk (mix st ((c.take 63 ++ bl.drop 63).set 63 _)) ((c.take 63 ++ bl.drop 63).set 63 _) 0 = _
  rw [hs]
/-- chunk c of a text -/
def chunk (p : List UInt8) (c : Nat) : List UInt8 := (p.drop (64 * c)).take 64
/-- the state behind c chunks -/
def stN (p : List UInt8) : Nat → S8
  | 0 => first
  | c + 1 => mix (stN p c) (chunk p c)
theorem chunk_length (p : List UInt8) (c : Nat) (h : 64 * c + 64 ≤ p.length) : (chunk p c).length = 64 := by
  unfold chunk; rw [List.length_take, List.length_drop]; omega
theorem chunks_take (p : List UInt8) : ∀ c, 64 * c ≤ p.length → ∃ bl : List UInt8, bl.length = 64 ∧ start.take (p.take (64 * c)) = ⟨stN p c, bl, 0⟩
  | 0, _ => ⟨List.replicate 64 0, by simp, rfl⟩
  | c + 1, h => by
    obtain ⟨bl, hb, e⟩ := chunks_take p c (by omega)
    refine ⟨chunk p c, chunk_length p c (by omega), ?_⟩
    rw [show 64 * (c + 1) = 64 * c + 64 by omega, List.take_add, take_append, e]
    exact put_chunk _ _ _ hb (chunk_length p c (by omega))
/-- the text, filled up -/
def filled (l : List UInt8) : List UInt8 := l ++ 0x80 :: List.replicate (noughts (l.length % 64)) 0 ++ len8 (l.length * 8)
theorem filled_length (l : List UInt8) : (filled l).length = 64 * ((l.length + 72) / 64) := by
  unfold filled noughts len8
  simp only [List.length_append, List.length_cons, List.length_replicate, List.length_nil]
  omega
theorem wait_take (l : List UInt8) : ∀ h : H, h.wait < 64 → (h.take l).wait = (h.wait + l.length) % 64 := by
  induction l with
  | nil => intro h hk; show h.wait = _; rw [List.length_nil, Nat.add_zero, Nat.mod_eq_of_lt hk]
  | cons x l ih =>
    intro h hk
    show ((h.put x).take l).wait = _
    have hp := put_wait h x
    rw [ih _ (by rw [hp]; split <;> omega), hp, List.length_cons]
    split <;> omega
theorem D_filled (l : List UInt8) : D l = (stN (filled l) ((l.length + 72) / 64)).bytes := by
  have hw : (start.take l).wait = l.length % 64 := by
    have := wait_take l start (by decide)
    rw [this]
    show (0 + _) % 64 = _
    rw [Nat.zero_add]
  have e : (start.take l).done l.length = start.take (filled l) := by
    unfold H.done filled
    rw [hw, take_append, take_append]
    rfl
  obtain ⟨bl, _, e2⟩ := chunks_take (filled l) ((l.length + 72) / 64) (by rw [filled_length]; exact Nat.le_refl _)
  rw [← filled_length, List.take_of_length_le (Nat.le_refl _)] at e2
  unfold D
  rw [e, e2]
end Go.Proofs.YtoblapnnpjgpnaaGreatDoor.Sha
namespace Go.Proofs.YtoblapnnpjgpnaaGreatDoor.Sh
open Go.RowKit
theorem turn_2 (x : Nat) (w : World) (HX : Hid (x < 4294967296)) : Calls Tryz.prog 35 #[.int .u32 (x : Int), .int .u64 2] w fun e w' => e = .returned (.int .u32 (Sha.rotr x 2 : Nat)) ∧ w = w' := by
  go_enter Tryz.func35, Tryz.ntmps35
  go_wp2_with fail
  go_ret
  refine ⟨?_, rfl⟩
  have hx := HX.out
  rw [show (x : Int) * 1073741824 % 4294967296 = ((x * 1073741824 % 4294967296 : Nat) : Int) by omega, show (x : Int) / 4 = ((x / 4 : Nat) : Int) by omega, u32_or_nat _ _ (by omega) (Nat.mod_lt _ (by decide))]
  rfl
theorem turn_6 (x : Nat) (w : World) (HX : Hid (x < 4294967296)) : Calls Tryz.prog 35 #[.int .u32 (x : Int), .int .u64 6] w fun e w' => e = .returned (.int .u32 (Sha.rotr x 6 : Nat)) ∧ w = w' := by
  go_enter Tryz.func35, Tryz.ntmps35
  go_wp2_with fail
  go_ret
  refine ⟨?_, rfl⟩
  have hx := HX.out
  rw [show (x : Int) * 67108864 % 4294967296 = ((x * 67108864 % 4294967296 : Nat) : Int) by omega, show (x : Int) / 64 = ((x / 64 : Nat) : Int) by omega, u32_or_nat _ _ (by omega) (Nat.mod_lt _ (by decide))]
  rfl
theorem turn_7 (x : Nat) (w : World) (HX : Hid (x < 4294967296)) : Calls Tryz.prog 35 #[.int .u32 (x : Int), .int .u64 7] w fun e w' => e = .returned (.int .u32 (Sha.rotr x 7 : Nat)) ∧ w = w' := by
  go_enter Tryz.func35, Tryz.ntmps35
  go_wp2_with fail
  go_ret
  refine ⟨?_, rfl⟩
  have hx := HX.out
  rw [show (x : Int) * 33554432 % 4294967296 = ((x * 33554432 % 4294967296 : Nat) : Int) by omega, show (x : Int) / 128 = ((x / 128 : Nat) : Int) by omega, u32_or_nat _ _ (by omega) (Nat.mod_lt _ (by decide))]
  rfl
theorem turn_11 (x : Nat) (w : World) (HX : Hid (x < 4294967296)) : Calls Tryz.prog 35 #[.int .u32 (x : Int), .int .u64 11] w fun e w' => e = .returned (.int .u32 (Sha.rotr x 11 : Nat)) ∧ w = w' := by
  go_enter Tryz.func35, Tryz.ntmps35
  go_wp2_with fail
  go_ret
  refine ⟨?_, rfl⟩
  have hx := HX.out
  rw [show (x : Int) * 2097152 % 4294967296 = ((x * 2097152 % 4294967296 : Nat) : Int) by omega, show (x : Int) / 2048 = ((x / 2048 : Nat) : Int) by omega, u32_or_nat _ _ (by omega) (Nat.mod_lt _ (by decide))]
  rfl
theorem turn_13 (x : Nat) (w : World) (HX : Hid (x < 4294967296)) : Calls Tryz.prog 35 #[.int .u32 (x : Int), .int .u64 13] w fun e w' => e = .returned (.int .u32 (Sha.rotr x 13 : Nat)) ∧ w = w' := by
  go_enter Tryz.func35, Tryz.ntmps35
  go_wp2_with fail
  go_ret
  refine ⟨?_, rfl⟩
  have hx := HX.out
  rw [show (x : Int) * 524288 % 4294967296 = ((x * 524288 % 4294967296 : Nat) : Int) by omega, show (x : Int) / 8192 = ((x / 8192 : Nat) : Int) by omega, u32_or_nat _ _ (by omega) (Nat.mod_lt _ (by decide))]
  rfl
theorem turn_17 (x : Nat) (w : World) (HX : Hid (x < 4294967296)) : Calls Tryz.prog 35 #[.int .u32 (x : Int), .int .u64 17] w fun e w' => e = .returned (.int .u32 (Sha.rotr x 17 : Nat)) ∧ w = w' := by
  go_enter Tryz.func35, Tryz.ntmps35
  go_wp2_with fail
  go_ret
  refine ⟨?_, rfl⟩
  have hx := HX.out
  rw [show (x : Int) * 32768 % 4294967296 = ((x * 32768 % 4294967296 : Nat) : Int) by omega, show (x : Int) / 131072 = ((x / 131072 : Nat) : Int) by omega, u32_or_nat _ _ (by omega) (Nat.mod_lt _ (by decide))]
  rfl
theorem turn_18 (x : Nat) (w : World) (HX : Hid (x < 4294967296)) : Calls Tryz.prog 35 #[.int .u32 (x : Int), .int .u64 18] w fun e w' => e = .returned (.int .u32 (Sha.rotr x 18 : Nat)) ∧ w = w' := by
  go_enter Tryz.func35, Tryz.ntmps35
  go_wp2_with fail
  go_ret
  refine ⟨?_, rfl⟩
  have hx := HX.out
  rw [show (x : Int) * 16384 % 4294967296 = ((x * 16384 % 4294967296 : Nat) : Int) by omega, show (x : Int) / 262144 = ((x / 262144 : Nat) : Int) by omega, u32_or_nat _ _ (by omega) (Nat.mod_lt _ (by decide))]
  rfl
theorem turn_19 (x : Nat) (w : World) (HX : Hid (x < 4294967296)) : Calls Tryz.prog 35 #[.int .u32 (x : Int), .int .u64 19] w fun e w' => e = .returned (.int .u32 (Sha.rotr x 19 : Nat)) ∧ w = w' := by
  go_enter Tryz.func35, Tryz.ntmps35
  go_wp2_with fail
  go_ret
  refine ⟨?_, rfl⟩
  have hx := HX.out
  rw [show (x : Int) * 8192 % 4294967296 = ((x * 8192 % 4294967296 : Nat) : Int) by omega, show (x : Int) / 524288 = ((x / 524288 : Nat) : Int) by omega, u32_or_nat _ _ (by omega) (Nat.mod_lt _ (by decide))]
  rfl
theorem turn_22 (x : Nat) (w : World) (HX : Hid (x < 4294967296)) : Calls Tryz.prog 35 #[.int .u32 (x : Int), .int .u64 22] w fun e w' => e = .returned (.int .u32 (Sha.rotr x 22 : Nat)) ∧ w = w' := by
  go_enter Tryz.func35, Tryz.ntmps35
  go_wp2_with fail
  go_ret
  refine ⟨?_, rfl⟩
  have hx := HX.out
  rw [show (x : Int) * 1024 % 4294967296 = ((x * 1024 % 4294967296 : Nat) : Int) by omega, show (x : Int) / 4194304 = ((x / 4194304 : Nat) : Int) by omega, u32_or_nat _ _ (by omega) (Nat.mod_lt _ (by decide))]
  rfl
theorem turn_25 (x : Nat) (w : World) (HX : Hid (x < 4294967296)) : Calls Tryz.prog 35 #[.int .u32 (x : Int), .int .u64 25] w fun e w' => e = .returned (.int .u32 (Sha.rotr x 25 : Nat)) ∧ w = w' := by
  go_enter Tryz.func35, Tryz.ntmps35
  go_wp2_with fail
  go_ret
  refine ⟨?_, rfl⟩
  have hx := HX.out
  rw [show (x : Int) * 128 % 4294967296 = ((x * 128 % 4294967296 : Nat) : Int) by omega, show (x : Int) / 33554432 = ((x / 33554432 : Nat) : Int) by omega, u32_or_nat _ _ (by omega) (Nat.mod_lt _ (by decide))]
  rfl
def TabOk (w : World) (e : Ending) (w' : World) : Prop := ∃ cs : Array Value, e = .returned (.agg cs) ∧ Hid (cs.size = 64) ∧ Hid (∀ i, i < 64 → cs[i]? = some (.int .u32 (Sha.ks.getD i 0 : Int))) ∧ Hid (Below w.heap.size w w')
theorem wpList_build2 {P : Program} {ops : Array Oper} {rest : List Oper} {o : Oper} {a : Act} {w : World} {Q : Exit → Act → World → Prop} (hg : o.guard = none) (t : TypeId) (parts : Array (Nat × Operand)) (ho : o.op = .build t parts) (cells : Array Value)
    (hf : P.built t (parts.map fun (i, x) => (i, a.eval x)).toList = some cells)
    (h : wpList P ops Q rest (a.put o.dst (.agg cells)) w) : wpList P ops Q (o :: rest) a w :=
  wpList_build hg t parts ho (by rw [hf]; rfl) (by rw [hf]; exact h)
def ksA : Array Value := (Sha.ks.map fun k : Nat => Value.int .u32 (k : Int)).toArray
theorem ksA_size : ksA.size = 64 := by kernel_rfl
theorem ksA_at (i : Nat) (hi : i < 64) : ksA[i]? = some (.int .u32 (Sha.ks.getD i 0 : Int)) := by
  unfold ksA
  rw [List.getElem?_toArray, List.getElem?_map, List.getD_eq_getElem?_getD, List.getElem?_eq_getElem (show i < Sha.ks.length from hi)]; rfl
set_option maxRecDepth 100000 in
theorem table_any (w : World) : Calls Tryz.prog 32 #[] w (TabOk w) := by
  obtain ⟨Z, hZ⟩ : ∃ Z, blkZ = Z := ⟨_, rfl⟩
  have hz : ∀ w' : World, (zeroValue 74).run Tryz.prog w' = .ok (.agg Z) w' := fun w' => by rw [← hZ]; exact blkZ_zero w'
  have HZ := Lib.hid hZ
  clear hZ
  obtain ⟨cs, hcs⟩ : ∃ cs, ksA = cs := ⟨_, rfl⟩
  have HCS : Hid (cs.size = 64) := by rw [← hcs]; exact Lib.hid ksA_size
  have HCC : Hid (∀ i, i < 64 → cs[i]? = some (.int .u32 (Sha.ks.getD i 0 : Int))) := by rw [← hcs]; exact Lib.hid ksA_at
  have HE := Lib.hid hcs
  have B1 := Lib.hid (heap_alloc_new w (.cells Z 74))
  clear hcs
  go_enter Tryz.func32, Tryz.ntmps32
  go_wp2_with (first
    | (refine wpList_build2 rfl 74 _ rfl cs (by rw [← HE.out]; kernel_rfl) ?_)
    | (refine wpList_store_row rfl _ (.tmp 0) (.tmp 1) rfl w.heap.size cs rfl rfl _ _ B1.out (by rw [HCS.out]; kernel_rfl) (by rw [HCS.out, blkZ_size HZ.out]) (all_one HCS.out HCC.out) ?_; rw [World.setRow_alloc_new]))
  refine bodyPost_ret (results_cell_row rfl _ _ w.heap.size _ cs (0, 0) _ rfl (heap_alloc_new w (.cells cs 74)) Tryz.underlying74 rfl (by rw [HCS.out]; kernel_rfl)) rfl ?_
  exact ⟨cs, rfl, HCS, HCC, Lib.hid ((Below.refl _ _).alloc (Nat.le_refl _) _)⟩
def f4 (l : List UInt8) : Nat := l.foldl (fun a x => a * 256 + x.toNat) 0
theorem f4_next (l : List UInt8) (k : Nat) (h : k < l.length) : f4 (l.take (k + 1)) = f4 (l.take k) * 256 + (l.getD k 0).toNat := by
  unfold f4
  rw [List.take_succ_eq_append_getElem h, List.foldl_append]
  simp [List.getD, h]
set_option maxRecDepth 100000 in
set_option maxHeartbeats 800000 in
theorem number_any (B c : Nat) (A : Option Addr) (l : List UInt8) (w : World) (hr : Row w B A 4 (bv l)) : Calls Tryz.prog 34 #[.slice A 4 c] w fun e w' => e = .returned (.int .u32 (f4 l : Nat)) ∧ w = w' := by
  have HR := Lib.hid hr
  have HL := Lib.hid hr.blen
  clear hr
  go_enter Tryz.func34, Tryz.ntmps34
  go_wp2_with fail
  go_loop [3, 8] (fun v i => ∃ k : Nat, k ≤ 4 ∧ i = .int .i64 k ∧ v = .int .u32 (f4 (l.take k) : Nat)) (fun _ i => 4 - (intOf i).toNat)
  case atStart => exact ⟨0, by omega, rfl, rfl⟩
  case round =>
    obtain ⟨k, hk, rfl, rfl⟩ := hrel
    by_cases hlt : k < 4
    · obtain ⟨b, o, rfl, _, hl, hcell⟩ := HR.out.byteAt hlt
      have e3 : l[k] = l.getD k 0 := by rw [List.getD_eq_getElem?_getD, List.getElem?_eq_getElem hl]; rfl
      rw [e3] at hcell
      have hnx := f4_next l k hl
      have hb : f4 (l.take k) < 16777216 := by
        have h1 := fold4_lt (l.take k) 3 (by rw [List.length_take]; omega)
        exact h1
      have HO := Lib.hid (acc_or (f4 (l.take k)) (l.getD k 0) hb)
      have hxb : ((l.getD k 0).toNat : Int) ≤ 255 := by have := (l.getD k 0).toNat_lt; omega
      have HN := Lib.hid hnx
      clear hnx e3 hl
      generalize f4 (l.take k) = a at *
      generalize l.getD k 0 = x at *
      go_wp2_with fail
      go_round
      case rel => exact ⟨k + 1, by omega, by go_num, by rw [HO.out, HN.out]⟩
      case measure => simp [intOf]; omega
    · obtain rfl : 4 = k := by omega
      rw [List.take_of_length_le (by rw [HL.out]; omega)]
      go_wp2_with fail
      go_ret
      exact ⟨rfl, rfl⟩
theorem f4_word (X : List UInt8) (c k : Nat) (hk : k < 16) (hX : 64 * c + 64 ≤ X.length) : f4 ((X.drop (64 * c + 4 * k)).take 4) = schW (Sha.chunk X c) k := by
  rw [schW_word _ k hk, ← accW_word (Sha.chunk X c) k (Sha.chunk_length X c hX) hk]
  unfold f4 accW Sha.chunk
  rw [show min 4 (64 - 4 * k) = 4 by omega, List.drop_take, List.take_take, List.drop_drop, show min 4 (64 - 4 * k) = 4 by omega]
end Go.Proofs.YtoblapnnpjgpnaaGreatDoor.Sh
namespace Go.Proofs.YtoblapnnpjgpnaaGreatDoor.Sh
open Go.RowKit
theorem take_snoc (l : List UInt8) (k : Nat) (h : k < l.length) : l.take (k + 1) = l.take k ++ [l.getD k 0] := by
  rw [List.take_succ_eq_append_getElem h, List.getD_eq_getElem?_getD, List.getElem?_eq_getElem h]; rfl
theorem put_take (h : Sha.H) (l : List UInt8) (k : Nat) (hk : k < l.length) : h.take (l.take (k + 1)) = (h.take (l.take k)).put (l.getD k 0) := by
  rw [take_snoc l k hk, Sha.take_append]; rfl
end Go.Proofs.YtoblapnnpjgpnaaGreatDoor.Sh
namespace Go.Proofs.YtoblapnnpjgpnaaGreatDoor.Sh
open Go.RowKit
def bytesK (s : Sha.S8) : Nat → List UInt8
  | 0 => []
  | k + 1 => bytesK s k ++ Sha.four (s.get k)
theorem bytesK_all (s : Sha.S8) : bytesK s 8 = s.bytes := by
  simp [bytesK, Sha.S8.bytes, Sha.S8.get]
def sh (k : Nat) : Int := match k with
  | 0 => 56 | 1 => 48 | 2 => 40 | 3 => 32 | 4 => 24 | 5 => 16 | 6 => 8 | 7 => 0 | _ => -8
end Go.Proofs.YtoblapnnpjgpnaaGreatDoor.Sh
