/- boot.own: by contract. -/
import Derived.Deep.WholeRow
import Derived.Test.YtcgcmfhidolohaaDoorNewerQ
import Derived.Test.YtcgcmfhidolohaaDoorZA
namespace Go.Proofs.YtcgcmfhidolohaaDoor
open Go.RowKit
/-- as Row; it lies neither in block g nor in the one behind it; f: it lies behind both -/
def RowX (w : World) (g : Nat) (f : Bool) (A : Option Addr) (n : Nat) (xs : List Value) : Prop :=
  xs.length = n ∧ (0 < n → ∃ b o, A = some ⟨b, o, none⟩ ∧ b < w.heap.size ∧ b ≠ g ∧ b ≠ g + 1 ∧ (f = true → g + 1 < b) ∧ ∀ j v, xs[j]? = some v → w.cell? ⟨b, o + j, none⟩ = some v)
/-- as Row; its block is one of those from B on -/
def RowF (w : World) (B : Nat) (A : Option Addr) (n : Nat) (xs : List Value) : Prop :=
  xs.length = n ∧ (0 < n → ∃ b o, A = some ⟨b, o, none⟩ ∧ b < w.heap.size ∧ B ≤ b ∧ ∀ j v, xs[j]? = some v → w.cell? ⟨b, o + j, none⟩ = some v)
section
variable {w w' : World} {g n B : Nat} {f : Bool} {A : Option Addr} {xs : List Value}
theorem RowF.row (h : RowF w B A n xs) : Row w w.heap.size A n xs :=
  ⟨h.1, fun hn => by obtain ⟨b, o, e, hb, _, hc⟩ := h.2 hn; exact ⟨b, o, e, hb, hc⟩⟩
theorem RowF.keep (h : RowF w B A n xs) (hs : w.heap.size ≤ w'.heap.size) (hk : ∀ b, B ≤ b → b < w.heap.size → w'.heap[b]? = w.heap[b]?) : RowF w' B A n xs :=
  ⟨h.1, fun hn => by
    obtain ⟨b, o, e, hlt, h1, hc⟩ := h.2 hn
    exact ⟨b, o, e, Nat.lt_of_lt_of_le hlt hs, h1, fun j v hv => (World.cell?_of_block (a := ⟨b, o + j, none⟩) (hk b h1 hlt)).trans (hc j v hv)⟩⟩
theorem RowF.less {B' : Nat} (h : RowF w B A n xs) (hB : B' ≤ B) : RowF w B' A n xs :=
  ⟨h.1, fun hn => by obtain ⟨b, o, e, hb, h1, hc⟩ := h.2 hn; exact ⟨b, o, e, hb, Nat.le_trans hB h1, hc⟩⟩
theorem RowX.row (h : RowX w g f A n xs) : Row w w.heap.size A n xs :=
  ⟨h.1, fun hn => by obtain ⟨b, o, e, hb, _, _, _, hc⟩ := h.2 hn; exact ⟨b, o, e, hb, hc⟩⟩
theorem RowX.rowF (h : RowX w g true A n xs) : RowF w g A n xs :=
  ⟨h.1, fun hn => by obtain ⟨b, o, e, hb, _, _, hf, hc⟩ := h.2 hn; exact ⟨b, o, e, hb, by have := hf rfl; omega, hc⟩⟩
theorem RowX.of_row {B : Nat} (h : Row w B A n xs) (hB : B ≤ g) (hs : B ≤ w.heap.size) : RowX w g false A n xs :=
  ⟨h.1, fun hn => by obtain ⟨b, o, e, hb, hc⟩ := h.2 hn; exact ⟨b, o, e, by omega, by omega, by omega, by simp, hc⟩⟩
theorem RowX.of_own {base c : Nat} {e : TypeId} (h : w.ownsRow base e 1 (.slice A n c) n xs) (hb : g + 1 < base) : RowX w g f A n xs := by
  refine ⟨(Row.of_own h).1, fun hn => ?_⟩
  obtain ⟨b, o, ee, hlt, hc⟩ := (Row.of_own h).2 hn
  have := (h.lt b (by rw [ee]; rfl)).1
  exact ⟨b, o, ee, hlt, by omega, by omega, fun _ => by omega, hc⟩
theorem RowX.below (h : RowX w g f A n xs) (hb : Below w.heap.size w w') : RowX w' g f A n xs :=
  ⟨h.1, fun hn => by
    obtain ⟨b, o, e, hlt, h1, h2, h3, hc⟩ := h.2 hn
    exact ⟨b, o, e, Nat.lt_of_lt_of_le hlt hb.size, h1, h2, h3, fun j v hv => (hb.cell (p := ⟨b, o + j, none⟩) hlt).trans (hc j v hv)⟩⟩
theorem RowX.keep (h : RowX w g f A n xs) (hs : w.heap.size ≤ w'.heap.size) (hk : ∀ b, b ≠ g → b ≠ g + 1 → w'.heap[b]? = w.heap[b]?) : RowX w' g f A n xs :=
  ⟨h.1, fun hn => by
    obtain ⟨b, o, e, hlt, h1, h2, h3, hc⟩ := h.2 hn
    exact ⟨b, o, e, Nat.lt_of_lt_of_le hlt hs, h1, h2, h3, fun j v hv => (World.cell?_of_block (a := ⟨b, o + j, none⟩) (hk b h1 h2)).trans (hc j v hv)⟩⟩
theorem RowX.setG (h : RowX w g f A n xs) (i : Nat) (u : Value) : RowX (w.setCell ⟨g, i, none⟩ u) g f A n xs :=
  h.keep (by simp) fun b h1 _ => heap_setCell_other w ⟨g, i, none⟩ b u h1
theorem RowX.set2 (h : RowX w g f A n xs) (cs : Array Value) : RowX (w.setRow (g + 1) cs) g f A n xs :=
  h.keep (by simp) fun b _ h2 => setRow_other w (g + 1) b cs h2
end
/-- a state of these fields is told -/
def StRet (act trial : Int) (flo gen v0 : Nat) (l0 : Int) (n0 : Nat) (v1 : Nat) (l1 : Int) (n1 : Nat) (on : Bool) (s v : Nat) (l z p : Int) (n : Nat) (h0 h1 h : List UInt8) (w : World) (e : Ending) (w' : World) : Prop :=
  ∃ A0' c0' A1' c1' A' c', e = .returned (.agg #[.int .i64 act, .int .i64 trial, .int .u32 (flo : Int), .int .u32 (gen : Int), .int .u32 (v0 : Int), .int .i64 l0, .slice A0' n0 c0', .int .u32 (v1 : Int), .int .i64 l1, .slice A1' n1 c1', .bool on, .int .u32 (s : Int), .int .u32 (v : Int), .int .i64 l, .int .i64 z, .int .i64 p, .slice A' n c']) ∧ Hid (RowF w' w.heap.size A0' n0 (bv h0)) ∧ Hid (RowF w' w.heap.size A1' n1 (bv h1)) ∧ Hid (RowF w' w.heap.size A' n (bv h)) ∧ Hid (Below w.heap.size w w')
def zState : Array Value := #[.int .i64 0, .int .i64 0, .int .u32 0, .int .u32 0, .int .u32 0, .int .i64 0, .slice none 0 0, .int .u32 0, .int .i64 0, .slice none 0 0, .bool false, .int .u32 0, .int .u32 0, .int .i64 0, .int .i64 0, .int .i64 0, .slice none 0 0]
theorem below_setRow2 {B g : Nat} {w w' : World} (h : Below B w w') (hg : B ≤ g) (cs : Array Value) : Below B w (w'.setRow g cs) :=
  ⟨h.os, h.tape, h.output, by simpa using h.size, fun k hk => (setRow_other w' g k cs (by omega)).trans (h.block k hk)⟩
end Go.Proofs.YtcgcmfhidolohaaDoor
