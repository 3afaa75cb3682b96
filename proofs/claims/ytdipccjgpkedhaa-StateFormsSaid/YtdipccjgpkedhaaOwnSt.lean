/- boot.own: by contract. -/
import Derived.Test.YtdipccjgpkedhaaNewer
import Derived.Test.YtdipccjgpkedhaaClone
import Derived.Deep.WholeRow
namespace Go.Proofs.Ytdipccjgpkedhaa
open Go.RowKit
/-- as Row; it lies neither in block g nor in the one behind it; f: it lies behind both -/
def RowX (w : World) (g : Nat) (f : Bool) (A : Option Addr) (n : Nat) (xs : List Value) : Prop :=
  xs.length = n ∧ (0 < n → ∃ b o, A = some ⟨b, o, none⟩ ∧ b < w.heap.size ∧ b ≠ g ∧ b ≠ g + 1 ∧ (f = true → g + 1 < b) ∧ ∀ j v, xs[j]? = some v → w.cell? ⟨b, o + j, none⟩ = some v)
/-- as Row; its block is one of those from B on -/
def RowF (w : World) (B : Nat) (A : Option Addr) (n : Nat) (xs : List Value) : Prop :=
  xs.length = n ∧ (0 < n → ∃ b o, A = some ⟨b, o, none⟩ ∧ b < w.heap.size ∧ B ≤ b ∧ ∀ j v, xs[j]? = some v → w.cell? ⟨b, o + j, none⟩ = some v)
section
variable {w w' : World} {g n B : Nat} {f : Bool} {A : Option Addr} {xs : List Value}
theorem RowF.row (h : RowF w B A n xs) : Row w w.heap.size A n xs :=
  ⟨h.1, fun hn => by obtain ⟨b, o, e, hb, _, hc⟩ := h.2 hn; exact ⟨b, o, e, hb, hc⟩⟩
theorem RowF.keep (h : RowF w B A n xs) (hs : w.heap.size ≤ w'.heap.size) (hk : ∀ b, B ≤ b → b < w.heap.size → w'.heap[b]? = w.heap[b]?) : RowF w' B A n xs :=
  ⟨h.1, fun hn => by
    obtain ⟨b, o, e, hlt, h1, hc⟩ := h.2 hn
    exact ⟨b, o, e, Nat.lt_of_lt_of_le hlt hs, h1, fun j v hv => (World.cell?_of_block (a := ⟨b, o + j, none⟩) (hk b h1 hlt)).trans (hc j v hv)⟩⟩
theorem RowF.less {B' : Nat} (h : RowF w B A n xs) (hB : B' ≤ B) : RowF w B' A n xs :=
  ⟨h.1, fun hn => by obtain ⟨b, o, e, hb, h1, hc⟩ := h.2 hn; exact ⟨b, o, e, hb, Nat.le_trans hB h1, hc⟩⟩
theorem RowX.row (h : RowX w g f A n xs) : Row w w.heap.size A n xs :=
  ⟨h.1, fun hn => by obtain ⟨b, o, e, hb, _, _, _, hc⟩ := h.2 hn; exact ⟨b, o, e, hb, hc⟩⟩
theorem RowX.rowF (h : RowX w g true A n xs) : RowF w g A n xs :=
  ⟨h.1, fun hn => by obtain ⟨b, o, e, hb, _, _, hf, hc⟩ := h.2 hn; exact ⟨b, o, e, hb, by have := hf rfl; omega, hc⟩⟩
theorem RowX.of_row {B : Nat} (h : Row w B A n xs) (hB : B ≤ g) (hs : B ≤ w.heap.size) : RowX w g false A n xs :=
  ⟨h.1, fun hn => by obtain ⟨b, o, e, hb, hc⟩ := h.2 hn; exact ⟨b, o, e, by omega, by omega, by omega, by simp, hc⟩⟩
theorem RowX.of_own {base c : Nat} {e : TypeId} (h : w.ownsRow base e 1 (.slice A n c) n xs) (hb : g + 1 < base) : RowX w g f A n xs := by
  refine ⟨(Row.of_own h).1, fun hn => ?_⟩
  obtain ⟨b, o, ee, hlt, hc⟩ := (Row.of_own h).2 hn
  have := (h.lt b (by rw [ee]; rfl)).1
  exact ⟨b, o, ee, hlt, by omega, by omega, fun _ => by omega, hc⟩
theorem RowX.below (h : RowX w g f A n xs) (hb : Below w.heap.size w w') : RowX w' g f A n xs :=
  ⟨h.1, fun hn => by
    obtain ⟨b, o, e, hlt, h1, h2, h3, hc⟩ := h.2 hn
    exact ⟨b, o, e, Nat.lt_of_lt_of_le hlt hb.size, h1, h2, h3, fun j v hv => (hb.cell (p := ⟨b, o + j, none⟩) hlt).trans (hc j v hv)⟩⟩
theorem RowX.keep (h : RowX w g f A n xs) (hs : w.heap.size ≤ w'.heap.size) (hk : ∀ b, b ≠ g → b ≠ g + 1 → w'.heap[b]? = w.heap[b]?) : RowX w' g f A n xs :=
  ⟨h.1, fun hn => by
    obtain ⟨b, o, e, hlt, h1, h2, h3, hc⟩ := h.2 hn
    exact ⟨b, o, e, Nat.lt_of_lt_of_le hlt hs, h1, h2, h3, fun j v hv => (World.cell?_of_block (a := ⟨b, o + j, none⟩) (hk b h1 h2)).trans (hc j v hv)⟩⟩
theorem RowX.setG (h : RowX w g f A n xs) (i : Nat) (u : Value) : RowX (w.setCell ⟨g, i, none⟩ u) g f A n xs :=
  h.keep (by simp) fun b h1 _ => heap_setCell_other w ⟨g, i, none⟩ b u h1
theorem RowX.set2 (h : RowX w g f A n xs) (cs : Array Value) : RowX (w.setRow (g + 1) cs) g f A n xs :=
  h.keep (by simp) fun b _ h2 => setRow_other w (g + 1) b cs h2
end
/-- a state of these fields lies in block g, its bytes somewhere -/
def StBox (g k : Nat) (act trial : Int) (flo gen v0 : Nat) (l0 : Int) (n0 : Nat) (v1 : Nat) (l1 : Int) (n1 : Nat) (on : Bool) (s v : Nat) (l z p : Int) (n : Nat) (h0 h1 h : List UInt8) (w : World) : Prop :=
  ∃ A0' c0' A1' c1' A' c', w.heap[g]? = some (.cells #[.int .i64 act, .int .i64 trial, .int .u32 (flo : Int), .int .u32 (gen : Int), .int .u32 (v0 : Int), .int .i64 l0, .slice A0' n0 c0', .int .u32 (v1 : Int), .int .i64 l1, .slice A1' n1 c1', .bool on, .int .u32 (s : Int), .int .u32 (v : Int), .int .i64 l, .int .i64 z, .int .i64 p, .slice A' n c'] 30 (0, 0)) ∧ RowX w g (decide (0 < k)) A0' n0 (bv h0) ∧ RowX w g (decide (1 < k)) A1' n1 (bv h1) ∧ RowX w g false A' n (bv h)
/-- a state of these fields is told -/
def StRet (act trial : Int) (flo gen v0 : Nat) (l0 : Int) (n0 : Nat) (v1 : Nat) (l1 : Int) (n1 : Nat) (on : Bool) (s v : Nat) (l z p : Int) (n : Nat) (h0 h1 h : List UInt8) (w : World) (e : Ending) (w' : World) : Prop :=
  ∃ A0' c0' A1' c1' A' c', e = .returned (.agg #[.int .i64 act, .int .i64 trial, .int .u32 (flo : Int), .int .u32 (gen : Int), .int .u32 (v0 : Int), .int .i64 l0, .slice A0' n0 c0', .int .u32 (v1 : Int), .int .i64 l1, .slice A1' n1 c1', .bool on, .int .u32 (s : Int), .int .u32 (v : Int), .int .i64 l, .int .i64 z, .int .i64 p, .slice A' n c']) ∧ Hid (RowF w' w.heap.size A0' n0 (bv h0)) ∧ Hid (RowF w' w.heap.size A1' n1 (bv h1)) ∧ Hid (RowF w' w.heap.size A' n (bv h)) ∧ Hid (Below w.heap.size w w')
def zState : Array Value := #[.int .i64 0, .int .i64 0, .int .u32 0, .int .u32 0, .int .u32 0, .int .i64 0, .slice none 0 0, .int .u32 0, .int .i64 0, .slice none 0 0, .bool false, .int .u32 0, .int .u32 0, .int .i64 0, .int .i64 0, .int .i64 0, .slice none 0 0]
theorem below_setRow2 {B g : Nat} {w w' : World} (h : Below B w w') (hg : B ≤ g) (cs : Array Value) : Below B w (w'.setRow g cs) :=
  ⟨h.os, h.tape, h.output, by simpa using h.size, fun k hk => (setRow_other w' g k cs (by omega)).trans (h.block k hk)⟩
def OwnA (k : Nat) (act trial : Int) (flo gen v0 : Nat) (l0 : Int) (n0 : Nat) (v1 : Nat) (l1 : Int) (n1 : Nat) (on : Bool) (s v : Nat) (l z p : Int) (n : Nat) (h0 h1 h : List UInt8) (w wr : World) : Prop := StBox w.heap.size k act trial flo gen v0 l0 n0 v1 l1 n1 on s v l z p n h0 h1 h wr ∧ wr.heap[w.heap.size + 1]? = some (.cells zState 30 (0, 0)) ∧ Below w.heap.size w wr
set_option maxRecDepth 100000 in
set_option maxHeartbeats 1600000 in
theorem own_any (act trial : Int) (flo gen v0 : Nat) (l0 : Int) (A0 : Option Addr) (n0 c0 : Nat) (v1 : Nat) (l1 : Int) (A1 : Option Addr) (n1 c1 : Nat) (on : Bool) (s v : Nat) (l z p : Int) (A : Option Addr) (n c B : Nat) (h0 h1 h : List UInt8) (w : World) (hl0 : Row w B A0 n0 (bv h0)) (hl1 : Row w B A1 n1 (bv h1)) (hl : Row w B A n (bv h)) (hB : B ≤ w.heap.size) (hn0 : n0 ≤ 1000000000) (hn1 : n1 ≤ 1000000000) (hn : n ≤ 1000000000) :
    Calls Try.prog 54 #[.agg #[.int .i64 act, .int .i64 trial, .int .u32 (flo : Int), .int .u32 (gen : Int), .int .u32 (v0 : Int), .int .i64 l0, .slice A0 n0 c0, .int .u32 (v1 : Int), .int .i64 l1, .slice A1 n1 c1, .bool on, .int .u32 (s : Int), .int .u32 (v : Int), .int .i64 l, .int .i64 z, .int .i64 p, .slice A n c]] w (StRet act trial flo gen v0 l0 n0 v1 l1 n1 on s v l z p n h0 h1 h w) := by
  have HX := Lib.hid (heap_alloc2_old w (.cells #[.int .i64 act, .int .i64 trial, .int .u32 (flo : Int), .int .u32 (gen : Int), .int .u32 (v0 : Int), .int .i64 l0, .slice A0 n0 c0, .int .u32 (v1 : Int), .int .i64 l1, .slice A1 n1 c1, .bool on, .int .u32 (s : Int), .int .u32 (v : Int), .int .i64 l, .int .i64 z, .int .i64 p, .slice A n c] 30) (.cells zState 30))
  have HY := Lib.hid (heap_alloc2_new w (.cells #[.int .i64 act, .int .i64 trial, .int .u32 (flo : Int), .int .u32 (gen : Int), .int .u32 (v0 : Int), .int .i64 l0, .slice A0 n0 c0, .int .u32 (v1 : Int), .int .i64 l1, .slice A1 n1 c1, .bool on, .int .u32 (s : Int), .int .u32 (v : Int), .int .i64 l, .int .i64 z, .int .i64 p, .slice A n c] 30) (.cells zState 30))
  have hA0 : Hid (OwnA 0 act trial flo gen v0 l0 n0 v1 l1 n1 on s v l z p n h0 h1 h w ((w.alloc (.cells #[.int .i64 act, .int .i64 trial, .int .u32 (flo : Int), .int .u32 (gen : Int), .int .u32 (v0 : Int), .int .i64 l0, .slice A0 n0 c0, .int .u32 (v1 : Int), .int .i64 l1, .slice A1 n1 c1, .bool on, .int .u32 (s : Int), .int .u32 (v : Int), .int .i64 l, .int .i64 z, .int .i64 p, .slice A n c] 30)).alloc (.cells zState 30))) := by
    have hb : Below w.heap.size w ((w.alloc (.cells #[.int .i64 act, .int .i64 trial, .int .u32 (flo : Int), .int .u32 (gen : Int), .int .u32 (v0 : Int), .int .i64 l0, .slice A0 n0 c0, .int .u32 (v1 : Int), .int .i64 l1, .slice A1 n1 c1, .bool on, .int .u32 (s : Int), .int .u32 (v : Int), .int .i64 l, .int .i64 z, .int .i64 p, .slice A n c] 30)).alloc (.cells zState 30)) := ((Below.refl _ _).alloc (Nat.le_refl _) _).alloc (by simp) _
    have hz : B ≤ ((w.alloc (.cells #[.int .i64 act, .int .i64 trial, .int .u32 (flo : Int), .int .u32 (gen : Int), .int .u32 (v0 : Int), .int .i64 l0, .slice A0 n0 c0, .int .u32 (v1 : Int), .int .i64 l1, .slice A1 n1 c1, .bool on, .int .u32 (s : Int), .int .u32 (v : Int), .int .i64 l, .int .i64 z, .int .i64 p, .slice A n c] 30)).alloc (.cells zState 30)).heap.size := Nat.le_trans hB hb.size
    exact ⟨⟨A0, c0, A1, c1, A, c, HX.out, .of_row (hl0.below (hb.mono hB)) hB hz, .of_row (hl1.below (hb.mono hB)) hB hz, .of_row (hl.below (hb.mono hB)) hB hz⟩, HY.out, hb⟩
  clear hl0 hl1 hl hB HX HY
  go_enter Try.func54, Try.ntmps54
  go_wp2_with fail
  go_loopw [4] (fun i wr => ∃ k : Nat, k ≤ 2 ∧ i = .int .i64 k ∧ Hid (OwnA k act trial flo gen v0 l0 n0 v1 l1 n1 on s v l z p n h0 h1 h w wr)) (fun i _ => 2 - (intOf i).toNat)
  case atStart => exact ⟨0, by omega, rfl, hA0⟩
  case round =>
    obtain ⟨k, hk, rfl, hd⟩ := hrel
    clear hA0
    obtain ⟨⟨A0', c0', A1', c1', A', c', hx, r0, r1, r2⟩, hy, hb⟩ := hd.out
    have HX := Lib.hid hx
    have HY := Lib.hid hy
    have HB := Lib.hid hb
    have R0 := Lib.hid r0
    have R1 := Lib.hid r1
    have R2 := Lib.hid r2
    have LG : Hid (w.heap.size + 1 < wr.heap.size) := (Array.getElem?_eq_some_iff.1 hy).1
    clear hx hy hb r0 r1 r2 hd
    rcases (by omega : k = 0 ∨ k = 1 ∨ k = 2) with rfl | rfl | rfl
    · have c1x := cell_of_row wr w.heap.size 6 _ _ (0, 0) HX.out
      have f1x := frozen_of_row wr w.heap.size 6 _ _ HX.out
      go_wp2_with fail
      refine (clone_any wr.heap.size n0 c0' A0' h0 wr R0.out.row (by omega) (Nat.le_refl _)).mono ?_
      rintro e w2 ⟨AN, nn, cN, rfl, hnn, hown, hb2⟩
      have hn2 : nn = n0 := by rw [hnn]; exact R0.out.row.blen
      subst hn2
      clear c1x f1x
      have c2x := cell_of_row w2 w.heap.size 6 _ _ (0, 0) ((hb2.block w.heap.size (by have := LG.out; omega)).trans HX.out)
      have f2x := frozen_of_row w2 w.heap.size 6 _ _ ((hb2.block w.heap.size (by have := LG.out; omega)).trans HX.out)
      have hD : Hid (OwnA 1 act trial flo gen v0 l0 nn v1 l1 n1 on s v l z p n h0 h1 h w (w2.setCell ⟨w.heap.size, 6, none⟩ (.slice AN nn cN))) := by
        refine ⟨⟨AN, cN, A1', c1', A', c', heap_setCell_same w2 w.heap.size 6 _ _ _ ((hb2.block w.heap.size (by have := LG.out; omega)).trans HX.out), (RowX.of_own hown (by have := LG.out; omega)).setG _ _, (R1.out.below hb2).setG _ _, (R2.out.below hb2).setG _ _⟩, ?_, ?_⟩
        · exact (heap_setCell_other _ _ _ _ (by show w.heap.size + 1 ≠ w.heap.size; omega)).trans ((hb2.block (w.heap.size + 1) LG.out).trans HY.out)
        · exact (HB.out.trans (hb2.mono HB.out.size)).setCell (Nat.le_refl _) _
      clear hown hb2 hnn
      go_wp2_with fail
      go_roundw
      case rel => exact ⟨1, by omega, by go_num, hD⟩
      case measure => simp [intOf]
    · have c1x := cell_of_row wr w.heap.size 9 _ _ (0, 0) HX.out
      have f1x := frozen_of_row wr w.heap.size 9 _ _ HX.out
      go_wp2_with fail
      refine (clone_any wr.heap.size n1 c1' A1' h1 wr R1.out.row (by omega) (Nat.le_refl _)).mono ?_
      rintro e w2 ⟨AN, nn, cN, rfl, hnn, hown, hb2⟩
      have hn2 : nn = n1 := by rw [hnn]; exact R1.out.row.blen
      subst hn2
      clear c1x f1x
      have c2x := cell_of_row w2 w.heap.size 9 _ _ (0, 0) ((hb2.block w.heap.size (by have := LG.out; omega)).trans HX.out)
      have f2x := frozen_of_row w2 w.heap.size 9 _ _ ((hb2.block w.heap.size (by have := LG.out; omega)).trans HX.out)
      have hD : Hid (OwnA 2 act trial flo gen v0 l0 n0 v1 l1 nn on s v l z p n h0 h1 h w (w2.setCell ⟨w.heap.size, 9, none⟩ (.slice AN nn cN))) := by
        refine ⟨⟨A0', c0', AN, cN, A', c', heap_setCell_same w2 w.heap.size 9 _ _ _ ((hb2.block w.heap.size (by have := LG.out; omega)).trans HX.out), (R0.out.below hb2).setG _ _, (RowX.of_own hown (by have := LG.out; omega)).setG _ _, (R2.out.below hb2).setG _ _⟩, ?_, ?_⟩
        · exact (heap_setCell_other _ _ _ _ (by show w.heap.size + 1 ≠ w.heap.size; omega)).trans ((hb2.block (w.heap.size + 1) LG.out).trans HY.out)
        · exact (HB.out.trans (hb2.mono HB.out.size)).setCell (Nat.le_refl _) _
      clear hown hb2 hnn
      go_wp2_with fail
      go_roundw
      case rel => exact ⟨2, by omega, by go_num, hD⟩
      case measure => simp [intOf]
    · have c1x := cell_of_row wr w.heap.size 16 _ _ (0, 0) HX.out
      have f1x := frozen_of_row wr w.heap.size 16 _ _ HX.out
      go_wp2_with fail
      refine (clone_any wr.heap.size n c' A' h wr R2.out.row (by omega) (Nat.le_refl _)).mono ?_
      rintro e w2 ⟨AN, nn, cN, rfl, hnn, hown, hb2⟩
      have hn2 : nn = n := by rw [hnn]; exact R2.out.row.blen
      subst hn2
      clear c1x f1x
      have c2x := cell_of_row w2 w.heap.size 16 _ _ (0, 0) ((hb2.block w.heap.size (by have := LG.out; omega)).trans HX.out)
      have f2x := frozen_of_row w2 w.heap.size 16 _ _ ((hb2.block w.heap.size (by have := LG.out; omega)).trans HX.out)
      have hD : Hid (OwnA 2 act trial flo gen v0 l0 n0 v1 l1 n1 on s v l z p nn h0 h1 h w (w2.setCell ⟨w.heap.size, 16, none⟩ (.slice AN nn cN))) := by
        refine ⟨⟨A0', c0', A1', c1', AN, cN, heap_setCell_same w2 w.heap.size 16 _ _ _ ((hb2.block w.heap.size (by have := LG.out; omega)).trans HX.out), (R0.out.below hb2).setG _ _, (R1.out.below hb2).setG _ _, (RowX.of_own hown (by have := LG.out; omega)).setG _ _⟩, ?_, ?_⟩
        · exact (heap_setCell_other _ _ _ _ (by show w.heap.size + 1 ≠ w.heap.size; omega)).trans ((hb2.block (w.heap.size + 1) LG.out).trans HY.out)
        · exact (HB.out.trans (hb2.mono HB.out.size)).setCell (Nat.le_refl _) _
      have hx3 : (w2.setCell ⟨w.heap.size, 16, none⟩ (.slice AN nn cN)).heap[w.heap.size]? = some (.cells #[.int .i64 act, .int .i64 trial, .int .u32 (flo : Int), .int .u32 (gen : Int), .int .u32 (v0 : Int), .int .i64 l0, .slice A0' n0 c0', .int .u32 (v1 : Int), .int .i64 l1, .slice A1' n1 c1', .bool on, .int .u32 (s : Int), .int .u32 (v : Int), .int .i64 l, .int .i64 z, .int .i64 p, .slice AN nn cN] 30 (0, 0)) := heap_setCell_same w2 w.heap.size 16 _ _ _ ((hb2.block w.heap.size (by have := LG.out; omega)).trans HX.out)
      have HX3 := Lib.hid hx3
      have HY3 := Lib.hid hD.out.2.1
      have HB3 := Lib.hid hD.out.2.2
      have Q0 : Hid (RowX _ w.heap.size true A0' n0 (bv h0)) := (R0.out.below hb2).setG 16 (.slice AN nn cN)
      have Q1 : Hid (RowX _ w.heap.size true A1' n1 (bv h1)) := (R1.out.below hb2).setG 16 (.slice AN nn cN)
      have Q2 : Hid (RowX _ w.heap.size true AN nn (bv h)) := (RowX.of_own hown (by have := LG.out; omega)).setG 16 (.slice AN nn cN)
      clear hx3 hD R0 R1 R2 HX HY HB LG
      clear hown hb2 hnn
      go_wp2_with (first
        | ((with_reducible show wpList _ _ _ _ _ _); refine wpList_load_row (o := ⟨some 24, _, _, _, _, _⟩) rfl _ (.tmp 1) rfl w.heap.size rfl _ _ _ _ HX3.out Try.underlying30 rfl (by kernel_rfl) ?_)
        | ((with_reducible show wpList _ _ _ _ _ _); refine wpList_store_row rfl _ (.tmp 2) (.tmp 24) rfl (w.heap.size + 1) #[.int .i64 act, .int .i64 trial, .int .u32 (flo : Int), .int .u32 (gen : Int), .int .u32 (v0 : Int), .int .i64 l0, .slice A0' n0 c0', .int .u32 (v1 : Int), .int .i64 l1, .slice A1' n1 c1', .bool on, .int .u32 (s : Int), .int .u32 (v : Int), .int .i64 l, .int .i64 z, .int .i64 p, .slice AN nn cN] rfl rfl _ _ HY3.out (by kernel_rfl) (by rfl) (by simp [Value.oneCell']) ?_))
      have hrow : ((w2.setCell ⟨w.heap.size, 16, none⟩ (.slice AN nn cN)).setRow (w.heap.size + 1) #[.int .i64 act, .int .i64 trial, .int .u32 (flo : Int), .int .u32 (gen : Int), .int .u32 (v0 : Int), .int .i64 l0, .slice A0' n0 c0', .int .u32 (v1 : Int), .int .i64 l1, .slice A1' n1 c1', .bool on, .int .u32 (s : Int), .int .u32 (v : Int), .int .i64 l, .int .i64 z, .int .i64 p, .slice AN nn cN]).heap[w.heap.size + 1]? = some (.cells #[.int .i64 act, .int .i64 trial, .int .u32 (flo : Int), .int .u32 (gen : Int), .int .u32 (v0 : Int), .int .i64 l0, .slice A0' n0 c0', .int .u32 (v1 : Int), .int .i64 l1, .slice A1' n1 c1', .bool on, .int .u32 (s : Int), .int .u32 (v : Int), .int .i64 l, .int .i64 z, .int .i64 p, .slice AN nn cN] 30 (0, 0)) := setRow_heap _ _ _ _ _ _ HY3.out
      refine bodyPost_ret (results_cell_row rfl _ _ (w.heap.size + 1) _ _ (0, 0) _ rfl hrow Try.underlying30 rfl (by kernel_rfl)) rfl ?_
      exact ⟨A0', c0', A1', c1', AN, cN, rfl, (Q0.out.set2 _).rowF, (Q1.out.set2 _).rowF, (Q2.out.set2 _).rowF, below_setRow2 HB3.out (Nat.le_succ _) _⟩
end Go.Proofs.Ytdipccjgpkedhaa
