/- The reference's ParseState: by contract. -/
import Derived.Test.YtdipccjgpkedhaaRPs
import Derived.Deep.MidRow
namespace Go.Proofs.Ytdipccjgpkedhaa
open Go.RowKit
def PLoop (w : World) (y0 y1 : UInt8) (n3 n4 : Nat) (S0 S1 : LSlot) (r3 r4 r5 : Rd) (k : Nat) (W : World) : Prop :=
  (k = 0 ∧ PIn w #[.int .i64 (y0.toNat : Int), .int .i64 (y1.toNat : Int), .int .u32 (n3 : Int), .int .u32 (n4 : Int), .int .u32 0, .int .i64 0, .slice none 0 0, .int .u32 0, .int .i64 0, .slice none 0 0, .bool false, .int .u32 0, .int .u32 0, .int .i64 0, .int .i64 0, .int .i64 0, .slice none 0 0] r3 W) ∨ (k = 1 ∧ ∃ A0 c0, RowP W (fun b => w.heap.size + 2 < b) A0 S0.h.length (bv S0.h) ∧ PIn w #[.int .i64 (y0.toNat : Int), .int .i64 (y1.toNat : Int), .int .u32 (n3 : Int), .int .u32 (n4 : Int), .int .u32 (S0.v : Int), .int .i64 S0.l, .slice A0 S0.h.length c0, .int .u32 0, .int .i64 0, .slice none 0 0, .bool false, .int .u32 0, .int .u32 0, .int .i64 0, .int .i64 0, .int .i64 0, .slice none 0 0] r4 W) ∨
  (k = 2 ∧ ∃ A0 c0 A1 c1, RowP W (fun b => w.heap.size + 2 < b) A0 S0.h.length (bv S0.h) ∧ RowP W (fun b => w.heap.size + 2 < b) A1 S1.h.length (bv S1.h) ∧ PIn w #[.int .i64 (y0.toNat : Int), .int .i64 (y1.toNat : Int), .int .u32 (n3 : Int), .int .u32 (n4 : Int), .int .u32 (S0.v : Int), .int .i64 S0.l, .slice A0 S0.h.length c0, .int .u32 (S1.v : Int), .int .i64 S1.l, .slice A1 S1.h.length c1, .bool false, .int .u32 0, .int .u32 0, .int .i64 0, .int .i64 0, .int .i64 0, .slice none 0 0] r5 W)
theorem there3 {W : World} {g : Nat} {cells : Array Value} {t : TypeId} (h : W.heap[g]? = some (.cells cells t (0, 0))) (o : Nat) (ho : o + 3 ≤ cells.size) : W.there g o 3 := fun j hj => by
  rw [cell_of_row W g (o + j) cells t (0, 0) h]
  exact ⟨by rw [Array.getElem?_eq_getElem (by omega)]; rfl, frozen_of_row W g (o + j) _ _ h⟩
theorem set3_heap {w : World} {g o : Nat} {x y z : Value} {cs : Array Value} {t : TypeId} (h : w.heap[g]? = some (.cells cs t (0, 0))) : (w.setCells g o [x, y, z]).heap[g]? = some (.cells (((cs.setIfInBounds o x).setIfInBounds (o + 1) y).setIfInBounds (o + 2) z) t (0, 0)) :=
  heap_setCell_same _ g (o + 2) _ _ z (heap_setCell_same _ g (o + 1) _ _ y (heap_setCell_same w g o _ _ x h))
/-- as it was, but for the state's box, and what is new -/
def QS (w wq W : World) : Prop := wq.grownBy W (some (w.heap.size + 2))
theorem QS.of_below {w wq W : World} (h : Below wq.heap.size wq W) : QS w wq W := grown_of_below _ h
theorem QS.size {w wq W : World} (h : QS w wq W) : wq.heap.size ≤ W.heap.size := World.grownBy.size h
theorem QS.next {w wq W W' : World} (h : QS w wq W) (hb : Below W.heap.size W W') : QS w wq W' := h.trans (grown_of_below _ hb)
theorem QS.set3 {w wq W : World} (h : QS w wq W) (o : Nat) (x y z : Value) : QS w wq (W.setCells (w.heap.size + 2) o [x, y, z]) :=
  ((h.trans (grown_cell _ _ _ _)).trans (grown_cell _ _ _ _)).trans (grown_cell _ _ _ _)
theorem RowP.qs {w wq W : World} {n : Nat} {A : Option Addr} {xs : List Value} (h : RowP wq (fun b => w.heap.size + 2 < b) A n xs) (hq : QS w wq W) : RowP W (fun b => w.heap.size + 2 < b) A n xs :=
  h.keep hq.size fun b hb hl => hq.block b hl (fun e => by have : b = w.heap.size + 2 := Option.some.inj e; omega)
theorem RowP.qs' {w wq W : World} {n : Nat} {A : Option Addr} {xs : List Value} (h : RowP wq (fun b => b ≠ w.heap.size + 2) A n xs) (hq : QS w wq W) : RowP W (fun b => b ≠ w.heap.size + 2) A n xs :=
  h.keep hq.size fun b hb hl => hq.block b hl (fun e => hb (Option.some.inj e))
theorem RowP.set3 {W : World} {g5 n : Nat} {A : Option Addr} {xs : List Value} (h : RowP W (fun b => g5 < b) A n xs) (o : Nat) (x y z : Value) : RowP (W.setCells g5 o [x, y, z]) (fun b => g5 < b) A n xs :=
  ((h.setP o x).setP (o + 1) y).setP (o + 2) z
theorem PIn.qs {w wq W : World} {cells cells' : Array Value} {r : Rd} (h : PIn w cells r wq) (hq : QS w wq W) (hx : W.heap[w.heap.size + 2]? = some (.cells cells' 30 (0, 0))) : PIn w cells' r W := by
  have hlt := (Array.getElem?_eq_some_iff.1 h.x5).1
  obtain ⟨A, c, hr, hrow, h1, h2, h3⟩ := h.rd
  have hb : Below w.heap.size wq W := (Below.refl _ _).grown hq h.b.size (fun g hg => by have : w.heap.size + 2 = g := Option.some.inj hg; omega)
  exact ⟨⟨A, c, (hq.block _ (by omega) (fun e => by have : w.heap.size + 1 = w.heap.size + 2 := Option.some.inj e; omega)).trans hr, hrow.below hb, h1, h2, h3⟩, h.b.trans hb, (hq.block _ (by omega) (fun e => by have : w.heap.size = w.heap.size + 2 := Option.some.inj e; omega)).trans h.xr, hx⟩
/-- as it was, but for the answer's box, and what is new -/
def QR (w wq W : World) : Prop := wq.grownBy W (some w.heap.size)
theorem QR.of_below {w wq W : World} (h : Below wq.heap.size wq W) : QR w wq W := grown_of_below _ h
theorem QR.next {w wq W W' : World} (h : QR w wq W) (hb : Below W.heap.size W W') : QR w wq W' := h.trans (grown_of_below _ hb)
theorem QR.set {w wq W : World} (h : QR w wq W) (cs : Array Value) : QR w wq (W.setRow w.heap.size cs) :=
  h.trans ⟨rfl, rfl, rfl, by simp, fun b _ hne => setRow_other _ _ _ _ (fun e => hne (by rw [e]))⟩
theorem QR.cell {w wq W : World} (h : QR w wq W) {p : Addr} (hp : p.block ≠ w.heap.size) (hl : p.block < wq.heap.size) : W.cell? p = wq.cell? p :=
  World.cell?_of_block (World.grownBy.block h p.block hl (fun e => hp (Option.some.inj e)))
theorem QR.below {w wq W : World} (h : QR w wq W) (hb : Below w.heap.size w wq) : Below w.heap.size w W :=
  hb.trans ((Below.refl _ _).grown h hb.size (fun g hg => by have : w.heap.size = g := Option.some.inj hg; omega))
set_option maxRecDepth 100000 in
set_option maxHeartbeats 25600000 in
theorem rps_walk (A : Option Addr) (n c : Nat) (l : List UInt8) (y0 y1 : UInt8) (n3 n4 : Nat) (S0 S1 : LSlot) (r1 r2 r3 r4 r5 : Rd) (w : World) (hl : Row w w.heap.size A n (bv l)) (hn : n ≤ c) (hc : c ≤ 9223372036854775807)
    (e1 : (⟨l, 0⟩ : Rd).got 2 = [y0, y1]) (p1 : (⟨l, 0⟩ : Rd).past 2 = r1) (e3 : CrcM.number (r1.got 4) = n3) (p2 : r1.past 4 = r2) (e4 : CrcM.number (r2.got 4) = n4) (p3 : r2.past 4 = r3) (s0 : r3.slot2 = (S0, r4)) (s1 : r4.slot2 = (S1, r5)) :
    Calls Try.prog 14 #[.slice A n c] w (RPsOk l w) := by
  have P2 : Hid (∀ {rF : Rd} {on : Bool} {M : LMan}, r5.now = ((on, M), rF) → Rd.parts2 ⟨l, 0⟩ = ((y0.toNat, y1.toNat, n3, n4, S0, S1, on, M), rF)) := Lib.hid (fun nw => parts2_of e1 p1 e3 p2 e4 p3 s0 s1 nw)
  have hll := hl.blen
  have hb0 : Below w.heap.size w (((w.alloc (.cells #[.int .i64 0, .int .i64 0, .int .u32 0, .int .u32 0, .int .u32 0, .int .i64 0, .slice none 0 0, .int .u32 0, .int .i64 0, .slice none 0 0, .bool false, .int .u32 0, .int .u32 0, .int .i64 0, .int .i64 0, .int .i64 0, .slice none 0 0] 30)).alloc (.cells #[.slice A n c, .int .i64 0] 61)).alloc (.cells #[.int .i64 0, .int .i64 0, .int .u32 0, .int .u32 0, .int .u32 0, .int .i64 0, .slice none 0 0, .int .u32 0, .int .i64 0, .slice none 0 0, .bool false, .int .u32 0, .int .u32 0, .int .i64 0, .int .i64 0, .int .i64 0, .slice none 0 0] 30)) := (((Below.refl _ _).alloc (Nat.le_refl _) _).alloc (by simp) _).alloc (by simp; omega) _
  have z1 : (w.alloc (.cells #[.int .i64 0, .int .i64 0, .int .u32 0, .int .u32 0, .int .u32 0, .int .i64 0, .slice none 0 0, .int .u32 0, .int .i64 0, .slice none 0 0, .bool false, .int .u32 0, .int .u32 0, .int .i64 0, .int .i64 0, .int .i64 0, .slice none 0 0] 30)).heap.size = w.heap.size + 1 := by simp
  have z2 : ((w.alloc (.cells #[.int .i64 0, .int .i64 0, .int .u32 0, .int .u32 0, .int .u32 0, .int .i64 0, .slice none 0 0, .int .u32 0, .int .i64 0, .slice none 0 0, .bool false, .int .u32 0, .int .u32 0, .int .i64 0, .int .i64 0, .int .i64 0, .slice none 0 0] 30)).alloc (.cells #[.slice A n c, .int .i64 0] 61)).heap.size = w.heap.size + 2 := by simp
  have x5 : (((w.alloc (.cells #[.int .i64 0, .int .i64 0, .int .u32 0, .int .u32 0, .int .u32 0, .int .i64 0, .slice none 0 0, .int .u32 0, .int .i64 0, .slice none 0 0, .bool false, .int .u32 0, .int .u32 0, .int .i64 0, .int .i64 0, .int .i64 0, .slice none 0 0] 30)).alloc (.cells #[.slice A n c, .int .i64 0] 61)).alloc (.cells #[.int .i64 0, .int .i64 0, .int .u32 0, .int .u32 0, .int .u32 0, .int .i64 0, .slice none 0 0, .int .u32 0, .int .i64 0, .slice none 0 0, .bool false, .int .u32 0, .int .u32 0, .int .i64 0, .int .i64 0, .int .i64 0, .slice none 0 0] 30)).heap[w.heap.size + 2]? = some (.cells #[.int .i64 0, .int .i64 0, .int .u32 0, .int .u32 0, .int .u32 0, .int .i64 0, .slice none 0 0, .int .u32 0, .int .i64 0, .slice none 0 0, .bool false, .int .u32 0, .int .u32 0, .int .i64 0, .int .i64 0, .int .i64 0, .slice none 0 0] 30 (0, 0)) := by rw [← z2]; exact heap_alloc_new _ _
  have xg : (((w.alloc (.cells #[.int .i64 0, .int .i64 0, .int .u32 0, .int .u32 0, .int .u32 0, .int .i64 0, .slice none 0 0, .int .u32 0, .int .i64 0, .slice none 0 0, .bool false, .int .u32 0, .int .u32 0, .int .i64 0, .int .i64 0, .int .i64 0, .slice none 0 0] 30)).alloc (.cells #[.slice A n c, .int .i64 0] 61)).alloc (.cells #[.int .i64 0, .int .i64 0, .int .u32 0, .int .u32 0, .int .u32 0, .int .i64 0, .slice none 0 0, .int .u32 0, .int .i64 0, .slice none 0 0, .bool false, .int .u32 0, .int .u32 0, .int .i64 0, .int .i64 0, .int .i64 0, .slice none 0 0] 30)).heap[w.heap.size + 1]? = some (.cells #[.slice A n c, .int .i64 0] 61 (0, 0)) := (heap_alloc_old _ _ (by rw [z2]; omega)).trans (by rw [← z1]; exact heap_alloc_new _ _)
  have xr : (((w.alloc (.cells #[.int .i64 0, .int .i64 0, .int .u32 0, .int .u32 0, .int .u32 0, .int .i64 0, .slice none 0 0, .int .u32 0, .int .i64 0, .slice none 0 0, .bool false, .int .u32 0, .int .u32 0, .int .i64 0, .int .i64 0, .int .i64 0, .slice none 0 0] 30)).alloc (.cells #[.slice A n c, .int .i64 0] 61)).alloc (.cells #[.int .i64 0, .int .i64 0, .int .u32 0, .int .u32 0, .int .u32 0, .int .i64 0, .slice none 0 0, .int .u32 0, .int .i64 0, .slice none 0 0, .bool false, .int .u32 0, .int .u32 0, .int .i64 0, .int .i64 0, .int .i64 0, .slice none 0 0] 30)).heap[w.heap.size]? = some (.cells #[.int .i64 0, .int .i64 0, .int .u32 0, .int .u32 0, .int .u32 0, .int .i64 0, .slice none 0 0, .int .u32 0, .int .i64 0, .slice none 0 0, .bool false, .int .u32 0, .int .u32 0, .int .i64 0, .int .i64 0, .int .i64 0, .slice none 0 0] 30 (0, 0)) := (heap_alloc_old _ _ (by rw [z2]; omega)).trans ((heap_alloc_old _ _ (by rw [z1]; omega)).trans (heap_alloc_new _ _))
  have P0 : Hid (PIn w #[.int .i64 0, .int .i64 0, .int .u32 0, .int .u32 0, .int .u32 0, .int .i64 0, .slice none 0 0, .int .u32 0, .int .i64 0, .slice none 0 0, .bool false, .int .u32 0, .int .u32 0, .int .i64 0, .int .i64 0, .int .i64 0, .slice none 0 0] ⟨l, 0⟩ (((w.alloc (.cells #[.int .i64 0, .int .i64 0, .int .u32 0, .int .u32 0, .int .u32 0, .int .i64 0, .slice none 0 0, .int .u32 0, .int .i64 0, .slice none 0 0, .bool false, .int .u32 0, .int .u32 0, .int .i64 0, .int .i64 0, .int .i64 0, .slice none 0 0] 30)).alloc (.cells #[.slice A n c, .int .i64 0] 61)).alloc (.cells #[.int .i64 0, .int .i64 0, .int .u32 0, .int .u32 0, .int .u32 0, .int .i64 0, .slice none 0 0, .int .u32 0, .int .i64 0, .slice none 0 0, .bool false, .int .u32 0, .int .u32 0, .int .i64 0, .int .i64 0, .int .i64 0, .slice none 0 0] 30))) := Lib.hid ⟨⟨A, c, by rw [hll]; exact xg, by rw [hll]; exact hl.below hb0, by omega, by rw [hll]; exact hn, hc⟩, hb0, xr, x5⟩
  have HS0 := Lib.hid s0
  have HS1 := Lib.hid s1
  have HE3 := Lib.hid e3
  have HE4 := Lib.hid e4
  have HP1 := Lib.hid p1
  have HP2 := Lib.hid p2
  have HP3 := Lib.hid p3
  have HE1 := Lib.hid e1
  clear hll hb0 z1 z2 x5 xg xr s0 s1 e1 e3 e4 p1 p2 p3 hl hn hc
  go_enter Try.func14, Try.ntmps14
  go_upto_region 3 with fail
  generalize ((w.alloc (.cells #[.int .i64 0, .int .i64 0, .int .u32 0, .int .u32 0, .int .u32 0, .int .i64 0, .slice none 0 0, .int .u32 0, .int .i64 0, .slice none 0 0, .bool false, .int .u32 0, .int .u32 0, .int .i64 0, .int .i64 0, .int .i64 0, .slice none 0 0] 30)).alloc (.cells #[.slice A n c, .int .i64 0] 61)).alloc (.cells #[.int .i64 0, .int .i64 0, .int .u32 0, .int .u32 0, .int .u32 0, .int .i64 0, .slice none 0 0, .int .u32 0, .int .i64 0, .slice none 0 0, .bool false, .int .u32 0, .int .u32 0, .int .i64 0, .int .i64 0, .int .i64 0, .slice none 0 0] 30) = w0 at *
  go_wp2_with fail
  refine (rtake2_any 2 (by omega) (by omega) P0.out.rd).mono ?_
  rintro e w1 ⟨A1, c1, rfl, -, hrow, hto⟩
  rw [HE1.out] at hrow
  rw [HP1.out] at hto
  have P1 := Lib.hid (P0.out.next hto.out)
  obtain ⟨b, o, rfl, _, hk0, d0⟩ := hrow.out.row.byteAt (k := 0) (by omega)
  obtain ⟨b', o', e, _, hk1, d1⟩ := hrow.out.row.byteAt (k := 1) (by omega)
  injection e with e
  injection e with ea eb
  subst ea eb
  have d0 : w1.cell? ⟨b, o, none⟩ = some (.int .u8 (y0.toNat : Int)) := by simpa using d0
  have d1 : w1.cell? ⟨b, o + 1, none⟩ = some (.int .u8 (y1.toNat : Int)) := by simpa using d1
  have k0 := P1.out.cell 0
  have k1 := P1.out.cell 1
  have f0 := P1.out.fro 0
  have f1 := P1.out.fro 1
  have b0 := CrcM.b_lt y0
  have b1 := CrcM.b_lt y1
  have v0 : IntKind.i64.wrap (y0.toNat : Int) = (y0.toNat : Int) := IntWalk.i64_in _ (by omega)
  have v1 : IntKind.i64.wrap (y1.toNat : Int) = (y1.toNat : Int) := IntWalk.i64_in _ (by omega)
  have hlt : w.heap.size + 2 < w1.heap.size := (Array.getElem?_eq_some_iff.1 P1.out.x5).1
  clear hrow hto P0
  go_upto_region 4 with fail
  go_cut [] (fun wx => Hid (wx = ((w1.setCell ⟨w.heap.size + 2, 0, none⟩ (.int .i64 (y0.toNat : Int))).setCell ⟨w.heap.size + 2, 1, none⟩ (.int .i64 (y1.toNat : Int))).drew))
  case first =>
    go_region
    all_goals (go_wp2_with fail; go_meet; exact Lib.hid rfl)
  case rest =>
    have P2' : Hid (PIn w ((#[.int .i64 0, .int .i64 0, .int .u32 0, .int .u32 0, .int .u32 0, .int .i64 0, .slice none 0 0, .int .u32 0, .int .i64 0, .slice none 0 0, .bool false, .int .u32 0, .int .u32 0, .int .i64 0, .int .i64 0, .int .i64 0, .slice none 0 0] : Array Value).setIfInBounds 0 (.int .i64 (y0.toNat : Int)) |>.setIfInBounds 1 (.int .i64 (y1.toNat : Int))) r1 wc) := Lib.hid (by rw [hcut.out]; exact ((P1.out.setC 0 _).setC 1 _).drew)
    clear hcut d0 d1 k0 k1 f0 f1 b0 b1 v0 v1 hlt P1
    go_wp2_with fail
    refine (rtake2_any 4 (by omega) (by omega) P2'.out.rd).mono ?_
    rintro e w2 ⟨A2, c2, rfl, -, hrow, hto⟩
    rw [HP2.out] at hto
    have P3 := Lib.hid (P2'.out.next hto.out)
    go_wp2_with fail
    refine (r1num_any 4 w2.heap.size _ _ _ w2 hrow.out.row (by omega)).mono ?_
    rw [HE3.out]
    rintro e _ ⟨rfl, rfl⟩
    clear hrow hto P2'
    go_wp2_with fail
    refine (rtake2_any 4 (by omega) (by omega) P3.out.rd).mono ?_
    rintro e w3 ⟨A3, c3, rfl, -, hrow, hto⟩
    rw [HP3.out] at hto
    have P4 := Lib.hid (P3.out.next hto.out)
    go_wp2_with fail
    refine (r1num_any 4 w3.heap.size _ _ _ w3 hrow.out.row (by omega)).mono ?_
    rw [HE4.out]
    rintro e _ ⟨rfl, rfl⟩
    have k2 := P4.out.cell 2
    have k3 := P4.out.cell 3
    have f2 := P4.out.fro 2
    have f3 := P4.out.fro 3
    have hI : Hid (PLoop w y0 y1 n3 n4 S0 S1 r3 r4 r5 0 ((w3.setCell ⟨w.heap.size + 2, 2, none⟩ (.int .u32 (n3 : Int))).setCell ⟨w.heap.size + 2, 3, none⟩ (.int .u32 (n4 : Int)))) := Lib.hid (.inl ⟨rfl, ((P4.out.setC 2 (.int .u32 (n3 : Int))).setC 3 (.int .u32 (n4 : Int))).cast (by simp)⟩)
    have hlt : w.heap.size + 2 < w3.heap.size := (Array.getElem?_eq_some_iff.1 P4.out.x5).1
    clear hrow hto P3 P4
    go_upto_region 6 with fail
    clear k2 k3 f2 f3 hlt
    generalize (w3.setCell ⟨w.heap.size + 2, 2, none⟩ (.int .u32 (n3 : Int))).setCell ⟨w.heap.size + 2, 3, none⟩ (.int .u32 (n4 : Int)) = w4 at *
    go_wp2_with fail
    go_loopw [35] (fun x wr => ∃ k : Nat, k ≤ 2 ∧ x = .int .i64 k ∧ Hid (PLoop w y0 y1 n3 n4 S0 S1 r3 r4 r5 k wr)) (fun x _ => 2 - (intOf x).toNat)
    case atStart => exact ⟨0, by omega, rfl, hI⟩
    case round =>
      clear hI
      obtain ⟨k, hk, rfl, hL⟩ := hrel
      rcases hL.out with ⟨rfl, hs⟩ | ⟨rfl, A0, c0, ha, hs⟩ | ⟨rfl, A0, c0, A1, c1, ha, ha1, hs⟩
      · have HP := Lib.hid hs
        clear hs hL
        go_wp2_with fail
        refine (rflag2_any HP.out.rd).mono ?_
        rintro e wf ⟨rfl, hto⟩
        cases hfl : r3.flag.1 with
        | false =>
          have hsl := HS0.out
          rw [slot2_no hfl] at hsl
          have ES0 : S0 = LSlot.zero := (congrArg Prod.fst hsl).symm
          have ER : r3.flag.2 = r4 := congrArg Prod.snd hsl
          rw [ER] at hto
          have hn : Hid (PLoop w y0 y1 n3 n4 S0 S1 r3 r4 r5 1 wf) := Lib.hid (.inr (.inl ⟨rfl, none, 0, by rw [ES0]; exact .nil _ _ _, (HP.out.next hto.out).cast (by rw [ES0]; rfl)⟩))
          clear hsl ES0 ER hto HP hfl
          go_wp2_with fail
          go_roundw
          case rel => exact ⟨1, by omega, by go_num, hn⟩
          case measure => simp [intOf]
        | true =>
          have hsl := HS0.out
          rw [slot2_yes hfl] at hsl
          have ES0 : S0 = slotOf (r3.flag.2.got 38) := (congrArg Prod.fst hsl).symm
          have ER : r3.flag.2.past 38 = r4 := congrArg Prod.snd hsl
          have PF := Lib.hid (HP.out.next hto.out)
          have HAf := Lib.hid trivial
          clear hsl hto HP hfl
          generalize r3.flag.2 = rf at *
          go_wp2_with fail
          refine (rtake2_any 38 (by omega) (by omega) PF.out.rd).mono ?_
          rintro e wq ⟨Ay, cy, rfl, hcy, hrow, hto⟩
          have hly := got_length rf 38
          rw [ER] at hto
          obtain ⟨ly, hlyd⟩ : ∃ ly, rf.got 38 = ly := ⟨_, rfl⟩
          rw [hlyd] at hrow hly ES0
          have PQ := Lib.hid (PF.out.next hto.out)

          obtain ⟨b, o, rfl, hbw, -⟩ := hrow.out.row.byteAt (k := 0) (by omega)
          have HLY := Lib.hid hly
          have ES := Lib.hid ES0
          have HRY := Lib.hid (hrow.out.imp (P' := fun b => b ≠ w.heap.size + 2) fun b hlt hb => by have := (Array.getElem?_eq_some_iff.1 PF.out.x5).1; rcases hb with hb | hb <;> omega)
          have LW : Hid (w.heap.size + 2 < wq.heap.size) := Lib.hid (Array.getElem?_eq_some_iff.1 PQ.out.x5).1
          have HD6 : Hid ((ly.drop 6).length = 32) := Lib.hid (by simp; omega)
          have HQ0 : Hid (∀ W, QS w wq W → RowP W (fun _ => True) (some ⟨b, o, none⟩) 38 (bv ly)) := Lib.hid fun W hW => (HRY.out.qs' hW).imp fun _ _ _ => trivial
          have HQ1 : Hid (∀ W, QS w wq W → RowP W (fun _ => True) (some ⟨b, o, none⟩) 4 (bv (ly.take 4))) := Lib.hid fun W hW => by rw [← bv_take]; exact RowP.of_row ((HQ0.out W hW).row.head (by omega))
          have HQ2 : Hid (∀ W, QS w wq W → RowP W (fun _ => True) (some ⟨b, o + 4, none⟩) 2 (bv ((ly.drop 4).take 2))) := Lib.hid fun W hW => by rw [← bv_take, ← bv_drop]; exact RowP.of_row ((HQ0.out W hW).row.sub (by omega) fun b' o' e _ => by injection e with e; injection e with e1 e2; subst e1 e2; rfl)
          have HQ3 : Hid (∀ W, QS w wq W → RowP W (fun _ => True) (some ⟨b, o + 6, none⟩) 32 (bv (ly.drop 6))) := Lib.hid fun W hW => by rw [← List.take_of_length_le (Nat.le_of_eq HD6.out), ← bv_take, ← bv_drop]; exact RowP.of_row ((HQ0.out W hW).row.sub (by omega) fun b' o' e _ => by injection e with e; injection e with e1 e2; subst e1 e2; rfl)
          have X5 := Lib.hid PQ.out.x5
          have L5 := LW
          have HW2 : Hid (IntKind.i64.wrap ((CrcM.number ((ly.drop 4).take 2) : Nat) : Int) = (CrcM.number ((ly.drop 4).take 2) : Nat)) := Lib.hid (IntWalk.i64_in _ (by have := num_lt2 ((ly.drop 4).take 2) (by simp; omega); omega))
          have q4 : (4 : Int) ≤ cy := by have := hcy.out; omega
          have q6 : (6 : Int) ≤ cy := by have := hcy.out; omega
          have n4' : ¬ (cy : Int) = 4 := by have := hcy.out; omega
          have n6 : ¬ (cy : Int) = 6 := by have := hcy.out; omega
          have m4 : ¬ cy = 4 := by have := hcy.out; omega
          have m6 : ¬ cy = 6 := by have := hcy.out; omega
          clear hcy hrow hto hly hlyd ER PF hbw HRY ES0 HAf HQ0
          go_upto_region 11 with fail
          refine wp_region_noPanic ?_
          refine wp_region_held_drew (S := (fun W => QS w wq W)) (by kernel_rfl) (QS.of_below (Below.refl _ _).drew) (fun hH0 => ?_)
          have hH0 : QS w wq wq.drew := hH0
          have X5d := Lib.hid (show wq.drew.heap[(w.heap.size + 2)]? = _ from X5.out)
          have L5d := Lib.hid (show (w.heap.size + 2) < wq.drew.heap.size from L5.out)
          generalize wq.drew = wd3000 at *
          refine wpAnyH_take (i := 0) (oi := { dst := some 42, op := Op.move (Operand.tmp 7), type := 3, pos := "ref.go:384", after := #[], guard := none }) (v := ?tkv3001) rfl (by kernel_rfl) (by kernel_rfl) (by kernel_rfl) (fun _ _ _ h => h) (Or.inl ⟨by rfl, ?tky3001⟩) hH0 ?tkr3001
          case tky3001 => (intro w' hSw; clear hSw; go_simp; try with_reducible rfl)
          try simp only [Act.put, List.setIfInBounds_toArray, List.set_cons_zero, List.set_cons_succ]
          refine wpAnyH_take (i := 1) (oi := { dst := some 43, op := Op.move (Operand.tmp 8), type := 23, pos := "ref.go:384", after := #[], guard := none }) (v := ?tkv3002) rfl (by kernel_rfl) (by kernel_rfl) (by kernel_rfl) (fun _ _ _ h => h) (Or.inl ⟨by rfl, ?tky3002⟩) hH0 ?tkr3002
          case tky3002 => (intro w' hSw; clear hSw; go_simp; try with_reducible rfl)
          try simp only [Act.put, List.setIfInBounds_toArray, List.set_cons_zero, List.set_cons_succ]
          refine wpAnyH_take (i := 2) (oi := { dst := some 44, op := Op.slice 23 (Operand.tmp 43) none (some (Operand.const (Value.int IntKind.i64 4))) none, type := 23, pos := "ref.go:384", after := #[{ on := 1, ground := Ground.data }], guard := none }) (v := ?tkv3003) rfl (by kernel_rfl) (by kernel_rfl) (by kernel_rfl) (fun _ _ _ h => h) (Or.inl ⟨by rfl, ?tky3003⟩) hH0 ?tkr3003
          case tky3003 => (intro w' hSw; clear hSw; go_simp; try with_reducible rfl)
          try simp only [Act.put, List.setIfInBounds_toArray, List.set_cons_zero, List.set_cons_succ]
          refine wpAnyH_take (i := 4) (oi := { dst := some 46, op := Op.move (Operand.tmp 8), type := 23, pos := "ref.go:384", after := #[], guard := none }) (v := ?tkv3004) rfl (by kernel_rfl) (by kernel_rfl) (by kernel_rfl) (fun _ _ _ h => h) (Or.inl ⟨by rfl, ?tky3004⟩) hH0 ?tkr3004
          case tky3004 => (intro w' hSw; clear hSw; go_simp; try with_reducible rfl)
          try simp only [Act.put, List.setIfInBounds_toArray, List.set_cons_zero, List.set_cons_succ]
          refine wpAnyH_take (i := 5) (oi := { dst := some 47, op := Op.slice 23 (Operand.tmp 46) (some (Operand.const (Value.int IntKind.i64 4))) (some (Operand.const (Value.int IntKind.i64 6))) none, type := 23, pos := "ref.go:384", after := #[{ on := 4, ground := Ground.data }], guard := none }) (v := ?tkv3005) rfl (by kernel_rfl) (by kernel_rfl) (by kernel_rfl) (fun _ _ _ h => h) (Or.inl ⟨by rfl, ?tky3005⟩) hH0 ?tkr3005
          case tky3005 => (intro w' hSw; clear hSw; go_simp; try with_reducible rfl)
          try simp only [Act.put, List.setIfInBounds_toArray, List.set_cons_zero, List.set_cons_succ]
          refine wpAnyH_take (i := 8) (oi := { dst := some 50, op := Op.move (Operand.tmp 8), type := 23, pos := "ref.go:384", after := #[], guard := none }) (v := ?tkv3006) rfl (by kernel_rfl) (by kernel_rfl) (by kernel_rfl) (fun _ _ _ h => h) (Or.inl ⟨by rfl, ?tky3006⟩) hH0 ?tkr3006
          case tky3006 => (intro w' hSw; clear hSw; go_simp; try with_reducible rfl)
          try simp only [Act.put, List.setIfInBounds_toArray, List.set_cons_zero, List.set_cons_succ]
          refine wpAnyH_take (i := 9) (oi := { dst := some 51, op := Op.slice 23 (Operand.tmp 50) (some (Operand.const (Value.int IntKind.i64 6))) none none, type := 23, pos := "ref.go:384", after := #[{ on := 8, ground := Ground.data }], guard := none }) (v := ?tkv3007) rfl (by kernel_rfl) (by kernel_rfl) (by kernel_rfl) (fun _ _ _ h => h) (Or.inl ⟨by rfl, ?tky3007⟩) hH0 ?tkr3007
          case tky3007 => (intro w' hSw; clear hSw; go_simp; try with_reducible rfl)
          try simp only [Act.put, List.setIfInBounds_toArray, List.set_cons_zero, List.set_cons_succ]
          refine wpAnyH_take (i := 13) (oi := { dst := some 55, op := Op.fieldAddr 30 (Operand.tmp 5) 4, type := 0, pos := "ref.go:384", after := #[], guard := none }) (v := ?tkv3008) rfl (by kernel_rfl) (by kernel_rfl) (by kernel_rfl) (fun _ _ _ h => h) (Or.inl ⟨by rfl, ?tky3008⟩) hH0 ?tkr3008
          case tky3008 => (intro w' hSw; clear hSw; go_simp; try with_reducible rfl)
          try simp only [Act.put, List.setIfInBounds_toArray, List.set_cons_zero, List.set_cons_succ]
          refine wpAnyH_ready (rs := [3, 10]) (by kernel_rfl) (by simp) ?_
          refine AllReadyH.cons (o := { dst := some 45, op := Op.call { callee := Callee.value (Operand.func 39), args := #[Operand.tmp 44], argTypes := #[23] }, type := 22, pos := "ref.go:384", after := #[{ on := 2, ground := Ground.data }], guard := none }) rfl (fun K hK => ?_) (AllReadyH.cons (o := { dst := some 52, op := Op.buildSlice 69 1 #[(0, Operand.tmp 51)], type := 69, pos := "ref.go:384", after := #[{ on := 9, ground := Ground.data }], guard := none }) rfl (fun K hK => ?_) AllReadyH.nil)
          · go_simp
            refine (r1num_any 4 wd3000.heap.size _ _ _ wd3000 (HQ1.out wd3000 (hH0)).row (by omega)).mono ?_
            rintro e' _ ⟨rfl, rfl⟩
            go_simp
            have hS3009 : QS w wq wd3000 := hH0
            refine hK.out _ _ hS3009 (fun hH3009 => ?_)
            have hH3009 : QS w wq wd3000 := hH3009
            clear hK K hS3009
            try simp only [Act.put, List.setIfInBounds_toArray, List.set_cons_zero, List.set_cons_succ]
            refine wpAnyH_ready (rs := [6, 10]) (by kernel_rfl) (by simp) ?_
            refine AllReadyH.cons (o := { dst := some 48, op := Op.call { callee := Callee.value (Operand.func 39), args := #[Operand.tmp 47], argTypes := #[23] }, type := 22, pos := "ref.go:384", after := #[{ on := 5, ground := Ground.data }, { on := 3, ground := Ground.chain }], guard := none }) rfl (fun K hK => ?_) (AllReadyH.cons (o := { dst := some 52, op := Op.buildSlice 69 1 #[(0, Operand.tmp 51)], type := 69, pos := "ref.go:384", after := #[{ on := 9, ground := Ground.data }], guard := none }) rfl (fun K hK => ?_) AllReadyH.nil)
            · go_simp
              refine (r1num_any 2 wd3000.heap.size _ _ _ wd3000 (HQ2.out wd3000 (hH3009)).row (by omega)).mono ?_
              rintro e' _ ⟨rfl, rfl⟩
              go_simp
              have hS3010 : QS w wq wd3000 := hH3009
              refine hK.out _ _ hS3010 (fun hH3010 => ?_)
              have hH3010 : QS w wq wd3000 := hH3010
              clear hK K hS3010
              try simp only [Act.put, List.setIfInBounds_toArray, List.set_cons_zero, List.set_cons_succ]
              refine wpAnyH_take (i := 7) (oi := { dst := some 49, op := Op.convert 22 3 (Operand.tmp 48), type := 3, pos := "ref.go:384", after := #[{ on := 6, ground := Ground.data }], guard := none }) (v := ?tkv3011) rfl (by kernel_rfl) (by kernel_rfl) (by kernel_rfl) (fun _ _ _ h => h) (Or.inl ⟨by rfl, ?tky3011⟩) hH3010 ?tkr3011
              case tky3011 => (intro w' hSw; clear hSw; go_simp; try with_reducible rfl)
              try simp only [Act.put, List.setIfInBounds_toArray, List.set_cons_zero, List.set_cons_succ]
              refine wpAnyH_ready (rs := [10]) (by kernel_rfl) (by simp) ?_
              refine AllReadyH.cons (o := { dst := some 52, op := Op.buildSlice 69 1 #[(0, Operand.tmp 51)], type := 69, pos := "ref.go:384", after := #[{ on := 9, ground := Ground.data }], guard := none }) rfl (fun K hK => ?_) AllReadyH.nil
              go_simp
              have hb3012 : Below wd3000.heap.size wd3000 (wd3000.alloc (.cells #[.slice (some ⟨b, o + 6, none⟩) 32 (cy - 6)] 23)) := (Below.refl _ _).alloc (Nat.le_refl _) _
              have BX3012 : Hid ((wd3000.alloc (.cells #[.slice (some ⟨b, o + 6, none⟩) 32 (cy - 6)] 23)).heap[wd3000.heap.size]? = some (.cells #[.slice (some ⟨b, o + 6, none⟩) 32 (cy - 6)] 23 (0, 0))) := Lib.hid (heap_alloc_new _ _)
              have LX3012 : Hid (wd3000.heap.size < (wd3000.alloc (.cells #[.slice (some ⟨b, o + 6, none⟩) 32 (cy - 6)] 23)).heap.size) := Lib.hid (by simp)
              generalize (wd3000.alloc (.cells #[.slice (some ⟨b, o + 6, none⟩) 32 (cy - 6)] 23)) = wn3012 at *
              have X5d_3012 := Lib.hid ((hb3012.block (w.heap.size + 2) L5d.out).trans X5d.out)
              have L5d_3012 := Lib.hid (Nat.lt_of_lt_of_le L5d.out hb3012.size)
              have hS3012 : QS w wq wn3012 := ((hH3010).next hb3012)
              refine hK.out _ _ hS3012 (fun hH3012 => ?_)
              have hH3012 : QS w wq wn3012 := hH3012
              clear hK K hS3012
              try simp only [Act.put, List.setIfInBounds_toArray, List.set_cons_zero, List.set_cons_succ]
              refine wpAnyH_ready (rs := [11]) (by kernel_rfl) (by simp) ?_
              refine AllReadyH.cons (o := { dst := some 53, op := Op.call { callee := Callee.value (Operand.func 24), args := #[Operand.tmp 52], argTypes := #[69] }, type := 23, pos := "ref.go:384", after := #[{ on := 10, ground := Ground.data }, { on := 6, ground := Ground.chain }], guard := none }) rfl (fun K hK => ?_) AllReadyH.nil
              go_simp
              refine (join_box [⟨some ⟨b, o + 6, none⟩, 32, cy - 6, ly.drop 6⟩] 1 rfl rfl BX3012.out (by
                intro r hr
                simp only [List.mem_cons, List.not_mem_nil, or_false] at hr
                subst hr
                exact HQ3.out _ (hH3012)) (by simp) (by have := HLY.out; simp [flat]; omega) (l := ly.drop 6) (by simp [flat])).mono ?_
              rintro e' wn3013 ⟨Ah, nh, ch, rfl, hnh, hoh, hb3013⟩
              have hnh2 := hnh.out
              rw [HD6.out] at hnh2
              subst hnh2
              have RH := Lib.hid (own_rowP (lo := w.heap.size + 2) hoh (Nat.lt_of_lt_of_le LW.out (QS.size (hH3012))))
              clear hoh hnh
              go_simp
              have X5d_3013 := Lib.hid ((hb3013.block (w.heap.size + 2) L5d_3012.out).trans X5d_3012.out)
              have L5d_3013 := Lib.hid (Nat.lt_of_lt_of_le L5d_3012.out hb3013.size)
              have BX3012_3013 := Lib.hid ((hb3013.block wd3000.heap.size LX3012.out).trans BX3012.out)
              have LX3012_3013 := Lib.hid (Nat.lt_of_lt_of_le LX3012.out hb3013.size)
              have hS3013 : QS w wq wn3013 := ((hH3012).next hb3013)
              refine hK.out _ _ hS3013 (fun hH3013 => ?_)
              have hH3013 : QS w wq wn3013 := hH3013
              clear hK K hS3013
              try simp only [Act.put, List.setIfInBounds_toArray, List.set_cons_zero, List.set_cons_succ]
              refine wpAnyH_take (i := 12) (oi := { dst := some 54, op := Op.build 25 #[(0, Operand.tmp 45), (1, Operand.tmp 49), (2, Operand.tmp 53)], type := 25, pos := "ref.go:384", after := #[{ on := 3, ground := Ground.data }, { on := 7, ground := Ground.data }, { on := 11, ground := Ground.data }], guard := none }) (v := ?tkv3014) rfl (by kernel_rfl) (by kernel_rfl) (by kernel_rfl) (fun _ _ _ h => h) (Or.inl ⟨by rfl, ?tky3014⟩) hH3013 ?tkr3014
              case tky3014 => (intro w' hSw; clear hSw; go_simp; try with_reducible rfl)
              try simp only [Act.put, List.setIfInBounds_toArray, List.set_cons_zero, List.set_cons_succ]
              refine wpAnyH_take (i := 14) (oi := { dst := some 56, op := Op.indexAddr 26 (Operand.tmp 55) (Operand.tmp 42), type := 0, pos := "ref.go:384", after := #[{ on := 13, ground := Ground.data }, { on := 0, ground := Ground.data }, { on := 0, ground := Ground.phase }, { on := 1, ground := Ground.phase }, { on := 2, ground := Ground.phase }, { on := 3, ground := Ground.phase }, { on := 4, ground := Ground.phase }, { on := 5, ground := Ground.phase }, { on := 6, ground := Ground.phase }, { on := 7, ground := Ground.phase }, { on := 8, ground := Ground.phase }, { on := 9, ground := Ground.phase }, { on := 10, ground := Ground.phase }, { on := 11, ground := Ground.phase }, { on := 12, ground := Ground.phase }], guard := none }) (v := ?tkv3015) rfl (by kernel_rfl) (by kernel_rfl) (by kernel_rfl) (fun _ _ _ h => h) (Or.inl ⟨by rfl, ?tky3015⟩) hH3013 ?tkr3015
              case tky3015 => (intro w' hSw; clear hSw; go_simp; try with_reducible rfl)
              try simp only [Act.put, List.setIfInBounds_toArray, List.set_cons_zero, List.set_cons_succ]
              refine wpAnyH_ready (rs := [15]) (by kernel_rfl) (by simp) ?_
              refine AllReadyH.cons (o := { dst := none, op := Op.store 25 (Operand.tmp 56) (Operand.tmp 54), type := 0, pos := "ref.go:384", after := #[{ on := 14, ground := Ground.data }, { on := 12, ground := Ground.data }, { on := 11, ground := Ground.chain }, { on := 0, ground := Ground.phase }, { on := 1, ground := Ground.phase }, { on := 2, ground := Ground.phase }, { on := 3, ground := Ground.phase }, { on := 4, ground := Ground.phase }, { on := 5, ground := Ground.phase }, { on := 6, ground := Ground.phase }, { on := 7, ground := Ground.phase }, { on := 8, ground := Ground.phase }, { on := 9, ground := Ground.phase }, { on := 10, ground := Ground.phase }, { on := 11, ground := Ground.phase }, { on := 12, ground := Ground.phase }], guard := none }) rfl (fun K hK => ?_) AllReadyH.nil
              rw [if_pos (by rfl)]
              rw [HW2.out]
              refine wp_store_mid _ _ _ rfl (w.heap.size + 2) 4 #[.int .u32 (CrcM.number (ly.take 4) : Nat), .int .i64 (CrcM.number ((ly.drop 4).take 2) : Nat), .slice Ah 32 ch] rfl rfl (there3 X5d_3013.out 4 (by simp)) (by kernel_rfl) (by simp [Value.oneCell']) ?_
              have hS3016 : QS w wq (wn3013.setCells (w.heap.size + 2) 4 (#[.int .u32 (CrcM.number (ly.take 4) : Nat), .int .i64 (CrcM.number ((ly.drop 4).take 2) : Nat), .slice Ah 32 ch] : Array Value).toList) := (QS.set3 (hH3013) 4 _ _ _)
              refine hK.out _ _ hS3016 (fun hH3016 => ?_)
              have hH3016 : QS w wq (wn3013.setCells (w.heap.size + 2) 4 (#[.int .u32 (CrcM.number (ly.take 4) : Nat), .int .i64 (CrcM.number ((ly.drop 4).take 2) : Nat), .slice Ah 32 ch] : Array Value).toList) := hH3016
              clear hK K hS3016
              refine wpAnyH_done (by kernel_rfl) ?_ _
              refine NoPanic.normal ?_
              have QE : Hid (QS w wq (wn3013.setCells (w.heap.size + 2) 4 [.int .u32 (CrcM.number (ly.take 4) : Nat), .int .i64 (CrcM.number ((ly.drop 4).take 2) : Nat), .slice Ah 32 ch])) := Lib.hid (hH3016)
              have PE := Lib.hid (PQ.out.qs QE.out (set3_heap X5d_3013.out))
              have hrw : RowP (wn3013.setCells (w.heap.size + 2) 4 [.int .u32 (CrcM.number (ly.take 4) : Nat), .int .i64 (CrcM.number ((ly.drop 4).take 2) : Nat), .slice Ah 32 ch]) (fun b => w.heap.size + 2 < b) Ah (slotOf ly).h.length (bv (slotOf ly).h) := by
                show RowP _ _ Ah (ly.drop 6).length (bv (ly.drop 6))
                rw [HD6.out]
                exact RH.out.set3 _ _ _ _
              have hn : Hid (PLoop w y0 y1 n3 n4 S0 S1 r3 r4 r5 1 (wn3013.setCells (w.heap.size + 2) 4 [.int .u32 (CrcM.number (ly.take 4) : Nat), .int .i64 (CrcM.number ((ly.drop 4).take 2) : Nat), .slice Ah 32 ch])) := Lib.hid (.inr (.inl ⟨rfl, Ah, ch, by rw [ES.out]; exact hrw, by rw [ES.out]; exact PE.out.cast (by simp [slotOf, HD6.out])⟩))
              clear PE RH QE hrw
              go_wp2_with fail
              go_roundw
              case rel => exact ⟨1, by omega, by go_num, hn⟩
              case measure => simp [intOf]
            · go_simp
              have hb3017 : Below wd3000.heap.size wd3000 (wd3000.alloc (.cells #[.slice (some ⟨b, o + 6, none⟩) 32 (cy - 6)] 23)) := (Below.refl _ _).alloc (Nat.le_refl _) _
              have BX3017 : Hid ((wd3000.alloc (.cells #[.slice (some ⟨b, o + 6, none⟩) 32 (cy - 6)] 23)).heap[wd3000.heap.size]? = some (.cells #[.slice (some ⟨b, o + 6, none⟩) 32 (cy - 6)] 23 (0, 0))) := Lib.hid (heap_alloc_new _ _)
              have LX3017 : Hid (wd3000.heap.size < (wd3000.alloc (.cells #[.slice (some ⟨b, o + 6, none⟩) 32 (cy - 6)] 23)).heap.size) := Lib.hid (by simp)
              generalize (wd3000.alloc (.cells #[.slice (some ⟨b, o + 6, none⟩) 32 (cy - 6)] 23)) = wn3017 at *
              have X5d_3017 := Lib.hid ((hb3017.block (w.heap.size + 2) L5d.out).trans X5d.out)
              have L5d_3017 := Lib.hid (Nat.lt_of_lt_of_le L5d.out hb3017.size)
              have hS3017 : QS w wq wn3017 := ((hH3009).next hb3017)
              refine hK.out _ _ hS3017 (fun hH3017 => ?_)
              have hH3017 : QS w wq wn3017 := hH3017
              clear hK K hS3017
              try simp only [Act.put, List.setIfInBounds_toArray, List.set_cons_zero, List.set_cons_succ]
              refine wpAnyH_ready (rs := [6]) (by kernel_rfl) (by simp) ?_
              refine AllReadyH.cons (o := { dst := some 48, op := Op.call { callee := Callee.value (Operand.func 39), args := #[Operand.tmp 47], argTypes := #[23] }, type := 22, pos := "ref.go:384", after := #[{ on := 5, ground := Ground.data }, { on := 3, ground := Ground.chain }], guard := none }) rfl (fun K hK => ?_) AllReadyH.nil
              go_simp
              refine (r1num_any 2 wn3017.heap.size _ _ _ wn3017 (HQ2.out wn3017 (hH3017)).row (by omega)).mono ?_
              rintro e' _ ⟨rfl, rfl⟩
              go_simp
              have hS3018 : QS w wq wn3017 := hH3017
              refine hK.out _ _ hS3018 (fun hH3018 => ?_)
              have hH3018 : QS w wq wn3017 := hH3018
              clear hK K hS3018
              try simp only [Act.put, List.setIfInBounds_toArray, List.set_cons_zero, List.set_cons_succ]
              refine wpAnyH_take (i := 7) (oi := { dst := some 49, op := Op.convert 22 3 (Operand.tmp 48), type := 3, pos := "ref.go:384", after := #[{ on := 6, ground := Ground.data }], guard := none }) (v := ?tkv3019) rfl (by kernel_rfl) (by kernel_rfl) (by kernel_rfl) (fun _ _ _ h => h) (Or.inl ⟨by rfl, ?tky3019⟩) hH3018 ?tkr3019
              case tky3019 => (intro w' hSw; clear hSw; go_simp; try with_reducible rfl)
              try simp only [Act.put, List.setIfInBounds_toArray, List.set_cons_zero, List.set_cons_succ]
              refine wpAnyH_ready (rs := [11]) (by kernel_rfl) (by simp) ?_
              refine AllReadyH.cons (o := { dst := some 53, op := Op.call { callee := Callee.value (Operand.func 24), args := #[Operand.tmp 52], argTypes := #[69] }, type := 23, pos := "ref.go:384", after := #[{ on := 10, ground := Ground.data }, { on := 6, ground := Ground.chain }], guard := none }) rfl (fun K hK => ?_) AllReadyH.nil
              go_simp
              refine (join_box [⟨some ⟨b, o + 6, none⟩, 32, cy - 6, ly.drop 6⟩] 1 rfl rfl BX3017.out (by
                intro r hr
                simp only [List.mem_cons, List.not_mem_nil, or_false] at hr
                subst hr
                exact HQ3.out _ (hH3018)) (by simp) (by have := HLY.out; simp [flat]; omega) (l := ly.drop 6) (by simp [flat])).mono ?_
              rintro e' wn3020 ⟨Ah, nh, ch, rfl, hnh, hoh, hb3020⟩
              have hnh2 := hnh.out
              rw [HD6.out] at hnh2
              subst hnh2
              have RH := Lib.hid (own_rowP (lo := w.heap.size + 2) hoh (Nat.lt_of_lt_of_le LW.out (QS.size (hH3018))))
              clear hoh hnh
              go_simp
              have X5d_3020 := Lib.hid ((hb3020.block (w.heap.size + 2) L5d_3017.out).trans X5d_3017.out)
              have L5d_3020 := Lib.hid (Nat.lt_of_lt_of_le L5d_3017.out hb3020.size)
              have BX3017_3020 := Lib.hid ((hb3020.block wd3000.heap.size LX3017.out).trans BX3017.out)
              have LX3017_3020 := Lib.hid (Nat.lt_of_lt_of_le LX3017.out hb3020.size)
              have hS3020 : QS w wq wn3020 := ((hH3018).next hb3020)
              refine hK.out _ _ hS3020 (fun hH3020 => ?_)
              have hH3020 : QS w wq wn3020 := hH3020
              clear hK K hS3020
              try simp only [Act.put, List.setIfInBounds_toArray, List.set_cons_zero, List.set_cons_succ]
              refine wpAnyH_take (i := 12) (oi := { dst := some 54, op := Op.build 25 #[(0, Operand.tmp 45), (1, Operand.tmp 49), (2, Operand.tmp 53)], type := 25, pos := "ref.go:384", after := #[{ on := 3, ground := Ground.data }, { on := 7, ground := Ground.data }, { on := 11, ground := Ground.data }], guard := none }) (v := ?tkv3021) rfl (by kernel_rfl) (by kernel_rfl) (by kernel_rfl) (fun _ _ _ h => h) (Or.inl ⟨by rfl, ?tky3021⟩) hH3020 ?tkr3021
              case tky3021 => (intro w' hSw; clear hSw; go_simp; try with_reducible rfl)
              try simp only [Act.put, List.setIfInBounds_toArray, List.set_cons_zero, List.set_cons_succ]
              refine wpAnyH_take (i := 14) (oi := { dst := some 56, op := Op.indexAddr 26 (Operand.tmp 55) (Operand.tmp 42), type := 0, pos := "ref.go:384", after := #[{ on := 13, ground := Ground.data }, { on := 0, ground := Ground.data }, { on := 0, ground := Ground.phase }, { on := 1, ground := Ground.phase }, { on := 2, ground := Ground.phase }, { on := 3, ground := Ground.phase }, { on := 4, ground := Ground.phase }, { on := 5, ground := Ground.phase }, { on := 6, ground := Ground.phase }, { on := 7, ground := Ground.phase }, { on := 8, ground := Ground.phase }, { on := 9, ground := Ground.phase }, { on := 10, ground := Ground.phase }, { on := 11, ground := Ground.phase }, { on := 12, ground := Ground.phase }], guard := none }) (v := ?tkv3022) rfl (by kernel_rfl) (by kernel_rfl) (by kernel_rfl) (fun _ _ _ h => h) (Or.inl ⟨by rfl, ?tky3022⟩) hH3020 ?tkr3022
              case tky3022 => (intro w' hSw; clear hSw; go_simp; try with_reducible rfl)
              try simp only [Act.put, List.setIfInBounds_toArray, List.set_cons_zero, List.set_cons_succ]
              refine wpAnyH_ready (rs := [15]) (by kernel_rfl) (by simp) ?_
              refine AllReadyH.cons (o := { dst := none, op := Op.store 25 (Operand.tmp 56) (Operand.tmp 54), type := 0, pos := "ref.go:384", after := #[{ on := 14, ground := Ground.data }, { on := 12, ground := Ground.data }, { on := 11, ground := Ground.chain }, { on := 0, ground := Ground.phase }, { on := 1, ground := Ground.phase }, { on := 2, ground := Ground.phase }, { on := 3, ground := Ground.phase }, { on := 4, ground := Ground.phase }, { on := 5, ground := Ground.phase }, { on := 6, ground := Ground.phase }, { on := 7, ground := Ground.phase }, { on := 8, ground := Ground.phase }, { on := 9, ground := Ground.phase }, { on := 10, ground := Ground.phase }, { on := 11, ground := Ground.phase }, { on := 12, ground := Ground.phase }], guard := none }) rfl (fun K hK => ?_) AllReadyH.nil
              rw [if_pos (by rfl)]
              rw [HW2.out]
              refine wp_store_mid _ _ _ rfl (w.heap.size + 2) 4 #[.int .u32 (CrcM.number (ly.take 4) : Nat), .int .i64 (CrcM.number ((ly.drop 4).take 2) : Nat), .slice Ah 32 ch] rfl rfl (there3 X5d_3020.out 4 (by simp)) (by kernel_rfl) (by simp [Value.oneCell']) ?_
              have hS3023 : QS w wq (wn3020.setCells (w.heap.size + 2) 4 (#[.int .u32 (CrcM.number (ly.take 4) : Nat), .int .i64 (CrcM.number ((ly.drop 4).take 2) : Nat), .slice Ah 32 ch] : Array Value).toList) := (QS.set3 (hH3020) 4 _ _ _)
              refine hK.out _ _ hS3023 (fun hH3023 => ?_)
              have hH3023 : QS w wq (wn3020.setCells (w.heap.size + 2) 4 (#[.int .u32 (CrcM.number (ly.take 4) : Nat), .int .i64 (CrcM.number ((ly.drop 4).take 2) : Nat), .slice Ah 32 ch] : Array Value).toList) := hH3023
              clear hK K hS3023
              refine wpAnyH_done (by kernel_rfl) ?_ _
              refine NoPanic.normal ?_
              have QE : Hid (QS w wq (wn3020.setCells (w.heap.size + 2) 4 [.int .u32 (CrcM.number (ly.take 4) : Nat), .int .i64 (CrcM.number ((ly.drop 4).take 2) : Nat), .slice Ah 32 ch])) := Lib.hid (hH3023)
              have PE := Lib.hid (PQ.out.qs QE.out (set3_heap X5d_3020.out))
              have hrw : RowP (wn3020.setCells (w.heap.size + 2) 4 [.int .u32 (CrcM.number (ly.take 4) : Nat), .int .i64 (CrcM.number ((ly.drop 4).take 2) : Nat), .slice Ah 32 ch]) (fun b => w.heap.size + 2 < b) Ah (slotOf ly).h.length (bv (slotOf ly).h) := by
                show RowP _ _ Ah (ly.drop 6).length (bv (ly.drop 6))
                rw [HD6.out]
                exact RH.out.set3 _ _ _ _
              have hn : Hid (PLoop w y0 y1 n3 n4 S0 S1 r3 r4 r5 1 (wn3020.setCells (w.heap.size + 2) 4 [.int .u32 (CrcM.number (ly.take 4) : Nat), .int .i64 (CrcM.number ((ly.drop 4).take 2) : Nat), .slice Ah 32 ch])) := Lib.hid (.inr (.inl ⟨rfl, Ah, ch, by rw [ES.out]; exact hrw, by rw [ES.out]; exact PE.out.cast (by simp [slotOf, HD6.out])⟩))
              clear PE RH QE hrw
              go_wp2_with fail
              go_roundw
              case rel => exact ⟨1, by omega, by go_num, hn⟩
              case measure => simp [intOf]
          · go_simp
            have hb3024 : Below wd3000.heap.size wd3000 (wd3000.alloc (.cells #[.slice (some ⟨b, o + 6, none⟩) 32 (cy - 6)] 23)) := (Below.refl _ _).alloc (Nat.le_refl _) _
            have BX3024 : Hid ((wd3000.alloc (.cells #[.slice (some ⟨b, o + 6, none⟩) 32 (cy - 6)] 23)).heap[wd3000.heap.size]? = some (.cells #[.slice (some ⟨b, o + 6, none⟩) 32 (cy - 6)] 23 (0, 0))) := Lib.hid (heap_alloc_new _ _)
            have LX3024 : Hid (wd3000.heap.size < (wd3000.alloc (.cells #[.slice (some ⟨b, o + 6, none⟩) 32 (cy - 6)] 23)).heap.size) := Lib.hid (by simp)
            generalize (wd3000.alloc (.cells #[.slice (some ⟨b, o + 6, none⟩) 32 (cy - 6)] 23)) = wn3024 at *
            have X5d_3024 := Lib.hid ((hb3024.block (w.heap.size + 2) L5d.out).trans X5d.out)
            have L5d_3024 := Lib.hid (Nat.lt_of_lt_of_le L5d.out hb3024.size)
            have hS3024 : QS w wq wn3024 := ((hH0).next hb3024)
            refine hK.out _ _ hS3024 (fun hH3024 => ?_)
            have hH3024 : QS w wq wn3024 := hH3024
            clear hK K hS3024
            try simp only [Act.put, List.setIfInBounds_toArray, List.set_cons_zero, List.set_cons_succ]
            refine wpAnyH_ready (rs := [3]) (by kernel_rfl) (by simp) ?_
            refine AllReadyH.cons (o := { dst := some 45, op := Op.call { callee := Callee.value (Operand.func 39), args := #[Operand.tmp 44], argTypes := #[23] }, type := 22, pos := "ref.go:384", after := #[{ on := 2, ground := Ground.data }], guard := none }) rfl (fun K hK => ?_) AllReadyH.nil
            go_simp
            refine (r1num_any 4 wn3024.heap.size _ _ _ wn3024 (HQ1.out wn3024 (hH3024)).row (by omega)).mono ?_
            rintro e' _ ⟨rfl, rfl⟩
            go_simp
            have hS3025 : QS w wq wn3024 := hH3024
            refine hK.out _ _ hS3025 (fun hH3025 => ?_)
            have hH3025 : QS w wq wn3024 := hH3025
            clear hK K hS3025
            try simp only [Act.put, List.setIfInBounds_toArray, List.set_cons_zero, List.set_cons_succ]
            refine wpAnyH_ready (rs := [6]) (by kernel_rfl) (by simp) ?_
            refine AllReadyH.cons (o := { dst := some 48, op := Op.call { callee := Callee.value (Operand.func 39), args := #[Operand.tmp 47], argTypes := #[23] }, type := 22, pos := "ref.go:384", after := #[{ on := 5, ground := Ground.data }, { on := 3, ground := Ground.chain }], guard := none }) rfl (fun K hK => ?_) AllReadyH.nil
            go_simp
            refine (r1num_any 2 wn3024.heap.size _ _ _ wn3024 (HQ2.out wn3024 (hH3025)).row (by omega)).mono ?_
            rintro e' _ ⟨rfl, rfl⟩
            go_simp
            have hS3026 : QS w wq wn3024 := hH3025
            refine hK.out _ _ hS3026 (fun hH3026 => ?_)
            have hH3026 : QS w wq wn3024 := hH3026
            clear hK K hS3026
            try simp only [Act.put, List.setIfInBounds_toArray, List.set_cons_zero, List.set_cons_succ]
            refine wpAnyH_take (i := 7) (oi := { dst := some 49, op := Op.convert 22 3 (Operand.tmp 48), type := 3, pos := "ref.go:384", after := #[{ on := 6, ground := Ground.data }], guard := none }) (v := ?tkv3027) rfl (by kernel_rfl) (by kernel_rfl) (by kernel_rfl) (fun _ _ _ h => h) (Or.inl ⟨by rfl, ?tky3027⟩) hH3026 ?tkr3027
            case tky3027 => (intro w' hSw; clear hSw; go_simp; try with_reducible rfl)
            try simp only [Act.put, List.setIfInBounds_toArray, List.set_cons_zero, List.set_cons_succ]
            refine wpAnyH_ready (rs := [11]) (by kernel_rfl) (by simp) ?_
            refine AllReadyH.cons (o := { dst := some 53, op := Op.call { callee := Callee.value (Operand.func 24), args := #[Operand.tmp 52], argTypes := #[69] }, type := 23, pos := "ref.go:384", after := #[{ on := 10, ground := Ground.data }, { on := 6, ground := Ground.chain }], guard := none }) rfl (fun K hK => ?_) AllReadyH.nil
            go_simp
            refine (join_box [⟨some ⟨b, o + 6, none⟩, 32, cy - 6, ly.drop 6⟩] 1 rfl rfl BX3024.out (by
              intro r hr
              simp only [List.mem_cons, List.not_mem_nil, or_false] at hr
              subst hr
              exact HQ3.out _ (hH3026)) (by simp) (by have := HLY.out; simp [flat]; omega) (l := ly.drop 6) (by simp [flat])).mono ?_
            rintro e' wn3028 ⟨Ah, nh, ch, rfl, hnh, hoh, hb3028⟩
            have hnh2 := hnh.out
            rw [HD6.out] at hnh2
            subst hnh2
            have RH := Lib.hid (own_rowP (lo := w.heap.size + 2) hoh (Nat.lt_of_lt_of_le LW.out (QS.size (hH3026))))
            clear hoh hnh
            go_simp
            have X5d_3028 := Lib.hid ((hb3028.block (w.heap.size + 2) L5d_3024.out).trans X5d_3024.out)
            have L5d_3028 := Lib.hid (Nat.lt_of_lt_of_le L5d_3024.out hb3028.size)
            have BX3024_3028 := Lib.hid ((hb3028.block wd3000.heap.size LX3024.out).trans BX3024.out)
            have LX3024_3028 := Lib.hid (Nat.lt_of_lt_of_le LX3024.out hb3028.size)
            have hS3028 : QS w wq wn3028 := ((hH3026).next hb3028)
            refine hK.out _ _ hS3028 (fun hH3028 => ?_)
            have hH3028 : QS w wq wn3028 := hH3028
            clear hK K hS3028
            try simp only [Act.put, List.setIfInBounds_toArray, List.set_cons_zero, List.set_cons_succ]
            refine wpAnyH_take (i := 12) (oi := { dst := some 54, op := Op.build 25 #[(0, Operand.tmp 45), (1, Operand.tmp 49), (2, Operand.tmp 53)], type := 25, pos := "ref.go:384", after := #[{ on := 3, ground := Ground.data }, { on := 7, ground := Ground.data }, { on := 11, ground := Ground.data }], guard := none }) (v := ?tkv3029) rfl (by kernel_rfl) (by kernel_rfl) (by kernel_rfl) (fun _ _ _ h => h) (Or.inl ⟨by rfl, ?tky3029⟩) hH3028 ?tkr3029
            case tky3029 => (intro w' hSw; clear hSw; go_simp; try with_reducible rfl)
            try simp only [Act.put, List.setIfInBounds_toArray, List.set_cons_zero, List.set_cons_succ]
            refine wpAnyH_take (i := 14) (oi := { dst := some 56, op := Op.indexAddr 26 (Operand.tmp 55) (Operand.tmp 42), type := 0, pos := "ref.go:384", after := #[{ on := 13, ground := Ground.data }, { on := 0, ground := Ground.data }, { on := 0, ground := Ground.phase }, { on := 1, ground := Ground.phase }, { on := 2, ground := Ground.phase }, { on := 3, ground := Ground.phase }, { on := 4, ground := Ground.phase }, { on := 5, ground := Ground.phase }, { on := 6, ground := Ground.phase }, { on := 7, ground := Ground.phase }, { on := 8, ground := Ground.phase }, { on := 9, ground := Ground.phase }, { on := 10, ground := Ground.phase }, { on := 11, ground := Ground.phase }, { on := 12, ground := Ground.phase }], guard := none }) (v := ?tkv3030) rfl (by kernel_rfl) (by kernel_rfl) (by kernel_rfl) (fun _ _ _ h => h) (Or.inl ⟨by rfl, ?tky3030⟩) hH3028 ?tkr3030
            case tky3030 => (intro w' hSw; clear hSw; go_simp; try with_reducible rfl)
            try simp only [Act.put, List.setIfInBounds_toArray, List.set_cons_zero, List.set_cons_succ]
            refine wpAnyH_ready (rs := [15]) (by kernel_rfl) (by simp) ?_
            refine AllReadyH.cons (o := { dst := none, op := Op.store 25 (Operand.tmp 56) (Operand.tmp 54), type := 0, pos := "ref.go:384", after := #[{ on := 14, ground := Ground.data }, { on := 12, ground := Ground.data }, { on := 11, ground := Ground.chain }, { on := 0, ground := Ground.phase }, { on := 1, ground := Ground.phase }, { on := 2, ground := Ground.phase }, { on := 3, ground := Ground.phase }, { on := 4, ground := Ground.phase }, { on := 5, ground := Ground.phase }, { on := 6, ground := Ground.phase }, { on := 7, ground := Ground.phase }, { on := 8, ground := Ground.phase }, { on := 9, ground := Ground.phase }, { on := 10, ground := Ground.phase }, { on := 11, ground := Ground.phase }, { on := 12, ground := Ground.phase }], guard := none }) rfl (fun K hK => ?_) AllReadyH.nil
            rw [if_pos (by rfl)]
            rw [HW2.out]
            refine wp_store_mid _ _ _ rfl (w.heap.size + 2) 4 #[.int .u32 (CrcM.number (ly.take 4) : Nat), .int .i64 (CrcM.number ((ly.drop 4).take 2) : Nat), .slice Ah 32 ch] rfl rfl (there3 X5d_3028.out 4 (by simp)) (by kernel_rfl) (by simp [Value.oneCell']) ?_
            have hS3031 : QS w wq (wn3028.setCells (w.heap.size + 2) 4 (#[.int .u32 (CrcM.number (ly.take 4) : Nat), .int .i64 (CrcM.number ((ly.drop 4).take 2) : Nat), .slice Ah 32 ch] : Array Value).toList) := (QS.set3 (hH3028) 4 _ _ _)
            refine hK.out _ _ hS3031 (fun hH3031 => ?_)
            have hH3031 : QS w wq (wn3028.setCells (w.heap.size + 2) 4 (#[.int .u32 (CrcM.number (ly.take 4) : Nat), .int .i64 (CrcM.number ((ly.drop 4).take 2) : Nat), .slice Ah 32 ch] : Array Value).toList) := hH3031
            clear hK K hS3031
            refine wpAnyH_done (by kernel_rfl) ?_ _
            refine NoPanic.normal ?_
            have QE : Hid (QS w wq (wn3028.setCells (w.heap.size + 2) 4 [.int .u32 (CrcM.number (ly.take 4) : Nat), .int .i64 (CrcM.number ((ly.drop 4).take 2) : Nat), .slice Ah 32 ch])) := Lib.hid (hH3031)
            have PE := Lib.hid (PQ.out.qs QE.out (set3_heap X5d_3028.out))
            have hrw : RowP (wn3028.setCells (w.heap.size + 2) 4 [.int .u32 (CrcM.number (ly.take 4) : Nat), .int .i64 (CrcM.number ((ly.drop 4).take 2) : Nat), .slice Ah 32 ch]) (fun b => w.heap.size + 2 < b) Ah (slotOf ly).h.length (bv (slotOf ly).h) := by
              show RowP _ _ Ah (ly.drop 6).length (bv (ly.drop 6))
              rw [HD6.out]
              exact RH.out.set3 _ _ _ _
            have hn : Hid (PLoop w y0 y1 n3 n4 S0 S1 r3 r4 r5 1 (wn3028.setCells (w.heap.size + 2) 4 [.int .u32 (CrcM.number (ly.take 4) : Nat), .int .i64 (CrcM.number ((ly.drop 4).take 2) : Nat), .slice Ah 32 ch])) := Lib.hid (.inr (.inl ⟨rfl, Ah, ch, by rw [ES.out]; exact hrw, by rw [ES.out]; exact PE.out.cast (by simp [slotOf, HD6.out])⟩))
            clear PE RH QE hrw
            go_wp2_with fail
            go_roundw
            case rel => exact ⟨1, by omega, by go_num, hn⟩
            case measure => simp [intOf]
      · have HA := Lib.hid ha
        clear ha
        have HP := Lib.hid hs
        clear hs hL
        go_wp2_with fail
        refine (rflag2_any HP.out.rd).mono ?_
        rintro e wf ⟨rfl, hto⟩
        cases hfl : r4.flag.1 with
        | false =>
          have hsl := HS1.out
          rw [slot2_no hfl] at hsl
          have ES0 : S1 = LSlot.zero := (congrArg Prod.fst hsl).symm
          have ER : r4.flag.2 = r5 := congrArg Prod.snd hsl
          rw [ER] at hto
          have hn : Hid (PLoop w y0 y1 n3 n4 S0 S1 r3 r4 r5 2 wf) := Lib.hid (.inr (.inr ⟨rfl, A0, c0, none, 0, HA.out.rdP hto.out (by omega), by rw [ES0]; exact .nil _ _ _, (HP.out.next hto.out).cast (by rw [ES0]; rfl)⟩))
          clear hsl ES0 ER hto HP hfl
          go_wp2_with fail
          go_roundw
          case rel => exact ⟨2, by omega, by go_num, hn⟩
          case measure => simp [intOf]
        | true =>
          have hsl := HS1.out
          rw [slot2_yes hfl] at hsl
          have ES0 : S1 = slotOf (r4.flag.2.got 38) := (congrArg Prod.fst hsl).symm
          have ER : r4.flag.2.past 38 = r5 := congrArg Prod.snd hsl
          have PF := Lib.hid (HP.out.next hto.out)
          have HAf := Lib.hid (HA.out.rdP hto.out (by omega))
          clear hsl hto HP hfl
          generalize r4.flag.2 = rf at *
          go_wp2_with fail
          refine (rtake2_any 38 (by omega) (by omega) PF.out.rd).mono ?_
          rintro e wq ⟨Ay, cy, rfl, hcy, hrow, hto⟩
          have hly := got_length rf 38
          rw [ER] at hto
          obtain ⟨ly, hlyd⟩ : ∃ ly, rf.got 38 = ly := ⟨_, rfl⟩
          rw [hlyd] at hrow hly ES0
          have PQ := Lib.hid (PF.out.next hto.out)
          have HA0 := Lib.hid (HAf.out.rdP hto.out (by omega))
          obtain ⟨b, o, rfl, hbw, -⟩ := hrow.out.row.byteAt (k := 0) (by omega)
          have HLY := Lib.hid hly
          have ES := Lib.hid ES0
          have HRY := Lib.hid (hrow.out.imp (P' := fun b => b ≠ w.heap.size + 2) fun b hlt hb => by have := (Array.getElem?_eq_some_iff.1 PF.out.x5).1; rcases hb with hb | hb <;> omega)
          have LW : Hid (w.heap.size + 2 < wq.heap.size) := Lib.hid (Array.getElem?_eq_some_iff.1 PQ.out.x5).1
          have HD6 : Hid ((ly.drop 6).length = 32) := Lib.hid (by simp; omega)
          have HQ0 : Hid (∀ W, QS w wq W → RowP W (fun _ => True) (some ⟨b, o, none⟩) 38 (bv ly)) := Lib.hid fun W hW => (HRY.out.qs' hW).imp fun _ _ _ => trivial
          have HQ1 : Hid (∀ W, QS w wq W → RowP W (fun _ => True) (some ⟨b, o, none⟩) 4 (bv (ly.take 4))) := Lib.hid fun W hW => by rw [← bv_take]; exact RowP.of_row ((HQ0.out W hW).row.head (by omega))
          have HQ2 : Hid (∀ W, QS w wq W → RowP W (fun _ => True) (some ⟨b, o + 4, none⟩) 2 (bv ((ly.drop 4).take 2))) := Lib.hid fun W hW => by rw [← bv_take, ← bv_drop]; exact RowP.of_row ((HQ0.out W hW).row.sub (by omega) fun b' o' e _ => by injection e with e; injection e with e1 e2; subst e1 e2; rfl)
          have HQ3 : Hid (∀ W, QS w wq W → RowP W (fun _ => True) (some ⟨b, o + 6, none⟩) 32 (bv (ly.drop 6))) := Lib.hid fun W hW => by rw [← List.take_of_length_le (Nat.le_of_eq HD6.out), ← bv_take, ← bv_drop]; exact RowP.of_row ((HQ0.out W hW).row.sub (by omega) fun b' o' e _ => by injection e with e; injection e with e1 e2; subst e1 e2; rfl)
          have X5 := Lib.hid PQ.out.x5
          have L5 := LW
          have HW2 : Hid (IntKind.i64.wrap ((CrcM.number ((ly.drop 4).take 2) : Nat) : Int) = (CrcM.number ((ly.drop 4).take 2) : Nat)) := Lib.hid (IntWalk.i64_in _ (by have := num_lt2 ((ly.drop 4).take 2) (by simp; omega); omega))
          have q4 : (4 : Int) ≤ cy := by have := hcy.out; omega
          have q6 : (6 : Int) ≤ cy := by have := hcy.out; omega
          have n4' : ¬ (cy : Int) = 4 := by have := hcy.out; omega
          have n6 : ¬ (cy : Int) = 6 := by have := hcy.out; omega
          have m4 : ¬ cy = 4 := by have := hcy.out; omega
          have m6 : ¬ cy = 6 := by have := hcy.out; omega
          clear hcy hrow hto hly hlyd ER PF hbw HRY ES0 HAf HQ0
          go_upto_region 11 with fail
          refine wp_region_noPanic ?_
          refine wp_region_held_drew (S := (fun W => QS w wq W)) (by kernel_rfl) (QS.of_below (Below.refl _ _).drew) (fun hH0 => ?_)
          have hH0 : QS w wq wq.drew := hH0
          have X5d := Lib.hid (show wq.drew.heap[(w.heap.size + 2)]? = _ from X5.out)
          have L5d := Lib.hid (show (w.heap.size + 2) < wq.drew.heap.size from L5.out)
          generalize wq.drew = wd5000 at *
          refine wpAnyH_take (i := 0) (oi := { dst := some 42, op := Op.move (Operand.tmp 7), type := 3, pos := "ref.go:384", after := #[], guard := none }) (v := ?tkv5001) rfl (by kernel_rfl) (by kernel_rfl) (by kernel_rfl) (fun _ _ _ h => h) (Or.inl ⟨by rfl, ?tky5001⟩) hH0 ?tkr5001
          case tky5001 => (intro w' hSw; clear hSw; go_simp; try with_reducible rfl)
          try simp only [Act.put, List.setIfInBounds_toArray, List.set_cons_zero, List.set_cons_succ]
          refine wpAnyH_take (i := 1) (oi := { dst := some 43, op := Op.move (Operand.tmp 8), type := 23, pos := "ref.go:384", after := #[], guard := none }) (v := ?tkv5002) rfl (by kernel_rfl) (by kernel_rfl) (by kernel_rfl) (fun _ _ _ h => h) (Or.inl ⟨by rfl, ?tky5002⟩) hH0 ?tkr5002
          case tky5002 => (intro w' hSw; clear hSw; go_simp; try with_reducible rfl)
          try simp only [Act.put, List.setIfInBounds_toArray, List.set_cons_zero, List.set_cons_succ]
          refine wpAnyH_take (i := 2) (oi := { dst := some 44, op := Op.slice 23 (Operand.tmp 43) none (some (Operand.const (Value.int IntKind.i64 4))) none, type := 23, pos := "ref.go:384", after := #[{ on := 1, ground := Ground.data }], guard := none }) (v := ?tkv5003) rfl (by kernel_rfl) (by kernel_rfl) (by kernel_rfl) (fun _ _ _ h => h) (Or.inl ⟨by rfl, ?tky5003⟩) hH0 ?tkr5003
          case tky5003 => (intro w' hSw; clear hSw; go_simp; try with_reducible rfl)
          try simp only [Act.put, List.setIfInBounds_toArray, List.set_cons_zero, List.set_cons_succ]
          refine wpAnyH_take (i := 4) (oi := { dst := some 46, op := Op.move (Operand.tmp 8), type := 23, pos := "ref.go:384", after := #[], guard := none }) (v := ?tkv5004) rfl (by kernel_rfl) (by kernel_rfl) (by kernel_rfl) (fun _ _ _ h => h) (Or.inl ⟨by rfl, ?tky5004⟩) hH0 ?tkr5004
          case tky5004 => (intro w' hSw; clear hSw; go_simp; try with_reducible rfl)
          try simp only [Act.put, List.setIfInBounds_toArray, List.set_cons_zero, List.set_cons_succ]
          refine wpAnyH_take (i := 5) (oi := { dst := some 47, op := Op.slice 23 (Operand.tmp 46) (some (Operand.const (Value.int IntKind.i64 4))) (some (Operand.const (Value.int IntKind.i64 6))) none, type := 23, pos := "ref.go:384", after := #[{ on := 4, ground := Ground.data }], guard := none }) (v := ?tkv5005) rfl (by kernel_rfl) (by kernel_rfl) (by kernel_rfl) (fun _ _ _ h => h) (Or.inl ⟨by rfl, ?tky5005⟩) hH0 ?tkr5005
          case tky5005 => (intro w' hSw; clear hSw; go_simp; try with_reducible rfl)
          try simp only [Act.put, List.setIfInBounds_toArray, List.set_cons_zero, List.set_cons_succ]
          refine wpAnyH_take (i := 8) (oi := { dst := some 50, op := Op.move (Operand.tmp 8), type := 23, pos := "ref.go:384", after := #[], guard := none }) (v := ?tkv5006) rfl (by kernel_rfl) (by kernel_rfl) (by kernel_rfl) (fun _ _ _ h => h) (Or.inl ⟨by rfl, ?tky5006⟩) hH0 ?tkr5006
          case tky5006 => (intro w' hSw; clear hSw; go_simp; try with_reducible rfl)
          try simp only [Act.put, List.setIfInBounds_toArray, List.set_cons_zero, List.set_cons_succ]
          refine wpAnyH_take (i := 9) (oi := { dst := some 51, op := Op.slice 23 (Operand.tmp 50) (some (Operand.const (Value.int IntKind.i64 6))) none none, type := 23, pos := "ref.go:384", after := #[{ on := 8, ground := Ground.data }], guard := none }) (v := ?tkv5007) rfl (by kernel_rfl) (by kernel_rfl) (by kernel_rfl) (fun _ _ _ h => h) (Or.inl ⟨by rfl, ?tky5007⟩) hH0 ?tkr5007
          case tky5007 => (intro w' hSw; clear hSw; go_simp; try with_reducible rfl)
          try simp only [Act.put, List.setIfInBounds_toArray, List.set_cons_zero, List.set_cons_succ]
          refine wpAnyH_take (i := 13) (oi := { dst := some 55, op := Op.fieldAddr 30 (Operand.tmp 5) 4, type := 0, pos := "ref.go:384", after := #[], guard := none }) (v := ?tkv5008) rfl (by kernel_rfl) (by kernel_rfl) (by kernel_rfl) (fun _ _ _ h => h) (Or.inl ⟨by rfl, ?tky5008⟩) hH0 ?tkr5008
          case tky5008 => (intro w' hSw; clear hSw; go_simp; try with_reducible rfl)
          try simp only [Act.put, List.setIfInBounds_toArray, List.set_cons_zero, List.set_cons_succ]
          refine wpAnyH_ready (rs := [3, 10]) (by kernel_rfl) (by simp) ?_
          refine AllReadyH.cons (o := { dst := some 45, op := Op.call { callee := Callee.value (Operand.func 39), args := #[Operand.tmp 44], argTypes := #[23] }, type := 22, pos := "ref.go:384", after := #[{ on := 2, ground := Ground.data }], guard := none }) rfl (fun K hK => ?_) (AllReadyH.cons (o := { dst := some 52, op := Op.buildSlice 69 1 #[(0, Operand.tmp 51)], type := 69, pos := "ref.go:384", after := #[{ on := 9, ground := Ground.data }], guard := none }) rfl (fun K hK => ?_) AllReadyH.nil)
          · go_simp
            refine (r1num_any 4 wd5000.heap.size _ _ _ wd5000 (HQ1.out wd5000 (hH0)).row (by omega)).mono ?_
            rintro e' _ ⟨rfl, rfl⟩
            go_simp
            have hS5009 : QS w wq wd5000 := hH0
            refine hK.out _ _ hS5009 (fun hH5009 => ?_)
            have hH5009 : QS w wq wd5000 := hH5009
            clear hK K hS5009
            try simp only [Act.put, List.setIfInBounds_toArray, List.set_cons_zero, List.set_cons_succ]
            refine wpAnyH_ready (rs := [6, 10]) (by kernel_rfl) (by simp) ?_
            refine AllReadyH.cons (o := { dst := some 48, op := Op.call { callee := Callee.value (Operand.func 39), args := #[Operand.tmp 47], argTypes := #[23] }, type := 22, pos := "ref.go:384", after := #[{ on := 5, ground := Ground.data }, { on := 3, ground := Ground.chain }], guard := none }) rfl (fun K hK => ?_) (AllReadyH.cons (o := { dst := some 52, op := Op.buildSlice 69 1 #[(0, Operand.tmp 51)], type := 69, pos := "ref.go:384", after := #[{ on := 9, ground := Ground.data }], guard := none }) rfl (fun K hK => ?_) AllReadyH.nil)
            · go_simp
              refine (r1num_any 2 wd5000.heap.size _ _ _ wd5000 (HQ2.out wd5000 (hH5009)).row (by omega)).mono ?_
              rintro e' _ ⟨rfl, rfl⟩
              go_simp
              have hS5010 : QS w wq wd5000 := hH5009
              refine hK.out _ _ hS5010 (fun hH5010 => ?_)
              have hH5010 : QS w wq wd5000 := hH5010
              clear hK K hS5010
              try simp only [Act.put, List.setIfInBounds_toArray, List.set_cons_zero, List.set_cons_succ]
              refine wpAnyH_take (i := 7) (oi := { dst := some 49, op := Op.convert 22 3 (Operand.tmp 48), type := 3, pos := "ref.go:384", after := #[{ on := 6, ground := Ground.data }], guard := none }) (v := ?tkv5011) rfl (by kernel_rfl) (by kernel_rfl) (by kernel_rfl) (fun _ _ _ h => h) (Or.inl ⟨by rfl, ?tky5011⟩) hH5010 ?tkr5011
              case tky5011 => (intro w' hSw; clear hSw; go_simp; try with_reducible rfl)
              try simp only [Act.put, List.setIfInBounds_toArray, List.set_cons_zero, List.set_cons_succ]
              refine wpAnyH_ready (rs := [10]) (by kernel_rfl) (by simp) ?_
              refine AllReadyH.cons (o := { dst := some 52, op := Op.buildSlice 69 1 #[(0, Operand.tmp 51)], type := 69, pos := "ref.go:384", after := #[{ on := 9, ground := Ground.data }], guard := none }) rfl (fun K hK => ?_) AllReadyH.nil
              go_simp
              have hb5012 : Below wd5000.heap.size wd5000 (wd5000.alloc (.cells #[.slice (some ⟨b, o + 6, none⟩) 32 (cy - 6)] 23)) := (Below.refl _ _).alloc (Nat.le_refl _) _
              have BX5012 : Hid ((wd5000.alloc (.cells #[.slice (some ⟨b, o + 6, none⟩) 32 (cy - 6)] 23)).heap[wd5000.heap.size]? = some (.cells #[.slice (some ⟨b, o + 6, none⟩) 32 (cy - 6)] 23 (0, 0))) := Lib.hid (heap_alloc_new _ _)
              have LX5012 : Hid (wd5000.heap.size < (wd5000.alloc (.cells #[.slice (some ⟨b, o + 6, none⟩) 32 (cy - 6)] 23)).heap.size) := Lib.hid (by simp)
              generalize (wd5000.alloc (.cells #[.slice (some ⟨b, o + 6, none⟩) 32 (cy - 6)] 23)) = wn5012 at *
              have X5d_5012 := Lib.hid ((hb5012.block (w.heap.size + 2) L5d.out).trans X5d.out)
              have L5d_5012 := Lib.hid (Nat.lt_of_lt_of_le L5d.out hb5012.size)
              have hS5012 : QS w wq wn5012 := ((hH5010).next hb5012)
              refine hK.out _ _ hS5012 (fun hH5012 => ?_)
              have hH5012 : QS w wq wn5012 := hH5012
              clear hK K hS5012
              try simp only [Act.put, List.setIfInBounds_toArray, List.set_cons_zero, List.set_cons_succ]
              refine wpAnyH_ready (rs := [11]) (by kernel_rfl) (by simp) ?_
              refine AllReadyH.cons (o := { dst := some 53, op := Op.call { callee := Callee.value (Operand.func 24), args := #[Operand.tmp 52], argTypes := #[69] }, type := 23, pos := "ref.go:384", after := #[{ on := 10, ground := Ground.data }, { on := 6, ground := Ground.chain }], guard := none }) rfl (fun K hK => ?_) AllReadyH.nil
              go_simp
              refine (join_box [⟨some ⟨b, o + 6, none⟩, 32, cy - 6, ly.drop 6⟩] 1 rfl rfl BX5012.out (by
                intro r hr
                simp only [List.mem_cons, List.not_mem_nil, or_false] at hr
                subst hr
                exact HQ3.out _ (hH5012)) (by simp) (by have := HLY.out; simp [flat]; omega) (l := ly.drop 6) (by simp [flat])).mono ?_
              rintro e' wn5013 ⟨Ah, nh, ch, rfl, hnh, hoh, hb5013⟩
              have hnh2 := hnh.out
              rw [HD6.out] at hnh2
              subst hnh2
              have RH := Lib.hid (own_rowP (lo := w.heap.size + 2) hoh (Nat.lt_of_lt_of_le LW.out (QS.size (hH5012))))
              clear hoh hnh
              go_simp
              have X5d_5013 := Lib.hid ((hb5013.block (w.heap.size + 2) L5d_5012.out).trans X5d_5012.out)
              have L5d_5013 := Lib.hid (Nat.lt_of_lt_of_le L5d_5012.out hb5013.size)
              have BX5012_5013 := Lib.hid ((hb5013.block wd5000.heap.size LX5012.out).trans BX5012.out)
              have LX5012_5013 := Lib.hid (Nat.lt_of_lt_of_le LX5012.out hb5013.size)
              have hS5013 : QS w wq wn5013 := ((hH5012).next hb5013)
              refine hK.out _ _ hS5013 (fun hH5013 => ?_)
              have hH5013 : QS w wq wn5013 := hH5013
              clear hK K hS5013
              try simp only [Act.put, List.setIfInBounds_toArray, List.set_cons_zero, List.set_cons_succ]
              refine wpAnyH_take (i := 12) (oi := { dst := some 54, op := Op.build 25 #[(0, Operand.tmp 45), (1, Operand.tmp 49), (2, Operand.tmp 53)], type := 25, pos := "ref.go:384", after := #[{ on := 3, ground := Ground.data }, { on := 7, ground := Ground.data }, { on := 11, ground := Ground.data }], guard := none }) (v := ?tkv5014) rfl (by kernel_rfl) (by kernel_rfl) (by kernel_rfl) (fun _ _ _ h => h) (Or.inl ⟨by rfl, ?tky5014⟩) hH5013 ?tkr5014
              case tky5014 => (intro w' hSw; clear hSw; go_simp; try with_reducible rfl)
              try simp only [Act.put, List.setIfInBounds_toArray, List.set_cons_zero, List.set_cons_succ]
              refine wpAnyH_take (i := 14) (oi := { dst := some 56, op := Op.indexAddr 26 (Operand.tmp 55) (Operand.tmp 42), type := 0, pos := "ref.go:384", after := #[{ on := 13, ground := Ground.data }, { on := 0, ground := Ground.data }, { on := 0, ground := Ground.phase }, { on := 1, ground := Ground.phase }, { on := 2, ground := Ground.phase }, { on := 3, ground := Ground.phase }, { on := 4, ground := Ground.phase }, { on := 5, ground := Ground.phase }, { on := 6, ground := Ground.phase }, { on := 7, ground := Ground.phase }, { on := 8, ground := Ground.phase }, { on := 9, ground := Ground.phase }, { on := 10, ground := Ground.phase }, { on := 11, ground := Ground.phase }, { on := 12, ground := Ground.phase }], guard := none }) (v := ?tkv5015) rfl (by kernel_rfl) (by kernel_rfl) (by kernel_rfl) (fun _ _ _ h => h) (Or.inl ⟨by rfl, ?tky5015⟩) hH5013 ?tkr5015
              case tky5015 => (intro w' hSw; clear hSw; go_simp; try with_reducible rfl)
              try simp only [Act.put, List.setIfInBounds_toArray, List.set_cons_zero, List.set_cons_succ]
              refine wpAnyH_ready (rs := [15]) (by kernel_rfl) (by simp) ?_
              refine AllReadyH.cons (o := { dst := none, op := Op.store 25 (Operand.tmp 56) (Operand.tmp 54), type := 0, pos := "ref.go:384", after := #[{ on := 14, ground := Ground.data }, { on := 12, ground := Ground.data }, { on := 11, ground := Ground.chain }, { on := 0, ground := Ground.phase }, { on := 1, ground := Ground.phase }, { on := 2, ground := Ground.phase }, { on := 3, ground := Ground.phase }, { on := 4, ground := Ground.phase }, { on := 5, ground := Ground.phase }, { on := 6, ground := Ground.phase }, { on := 7, ground := Ground.phase }, { on := 8, ground := Ground.phase }, { on := 9, ground := Ground.phase }, { on := 10, ground := Ground.phase }, { on := 11, ground := Ground.phase }, { on := 12, ground := Ground.phase }], guard := none }) rfl (fun K hK => ?_) AllReadyH.nil
              rw [if_pos (by rfl)]
              rw [HW2.out]
              refine wp_store_mid _ _ _ rfl (w.heap.size + 2) 7 #[.int .u32 (CrcM.number (ly.take 4) : Nat), .int .i64 (CrcM.number ((ly.drop 4).take 2) : Nat), .slice Ah 32 ch] rfl rfl (there3 X5d_5013.out 7 (by simp)) (by kernel_rfl) (by simp [Value.oneCell']) ?_
              have hS5016 : QS w wq (wn5013.setCells (w.heap.size + 2) 7 (#[.int .u32 (CrcM.number (ly.take 4) : Nat), .int .i64 (CrcM.number ((ly.drop 4).take 2) : Nat), .slice Ah 32 ch] : Array Value).toList) := (QS.set3 (hH5013) 7 _ _ _)
              refine hK.out _ _ hS5016 (fun hH5016 => ?_)
              have hH5016 : QS w wq (wn5013.setCells (w.heap.size + 2) 7 (#[.int .u32 (CrcM.number (ly.take 4) : Nat), .int .i64 (CrcM.number ((ly.drop 4).take 2) : Nat), .slice Ah 32 ch] : Array Value).toList) := hH5016
              clear hK K hS5016
              refine wpAnyH_done (by kernel_rfl) ?_ _
              refine NoPanic.normal ?_
              have QE : Hid (QS w wq (wn5013.setCells (w.heap.size + 2) 7 [.int .u32 (CrcM.number (ly.take 4) : Nat), .int .i64 (CrcM.number ((ly.drop 4).take 2) : Nat), .slice Ah 32 ch])) := Lib.hid (hH5016)
              have PE := Lib.hid (PQ.out.qs QE.out (set3_heap X5d_5013.out))
              have hrw : RowP (wn5013.setCells (w.heap.size + 2) 7 [.int .u32 (CrcM.number (ly.take 4) : Nat), .int .i64 (CrcM.number ((ly.drop 4).take 2) : Nat), .slice Ah 32 ch]) (fun b => w.heap.size + 2 < b) Ah (slotOf ly).h.length (bv (slotOf ly).h) := by
                show RowP _ _ Ah (ly.drop 6).length (bv (ly.drop 6))
                rw [HD6.out]
                exact RH.out.set3 _ _ _ _
              have hn : Hid (PLoop w y0 y1 n3 n4 S0 S1 r3 r4 r5 2 (wn5013.setCells (w.heap.size + 2) 7 [.int .u32 (CrcM.number (ly.take 4) : Nat), .int .i64 (CrcM.number ((ly.drop 4).take 2) : Nat), .slice Ah 32 ch])) := Lib.hid (.inr (.inr ⟨rfl, A0, c0, Ah, ch, HA0.out.qs QE.out, by rw [ES.out]; exact hrw, by rw [ES.out]; exact PE.out.cast (by simp [slotOf, HD6.out])⟩))
              clear PE RH QE hrw
              go_wp2_with fail
              go_roundw
              case rel => exact ⟨2, by omega, by go_num, hn⟩
              case measure => simp [intOf]
            · go_simp
              have hb5017 : Below wd5000.heap.size wd5000 (wd5000.alloc (.cells #[.slice (some ⟨b, o + 6, none⟩) 32 (cy - 6)] 23)) := (Below.refl _ _).alloc (Nat.le_refl _) _
              have BX5017 : Hid ((wd5000.alloc (.cells #[.slice (some ⟨b, o + 6, none⟩) 32 (cy - 6)] 23)).heap[wd5000.heap.size]? = some (.cells #[.slice (some ⟨b, o + 6, none⟩) 32 (cy - 6)] 23 (0, 0))) := Lib.hid (heap_alloc_new _ _)
              have LX5017 : Hid (wd5000.heap.size < (wd5000.alloc (.cells #[.slice (some ⟨b, o + 6, none⟩) 32 (cy - 6)] 23)).heap.size) := Lib.hid (by simp)
              generalize (wd5000.alloc (.cells #[.slice (some ⟨b, o + 6, none⟩) 32 (cy - 6)] 23)) = wn5017 at *
              have X5d_5017 := Lib.hid ((hb5017.block (w.heap.size + 2) L5d.out).trans X5d.out)
              have L5d_5017 := Lib.hid (Nat.lt_of_lt_of_le L5d.out hb5017.size)
              have hS5017 : QS w wq wn5017 := ((hH5009).next hb5017)
              refine hK.out _ _ hS5017 (fun hH5017 => ?_)
              have hH5017 : QS w wq wn5017 := hH5017
              clear hK K hS5017
              try simp only [Act.put, List.setIfInBounds_toArray, List.set_cons_zero, List.set_cons_succ]
              refine wpAnyH_ready (rs := [6]) (by kernel_rfl) (by simp) ?_
              refine AllReadyH.cons (o := { dst := some 48, op := Op.call { callee := Callee.value (Operand.func 39), args := #[Operand.tmp 47], argTypes := #[23] }, type := 22, pos := "ref.go:384", after := #[{ on := 5, ground := Ground.data }, { on := 3, ground := Ground.chain }], guard := none }) rfl (fun K hK => ?_) AllReadyH.nil
              go_simp
              refine (r1num_any 2 wn5017.heap.size _ _ _ wn5017 (HQ2.out wn5017 (hH5017)).row (by omega)).mono ?_
              rintro e' _ ⟨rfl, rfl⟩
              go_simp
              have hS5018 : QS w wq wn5017 := hH5017
              refine hK.out _ _ hS5018 (fun hH5018 => ?_)
              have hH5018 : QS w wq wn5017 := hH5018
              clear hK K hS5018
              try simp only [Act.put, List.setIfInBounds_toArray, List.set_cons_zero, List.set_cons_succ]
              refine wpAnyH_take (i := 7) (oi := { dst := some 49, op := Op.convert 22 3 (Operand.tmp 48), type := 3, pos := "ref.go:384", after := #[{ on := 6, ground := Ground.data }], guard := none }) (v := ?tkv5019) rfl (by kernel_rfl) (by kernel_rfl) (by kernel_rfl) (fun _ _ _ h => h) (Or.inl ⟨by rfl, ?tky5019⟩) hH5018 ?tkr5019
              case tky5019 => (intro w' hSw; clear hSw; go_simp; try with_reducible rfl)
              try simp only [Act.put, List.setIfInBounds_toArray, List.set_cons_zero, List.set_cons_succ]
              refine wpAnyH_ready (rs := [11]) (by kernel_rfl) (by simp) ?_
              refine AllReadyH.cons (o := { dst := some 53, op := Op.call { callee := Callee.value (Operand.func 24), args := #[Operand.tmp 52], argTypes := #[69] }, type := 23, pos := "ref.go:384", after := #[{ on := 10, ground := Ground.data }, { on := 6, ground := Ground.chain }], guard := none }) rfl (fun K hK => ?_) AllReadyH.nil
              go_simp
              refine (join_box [⟨some ⟨b, o + 6, none⟩, 32, cy - 6, ly.drop 6⟩] 1 rfl rfl BX5017.out (by
                intro r hr
                simp only [List.mem_cons, List.not_mem_nil, or_false] at hr
                subst hr
                exact HQ3.out _ (hH5018)) (by simp) (by have := HLY.out; simp [flat]; omega) (l := ly.drop 6) (by simp [flat])).mono ?_
              rintro e' wn5020 ⟨Ah, nh, ch, rfl, hnh, hoh, hb5020⟩
              have hnh2 := hnh.out
              rw [HD6.out] at hnh2
              subst hnh2
              have RH := Lib.hid (own_rowP (lo := w.heap.size + 2) hoh (Nat.lt_of_lt_of_le LW.out (QS.size (hH5018))))
              clear hoh hnh
              go_simp
              have X5d_5020 := Lib.hid ((hb5020.block (w.heap.size + 2) L5d_5017.out).trans X5d_5017.out)
              have L5d_5020 := Lib.hid (Nat.lt_of_lt_of_le L5d_5017.out hb5020.size)
              have BX5017_5020 := Lib.hid ((hb5020.block wd5000.heap.size LX5017.out).trans BX5017.out)
              have LX5017_5020 := Lib.hid (Nat.lt_of_lt_of_le LX5017.out hb5020.size)
              have hS5020 : QS w wq wn5020 := ((hH5018).next hb5020)
              refine hK.out _ _ hS5020 (fun hH5020 => ?_)
              have hH5020 : QS w wq wn5020 := hH5020
              clear hK K hS5020
              try simp only [Act.put, List.setIfInBounds_toArray, List.set_cons_zero, List.set_cons_succ]
              refine wpAnyH_take (i := 12) (oi := { dst := some 54, op := Op.build 25 #[(0, Operand.tmp 45), (1, Operand.tmp 49), (2, Operand.tmp 53)], type := 25, pos := "ref.go:384", after := #[{ on := 3, ground := Ground.data }, { on := 7, ground := Ground.data }, { on := 11, ground := Ground.data }], guard := none }) (v := ?tkv5021) rfl (by kernel_rfl) (by kernel_rfl) (by kernel_rfl) (fun _ _ _ h => h) (Or.inl ⟨by rfl, ?tky5021⟩) hH5020 ?tkr5021
              case tky5021 => (intro w' hSw; clear hSw; go_simp; try with_reducible rfl)
              try simp only [Act.put, List.setIfInBounds_toArray, List.set_cons_zero, List.set_cons_succ]
              refine wpAnyH_take (i := 14) (oi := { dst := some 56, op := Op.indexAddr 26 (Operand.tmp 55) (Operand.tmp 42), type := 0, pos := "ref.go:384", after := #[{ on := 13, ground := Ground.data }, { on := 0, ground := Ground.data }, { on := 0, ground := Ground.phase }, { on := 1, ground := Ground.phase }, { on := 2, ground := Ground.phase }, { on := 3, ground := Ground.phase }, { on := 4, ground := Ground.phase }, { on := 5, ground := Ground.phase }, { on := 6, ground := Ground.phase }, { on := 7, ground := Ground.phase }, { on := 8, ground := Ground.phase }, { on := 9, ground := Ground.phase }, { on := 10, ground := Ground.phase }, { on := 11, ground := Ground.phase }, { on := 12, ground := Ground.phase }], guard := none }) (v := ?tkv5022) rfl (by kernel_rfl) (by kernel_rfl) (by kernel_rfl) (fun _ _ _ h => h) (Or.inl ⟨by rfl, ?tky5022⟩) hH5020 ?tkr5022
              case tky5022 => (intro w' hSw; clear hSw; go_simp; try with_reducible rfl)
              try simp only [Act.put, List.setIfInBounds_toArray, List.set_cons_zero, List.set_cons_succ]
              refine wpAnyH_ready (rs := [15]) (by kernel_rfl) (by simp) ?_
              refine AllReadyH.cons (o := { dst := none, op := Op.store 25 (Operand.tmp 56) (Operand.tmp 54), type := 0, pos := "ref.go:384", after := #[{ on := 14, ground := Ground.data }, { on := 12, ground := Ground.data }, { on := 11, ground := Ground.chain }, { on := 0, ground := Ground.phase }, { on := 1, ground := Ground.phase }, { on := 2, ground := Ground.phase }, { on := 3, ground := Ground.phase }, { on := 4, ground := Ground.phase }, { on := 5, ground := Ground.phase }, { on := 6, ground := Ground.phase }, { on := 7, ground := Ground.phase }, { on := 8, ground := Ground.phase }, { on := 9, ground := Ground.phase }, { on := 10, ground := Ground.phase }, { on := 11, ground := Ground.phase }, { on := 12, ground := Ground.phase }], guard := none }) rfl (fun K hK => ?_) AllReadyH.nil
              rw [if_pos (by rfl)]
              rw [HW2.out]
              refine wp_store_mid _ _ _ rfl (w.heap.size + 2) 7 #[.int .u32 (CrcM.number (ly.take 4) : Nat), .int .i64 (CrcM.number ((ly.drop 4).take 2) : Nat), .slice Ah 32 ch] rfl rfl (there3 X5d_5020.out 7 (by simp)) (by kernel_rfl) (by simp [Value.oneCell']) ?_
              have hS5023 : QS w wq (wn5020.setCells (w.heap.size + 2) 7 (#[.int .u32 (CrcM.number (ly.take 4) : Nat), .int .i64 (CrcM.number ((ly.drop 4).take 2) : Nat), .slice Ah 32 ch] : Array Value).toList) := (QS.set3 (hH5020) 7 _ _ _)
              refine hK.out _ _ hS5023 (fun hH5023 => ?_)
              have hH5023 : QS w wq (wn5020.setCells (w.heap.size + 2) 7 (#[.int .u32 (CrcM.number (ly.take 4) : Nat), .int .i64 (CrcM.number ((ly.drop 4).take 2) : Nat), .slice Ah 32 ch] : Array Value).toList) := hH5023
              clear hK K hS5023
              refine wpAnyH_done (by kernel_rfl) ?_ _
              refine NoPanic.normal ?_
              have QE : Hid (QS w wq (wn5020.setCells (w.heap.size + 2) 7 [.int .u32 (CrcM.number (ly.take 4) : Nat), .int .i64 (CrcM.number ((ly.drop 4).take 2) : Nat), .slice Ah 32 ch])) := Lib.hid (hH5023)
              have PE := Lib.hid (PQ.out.qs QE.out (set3_heap X5d_5020.out))
              have hrw : RowP (wn5020.setCells (w.heap.size + 2) 7 [.int .u32 (CrcM.number (ly.take 4) : Nat), .int .i64 (CrcM.number ((ly.drop 4).take 2) : Nat), .slice Ah 32 ch]) (fun b => w.heap.size + 2 < b) Ah (slotOf ly).h.length (bv (slotOf ly).h) := by
                show RowP _ _ Ah (ly.drop 6).length (bv (ly.drop 6))
                rw [HD6.out]
                exact RH.out.set3 _ _ _ _
              have hn : Hid (PLoop w y0 y1 n3 n4 S0 S1 r3 r4 r5 2 (wn5020.setCells (w.heap.size + 2) 7 [.int .u32 (CrcM.number (ly.take 4) : Nat), .int .i64 (CrcM.number ((ly.drop 4).take 2) : Nat), .slice Ah 32 ch])) := Lib.hid (.inr (.inr ⟨rfl, A0, c0, Ah, ch, HA0.out.qs QE.out, by rw [ES.out]; exact hrw, by rw [ES.out]; exact PE.out.cast (by simp [slotOf, HD6.out])⟩))
              clear PE RH QE hrw
              go_wp2_with fail
              go_roundw
              case rel => exact ⟨2, by omega, by go_num, hn⟩
              case measure => simp [intOf]
          · go_simp
            have hb5024 : Below wd5000.heap.size wd5000 (wd5000.alloc (.cells #[.slice (some ⟨b, o + 6, none⟩) 32 (cy - 6)] 23)) := (Below.refl _ _).alloc (Nat.le_refl _) _
            have BX5024 : Hid ((wd5000.alloc (.cells #[.slice (some ⟨b, o + 6, none⟩) 32 (cy - 6)] 23)).heap[wd5000.heap.size]? = some (.cells #[.slice (some ⟨b, o + 6, none⟩) 32 (cy - 6)] 23 (0, 0))) := Lib.hid (heap_alloc_new _ _)
            have LX5024 : Hid (wd5000.heap.size < (wd5000.alloc (.cells #[.slice (some ⟨b, o + 6, none⟩) 32 (cy - 6)] 23)).heap.size) := Lib.hid (by simp)
            generalize (wd5000.alloc (.cells #[.slice (some ⟨b, o + 6, none⟩) 32 (cy - 6)] 23)) = wn5024 at *
            have X5d_5024 := Lib.hid ((hb5024.block (w.heap.size + 2) L5d.out).trans X5d.out)
            have L5d_5024 := Lib.hid (Nat.lt_of_lt_of_le L5d.out hb5024.size)
            have hS5024 : QS w wq wn5024 := ((hH0).next hb5024)
            refine hK.out _ _ hS5024 (fun hH5024 => ?_)
            have hH5024 : QS w wq wn5024 := hH5024
            clear hK K hS5024
            try simp only [Act.put, List.setIfInBounds_toArray, List.set_cons_zero, List.set_cons_succ]
            refine wpAnyH_ready (rs := [3]) (by kernel_rfl) (by simp) ?_
            refine AllReadyH.cons (o := { dst := some 45, op := Op.call { callee := Callee.value (Operand.func 39), args := #[Operand.tmp 44], argTypes := #[23] }, type := 22, pos := "ref.go:384", after := #[{ on := 2, ground := Ground.data }], guard := none }) rfl (fun K hK => ?_) AllReadyH.nil
            go_simp
            refine (r1num_any 4 wn5024.heap.size _ _ _ wn5024 (HQ1.out wn5024 (hH5024)).row (by omega)).mono ?_
            rintro e' _ ⟨rfl, rfl⟩
            go_simp
            have hS5025 : QS w wq wn5024 := hH5024
            refine hK.out _ _ hS5025 (fun hH5025 => ?_)
            have hH5025 : QS w wq wn5024 := hH5025
            clear hK K hS5025
            try simp only [Act.put, List.setIfInBounds_toArray, List.set_cons_zero, List.set_cons_succ]
            refine wpAnyH_ready (rs := [6]) (by kernel_rfl) (by simp) ?_
            refine AllReadyH.cons (o := { dst := some 48, op := Op.call { callee := Callee.value (Operand.func 39), args := #[Operand.tmp 47], argTypes := #[23] }, type := 22, pos := "ref.go:384", after := #[{ on := 5, ground := Ground.data }, { on := 3, ground := Ground.chain }], guard := none }) rfl (fun K hK => ?_) AllReadyH.nil
            go_simp
            refine (r1num_any 2 wn5024.heap.size _ _ _ wn5024 (HQ2.out wn5024 (hH5025)).row (by omega)).mono ?_
            rintro e' _ ⟨rfl, rfl⟩
            go_simp
            have hS5026 : QS w wq wn5024 := hH5025
            refine hK.out _ _ hS5026 (fun hH5026 => ?_)
            have hH5026 : QS w wq wn5024 := hH5026
            clear hK K hS5026
            try simp only [Act.put, List.setIfInBounds_toArray, List.set_cons_zero, List.set_cons_succ]
            refine wpAnyH_take (i := 7) (oi := { dst := some 49, op := Op.convert 22 3 (Operand.tmp 48), type := 3, pos := "ref.go:384", after := #[{ on := 6, ground := Ground.data }], guard := none }) (v := ?tkv5027) rfl (by kernel_rfl) (by kernel_rfl) (by kernel_rfl) (fun _ _ _ h => h) (Or.inl ⟨by rfl, ?tky5027⟩) hH5026 ?tkr5027
            case tky5027 => (intro w' hSw; clear hSw; go_simp; try with_reducible rfl)
            try simp only [Act.put, List.setIfInBounds_toArray, List.set_cons_zero, List.set_cons_succ]
            refine wpAnyH_ready (rs := [11]) (by kernel_rfl) (by simp) ?_
            refine AllReadyH.cons (o := { dst := some 53, op := Op.call { callee := Callee.value (Operand.func 24), args := #[Operand.tmp 52], argTypes := #[69] }, type := 23, pos := "ref.go:384", after := #[{ on := 10, ground := Ground.data }, { on := 6, ground := Ground.chain }], guard := none }) rfl (fun K hK => ?_) AllReadyH.nil
            go_simp
            refine (join_box [⟨some ⟨b, o + 6, none⟩, 32, cy - 6, ly.drop 6⟩] 1 rfl rfl BX5024.out (by
              intro r hr
              simp only [List.mem_cons, List.not_mem_nil, or_false] at hr
              subst hr
              exact HQ3.out _ (hH5026)) (by simp) (by have := HLY.out; simp [flat]; omega) (l := ly.drop 6) (by simp [flat])).mono ?_
            rintro e' wn5028 ⟨Ah, nh, ch, rfl, hnh, hoh, hb5028⟩
            have hnh2 := hnh.out
            rw [HD6.out] at hnh2
            subst hnh2
            have RH := Lib.hid (own_rowP (lo := w.heap.size + 2) hoh (Nat.lt_of_lt_of_le LW.out (QS.size (hH5026))))
            clear hoh hnh
            go_simp
            have X5d_5028 := Lib.hid ((hb5028.block (w.heap.size + 2) L5d_5024.out).trans X5d_5024.out)
            have L5d_5028 := Lib.hid (Nat.lt_of_lt_of_le L5d_5024.out hb5028.size)
            have BX5024_5028 := Lib.hid ((hb5028.block wd5000.heap.size LX5024.out).trans BX5024.out)
            have LX5024_5028 := Lib.hid (Nat.lt_of_lt_of_le LX5024.out hb5028.size)
            have hS5028 : QS w wq wn5028 := ((hH5026).next hb5028)
            refine hK.out _ _ hS5028 (fun hH5028 => ?_)
            have hH5028 : QS w wq wn5028 := hH5028
            clear hK K hS5028
            try simp only [Act.put, List.setIfInBounds_toArray, List.set_cons_zero, List.set_cons_succ]
            refine wpAnyH_take (i := 12) (oi := { dst := some 54, op := Op.build 25 #[(0, Operand.tmp 45), (1, Operand.tmp 49), (2, Operand.tmp 53)], type := 25, pos := "ref.go:384", after := #[{ on := 3, ground := Ground.data }, { on := 7, ground := Ground.data }, { on := 11, ground := Ground.data }], guard := none }) (v := ?tkv5029) rfl (by kernel_rfl) (by kernel_rfl) (by kernel_rfl) (fun _ _ _ h => h) (Or.inl ⟨by rfl, ?tky5029⟩) hH5028 ?tkr5029
            case tky5029 => (intro w' hSw; clear hSw; go_simp; try with_reducible rfl)
            try simp only [Act.put, List.setIfInBounds_toArray, List.set_cons_zero, List.set_cons_succ]
            refine wpAnyH_take (i := 14) (oi := { dst := some 56, op := Op.indexAddr 26 (Operand.tmp 55) (Operand.tmp 42), type := 0, pos := "ref.go:384", after := #[{ on := 13, ground := Ground.data }, { on := 0, ground := Ground.data }, { on := 0, ground := Ground.phase }, { on := 1, ground := Ground.phase }, { on := 2, ground := Ground.phase }, { on := 3, ground := Ground.phase }, { on := 4, ground := Ground.phase }, { on := 5, ground := Ground.phase }, { on := 6, ground := Ground.phase }, { on := 7, ground := Ground.phase }, { on := 8, ground := Ground.phase }, { on := 9, ground := Ground.phase }, { on := 10, ground := Ground.phase }, { on := 11, ground := Ground.phase }, { on := 12, ground := Ground.phase }], guard := none }) (v := ?tkv5030) rfl (by kernel_rfl) (by kernel_rfl) (by kernel_rfl) (fun _ _ _ h => h) (Or.inl ⟨by rfl, ?tky5030⟩) hH5028 ?tkr5030
            case tky5030 => (intro w' hSw; clear hSw; go_simp; try with_reducible rfl)
            try simp only [Act.put, List.setIfInBounds_toArray, List.set_cons_zero, List.set_cons_succ]
            refine wpAnyH_ready (rs := [15]) (by kernel_rfl) (by simp) ?_
            refine AllReadyH.cons (o := { dst := none, op := Op.store 25 (Operand.tmp 56) (Operand.tmp 54), type := 0, pos := "ref.go:384", after := #[{ on := 14, ground := Ground.data }, { on := 12, ground := Ground.data }, { on := 11, ground := Ground.chain }, { on := 0, ground := Ground.phase }, { on := 1, ground := Ground.phase }, { on := 2, ground := Ground.phase }, { on := 3, ground := Ground.phase }, { on := 4, ground := Ground.phase }, { on := 5, ground := Ground.phase }, { on := 6, ground := Ground.phase }, { on := 7, ground := Ground.phase }, { on := 8, ground := Ground.phase }, { on := 9, ground := Ground.phase }, { on := 10, ground := Ground.phase }, { on := 11, ground := Ground.phase }, { on := 12, ground := Ground.phase }], guard := none }) rfl (fun K hK => ?_) AllReadyH.nil
            rw [if_pos (by rfl)]
            rw [HW2.out]
            refine wp_store_mid _ _ _ rfl (w.heap.size + 2) 7 #[.int .u32 (CrcM.number (ly.take 4) : Nat), .int .i64 (CrcM.number ((ly.drop 4).take 2) : Nat), .slice Ah 32 ch] rfl rfl (there3 X5d_5028.out 7 (by simp)) (by kernel_rfl) (by simp [Value.oneCell']) ?_
            have hS5031 : QS w wq (wn5028.setCells (w.heap.size + 2) 7 (#[.int .u32 (CrcM.number (ly.take 4) : Nat), .int .i64 (CrcM.number ((ly.drop 4).take 2) : Nat), .slice Ah 32 ch] : Array Value).toList) := (QS.set3 (hH5028) 7 _ _ _)
            refine hK.out _ _ hS5031 (fun hH5031 => ?_)
            have hH5031 : QS w wq (wn5028.setCells (w.heap.size + 2) 7 (#[.int .u32 (CrcM.number (ly.take 4) : Nat), .int .i64 (CrcM.number ((ly.drop 4).take 2) : Nat), .slice Ah 32 ch] : Array Value).toList) := hH5031
            clear hK K hS5031
            refine wpAnyH_done (by kernel_rfl) ?_ _
            refine NoPanic.normal ?_
            have QE : Hid (QS w wq (wn5028.setCells (w.heap.size + 2) 7 [.int .u32 (CrcM.number (ly.take 4) : Nat), .int .i64 (CrcM.number ((ly.drop 4).take 2) : Nat), .slice Ah 32 ch])) := Lib.hid (hH5031)
            have PE := Lib.hid (PQ.out.qs QE.out (set3_heap X5d_5028.out))
            have hrw : RowP (wn5028.setCells (w.heap.size + 2) 7 [.int .u32 (CrcM.number (ly.take 4) : Nat), .int .i64 (CrcM.number ((ly.drop 4).take 2) : Nat), .slice Ah 32 ch]) (fun b => w.heap.size + 2 < b) Ah (slotOf ly).h.length (bv (slotOf ly).h) := by
              show RowP _ _ Ah (ly.drop 6).length (bv (ly.drop 6))
              rw [HD6.out]
              exact RH.out.set3 _ _ _ _
            have hn : Hid (PLoop w y0 y1 n3 n4 S0 S1 r3 r4 r5 2 (wn5028.setCells (w.heap.size + 2) 7 [.int .u32 (CrcM.number (ly.take 4) : Nat), .int .i64 (CrcM.number ((ly.drop 4).take 2) : Nat), .slice Ah 32 ch])) := Lib.hid (.inr (.inr ⟨rfl, A0, c0, Ah, ch, HA0.out.qs QE.out, by rw [ES.out]; exact hrw, by rw [ES.out]; exact PE.out.cast (by simp [slotOf, HD6.out])⟩))
            clear PE RH QE hrw
            go_wp2_with fail
            go_roundw
            case rel => exact ⟨2, by omega, by go_num, hn⟩
            case measure => simp [intOf]
      · have HP := Lib.hid hs
        have HA := Lib.hid ha
        have HB := Lib.hid ha1
        clear hs ha ha1 hL
        go_wp2_with fail
        refine (rflag2_any HP.out.rd).mono ?_
        rintro e wf ⟨rfl, hto⟩
        have PF := Lib.hid (HP.out.next hto.out)
        have HAf := Lib.hid (HA.out.rdP hto.out (by omega))
        have HBf := Lib.hid (HB.out.rdP hto.out (by omega))
        clear hto HP HA HB
        cases hfl : r5.flag.1 with
        | false =>
          have PP := Lib.hid (P2.out (now_no hfl))
          clear hfl
          generalize r5.flag.2 = r6 at *
          obtain ⟨Ar, cr, cl, ce⟩ := PF.out.read
          obtain ⟨ee, hee⟩ : ∃ x, r6.e = x := ⟨_, rfl⟩
          rw [hee] at ce
          by_cases h0 : ee = 0
          case neg =>
            have q0 : (ee != 0) = true := by simpa using h0
            have HEE := Lib.hid hee
            have HN0 := Lib.hid h0
            clear h0 hee
            have XR5 := Lib.hid PF.out.xr
            have LR5 : Hid (w.heap.size < wf.heap.size) := Lib.hid (Array.getElem?_eq_some_iff.1 PF.out.xr).1
            have HEC : Hid (∀ X, QR w wf X → X.cell? ⟨w.heap.size + 1, 1, none⟩ = some (.int .i64 ee)) := Lib.hid (fun X hX => (hX.cell (p := ⟨w.heap.size + 1, 1, none⟩) (by show w.heap.size + 1 ≠ w.heap.size; omega) (Nat.lt_trans (by omega : w.heap.size + 1 < w.heap.size + 2) (Array.getElem?_eq_some_iff.1 PF.out.x5).1)).trans ce)
            go_upto_region 21 with fail
            clear ce cl
            refine wp_region_noPanic ?_
            refine wp_region_held_drew (S := (fun W => QR w wf W)) (by kernel_rfl) (QR.of_below (Below.refl _ _).drew) (fun hH0 => ?_)
            have hH0 : QR w wf wf.drew := hH0
            have XR5d := Lib.hid (show wf.drew.heap[w.heap.size]? = _ from XR5.out)
            have LR5d := Lib.hid (show w.heap.size < wf.drew.heap.size from LR5.out)
            generalize wf.drew = wd7000 at *
            refine wpAnyH_take (i := 0) (oi := { dst := some 83, op := Op.build 30 #[], type := 30, pos := "ref.go:398", after := #[], guard := none }) (v := ?tkv7001) rfl (by kernel_rfl) (by kernel_rfl) (by kernel_rfl) (fun _ _ _ h => h) (Or.inl ⟨by rfl, ?tky7001⟩) hH0 ?tkr7001
            case tky7001 => (intro w' hSw; clear hSw; go_simp; try with_reducible rfl)
            try simp only [Act.put, List.setIfInBounds_toArray, List.set_cons_zero, List.set_cons_succ]
            refine wpAnyH_take (i := 1) (oi := { dst := some 84, op := Op.move (Operand.tmp 4), type := 59, pos := "ref.go:398", after := #[{ on := 5, ground := Ground.gcOnly Departure.lateStores }], guard := none }) (v := ?tkv7002) rfl (by kernel_rfl) (by kernel_rfl) (by kernel_rfl) (fun _ _ _ h => h) (Or.inl ⟨by rfl, ?tky7002⟩) hH0 ?tkr7002
            case tky7002 => (intro w' hSw; clear hSw; go_simp; try with_reducible rfl)
            try simp only [Act.put, List.setIfInBounds_toArray, List.set_cons_zero, List.set_cons_succ]
            refine wpAnyH_take (i := 2) (oi := { dst := some 85, op := Op.nilCheck (Operand.tmp 84), type := 0, pos := "ref.go:398", after := #[{ on := 1, ground := Ground.data }, { on := 5, ground := Ground.gcOnly Departure.lateStores }], guard := none }) (v := ?tkv7003) rfl (by kernel_rfl) (by kernel_rfl) (by kernel_rfl) (fun _ _ _ h => h) (Or.inl ⟨by rfl, ?tky7003⟩) hH0 ?tkr7003
            case tky7003 => (intro w' hSw; clear hSw; go_simp; try with_reducible rfl)
            try simp only [Act.put, List.setIfInBounds_toArray, List.set_cons_zero, List.set_cons_succ]
            refine wpAnyH_take (i := 3) (oi := { dst := some 86, op := Op.fieldAddr 61 (Operand.tmp 85) 1, type := 0, pos := "ref.go:398", after := #[{ on := 2, ground := Ground.data }, { on := 5, ground := Ground.gcOnly Departure.lateStores }], guard := none }) (v := ?tkv7004) rfl (by kernel_rfl) (by kernel_rfl) (by kernel_rfl) (fun _ _ _ h => h) (Or.inl ⟨by rfl, ?tky7004⟩) hH0 ?tkr7004
            case tky7004 => (intro w' hSw; clear hSw; go_simp; try with_reducible rfl)
            try simp only [Act.put, List.setIfInBounds_toArray, List.set_cons_zero, List.set_cons_succ]
            refine wpAnyH_take (i := 4) (oi := { dst := some 87, op := Op.load 33 (Operand.tmp 86), type := 33, pos := "ref.go:398", after := #[{ on := 3, ground := Ground.data }, { on := 5, ground := Ground.gcOnly Departure.lateStores }], guard := none }) (v := ?tkv7005) rfl (by kernel_rfl) (by kernel_rfl) (by kernel_rfl) (fun _ _ _ h => h) (Or.inl ⟨by rfl, ?tky7005⟩) hH0 ?tkr7005
            case tky7005 => (intro w' hSw; have z0 := HEC.out _ hSw; clear hSw; go_simp; try with_reducible rfl)
            try simp only [Act.put, List.setIfInBounds_toArray, List.set_cons_zero, List.set_cons_succ]
            refine wpAnyH_ready (rs := [5]) (by kernel_rfl) (by simp) ?_
            refine AllReadyH.cons (o := { dst := none, op := Op.store 30 (Operand.tmp 2) (Operand.tmp 83), type := 0, pos := "ref.go:398", after := #[{ on := 0, ground := Ground.data }, { on := 0, ground := Ground.phase }, { on := 1, ground := Ground.textOnly Departure.lateStores }, { on := 2, ground := Ground.textOnly Departure.lateStores }, { on := 3, ground := Ground.textOnly Departure.lateStores }, { on := 4, ground := Ground.textOnly Departure.lateStores }], guard := none }) rfl (fun K hK => ?_) AllReadyH.nil
            rw [if_pos (by rfl)]
            refine wp_store_row _ _ _ rfl (w.heap.size) #[.int .i64 0, .int .i64 0, .int .u32 0, .int .u32 0, .int .u32 0, .int .i64 0, .slice none 0 0, .int .u32 0, .int .i64 0, .slice none 0 0, .bool false, .int .u32 0, .int .u32 0, .int .i64 0, .int .i64 0, .int .i64 0, .slice none 0 0] rfl rfl _ _ XR5d.out (by kernel_rfl) (by rfl) (by kernel_rfl) ?_
            have row7006 := Lib.hid (setRow_heap _ _ _ (#[.int .i64 0, .int .i64 0, .int .u32 0, .int .u32 0, .int .u32 0, .int .i64 0, .slice none 0 0, .int .u32 0, .int .i64 0, .slice none 0 0, .bool false, .int .u32 0, .int .u32 0, .int .i64 0, .int .i64 0, .int .i64 0, .slice none 0 0]) _ _ XR5d.out)
            have hS7006 : QR w wf (wd7000.setRow w.heap.size #[.int .i64 0, .int .i64 0, .int .u32 0, .int .u32 0, .int .u32 0, .int .i64 0, .slice none 0 0, .int .u32 0, .int .i64 0, .slice none 0 0, .bool false, .int .u32 0, .int .u32 0, .int .i64 0, .int .i64 0, .int .i64 0, .slice none 0 0]) := (QR.set (hH0) _)
            refine hK.out _ _ hS7006 (fun hH7006 => ?_)
            have hH7006 : QR w wf (wd7000.setRow w.heap.size #[.int .i64 0, .int .i64 0, .int .u32 0, .int .u32 0, .int .u32 0, .int .i64 0, .slice none 0 0, .int .u32 0, .int .i64 0, .slice none 0 0, .bool false, .int .u32 0, .int .u32 0, .int .i64 0, .int .i64 0, .int .i64 0, .slice none 0 0]) := hH7006
            clear hK K hS7006
            refine wpAnyH_take (i := 6) (oi := { dst := some 3, op := Op.assign (Operand.tmp 87), type := 33, pos := "ref.go:398", after := #[{ on := 4, ground := Ground.data }, { on := 5, ground := Ground.chain }, { on := 0, ground := Ground.phase }, { on := 1, ground := Ground.phase }, { on := 2, ground := Ground.phase }, { on := 3, ground := Ground.phase }, { on := 4, ground := Ground.phase }, { on := 5, ground := Ground.phase }], guard := none }) (v := ?tkv7007) rfl (by kernel_rfl) (by kernel_rfl) (by kernel_rfl) (fun _ _ _ h => h) (Or.inl ⟨by rfl, ?tky7007⟩) hH7006 ?tkr7007
            case tky7007 => (intro w' hSw; clear hSw; go_simp; try with_reducible rfl)
            try simp only [Act.put, List.setIfInBounds_toArray, List.set_cons_zero, List.set_cons_succ]
            refine wpAnyH_done (by kernel_rfl) ?_ _
            refine NoPanic.normal ?_
            have QE := Lib.hid (hH7006)
            go_wp2_with fail
            refine bodyPost_ret (results_cell_tmp_row rfl _ _ (w.heap.size) _ _ (0, 0) _ rfl row7006.out Try.underlying30 rfl (by kernel_rfl)) rfl ?_
            exact rps_of (parse2_err PP.out HEE.out HN0.out) ⟨_, rfl, Lib.hid (zero_is _ _), Lib.hid (QE.out.below PF.out.b)⟩
          subst h0
          have HE0 := Lib.hid hee
          clear hee
          have IS5 := Lib.hid (show IsSt _ (fun b => w.heap.size + 2 < b) (#[.int .i64 (y0.toNat : Int), .int .i64 (y1.toNat : Int), .int .u32 (n3 : Int), .int .u32 (n4 : Int), .int .u32 (S0.v : Int), .int .i64 S0.l, .slice A0 S0.h.length c0, .int .u32 (S1.v : Int), .int .i64 S1.l, .slice A1 S1.h.length c1, .bool false, .int .u32 0, .int .u32 0, .int .i64 0, .int .i64 0, .int .i64 0, .slice none 0 0]) (mkSt (y0.toNat, y1.toNat, n3, n4, S0, S1, false, LMan.zero)) from ⟨A0, c0, A1, c1, none, 0, rfl, HAf.out, HBf.out, .nil _ _ _⟩)
          have I5 := Lib.hid IS5.out.inf
          have O5 := Lib.hid IS5.out.one
          have Z5 := Lib.hid IS5.out.size
          generalize hcs5 : (#[.int .i64 (y0.toNat : Int), .int .i64 (y1.toNat : Int), .int .u32 (n3 : Int), .int .u32 (n4 : Int), .int .u32 (S0.v : Int), .int .i64 S0.l, .slice A0 S0.h.length c0, .int .u32 (S1.v : Int), .int .i64 S1.l, .slice A1 S1.h.length c1, .bool false, .int .u32 0, .int .u32 0, .int .i64 0, .int .i64 0, .int .i64 0, .slice none 0 0] : Array Value) = cs5 at PF IS5 I5 O5 Z5
          clear hcs5
          obtain ⟨nl, hnl⟩ : ∃ x, r6.l.length = x := ⟨_, rfl⟩
          rw [hnl] at cl
          by_cases hl0 : r6.l = []
          case neg =>
            have hgn : 0 < nl := by
              have : r6.l.length ≠ 0 := fun h => hl0 (List.eq_nil_of_length_eq_zero h)
              omega
            have hgi : (0 : Int) < (nl : Int) := by omega
            have hgt : decide ((0 : Int) < (nl : Int)) = true := decide_eq_true hgi
            have HB := Lib.hid (fun h : r6.l = [] ∧ (mkSt (y0.toNat, y1.toNat, n3, n4, S0, S1, false, LMan.zero)).may = true => hl0 h.1)
            clear hl0 hnl
            go_upto_region 23 with fail
            clear ce cl hgt hgi hgn
            go_wp2_with ((with_reducible show wpList _ _ _ _ _ _); refine wpList_store_row rfl _ (.tmp 2) (.tmp 99) rfl (w.heap.size) zState rfl rfl _ _ PF.out.xr (by kernel_rfl) (by rfl) (by kernel_rfl) ?_)
            have hrow := setRow_heap _ _ _ zState _ _ PF.out.xr
            refine bodyPost_ret (results_cell_tmp_row rfl _ _ (w.heap.size) _ _ (0, 0) _ rfl hrow Try.underlying30 rfl (by kernel_rfl)) rfl ?_
            exact rps_of (parse2_bad PP.out HE0.out HB.out) ⟨_, rfl, Lib.hid (zero_is _ _), Lib.hid (below_setRow2 PF.out.b (Nat.le_refl _) _)⟩
          have hn0 : nl = 0 := by rw [← hnl, hl0]; rfl
          subst hn0
          have HL0 := Lib.hid hl0
          clear hl0 hnl
          go_wp2_with ((with_reducible show wpList _ _ _ _ _ _); refine wpList_load_rowG (o := ⟨some 95, _, _, _, _, _⟩) (by rfl) _ (.tmp 5) rfl (w.heap.size + 2) rfl _ _ _ _ (PF.out.x5) Try.underlying30 rfl I5.out ?_)
          refine (rmayS IS5.out).mono ?_
          rintro e wm ⟨rfl, hbm⟩
          have PM := Lib.hid (PF.out.below hbm)
          have ISM := Lib.hid (IS5.out.below hbm)
          clear hbm IS5 ce cl
          cases hmay : LSt.may (mkSt (y0.toNat, y1.toNat, n3, n4, S0, S1, false, LMan.zero)) with
          | false =>
            have HB : Hid (¬ (r6.l = [] ∧ (mkSt (y0.toNat, y1.toNat, n3, n4, S0, S1, false, LMan.zero)).may = true)) := Lib.hid (fun h => by have h2 : LSt.may (mkSt (y0.toNat, y1.toNat, n3, n4, S0, S1, false, LMan.zero)) = true := h.2; rw [hmay] at h2; exact Bool.noConfusion h2)
            clear hmay
            go_wp2_with ((with_reducible show wpList _ _ _ _ _ _); refine wpList_store_row rfl _ (.tmp 2) (.tmp 99) rfl (w.heap.size) zState rfl rfl _ _ PM.out.xr (by kernel_rfl) (by rfl) (by kernel_rfl) ?_)
            have hrow := setRow_heap _ _ _ zState _ _ PM.out.xr
            refine bodyPost_ret (results_cell_tmp_row rfl _ _ (w.heap.size) _ _ (0, 0) _ rfl hrow Try.underlying30 rfl (by kernel_rfl)) rfl ?_
            exact rps_of (parse2_bad PP.out HE0.out HB.out) ⟨_, rfl, Lib.hid (zero_is _ _), Lib.hid (below_setRow2 PM.out.b (Nat.le_refl _) _)⟩
          | true =>
            have HMY : Hid ((mkSt (y0.toNat, y1.toNat, n3, n4, S0, S1, false, LMan.zero)).may = true) := Lib.hid hmay
            clear hmay
            go_wp2_with (first
              | ((with_reducible show wpList _ _ _ _ _ _); refine wpList_load_row (o := ⟨some 100, _, _, _, _, _⟩) rfl _ (.tmp 5) rfl (w.heap.size + 2) rfl _ _ _ _ (PM.out.x5) Try.underlying30 rfl I5.out ?_)
              | ((with_reducible show wpList _ _ _ _ _ _); refine wpList_store_row rfl _ (.tmp 2) (.tmp 100) rfl (w.heap.size) cs5 rfl rfl _ _ PM.out.xr I5.out Z5.out.symm O5.out ?_))
            have hrow := setRow_heap _ _ _ cs5 _ _ PM.out.xr
            refine bodyPost_ret (results_cell_tmp_row rfl _ _ (w.heap.size) _ _ (0, 0) _ rfl hrow Try.underlying30 rfl I5.out) rfl ?_
            exact rps_of (parse2_ok PP.out HE0.out HL0.out HMY.out) ⟨cs5, rfl, Lib.hid ((ISM.out.keep (by simp) fun b hb _ => setRow_other _ _ _ _ (by have : w.heap.size + 2 < b := hb; omega)).imp fun _ _ _ => trivial), Lib.hid (below_setRow2 PM.out.b (Nat.le_refl _) _)⟩
        | true =>
          have NW := now_yes hfl
          clear hfl
          generalize r5.flag.2 = r6 at *
          go_wp2_with fail
          refine (rtake2_any 44 (by omega) (by omega) PF.out.rd).mono ?_
          rintro e wt ⟨Ay, cy, rfl, hcy, hrow, hto⟩
          have PT := Lib.hid (PF.out.next hto.out)
          have HAt := Lib.hid (HAf.out.rdP hto.out (by omega))
          have HBt := Lib.hid (HBf.out.rdP hto.out (by omega))
          have PP0 := Lib.hid (P2.out NW)
          clear hto PF HAf HBf NW
          generalize r6.past 44 = r7 at *
          have hly := got_length r6 44
          generalize r6.got 44 = ly at *
          obtain ⟨Ar, cr, cl, ce⟩ := PT.out.read
          obtain ⟨ee, hee⟩ : ∃ x, r7.e = x := ⟨_, rfl⟩
          rw [hee] at ce
          by_cases h0 : ee = 0
          case neg =>
            have q0 : (ee == 0) = false := by simpa using h0
            have q1 : (ee != 0) = true := by simpa using h0
            have hF : r7.fail (readE ly) = r7 := by unfold Rd.fail; rw [if_neg (by rw [hee]; exact h0)]
            rw [hF] at PP0
            have HEE := Lib.hid hee
            have HN0 := Lib.hid h0
            clear h0 hee hF hcy hrow hly
            have XR5 := Lib.hid PT.out.xr
            have LR5 : Hid (w.heap.size < wt.heap.size) := Lib.hid (Array.getElem?_eq_some_iff.1 PT.out.xr).1
            have HEC : Hid (∀ X, QR w wt X → X.cell? ⟨w.heap.size + 1, 1, none⟩ = some (.int .i64 ee)) := Lib.hid (fun X hX => (hX.cell (p := ⟨w.heap.size + 1, 1, none⟩) (by show w.heap.size + 1 ≠ w.heap.size; omega) (Nat.lt_trans (by omega : w.heap.size + 1 < w.heap.size + 2) (Array.getElem?_eq_some_iff.1 PT.out.x5).1)).trans ce)
            go_upto_region 21 with fail
            clear ce cl
            refine wp_region_noPanic ?_
            refine wp_region_held_drew (S := (fun W => QR w wt W)) (by kernel_rfl) (QR.of_below (Below.refl _ _).drew) (fun hH0 => ?_)
            have hH0 : QR w wt wt.drew := hH0
            have XR5d := Lib.hid (show wt.drew.heap[w.heap.size]? = _ from XR5.out)
            have LR5d := Lib.hid (show w.heap.size < wt.drew.heap.size from LR5.out)
            generalize wt.drew = wd8000 at *
            refine wpAnyH_take (i := 0) (oi := { dst := some 83, op := Op.build 30 #[], type := 30, pos := "ref.go:398", after := #[], guard := none }) (v := ?tkv8001) rfl (by kernel_rfl) (by kernel_rfl) (by kernel_rfl) (fun _ _ _ h => h) (Or.inl ⟨by rfl, ?tky8001⟩) hH0 ?tkr8001
            case tky8001 => (intro w' hSw; clear hSw; go_simp; try with_reducible rfl)
            try simp only [Act.put, List.setIfInBounds_toArray, List.set_cons_zero, List.set_cons_succ]
            refine wpAnyH_take (i := 1) (oi := { dst := some 84, op := Op.move (Operand.tmp 4), type := 59, pos := "ref.go:398", after := #[{ on := 5, ground := Ground.gcOnly Departure.lateStores }], guard := none }) (v := ?tkv8002) rfl (by kernel_rfl) (by kernel_rfl) (by kernel_rfl) (fun _ _ _ h => h) (Or.inl ⟨by rfl, ?tky8002⟩) hH0 ?tkr8002
            case tky8002 => (intro w' hSw; clear hSw; go_simp; try with_reducible rfl)
            try simp only [Act.put, List.setIfInBounds_toArray, List.set_cons_zero, List.set_cons_succ]
            refine wpAnyH_take (i := 2) (oi := { dst := some 85, op := Op.nilCheck (Operand.tmp 84), type := 0, pos := "ref.go:398", after := #[{ on := 1, ground := Ground.data }, { on := 5, ground := Ground.gcOnly Departure.lateStores }], guard := none }) (v := ?tkv8003) rfl (by kernel_rfl) (by kernel_rfl) (by kernel_rfl) (fun _ _ _ h => h) (Or.inl ⟨by rfl, ?tky8003⟩) hH0 ?tkr8003
            case tky8003 => (intro w' hSw; clear hSw; go_simp; try with_reducible rfl)
            try simp only [Act.put, List.setIfInBounds_toArray, List.set_cons_zero, List.set_cons_succ]
            refine wpAnyH_take (i := 3) (oi := { dst := some 86, op := Op.fieldAddr 61 (Operand.tmp 85) 1, type := 0, pos := "ref.go:398", after := #[{ on := 2, ground := Ground.data }, { on := 5, ground := Ground.gcOnly Departure.lateStores }], guard := none }) (v := ?tkv8004) rfl (by kernel_rfl) (by kernel_rfl) (by kernel_rfl) (fun _ _ _ h => h) (Or.inl ⟨by rfl, ?tky8004⟩) hH0 ?tkr8004
            case tky8004 => (intro w' hSw; clear hSw; go_simp; try with_reducible rfl)
            try simp only [Act.put, List.setIfInBounds_toArray, List.set_cons_zero, List.set_cons_succ]
            refine wpAnyH_take (i := 4) (oi := { dst := some 87, op := Op.load 33 (Operand.tmp 86), type := 33, pos := "ref.go:398", after := #[{ on := 3, ground := Ground.data }, { on := 5, ground := Ground.gcOnly Departure.lateStores }], guard := none }) (v := ?tkv8005) rfl (by kernel_rfl) (by kernel_rfl) (by kernel_rfl) (fun _ _ _ h => h) (Or.inl ⟨by rfl, ?tky8005⟩) hH0 ?tkr8005
            case tky8005 => (intro w' hSw; have z0 := HEC.out _ hSw; clear hSw; go_simp; try with_reducible rfl)
            try simp only [Act.put, List.setIfInBounds_toArray, List.set_cons_zero, List.set_cons_succ]
            refine wpAnyH_ready (rs := [5]) (by kernel_rfl) (by simp) ?_
            refine AllReadyH.cons (o := { dst := none, op := Op.store 30 (Operand.tmp 2) (Operand.tmp 83), type := 0, pos := "ref.go:398", after := #[{ on := 0, ground := Ground.data }, { on := 0, ground := Ground.phase }, { on := 1, ground := Ground.textOnly Departure.lateStores }, { on := 2, ground := Ground.textOnly Departure.lateStores }, { on := 3, ground := Ground.textOnly Departure.lateStores }, { on := 4, ground := Ground.textOnly Departure.lateStores }], guard := none }) rfl (fun K hK => ?_) AllReadyH.nil
            rw [if_pos (by rfl)]
            refine wp_store_row _ _ _ rfl (w.heap.size) #[.int .i64 0, .int .i64 0, .int .u32 0, .int .u32 0, .int .u32 0, .int .i64 0, .slice none 0 0, .int .u32 0, .int .i64 0, .slice none 0 0, .bool false, .int .u32 0, .int .u32 0, .int .i64 0, .int .i64 0, .int .i64 0, .slice none 0 0] rfl rfl _ _ XR5d.out (by kernel_rfl) (by rfl) (by kernel_rfl) ?_
            have row8006 := Lib.hid (setRow_heap _ _ _ (#[.int .i64 0, .int .i64 0, .int .u32 0, .int .u32 0, .int .u32 0, .int .i64 0, .slice none 0 0, .int .u32 0, .int .i64 0, .slice none 0 0, .bool false, .int .u32 0, .int .u32 0, .int .i64 0, .int .i64 0, .int .i64 0, .slice none 0 0]) _ _ XR5d.out)
            have hS8006 : QR w wt (wd8000.setRow w.heap.size #[.int .i64 0, .int .i64 0, .int .u32 0, .int .u32 0, .int .u32 0, .int .i64 0, .slice none 0 0, .int .u32 0, .int .i64 0, .slice none 0 0, .bool false, .int .u32 0, .int .u32 0, .int .i64 0, .int .i64 0, .int .i64 0, .slice none 0 0]) := (QR.set (hH0) _)
            refine hK.out _ _ hS8006 (fun hH8006 => ?_)
            have hH8006 : QR w wt (wd8000.setRow w.heap.size #[.int .i64 0, .int .i64 0, .int .u32 0, .int .u32 0, .int .u32 0, .int .i64 0, .slice none 0 0, .int .u32 0, .int .i64 0, .slice none 0 0, .bool false, .int .u32 0, .int .u32 0, .int .i64 0, .int .i64 0, .int .i64 0, .slice none 0 0]) := hH8006
            clear hK K hS8006
            refine wpAnyH_take (i := 6) (oi := { dst := some 3, op := Op.assign (Operand.tmp 87), type := 33, pos := "ref.go:398", after := #[{ on := 4, ground := Ground.data }, { on := 5, ground := Ground.chain }, { on := 0, ground := Ground.phase }, { on := 1, ground := Ground.phase }, { on := 2, ground := Ground.phase }, { on := 3, ground := Ground.phase }, { on := 4, ground := Ground.phase }, { on := 5, ground := Ground.phase }], guard := none }) (v := ?tkv8007) rfl (by kernel_rfl) (by kernel_rfl) (by kernel_rfl) (fun _ _ _ h => h) (Or.inl ⟨by rfl, ?tky8007⟩) hH8006 ?tkr8007
            case tky8007 => (intro w' hSw; clear hSw; go_simp; try with_reducible rfl)
            try simp only [Act.put, List.setIfInBounds_toArray, List.set_cons_zero, List.set_cons_succ]
            refine wpAnyH_done (by kernel_rfl) ?_ _
            refine NoPanic.normal ?_
            have QE := Lib.hid (hH8006)
            go_wp2_with fail
            refine bodyPost_ret (results_cell_tmp_row rfl _ _ (w.heap.size) _ _ (0, 0) _ rfl row8006.out Try.underlying30 rfl (by kernel_rfl)) rfl ?_
            exact rps_of (parse2_err PP0.out HEE.out HN0.out) ⟨_, rfl, Lib.hid (zero_is _ _), Lib.hid (QE.out.below PT.out.b)⟩
          subst h0
          have hF : r7.fail (readE ly) = ⟨r7.l, readE ly⟩ := by unfold Rd.fail; rw [if_pos hee]
          rw [hF] at PP0
          have HE0' := Lib.hid hee
          clear hF hee
          go_wp2_with fail
          refine (rread_any Ay 44 cy ly wt hrow.out.row hcy.out.1 hcy.out.2).mono ?_
          rintro e wu ⟨ms, rfl, hms, hbu⟩
          have ba := hbu.out.alloc hbu.out.size (.cells ms 28)
          have PU := Lib.hid (PT.out.below ba)
          have HAu := Lib.hid (HAt.out.below ba)
          have HBu := Lib.hid (HBt.out.below ba)
          have IM := Lib.hid hms.out.inf
          have OM := Lib.hid hms.out.one
          have ZM2 : Hid (6 = ms.size) := Lib.hid hms.out.size.symm
          have LT5 := (Array.getElem?_eq_some_iff.1 PT.out.x5).1
          have MS := Lib.hid ((hms.out.imp (P' := fun b => w.heap.size + 2 < b) fun b _ hb => Nat.lt_of_lt_of_le LT5 hb).below ((Below.refl wu.heap.size wu).alloc (Nat.le_refl _) (.cells ms 28)))
          have XM := Lib.hid (heap_alloc_new wu (.cells ms 28))
          have GM : Hid (w.heap.size + 2 < wu.heap.size) := Lib.hid (Nat.lt_of_lt_of_le LT5 hbu.out.size)
          clear hcy hrow hms hbu ba cl ce LT5 PT HAt HBt
          go_upto_region 17 with ((with_reducible show wpList _ _ _ _ _ _); refine wpList_store_new rfl rfl _ (.tmp 10) (.tmp 70) rfl _ _ ms _ rfl rfl IM.out ZM2.out OM.out ?_)
          generalize hg10 : wu.heap.size = g10 at *
          clear hg10
          generalize wu.alloc (.cells ms 28) = wv at *
          by_cases hE : readE ly = 0
          case neg =>
            have h3 : readE ly = 3 := by
              unfold readE at hE ⊢
              split at hE
              · exact absurd rfl hE
              · rename_i hq; rw [if_neg hq]
            have q0 : (readE ly != 0) = true := by simpa using hE
            have H3 := Lib.hid h3
            clear hE h3
            go_upto_region 18 with fail
            clear q0
            go_wp2_with ((with_reducible show wpList _ _ _ _ _ _); refine wpList_store_row rfl _ (.tmp 2) (.tmp 74) rfl (w.heap.size) zState rfl rfl _ _ PU.out.xr (by kernel_rfl) (by rfl) (by kernel_rfl) ?_)
            have hrow := setRow_heap _ _ _ zState _ _ PU.out.xr
            refine bodyPost_ret (results_cell_tmp_row rfl _ _ (w.heap.size) _ _ (0, 0) _ rfl hrow Try.underlying30 rfl (by kernel_rfl)) rfl ?_
            exact rps_of (parse2_err PP0.out H3.out (by decide)) ⟨_, rfl, Lib.hid (zero_is _ _), Lib.hid (below_setRow2 PU.out.b (Nat.le_refl _) _)⟩
          rw [hE]
          rw [hE] at PP0
          have hr7 : (⟨r7.l, 0⟩ : Rd) = r7 := by have := HE0'.out; obtain ⟨a, b⟩ := r7; dsimp only at this; rw [this]
          rw [hr7] at PP0
          clear hE hr7
          generalize readM ly = M at *
          obtain ⟨MA, mc, hmc, hmr⟩ := MS.out
          have HMR := Lib.hid hmr
          have xm : wv.heap[g10]? = some (.cells (M.cells MA mc) 28 (0, 0)) := by rw [← hmc]; exact XM.out
          have m0 : wv.cell? ⟨g10, 0, none⟩ = some (.int .u32 (M.s : Int)) := by rw [cell_of_row _ _ 0 _ _ (0, 0) xm]; rfl
          have m1 : wv.cell? ⟨g10, 1, none⟩ = some (.int .u32 (M.v : Int)) := by rw [cell_of_row _ _ 1 _ _ (0, 0) xm]; rfl
          have m2 : wv.cell? ⟨g10, 2, none⟩ = some (.int .i64 M.l) := by rw [cell_of_row _ _ 2 _ _ (0, 0) xm]; rfl
          have m3 : wv.cell? ⟨g10, 3, none⟩ = some (.int .i64 M.z) := by rw [cell_of_row _ _ 3 _ _ (0, 0) xm]; rfl
          have m4 : wv.cell? ⟨g10, 4, none⟩ = some (.int .i64 M.p) := by rw [cell_of_row _ _ 4 _ _ (0, 0) xm]; rfl
          have m5 : wv.cell? ⟨g10, 5, none⟩ = some (.slice MA M.h.length mc) := by rw [cell_of_row _ _ 5 _ _ (0, 0) xm]; rfl
          have k10 := PU.out.cell 10
          have f10 := PU.out.fro 10
          have k11 := PU.out.cell 11
          have f11 := PU.out.fro 11
          have k12 := PU.out.cell 12
          have f12 := PU.out.fro 12
          have k13 := PU.out.cell 13
          have f13 := PU.out.fro 13
          have k14 := PU.out.cell 14
          have f14 := PU.out.fro 14
          have k15 := PU.out.cell 15
          have f15 := PU.out.fro 15
          have k16 := PU.out.cell 16
          have f16 := PU.out.fro 16
          have hne10 := GM.out
          have hlt5 : w.heap.size + 2 < wv.heap.size := (Array.getElem?_eq_some_iff.1 PU.out.x5).1
          clear xm hmc hmr MS XM
          go_upto_region 19 with fail
          go_cut [] (fun wx => Hid (wx = (((((((wv.setCell ⟨w.heap.size + 2, 10, none⟩ (.bool true)).setCell ⟨w.heap.size + 2, 11, none⟩ (.int .u32 (M.s : Int))).setCell ⟨w.heap.size + 2, 12, none⟩ (.int .u32 (M.v : Int))).setCell ⟨w.heap.size + 2, 13, none⟩ (.int .i64 M.l)).setCell ⟨w.heap.size + 2, 14, none⟩ (.int .i64 M.z)).setCell ⟨w.heap.size + 2, 15, none⟩ (.int .i64 M.p)).setCell ⟨w.heap.size + 2, 16, none⟩ (.slice MA M.h.length mc)).drew))
          case first =>
            go_region
            all_goals (go_wp2_with fail; go_meet; exact Lib.hid rfl)
          case rest =>
            have PW : Hid (PIn w #[.int .i64 (y0.toNat : Int), .int .i64 (y1.toNat : Int), .int .u32 (n3 : Int), .int .u32 (n4 : Int), .int .u32 (S0.v : Int), .int .i64 S0.l, .slice A0 S0.h.length c0, .int .u32 (S1.v : Int), .int .i64 S1.l, .slice A1 S1.h.length c1, .bool true, .int .u32 (M.s : Int), .int .u32 (M.v : Int), .int .i64 M.l, .int .i64 M.z, .int .i64 M.p, .slice MA M.h.length mc] r7 wc) := Lib.hid (by rw [hcut.out]; exact ((((((((PU.out.setC 10 _).setC 11 _).setC 12 _).setC 13 _).setC 14 _).setC 15 _).setC 16 _).drew).cast (by simp))
            have HAw : Hid (RowP wc (fun b => w.heap.size + 2 < b) A0 S0.h.length (bv S0.h)) := Lib.hid (by rw [hcut.out]; exact (((((((HAu.out.setP 10 _).setP 11 _).setP 12 _).setP 13 _).setP 14 _).setP 15 _).setP 16 _).below ((Below.refl _ _).drew))
            have HBw : Hid (RowP wc (fun b => w.heap.size + 2 < b) A1 S1.h.length (bv S1.h)) := Lib.hid (by rw [hcut.out]; exact (((((((HBu.out.setP 10 _).setP 11 _).setP 12 _).setP 13 _).setP 14 _).setP 15 _).setP 16 _).below ((Below.refl _ _).drew))
            have HMw : Hid (RowP wc (fun b => w.heap.size + 2 < b) MA M.h.length (bv M.h)) := Lib.hid (by rw [hcut.out]; exact (((((((HMR.out.setP 10 _).setP 11 _).setP 12 _).setP 13 _).setP 14 _).setP 15 _).setP 16 _).below ((Below.refl _ _).drew))
            clear hcut m0 m1 m2 m3 m4 m5 k10 k11 k12 k13 k14 k15 k16 f10 f11 f12 f13 f14 f15 f16 hne10 hlt5 PU HAu HBu HMR
            obtain ⟨Aq, cq, cl, ce⟩ := PW.out.read
            rw [HE0'.out] at ce
            have HE0 := HE0'
            clear HE0'
            have IS5 := Lib.hid (show IsSt _ (fun b => w.heap.size + 2 < b) (#[.int .i64 (y0.toNat : Int), .int .i64 (y1.toNat : Int), .int .u32 (n3 : Int), .int .u32 (n4 : Int), .int .u32 (S0.v : Int), .int .i64 S0.l, .slice A0 S0.h.length c0, .int .u32 (S1.v : Int), .int .i64 S1.l, .slice A1 S1.h.length c1, .bool true, .int .u32 (M.s : Int), .int .u32 (M.v : Int), .int .i64 M.l, .int .i64 M.z, .int .i64 M.p, .slice MA M.h.length mc]) (mkSt (y0.toNat, y1.toNat, n3, n4, S0, S1, true, M)) from ⟨A0, c0, A1, c1, MA, mc, rfl, HAw.out, HBw.out, HMw.out⟩)
            have I5 := Lib.hid IS5.out.inf
            have O5 := Lib.hid IS5.out.one
            have Z5 := Lib.hid IS5.out.size
            generalize hcs5 : (#[.int .i64 (y0.toNat : Int), .int .i64 (y1.toNat : Int), .int .u32 (n3 : Int), .int .u32 (n4 : Int), .int .u32 (S0.v : Int), .int .i64 S0.l, .slice A0 S0.h.length c0, .int .u32 (S1.v : Int), .int .i64 S1.l, .slice A1 S1.h.length c1, .bool true, .int .u32 (M.s : Int), .int .u32 (M.v : Int), .int .i64 M.l, .int .i64 M.z, .int .i64 M.p, .slice MA M.h.length mc] : Array Value) = cs5 at PW IS5 I5 O5 Z5
            clear hcs5
            obtain ⟨nl, hnl⟩ : ∃ x, r7.l.length = x := ⟨_, rfl⟩
            rw [hnl] at cl
            by_cases hl0 : r7.l = []
            case neg =>
              have hgn : 0 < nl := by
                have : r7.l.length ≠ 0 := fun h => hl0 (List.eq_nil_of_length_eq_zero h)
                omega
              have hgi : (0 : Int) < (nl : Int) := by omega
              have hgt : decide ((0 : Int) < (nl : Int)) = true := decide_eq_true hgi
              have HB := Lib.hid (fun h : r7.l = [] ∧ (mkSt (y0.toNat, y1.toNat, n3, n4, S0, S1, true, M)).may = true => hl0 h.1)
              clear hl0 hnl
              go_upto_region 23 with fail
              clear ce cl hgt hgi hgn
              go_wp2_with ((with_reducible show wpList _ _ _ _ _ _); refine wpList_store_row rfl _ (.tmp 2) (.tmp 99) rfl (w.heap.size) zState rfl rfl _ _ PW.out.xr (by kernel_rfl) (by rfl) (by kernel_rfl) ?_)
              have hrow := setRow_heap _ _ _ zState _ _ PW.out.xr
              refine bodyPost_ret (results_cell_tmp_row rfl _ _ (w.heap.size) _ _ (0, 0) _ rfl hrow Try.underlying30 rfl (by kernel_rfl)) rfl ?_
              exact rps_of (parse2_bad PP0.out HE0.out HB.out) ⟨_, rfl, Lib.hid (zero_is _ _), Lib.hid (below_setRow2 PW.out.b (Nat.le_refl _) _)⟩
            have hn0 : nl = 0 := by rw [← hnl, hl0]; rfl
            subst hn0
            have HL0 := Lib.hid hl0
            clear hl0 hnl
            go_wp2_with ((with_reducible show wpList _ _ _ _ _ _); refine wpList_load_rowG (o := ⟨some 95, _, _, _, _, _⟩) (by rfl) _ (.tmp 5) rfl (w.heap.size + 2) rfl _ _ _ _ (PW.out.x5) Try.underlying30 rfl I5.out ?_)
            refine (rmayS IS5.out).mono ?_
            rintro e wm ⟨rfl, hbm⟩
            have PM := Lib.hid (PW.out.below hbm)
            have ISM := Lib.hid (IS5.out.below hbm)
            clear hbm IS5 ce cl
            cases hmay : LSt.may (mkSt (y0.toNat, y1.toNat, n3, n4, S0, S1, true, M)) with
            | false =>
              have HB : Hid (¬ (r7.l = [] ∧ (mkSt (y0.toNat, y1.toNat, n3, n4, S0, S1, true, M)).may = true)) := Lib.hid (fun h => by have h2 : LSt.may (mkSt (y0.toNat, y1.toNat, n3, n4, S0, S1, true, M)) = true := h.2; rw [hmay] at h2; exact Bool.noConfusion h2)
              clear hmay
              go_wp2_with ((with_reducible show wpList _ _ _ _ _ _); refine wpList_store_row rfl _ (.tmp 2) (.tmp 99) rfl (w.heap.size) zState rfl rfl _ _ PM.out.xr (by kernel_rfl) (by rfl) (by kernel_rfl) ?_)
              have hrow := setRow_heap _ _ _ zState _ _ PM.out.xr
              refine bodyPost_ret (results_cell_tmp_row rfl _ _ (w.heap.size) _ _ (0, 0) _ rfl hrow Try.underlying30 rfl (by kernel_rfl)) rfl ?_
              exact rps_of (parse2_bad PP0.out HE0.out HB.out) ⟨_, rfl, Lib.hid (zero_is _ _), Lib.hid (below_setRow2 PM.out.b (Nat.le_refl _) _)⟩
            | true =>
              have HMY : Hid ((mkSt (y0.toNat, y1.toNat, n3, n4, S0, S1, true, M)).may = true) := Lib.hid hmay
              clear hmay
              go_wp2_with (first
                | ((with_reducible show wpList _ _ _ _ _ _); refine wpList_load_row (o := ⟨some 100, _, _, _, _, _⟩) rfl _ (.tmp 5) rfl (w.heap.size + 2) rfl _ _ _ _ (PM.out.x5) Try.underlying30 rfl I5.out ?_)
                | ((with_reducible show wpList _ _ _ _ _ _); refine wpList_store_row rfl _ (.tmp 2) (.tmp 100) rfl (w.heap.size) cs5 rfl rfl _ _ PM.out.xr I5.out Z5.out.symm O5.out ?_))
              have hrow := setRow_heap _ _ _ cs5 _ _ PM.out.xr
              refine bodyPost_ret (results_cell_tmp_row rfl _ _ (w.heap.size) _ _ (0, 0) _ rfl hrow Try.underlying30 rfl I5.out) rfl ?_
              exact rps_of (parse2_ok PP0.out HE0.out HL0.out HMY.out) ⟨cs5, rfl, Lib.hid ((ISM.out.keep (by simp) fun b hb _ => setRow_other _ _ _ _ (by have : w.heap.size + 2 < b := hb; omega)).imp fun _ _ _ => trivial), Lib.hid (below_setRow2 PM.out.b (Nat.le_refl _) _)⟩
end Go.Proofs.Ytdipccjgpkedhaa
