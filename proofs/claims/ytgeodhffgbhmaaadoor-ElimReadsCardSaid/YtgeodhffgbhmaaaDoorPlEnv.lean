/- A slice of rows (places, data) that came in; light, by contract. Two matrices and a round's row, apart in memory; calls on them. -/
import Derived.Test.YtgeodhffgbhmaaaDoorLawNums
import Derived.Test.YtgeodhffgbhmaaaDoorVecSet
import Derived.Test.YtgeodhffgbhmaaaDoorGrow
import Derived.Deep.Slices
import Derived.Test.YtgeodhffgbhmaaaDoorRMxD
namespace Go.Proofs.YtgeodhffgbhmaaaDoor
open Go.ChangeShapes Go.WideShapes Go.ChangeAt Go.RowKit Vc
/-- one row -/
structure ERow where
  A : Option Addr
  n : Nat
  c : Nat
  zs : List Int
  B : Option Addr
  m : Nat
  d : Nat
  l : List UInt8
instance : Inhabited ERow := ⟨⟨none, 0, 0, [], none, 0, 0, []⟩⟩
/-- what lies behind a row -/
structure ERow.Good (W : World) (r : ERow) : Prop where
  a : Row W W.heap.size r.A r.n (nv r.zs)
  ac : r.n ≤ r.c ∧ r.c ≤ 9223372036854775807
  b : Row W W.heap.size r.B r.m (bv r.l)
  bc : r.m ≤ r.d ∧ r.d ≤ 9223372036854775807
/-- rows that lie in memory -/
def Rows6 (W : World) (A : Option Addr) (m : Nat) (R : Nat → ERow) : Prop := ∀ i, i < m → ∃ b o, A = some ⟨b, o, none⟩ ∧ b < W.heap.size ∧ W.cell? ⟨b, o + i * 2, none⟩ = some (.slice (R i).A (R i).n (R i).c) ∧ W.cell? ⟨b, o + i * 2 + 1, none⟩ = some (.slice (R i).B (R i).m (R i).d) ∧ (R i).Good W
theorem ERow.Good.keep {W W' : World} {r : ERow} (h : r.Good W) (hb : Below W.heap.size W W') : r.Good W' := ⟨(h.a.below hb).more hb.size, h.ac, (h.b.below hb).more hb.size, h.bc⟩
theorem Rows6.keep {W W' : World} {A : Option Addr} {m : Nat} {R : Nat → ERow} (h : Rows6 W A m R) (hb : Below W.heap.size W W') : Rows6 W' A m R := fun i hi => by
  obtain ⟨b, o, e, hl, h1, h2, h3⟩ := h i hi
  exact ⟨b, o, e, Nat.lt_of_lt_of_le hl hb.size, (hb.cell (p := ⟨b, o + i * 2, none⟩) hl).trans h1, (hb.cell (p := ⟨b, o + i * 2 + 1, none⟩) hl).trans h2, h3.keep hb⟩
theorem open_cbytes6 {H : Type} {enc : TypeId × Value → H} {P : Program} {W : World} {t e : TypeId} {fuel : Nat} {cs : List Value} {x : DataW H × List MemPlace}
    (ht : P.underlying t = some (.slice e)) (he : P.underlying e = some (.int .u8)) (hc : P.cellsOf e = 1) (hf : DataW.trod enc P W 0 (fun _ => true) true fuel t cs = some x) :
    ∃ (A : Option Addr) (n cap : Nat) (l : List UInt8), cs = [.slice A n cap] ∧ Row W W.heap.size A n (bv l) ∧ n ≤ cap ∧ cap ≤ 9223372036854775807 := by
  rcases open_ints ht he hc hf with ⟨hcs, hx⟩ | ⟨a, len, cap, zs, hcs, _, hl, hm, hz, hx, hcell, hwz⟩
  · exact ⟨none, 0, 0, [], hcs, Row.nil _ _ _, Nat.le_refl _, by omega⟩
  · unfold maxLen at hm
    simp at hz
    refine ⟨_, _, _, _, hcs, row_of_ints (by omega) hcell hwz ?_, hl, by omega⟩
    rcases Nat.eq_zero_or_pos len with h0 | h0
    · exact .inr h0
    · left
      have := block_lt_of_cell (hcell 0 (by omega))
      simpa [Addr.add] using this
theorem open_cnums6 {H : Type} {enc : TypeId × Value → H} {P : Program} {W : World} {t e : TypeId} {fuel : Nat} {cs : List Value} {x : DataW H × List MemPlace}
    (ht : P.underlying t = some (.slice e)) (he : P.underlying e = some (.int .i64)) (hc : P.cellsOf e = 1) (hf : DataW.trod enc P W 0 (fun _ => true) true fuel t cs = some x) :
    ∃ (A : Option Addr) (n cap : Nat) (zs : List Int), cs = [.slice A n cap] ∧ Row W W.heap.size A n (nv zs) ∧ n ≤ cap ∧ cap ≤ 9223372036854775807 := by
  rcases open_ints ht he hc hf with ⟨hcs, hx⟩ | ⟨a, len, cap, zs, hcs, _, hl, hm, hz, hx, hcell, hwz⟩
  · exact ⟨none, 0, 0, [], hcs, Row.nil _ _ _, Nat.le_refl _, by omega⟩
  · unfold maxLen at hm
    simp at hz
    refine ⟨some a, len, cap, zs.take len, hcs, ⟨by rw [nv_length, List.length_take]; omega, fun hn => ?_⟩, hl, by omega⟩
    obtain ⟨b, o, rfl, hc2⟩ := nums_at hcell (by omega)
    refine ⟨b, o, rfl, block_lt_of_cell (hc2 0 (by omega)), fun j u hu => ?_⟩
    have hj : j < len := by
      have := (List.getElem?_eq_some_iff.1 hu).1
      rw [nv_length, List.length_take] at this; omega
    rw [hc2 j (by omega), ← hu]
    simp [nv, hj, List.getD, show j < zs.length by omega]
theorem open_rows6 {H : Type} {enc : TypeId × Value → H} {P : Program} {W : World} {base : Nat} {t q e e' : TypeId} {v : Value} {d : DataW H} {ps : List MemPlace} {f0 f1 : Field}
    (htq : P.underlying t = some (.slice q)) (ht : P.underlying q = some (.struct #[f0, f1])) (ho : f0.offset = 0 ∧ f1.offset = 1) (h0 : P.underlying f0.type = some (.slice e')) (h1 : P.underlying f1.type = some (.slice e))
    (he' : P.underlying e' = some (.int .i64)) (hc' : P.cellsOf e' = 1) (he : P.underlying e = some (.int .u8)) (hc : P.cellsOf e = 1) (hcs : P.cellsOf f0.type = 1 ∧ P.cellsOf f1.type = 1) (hct : P.cellsOf q = 2)
    (hval : Value.okWide P W .any base t v) (h : DataW.Trod enc P W 0 (fun _ => true) true t v d ps) :
    ∃ (A : Option Addr) (m cap : Nat) (R : Nat → ERow), v = .slice A m cap ∧ m ≤ cap ∧ cap ≤ 9223372036854775807 ∧ Rows6 W A m R := by
  obtain ⟨a0, len, cap, rfl⟩ := okWide_slice htq hval
  obtain ⟨fuel, hf⟩ := h
  rcases Go.Deep.open_slice htq hf with ⟨hcs0, _⟩ | ⟨a, len', cap', m, n, D, Pl, hcs0, _, hl, hm, hmm, _, hx⟩
  · simp [Value.cells] at hcs0
    obtain ⟨rfl, rfl, rfl⟩ := hcs0
    exact ⟨none, 0, 0, fun _ => default, rfl, Nat.le_refl _, by omega, fun i hi => by omega⟩
  · simp [Value.cells] at hcs0
    obtain ⟨rfl, rfl, rfl⟩ := hcs0
    unfold maxLen at hm
    simp only [if_true] at hmm
    subst hmm
    obtain ⟨C, hC⟩ := Go.Deep.choose_lt (α := ERow) (p := fun i (c : ERow) => W.cell? (a.add (i * 2)) = some (.slice c.A c.n c.c) ∧ W.cell? ((a.add (i * 2)).add 1) = some (.slice c.B c.m c.d) ∧ c.Good W) (fun i hi => by
      obtain ⟨cs', h2, h3⟩ := hx i hi
      rw [hct] at h2
      obtain ⟨_, hlen, hcell⟩ := World.cells?_some h2
      obtain ⟨c0, c1, rfl⟩ : ∃ c0 c1, cs' = [c0, c1] := by
        match cs', hlen with
        | [c0, c1], _ => exact ⟨c0, c1, rfl⟩
      obtain ⟨xs, m2, _, _, _, hxl, hx2⟩ := DataW.trod_struct ht h3
      have hxl3 : xs.length = 2 := hxl
      have g0 := hx2 0 f0 rfl
      have g1 := hx2 1 f1 rfl
      rw [ho.1, hcs.1, List.getElem?_eq_getElem (by omega)] at g0
      rw [ho.2, hcs.2, List.getElem?_eq_getElem (by omega)] at g1
      obtain ⟨A', n0, k0, zs, hd0, hrow0, hn0, hcap0⟩ := open_cnums6 h0 he' hc' g0
      obtain ⟨B', n', c', l, hd, hrow, hn, hcap⟩ := open_cbytes6 h1 he hc g1
      simp at hd0 hd
      subst hd0 hd
      have k0' := hcell 0 (by omega)
      have k1 := hcell 1 (by omega)
      refine ⟨⟨A', n0, k0, zs, B', n', c', l⟩, ?_, k1, ⟨hrow0, ⟨hn0, hcap0⟩, hrow, ⟨hn, hcap⟩⟩⟩
      have e0 : (a.add (i * 2)).add 0 = a.add (i * 2) := by rw [Go.Deep.add_add, Nat.add_zero]
      rw [← e0]
      exact k0')
    refine ⟨some a, len, _, C, rfl, hl, by omega, fun i hi => ?_⟩
    obtain ⟨b1, b2, b3⟩ := hC i (by omega)
    obtain ⟨b, off, spot⟩ := a
    have hspot : spot = none := by simpa [Addr.add] using World.cell?_spot (hC 0 (by omega)).1
    subst hspot
    rw [Go.Deep.add_add, Go.WideShapes.add_plain] at b2
    rw [Go.WideShapes.add_plain] at b1
    exact ⟨b, off, rfl, block_lt_of_cell b1, b1, b2, b3⟩
/-- what light tells -/
def LightOk (m : Nat) (R : Nat → ERow) (w : World) (e : Ending) (w' : World) : Prop := ∃ b : Bool, e = .returned (.bool b) ∧ Hid (b = true → m ≤ 60 ∧ ∀ i, i < m → (R i).n ≤ 100 ∧ (R i).m ≤ 40) ∧ Hid (Below w.heap.size w w')
theorem LightOk.no {m : Nat} {R : Nat → ERow} {w w' : World} (h : Below w.heap.size w w') : LightOk m R w (.returned (.bool false)) w' := ⟨false, rfl, Lib.hid (fun h => by cases h), Lib.hid h⟩
theorem LightOk.yes {m : Nat} {R : Nat → ERow} {w w' : World} (h : Below w.heap.size w w') (h2 : m ≤ 60 ∧ ∀ i, i < m → (R i).n ≤ 100 ∧ (R i).m ≤ 40) : LightOk m R w (.returned (.bool true)) w' := ⟨true, rfl, Lib.hid (fun _ => h2), Lib.hid h⟩
set_option maxRecDepth 100000 in
set_option maxHeartbeats 1600000 in
theorem light_any (A : Option Addr) (m c : Nat) (R : Nat → ERow) (w : World) (hr : Rows6 w A m R) (_hc : m ≤ c ∧ c ≤ 9223372036854775807) :
    Calls Tryd.prog 6 #[.slice A m c] w (LightOk m R w) := by
  have HR := Lib.hid hr
  clear hr
  go_enter Tryd.func6, Tryd.ntmps6
  go_wp2_with fail
  go_loopw [7] (fun x wr => ∃ k : Nat, k ≤ m ∧ k ≤ 60 ∧ x = .int .i64 (k : Int) ∧ Hid (∀ i, i < k → (R i).n ≤ 100 ∧ (R i).m ≤ 40) ∧ Hid (Below w.heap.size w wr)) (fun x _ => m - (intOf x).toNat)
  case atStart => exact ⟨0, by omega, by omega, rfl, Lib.hid (fun i hi => by omega), Lib.hid (Below.refl _ _)⟩
  case round =>
    obtain ⟨k, hk, hk60, rfl, HI, HB⟩ := hrel
    by_cases hlt : k < m
    · have hki : (k : Int) < (m : Int) := by omega
      obtain ⟨b, o, rfl, hbl, c0, c1, hg⟩ := HR.out.keep HB.out k hlt
      have ha1 := hg.ac
      have hb1 := hg.bc
      have hal : Below wr.heap.size wr (wr.alloc (.cells #[.slice (R k).A (R k).n (R k).c, .slice (R k).B (R k).m (R k).d] 32)) := (Below.refl _ _).alloc (Nat.le_refl _) _
      have HBX := Lib.hid (heap_alloc_new wr (.cells #[.slice (R k).A (R k).n (R k).c, .slice (R k).B (R k).m (R k).d] 32))
      have HBN := Lib.hid (HB.out.trans (hal.mono HB.out.size))
      have hkki : (k : Int) ≤ 60 := by omega
      clear hg hal
      go_upto_region 4 with fail
      clear c0 c1
      generalize (wr.alloc (.cells #[.slice (R k).A (R k).n (R k).c, .slice (R k).B (R k).m (R k).d] 32)) = wa at *
      have b0 : wa.cell? ⟨wr.heap.size, 0, none⟩ = some (.slice (R k).A (R k).n (R k).c) := by rw [cell_of_row wa _ 0 _ _ (0, 0) HBX.out]; rfl
      have b1 : wa.cell? ⟨wr.heap.size, 1, none⟩ = some (.slice (R k).B (R k).m (R k).d) := by rw [cell_of_row wa _ 1 _ _ (0, 0) HBX.out]; rfl
      by_cases h60 : 60 ≤ k
      · have h60i : (60 : Int) ≤ (k : Int) := by omega
        go_wp2_with fail
        go_ret
        exact LightOk.no HBN.out
      · have h60i : ¬ (60 : Int) ≤ (k : Int) := by omega
        by_cases h100 : 100 < (R k).n
        · have h100i : (100 : Int) < ((R k).n : Int) := by omega
          go_wp2_with fail
          go_ret
          exact LightOk.no HBN.out
        · have h100i : ¬ (100 : Int) < ((R k).n : Int) := by omega
          by_cases h40 : 40 < (R k).m
          · have h40i : (40 : Int) < ((R k).m : Int) := by omega
            go_wp2_with fail
            go_ret
            exact LightOk.no HBN.out
          · have h40i : ¬ (40 : Int) < ((R k).m : Int) := by omega
            have HIN : Hid (∀ i, i < k + 1 → (R i).n ≤ 100 ∧ (R i).m ≤ 40) := Lib.hid fun i hi => by
              rcases Nat.lt_or_ge i k with h | h
              · exact HI.out i h
              · obtain rfl : i = k := by omega
                exact ⟨by omega, by omega⟩
            go_wp2_with fail
            go_roundw
            case rel => exact ⟨k + 1, by omega, by omega, by go_num, HIN, HBN⟩
            case measure => simp [intOf]; omega
    · obtain rfl : m = k := by omega
      have HY := Lib.hid (LightOk.yes HB.out ⟨hk60, HI.out⟩)
      clear hlt
      go_wp2_with fail
      go_ret
      exact HY.out
end Go.Proofs.YtgeodhffgbhmaaaDoor
namespace Go.Proofs.YtgeodhffgbhmaaaDoor.El
open Go.RowKit
open VecM Vc
/-- box gb is a row -/
def BX6 (gb : Nat) (cs : Array Value) (W : World) : Prop := W.heap[gb]? = some (.cells cs 32 (0, 0))
/-- a row of the program, one of the reference, the box they came from -/
structure EnvR (n X g h gv gb : Nat) (cs : Array Value) (W : World) (H : Nat → Prop) : Prop where
  q : H g ∧ H h ∧ H gv ∧ H gb
  lt : gv < W.heap.size
  v : VecAt W g h n X
  r : RowU (some ⟨gv, 0, none⟩) n (vb X n) W
  b : BX6 gb cs W
def envO (n X g h gv gb : Nat) (cs : Array Value) : Obj := fun W H => EnvR n X g h gv gb cs W H
theorem keeps_env (n X g h gv gb : Nat) (cs : Array Value) : Keeps (envO n X g h gv gb cs) := fun _ _ _ a hk hs =>
  ⟨a.q, Nat.lt_of_lt_of_le a.lt hs, a.v.keep (hk g a.q.1 a.v.lt.1) (hk h a.q.2.1 a.v.lt.2), row_same1 a.r (hk gv a.q.2.2.1 a.lt) hs, (hk gb a.q.2.2.2 (Array.getElem?_eq_some_iff.1 a.b).1).trans a.b⟩
/-- both matrices and the row, made since world w0 -/
def PlE (gm gw n z : Nat) (M Mw : Mx) (X g h gv gb : Nat) (cs : Array Value) (w0 W : World) : Prop := Sep3 (matO gm n z M) (rmO gw n z (rowsTo Mw n)) (envO n X g h gv gb cs) w0 W
/-- Add, whatever the length -/
def addZ (n z : Nat) (M : Mx) (X m : Nat) (l : List UInt8) : Mx × Bool := if m = z then addMx n M X l else (M, false)
theorem addZ_inv {n z X m : Nat} {M : Mx} {l : List UInt8} (h : Inv n z M) (hn : n ≤ 256) (hX : X < 2 ^ n) (hl : l.length = m) : Inv n z (addZ n z M X m l).1 := by
  unfold addZ
  split
  · rename_i e; exact addMx_inv h hn hX (hl.trans e)
  · exact h
section
variable {gm gw n z g h X gv gb : Nat} {M Mw : Mx} {cs : Array Value} {w0 W W' : World}
theorem PlE.below (e : PlE gm gw n z M Mw X g h gv gb cs w0 W) (hb : Below W.heap.size W W') : PlE gm gw n z M Mw X g h gv gb cs w0 W' := Sep3.below e (keeps_mat _ _ _ _) (keeps_rm _ _ _ _) (keeps_env _ _ _ _ _ _ _) hb
theorem PlE.bx (e : PlE gm gw n z M Mw X g h gv gb cs w0 W) : BX6 gb cs W := by
  obtain ⟨F, G, H, a, b, c, h1, h2, h3, h4, h5⟩ := e
  exact c.b
theorem PlE.b (e : PlE gm gw n z M Mw X g h gv gb cs w0 W) : Below w0.heap.size w0 W := Sep3.b e
theorem PlE.env (e : PlE gm gw n z M Mw X g h gv gb cs w0 W) : VecAt W g h n X ∧ RowU (some ⟨gv, 0, none⟩) n (vb X n) W := by
  obtain ⟨F, G, H, a, b, c, h1, h2, h3, h4, h5⟩ := e
  exact ⟨c.v, c.r⟩
theorem PlE.drop (e : PlE gm gw n z M Mw X g h gv gb cs w0 W) : Sep3 (matO gm n z M) (rmO gw n z (rowsTo Mw n)) noObj w0 W := by
  obtain ⟨F, G, H, a, b, c, h1, h2, h3, h4, h5⟩ := e
  exact ⟨F, G, H, a, b, trivial, h1, h2, h3, h4, h5⟩
theorem PlE.make (s : Sep3 (matO gm n z M) (rmO gw n z (rowsTo Mw n)) noObj w0 W) (hb : Below W.heap.size W W') (q : W.heap.size ≤ g ∧ W.heap.size ≤ h ∧ W.heap.size ≤ gv ∧ W.heap.size ≤ gb) (hlt : gv < W'.heap.size) (v : VecAt W' g h n X) (r : RowU (some ⟨gv, 0, none⟩) n (vb X n) W') (b : BX6 gb cs W') : PlE gm gw n z M Mw X g h gv gb cs w0 W' := by
  have h1 := (Sep3.rot (Sep3.rot s)).create (w' := W') (keeps_mat gm n z M) (keeps_rm gw n z (rowsTo Mw n)) hb (A' := envO n X g h gv gb cs) ⟨⟨⟨q.1, v.lt.1⟩, ⟨q.2.1, v.lt.2⟩, ⟨q.2.2.1, hlt⟩, q.2.2.2, (Array.getElem?_eq_some_iff.1 b).1⟩, hlt, v, r, b⟩
  exact h1.rot
/-- the program says what it can't tell yet -/
theorem pl_says (e : PlE gm gw n z M Mw X g h gv gb cs w0 W) (ht : DTab w0) : Calls Tryd.prog 12 #[.pointer (some ⟨gm, 0, none⟩), .pointer (some ⟨g, 0, none⟩)] W fun e' W' => e' = .returned (.bool (decide ((redM M X [] n).1 ≠ 0))) ∧ Hid (Below W.heap.size W W') := by
  have hb := e.b
  obtain ⟨F, G, H, a, b, c, h1, h2, h3, h4, h5⟩ := e
  exact saysI a c.v (ht.grow hb)
theorem pl_rsays (e : PlE gm gw n z M Mw X g h gv gb cs w0 W) : Calls Tryd.prog 13 #[.pointer (some ⟨gw, 0, none⟩), .slice (some ⟨gv, 0, none⟩) n n] W fun e' W' => e' = .returned (.bool (decide ((redM Mw X [] n).1 ≠ 0))) ∧ Hid (Below W.heap.size W W') := by
  obtain ⟨F, G, H, a, b, c, h1, h2, h3, h4, h5⟩ := e
  exact rsays_any G gw n z X n Mw _ W b c.r c.v.2.1
theorem pl_add (e : PlE gm gw n z M Mw X g h gv gb cs w0 W) (hi : Inv n z M) (ht : DTab w0) {B : Option Addr} {m d : Nat} {l : List UInt8} (hr : Row w0 w0.heap.size B m (bv l)) : Calls Tryd.prog 14 #[.pointer (some ⟨gm, 0, none⟩), .pointer (some ⟨g, 0, none⟩), .slice B m d] W fun e' W' => e' = .returned (.bool (addZ n z M X m l).2) ∧ Hid (PlE gm gw n z (addZ n z M X m l).1 Mw X g h gv gb cs w0 W') := by
  have hb := e.b
  have hrb := hr.below hb
  have hll := hr.blen
  obtain ⟨F, hm, hF, hF2, hnext⟩ := Sep3.first2 e (keeps_rm _ _ _ _) (keeps_env _ _ _ _ _ _ _)
  obtain ⟨hv, _⟩ := e.env
  unfold addZ
  by_cases hz : m = z
  · rw [if_pos hz]
    have hc := addI (c0 := d) hm hi hv (A := B) (l := l) (by rw [hll]; exact hrb.more hb.size) (by rw [hll]; exact hz) (ht.grow hb)
    rw [← hz] at hc
    rw [← hz]
    refine hc.mono fun e' w' ⟨he, h1, h2⟩ => ⟨he, Lib.hid ?_⟩
    rw [← hz] at hnext
    exact hnext w' (matO gm n m (addMx n M X l).1) h1.out h2.out
  · rw [if_neg hz]
    obtain ⟨gr, rs, hrs, mm⟩ := hm
    refine (add_len F gm gr n z rs g h X d B m W mm hv hz).mono fun e' w' ⟨he, h1⟩ => ⟨he, Lib.hid (e.below h1.out)⟩
theorem pl_radd (e : PlE gm gw n z M Mw X g h gv gb cs w0 W) (hi : Inv n z Mw) {B : Option Addr} {m d : Nat} {l : List UInt8} (hr : Row w0 w0.heap.size B m (bv l)) : Calls Tryd.prog 15 #[.pointer (some ⟨gw, 0, none⟩), .slice (some ⟨gv, 0, none⟩) n n, .slice B m d] W fun e' W' => e' = .returned (.bool (addZ n z Mw X m l).2) ∧ Hid (PlE gm gw n z M (addZ n z Mw X m l).1 X g h gv gb cs w0 W') := by
  have hb := e.b
  have hrb := hr.below hb
  obtain ⟨hv, hrw⟩ := e.env
  obtain ⟨F, hm, hF, hF2, hnext⟩ := Sep3.first2 (Sep3.swap e) (keeps_mat _ _ _ _) (keeps_env _ _ _ _ _ _ _)
  unfold addZ
  by_cases hz : m = z
  · rw [if_pos hz]
    subst hz
    refine (raddI (c := n) (cd := d) hm hi hrw (hrb.more hb.size) hv.2.1).mono fun e' w' ⟨he, h1, h2⟩ => ⟨he, Lib.hid ?_⟩
    exact (hnext w' (rmO gw n m (rowsTo (addMx n Mw X l).1 n)) h1.out h2.out).swap
  · rw [if_neg hz]
    refine (radd_len F gw n z m d (rowsTo Mw n) _ B W hm hz).mono fun e' w' ⟨he, h1⟩ => ⟨he, Lib.hid (by subst h1; exact e)⟩
theorem pl_like5 (e : PlE gm gw n z M Mw X g h gv gb cs w0 W) (ht : DTab w0) : Calls Tryd.prog 16 #[.pointer (some ⟨g, 0, none⟩), .slice (some ⟨gv, 0, none⟩) n n] W fun e' W' => e' = .returned (.int .i64 0) ∧ Hid (Below W.heap.size W W') := by
  obtain ⟨hv, hrw⟩ := e.env
  exact like_yes g h n X W.heap.size n _ W hv hrw (Nat.le_refl _) (ht.grow e.b)
end
/-- both matrices are alike -/
theorem sep_like {gm gw n z : Nat} {M : Mx} {C : Obj} {w0 W : World} (e : Sep3 (matO gm n z M) (rmO gw n z (rowsTo M n)) C w0 W) (ht : DTab w0) : Calls Tryd.prog 17 #[.pointer (some ⟨gm, 0, none⟩), .pointer (some ⟨gw, 0, none⟩)] W fun e' W' => e' = .returned (.bool true) ∧ Hid (Below W.heap.size W W') := by
  have hb := e.b
  obtain ⟨F, G, H, a, b, c, h1, h2, h3, h4, h5⟩ := e
  exact like6_any gm gw n z M W a b (ht.grow hb)
/-- the rows of a full matrix -/
theorem rowsTo_all {M : Mx} {n : Nat} (hl : M.length = n) (hf : rankM M = n) : ∀ k, k ≤ n → (rowsTo M k).length = k ∧ (rowsTo M k).map (fun r => r.2.2) = (solM M).take k := by
  have h1 := List.length_filter_eq_length_iff.1 (show (M.filter Option.isSome).length = M.length from hf.trans hl.symm)
  intro k
  induction k with
  | zero => intro _; exact ⟨rfl, rfl⟩
  | succ k ih =>
    intro hk
    obtain ⟨a1, a2⟩ := ih (by omega)
    have hkl : k < M.length := by omega
    obtain ⟨r, hr⟩ := Option.isSome_iff_exists.1 (h1 (M[k]) (List.getElem_mem hkl))
    have hM : M.getD k none = some r := by rw [List.getD_eq_getElem?_getD, List.getElem?_eq_getElem hkl]; exact hr
    have hs : (solM M)[k]? = some r.2 := by
      unfold solM
      rw [List.getElem?_map, List.getElem?_eq_getElem hkl, hr]; rfl
    show (rowsTo M k ++ lnAt M k).length = k + 1 ∧ (rowsTo M k ++ lnAt M k).map (fun r => r.2.2) = _
    rw [lnAt_some hM]
    refine ⟨by rw [List.length_append, a1]; rfl, ?_⟩
    rw [List.map_append, a2, take_snoc hs]; rfl
theorem rowsTo_full {M : Mx} {n : Nat} (hl : M.length = n) (hf : rankM M = n) : (rowsTo M n).map (fun r => r.2.2) = solM M := by
  rw [(rowsTo_all hl hf n (Nat.le_refl _)).2, List.take_of_length_le]
  unfold solM
  rw [List.length_map]; omega
end Go.Proofs.YtgeodhffgbhmaaaDoor.El
