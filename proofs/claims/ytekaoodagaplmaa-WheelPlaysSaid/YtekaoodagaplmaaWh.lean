/- Wheel: its records, itself, in memory. -/
import Derived.Test.YtekaoodagaplmaaWhB
import Derived.Maps.AppendAt
import Derived.Deep.RegionHeld3
import Derived.Deep.WholeRow
namespace Go.Proofs.Ytekaoodagaplmaa
open Go.RowKit
theorem app_run2 {P : Program} (w : World) (base : Nat) (t ty e : TypeId) (i : TypeInfo) (z : Value) (bytes : Nat) (ht : P.underlying t = some (.slice e)) (hi : P.info? e = some i) (hz : i.zero = some z)
    (hsize : i.size = 2) (hby : i.bytes = bytes) (hzs : z.cells.size = 2)
    (v : Value) (n : Nat) (xs : List Value) (hown : w.ownsRow base e 2 v n xs)
    (g c : Nat) (x y : Value) (e' : TypeId) (hg : w.heap[g]? = some (.cells #[x, y] e' (0, 0))) (hx1 : x.oneCell' = true) (hy1 : y.oneCell' = true)
    (h63 : n + 1 ≤ maxLen) (hbytes : (n + 1) * bytes ≤ 140737488355328) (hbase : base ≤ w.heap.size) :
    ∃ v' w', (Builtin.append_ #[t, t] ty #[v, .slice (some ⟨g, 0, none⟩) 1 c]).run P w = .ok v' w' ∧ w'.ownsRow base e 2 v' (n + 1) (xs ++ [x, y]) ∧ w.grownBy w' v.ownBlock ∧
      (v'.ownBlock = v.ownBlock ∨ v'.ownBlock = some w.heap.size) := by
  have hc : ∀ j u, [x, y][j]? = some u → w.cell? ((⟨g, 0, none⟩ : Addr).add j) = some u := by
    intro j u hu
    rw [plain_add, Nat.zero_add, cell_of_row w g j _ e' (0, 0) hg]
    simpa using hu
  obtain ⟨v', w', hrun, h2, h3, _, h5⟩ := run_append_own_at (P := P) w base t ty e i z 2 bytes ht hi hz hsize hby hzs (by omega) v n xs hown ⟨g, 0, none⟩ 1 c [x, y] rfl hc (by intro u hu; simp at hu; rcases hu with rfl | rfl <;> assumption) h63 hbytes hbase
  exact ⟨v', w', hrun, h2, h3, h5⟩
theorem wp_app2 {P : Program} {w : World} {o : Oper} {a : Act} {K : Act → World → Prop} {Q : Exit → Act → World → Prop} (s q : Operand) (t : TypeId)
    (ho : o.op = .call { callee := .builtin .append, args := #[s, q], argTypes := #[t, t] })
    (base : Nat) (e : TypeId) (i : TypeInfo) (z : Value) (bytes : Nat) (ht : P.underlying t = some (.slice e)) (hi : P.info? e = some i) (hz : i.zero = some z)
    (hsize : i.size = 2) (hby : i.bytes = bytes) (hzs : z.cells.size = 2)
    (v : Value) (n : Nat) (xs : List Value) (hs : a.eval s = v) (hown : w.ownsRow base e 2 v n xs)
    (g c : Nat) (x y : Value) (e' : TypeId) (hx : a.eval q = .slice (some ⟨g, 0, none⟩) 1 c) (hg : w.heap[g]? = some (.cells #[x, y] e' (0, 0))) (hx1 : x.oneCell' = true) (hy1 : y.oneCell' = true)
    (h63 : n + 1 ≤ maxLen) (hbytes : (n + 1) * bytes ≤ 140737488355328) (hbase : base ≤ w.heap.size)
    (h : ∀ v' w', w'.ownsRow base e 2 v' (n + 1) (xs ++ [x, y]) → w.grownBy w' v.ownBlock → (v'.ownBlock = v.ownBlock ∨ v'.ownBlock = some w.heap.size) → K (a.put o.dst v') w') : o.wp P a w K Q := by
  obtain ⟨v', w', hrun, h2, h3, h4⟩ := app_run2 (P := P) w base t o.type e i z bytes ht hi hz hsize hby hzs v n xs hown g c x y e' hg hx1 hy1 h63 hbytes hbase
  unfold Oper.wp execOp
  simp only [ho, resolve, invoke, builtin, Sem.run_bind, Sem.run_pure, Result.andThen_ok, List.map_toArray, List.map_cons, List.map_nil, hs, hx, hrun]
  exact h v' w' h2 h3 h4
theorem own2_form {w : World} {base : Nat} {e : TypeId} {v : Value} {n k : Nat} {xs : List Value} (h : w.ownsRow base e k v (n + 1) xs) : ∃ A c, v = .slice A (n + 1) c := by
  rcases h.2 with ⟨_, h0⟩ | ⟨g, cap, cur, hv', _⟩
  · omega
  · exact ⟨_, _, hv'⟩
structure RRow where
  id : Nat
  A : Option Addr
  n : Nat
  c : Nat
  d : List UInt8
def RRow.cells (r : RRow) : List Value := [.int .u32 (r.id : Int), .slice r.A r.n r.c]
def RRow.pair (r : RRow) : Nat × List UInt8 := (r.id, r.d)
def rcells (es : List RRow) : List Value := es.flatMap RRow.cells
theorem rcells_append (es : List RRow) (r : RRow) : rcells (es ++ [r]) = rcells es ++ r.cells := by simp [rcells]
/-- a record's data, in a block of Q, not where the list v lies -/
def RcAt (Q : Nat → Prop) (W : World) (v : Value) (r : RRow) : Prop := ∃ g o, r.A = some ⟨g, o, none⟩ ∧ Q g ∧ g < W.heap.size ∧ v.ownBlock ≠ some g ∧ Row W W.heap.size r.A r.n (bv r.d)
/-- a list of records, in blocks of Q -/
def RecW (Q : Nat → Prop) (W : World) (v : Value) (n : Nat) (es : List RRow) : Prop := W.ownsRow 0 77 2 v n (rcells es) ∧ (∀ g, v.ownBlock = some g → Q g) ∧ es.length = n ∧ ∀ r ∈ es, RcAt Q W v r
theorem own2_keep {w w' : World} {base : Nat} {e : TypeId} {v : Value} {n k : Nat} {xs : List Value} (h : w.ownsRow base e k v n xs) (hk : ∀ g, v.ownBlock = some g → g < w.heap.size → w'.heap[g]? = w.heap[g]?) : w'.ownsRow base e k v n xs := by
  refine ⟨h.1, ?_⟩
  rcases h.2 with h0 | ⟨g, cap, cur, hv, hbg, hg, r⟩
  · exact .inl h0
  · exact .inr ⟨g, cap, cur, hv, hbg, by rw [hk g (by rw [hv]; rfl) (Array.getElem?_eq_some_iff.1 hg).1]; exact hg, r⟩
theorem row_same1 {w W : World} {g o n : Nat} {xs : List Value} (hr : Row w w.heap.size (some ⟨g, o, none⟩) n xs) (hb : W.heap[g]? = w.heap[g]?) (hs : w.heap.size ≤ W.heap.size) : Row W W.heap.size (some ⟨g, o, none⟩) n xs := by
  refine ⟨hr.1, fun hn => ?_⟩
  obtain ⟨b, o', e, hb', hc⟩ := hr.2 hn
  injection e with e
  injection e with e1 e2
  subst e1 e2
  refine ⟨g, o, rfl, Nat.lt_of_lt_of_le hb' hs, fun j u hu => ?_⟩
  rw [World.cell?_of_block (w := w) (w' := W) (a := ⟨g, o + j, none⟩) hb]
  exact hc j u hu
section
variable {Q Q' : Nat → Prop} {W W' : World} {v v' : Value} {n : Nat} {es : List RRow}
theorem RecW.keep (h : RecW Q W v n es) (hk : ∀ b, Q b → b < W.heap.size → W'.heap[b]? = W.heap[b]?) (hs : W.heap.size ≤ W'.heap.size) : RecW Q W' v n es := by
  refine ⟨own2_keep h.1 fun g hg hl => hk g (h.2.1 g hg) hl, h.2.1, h.2.2.1, fun r hr => ?_⟩
  obtain ⟨g, o, a1, a2, a3, a4, a5⟩ := h.2.2.2 r hr
  refine ⟨g, o, a1, a2, Nat.lt_of_lt_of_le a3 hs, a4, ?_⟩
  rw [a1] at a5 ⊢
  exact row_same1 a5 (hk g a2 a3) hs
theorem RecW.more (h : RecW Q W v n es) (hq : ∀ b, Q b → Q' b) : RecW Q' W v n es :=
  ⟨h.1, fun g hg => hq g (h.2.1 g hg), h.2.2.1, fun r hr => by
    obtain ⟨g, o, a1, a2, r⟩ := h.2.2.2 r hr
    exact ⟨g, o, a1, hq g a2, r⟩⟩
theorem RecW.nil (Q : Nat → Prop) (W : World) : RecW Q W (.slice none 0 0) 0 [] := ⟨World.ownsRow_nil _ _ _ _, (fun g h => by cases h), rfl, fun r hr => by cases hr⟩
/-- a record more -/
theorem RecW.next {r : RRow} (h : RecW Q W v n es) (hr : RcAt Q' W v r) (hown : W'.ownsRow 0 77 2 v' (n + 1) (rcells es ++ r.cells)) (hg : W.grownBy W' v.ownBlock) (hv : v'.ownBlock = v.ownBlock ∨ v'.ownBlock = some W.heap.size) (hq : ∀ b, Q b → Q' b) (hn : v'.ownBlock = some W.heap.size → Q' W.heap.size) : RecW Q' W' v' (n + 1) (es ++ [r]) := by
  have hnv : ∀ g, g < W.heap.size → v.ownBlock ≠ some g → v'.ownBlock ≠ some g := by
    intro g hg1 hg2 e
    rcases hv with h | h
    · exact hg2 (h.symm.trans e)
    · rw [h] at e; injection e with e; omega
  refine ⟨by rw [rcells_append]; exact hown, fun g hgv => ?_, by rw [List.length_append, h.2.2.1]; rfl, fun q hq2 => ?_⟩
  · rcases hv with e | e
    · exact hq g (h.2.1 g (e.symm.trans hgv))
    · have hn := hn e
      rw [e] at hgv; injection hgv with hgv; rw [← hgv]; exact hn
  · rcases List.mem_append.1 hq2 with hm | hm
    · obtain ⟨g, o, a1, a2, a3, a4, a5⟩ := h.2.2.2 q hm
      refine ⟨g, o, a1, hq g a2, Nat.lt_of_lt_of_le a3 hg.size, hnv g a3 a4, ?_⟩
      rw [a1] at a5 ⊢
      exact row_same1 a5 (hg.block g a3 (fun e => a4 e.symm)) hg.size
    · obtain rfl := List.mem_singleton.1 hm
      obtain ⟨g, o, a1, a2, a3, a4, a5⟩ := hr
      refine ⟨g, o, a1, a2, Nat.lt_of_lt_of_le a3 hg.size, hnv g a3 a4, ?_⟩
      rw [a1] at a5 ⊢
      exact row_same1 a5 (hg.block g a3 (fun e => a4 e.symm)) hg.size
end
def wcells (gf : Nat) (h : Wh) (v : Value) : Array Value := #[.pointer (some ⟨gf, 0, none⟩), .int .u32 (h.gen : Int), .int .i64 (h.size : Int), v, .int .i64 h.ready, .int .i64 (h.next : Int)]
/-- the wheel h, in block gw and others of P, over the flash in block gf -/
def WhAt (P : Nat → Prop) (gw gf : Nat) (h : Wh) (W : World) : Prop :=
  ∃ A n c es, W.heap[gw]? = some (.cells (wcells gf h (.slice A n c)) 66 (0, 0)) ∧ P gw ∧ ¬ P gf ∧ RecW (fun b => P b ∧ b ≠ gw) W (.slice A n c) n es ∧ es.map RRow.pair = h.L
section
variable {P P' : Nat → Prop} {gw gf : Nat} {h h' : Wh} {W W' : World}
theorem WhAt.lt (a : WhAt P gw gf h W) : gw < W.heap.size := by
  obtain ⟨A, n, c, es, hg, _⟩ := a
  exact (Array.getElem?_eq_some_iff.1 hg).1
theorem WhAt.keep (a : WhAt P gw gf h W) (hk : ∀ b, P b → b < W.heap.size → W'.heap[b]? = W.heap[b]?) (hs : W.heap.size ≤ W'.heap.size) : WhAt P gw gf h W' := by
  have hl := a.lt
  obtain ⟨A, n, c, es, hg, h1, h2, h3, h4⟩ := a
  exact ⟨A, n, c, es, (hk gw h1 hl).trans hg, h1, h2, h3.keep (fun b hb => hk b hb.1) hs, h4⟩
theorem WhAt.below (a : WhAt P gw gf h W) (hb : Below W.heap.size W W') : WhAt P gw gf h W' := a.keep (fun b _ hl => hb.block b hl) hb.size
theorem WhAt.more (a : WhAt P gw gf h W) (hp : ∀ b, P b → P' b) (hf : ¬ P' gf) : WhAt P' gw gf h W := by
  obtain ⟨A, n, c, es, hg, h1, h2, h3, h4⟩ := a
  exact ⟨A, n, c, es, hg, hp gw h1, hf, h3.more (fun b hb => ⟨hp b hb.1, hb.2⟩), h4⟩
theorem wc6 {v : Value} (hg : W.heap[gw]? = some (.cells (wcells gf h v) 66 (0, 0))) :
    W.cell? ⟨gw, 0, none⟩ = some (.pointer (some ⟨gf, 0, none⟩)) ∧ W.cell? ⟨gw, 1, none⟩ = some (.int .u32 (h.gen : Int)) ∧ W.cell? ⟨gw, 2, none⟩ = some (.int .i64 (h.size : Int)) ∧ W.cell? ⟨gw, 3, none⟩ = some v ∧ W.cell? ⟨gw, 4, none⟩ = some (.int .i64 h.ready) ∧ W.cell? ⟨gw, 5, none⟩ = some (.int .i64 (h.next : Int)) ∧
    W.frozen? ⟨gw, 3, none⟩ = false ∧ W.frozen? ⟨gw, 4, none⟩ = false ∧ W.frozen? ⟨gw, 5, none⟩ = false := by
  refine ⟨?_, ?_, ?_, ?_, ?_, ?_, frozen_of_row W gw _ _ _ hg, frozen_of_row W gw _ _ _ hg, frozen_of_row W gw _ _ _ hg⟩ <;> (rw [cell_of_row W gw _ _ _ (0, 0) hg]; rfl)
theorem recW_set {Q : Nat → Prop} {v : Value} {n k : Nat} {es : List RRow} (hr : RecW Q W v n es) (hq : ¬ Q gw) (u : Value) : RecW Q (W.setCell ⟨gw, k, none⟩ u) v n es :=
  hr.keep (fun b hb _ => heap_setCell_other W ⟨gw, k, none⟩ b u (fun e => hq (by rw [← show b = gw from e]; exact hb))) (by simp [World.setCell])
theorem WhAt.ready (a : WhAt P gw gf h W) (s : Int) : WhAt P gw gf { h with ready := s } (W.setCell ⟨gw, 4, none⟩ (.int .i64 s)) := by
  obtain ⟨A, n, c, es, hg, h1, h2, h3, h4⟩ := a
  exact ⟨A, n, c, es, heap_setCell_same W gw 4 _ _ _ hg, h1, h2, recW_set h3 (fun hb => hb.2 rfl) _, h4⟩
theorem WhAt.next (a : WhAt P gw gf h W) (s : Nat) (x : Int) (hx : x = (s : Int)) : WhAt P gw gf { h with next := s } (W.setCell ⟨gw, 5, none⟩ (.int .i64 x)) := by
  subst hx
  obtain ⟨A, n, c, es, hg, h1, h2, h3, h4⟩ := a
  exact ⟨A, n, c, es, heap_setCell_same W gw 5 _ _ _ hg, h1, h2, recW_set h3 (fun hb => hb.2 rfl) _, h4⟩
/-- a record more, W0 where the list grew, W behind it -/
theorem WhAt.app {W0 : World} {v v' : Value} {n : Nat} {es : List RRow} {r : RRow} (hg : W0.heap[gw]? = some (.cells (wcells gf h v) 66 (0, 0))) (h1 : P gw) (h2 : ¬ P' gf) (h3 : RecW (fun b => P b ∧ b ≠ gw) W0 v n es) (h4 : es.map RRow.pair = h.L)
    (hr : RcAt (fun b => P' b ∧ b ≠ gw) W0 v r) (hown : W.ownsRow 0 77 2 v' (n + 1) (rcells es ++ r.cells)) (hgr : W0.grownBy W v.ownBlock) (hv : v'.ownBlock = v.ownBlock ∨ v'.ownBlock = some W0.heap.size) (hq : ∀ b, P b → P' b) (hn : v'.ownBlock = some W0.heap.size → P' W0.heap.size) :
    W.heap[gw]? = some (.cells (wcells gf h v) 66 (0, 0)) ∧ WhAt P' gw gf { h with L := h.L ++ [r.pair] } (W.setCell ⟨gw, 3, none⟩ v') := by
  have hl : gw < W0.heap.size := (Array.getElem?_eq_some_iff.1 hg).1
  have hgw : W.heap[gw]? = some (.cells (wcells gf h v) 66 (0, 0)) := (hgr.block gw hl (fun e => (h3.2.1 gw e.symm).2 rfl)).trans hg
  refine ⟨hgw, ?_⟩
  have hrw := h3.next (Q' := fun b => P' b ∧ b ≠ gw) hr hown hgr hv (fun b hb => ⟨hq b hb.1, hb.2⟩) (fun e => ⟨hn e, by omega⟩)
  obtain ⟨A, c, rfl⟩ : ∃ A c, v' = .slice A (n + 1) c := by
    rcases hown.2 with ⟨_, h0⟩ | ⟨g, cap, cur, hv', _⟩
    · omega
    · exact ⟨_, _, hv'⟩
  exact ⟨A, n + 1, c, es ++ [r], heap_setCell_same W gw 3 _ _ _ hgw, hq gw h1, h2, recW_set hrw (fun hb => hb.2 rfl) _, by rw [List.map_append, h4]; rfl⟩
end
/-- nothing but blocks of F was written -/
structure Frm (w w' : World) (F : Nat → Prop) : Prop where
  os : w'.os = w.os
  tape : w'.tape = w.tape
  output : w'.output = w.output
  size : w.heap.size ≤ w'.heap.size
  block : ∀ b, b < w.heap.size → ¬ F b → w'.heap[b]? = w.heap[b]?
section
variable {w w' w'' : World} {F F' : Nat → Prop}
theorem Frm.refl (w : World) (F : Nat → Prop) : Frm w w F := ⟨rfl, rfl, rfl, Nat.le_refl _, fun _ _ _ => rfl⟩
theorem Frm.of_below (hb : Below w.heap.size w w') : Frm w w' F := ⟨hb.os, hb.tape, hb.output, hb.size, fun b h _ => hb.block b h⟩
theorem Frm.of_grown {r : Option Nat} (hg : w.grownBy w' r) (hF : ∀ g, r = some g → g < w.heap.size → F g) : Frm w w' F :=
  ⟨hg.os, hg.tape, hg.output, hg.size, fun b h hn => hg.block b h (fun e => hn (hF b e.symm h))⟩
theorem Frm.trans (h1 : Frm w w' F) (h2 : Frm w' w'' F') (hF : ∀ b, b < w.heap.size → F' b → F b) : Frm w w'' F :=
  ⟨h2.os.trans h1.os, h2.tape.trans h1.tape, h2.output.trans h1.output, Nat.le_trans h1.size h2.size, fun b hb hn => (h2.block b (Nat.lt_of_lt_of_le hb h1.size) (fun h => hn (hF b hb h))).trans (h1.block b hb hn)⟩
theorem Frm.more (h : Frm w w' F) (hF : ∀ b, b < w.heap.size → F b → F' b) : Frm w w' F' := ⟨h.os, h.tape, h.output, h.size, fun b hb hn => h.block b hb (fun h => hn (hF b hb h))⟩
theorem Frm.below {B : Nat} (h : Frm w w' F) (hF : ∀ b, F b → B ≤ b) (hB : B ≤ w.heap.size) : Below B w w' :=
  ⟨h.os, h.tape, h.output, h.size, fun b hb => h.block b (by omega) (fun hf => by have := hF b hf; omega)⟩
theorem Row.frm {B n : Nat} {A : Option Addr} {xs : List Value} (h : Row w B A n xs) (hA : ∀ b o, A = some ⟨b, o, none⟩ → 0 < n → ¬ F b) (hf : Frm w w' F) (hB : B ≤ w.heap.size) : Row w' B A n xs :=
  ⟨h.1, fun hn => by
    obtain ⟨b, o, e, hb, hc⟩ := h.2 hn
    refine ⟨b, o, e, hb, fun j u hu => ?_⟩
    rw [World.cell?_of_block (w := w) (w' := w') (a := ⟨b, o + j, none⟩) (hf.block b (by omega) (hA b o e hn))]
    exact hc j u hu⟩
end
theorem RecW.below {Q : Nat → Prop} {W W' : World} {v : Value} {n : Nat} {es : List RRow} (h : RecW Q W v n es) (hb : Below W.heap.size W W') : RecW Q W' v n es := h.keep (fun b _ hl => hb.block b hl) hb.size
/-- P, and what was made since w -/
def Pn (P : Nat → Prop) (w w' : World) : Nat → Prop := fun x => P x ∨ (w.heap.size ≤ x ∧ x < w'.heap.size)
theorem rec_yes' (gw B n cap gen : Nat) (A : Option Addr) (p : List UInt8) (w : World) (hl : Row w B A n (bv p)) (hk1 : 14 ≤ n) (hk2 : n ≤ 1000) (hcap : n ≤ cap) (hcm : cap ≤ 9223372036854775807) (hB : B ≤ w.heap.size) (hgw : gw < w.heap.size)
    (hc : w.cell? ⟨gw, 1, none⟩ = some (.int .u32 (gen : Int))) (h : plB gen p = true) :
    Calls Try.prog 42 #[.pointer (some ⟨gw, 0, none⟩), .slice A n cap] w (RecYes p w) := by
  obtain ⟨k, rfl⟩ : ∃ k, n = k + 1 := ⟨n - 1, by omega⟩
  exact rec_yes gw B k cap gen A p w hl (by omega) (by omega) hcap hcm hB hgw hc h
theorem rec_no' (gw B n cap gen : Nat) (A : Option Addr) (p : List UInt8) (w : World) (hl : Row w B A n (bv p)) (hk1 : 14 ≤ n) (hk2 : n ≤ 1000) (hcap : n ≤ cap) (hcm : cap ≤ 9223372036854775807) (hB : B ≤ w.heap.size) (hgw : gw < w.heap.size)
    (hc : w.cell? ⟨gw, 1, none⟩ = some (.int .u32 (gen : Int))) (h : plB gen p = false) :
    Calls Try.prog 42 #[.pointer (some ⟨gw, 0, none⟩), .slice A n cap] w (RecNo w) := by
  obtain ⟨k, rfl⟩ : ∃ k, n = k + 1 := ⟨n - 1, by omega⟩
  exact rec_no gw B k cap gen A p w hl (by omega) (by omega) hcap hcm hB hgw hc h
theorem plAt_row {w : World} {B wd k : Nat} {g o n : Nat} {b : List UInt8} (h : Row w B (some ⟨g, o, none⟩) n (bv b)) (hk : (k + 1) * wd ≤ n) : Row w B (some ⟨g, o + k * wd, none⟩) wd (bv (plAt b wd k)) := by
  have := h.sub (k := k * wd) (m := wd) (A' := some ⟨g, o + k * wd, none⟩) (by rw [Nat.succ_mul] at hk; omega) (fun b' o' e _ => by injection e with e; injection e with e1 e2; subst e1 e2; rfl)
  rwa [bv_drop, bv_take] at this
theorem recsUp_le (gen wide : Nat) (b : List UInt8) : ∀ k, (recsUp gen wide b k).length ≤ k
  | 0 => Nat.le_refl _
  | k + 1 => by
    have := recsUp_le gen wide b k
    show (recsUp gen wide b k ++ _).length ≤ _
    rw [List.length_append]
    split
    · simp; omega
    · simp; omega
/-- a struct lies in a box -/
theorem wyields_row {P : Program} {ops : Array Oper} {S : World → Prop} {op : Oper} {a : Act} (hw : Region.wanted op (yielded ops a.tmps) = true) (ty : TypeId) (x : Operand) (ho : op.op = .load ty x)
    (g : Nat) (hx : a.eval x = .pointer (some ⟨g, 0, none⟩)) (t : TypeId) (cs : Array Value) (fr : Nat × Nat) (d : TypeDesc) (hS : ∀ w, S w → w.heap[g]? = some (.cells cs t fr))
    (hu : P.underlying ty = some d) (hd : (match d with | .struct _ | .array _ _ => true | _ => false) = true) (hi : (P.info? ty).map (·.size) = some cs.size) : YieldsIf P ops S op (.agg cs) a :=
  .inl ⟨hw, fun w hw' => by
    unfold execOp
    simp only [ho, hx, Instr.loadAt, Instr.sureAddr, Sem.run_bind, Sem.run_pure, Result.andThen_ok, run_loadVar_row w g t ty cs fr d (hS w hw') hu hd hi]⟩
/-- behind k places of sector s, which counts -/
def Wh.upto (h : Wh) (s : Nat) (b : List UInt8) (k : Nat) : Wh := { h with L := h.L ++ recsUp h.gen h.wide b k, ready := s, next := nextUp h.wide (s * h.per) h.next b k }
theorem Wh.upto_zero (h : Wh) (s : Nat) (b : List UInt8) : h.upto s b 0 = { h with ready := s } := by
  unfold Wh.upto recsUp nextUp
  rw [List.append_nil]
/-- what holds within a statement that adds a record to the list v, r in block gr -/
structure SR (wb : World) (gw gr : Nat) (v : Value) (cs : Array Value) (W : World) : Prop where
  fr : Frm wb W (fun b => b = gw ∨ v.ownBlock = some b)
  box : W.heap[gr]? = some (.cells cs 77 (0, 0))
section
variable {wb W W' : World} {gw gr : Nat} {v : Value} {cs : Array Value}
theorem SR.lt (h : SR wb gw gr v cs W) : gr < W.heap.size := (Array.getElem?_eq_some_iff.1 h.box).1
theorem SR.below (h : SR wb gw gr v cs W) (hb : Below W.heap.size W W') : SR wb gw gr v cs W' := ⟨h.fr.trans (Frm.of_below (F := fun _ => False) hb) (fun _ _ h => h.elim), (hb.block gr h.lt).trans h.box⟩
theorem SR.app (h : SR wb gw gr v cs W) (hg : W.grownBy W' v.ownBlock) (hv : v.ownBlock ≠ some gr) : SR wb gw gr v cs W' :=
  ⟨h.fr.trans (Frm.of_grown (F := fun b => v.ownBlock = some b) hg (fun _ h _ => h)) (fun _ _ h => .inr h), (hg.block gr h.lt (fun e => hv e.symm)).trans h.box⟩
theorem SR.set (h : SR wb gw gr v cs W) (hn : gr ≠ gw) (k : Nat) (u : Value) : SR wb gw gr v cs (W.setCell ⟨gw, k, none⟩ u) :=
  ⟨h.fr.trans (Frm.of_grown (F := fun b => b = gw) (grown_set W gw k u) (fun g h _ => by injection h with h; exact h.symm)) (fun _ _ h => .inl h), (heap_setCell_other W ⟨gw, k, none⟩ gr u hn).trans h.box⟩
end
def recV (rid rg ro rm rc : Nat) : Array Value := #[.int .u32 (rid : Int), .slice (some ⟨rg, ro, none⟩) rm rc]
/-- the record's data, apart from the list v -/
def RNew (w : World) (gw : Nat) (v : Value) (rg ro rm : Nat) (d : List UInt8) (W : World) : Prop := w.heap.size ≤ rg ∧ rg < W.heap.size ∧ rg ≠ gw ∧ v.ownBlock ≠ some rg ∧ Row W W.heap.size (some ⟨rg, ro, none⟩) rm (bv d)
theorem RNew.sr {w wb W : World} {gw gr rg ro rm : Nat} {v : Value} {cs : Array Value} {d : List UInt8} (h : RNew w gw v rg ro rm d wb) (hs : SR wb gw gr v cs W) : RNew w gw v rg ro rm d W := by
  obtain ⟨h1, h2, h3, h4, h5⟩ := h
  refine ⟨h1, Nat.lt_of_lt_of_le h2 hs.fr.size, h3, h4, (h5.frm (fun b o e _ => ?_) hs.fr (Nat.le_refl _)).more hs.fr.size⟩
  injection e with e
  injection e with e
  subst e
  rintro (h | h)
  · exact h3 h
  · exact h4 h
theorem wh_grow {P : Nat → Prop} {gw gf n rid rg ro rm rc : Nat} {h : Wh} {w wr W w4 : World} {v v4 : Value} {es : List RRow} {d : List UInt8}
    (hgw : W.heap[gw]? = some (.cells (wcells gf h v) 66 (0, 0))) (hP : Pn P w wr gw) (hPf : ¬ P gf) (hgf : gf < w.heap.size) (hwr : wr.heap.size ≤ W.heap.size) (hw : w.heap.size ≤ W.heap.size)
    (hrec : RecW (fun b => Pn P w wr b ∧ b ≠ gw) W v n es) (hes : es.map RRow.pair = h.L) (hr : RNew w gw v rg ro rm d W)
    (hown : w4.ownsRow 0 77 2 v4 (n + 1) (rcells es ++ [.int .u32 (rid : Int), .slice (some ⟨rg, ro, none⟩) rm rc])) (hg : W.grownBy w4 v.ownBlock) (hat : v4.ownBlock = v.ownBlock ∨ v4.ownBlock = some W.heap.size) :
    w4.heap[gw]? = some (.cells (wcells gf h v) 66 (0, 0)) ∧ WhAt (Pn P w w4) gw gf { h with L := h.L ++ [(rid, d)] } (w4.setCell ⟨gw, 3, none⟩ v4) := by
  have hs := hg.size
  refine WhAt.app (P := Pn P w wr) (r := ⟨rid, some ⟨rg, ro, none⟩, rm, rc, d⟩) hgw hP ?_ hrec hes ⟨rg, ro, rfl, ⟨.inr ⟨hr.1, Nat.lt_of_lt_of_le hr.2.1 hs⟩, hr.2.2.1⟩, hr.2.1, hr.2.2.2.1, hr.2.2.2.2⟩ hown hg hat ?_ ?_
  · rintro (h | h)
    · exact hPf h
    · omega
  · rintro b (h | h)
    · exact .inl h
    · exact .inr ⟨h.1, by omega⟩
  · intro e
    refine .inr ⟨hw, ?_⟩
    rcases hown.2 with ⟨hv, h0⟩ | ⟨g, cap, cur, hv, _, hgc, _⟩
    · omega
    · rw [hv] at e
      injection e with e
      rw [← e]
      exact (Array.getElem?_eq_some_iff.1 hgc).1
theorem Try.info77 : (Try.prog.info? 77).map (fun i => (i.zero, i.size, i.bytes)) = some (some (.agg #[.int .u32 0, .slice none 0 0]), 2, 32) := by kernel_rfl
end Go.Proofs.Ytekaoodagaplmaa
