/- block.Sum: by contract. -/
import Derived.Deep.LoopGhost
import Derived.Laws.ResultCell
import Derived.Laws.Rows
import Derived.Deep.DeepCutAuto
import Derived.Deep.RegionHeld3
import Derived.Deep.QuietTactic
import Derived.BigQuiet
import Derived.Test.YtmncpgfdpcckpaaGreatDoorZQQN
import Derived.Test.YtmncpgfdpcckpaaGreatDoorZAQN
import Derived.Test.YtmncpgfdpcckpaaGreatDoorZEQN
import Derived.Test.YtmncpgfdpcckpaaGreatDoorZKQN
namespace Go.Proofs.YtmncpgfdpcckpaaGreatDoor
open Go.RowKit
def sumTo (h : List UInt8) (t : List (List UInt8)) : List UInt8 := t.foldl xorL h
theorem sumTo_length (h : List UInt8) (t : List (List UInt8)) : (sumTo h t).length = h.length := by
 induction t generalizing h with
 | nil => rfl
 | cons x t ih => show (sumTo (xorL h x) t).length = _; rw [ih, xorL_length]
theorem sumTo_snoc (h : List UInt8) (t : List (List UInt8)) (x : List UInt8) : sumTo h (t ++ [x]) = xorL (sumTo h t) x := by simp [sumTo]
def sumF : List (List UInt8) → List UInt8
 | [] => []
 | h :: t => if ∀ x ∈ t, x.length = h.length then sumTo h t else []
end Go.Proofs.YtmncpgfdpcckpaaGreatDoor
namespace Go.Proofs.YtmncpgfdpcckpaaGreatDoor.Pc
open Go.RowKit
open VecM RdM Vc Sp
def sumR (X z : Nat) (ls : List (List UInt8)) : Nat → List UInt8
 | 0 => List.replicate z 0
 | k + 1 => if X.testBit k then xorL (sumR X z ls k) (ls.getD k []) else sumR X z ls k
theorem sumR_length (X z : Nat) (ls : List (List UInt8)) : ∀ k, (sumR X z ls k).length = z
 | 0 => by simp [sumR]
 | k + 1 => by
  unfold sumR
  split
  ·rw [xorL_length, sumR_length X z ls k]
  ·exact sumR_length X z ls k
end Go.Proofs.YtmncpgfdpcckpaaGreatDoor.Pc
namespace Go.Proofs.YtmncpgfdpcckpaaGreatDoor.Pc
open Go.RowKit
open VecM RdM Vc Sp
def fitB (K Z n : Nat) (es : List BRow) : Bool := decide (n = K) && es.all fun r => r.n == Z
theorem fitB_yes {K Z n : Nat} {es : List BRow} : fitB K Z n es = true ↔ n = K ∧ ∀ r ∈ es, r.n = Z := by
 unfold fitB
 simp
theorem fitB_len {K Z n : Nat} {es : List BRow} (h : n ≠ K) : fitB K Z n es = false := by
 unfold fitB
 simp [h]
theorem fitB_row {K Z n : Nat} {es : List BRow} {r : BRow} (h : r ∈ es) (hr : r.n ≠ Z) : fitB K Z n es = false := by
 cases e : fitB K Z n es with
 | false => rfl
 | true => exact absurd ((fitB_yes.1 e).2 r h) hr
def Pc2 (W : World) (base : Nat) (v : Value) (r : BRow) : Prop :=
 ∃ g, r.A = some ⟨g, 0, none⟩ ∧ v.ownBlock ≠ some g ∧ W.ownsRow base 5 1 (.slice r.A r.n r.c) r.n (bv r.l)
def PW (ls : List (List UInt8)) (base : Nat) (v : Value) (wr : World) : Prop :=
 ∃ es : List BRow, es.map (·.l) = ls ∧ wr.ownsRow base 22 1 v ls.length (es.map BRow.val) ∧ ∀ r ∈ es, Pc2 wr base v r
theorem PW.below {ls : List (List UInt8)} {base : Nat} {v : Value} {w w' : World} (h : PW ls base v w) (hb : Below w.heap.size w w') : PW ls base v w' := by
 obtain ⟨es, h1, h2, h3⟩ := h
 refine ⟨es, h1, own_below h2 hb, fun r hr => ?_⟩
 obtain ⟨g, a, b, c⟩ := h3 r hr
 exact ⟨g, a, b, own_below c hb⟩
theorem PW.rows {ls : List (List UInt8)} {base : Nat} {v : Value} {w : World} (h : PW ls base v w) : ∃ A c es, v = .slice A ls.length c ∧ es.map (·.l) = ls ∧ Rows2 w w.heap.size A ls.length es ∧ ls.length ≤ c := by
 obtain ⟨es, h1, h2, h3⟩ := h
 obtain ⟨A, c, rfl, hc, _⟩ := own_slice h2
 exact ⟨A, c, es, rfl, h1, ⟨Row.of_own h2, fun r hr => by obtain ⟨g, _, _, q⟩ := h3 r hr; exact Row.of_own q⟩, hc⟩
theorem PW.next {ls : List (List UInt8)} {base g0 n0 c0 : Nat} {v v' : Value} {l : List UInt8} {W2 w3 : World} {es : List BRow} (h1 : es.map (·.l) = ls) (h2 : W2.ownsRow base 22 1 v ls.length (es.map BRow.val)) (h3 : ∀ r ∈ es, Pc2 W2 base v r)
  (hv0 : v.ownBlock ≠ some g0) (ho : W2.ownsRow base 5 1 (.slice (some ⟨g0, 0, none⟩) n0 c0) n0 (bv l))
  (hown : w3.ownsRow base 22 1 v' (ls.length + 1) (es.map BRow.val ++ [.slice (some ⟨g0, 0, none⟩) n0 c0])) (hg : W2.grownBy w3 v.ownBlock) (hv : v'.ownBlock = v.ownBlock ∨ v'.ownBlock = some W2.heap.size) : PW (ls ++ [l]) base v' w3 := by
 have hmv : ∀ (r : BRow), Pc2 W2 base v r → Pc2 w3 base v' r := by
  rintro r ⟨g, a, b, c⟩
  have hlt : g < W2.heap.size := (c.lt g (by rw [a]; rfl)).2
  refine ⟨g, a, ?_, ?_⟩
  ·intro e
   rcases hv with h | h
   ·exact b (h.symm.trans e)
   ·rw [h] at e; injection e with e; omega
  ·refine ⟨c.1, ?_⟩
   rcases c.2 with h0 | ⟨g', cap, cur, e1, hbg, hgb, r3⟩
   ·rw [a] at h0; exact absurd h0.1 (by intro e; cases e)
   ·refine .inr ⟨g', cap, cur, e1, hbg, ?_, r3⟩
    rw [a] at e1
    injection e1 with e1
    injection e1 with e1
    injection e1 with e1
    subst e1
    rw [hg.block _ hlt (fun e => b e.symm)]; exact hgb
 refine ⟨es ++ [⟨some ⟨g0, 0, none⟩, n0, c0, l⟩], ?_, ?_, ?_⟩
 ·rw [List.map_append, h1]; rfl
 ·rw [List.length_append]; simpa [BRow.val] using hown
 ·intro r hr
  rcases List.mem_append.1 hr with hr | hr
  ·exact hmv r (h3 r hr)
  ·obtain rfl := List.mem_singleton.1 hr
   exact hmv _ ⟨g0, rfl, hv0, ho⟩
end Go.Proofs.YtmncpgfdpcckpaaGreatDoor.Pc
namespace Go.Proofs.YtmncpgfdpcckpaaGreatDoor.Pc
open Go.RowKit
open VecM RdM Vc Sp
theorem Pc2.below {W W' : World} {base : Nat} {v : Value} {r : BRow} (h : Pc2 W base v r) (hb : Below W.heap.size W W') : Pc2 W' base v r := by
 obtain ⟨g, a, b, c⟩ := h
 exact ⟨g, a, b, own_below c hb⟩
theorem PW.mono {ls : List (List UInt8)} {base base' : Nat} {v : Value} {w : World} (h : PW ls base v w) (hb : base' ≤ base) : PW ls base' v w := by
 obtain ⟨es, h1, h2, h3⟩ := h
 refine ⟨es, h1, own_base h2 hb, fun r hr => ?_⟩
 obtain ⟨g, a, b, c⟩ := h3 r hr
 exact ⟨g, a, b, own_base c hb⟩
theorem PW.app {ls : List (List UInt8)} {base g0 n0 c0 k : Nat} {v v' : Value} {l : List UInt8} {wr W2 w5 : World} {es : List BRow} (hk : ls.length = k) (h1 : es.map (·.l) = ls) (h2 : wr.ownsRow base 22 1 v k (es.map BRow.val)) (h3 : ∀ r ∈ es, Pc2 wr base v r)
  (hb : Below wr.heap.size wr W2) (ho : W2.ownsRow wr.heap.size 5 1 (.slice (some ⟨g0, 0, none⟩) n0 c0) n0 (bv l)) (hbase : base ≤ wr.heap.size)
  (hown : w5.ownsRow base 22 1 v' (k + 1) (es.map BRow.val ++ [.slice (some ⟨g0, 0, none⟩) n0 c0])) (hg : W2.grownBy w5 v.ownBlock) (hv : v'.ownBlock = v.ownBlock ∨ v'.ownBlock = some W2.heap.size) : PW (ls ++ [l]) base v' w5 := by
 subst hk
 exact PW.next h1 (own_below h2 hb) (fun r hr => (h3 r hr).below hb) (fun e => by have a := (h2.lt g0 e).2; have b := (ho.lt g0 rfl).1; omega) (own_base ho hbase) hown hg hv
def allP (s K Z : Nat) (ls : List (List UInt8)) (j : Nat) : List (List UInt8) := ls ++ (List.range j).map fun i => sumR (parJ s K i) Z ls K
theorem allP_next (s K Z : Nat) (ls : List (List UInt8)) (j : Nat) : allP s K Z ls (j + 1) = allP s K Z ls j ++ [sumR (parJ s K j) Z ls K] := by
 unfold allP
 rw [List.range_succ, List.map_append, List.append_assoc]; rfl
theorem allP_length (s K Z : Nat) (ls : List (List UInt8)) (j : Nat) : (allP s K Z ls j).length = ls.length + j := by simp [allP]
def PcsOk (ls : List (List UInt8)) (w : World) (e : Ending) (w' : World) : Prop := ∃ v, e = .returned v ∧ Hid (PW ls w.heap.size v w') ∧ Hid (Below w.heap.size w w')
def Stay (gA : Nat) (wR : World) (v : Value) (wr : World) : Prop := wR.heap.size ≤ wr.heap.size ∧ ∀ b, gA ≤ b → b < wR.heap.size → wr.heap[b]? = wR.heap[b]? ∧ v.ownBlock ≠ some b
theorem Stay.step {gA : Nat} {wR wr W2 w5 : World} {v v' : Value} (h : Stay gA wR v wr) (hb : Below wr.heap.size wr W2) (hg : W2.grownBy w5 v.ownBlock) (hv : v'.ownBlock = v.ownBlock ∨ v'.ownBlock = some W2.heap.size) : Stay gA wR v' w5 := by
 have h1 := h.1
 have h2 := hb.size
 refine ⟨by have := hg.size; omega, fun b hb1 hb2 => ?_⟩
 obtain ⟨e1, e2⟩ := h.2 b hb1 hb2
 refine ⟨?_, fun e => ?_⟩
 ·rw [hg.block b (by omega) (fun e => e2 e.symm), hb.block b (by omega)]; exact e1
 ·rcases hv with q | q
  ·exact e2 (q.symm.trans e)
  ·rw [q] at e; injection e with e; omega
end Go.Proofs.YtmncpgfdpcckpaaGreatDoor.Pc
namespace Go.Proofs.YtmncpgfdpcckpaaGreatDoor.Pc
open Go.RowKit
open VecM RdM Vc Sp
theorem results_cell_row {P : Program} {fn : Func} {p u : Tmp} {ty : TypeId} (h : fn.results = #[.cell p ty, .tmp u]) (tmps : Array Value) (w : World) (g : Nat) (t : TypeId) (cs : Array Value) (fr : Nat × Nat) (d : TypeDesc)
  (hp : tmps.getD p undef = .pointer (some ⟨g, 0, none⟩)) (hg : w.heap[g]? = some (.cells cs t fr))
  (hu : P.underlying ty = some d) (hd : (match d with | .struct _ | .array _ _ => true | _ => false) = true) (hi : (P.info? ty).map (·.size) = some cs.size) :
  (results fn tmps).run P w = .ok (.tuple #[.agg cs, tmps.getD u undef]) w := by
 rw [results_cell_tmp h, hp]
 simp [asAddr, run_loadVar_row w g t ty cs fr d hg hu hd hi]
end Go.Proofs.YtmncpgfdpcckpaaGreatDoor.Pc
namespace Go.Proofs.YtmncpgfdpcckpaaGreatDoor.Pc
open Go.RowKit
open VecM RdM Vc Sp
theorem xorL_at (a b : List UInt8) (j : Nat) (h : j < a.length) : (xorL a b).getD j 0 = a.getD j 0 ^^^ b.getD j 0 := by
 unfold xorL
 rw [xl_getD a b a.length j h, if_pos h]
end Go.Proofs.YtmncpgfdpcckpaaGreatDoor.Pc
namespace Go.Proofs.YtmncpgfdpcckpaaGreatDoor.Pc
open Go.RowKit
open VecM RdM Vc Sp
theorem allP_len {s K Z P : Nat} {ls : List (List UInt8)} (h : ∀ l ∈ ls, l.length = Z) : ∀ l ∈ allP s K Z ls P, l.length = Z := by
 intro l hl
 unfold allP at hl
 rcases List.mem_append.1 hl with hl | hl
 ·exact h l hl
 ·obtain ⟨i, _, e⟩ := List.mem_map.1 hl
  rw [← e, sumR_length]
end Go.Proofs.YtmncpgfdpcckpaaGreatDoor.Pc
namespace Go.Proofs.YtmncpgfdpcckpaaGreatDoor.Pc
open Go.RowKit
open VecM RdM Vc Sp
theorem putBit (X k i : Nat) (on : Bool) : (put X k on).testBit i = if i = k then on else X.testBit i := by
 unfold put
 cases on with
 | true =>
  rw [if_pos rfl, Nat.testBit_or, Nat.testBit_two_pow]
  by_cases e : i = k
  ·subst e; simp
  ·rw [if_neg e]; simp; intro h; exact absurd h.symm e
 | false =>
  rw [if_neg (by decide), clr_bit]
  by_cases e : i = k
  ·subst e; simp
  ·rw [if_neg e]; simp [e]
theorem parX_bit (x0 : Int) (b i : Nat) : ∀ k, (parX x0 b k).testBit i = if i < k then odd (mx (shk x0 (i + 1))) else decide (b = i)
 | 0 => by rw [if_neg (by omega)]; exact Nat.testBit_two_pow
 | k + 1 => by
  show (put (parX x0 b k) k _).testBit i = _
  rw [putBit, parX_bit x0 b i k]
  by_cases e : i = k
  ·subst e; rw [if_pos rfl, if_pos (by omega)]
  ·rw [if_neg e]
   by_cases h : i < k
   ·rw [if_pos h, if_pos (by omega)]
   ·rw [if_neg h, if_neg (by omega)]
end Go.Proofs.YtmncpgfdpcckpaaGreatDoor.Pc
