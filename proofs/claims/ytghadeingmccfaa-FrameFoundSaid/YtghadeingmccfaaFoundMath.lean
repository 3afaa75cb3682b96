/- Frames one behind the other with noise between that has no D; a byte of a frame changed; own lists beside own bytes. -/
import Derived.Test.YtghadeingmccfaaFrameUn
namespace Go.Proofs.Ytghadeingmccfaa
open Go.RowKit
open FrM (flen inner frame)
open CrcM (bend bend_length bend_next put put_length put_right)
theorem tells1 (l : List UInt8) (i : Nat) (hi : i < l.length + 4) (x : UInt8) : isRight (bend (put l) i x) ↔ x = 0 := by
  have hb : ∀ (p : List UInt8) (k : Nat), bend p k 0 = p := by
    intro p k
    unfold bend
    rw [CrcM.u8_xor_id]
    by_cases hk : k < p.length
    · have e : p.getD k 0 = p[k] := by simp [List.getD, hk]
      rw [e, List.set_getElem_self]
    · rw [List.set_eq_of_length_le (by omega)]
  by_cases h1 : i + 1 < l.length + 4
  · have := CrcM.tells l i h1 x 0
    rw [hb] at this
    exact this.trans ⟨fun h => h.1, fun h => ⟨h, rfl⟩⟩
  · obtain ⟨j, rfl⟩ : ∃ j, i = j + 1 := ⟨i - 1, by omega⟩
    have := CrcM.tells l j hi 0 x
    rw [hb] at this
    exact this.trans ⟨fun h => h.2, fun h => ⟨rfl, h⟩⟩
theorem bend_zero (p : List UInt8) (k : Nat) : bend p k 0 = p := by
  unfold bend
  rw [CrcM.u8_xor_id]
  by_cases hk : k < p.length
  · have e : p.getD k 0 = p[k] := by simp [List.getD, hk]
    rw [e, List.set_getElem_self]
  · rw [List.set_eq_of_length_le (by omega)]
theorem bend_drop2 (p : List UInt8) (j : Nat) (x : UInt8) : (bend p (2 + j) x).drop 2 = bend (p.drop 2) j x := by
  have e : (p.drop 2).getD j 0 = p.getD (2 + j) 0 := by simp [List.getD]
  unfold bend
  rw [e, List.drop_set, if_neg (by omega), Nat.add_sub_cancel_left]
/-- a frame with a byte changed behind the first two: unwrapped just if it was not changed -/
theorem un_bent (k : UInt8) (l : List UInt8) (h : l.length ≤ 291) (j : Nat) (hj : j < l.length + 7) (x : UInt8) :
    ∃ kk m gg, Un (bend (frame k l) (2 + j) x) kk m gg ∧ ∃ q : Bool, (gg == 0) = q ∧ ((x.toNat : Int) == 0) = q := by
  have hlen : (bend (frame k l) (2 + j) x).length = l.length + 9 := by rw [bend_length, FrM.frame_length]
  by_cases hx : x = 0
  · subst hx
    rw [bend_zero]
    refine ⟨_, _, _, .ok (by rw [FrM.frame_length]; omega) (by rw [FrM.frame_length]; omega) (frame_head k l h) (FrM.frame_right k l), true, rfl, rfl⟩
  · have hxi : ((x.toNat : Int) == 0) = false := beq_eq_false_iff_ne.2 fun e => hx (UInt8.toNat.inj (by rw [Int.ofNat.inj e]; rfl))
    have hr : ¬ isRight ((bend (frame k l) (2 + j) x).drop 2) := by
      rw [bend_drop2, FrM.frame_drop]
      intro hr
      exact hx ((tells1 (inner k l) j (by rw [FrM.inner_length]; omega) x).1 hr)
    by_cases hh : headOk (bend (frame k l) (2 + j) x)
    · exact ⟨_, _, _, .check (by omega) (by omega) hh hr, false, rfl, hxi⟩
    · exact ⟨_, _, _, .head (by omega) (by omega) hh, false, rfl, hxi⟩
/-- the bytes that are no D among the first k -/
def noD (l : List UInt8) (k : Nat) : List UInt8 := (l.take k).filter fun x => x ≠ 68
theorem noD_le (l : List UInt8) (k : Nat) : (noD l k).length ≤ k := by
  unfold noD
  exact Nat.le_trans (List.length_filter_le _ _) (by simp; omega)
theorem noD_next (l : List UInt8) (k : Nat) (h : k < l.length) : noD l (k + 1) = noD l k ++ if l[k] ≠ 68 then [l[k]] else [] := by
  unfold noD
  rw [List.take_succ_eq_append_getElem h, List.filter_append]
  congr 1
  by_cases h6 : l[k] = 68 <;> simp [h6]
theorem noD_none (l : List UInt8) (k : Nat) : ∀ x ∈ noD l k, x ≠ 68 := by
  intro x hx
  unfold noD at hx
  simpa using (List.mem_filter.1 hx).2
theorem beg_other (x : UInt8) (l : List UInt8) (h : x ≠ 68) : beg (x :: l) = 0 := by
  refine beg_no fun hf => h ?_
  have h0 := hf.2.2.2.1.1
  have h9 := hf.1
  have : ∃ m, flen (x :: l) = m + 1 := ⟨flen (x :: l) - 1, by unfold flen; omega⟩
  obtain ⟨m, hm⟩ := this
  rw [hm] at h0
  simpa using h0
theorem scan_noise (q : List UInt8) (hq : ∀ x ∈ q, x ≠ 68) (rest : List UInt8) (fs : List (List UInt8)) (c : Nat) (h : Scan rest fs c) : Scan (q ++ rest) fs (q.length + c) := by
  induction q with
  | nil => simpa using h
  | cons x t ih =>
    have h1 := ih (fun y hy => hq y (List.mem_cons_of_mem _ hy))
    have := Scan.none (l := (x :: t) ++ rest) (by simp) (beg_other x (t ++ rest) (hq x (List.mem_cons_self ..))) (by simpa using h1)
    rwa [show (x :: t).length + c = t.length + c + 1 by simp; omega]
theorem flen_app (p r : List UInt8) (h : 5 ≤ p.length) : flen (p ++ r) = flen p := by
  unfold flen
  simp only [List.getD]
  rw [List.getElem?_append_left (by omega), List.getElem?_append_left (by omega)]
theorem beg_frame (k : UInt8) (l rest : List UInt8) (h : l.length ≤ 291) : beg (frame k l ++ rest) = l.length + 9 := by
  have hl := FrM.frame_length k l
  have e : flen (frame k l ++ rest) = l.length + 9 := by rw [flen_app _ _ (by omega), FrM.frame_flen _ _ (by omega)]
  have ht : (frame k l ++ rest).take (l.length + 9) = frame k l := by rw [← hl, List.take_left]
  rw [beg_yes, e]
  refine ⟨by rw [List.length_append]; omega, by rw [e, List.length_append]; omega, by omega, ?_, ?_⟩
  · rw [e, ht]; exact frame_head k l h
  · rw [e, ht]; exact FrM.frame_right k l
theorem scan_frame (k : UInt8) (l rest : List UInt8) (fs : List (List UInt8)) (c : Nat) (h : l.length ≤ 291) (hs : Scan rest fs c) : Scan (frame k l ++ rest) (frame k l :: fs) c := by
  have hb := beg_frame k l rest h
  have hl := FrM.frame_length k l
  have := Scan.some (l := frame k l ++ rest) (fs := fs) (k := c) (by omega) (by rw [hb, ← hl, List.drop_left]; exact hs)
  rwa [hb, ← hl, List.take_left] at this
def fr (ls : List (List UInt8)) (i : Nat) : List UInt8 := frame (UInt8.ofNat i) (ls.getD i [])
def frs (ls : List (List UInt8)) (k : Nat) : List (List UInt8) := (List.range k).map (fr ls)
def cat (ls : List (List UInt8)) (q : List UInt8) (k : Nat) : List UInt8 := (List.range k).flatMap fun i => fr ls i ++ q
theorem frs_next (ls : List (List UInt8)) (k : Nat) : frs ls (k + 1) = frs ls k ++ [fr ls k] := by simp [frs, List.range_succ]
theorem cat_next (ls : List (List UInt8)) (q : List UInt8) (k : Nat) : cat ls q (k + 1) = cat ls q k ++ fr ls k ++ q := by simp [cat, List.range_succ]
theorem scan_all (ls : List (List UInt8)) (q : List UInt8) (hq : ∀ x ∈ q, x ≠ 68) (k : Nat) (h : ∀ i, i < k → (ls.getD i []).length ≤ 291) : Scan (cat ls q k) (frs ls k) (q.length * k) := by
  have key : ∀ k, (∀ i, i < k → (ls.getD i []).length ≤ 291) → ∀ rest fs c, Scan rest fs c → Scan (cat ls q k ++ rest) (frs ls k ++ fs) (q.length * k + c) := by
    intro k
    induction k with
    | zero => intro _ rest fs c hs; simpa [cat, frs] using hs
    | succ k ih =>
      intro h rest fs c hs
      have h1 := scan_frame (UInt8.ofNat k) (ls.getD k []) (q ++ rest) fs (q.length + c) (h k (by omega)) (scan_noise q hq rest fs c hs)
      have h2 := ih (fun i hi => h i (by omega)) _ _ _ h1
      rw [cat_next, frs_next, show q.length * (k + 1) + c = q.length * k + (q.length + c) by rw [Nat.mul_succ]; omega]
      simpa [fr] using h2
  simpa using key k h [] [] 0 Scan.done
theorem cat_length (ls : List (List UInt8)) (q : List UInt8) (k : Nat) : (cat ls q k).length = (frs ls k).flatten.length + q.length * k := by
  induction k with
  | zero => simp [cat, frs]
  | succ k ih => rw [cat_next, frs_next, List.length_append, List.length_append, ih, List.flatten_append, List.length_append]; simp [Nat.mul_succ]; omega
/-- what is owned stays where another block is written -/
theorem own_grown {w w' : World} {base : Nat} {e : TypeId} {v : Value} {n : Nat} {row : Option Nat} {xs : List Value} (h : w.ownsRow base e 1 v n xs) (hg : w.grownBy w' row) (hr : ∀ g, v.ownBlock = some g → row ≠ some g) : w'.ownsRow base e 1 v n xs := by
  refine ⟨h.1, ?_⟩
  rcases h.2 with h0 | ⟨g, cap, cur, rfl, hbg, hgb, r⟩
  · exact .inl h0
  · refine .inr ⟨g, cap, cur, rfl, hbg, ?_, r⟩
    rw [hg.block g (Array.getElem?_eq_some_iff.1 hgb).1 (fun e => hr g rfl e.symm)]; exact hgb
/-- two rows of unlike elements lie in unlike blocks -/
theorem own_apart {w : World} {base base' : Nat} {e e' : TypeId} {v v' : Value} {n n' : Nat} {xs xs' : List Value} (h : w.ownsRow base e 1 v n xs) (h' : w.ownsRow base' e' 1 v' n' xs') (he : e ≠ e') : ∀ g, v.ownBlock = some g → v'.ownBlock ≠ some g := by
  intro g hg hg'
  rcases h.2 with ⟨rfl, _⟩ | ⟨a, cap, cur, rfl, _, ha, _⟩
  · cases hg
  · rcases h'.2 with ⟨rfl, _⟩ | ⟨b, cap', cur', rfl, _, hb, _⟩
    · cases hg'
    · injection hg with e1
      injection hg' with e2
      subst e1 e2
      rw [ha] at hb
      injection hb with hb
      injection hb with _ h2
      exact he h2
/-- none of the rows lies in the block of v -/
def Sep (v : Value) (es : List BRow) : Prop := ∀ r ∈ es, ∀ g, r.A = some ⟨g, 0, none⟩ → v.ownBlock ≠ some g
theorem LW.grown {base n : Nat} {W W' : World} {v : Value} {es : List BRow} {row : Option Nat} (h : LW base W v n es) (hg : W.grownBy W' row) (hv : ∀ g, v.ownBlock = some g → row ≠ some g) (hs : ∀ r ∈ es, ∀ g, r.A = some ⟨g, 0, none⟩ → row ≠ some g) : LW base W' v n es := by
  refine ⟨own_grown h.1 hg hv, fun r hr => ?_⟩
  obtain ⟨g, a1, a2, a3, a4, a5, a6⟩ := h.2 r hr
  refine ⟨g, a1, a2, Nat.lt_of_lt_of_le a3 hg.size, a4, ?_, a6⟩
  rw [a1] at a5 ⊢
  exact row_same a5 (hg.block g a3 (fun e => hs r hr g a1 e.symm)) hg.size
theorem LW.lt {base n : Nat} {W : World} {v : Value} {es : List BRow} (h : LW base W v n es) : ∀ r ∈ es, ∀ g, r.A = some ⟨g, 0, none⟩ → g < W.heap.size := by
  intro r hr g hg
  obtain ⟨g', a1, _, a3, _⟩ := h.2 r hr
  rw [a1] at hg
  injection hg with hg
  injection hg with hg
  omega
theorem Sep.next {base n : Nat} {W : World} {u v v' : Value} {es : List BRow} (h : Sep v es) (hl : LW base W u n es) (hv : v'.ownBlock = v.ownBlock ∨ v'.ownBlock = some W.heap.size) : Sep v' es := by
  intro r hr g hg e
  rcases hv with hv | hv
  · exact h r hr g hg (hv.symm.trans e)
  · rw [hv] at e
    injection e with e
    have := hl.lt r hr g hg
    omega
theorem Sep.snoc {v : Value} {es : List BRow} {G n c : Nat} {l : List UInt8} (h : Sep v es) (hG : v.ownBlock ≠ some G) : Sep v (es ++ [⟨some ⟨G, 0, none⟩, n, c, l⟩]) := by
  intro r hr g hg
  rcases List.mem_append.1 hr with hr | hr
  · exact h r hr g hg
  · obtain rfl := List.mem_singleton.1 hr
    injection hg with hg
    injection hg with hg
    subst hg
    exact hG
end Go.Proofs.Ytghadeingmccfaa
