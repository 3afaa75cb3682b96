/- The sum of rows of one length, place by place: turning and doubling change nothing. -/
import Derived.Test.YtiogkokcoedonaaBlkSums
import Derived.Test.YtiogkokcoedonaaR7Split
namespace Go.Proofs.Ytiogkokcoedonaa
open Go.RowKit
theorem rows2_more {w : World} {B B' n : Nat} {A : Option Addr} {es : List BRow} (h : Rows2 w B A n es) (hB : B ≤ B') : Rows2 w B' A n es :=
  ⟨h.1.more hB, fun r hr => (h.2 r hr).more hB⟩
/-- place j of all rows -/
def X (l : List (List UInt8)) (j : Nat) : UInt8 := l.foldr (fun x a => x.getD j 0 ^^^ a) 0
theorem X_append (a b : List (List UInt8)) (j : Nat) : X (a ++ b) j = X a j ^^^ X b j := by
  induction a with
  | nil => simp [X]
  | cons x a ih =>
    show x.getD j 0 ^^^ X (a ++ b) j = (x.getD j 0 ^^^ X a j) ^^^ X b j
    rw [ih, UInt8.xor_assoc]
theorem xorL_getD (a b : List UInt8) (j : Nat) (h : j < a.length) : (xorL a b).getD j 0 = a.getD j 0 ^^^ b.getD j 0 := by
  rw [xorL, xl_getD a b _ j h, if_pos h]
theorem sumTo_getD (j : Nat) : ∀ (t : List (List UInt8)) (h : List UInt8), j < h.length → (sumTo h t).getD j 0 = h.getD j 0 ^^^ X t j
  | [], h, _ => by simp [sumTo, X]
  | x :: t, h, hj => by
    show (sumTo (xorL h x) t).getD j 0 = _
    rw [sumTo_getD j t (xorL h x) (by rw [xorL_length]; exact hj), xorL_getD h x j hj, UInt8.xor_assoc]
    rfl
theorem sumF_eq (m : Nat) (l : List (List UInt8)) (hne : l ≠ []) (h : ∀ x ∈ l, x.length = m) : sumF l = (List.range m).map (X l) := by
  cases l with
  | nil => exact absurd rfl hne
  | cons a t =>
    have ha : a.length = m := h a (by simp)
    have hs : sumF (a :: t) = sumTo a t := by
      have hp : ∀ x ∈ t, x.length = a.length := fun x hx => (h x (by simp [hx])).trans ha.symm
      show (if ∀ x ∈ t, x.length = a.length then sumTo a t else []) = sumTo a t
      rw [if_pos hp]
    rw [hs]
    apply List.ext_getElem?
    intro j
    by_cases hj : j < m
    · have h1 : j < (sumTo a t).length := by rw [sumTo_length, ha]; exact hj
      have h2 := sumTo_getD j t a (by omega)
      rw [List.getD_eq_getElem?_getD, List.getElem?_eq_getElem h1] at h2
      rw [List.getElem?_eq_getElem h1]
      simp only [Option.getD_some] at h2
      simp [hj, h2, X]
    · rw [List.getElem?_eq_none (by rw [sumTo_length]; omega), List.getElem?_eq_none (by simp; omega)]
theorem sum_turn (m k : Nat) (l : List (List UInt8)) (hne : l ≠ []) (h : ∀ x ∈ l, x.length = m) : sumF (l.drop k ++ l.take k) = sumF l := by
  have h1 : ∀ x ∈ l.drop k ++ l.take k, x.length = m := fun x hx => by
    rcases List.mem_append.1 hx with hx | hx
    · exact h x (List.mem_of_mem_drop hx)
    · exact h x (List.mem_of_mem_take hx)
  have hn : l.drop k ++ l.take k ≠ [] := fun e => hne (by
    have := congrArg List.length e
    simp only [List.length_append, List.length_drop, List.length_take, List.length_nil] at this
    exact List.eq_nil_of_length_eq_zero (by omega))
  rw [sumF_eq m _ hn h1, sumF_eq m l hne h]
  apply List.map_congr_left
  intro j _
  rw [X_append, UInt8.xor_comm, ← X_append, List.take_append_drop]
theorem sum_twice (m : Nat) (l : List (List UInt8)) (q : List UInt8) (hne : l ≠ []) (h : ∀ x ∈ l, x.length = m) (hq : q.length = m) : sumF (l ++ [q] ++ [q]) = sumF l := by
  have h1 : ∀ x ∈ l ++ [q] ++ [q], x.length = m := fun x hx => by
    simp only [List.mem_append, List.mem_singleton] at hx
    rcases hx with (hx | hx) | hx
    · exact h x hx
    · rw [hx]; exact hq
    · rw [hx]; exact hq
  rw [sumF_eq m _ (by simp) h1, sumF_eq m l hne h]
  apply List.map_congr_left
  intro j _
  have : X [q] j = q.getD j 0 := by simp [X]
  rw [X_append, X_append, this, UInt8.xor_assoc, UInt8.xor_self, UInt8.xor_zero]
theorem sumF_length (m : Nat) (l : List (List UInt8)) (hne : l ≠ []) (h : ∀ x ∈ l, x.length = m) : (sumF l).length = m := by
  rw [sumF_eq m l hne h]; simp
theorem bv_put (q : List UInt8) (j : Nat) (E : Int) (h0 : 0 ≤ E) (h1 : E < 256) : (bv q).set j (.int .u8 E) = bv (q.set j (UInt8.ofNat E.toNat)) := by
  have e : ((UInt8.ofNat E.toNat).toNat : Int) = E := by
    rw [UInt8.toNat_ofNat']
    omega
  simp only [bv, List.map_set, e]
/-- block g is as it was in w -/
def Al (g : Nat) (w W : World) : Prop := W.heap[g]? = w.heap[g]? ∧ w.heap.size ≤ W.heap.size
theorem Al.refl (g : Nat) (w : World) : Al g w w := ⟨rfl, Nat.le_refl _⟩
theorem Al.below {g : Nat} {w W W' : World} (h : Al g w W) (hb : Below W.heap.size W W') (hg : g < w.heap.size) : Al g w W' :=
  ⟨(hb.block g (Nat.lt_of_lt_of_le hg h.2)).trans h.1, Nat.le_trans h.2 hb.size⟩
theorem Al.grown {g : Nat} {w W W' : World} {r : Option Nat} (h : Al g w W) (hb : W.grownBy W' r) (hg : g < w.heap.size) (hr : r ≠ some g) : Al g w W' :=
  ⟨(hb.block g (Nat.lt_of_lt_of_le hg h.2) (fun e => hr e.symm)).trans h.1, Nat.le_trans h.2 hb.size⟩
theorem Al.row {g o B n : Nat} {w W : World} {xs : List Value} (h : Al g w W) (hr : Row w B (some ⟨g, o, none⟩) n xs) (hB : B ≤ w.heap.size) : Row W W.heap.size (some ⟨g, o, none⟩) n xs := by
  refine ⟨hr.1, fun hn => ?_⟩
  obtain ⟨b, o', e, hb, hc⟩ := hr.2 hn
  injection e with e
  injection e with e1 e2
  subst e1 e2
  refine ⟨g, o, rfl, Nat.lt_of_lt_of_le (Nat.lt_of_lt_of_le hb hB) h.2, fun j u hu => ?_⟩
  rw [World.cell?_of_block (w := w) (w' := W) (a := ⟨g, o + j, none⟩) h.1]
  exact hc j u hu
theorem Al.conv {g n c : Nat} {w : World} {l : List UInt8} (hr : Row w w.heap.size (some ⟨g, 0, none⟩) n (bv l)) : ∀ W, Al g w W → (convert 22 9 (.slice (some ⟨g, 0, none⟩) n c)).run Try.prog W = .ok (.string ⟨l.toArray⟩) W := fun W h =>
  run_string_row (h.row hr (Nat.le_refl _)) c 22 9 5 Try.underlying22 Try.underlying5 Try.underlying9
theorem news_row {w : World} {b : Nat} {u : Value} {t : TypeId} (h : w.heap[b]? = some (.cells #[u] t (0, 0))) : Row w w.heap.size (some ⟨b, 0, none⟩) 1 [u] := by
  have hb : b < w.heap.size := (Array.getElem?_eq_some_iff.1 h).1
  refine ⟨rfl, fun _ => ⟨b, 0, rfl, hb, fun j v hv => ?_⟩⟩
  rw [Nat.zero_add, cell_of_row _ _ j _ _ _ h]
  simpa using hv
theorem own_ne {w : World} {base n : Nat} {e : TypeId} {v : Value} {xs : List Value} (h : w.ownsRow base e 1 v n xs) {g : Nat} (hg : w.heap.size ≤ g) : v.ownBlock ≠ some g := fun e => by have := (h.lt g e).2; omega
theorem app_ne {w : World} {v v' : Value} {g : Nat} (h : v.ownBlock ≠ some g) (hg : g < w.heap.size) (hv : v'.ownBlock = v.ownBlock ∨ v'.ownBlock = some w.heap.size) : v'.ownBlock ≠ some g := fun e => by
  rcases hv with hv | hv
  · exact h (hv.symm.trans e)
  · rw [hv] at e; injection e with e; omega
theorem sum_fresh (B n cap m : Nat) (A : Option Addr) (es : List BRow) (L : List UInt8) (w : World) (hl : Rows2 w B A n es) (hc : n ≤ cap) (hcap : cap ≤ 9223372036854775807) (hB : B ≤ w.heap.size) (hm : ∀ r ∈ es, r.n ≤ 1000000000) (hL : sumF (es.map (·.l)) = L) (hLm : L.length = m) (hm1 : 1 ≤ m) :
    Calls Try.prog 18 #[.slice A n cap] w fun e w' => ∃ g c, e = .returned (.slice (some ⟨g, 0, none⟩) m c) ∧ Hid (Row w' w'.heap.size (some ⟨g, 0, none⟩) m (bv L)) ∧ Hid (w.heap.size ≤ g ∧ g < w'.heap.size) ∧ Below w.heap.size w w' := by
  refine (sum_any B n cap A es w hl hc hcap hB hm).mono ?_
  rintro e w' ⟨A', n', c', rfl, hn', hown, hb⟩
  rw [hL] at hn' hown
  obtain rfl : n' = m := hn'.out.trans hLm
  obtain ⟨g, c, hv, h1, h2⟩ := hown.form (by omega)
  injection hv with e1 e2 e3
  subst e1 e3
  exact ⟨g, c', rfl, Row.of_own hown, ⟨h1, h2⟩, hb⟩
theorem sum_res (B n cap : Nat) (A : Option Addr) (es : List BRow) (w : World) (hl : Rows2 w B A n es) (hc : n ≤ cap) (hcap : cap ≤ 9223372036854775807) (hB : B ≤ w.heap.size) (hm : ∀ r ∈ es, r.n ≤ 1000000000) :
    Calls Try.prog 18 #[.slice A n cap] w (FreshRow w.heap.size (sumF (es.map (·.l))) w) := by
  refine (sum_any B n cap A es w hl hc hcap hB hm).mono ?_
  rintro e w' ⟨A', n', c', rfl, hn', hown, hb⟩
  exact ⟨A', n', c', rfl, hn', Row.of_own hown, hb⟩
end Go.Proofs.Ytiogkokcoedonaa
