/- A slice of byte slices that came in. -/
import Derived.Test.YtibleaaghhhjkaaDoorLaw
import Derived.Test.YtibleaaghhhjkaaDoorR1Join
import Derived.Deep.Matrix
namespace Go.Proofs.YtibleaaghhhjkaaDoor
open Go.ChangeShapes Go.WideShapes Go.ChangeAt Go.RowKit
theorem rows_at {w : World} {a : Addr} {c : Nat} {V : Nat → Value} (h : ∀ r, r < c → w.cell? (a.add r) = some (V r)) (hp : 0 < c) :
    ∃ b off, a = ⟨b, off, none⟩ ∧ ∀ j, j < c → w.cell? ⟨b, off + j, none⟩ = some (V j) := by
  obtain ⟨b, off, spot⟩ := a
  have hspot : spot = none := by simpa [Addr.add] using World.cell?_spot (h 0 hp)
  subst hspot
  exact ⟨b, off, rfl, fun j hj => by rw [← Go.WideShapes.add_plain]; exact h j hj⟩
theorem weightsAll_mem {H : Type} {P : Program} {e : TypeId} {x : Nat} : ∀ {l : List (DataW H)} {d : DataW H}, d ∈ l → x ∈ d.weights P e → x ∈ DataW.weightsAll P e l
  | [], _, h, _ => by cases h
  | d' :: r, d, h, hx => by
    unfold DataW.weightsAll
    rcases List.mem_cons.1 h with rfl | h
    · exact List.mem_append_left _ hx
    · exact List.mem_append_right _ (weightsAll_mem h hx)
theorem open_rows {H : Type} {enc : TypeId × Value → H} {P : Program} {W : World} {base : Nat} {t e q : TypeId} {v : Value} {d : DataW H} {ps : List MemPlace}
    (ht : P.underlying t = some (.slice e)) (he : P.underlying e = some (.slice q)) (hq : P.underlying q = some (.int .u8)) (ce : P.cellsOf e = 1) (cq : P.cellsOf q = 1) (hval : Value.okWide P W .any base t v) (h : DataW.Trod enc P W 0 (fun _ => true) true t v d ps) :
    ∃ (A : Option Addr) (n cap : Nat) (es : List BRow), v = .slice A n cap ∧ Rows2 W W.heap.size A n es ∧ n ≤ cap ∧ cap ≤ 9223372036854775807 ∧ (∀ r ∈ es, r.n ≤ r.c ∧ r.c ≤ 9223372036854775807) ∧ (P.bytesOf q = 1 → (d.weights P t).all (· ≤ reachBytes) = true → ∀ r ∈ es, r.n ≤ 140737488351232) := by
  obtain ⟨a0, len, cap, rfl⟩ := okWide_slice ht hval
  obtain ⟨fuel, hf⟩ := h
  rcases Go.Deep.open_int_rows ht he hq ce cq hf with ⟨hcs, hx⟩ | ⟨a, len', cap', A, L, C, Z, hcs, _, hl, hm, hx, hr⟩
  · simp [Value.cells] at hcs
    obtain ⟨rfl, rfl, rfl⟩ := hcs
    exact ⟨none, 0, 0, [], rfl, ⟨Row.nil _ _ _, (fun r hr => by cases hr)⟩, Nat.le_refl _, by omega, (fun r hr => by cases hr), (fun _ _ r hr => by cases hr)⟩
  · simp [Value.cells] at hcs
    obtain ⟨rfl, rfl, rfl⟩ := hcs
    unfold maxLen at hm
    refine ⟨some a, len, cap, (List.range len).map fun r => ⟨A r, L r, C r, ((Z r).take (L r)).map fun z => UInt8.ofNat z.toNat⟩, rfl, ⟨⟨by simp, fun hn => ?_⟩, ?_⟩, hl, by omega, ?_, ?_⟩
    · obtain ⟨b, o, rfl, hc⟩ := rows_at (fun r hr' => (hr r hr').1) (show 0 < cap by omega)
      refine ⟨b, o, rfl, block_lt_of_cell (hc 0 (by omega)), fun j u hu => ?_⟩
      have hj : j < len := by have := (List.getElem?_eq_some_iff.1 hu).1; simpa using this
      rw [hc j (by omega), ← hu]
      simp [hj, BRow.val]
    · intro r hr'
      simp only [List.mem_map, List.mem_range] at hr'
      obtain ⟨j, hj, rfl⟩ := hr'
      obtain ⟨_, h1, h2, h3, h4, h5, h6⟩ := hr j (by omega)
      cases hA : A j with
      | none =>
        have h0 : C j = 0 := h5 hA
        have hL : L j = 0 := by omega
        have := Row.nil W W.heap.size (none : Option Addr)
        simpa [hL, bv] using this
      | some a' =>
        obtain ⟨_, hc⟩ := h6 a' hA
        refine row_of_ints (zs := Z j) (show L j ≤ (Z j).length by omega) (fun i hi => hc i (by omega)) h4 ?_
        rcases Nat.eq_zero_or_pos (L j) with h0 | h0
        · exact .inr h0
        · left
          have := block_lt_of_cell (hc 0 (by omega))
          simpa [Addr.add] using this
    · intro r hr'
      simp only [List.mem_map, List.mem_range] at hr'
      obtain ⟨j, hj, rfl⟩ := hr'
      obtain ⟨_, h1, h2, _⟩ := hr j (by omega)
      unfold maxLen at h2
      exact ⟨h1, by show C j ≤ _; omega⟩
    · intro hb hw r hr'
      simp only [List.mem_map, List.mem_range] at hr'
      obtain ⟨j, hj, rfl⟩ := hr'
      obtain ⟨_, h1, h2, h3, h4, h5, h6⟩ := hr j (by omega)
      injection hx with hx _
      subst hx
      show L j ≤ _
      cases hA : A j with
      | none =>
        have h0 : C j = 0 := h5 hA
        omega
      | some a' =>
        have hmem : (Z j).length ∈ (Go.Deep.intRow (H := H) .u8 (A j) (L j) (Z j)).weights P e := by
          rw [hA]
          simp only [Go.Deep.intRow, DataW.weights, he, hb]
          simp [lits]
          left
          omega
        have hall : (Z j).length ∈ (DataW.slice ((List.range len).map fun r => Go.Deep.intRow (H := H) .u8 (A r) (L r) (Z r)) ((List.range (cap - len)).map fun j => Go.Deep.intRow .u8 (A (len + j)) (L (len + j)) (Z (len + j)))).weights P t := by
          simp only [DataW.weights, ht]
          exact List.mem_cons_of_mem _ (List.mem_append_left _ (weightsAll_mem (List.mem_map.2 ⟨j, List.mem_range.2 hj, rfl⟩) hmem))
        have h7 := List.all_eq_true.1 hw _ hall
        have h8 : (Z j).length ≤ reachBytes := by simpa using h7
        have h9 : reachBytes = 140737488351232 := rfl
        omega
end Go.Proofs.YtibleaaghhhjkaaDoor
