/- elim: a matrix one row of which is changed; one that gets a row. -/
import Derived.Test.YtgeodhffgbhmaaaDoorElSays
namespace Go.Proofs.YtgeodhffgbhmaaaDoor.El
open Go.RowKit
open VecM Vc
section
variable {W W' : World} {F : Nat → Prop} {gm gr n z : Nat} {rs : List (Option ER)}
theorem rankE_set {rs : List (Option ER)} {k : Nat} {o o' : Option ER} (h : rs[k]? = some o) (ho : o.isSome = o'.isSome) : rankE (rs.set k o') = rankE rs := by
  unfold rankE
  induction rs generalizing k with
  | nil => cases h
  | cons x t ih =>
    cases k with
    | zero =>
      injection h with h
      subst h
      rw [List.set_cons_zero, List.filter_cons, List.filter_cons, ho]
      split <;> rfl
    | succ k =>
      rw [List.set_cons_succ, List.filter_cons, List.filter_cons]
      have := ih (k := k) h
      split
      · rw [List.length_cons, List.length_cons, this]
      · exact this
theorem rankE_add {rs : List (Option ER)} {k : Nat} {r : ER} (h : rs[k]? = some none) : rankE (rs.set k (some r)) = rankE rs + 1 := by
  unfold rankE
  induction rs generalizing k with
  | nil => cases h
  | cons x t ih =>
    cases k with
    | zero =>
      injection h with h
      subst h
      rw [List.set_cons_zero, List.filter_cons, List.filter_cons]
      simp
    | succ k =>
      rw [List.set_cons_succ, List.filter_cons, List.filter_cons]
      have := ih (k := k) h
      split
      · rw [List.length_cons, List.length_cons, this]
      · exact this
theorem getD_set (rs : List (Option ER)) (k i : Nat) (o : Option ER) (hk : k < rs.length) : (rs.set k o).getD i none = if k = i then o else rs.getD i none := by
  rw [List.getD_eq_getElem?_getD, List.getD_eq_getElem?_getD, List.getElem?_set]
  by_cases e : k = i
  · subst e; rw [if_pos rfl, if_pos hk, if_pos rfl]; rfl
  · rw [if_neg e, if_neg e]
theorem get_set {rs : List (Option ER)} {k i : Nat} {o : Option ER} {r : ER} (h : (rs.set k o)[i]? = some (some r)) : (i = k ∧ o = some r) ∨ (i ≠ k ∧ rs[i]? = some (some r)) := by
  rw [List.getElem?_set] at h
  by_cases e : k = i
  · rw [if_pos e] at h
    split at h
    · injection h with h; exact .inl ⟨e.symm, h⟩
    · cases h
  · rw [if_neg e] at h; exact .inr ⟨fun x => e x.symm, h⟩
/-- one row is changed, in its own blocks -/
theorem MatAt.upd (m : MatAt W F gm gr n z rs) {k : Nat} {r : ER} {X : Nat} {l : List UInt8} (hk : rs[k]? = some (some r)) (hf : Fr W W' (fun b => b = r.h ∨ b = r.d)) (hv : VecAt W' r.g r.h n X) (hd : DatAt W' (some ⟨r.d, 0, none⟩) r.c l) (hl : l.length = z) : MatAt W' F gm gr n z (rs.set k (some { r with X := X, l := l })) := by
  obtain ⟨a1, a2, a3, a4, a5, a6⟩ := m.at_ k r hk
  have hkl : k < rs.length := (List.getElem?_eq_some_iff.1 hk).1
  obtain ⟨hb1, hb2⟩ := VecAt.hblk a1
  obtain ⟨db1, db2⟩ := a2.blk_u8 (d := r.d) rfl
  have keepT : ∀ (b : Nat) (cs : Array Value) (t : TypeId), W.heap[b]? = some (Obj.cells cs t (0, 0)) → t ≠ 52 → t ≠ 5 → W'.heap[b]? = W.heap[b]? := fun b cs t hb h1 h2 =>
    hf.block b (Array.getElem?_eq_some_iff.1 hb).1 (fun e => by
      rcases e with e | e
      · exact ne_of_types hb hb2 h1 e
      · exact ne_of_types hb db2 h2 e)
  refine ⟨m.n1, m.n2, m.z1, m.z2, by rw [List.length_set]; exact m.len, ?_, ?_, fun i s hs => ?_, fun i j s t hij hs ht => ?_, m.fm, m.fr⟩
  · rw [keepT gm _ _ m.head (by decide) (by decide), rankE_set hk (o' := some { r with X := X, l := l }) rfl]; exact m.head
  · obtain ⟨cs, h1, h2, h3⟩ := m.rows
    refine ⟨cs, (keepT gr _ _ h1 (by decide) (by decide)).trans h1, h2, fun i hi => ?_⟩
    have e := h3 i hi
    rw [getD_set _ _ _ _ hkl]
    by_cases hki : k = i
    · subst hki
      rw [if_pos rfl]
      have : rs.getD k none = some r := by rw [List.getD_eq_getElem?_getD, hk]; rfl
      rw [this] at e
      refine ⟨e.1, ?_⟩
      rw [e.2]
      unfold slcOf
      simp only [hl, a3]
    · rw [if_neg hki]; exact e
  · rcases get_set hs with ⟨_, e⟩ | ⟨hne, e⟩
    · injection e with e
      subst e
      exact ⟨hv, hd, hl, a4, a5, a6⟩
    · obtain ⟨b1, b2, b3, b4, b5, b6⟩ := m.at_ i s e
      obtain ⟨q1, q2⟩ := m.apart i k s r hne e hk
      obtain ⟨gc, hg⟩ := VecAt.gblk b1
      obtain ⟨hc, hh⟩ := VecAt.hblk b1
      refine ⟨b1.keep (keepT _ _ _ hg (by decide) (by decide)) (hf.block _ b1.lt.2 fun x => ?_), b2.keep fun b hb => ?_, b3, b4, b5, b6⟩
      · rcases x with x | x
        · exact q1 x
        · exact ne_of_types hh db2 (by decide) x
      · have hb : s.d = b := Option.some.inj hb
        subst hb
        obtain ⟨dc, hd2⟩ := b2.blk_u8 (d := s.d) rfl
        refine hf.block _ (b2.lt rfl) fun x => ?_
        rcases x with x | x
        · exact ne_of_types hd2 hb2 (by decide) x
        · exact q2 x
  · rcases get_set hs with ⟨hi, e⟩ | ⟨hi, e⟩ <;> rcases get_set ht with ⟨hj, e'⟩ | ⟨hj, e'⟩
    · exact absurd (hi.trans hj.symm) hij
    · injection e with e
      subst e hi
      exact m.apart i j r t hij hk e'
    · injection e' with e'
      subst e' hj
      exact m.apart i j s r hij e hk
    · exact m.apart i j s t hij e e'
/-- the world in which a row was put: its two cells, and the count -/
def putW (W : World) (gm gr f g d z c R : Nat) : World := ((W.setCell ⟨gr, f * 2, none⟩ (.pointer (some ⟨g, 0, none⟩))).setCell ⟨gr, f * 2 + 1, none⟩ (.slice (some ⟨d, 0, none⟩) z c)).setCell ⟨gm, 3, none⟩ (.int .i64 (R : Int))
theorem putW_other (W : World) (gm gr f g d z c R : Nat) {b : Nat} (h1 : b ≠ gr) (h2 : b ≠ gm) : (putW W gm gr f g d z c R).heap[b]? = W.heap[b]? := by
  unfold putW
  rw [heap_setCell_other _ _ _ _ h2, heap_setCell_other _ _ _ _ h1, heap_setCell_other _ _ _ _ h1]
/-- a row of its own blocks becomes row f -/
theorem MatAt.put (m : MatAt W F gm gr n z rs) {f g h d c X : Nat} {l : List UInt8} (hf : rs[f]? = some none) (hv : VecAt W g h n X) (hd : DatAt W (some ⟨d, 0, none⟩) c l) (hl : l.length = z)
    (hap : ∀ (i : Nat) (r : ER), rs[i]? = some (some r) → r.h ≠ h ∧ r.d ≠ d) :
    MatAt (putW W gm gr f g d z c (rankE rs + 1)) (fun b => F b ∨ b = g ∨ b = h ∨ b = d) gm gr n z (rs.set f (some ⟨g, h, d, c, X, l⟩)) := by
  have hfl : f < rs.length := (List.getElem?_eq_some_iff.1 hf).1
  have hfn : f < n := by rw [← m.len]; exact hfl
  obtain ⟨cs, hr, hsz, hcs⟩ := m.rows
  have hne : gm ≠ gr := ne_of_types m.head hr (by decide)
  have keepT : ∀ (b : Nat) (cs : Array Value) (t : TypeId), W.heap[b]? = some (Obj.cells cs t (0, 0)) → t ≠ 73 → t ≠ 69 → (putW W gm gr f g d z c (rankE rs + 1)).heap[b]? = W.heap[b]? := fun b cs' t hb h1 h2 =>
    putW_other W gm gr f g d z c _ (ne_of_types hb hr h1) (ne_of_types hb m.head h2)
  have keepV : ∀ {g1 h1 X1 : Nat}, VecAt W g1 h1 n X1 → VecAt (putW W gm gr f g d z c (rankE rs + 1)) g1 h1 n X1 := fun v => by
    obtain ⟨a1, a2⟩ := VecAt.gblk v
    obtain ⟨b1, b2⟩ := VecAt.hblk v
    exact v.keep (keepT _ _ _ a2 (by decide) (by decide)) (keepT _ _ _ b2 (by decide) (by decide))
  have keepD : ∀ {d1 c1 : Nat} {l1 : List UInt8}, DatAt W (some ⟨d1, 0, none⟩) c1 l1 → DatAt (putW W gm gr f g d z c (rankE rs + 1)) (some ⟨d1, 0, none⟩) c1 l1 := fun v => v.keep fun b hb => by
    obtain ⟨a1, a2⟩ := v.blk_u8 hb
    exact keepT _ _ _ a2 (by decide) (by decide)
  refine ⟨m.n1, m.n2, m.z1, m.z2, by rw [List.length_set]; exact m.len, ?_, ?_, fun i s hs => ?_, fun i j s t hij hs ht => ?_, .inl m.fm, .inl m.fr⟩
  · rw [rankE_add hf]
    unfold putW
    have h0 : ((W.setCell ⟨gr, f * 2, none⟩ (.pointer (some ⟨g, 0, none⟩))).setCell ⟨gr, f * 2 + 1, none⟩ (.slice (some ⟨d, 0, none⟩) z c)).heap[gm]? = some (.cells #[.int .i64 (n : Int), .int .i64 (z : Int), .slice (some ⟨gr, 0, none⟩) n n, .int .i64 (rankE rs : Int)] 69 (0, 0)) := by
      rw [heap_setCell_other _ _ _ _ hne, heap_setCell_other _ _ _ _ hne]; exact m.head
    exact heap_setCell_same _ gm 3 _ _ _ h0
  · have r1 : (W.setCell ⟨gr, f * 2, none⟩ (.pointer (some ⟨g, 0, none⟩))).heap[gr]? = some (.cells (cs.setIfInBounds (f * 2) (.pointer (some ⟨g, 0, none⟩))) 73 (0, 0)) := heap_setCell_same _ gr _ _ _ _ hr
    have r2 := heap_setCell_same _ gr (f * 2 + 1) _ _ (.slice (some ⟨d, 0, none⟩) z c) r1
    refine ⟨(cs.setIfInBounds (f * 2) (.pointer (some ⟨g, 0, none⟩))).setIfInBounds (f * 2 + 1) (.slice (some ⟨d, 0, none⟩) z c), ?_, ?_, fun i hi => ?_⟩
    · unfold putW
      rw [heap_setCell_other _ _ _ _ (fun e => hne e.symm)]
      exact r2
    · simp [hsz]
    · obtain ⟨e1, e2⟩ := hcs i hi
      rw [getD_set _ _ _ _ hfl, Array.getElem?_setIfInBounds, Array.getElem?_setIfInBounds, Array.getElem?_setIfInBounds, Array.getElem?_setIfInBounds]
      by_cases hfi : f = i
      · subst hfi
        rw [if_pos rfl]
        refine ⟨?_, ?_⟩
        · rw [if_neg (by omega), if_pos rfl, if_pos (by omega)]; rfl
        · rw [if_pos rfl, if_pos (by simp; omega), if_pos rfl]
          show some (Value.slice (some ⟨d, 0, none⟩) z c) = some (Value.slice (some ⟨d, 0, none⟩) l.length c)
          rw [hl]
      · rw [if_neg hfi]
        refine ⟨?_, ?_⟩
        · rw [if_neg (by omega), if_neg (by omega)]; exact e1
        · rw [if_neg (by omega), if_neg (by omega)]; exact e2
  · rcases get_set hs with ⟨_, e⟩ | ⟨_, e⟩
    · injection e with e
      subst e
      exact ⟨keepV hv, keepD hd, hl, .inr (.inl rfl), .inr (.inr (.inl rfl)), .inr (.inr (.inr rfl))⟩
    · obtain ⟨b1, b2, b3, b4, b5, b6⟩ := m.at_ i s e
      exact ⟨keepV b1, keepD b2, b3, .inl b4, .inl b5, .inl b6⟩
  · rcases get_set hs with ⟨hi, e⟩ | ⟨hi, e⟩ <;> rcases get_set ht with ⟨hj, e'⟩ | ⟨hj, e'⟩
    · exact absurd (hi.trans hj.symm) hij
    · injection e with e
      subst e
      obtain ⟨q1, q2⟩ := hap j t e'
      exact ⟨fun x => q1 x.symm, fun x => q2 x.symm⟩
    · injection e' with e'
      subst e'
      exact hap i s e
    · exact m.apart i j s t hij e e'
end
end Go.Proofs.YtgeodhffgbhmaaaDoor.El
