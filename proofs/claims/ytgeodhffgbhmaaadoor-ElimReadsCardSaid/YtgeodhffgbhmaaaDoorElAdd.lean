/- elim.Add: by contract. -/
import Derived.Test.YtgeodhffgbhmaaaDoorElUpd
namespace Go.Proofs.YtgeodhffgbhmaaaDoor.El
open Go.RowKit
open VecM Vc
def chgE (X : Nat) (l : List UInt8) (f : Nat) (o : Option ER) : Option ER := o.map fun r => if r.X.testBit f then { r with X := r.X ^^^ X, l := xorL r.l l } else r
/-- the first k rows are changed -/
def chgTo (X : Nat) (l : List UInt8) (f : Nat) (rs : List (Option ER)) (k : Nat) : List (Option ER) := (rs.take k).map (chgE X l f) ++ rs.drop k
theorem chgTo_zero (X : Nat) (l : List UInt8) (f : Nat) (rs : List (Option ER)) : chgTo X l f rs 0 = rs := by simp [chgTo]
theorem chgTo_all (X : Nat) (l : List UInt8) (f : Nat) (rs : List (Option ER)) : chgTo X l f rs rs.length = rs.map (chgE X l f) := by simp [chgTo]
theorem chgTo_length (X : Nat) (l : List UInt8) (f : Nat) (rs : List (Option ER)) (k : Nat) : (chgTo X l f rs k).length = rs.length := by
  simp [chgTo]; omega
theorem chgTo_get (X : Nat) (l : List UInt8) (f : Nat) (rs : List (Option ER)) (k i : Nat) : (chgTo X l f rs k)[i]? = if i < k then rs[i]?.map (chgE X l f) else rs[i]? := by
  unfold chgTo
  by_cases h : i < k
  · rw [if_pos h]
    by_cases h2 : i < rs.length
    · rw [List.getElem?_append_left (by simp; omega), List.getElem?_map, List.getElem?_take_of_lt h]
    · rw [List.getElem?_eq_none (by simp; omega), List.getElem?_eq_none (by omega)]; rfl
  · rw [if_neg h]
    by_cases h2 : k ≤ rs.length
    · rw [List.getElem?_append_right (by simp; omega), List.getElem?_drop]
      congr 1
      simp; omega
    · rw [List.getElem?_eq_none (by simp; omega), List.getElem?_eq_none (by omega)]
theorem chgTo_next (X : Nat) (l : List UInt8) (f : Nat) (rs : List (Option ER)) (k : Nat) {o : Option ER} (hk : rs[k]? = some o) : chgTo X l f rs (k + 1) = (chgTo X l f rs k).set k (chgE X l f o) := by
  have hlt : k < rs.length := (List.getElem?_eq_some_iff.1 hk).1
  apply List.ext_getElem?
  intro i
  rw [List.getElem?_set, chgTo_get, chgTo_get, chgTo_length]
  by_cases e : k = i
  · subst e
    rw [if_pos (by omega), if_pos rfl, if_pos hlt, hk]; rfl
  · rw [if_neg e]
    by_cases h : i < k
    · rw [if_pos (by omega), if_pos h]
    · rw [if_neg (by omega), if_neg h]
theorem chgTo_same (X : Nat) (l : List UInt8) (f : Nat) (rs : List (Option ER)) (k : Nat) {o : Option ER} (hk : rs[k]? = some o) (ho : chgE X l f o = o) : chgTo X l f rs (k + 1) = chgTo X l f rs k := by
  rw [chgTo_next X l f rs k hk, ho]
  apply List.ext_getElem?
  intro i
  rw [List.getElem?_set]
  by_cases e : k = i
  · subst e
    rw [if_pos rfl, chgTo_length, if_pos (List.getElem?_eq_some_iff.1 hk).1, chgTo_get, if_neg (Nat.lt_irrefl _), hk]
  · rw [if_neg e]
theorem absM_chg (X : Nat) (l : List UInt8) (f : Nat) (rs : List (Option ER)) : absM (rs.map (chgE X l f)) = (absM rs).map (chgD X l f) := by
  unfold absM
  rw [List.map_map, List.map_map]
  apply List.map_congr_left
  intro o _
  cases o with
  | none => rfl
  | some r =>
    show some _ = some _
    simp only 
    split <;> simp_all
theorem absM_set (rs : List (Option ER)) (f : Nat) (r : ER) : absM (rs.set f (some r)) = (absM rs).set f (some (r.X, r.l)) := by
  unfold absM; rw [List.map_set]; rfl
set_option maxRecDepth 100000 in
theorem add64_any (g k : Nat) (x : Int) (w : World) (hc : w.cell? ⟨g, k, none⟩ = some (.int .i64 x)) (hz : w.frozen? ⟨g, k, none⟩ = false) (hx : 0 ≤ x ∧ x ≤ 1000000) : Calls Tryd.prog 35 #[.pointer (some ⟨g, k, none⟩), .int .i64 1] w fun e w' => e = .returned (.int .i64 (x + 1)) ∧ w' = w.setCell ⟨g, k, none⟩ (.int .i64 (x + 1)) := by
  have hs : (Op.intArith .add .i64 x 1).run Tryd.prog w = .ok (.int .i64 (x + 1)) w := by
    have e : IntKind.i64.wrap (x + 1) = x + 1 := by rw [IntKind.wrap_i64]; omega
    simp [go_sem, e]
  have hd := run_call_add (P := Tryd.prog) Tryd.func56 (by kernel_rfl) (by kernel_rfl) (by kernel_rfl) .i64 (by kernel_rfl) hc hz hs
  clear hs
  go_enter Tryd.func35, Tryd.ntmps35
  go_wp2
  go_ret
  exact ⟨rfl, rfl⟩
end Go.Proofs.YtgeodhffgbhmaaaDoor.El
