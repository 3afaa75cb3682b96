/- Flash as it lies in memory: its cells, what a store does to them; what each of its steps makes of it. -/
import Derived.Test.YtekaoodagaplmaaClone
import Derived.Laws.NewBlocks
import Derived.Laws.Tables
namespace Go.Proofs.Ytekaoodagaplmaa
open Go.RowKit
structure Fl where
  bs : Nat → UInt8
  er : Nat → Int
  wear : Int
  steps : Int
  down : Bool
  there : Bool
  left : Int
  torn : Int
def Fl.cell (f : Fl) (i : Nat) : Value :=
  if i < 3584 then .int .u8 ((f.bs i).toNat : Int)
  else if i < 3598 then .int .i64 (f.er (i - 3584))
  else if i = 3598 then .int .i64 f.wear
  else if i = 3599 then .int .i64 f.steps
  else if i = 3600 then .bool f.down
  else if i = 3601 then .bool f.there
  else if i = 3602 then .int .i64 f.left
  else .int .i64 f.torn
/-- flash f lies in block g -/
def FlAt (W : World) (g : Nat) (f : Fl) : Prop :=
  ∃ cs : Array Value, W.heap[g]? = some (.cells cs 63 (0, 0)) ∧ cs.size = 3604 ∧ ∀ i, i < 3604 → cs[i]? = some (f.cell i)
section
variable {W W' : World} {g : Nat} {f f' : Fl}
theorem FlAt.lt (h : FlAt W g f) : g < W.heap.size := by
  obtain ⟨cs, hg, _⟩ := h
  exact (Array.getElem?_eq_some_iff.1 hg).1
theorem FlAt.at_ (h : FlAt W g f) {i : Nat} (hi : i < 3604) : W.cell? ⟨g, i, none⟩ = some (f.cell i) := by
  obtain ⟨cs, hg, _, hc⟩ := h
  rw [cell_of_row W g i cs _ (0, 0) hg]
  exact hc i hi
theorem FlAt.frozen (h : FlAt W g f) (i : Nat) : W.frozen? ⟨g, i, none⟩ = false := by
  obtain ⟨cs, hg, _, _⟩ := h
  exact frozen_of_row W g i cs _ hg
theorem FlAt.store (h : FlAt W g f) {k : Nat} {v : Value} (hk : k < 3604) (hf : ∀ i, i < 3604 → f'.cell i = if i = k then v else f.cell i) : FlAt (W.setCell ⟨g, k, none⟩ v) g f' := by
  obtain ⟨cs, hg, hs, hc⟩ := h
  refine ⟨cs.setIfInBounds k v, heap_setCell_same W g k cs _ v hg, by simpa using hs, fun i hi => ?_⟩
  rw [hf i hi, Array.getElem?_setIfInBounds]
  by_cases e : k = i
  · subst e; rw [if_pos rfl, if_pos (by omega), if_pos rfl]
  · rw [if_neg e, if_neg (fun e' => e e'.symm)]; exact hc i hi
theorem FlAt.keep (h : FlAt W g f) (hb : W'.heap[g]? = W.heap[g]?) : FlAt W' g f := by
  obtain ⟨cs, hg, r⟩ := h
  exact ⟨cs, hb.trans hg, r⟩
theorem FlAt.below (h : FlAt W g f) (hb : Below W.heap.size W W') : FlAt W' g f := h.keep (hb.block g h.lt)
theorem FlAt.grown (h : FlAt W g f) {row : Option Nat} (hg : W.grownBy W' row) (hr : row ≠ some g) : FlAt W' g f := h.keep (hg.block g h.lt (fun e => hr e.symm))
theorem grown_set (W : World) (g k : Nat) (v : Value) : W.grownBy (W.setCell ⟨g, k, none⟩ v) (some g) :=
  ⟨rfl, rfl, rfl, by simp, fun j _ hj => heap_setCell_other W ⟨g, k, none⟩ j v (fun e => hj (by simp [e]))⟩
/-- bytes a to a + n - 1 -/
def Fl.sub (f : Fl) (a n : Nat) : List UInt8 := (List.range n).map fun i => f.bs (a + i)
theorem Fl.sub_length (f : Fl) (a n : Nat) : (f.sub a n).length = n := by simp [Fl.sub]
theorem FlAt.row (h : FlAt W g f) {a n : Nat} (hn : a + n ≤ 3584) : Row W W.heap.size (some ⟨g, a, none⟩) n (bv (f.sub a n)) := by
  refine ⟨by simp [bv, Fl.sub], fun _ => ⟨g, a, rfl, h.lt, fun j u hu => ?_⟩⟩
  have hj : j < n := by have := (List.getElem?_eq_some_iff.1 hu).1; simpa [bv, Fl.sub] using this
  rw [h.at_ (by omega), ← hu]
  simp [bv, Fl.sub, hj, Fl.cell, show a + j < 3584 by omega]
end
def flNew (m : Int) : Fl := ⟨fun _ => 0, fun _ => 0, m, 0, false, false, 0, 0⟩
def Fl.fill (f : Fl) (a n : Nat) : Fl := { f with bs := fun i => if a ≤ i ∧ i < a + n then 255 else f.bs i }
def flCells (m : Int) : Array Value := ((List.range 3604).map (flNew m).cell).toArray
theorem fl_zero (w : World) : (zeroValue 63).run Try.prog w = .ok (.agg (flCells 0)) w := by kernel_rfl
theorem flCells_size (m : Int) : (flCells m).size = 3604 := by unfold flCells; rw [List.size_toArray, List.length_map, List.length_range]
theorem flCells_set (m : Int) : ∀ i, i < 3604 → ((flCells 0).setIfInBounds 3598 (.int .i64 m))[i]? = some ((flNew m).cell i) := by
  intro i hi
  rw [Array.getElem?_setIfInBounds, flCells_size]
  by_cases e : 3598 = i
  · subst e; rfl
  · rw [if_neg e]
    unfold flCells
    rw [List.getElem?_toArray, List.getElem?_map, List.getElem?_range hi]
    show some ((flNew 0).cell i) = some ((flNew m).cell i)
    congr 1
    unfold Fl.cell
    by_cases h1 : i < 3584
    · rw [if_pos h1, if_pos h1]; rfl
    · rw [if_neg h1, if_neg h1]
      by_cases h2 : i < 3598
      · rw [if_pos h2, if_pos h2]; rfl
      · have : i = 3599 ∨ i = 3600 ∨ i = 3601 ∨ i = 3602 ∨ i = 3603 := by omega
        rcases this with rfl | rfl | rfl | rfl | rfl <;> rfl
theorem flCells_at (m : Int) (C : Array Value) (hC : flCells 0 = C) (w : World) : FlAt (w.alloc (.cells (C.setIfInBounds 3598 (.int .i64 m)) 63)) w.heap.size (flNew m) := by
  subst hC
  refine ⟨_, heap_alloc_new _ _, ?_, flCells_set m⟩
  rw [Array.size_setIfInBounds, flCells_size]
def Done (g : Nat) (f : Fl) (w : World) (w' : World) : Prop := FlAt w' g f ∧ w.grownBy w' (some g)
set_option maxHeartbeats 800000 in
theorem fill_any (g a n cap : Nat) (f : Fl) (w : World) (hf : FlAt w g f) (hn : a + n ≤ 3584) :
    Calls Try.prog 21 #[.slice (some ⟨g, a, none⟩) n cap] w fun e w' => e = .returned (.tuple #[]) ∧ Hid (Done g (f.fill a n) w w') := by
  go_enter Try.func21, Try.ntmps21
  go_wp2_with fail
  go_loopw [5] (fun i wr => ∃ k : Nat, k ≤ n ∧ i = .int .i64 k ∧ Hid (Done g (f.fill a k) w wr)) (fun i _ => n - (intOf i).toNat)
  case atStart =>
    refine ⟨0, by omega, rfl, ?_, ⟨rfl, rfl, rfl, Nat.le_refl _, fun _ _ _ => rfl⟩⟩
    have e : f.fill a 0 = f := by unfold Fl.fill; congr 1; funext i; rw [if_neg (by omega)]
    rw [e]; exact hf
  case round =>
    obtain ⟨k, hk, rfl, hd⟩ := hrel
    by_cases hlt : k < n
    · have hcell := hd.out.1.at_ (i := a + k) (by omega)
      have hfr := hd.out.1.frozen (a + k)
      have hD : Hid (Done g (f.fill a (k + 1)) w (wr.setCell ⟨g, a + k, none⟩ (.int .u8 255))) := by
        refine ⟨hd.out.1.store (by omega) fun i hi => ?_, hd.out.2.trans (grown_set _ _ _ _)⟩
        by_cases e : i = a + k
        · subst e; simp [Fl.cell, Fl.fill, show a + k < 3584 by omega]
        · rw [if_neg e]
          unfold Fl.cell
          by_cases h1 : i < 3584
          · rw [if_pos h1, if_pos h1]
            simp only [Fl.fill]
            by_cases h2 : a ≤ i ∧ i < a + k
            · rw [if_pos h2, if_pos (by omega)]
            · rw [if_neg h2, if_neg (by omega)]
          · rw [if_neg h1, if_neg h1]; rfl
      clear hd
      go_wp2_with fail
      go_roundw
      case rel => exact ⟨k + 1, by omega, by go_num, hD⟩
      case measure => simp [intOf]; omega
    · obtain rfl : n = k := by omega
      go_wp2_with fail
      go_end0
      exact ⟨rfl, hd⟩
/-- New's wear -/
def wearIn (x : Int) : Int := min (max x 1) 10000
def NewOk (m : Int) (w : World) (e : Ending) (w' : World) : Prop :=
  ∃ g, e = .returned (.pointer (some ⟨g, 0, none⟩)) ∧ w.heap.size ≤ g ∧ Hid (FlAt w' g ((flNew m).fill 0 3584)) ∧ Hid (Below w.heap.size w w')
set_option maxRecDepth 100000 in
set_option maxHeartbeats 800000 in
theorem new_any (x : Int) (w : World) (h : 1 ≤ x ∧ x ≤ 10000) : Calls Try.prog 6 #[.int .i64 x] w (NewOk x w) := by
  obtain ⟨C, hC⟩ : ∃ C, flCells 0 = C := ⟨_, rfl⟩
  have hb : ∀ w' : World, (zeroValue 63).run Try.prog w' = .ok (.agg C) w' := fun w' => by rw [← hC]; exact fl_zero w'
  have hat := Lib.hid (flCells_at x C hC w)
  have hs : ¬ C.size < 3599 := by rw [← hC, flCells_size]; omega
  have h1 := h.1
  have h2 := h.2
  clear hC h
  go_enter Try.func6, Try.ntmps6
  go_wp2_with fail
  refine (fill_any w.heap.size 0 3584 3584 (flNew x) _ hat.out (by omega)).mono ?_
  rintro e w' ⟨rfl, hd⟩
  have HD : Hid (FlAt w' w.heap.size ((flNew x).fill 0 3584) ∧ Below w.heap.size w w') := ⟨hd.out.1, ((Below.refl _ _).alloc (Nat.le_refl _) _).grown hd.out.2 (by simp) (by intro g h; injection h with h; omega)⟩
  clear hd hat
  go_wp2_with fail
  go_ret
  exact ⟨_, rfl, Nat.le_refl _, HD.out.1, HD.out.2⟩
def mayE (f : Fl) (a n : Int) : Int := if f.down then 11 else if n < 0 ∨ a < 0 ∨ 3584 - n < a then 1 else 0
theorem FlAt.at_down {W : World} {g : Nat} {f : Fl} (h : FlAt W g f) : W.cell? ⟨g, 3600, none⟩ = some (.bool f.down) := h.at_ (i := 3600) (by omega)
theorem may_nil (a n : Int) (w : World) : Calls Try.prog 41 #[.pointer none, .int .i64 a, .int .i64 n] w fun e w' => e = .returned (.int .i64 1) ∧ w = w' := by
  go_enter Try.func41, Try.ntmps41
  go_wp2_with fail
  go_ret
  exact ⟨rfl, rfl⟩
theorem may_any (g : Nat) (f : Fl) (a n k : Int) (w : World) (hf : FlAt w g f) (hn : n ≤ 9223372036854775807) (hk : mayE f a n = k) :
    Calls Try.prog 41 #[.pointer (some ⟨g, 0, none⟩), .int .i64 a, .int .i64 n] w fun e w' => e = .returned (.int .i64 k) ∧ w = w' := by
  have hc := hf.at_down
  unfold mayE at hk
  cases hd : f.down with
  | true =>
    rw [hd] at hk hc
    simp only [if_true] at hk
    have HK := Lib.hid hk
    clear hk hd
    go_enter Try.func41, Try.ntmps41
    go_wp2_with fail
    go_ret
    exact ⟨by rw [← HK.out]; rfl, rfl⟩
  | false =>
    rw [hd] at hk hc
    simp only [Bool.false_eq_true, if_false] at hk
    clear hd
    by_cases h1 : n < 0
    · rw [if_pos (Or.inl h1)] at hk
      have HK := Lib.hid hk
      clear hk
      go_enter Try.func41, Try.ntmps41
      go_wp2_with fail
      go_ret
      exact ⟨by rw [← HK.out]; rfl, rfl⟩
    by_cases h2 : a < 0
    · rw [if_pos (Or.inr (Or.inl h2))] at hk
      have HK := Lib.hid hk
      clear hk
      go_enter Try.func41, Try.ntmps41
      go_wp2_with fail
      go_ret
      exact ⟨by rw [← HK.out]; rfl, rfl⟩
    have h1' : 0 ≤ n := by omega
    have h2' : 0 ≤ a := by omega
    by_cases h3 : 3584 - n < a
    · rw [if_pos (Or.inr (Or.inr h3))] at hk
      have HK := Lib.hid hk
      clear hk
      go_enter Try.func41, Try.ntmps41
      go_wp2_with fail
      go_ret
      exact ⟨by rw [← HK.out]; rfl, rfl⟩
    · rw [if_neg (by omega)] at hk
      have HK := Lib.hid hk
      clear hk
      go_enter Try.func41, Try.ntmps41
      go_wp2_with fail
      go_ret
      exact ⟨by rw [← HK.out]; rfl, rfl⟩
theorem read_bad (p : Option Addr) (a n k : Int) (w : World) (hm : Calls Try.prog 41 #[.pointer p, .int .i64 a, .int .i64 n] w fun e w' => e = .returned (.int .i64 k) ∧ w = w') (hk : k ≠ 0) :
    Calls Try.prog 22 #[.pointer p, .int .i64 a, .int .i64 n] w fun e w' => e = .returned (.tuple #[.slice none 0 0, .int .i64 k]) ∧ w = w' := by
  have hk' : (k != 0) = true := by simpa using hk
  have HM := Lib.hid hm
  clear hm hk
  go_enter Try.func22, Try.ntmps22
  go_wp2_with fail
  refine HM.out.mono ?_
  rintro e w' ⟨rfl, rfl⟩
  go_wp2_with fail
  go_ret2
  exact ⟨rfl, rfl⟩
def ReadOk (l : List UInt8) (w : World) (e : Ending) (w' : World) : Prop :=
  ∃ A n cap, e = .returned (.tuple #[.slice A n cap, .int .i64 0]) ∧ Hid (n = l.length) ∧ Hid (w'.ownsRow w.heap.size 5 1 (.slice A n cap) n (bv l)) ∧ Hid (Below w.heap.size w w')
theorem mayE_yes {f : Fl} {a n : Nat} (hd : f.down = false) (h : a + n ≤ 3584) : mayE f a n = 0 := by
  unfold mayE; rw [hd]; simp; omega
set_option maxHeartbeats 800000 in
theorem read_ok (g a n : Nat) (f : Fl) (w : World) (hf : FlAt w g f) (hd : f.down = false) (h : a + n ≤ 3584) :
    Calls Try.prog 22 #[.pointer (some ⟨g, 0, none⟩), .int .i64 a, .int .i64 n] w (ReadOk (f.sub a n) w) := by
  have HM := Lib.hid (may_any g f a n 0 w hf (by omega) (mayE_yes hd h))
  have HR := Lib.hid (hf.row (a := a) (n := n) h)
  have HSL := Lib.hid (f.sub_length a n)
  clear hd hf
  go_enter Try.func22, Try.ntmps22
  go_wp2_with fail
  refine HM.out.mono ?_
  rintro e w' ⟨rfl, rfl⟩
  have h1 : (a : Int) + n ≤ 3584 := by omega
  have h2 : (a : Int) ≤ (a : Int) + n := by omega
  have h0 : (0 : Int) ≤ (a : Int) := by omega
  have hal : Try.prog.arrayLen 54 = 3584 := by kernel_rfl
  have h3 : (a : Int) + n ≤ Try.prog.arrayLen 54 := by rw [hal]; exact h1
  have hs1 : a ≤ 3584 := by omega
  have key : ∀ A cap, Row w w.heap.size A n (bv (f.sub a n)) → Calls Try.prog 35 #[.slice A n cap] w (FreshBytes w.heap.size (f.sub a n) w) := fun A cap hr => clone_any w.heap.size n cap A _ w hr (by omega) (Nat.le_refl _)
  have HK := Lib.hid key
  clear key
  by_cases ha : 3584 = a
  · have hn0 : n = 0 := by omega
    subst hn0
    have e0 : f.sub a 0 = [] := rfl
    rw [e0] at HK ⊢
    clear HSL HR e0
    go_wp2_with fail
    refine (HK.out _ _ (Row.nil _ _ _)).mono ?_
    rintro e w1 ⟨A1, n1, c1, rfl, hn1, hown1, hb1⟩
    have HO := Lib.hid hown1
    have HB := Lib.hid hb1
    clear hown1 hb1
    go_wp2_with fail
    go_ret2
    exact ⟨A1, n1, c1, rfl, hn1, HO, HB⟩
  · go_wp2_with fail
    refine (HK.out _ _ HR.out).mono ?_
    rintro e w1 ⟨A1, n1, c1, rfl, hn1, hown1, hb1⟩
    have HO := Lib.hid hown1
    have HB := Lib.hid hb1
    clear hown1 hb1
    go_wp2_with fail
    go_ret2
    exact ⟨A1, n1, c1, rfl, hn1, HO, HB⟩
theorem bytes_any (g : Nat) (f : Fl) (w : World) (hf : FlAt w g f) :
    Calls Try.prog 20 #[.pointer (some ⟨g, 0, none⟩)] w (FreshBytes w.heap.size (f.sub 0 3584) w) := by
  have HR := Lib.hid (hf.row (a := 0) (n := 3584) (by omega))
  clear hf
  generalize f.sub 0 3584 = L at *
  go_enter Try.func20, Try.ntmps20
  go_wp2_with fail
  refine (clone_any w.heap.size 3584 3584 _ L w HR.out (by omega) (Nat.le_refl _)).mono ?_
  rintro e w1 ⟨A1, n1, c1, rfl, hn1, hown1, hb1⟩
  have HO := Lib.hid hown1
  have HB := Lib.hid hb1
  clear hown1 hb1
  go_wp2_with fail
  go_ret
  exact ⟨A1, n1, c1, rfl, hn1, HO.out, HB.out⟩
theorem down_any (g : Nat) (f : Fl) (b : Bool) (w : World) (hf : FlAt w g f) (hb : f.down = b) :
    Calls Try.prog 31 #[.pointer (some ⟨g, 0, none⟩)] w fun e w' => e = .returned (.bool b) ∧ w = w' := by
  have hc := hf.at_down
  rw [hb] at hc
  clear hb hf
  go_enter Try.func31, Try.ntmps31
  go_wp2_with fail
  go_ret
  exact ⟨rfl, rfl⟩
theorem FlAt.at_er {W : World} {g : Nat} {f : Fl} (h : FlAt W g f) {s : Nat} (hs : s < 14) : W.cell? ⟨g, 3584 + s, none⟩ = some (.int .i64 (f.er s)) := by
  rw [h.at_ (i := 3584 + s) (by omega)]
  unfold Fl.cell
  rw [if_neg (by omega), if_pos (by omega), Nat.add_sub_cancel_left]
/-- step -/
def Fl.stepB (f : Fl) : Bool := if f.there then decide (0 < f.left) else true
def Fl.tick (f : Fl) : Fl := { f with steps := f.steps + 1 }
def Fl.stepF (f : Fl) : Fl := if f.there then (if 0 < f.left then { f.tick with left := f.left - 1 } else { f.tick with there := false, down := true }) else f.tick
theorem FlAt.set {W : World} {g : Nat} {f : Fl} (h : FlAt W g f) (k : Nat) (v : Value) (f' : Fl) (hk : k < 3604) (hf : ∀ i, i < 3604 → f'.cell i = if i = k then v else f.cell i) : Done g f' W (W.setCell ⟨g, k, none⟩ v) :=
  ⟨h.store hk hf, grown_set _ _ _ _⟩
end Go.Proofs.Ytekaoodagaplmaa
