/- Flash as it lies in memory: its cells, what a store does to them; what each of its steps makes of it. -/
import Derived.Laws.NewBlocks
import Derived.Laws.Tables
import Derived.Laws.LoneSync
import Derived.RegionTactic
import Derived.Laws.BitsAllLaws
import Derived.Deep.QuietTactic
import Derived.BigQuiet
import Derived.Deep.DeepCutAuto
import Derived.WalkLawsBesides
import Derived.Test.YtoblapnnpjgpnaaGreatDoorZAQ
import Derived.Test.YtoblapnnpjgpnaaGreatDoorZHQ
namespace Go.Proofs.YtoblapnnpjgpnaaGreatDoor
open Go.RowKit
structure Fl where
  bs : Nat → UInt8
  er : Nat → Int
  wear : Int
  steps : Int
  down : Bool
  there : Bool
  left : Int
  torn : Int
def Fl.cell (f : Fl) (i : Nat) : Value :=
  if i < 3584 then .int .u8 ((f.bs i).toNat : Int)
  else if i < 3598 then .int .i64 (f.er (i - 3584))
  else if i = 3598 then .int .i64 f.wear
  else if i = 3599 then .int .i64 f.steps
  else if i = 3600 then .bool f.down
  else if i = 3601 then .bool f.there
  else if i = 3602 then .int .i64 f.left
  else .int .i64 f.torn
/-- flash f lies in block g -/
def FlAt (W : World) (g : Nat) (f : Fl) : Prop :=
  ∃ cs : Array Value, W.heap[g]? = some (.cells cs 102 (0, 0)) ∧ cs.size = 3604 ∧ ∀ i, i < 3604 → cs[i]? = some (f.cell i)
section
variable {W W' : World} {g : Nat} {f f' : Fl}
theorem FlAt.lt (h : FlAt W g f) : g < W.heap.size := by
  obtain ⟨cs, hg, _⟩ := h
  exact (Array.getElem?_eq_some_iff.1 hg).1
theorem FlAt.at_ (h : FlAt W g f) {i : Nat} (hi : i < 3604) : W.cell? ⟨g, i, none⟩ = some (f.cell i) := by
  obtain ⟨cs, hg, _, hc⟩ := h
  rw [cell_of_row W g i cs _ (0, 0) hg]
  exact hc i hi
theorem FlAt.frozen (h : FlAt W g f) (i : Nat) : W.frozen? ⟨g, i, none⟩ = false := by
  obtain ⟨cs, hg, _, _⟩ := h
  exact frozen_of_row W g i cs _ hg
theorem FlAt.store (h : FlAt W g f) {k : Nat} {v : Value} (hk : k < 3604) (hf : ∀ i, i < 3604 → f'.cell i = if i = k then v else f.cell i) : FlAt (W.setCell ⟨g, k, none⟩ v) g f' := by
  obtain ⟨cs, hg, hs, hc⟩ := h
  refine ⟨cs.setIfInBounds k v, heap_setCell_same W g k cs _ v hg, by simpa using hs, fun i hi => ?_⟩
  rw [hf i hi, Array.getElem?_setIfInBounds]
  by_cases e : k = i
  · subst e; rw [if_pos rfl, if_pos (by omega), if_pos rfl]
  · rw [if_neg e, if_neg (fun e' => e e'.symm)]; exact hc i hi
theorem FlAt.keep (h : FlAt W g f) (hb : W'.heap[g]? = W.heap[g]?) : FlAt W' g f := by
  obtain ⟨cs, hg, r⟩ := h
  exact ⟨cs, hb.trans hg, r⟩
theorem FlAt.below (h : FlAt W g f) (hb : Below W.heap.size W W') : FlAt W' g f := h.keep (hb.block g h.lt)
theorem FlAt.grown (h : FlAt W g f) {row : Option Nat} (hg : W.grownBy W' row) (hr : row ≠ some g) : FlAt W' g f := h.keep (hg.block g h.lt (fun e => hr e.symm))
theorem grown_set (W : World) (g k : Nat) (v : Value) : W.grownBy (W.setCell ⟨g, k, none⟩ v) (some g) :=
  ⟨rfl, rfl, rfl, by simp, fun j _ hj => heap_setCell_other W ⟨g, k, none⟩ j v (fun e => hj (by simp [e]))⟩
/-- bytes a to a + n - 1 -/
def Fl.sub (f : Fl) (a n : Nat) : List UInt8 := (List.range n).map fun i => f.bs (a + i)
theorem Fl.sub_length (f : Fl) (a n : Nat) : (f.sub a n).length = n := by simp [Fl.sub]
theorem FlAt.row (h : FlAt W g f) {a n : Nat} (hn : a + n ≤ 3584) : Row W W.heap.size (some ⟨g, a, none⟩) n (bv (f.sub a n)) := by
  refine ⟨by simp [bv, Fl.sub], fun _ => ⟨g, a, rfl, h.lt, fun j u hu => ?_⟩⟩
  have hj : j < n := by have := (List.getElem?_eq_some_iff.1 hu).1; simpa [bv, Fl.sub] using this
  rw [h.at_ (by omega), ← hu]
  simp [bv, Fl.sub, hj, Fl.cell, show a + j < 3584 by omega]
end
def flNew (m : Int) : Fl := ⟨fun _ => 0, fun _ => 0, m, 0, false, false, 0, 0⟩
def Fl.fill (f : Fl) (a n : Nat) : Fl := { f with bs := fun i => if a ≤ i ∧ i < a + n then 255 else f.bs i }
def flCells (m : Int) : Array Value := ((List.range 3604).map (flNew m).cell).toArray
theorem fl_zero (w : World) : (zeroValue 102).run Tryz.prog w = .ok (.agg (flCells 0)) w := by kernel_rfl
theorem flCells_size (m : Int) : (flCells m).size = 3604 := by unfold flCells; rw [List.size_toArray, List.length_map, List.length_range]
theorem flCells_set (m : Int) : ∀ i, i < 3604 → ((flCells 0).setIfInBounds 3598 (.int .i64 m))[i]? = some ((flNew m).cell i) := by
  intro i hi
  rw [Array.getElem?_setIfInBounds, flCells_size]
  by_cases e : 3598 = i
  · subst e; rfl
  · rw [if_neg e]
    unfold flCells
    rw [List.getElem?_toArray, List.getElem?_map, List.getElem?_range hi]
    show some ((flNew 0).cell i) = some ((flNew m).cell i)
    congr 1
    unfold Fl.cell
    by_cases h1 : i < 3584
    · rw [if_pos h1, if_pos h1]; rfl
    · rw [if_neg h1, if_neg h1]
      by_cases h2 : i < 3598
      · rw [if_pos h2, if_pos h2]; rfl
      · have : i = 3599 ∨ i = 3600 ∨ i = 3601 ∨ i = 3602 ∨ i = 3603 := by omega
        rcases this with rfl | rfl | rfl | rfl | rfl <;> rfl
theorem flCells_at (m : Int) (C : Array Value) (hC : flCells 0 = C) (w : World) : FlAt (w.alloc (.cells (C.setIfInBounds 3598 (.int .i64 m)) 102)) w.heap.size (flNew m) := by
  subst hC
  refine ⟨_, heap_alloc_new _ _, ?_, flCells_set m⟩
  rw [Array.size_setIfInBounds, flCells_size]
def Done (g : Nat) (f : Fl) (w : World) (w' : World) : Prop := FlAt w' g f ∧ w.grownBy w' (some g)
set_option maxHeartbeats 800000 in
theorem fill_any (g a n cap : Nat) (f : Fl) (w : World) (hf : FlAt w g f) (hn : a + n ≤ 3584) :
    Calls Tryz.prog 39 #[.slice (some ⟨g, a, none⟩) n cap] w fun e w' => e = .returned (.tuple #[]) ∧ Hid (Done g (f.fill a n) w w') := by
  go_enter Tryz.func39, Tryz.ntmps39
  go_wp2_with fail
  go_loopw [5] (fun i wr => ∃ k : Nat, k ≤ n ∧ i = .int .i64 k ∧ Hid (Done g (f.fill a k) w wr)) (fun i _ => n - (intOf i).toNat)
  case atStart =>
    refine ⟨0, by omega, rfl, ?_, ⟨rfl, rfl, rfl, Nat.le_refl _, fun _ _ _ => rfl⟩⟩
    have e : f.fill a 0 = f := by unfold Fl.fill; congr 1; funext i; rw [if_neg (by omega)]
    rw [e]; exact hf
  case round =>
    obtain ⟨k, hk, rfl, hd⟩ := hrel
    by_cases hlt : k < n
    · have hcell := hd.out.1.at_ (i := a + k) (by omega)
      have hfr := hd.out.1.frozen (a + k)
      have hD : Hid (Done g (f.fill a (k + 1)) w (wr.setCell ⟨g, a + k, none⟩ (.int .u8 255))) := by
        refine ⟨hd.out.1.store (by omega) fun i hi => ?_, hd.out.2.trans (grown_set _ _ _ _)⟩
        by_cases e : i = a + k
        · subst e; simp [Fl.cell, Fl.fill, show a + k < 3584 by omega]
        · rw [if_neg e]
          unfold Fl.cell
          by_cases h1 : i < 3584
          · rw [if_pos h1, if_pos h1]
            simp only [Fl.fill]
            by_cases h2 : a ≤ i ∧ i < a + k
            · rw [if_pos h2, if_pos (by omega)]
            · rw [if_neg h2, if_neg (by omega)]
          · rw [if_neg h1, if_neg h1]; rfl
      clear hd
      go_wp2_with fail
      go_roundw
      case rel => exact ⟨k + 1, by omega, by go_num, hD⟩
      case measure => simp [intOf]; omega
    · obtain rfl : n = k := by omega
      go_wp2_with fail
      go_end0
      exact ⟨rfl, hd⟩
def NewOk (m : Int) (w : World) (e : Ending) (w' : World) : Prop :=
  ∃ g, e = .returned (.pointer (some ⟨g, 0, none⟩)) ∧ w.heap.size ≤ g ∧ Hid (FlAt w' g ((flNew m).fill 0 3584)) ∧ Hid (Below w.heap.size w w')
set_option maxRecDepth 100000 in
set_option maxHeartbeats 800000 in
theorem new_any (x : Int) (w : World) (h : 1 ≤ x ∧ x ≤ 10000) : Calls Tryz.prog 17 #[.int .i64 x] w (NewOk x w) := by
  obtain ⟨C, hC⟩ : ∃ C, flCells 0 = C := ⟨_, rfl⟩
  have hb : ∀ w' : World, (zeroValue 102).run Tryz.prog w' = .ok (.agg C) w' := fun w' => by rw [← hC]; exact fl_zero w'
  have hat := Lib.hid (flCells_at x C hC w)
  have hs : ¬ C.size < 3599 := by rw [← hC, flCells_size]; omega
  have h1 := h.1
  have h2 := h.2
  clear hC h
  go_enter Tryz.func17, Tryz.ntmps17
  go_wp2_with fail
  refine (fill_any w.heap.size 0 3584 3584 (flNew x) _ hat.out (by omega)).mono ?_
  rintro e w' ⟨rfl, hd⟩
  have HD : Hid (FlAt w' w.heap.size ((flNew x).fill 0 3584) ∧ Below w.heap.size w w') := ⟨hd.out.1, ((Below.refl _ _).alloc (Nat.le_refl _) _).grown hd.out.2 (by simp) (by intro g h; injection h with h; omega)⟩
  clear hd hat
  go_wp2_with fail
  go_ret
  exact ⟨_, rfl, Nat.le_refl _, HD.out.1, HD.out.2⟩
def mayE (f : Fl) (a n : Int) : Int := if f.down then 11 else if n < 0 ∨ a < 0 ∨ 3584 - n < a then 1 else 0
theorem FlAt.at_down {W : World} {g : Nat} {f : Fl} (h : FlAt W g f) : W.cell? ⟨g, 3600, none⟩ = some (.bool f.down) := h.at_ (i := 3600) (by omega)
theorem may_any (g : Nat) (f : Fl) (a n k : Int) (w : World) (hf : FlAt w g f) (hn : n ≤ 9223372036854775807) (hk : mayE f a n = k) :
    Calls Tryz.prog 90 #[.pointer (some ⟨g, 0, none⟩), .int .i64 a, .int .i64 n] w fun e w' => e = .returned (.int .i64 k) ∧ w = w' := by
  have hc := hf.at_down
  unfold mayE at hk
  cases hd : f.down with
  | true =>
    rw [hd] at hk hc
    simp only [if_true] at hk
    have HK := Lib.hid hk
    clear hk hd
    go_enter Tryz.func90, Tryz.ntmps90
    go_wp2_with fail
    go_ret
    exact ⟨by rw [← HK.out]; rfl, rfl⟩
  | false =>
    rw [hd] at hk hc
    simp only [Bool.false_eq_true, if_false] at hk
    clear hd
    by_cases h1 : n < 0
    · rw [if_pos (Or.inl h1)] at hk
      have HK := Lib.hid hk
      clear hk
      go_enter Tryz.func90, Tryz.ntmps90
      go_wp2_with fail
      go_ret
      exact ⟨by rw [← HK.out]; rfl, rfl⟩
    by_cases h2 : a < 0
    · rw [if_pos (Or.inr (Or.inl h2))] at hk
      have HK := Lib.hid hk
      clear hk
      go_enter Tryz.func90, Tryz.ntmps90
      go_wp2_with fail
      go_ret
      exact ⟨by rw [← HK.out]; rfl, rfl⟩
    have h1' : 0 ≤ n := by omega
    have h2' : 0 ≤ a := by omega
    by_cases h3 : 3584 - n < a
    · rw [if_pos (Or.inr (Or.inr h3))] at hk
      have HK := Lib.hid hk
      clear hk
      go_enter Tryz.func90, Tryz.ntmps90
      go_wp2_with fail
      go_ret
      exact ⟨by rw [← HK.out]; rfl, rfl⟩
    · rw [if_neg (by omega)] at hk
      have HK := Lib.hid hk
      clear hk
      go_enter Tryz.func90, Tryz.ntmps90
      go_wp2_with fail
      go_ret
      exact ⟨by rw [← HK.out]; rfl, rfl⟩
def ReadOk (l : List UInt8) (w : World) (e : Ending) (w' : World) : Prop :=
  ∃ A n cap, e = .returned (.tuple #[.slice A n cap, .int .i64 0]) ∧ Hid (n = l.length) ∧ Hid (w'.ownsRow w.heap.size 5 1 (.slice A n cap) n (bv l)) ∧ Hid (Below w.heap.size w w')
theorem mayE_yes {f : Fl} {a n : Nat} (hd : f.down = false) (h : a + n ≤ 3584) : mayE f a n = 0 := by
  unfold mayE; rw [hd]; simp; omega
set_option maxHeartbeats 800000 in
theorem read_ok (g a n : Nat) (f : Fl) (w : World) (hf : FlAt w g f) (hd : f.down = false) (h : a + n ≤ 3584) :
    Calls Tryz.prog 55 #[.pointer (some ⟨g, 0, none⟩), .int .i64 a, .int .i64 n] w (ReadOk (f.sub a n) w) := by
  have HM := Lib.hid (may_any g f a n 0 w hf (by omega) (mayE_yes hd h))
  have HR := Lib.hid (hf.row (a := a) (n := n) h)
  have HSL := Lib.hid (f.sub_length a n)
  clear hd hf
  go_enter Tryz.func55, Tryz.ntmps55
  go_wp2_with fail
  refine HM.out.mono ?_
  rintro e w' ⟨rfl, rfl⟩
  have h1 : (a : Int) + n ≤ 3584 := by omega
  have h2 : (a : Int) ≤ (a : Int) + n := by omega
  have h0 : (0 : Int) ≤ (a : Int) := by omega
  have hal : Tryz.prog.arrayLen 94 = 3584 := by kernel_rfl
  have h3 : (a : Int) + n ≤ Tryz.prog.arrayLen 94 := by rw [hal]; exact h1
  have hs1 : a ≤ 3584 := by omega
  have key : ∀ A cap, Row w w.heap.size A n (bv (f.sub a n)) → Calls Tryz.prog 38 #[.slice A n cap] w (FreshBytes w.heap.size (f.sub a n) w) := fun A cap hr => clone_any w.heap.size n cap A _ w hr (by omega) (Nat.le_refl _)
  have HK := Lib.hid key
  clear key
  by_cases ha : 3584 = a
  · have hn0 : n = 0 := by omega
    subst hn0
    have e0 : f.sub a 0 = [] := rfl
    rw [e0] at HK ⊢
    clear HSL HR e0
    go_wp2_with fail
    refine (HK.out _ _ (Row.nil _ _ _)).mono ?_
    rintro e w1 ⟨A1, n1, c1, rfl, hn1, hown1, hb1⟩
    have HO := Lib.hid hown1
    have HB := Lib.hid hb1
    clear hown1 hb1
    go_wp2_with fail
    go_ret2
    exact ⟨A1, n1, c1, rfl, hn1, HO, HB⟩
  · go_wp2_with fail
    refine (HK.out _ _ HR.out).mono ?_
    rintro e w1 ⟨A1, n1, c1, rfl, hn1, hown1, hb1⟩
    have HO := Lib.hid hown1
    have HB := Lib.hid hb1
    clear hown1 hb1
    go_wp2_with fail
    go_ret2
    exact ⟨A1, n1, c1, rfl, hn1, HO, HB⟩
theorem down_any (g : Nat) (f : Fl) (b : Bool) (w : World) (hf : FlAt w g f) (hb : f.down = b) :
    Calls Tryz.prog 66 #[.pointer (some ⟨g, 0, none⟩)] w fun e w' => e = .returned (.bool b) ∧ w = w' := by
  have hc := hf.at_down
  rw [hb] at hc
  clear hb hf
  go_enter Tryz.func66, Tryz.ntmps66
  go_wp2_with fail
  go_ret
  exact ⟨rfl, rfl⟩
theorem FlAt.at_er {W : World} {g : Nat} {f : Fl} (h : FlAt W g f) {s : Nat} (hs : s < 14) : W.cell? ⟨g, 3584 + s, none⟩ = some (.int .i64 (f.er s)) := by
  rw [h.at_ (i := 3584 + s) (by omega)]
  unfold Fl.cell
  rw [if_neg (by omega), if_pos (by omega), Nat.add_sub_cancel_left]
/-- step -/
def Fl.stepB (f : Fl) : Bool := if f.there then decide (0 < f.left) else true
def Fl.tick (f : Fl) : Fl := { f with steps := f.steps + 1 }
def Fl.stepF (f : Fl) : Fl := if f.there then (if 0 < f.left then { f.tick with left := f.left - 1 } else { f.tick with there := false, down := true }) else f.tick
theorem FlAt.set {W : World} {g : Nat} {f : Fl} (h : FlAt W g f) (k : Nat) (v : Value) (f' : Fl) (hk : k < 3604) (hf : ∀ i, i < 3604 → f'.cell i = if i = k then v else f.cell i) : Done g f' W (W.setCell ⟨g, k, none⟩ v) :=
  ⟨h.store hk hf, grown_set _ _ _ _⟩
end Go.Proofs.YtoblapnnpjgpnaaGreatDoor
namespace Go.Proofs.YtoblapnnpjgpnaaGreatDoor
open Go.RowKit
theorem Done.trans {g : Nat} {f1 f2 : Fl} {w w1 w2 : World} (h1 : Done g f1 w w1) (h2 : Done g f2 w1 w2) : Done g f2 w w2 := ⟨h2.1, h1.2.trans h2.2⟩
theorem Done.drew {g : Nat} {f : Fl} {w w1 : World} (h : Done g f w w1) : Done g f w w1.drew := ⟨h.1, ⟨h.2.os, h.2.tape, h.2.output, h.2.size, h.2.block⟩⟩
theorem Row.apart {w w' : World} {B n g : Nat} {A : Option Addr} {xs : List Value} (h : Row w B A n xs) (hA : 0 < n → ∀ b o, A = some ⟨b, o, none⟩ → b ≠ g) (hg : w.grownBy w' (some g)) (hB : B ≤ w.heap.size) : Row w' B A n xs :=
  ⟨h.1, fun hn => by
    obtain ⟨b, o, e, hb, hc⟩ := h.2 hn
    refine ⟨b, o, e, hb, fun j u hu => ?_⟩
    rw [World.cell?_of_block (w := w) (w' := w') (a := ⟨b, o + j, none⟩) (hg.block b (by omega) (fun e' => hA hn b o e (by injection e')))]
    exact hc j u hu⟩
theorem add_fl (g : Nat) (f : Fl) (w : World) (hf : FlAt w g f) (h0 : -9223372036854775808 ≤ f.steps) (h1 : f.steps < 9223372036854775807) :
    Calls Tryz.prog 63 #[.pointer (some ⟨g, 3599, none⟩), .int .i64 1] w fun e w' => e = .returned (.int .i64 (f.steps + 1)) ∧ Hid (Done g f.tick w w') := by
  have hD : Hid (Done g f.tick w (w.setCell ⟨g, 3599, none⟩ (.int .i64 (f.steps + 1)))) := by
    refine hf.set 3599 _ _ (by omega) fun i hi => ?_
    by_cases e : i = 3599
    · subst e; rfl
    · rw [if_neg e]
      unfold Fl.cell
      by_cases h1 : i < 3584
      · rw [if_pos h1, if_pos h1]; rfl
      · rw [if_neg h1, if_neg h1]
        by_cases h2 : i < 3598
        · rw [if_pos h2, if_pos h2]; rfl
        · have : i = 3598 ∨ i = 3600 ∨ i = 3601 ∨ i = 3602 ∨ i = 3603 := by omega
          rcases this with rfl | rfl | rfl | rfl | rfl <;> rfl
  have hc : w.cell? ⟨g, 3599, none⟩ = some (.int .i64 f.steps) := hf.at_ (i := 3599) (by omega)
  have hz := hf.frozen 3599
  have hadd := run_call_add (P := Tryz.prog) Tryz.func100 (by kernel_rfl) (by kernel_rfl) (by kernel_rfl) .i64 (by kernel_rfl) (y := 1) (s := f.steps + 1) hc hz (by
    have : IntKind.i64.wrap (f.steps + 1) = f.steps + 1 := IntWalk.i64_in _ ⟨by omega, by omega⟩
    simp [go_sem, this])
  clear hf
  go_enter Tryz.func63, Tryz.ntmps63
  go_wp2
  go_ret
  exact ⟨rfl, hD⟩
theorem FlAt.at_there {W : World} {g : Nat} {f : Fl} (h : FlAt W g f) : W.cell? ⟨g, 3601, none⟩ = some (.bool f.there) := h.at_ (i := 3601) (by omega)
theorem FlAt.at_left {W : World} {g : Nat} {f : Fl} (h : FlAt W g f) : W.cell? ⟨g, 3602, none⟩ = some (.int .i64 f.left) := h.at_ (i := 3602) (by omega)
theorem FlAt.at_torn {W : World} {g : Nat} {f : Fl} (h : FlAt W g f) : W.cell? ⟨g, 3603, none⟩ = some (.int .i64 f.torn) := h.at_ (i := 3603) (by omega)
theorem FlAt.at_wear {W : World} {g : Nat} {f : Fl} (h : FlAt W g f) : W.cell? ⟨g, 3598, none⟩ = some (.int .i64 f.wear) := h.at_ (i := 3598) (by omega)
theorem FlAt.at_byte {W : World} {g : Nat} {f : Fl} (h : FlAt W g f) {i : Nat} (hi : i < 3584) : W.cell? ⟨g, i, none⟩ = some (.int .u8 ((f.bs i).toNat : Int)) := by
  rw [h.at_ (by omega)]; unfold Fl.cell; rw [if_pos hi]
/-- cells beyond the bytes and the counts: the same but one -/
theorem cell_tail {f f' : Fl} (k : Nat) (v : Value) (hk : 3598 ≤ k) (h1 : f'.bs = f.bs) (h2 : f'.er = f.er) (h : ∀ i, i = 3598 ∨ i = 3599 ∨ i = 3600 ∨ i = 3601 ∨ i = 3602 ∨ i = 3603 → f'.cell i = if i = k then v else f.cell i) :
    ∀ i, i < 3604 → f'.cell i = if i = k then v else f.cell i := by
  intro i hi
  by_cases h3 : i < 3598
  · rw [if_neg (by omega)]
    unfold Fl.cell
    by_cases h4 : i < 3584
    · rw [if_pos h4, if_pos h4, h1]
    · rw [if_neg h4, if_neg h4, if_pos h3, if_pos h3, h2]
  · exact h i (by omega)
set_option maxHeartbeats 800000 in
theorem flstep_any (g : Nat) (f : Fl) (w : World) (hf : FlAt w g f) (h0 : -9223372036854775808 ≤ f.steps) (h1 : f.steps < 9223372036854775807) (hl : f.left ≤ 9223372036854775807) :
    Calls Tryz.prog 130 #[.pointer (some ⟨g, 0, none⟩)] w fun e w' => e = .returned (.bool f.stepB) ∧ Hid (Done g f.stepF w w') := by
  have HADD := Lib.hid (add_fl g f w hf h0 h1)
  obtain ⟨f1, hf1⟩ : ∃ f1 : Fl, f.tick = f1 := ⟨_, rfl⟩
  rw [hf1] at HADD
  cases ht : f.there with
  | false =>
    have e1 : f.stepB = true := by unfold Fl.stepB; rw [ht]; rfl
    have e2 : f.stepF = f1 := by unfold Fl.stepF; rw [if_neg (by rw [ht]; decide)]; exact hf1
    have e3 : f1.there = false := by rw [← hf1]; exact ht
    rw [e1, e2]
    have E3 := Lib.hid e3
    clear e1 e2 e3 ht hf1 hf
    go_enter Tryz.func130, Tryz.ntmps130
    go_wp2_with fail
    refine HADD.out.mono ?_
    rintro e w1 ⟨rfl, hd⟩
    have hc := hd.out.1.at_there
    rw [E3.out] at hc
    go_wp2_with fail
    go_ret
    exact ⟨rfl, hd⟩
  | true =>
    have e3 : f1.there = true := by rw [← hf1]; exact ht
    have e4 : f1.left = f.left := by rw [← hf1]; rfl
    by_cases hp : 0 < f.left
    · have e1 : f.stepB = true := by unfold Fl.stepB; rw [ht]; simpa using hp
      have e2 : f.stepF = { f1 with left := f.left - 1 } := by unfold Fl.stepF; rw [if_pos ht, if_pos hp, hf1]
      rw [e1, e2]
      have E3 := Lib.hid e3
      have E4 := Lib.hid e4
      clear e1 e2 e3 e4 ht hf1 hf
      generalize f.left = L at *
      go_enter Tryz.func130, Tryz.ntmps130
      go_wp2_with fail
      refine HADD.out.mono ?_
      rintro e w1 ⟨rfl, hd⟩
      have hc := hd.out.1.at_there
      rw [E3.out] at hc
      have hc2 := hd.out.1.at_left
      rw [E4.out] at hc2
      have hfz := hd.out.1.frozen 3602
      have hD : Hid (Done g { f1 with left := L - 1 } w (w1.setCell ⟨g, 3602, none⟩ (.int .i64 (L - 1)))) := by
        refine hd.out.trans (hd.out.1.set 3602 _ _ (by omega) (cell_tail 3602 _ (by omega) rfl rfl ?_))
        intro i hi
        rcases hi with rfl | rfl | rfl | rfl | rfl | rfl <;> rfl
      clear hd
      go_wp2_with fail
      go_ret
      exact ⟨rfl, hD⟩
    · have e1 : f.stepB = false := by unfold Fl.stepB; rw [ht]; simpa using hp
      have e2 : f.stepF = { f1 with there := false, down := true } := by unfold Fl.stepF; rw [if_pos ht, if_neg hp, hf1]
      rw [e1, e2]
      have E3 := Lib.hid e3
      have E4 := Lib.hid e4
      clear e1 e2 e3 e4 ht hf1 hf
      generalize f.left = L at *
      go_enter Tryz.func130, Tryz.ntmps130
      go_wp2_with fail
      refine HADD.out.mono ?_
      rintro e w1 ⟨rfl, hd⟩
      have hc := hd.out.1.at_there
      rw [E3.out] at hc
      have hc2 := hd.out.1.at_left
      rw [E4.out] at hc2
      have hfz := hd.out.1.frozen 3601
      have hfz2 := hd.out.1.frozen 3600
      have hc3 := hd.out.1.at_down
      have hD1 : Done g { f1 with there := false } w1 (w1.setCell ⟨g, 3601, none⟩ (.bool false)) := by
        refine hd.out.1.set 3601 _ _ (by omega) (cell_tail 3601 _ (by omega) rfl rfl ?_)
        intro i hi
        rcases hi with rfl | rfl | rfl | rfl | rfl | rfl <;> rfl
      have hD : Hid (Done g { f1 with there := false, down := true } w ((w1.setCell ⟨g, 3601, none⟩ (.bool false)).setCell ⟨g, 3600, none⟩ (.bool true))) := by
        refine (hd.out.trans hD1).trans (hD1.1.set 3600 _ _ (by omega) (cell_tail 3600 _ (by omega) rfl rfl ?_))
        intro i hi
        rcases hi with rfl | rfl | rfl | rfl | rfl | rfl <;> rfl
      clear hd hD1
      go_wp2_with fail
      go_ret
      exact ⟨rfl, hD⟩
/-- byte a loses the bits that x has not -/
def Fl.put (f : Fl) (a : Nat) (x : UInt8) : Fl := { f with bs := fun i => if i = a then f.bs a &&& x else f.bs i }
def Fl.prog (f : Fl) (a : Nat) : List UInt8 → Fl × Int
  | [] => (f, 0)
  | x :: t => if f.stepB then (f.stepF.put a x).prog (a + 1) t else (f.stepF.put a (x ||| UInt8.ofNat (f.torn % 256).toNat), 11)
theorem Fl.cell_byte {f f' : Fl} (k : Nat) (hk : k < 3584) (hb : ∀ i, i ≠ k → f'.bs i = f.bs i) (h2 : f'.er = f.er) (h3 : f'.wear = f.wear) (h4 : f'.steps = f.steps) (h5 : f'.down = f.down) (h6 : f'.there = f.there) (h7 : f'.left = f.left) (h8 : f'.torn = f.torn) :
    ∀ i, i < 3604 → f'.cell i = if i = k then .int .u8 ((f'.bs k).toNat : Int) else f.cell i := by
  intro i _
  by_cases e : i = k
  · subst e; rw [if_pos rfl]; unfold Fl.cell; rw [if_pos hk]
  · rw [if_neg e]
    unfold Fl.cell
    rw [hb i e, h2, h3, h4, h5, h6, h7, h8]
theorem FlAt.put {W : World} {g : Nat} {f : Fl} (h : FlAt W g f) (a : Nat) (x : UInt8) (ha : a < 3584) : Done g (f.put a x) W (W.setCell ⟨g, a, none⟩ (.int .u8 ((f.bs a &&& x).toNat : Int))) := by
  refine h.set a _ _ (by omega) ?_
  have := Fl.cell_byte (f := f) (f' := f.put a x) a ha (fun i hi => by simp [Fl.put, hi]) rfl rfl rfl rfl rfl rfl rfl
  have e : (f.put a x).bs a = f.bs a &&& x := by simp [Fl.put]
  rwa [e] at this
theorem Fl.prog_drop {f fk : Fl} {a k : Nat} {l : List UInt8} (h : f.prog a l = fk.prog (a + k) (l.drop k)) (hk : k < l.length) (hs : fk.stepB = true) : f.prog a l = (fk.stepF.put (a + k) l[k]).prog (a + (k + 1)) (l.drop (k + 1)) := by
  rw [h, List.drop_eq_getElem_cons hk]
  show (if fk.stepB then _ else _) = _
  rw [if_pos hs]; rfl
theorem Fl.prog_torn {f fk : Fl} {a k : Nat} {l : List UInt8} (h : f.prog a l = fk.prog (a + k) (l.drop k)) (hk : k < l.length) (hs : fk.stepB = false) : f.prog a l = (fk.stepF.put (a + k) (l[k] ||| UInt8.ofNat (fk.torn % 256).toNat), 11) := by
  rw [h, List.drop_eq_getElem_cons hk]
  show (if fk.stepB then _ else _) = _
  rw [if_neg (by rw [hs]; decide)]
theorem Fl.stepF_steps (f : Fl) : f.stepF.steps = f.steps + 1 := by
  unfold Fl.stepF Fl.tick; split <;> (try split) <;> rfl
theorem Fl.stepF_torn (f : Fl) : f.stepF.torn = f.torn := by
  unfold Fl.stepF Fl.tick; split <;> (try split) <;> rfl
theorem Fl.stepF_left (f : Fl) (h : -9223372036854775808 ≤ f.left ∧ f.left ≤ 9223372036854775807) : -9223372036854775808 ≤ f.stepF.left ∧ f.stepF.left ≤ 9223372036854775807 := by
  unfold Fl.stepF Fl.tick; split
  · split
    · show -9223372036854775808 ≤ f.left - 1 ∧ f.left - 1 ≤ 9223372036854775807; omega
    · exact h
  · exact h
/-- what Program makes of it -/
def ProgOk (g : Nat) (r : Fl × Int) (w : World) (e : Ending) (w' : World) : Prop := e = .returned (.int .i64 r.2) ∧ Hid (Done g r.1 w w')
set_option maxHeartbeats 1600000 in
theorem prog_ok (g a B n cap : Nat) (A : Option Addr) (l : List UInt8) (f : Fl) (w : World) (hf : FlAt w g f) (hl : Row w B A n (bv l)) (hA : 0 < n → ∀ b o, A = some ⟨b, o, none⟩ → b ≠ g) (hB : B ≤ w.heap.size) (hd : f.down = false) (ha : a + n ≤ 3584)
    (h0 : -9223372036854775808 ≤ f.steps) (h1 : f.steps ≤ 9223372036854770000) (hle : -9223372036854775808 ≤ f.left ∧ f.left ≤ 9223372036854775807) :
    Calls Tryz.prog 105 #[.pointer (some ⟨g, 0, none⟩), .int .i64 (a : Int), .slice A n cap] w (ProgOk g (f.prog a l) w) := by
  have HM := Lib.hid (may_any g f a n 0 w hf (by omega) (mayE_yes hd ha))
  have HBL := Lib.hid hl.blen
  have HA := Lib.hid hA
  have HF := Lib.hid hf
  have HL := Lib.hid hl
  have HS0 := Lib.hid h0
  have HS1 := Lib.hid h1
  have HLE := Lib.hid hle
  clear hd hf hl hA h0 h1 hle
  go_enter Tryz.func105, Tryz.ntmps105
  go_wp2_with fail
  refine HM.out.mono ?_
  rintro e w' ⟨rfl, rfl⟩
  go_wp2_with fail
  go_loopw [20] (fun i wr => ∃ (k : Nat) (fk : Fl), k ≤ n ∧ i = .int .i64 k ∧ Hid (Done g fk w wr) ∧ Hid (f.prog a l = fk.prog (a + k) (l.drop k)) ∧ Hid (fk.steps = f.steps + k) ∧ Hid (-9223372036854775808 ≤ fk.left ∧ fk.left ≤ 9223372036854775807)) (fun i _ => n - (intOf i).toNat)
  case atStart => exact ⟨0, f, by omega, rfl, ⟨HF.out, ⟨rfl, rfl, rfl, Nat.le_refl _, fun _ _ _ => rfl⟩⟩, rfl, by show _ = _; omega, HLE.out⟩
  case round =>
    obtain ⟨k, fk, hk, rfl, hdn, hpr, hst, hlf⟩ := hrel
    by_cases hlt : k < n
    · have hrow := HL.out.apart HA.out hdn.out.2 hB
      obtain ⟨b, o, rfl, _, hkl, hcell⟩ := hrow.byteAt hlt
      have hstep := flstep_any g fk wr hdn.out.1 (by have := hst.out; have := HS0.out; omega) (by have := hst.out; have := HS1.out; omega) hlf.out.2
      have HSTEP := Lib.hid hstep
      clear hstep hrow
      cases hb : fk.stepB with
      | true =>
        have hnx := Lib.hid (Fl.prog_drop hpr.out hkl hb)
        rw [hb] at HSTEP
        have HST : Hid (fk.stepF.steps = f.steps + ((k + 1 : Nat) : Int)) := by show _ = _; rw [Fl.stepF_steps, hst.out]; omega
        have HLF := Lib.hid (Fl.stepF_left fk hlf.out)
        clear hb
        generalize l[k] = x at *
        generalize fk.stepF = f2 at *
        go_wp2_with fail
        refine HSTEP.out.mono ?_
        rintro e w2 ⟨rfl, hd2⟩
        have hcb := hd2.out.1.at_byte (i := a + k) (by omega)
        have hfz := hd2.out.1.frozen (a + k)
        have hput := Lib.hid (hd2.out.1.put (a + k) x (by omega))
        go_wp2_with fail
        go_region
        have HD : Hid (Done g (f2.put (a + k) x) w (w2.setCell ⟨g, a + k, none⟩ (.int .u8 (bits .and .u8 ((f2.bs (a + k)).toNat : Int) (x.toNat : Int)))).drew) := by
          rw [u8_and_nat _ _ (CrcM.b_lt _) (CrcM.b_lt _), ← UInt8.toNat_and]
          exact ((hdn.out.trans hd2.out).trans hput.out).drew
        clear hput hd2 hdn hcb hfz
        go_wp2_with fail
        go_roundw
        case rel => exact ⟨k + 1, _, by omega, by go_num, HD, hnx.out, HST, HLF⟩
        case measure => simp [intOf]; omega
      | false =>
        have hnx := Lib.hid (Fl.prog_torn hpr.out hkl hb)
        rw [hb] at HSTEP
        have HT : Hid (fk.stepF.torn = fk.torn) := Fl.stepF_torn fk
        clear hb
        generalize l[k] = x at *
        generalize fk.torn = tn at *
        generalize fk.stepF = f2 at *
        go_wp2_with fail
        refine HSTEP.out.mono ?_
        rintro e w2 ⟨rfl, hd2⟩
        have hcb := hd2.out.1.at_byte (i := a + k) (by omega)
        have hct := hd2.out.1.at_torn
        rw [HT.out] at hct
        have hfz := hd2.out.1.frozen (a + k)
        have hput := Lib.hid (hd2.out.1.put (a + k) (x ||| UInt8.ofNat (tn % 256).toNat) (by omega))
        go_wp2_with fail
        go_region
        have HD : Hid (Done g (f2.put (a + k) (x ||| UInt8.ofNat (tn % 256).toNat)) w (w2.setCell ⟨g, a + k, none⟩ (.int .u8 (bits .and .u8 ((f2.bs (a + k)).toNat : Int) (bits .or .u8 (x.toNat : Int) (tn % 256))))).drew) := by
          have e : tn % 256 = ((UInt8.ofNat (tn % 256).toNat).toNat : Int) := by rw [UInt8.toNat_ofNat']; omega
          generalize UInt8.ofNat (tn % 256).toNat = y at *
          rw [e, u8_or_nat _ _ (CrcM.b_lt _) (CrcM.b_lt _), ← UInt8.toNat_or, u8_and_nat _ _ (CrcM.b_lt _) (CrcM.b_lt _), ← UInt8.toNat_and]
          exact ((hdn.out.trans hd2.out).trans hput.out).drew
        clear hput hd2 hdn hcb hfz
        go_wp2_with fail
        go_ret
        refine ⟨?_, ?_⟩
        · rw [hnx.out]; rfl
        · rw [hnx.out]; exact HD
    · obtain rfl : n = k := by omega
      have HPR : Hid (f.prog a l = (fk, 0)) := by
        have h := hpr.out
        rw [List.drop_of_length_le (by have := HBL.out; omega)] at h
        exact h
      clear hpr
      go_wp2_with fail
      go_ret
      refine ⟨?_, ?_⟩
      · rw [HPR.out]; rfl
      · rw [HPR.out]; exact hdn
def allFF (l : List UInt8) : Bool := l.all fun x => x == 255
theorem allFF_no {l : List UInt8} {k : Nat} (hk : k < l.length) (h : l[k] ≠ 255) : allFF l = false := by
  unfold allFF
  rw [List.all_eq_false]
  exact ⟨l[k], List.getElem_mem hk, by simpa using h⟩
set_option maxHeartbeats 800000 in
theorem blank_ok (g a n : Nat) (f : Fl) (w : World) (hf : FlAt w g f) (hd : f.down = false) (h : a + n ≤ 3584) :
    Calls Tryz.prog 101 #[.pointer (some ⟨g, 0, none⟩), .int .i64 (a : Int), .int .i64 (n : Int)] w fun e w' => e = .returned (.bool (allFF (f.sub a n))) ∧ Hid (Below w.heap.size w w') := by
  have HR := Lib.hid (read_ok g a n f w hf hd h)
  have hsl := f.sub_length a n
  clear hf hd
  generalize f.sub a n = L at *
  have HSL := Lib.hid hsl
  clear hsl
  go_enter Tryz.func101, Tryz.ntmps101
  go_wp2_with fail
  refine HR.out.mono ?_
  rintro e w1 ⟨A1, n1, c1, rfl, hn1, hown, hb⟩
  obtain rfl : n1 = n := hn1.out.trans HSL.out
  have HRW := Lib.hid (Row.of_own hown.out)
  clear hown hn1
  go_wp2_with fail
  go_loop [22] (fun i => ∃ k : Nat, k ≤ n1 ∧ i = .int .i64 k ∧ Hid (∀ j (hj : j < L.length), j < k → L[j] = 255)) (fun i => n1 - (intOf i).toNat)
  case atStart => exact ⟨0, by omega, rfl, (show ∀ j (hj : j < L.length), j < 0 → L[j] = 255 from fun j _ hj => absurd hj (by omega))⟩
  case round =>
    obtain ⟨k, hk, rfl, hall⟩ := hrel
    by_cases hlt : k < n1
    · obtain ⟨b, o, rfl, _, hkl, hcell⟩ := HRW.out.byteAt hlt
      by_cases hx : L[k] = 255
      · have e6 : ((L[k].toNat : Int) != 255) = false := by rw [hx]; rfl
        have hall2 : Hid (∀ j (hj : j < L.length), j < k + 1 → L[j] = 255) := by
          intro j hj hjk
          by_cases e : j < k
          · exact hall.out j hj e
          · obtain rfl : j = k := by omega
            exact hx
        clear hx hall
        go_wp2_with fail
        go_round
        case rel => exact ⟨k + 1, by omega, by go_num, hall2⟩
        case measure => simp [intOf]; omega
      · have e6 : ((L[k].toNat : Int) != 255) = true := bne_iff_ne.2 fun e => hx (UInt8.toNat.inj (by rw [show L[k].toNat = 255 by omega]; rfl))
        have HNO := Lib.hid (allFF_no hkl hx)
        clear hx hall
        go_wp2_with fail
        go_ret
        exact ⟨by rw [HNO.out]; rfl, hb⟩
    · obtain rfl : n1 = k := by omega
      have HY : Hid (allFF L = true) := by
        show allFF L = true
        unfold allFF
        rw [List.all_eq_true]
        intro x hx
        obtain ⟨j, hj, rfl⟩ := List.getElem_of_mem hx
        have := hall.out j hj (by have := HSL.out; omega)
        simpa using this
      clear hall
      go_wp2_with fail
      go_ret
      exact ⟨by rw [HY.out]; rfl, hb⟩
theorem start_any (g : Nat) (f : Fl) (w : World) (hf : FlAt w g f) : Calls Tryz.prog 20 #[.pointer (some ⟨g, 0, none⟩)] w fun e w' => e = .returned (.tuple #[]) ∧ Hid (Done g { f with down := false } w w') := by
  have hc := hf.at_down
  have hz := hf.frozen 3600
  have HD := Lib.hid (hf.set 3600 (.bool false) { f with down := false } (by omega) (cell_tail 3600 _ (by omega) rfl rfl (by intro i hi; rcases hi with rfl | rfl | rfl | rfl | rfl | rfl <;> rfl)))
  clear hf
  go_enter Tryz.func20, Tryz.ntmps20
  go_wp2_with fail
  go_end0
  exact ⟨rfl, HD⟩
theorem fuse_any (g : Nat) (n t : Int) (f : Fl) (w : World) (hf : FlAt w g f) : Calls Tryz.prog 18 #[.pointer (some ⟨g, 0, none⟩), .int .i64 n, .int .i64 t] w fun e w' => e = .returned (.tuple #[]) ∧ Hid (Done g { f with there := decide (0 ≤ n), left := n, torn := t } w w') := by
  have hc1 := hf.at_there
  have hc2 := hf.at_left
  have hc3 := hf.at_torn
  have hz1 := hf.frozen 3601
  have hz2 := hf.frozen 3602
  have hz3 := hf.frozen 3603
  have h1 := hf.set 3601 (.bool (decide (0 ≤ n))) { f with there := decide (0 ≤ n) } (by omega) (cell_tail 3601 _ (by omega) rfl rfl (by intro i hi; rcases hi with rfl | rfl | rfl | rfl | rfl | rfl <;> rfl))
  have h2 := h1.1.set 3602 (.int .i64 n) { f with there := decide (0 ≤ n), left := n } (by omega) (cell_tail 3602 _ (by omega) rfl rfl (by intro i hi; rcases hi with rfl | rfl | rfl | rfl | rfl | rfl <;> rfl))
  have h3 := h2.1.set 3603 (.int .i64 t) { f with there := decide (0 ≤ n), left := n, torn := t } (by omega) (cell_tail 3603 _ (by omega) rfl rfl (by intro i hi; rcases hi with rfl | rfl | rfl | rfl | rfl | rfl <;> rfl))
  have HD := Lib.hid ((h1.trans h2).trans h3)
  clear hf h1 h2 h3
  go_enter Tryz.func18, Tryz.ntmps18
  go_wp2_with fail
  go_end0
  exact ⟨rfl, HD⟩
end Go.Proofs.YtoblapnnpjgpnaaGreatDoor
namespace Go.Proofs.YtoblapnnpjgpnaaGreatDoor
open Go.RowKit
theorem Done.ofDrewN {g k : Nat} {f : Fl} {w w' : World} (h : Done g f (w.drewN k) w') : Done g f w w' := ⟨h.1, ⟨h.2.os, h.2.tape, h.2.output, h.2.size, h.2.block⟩⟩
def Fl.wearUp (f : Fl) (s : Nat) : Fl := { f with er := fun i => if i = s then f.er s + 1 else f.er i }
def Fl.tornN (f : Fl) : Nat := (max f.torn 0 % 257).toNat
def Fl.erase (f : Fl) (s : Nat) : Fl × Int :=
  if f.wear ≤ f.er s then (f, 10) else if (f.wearUp s).stepB then ((f.wearUp s).stepF.fill (256 * s) 256, 0) else ((f.wearUp s).stepF.fill (256 * s) f.tornN, 11)
theorem Fl.tornN_le (f : Fl) : f.tornN ≤ 256 := by unfold Fl.tornN; omega
theorem FlAt.wearUp {W : World} {g : Nat} {f : Fl} (h : FlAt W g f) (s : Nat) (hs : s < 14) : Done g (f.wearUp s) W (W.setCell ⟨g, 3584 + s, none⟩ (.int .i64 (f.er s + 1))) := by
  refine h.set _ _ _ (by omega) fun i hi => ?_
  by_cases e : i = 3584 + s
  · subst e
    rw [if_pos rfl]
    unfold Fl.cell
    rw [if_neg (by omega), if_pos (by omega), Nat.add_sub_cancel_left]
    simp [Fl.wearUp]
  · rw [if_neg e]
    unfold Fl.cell
    by_cases h1 : i < 3584
    · rw [if_pos h1, if_pos h1]; rfl
    · rw [if_neg h1, if_neg h1]
      by_cases h2 : i < 3598
      · rw [if_pos h2, if_pos h2]
        simp [Fl.wearUp, show i - 3584 ≠ s by omega]
      · rw [if_neg h2, if_neg h2]; rfl
set_option maxRecDepth 100000 in
theorem slice_sector (g s : Nat) (hs : s < 14) (w : World) :
    (Instr.sliceAt 94 (.pointer (some ⟨g, 0, none⟩)) (some (.int .i64 ((s : Int) * 256))) (some (.int .i64 (((s : Int) + 1) * 256))) none).run Tryz.prog w = .ok (.slice (some ⟨g, 256 * s, none⟩) 256 (3584 - 256 * s)) w := by
  have hal : Tryz.prog.arrayLen 94 = 3584 := by kernel_rfl
  have hsz : (sizeOf (Tryz.prog.elem 94)).run Tryz.prog w = .ok 1 w := by kernel_rfl
  rw [run_sliceAt_array_lh (P := Tryz.prog) w 94 ⟨g, 0, none⟩ (by kernel_rfl) .i64 .i64 _ _ (by omega) (by omega) (by rw [hal]; omega), hal, hsz]
  have e1 : ((s : Int) * 256).toNat = 256 * s := by omega
  have e2 : (((s : Int) + 1) * 256).toNat = 256 * s + 256 := by omega
  simp only [Result.andThen_ok, slicedAt, e1, e2]
  rw [if_neg (by omega)]
  have e3 : (⟨g, 0, none⟩ : Addr).add (256 * s * 1) = ⟨g, 256 * s, none⟩ := by rw [plain_add]; congr 1; omega
  rw [e3, show 256 * s + 256 - 256 * s = 256 by omega]
set_option maxHeartbeats 1600000 in
theorem erase_ok (g s : Nat) (f : Fl) (w : World) (hf : FlAt w g f) (hd : f.down = false) (hs : s < 14) (he : 0 ≤ f.er s) (hwm : f.wear ≤ 9223372036854775807)
    (h0 : -9223372036854775808 ≤ f.steps) (h1 : f.steps < 9223372036854775807) (hle : f.left ≤ 9223372036854775807) :
    Calls Tryz.prog 102 #[.pointer (some ⟨g, 0, none⟩), .int .i64 (s : Int)] w (ProgOk g (f.erase s) w) := by
  have hc := hf.at_down
  rw [hd] at hc
  have hce := hf.at_er hs
  have hcw := hf.at_wear
  have hfz := hf.frozen (3584 + s)
  have hi0 : (0 : Int) ≤ (s : Int) := by omega
  have hi1 : (s : Int) < 14 := by omega
  have HF := Lib.hid hf
  by_cases hw : f.wear ≤ f.er s
  · have HE : Hid (f.erase s = (f, 10)) := by show _ = _; unfold Fl.erase; rw [if_pos hw]
    generalize f.er s = ers at *
    generalize f.wear = wr at *
    clear hf hd h0 h1 hle
    go_enter Tryz.func102, Tryz.ntmps102
    go_wp2_with fail
    go_quiet (fail)
    go_wp2_with fail
    go_ret
    refine ⟨?_, ?_⟩
    · rw [HE.out]; rfl
    · rw [HE.out]; exact ⟨HF.out, ⟨rfl, rfl, rfl, Nat.le_refl _, fun _ _ _ => rfl⟩⟩
  · have hup := Lib.hid (fun k => ((show FlAt (w.drewN k) g f from hf).wearUp s hs).ofDrewN)
    obtain ⟨f1, hf1⟩ : ∃ f1, f.wearUp s = f1 := ⟨_, rfl⟩
    have HE : Hid (f.erase s = if f1.stepB then (f1.stepF.fill (256 * s) 256, 0) else (f1.stepF.fill (256 * s) f.tornN, 11)) := by show _ = _; unfold Fl.erase; rw [if_neg hw, hf1]
    have HS : Hid (f1.steps = f.steps ∧ f1.left = f.left ∧ f1.torn = f.torn) := by rw [← hf1]; exact ⟨rfl, rfl, rfl⟩
    rw [hf1] at hup
    have hT := Lib.hid (Fl.tornN_le f)
    have HTN : Hid ((f.tornN : Int) = max f.torn 0 % 257) := by show _ = _; unfold Fl.tornN; omega
    have HST : Hid (∀ w', FlAt w' g f1 → Calls Tryz.prog 130 #[.pointer (some ⟨g, 0, none⟩)] w' fun e w'' => e = .returned (.bool f1.stepB) ∧ Hid (Done g f1.stepF w' w'')) := fun w' h => flstep_any g f1 w' h (by rw [HS.out.1]; exact h0) (by rw [HS.out.1]; exact h1) (by rw [HS.out.2.1]; exact hle)
    have htn := Fl.stepF_torn f1
    rw [HS.out.2.2] at htn
    have HTO := Lib.hid htn
    generalize f.er s = ers at *
    generalize f.wear = wr at *
    generalize f.tornN = tn at *
    generalize f.torn = tt at *
    have hsl := fun w' => slice_sector g s hs w'
    have hwr1 : IntKind.i64.wrap (ers + 1) = ers + 1 := IntWalk.i64_in _ ⟨by omega, by omega⟩
    clear hf hd h0 h1 hle htn hf1 hwm
    go_enter Tryz.func102, Tryz.ntmps102
    go_wp2_with fail
    go_quiet (fail)
    go_wp2_with fail
    go_region
    go_wp2_with fail
    refine (HST.out _ (hup.out _).1).mono ?_
    rintro e w2 ⟨rfl, hd2⟩
    have HD2 := Lib.hid ((hup.out _).trans hd2.out)
    clear hd2 hup HST hce hcw hfz hsl hwr1
    cases hb : f1.stepB with
    | true =>
      have HE2 : Hid (f.erase s = (f1.stepF.fill (256 * s) 256, 0)) := by show _ = _; rw [HE.out, if_pos hb]
      clear HE hb
      generalize f1.stepF = f2 at *
      go_wp2_with fail
      refine (fill_any g (256 * s) 256 _ f2 w2 HD2.out.1 (by omega)).mono ?_
      rintro e w3 ⟨rfl, hd3⟩
      have HD3 := Lib.hid (HD2.out.trans hd3.out)
      clear hd3
      go_wp2_with fail
      go_ret
      refine ⟨?_, ?_⟩
      · rw [HE2.out]; rfl
      · rw [HE2.out]; exact HD3
    | false =>
      have HE2 : Hid (f.erase s = (f1.stepF.fill (256 * s) tn, 11)) := by show _ = _; rw [HE.out, if_neg (by rw [hb]; decide)]
      clear HE hb
      generalize f1.stepF = f2 at *
      have hct := HD2.out.1.at_torn
      rw [HTO.out] at hct
      have hfill : ∀ m, tn = m → Calls Tryz.prog 39 #[.slice (some ⟨g, 256 * s, none⟩) m (3584 - 256 * s)] w2 fun e w' => e = .returned (.tuple #[]) ∧ Hid (Done g (f2.fill (256 * s) tn) w2 w') := by
        intro m hm
        rw [← hm]
        exact fill_any g (256 * s) tn _ f2 w2 HD2.out.1 (by have := hT.out; omega)
      have HFILL := Lib.hid hfill
      clear hfill
      by_cases ht0 : tt < 0
      · have h0 : tn = 0 := by have := HTN.out; omega
        have H0 := Lib.hid h0
        clear h0
        go_wp2_with fail
        refine (HFILL.out _ H0.out).mono ?_
        rintro e w3 ⟨rfl, hd3⟩
        have HD3 := Lib.hid (HD2.out.trans hd3.out)
        clear hd3
        go_wp2_with fail
        go_ret
        refine ⟨?_, ?_⟩
        · rw [HE2.out]; rfl
        · rw [HE2.out]; exact HD3
      · have ht1 : 0 ≤ tt := by omega
        have h0 : tn = (tt % 257).toNat := by have := HTN.out; omega
        have H0 := Lib.hid h0
        clear h0 ht0
        go_wp2_with fail
        refine (HFILL.out _ H0.out).mono ?_
        rintro e w3 ⟨rfl, hd3⟩
        have HD3 := Lib.hid (HD2.out.trans hd3.out)
        clear hd3
        go_wp2_with fail
        go_ret
        refine ⟨?_, ?_⟩
        · rw [HE2.out]; rfl
        · rw [HE2.out]; exact HD3
end Go.Proofs.YtoblapnnpjgpnaaGreatDoor
namespace Go.Proofs.YtoblapnnpjgpnaaGreatDoor
open Go.RowKit
section
variable {g a n B cap : Nat} {A : Option Addr} {l : List UInt8} {f : Fl} {w : World}
theorem prog_at (ai : Int) (hai : ai = (a : Int)) (hf : FlAt w g f) (hl : Row w B A n (bv l)) (hA : 0 < n → ∀ b o, A = some ⟨b, o, none⟩ → b ≠ g) (hB : B ≤ w.heap.size) (hd : f.down = false) (ha : a + n ≤ 3584)
    (h0 : -9223372036854775808 ≤ f.steps) (h1 : f.steps ≤ 9223372036854770000) (hle : -9223372036854775808 ≤ f.left ∧ f.left ≤ 9223372036854775807) :
    Calls Tryz.prog 105 #[.pointer (some ⟨g, 0, none⟩), .int .i64 ai, .slice A n cap] w (ProgOk g (f.prog a l) w) := by
  subst hai; exact prog_ok g a B n cap A l f w hf hl hA hB hd ha h0 h1 hle
theorem read_at (ai ni : Int) (hai : ai = (a : Int)) (hni : ni = (n : Int)) (hf : FlAt w g f) (hd : f.down = false) (h : a + n ≤ 3584) :
    Calls Tryz.prog 55 #[.pointer (some ⟨g, 0, none⟩), .int .i64 ai, .int .i64 ni] w (ReadOk (f.sub a n) w) := by
  subst hai hni; exact read_ok g a n f w hf hd h
theorem blank_at (ai ni : Int) (hai : ai = (a : Int)) (hni : ni = (n : Int)) (hf : FlAt w g f) (hd : f.down = false) (h : a + n ≤ 3584) :
    Calls Tryz.prog 101 #[.pointer (some ⟨g, 0, none⟩), .int .i64 ai, .int .i64 ni] w fun e w' => e = .returned (.bool (allFF (f.sub a n))) ∧ Hid (Below w.heap.size w w') := by
  subst hai hni; exact blank_ok g a n f w hf hd h
end
end Go.Proofs.YtoblapnnpjgpnaaGreatDoor
namespace Go.Proofs.YtoblapnnpjgpnaaGreatDoor
open Go.RowKit
theorem FCalls.at_ {W W' : World} {A : Option Addr} {n : Nat} {ys : List FCall} (h : FCalls W A n ys) (hb : Below W.heap.size W W') {k : Nat} (hk : k < n) :
    ∃ b o y, A = some ⟨b, o, none⟩ ∧ b < W.heap.size ∧ y ∈ ys ∧ ys[k]? = some y ∧ y.good W ∧ W'.cell? ⟨b, o + k * 4, none⟩ = some (.int .i64 y.d) ∧ W'.cell? ⟨b, o + k * 4 + 1, none⟩ = some (.int .i64 y.a) ∧ W'.cell? ⟨b, o + k * 4 + 2, none⟩ = some (.int .i64 y.n) ∧ W'.cell? ⟨b, o + k * 4 + 3, none⟩ = some (.slice y.A y.m y.c) := by
  obtain ⟨hl, hg, hc⟩ := h
  obtain ⟨b, o, e, hbl, hcell⟩ := hc (by omega)
  have hk' : k < ys.length := by omega
  have key : ∀ j v, (ys[k]).vals[j]? = some v → W'.cell? ⟨b, o + (k * 4 + j), none⟩ = some v := fun j v hv => (hb.cell (p := ⟨b, o + (k * 4 + j), none⟩) hbl).trans (hcell k hk' j v hv)
  exact ⟨b, o, ys[k], e, hbl, List.getElem_mem hk', List.getElem?_eq_getElem hk', hg _ (List.getElem_mem hk'), key 0 _ rfl, key 1 _ rfl, key 2 _ rfl, key 3 _ rfl⟩
end Go.Proofs.YtoblapnnpjgpnaaGreatDoor
namespace Go.Proofs.YtoblapnnpjgpnaaGreatDoor
open Go.RowKit
theorem Fl.stepF_bs (f : Fl) : f.stepF.bs = f.bs := by
  unfold Fl.stepF Fl.tick; split <;> (try split) <;> rfl
theorem Fl.stepF_er (f : Fl) : f.stepF.er = f.er := by
  unfold Fl.stepF Fl.tick; split <;> (try split) <;> rfl
theorem Fl.stepF_wear (f : Fl) : f.stepF.wear = f.wear := by
  unfold Fl.stepF Fl.tick; split <;> (try split) <;> rfl
def Fl.Ok (f : Fl) (k : Int) : Prop :=
  0 ≤ f.steps ∧ f.steps ≤ k ∧ (-9223372036854775808 ≤ f.left ∧ f.left ≤ 9223372036854775807) ∧ (∀ s, 0 ≤ f.er s) ∧ f.wear ≤ 10000
theorem Fl.Ok.more {f : Fl} {k j : Int} (h : f.Ok k) (hj : k ≤ j) : f.Ok j := ⟨h.1, by have := h.2.1; omega, h.2.2⟩
theorem Fl.Ok.step {f : Fl} {k : Int} (h : f.Ok k) : f.stepF.Ok (k + 1) := by
  obtain ⟨h1, h2, h3, h4, h5⟩ := h
  exact ⟨by rw [Fl.stepF_steps]; omega, by rw [Fl.stepF_steps]; omega, Fl.stepF_left f h3, by rw [Fl.stepF_er]; exact h4, by rw [Fl.stepF_wear]; exact h5⟩
theorem Fl.Ok.put {f : Fl} {k : Int} (h : f.Ok k) (a : Nat) (x : UInt8) : (f.put a x).Ok k := h
theorem Fl.Ok.fill {f : Fl} {k : Int} (h : f.Ok k) (a n : Nat) : (f.fill a n).Ok k := h
theorem Fl.Ok.prog (l : List UInt8) : ∀ {f : Fl} {k : Int} (_ : f.Ok k) (a : Nat), (f.prog a l).1.Ok (k + l.length) := by
  induction l with
  | nil => intro f k h a; exact h.more (by simp)
  | cons x t ih =>
    intro f k h a
    simp only [List.length_cons]
    cases hs : f.stepB with
    | true =>
      have e : f.prog a (x :: t) = (f.stepF.put a x).prog (a + 1) t := by
        show (if f.stepB then _ else _) = _
        rw [if_pos hs]
      rw [e]
      exact (ih (h.step.put a x) (a + 1)).more (by push_cast; omega)
    | false =>
      have e : f.prog a (x :: t) = (f.stepF.put a (x ||| UInt8.ofNat (f.torn % 256).toNat), 11) := by
        show (if f.stepB then _ else _) = _
        rw [if_neg (by rw [hs]; decide)]
      rw [e]
      exact (h.step.put a _).more (by push_cast; omega)
theorem Fl.Ok.wearUp {f : Fl} {k : Int} (h : f.Ok k) (s : Nat) : (f.wearUp s).Ok k := by
  obtain ⟨h1, h2, h3, h4, h5⟩ := h
  refine ⟨h1, h2, h3, fun i => ?_, h5⟩
  show 0 ≤ if i = s then f.er s + 1 else f.er i
  have := h4 s
  split
  · omega
  · exact h4 i
theorem Fl.Ok.erase {f : Fl} {k : Int} (h : f.Ok k) (s : Nat) : (f.erase s).1.Ok (k + 1) := by
  unfold Fl.erase
  split
  · exact h.more (by omega)
  · split
    · exact ((h.wearUp s).step).fill _ _
    · exact ((h.wearUp s).step).fill _ _
end Go.Proofs.YtoblapnnpjgpnaaGreatDoor
namespace Go.Proofs.YtoblapnnpjgpnaaGreatDoor
open Go.ChangeShapes Go.WideShapes Go.ChangeAt Go.RowKit
def bsAll (bs : Nat → UInt8) (a : Nat) (l : List UInt8) : Nat → UInt8 := fun i => if a ≤ i ∧ i < a + l.length then bs i &&& l.getD (i - a) 0 else bs i
def bsTorn (bs : Nat → UInt8) (a n : Nat) (l : List UInt8) (tb : UInt8) : Nat → UInt8 := fun i => if a ≤ i ∧ i < a + n then bs i &&& l.getD (i - a) 0 else if i = a + n then bs i &&& (l.getD n 0 ||| tb) else bs i
theorem bsAll_nil (bs : Nat → UInt8) (a : Nat) : bsAll bs a [] = bs := by
  funext i
  have h : ¬ (a ≤ i ∧ i < a + ([] : List UInt8).length) := by simp only [List.length_nil]; omega
  unfold bsAll; rw [if_neg h]
theorem bsAll_cons (bs : Nat → UInt8) (a : Nat) (x : UInt8) (t : List UInt8) : bsAll (fun i => if i = a then bs a &&& x else bs i) (a + 1) t = bsAll bs a (x :: t) := by
  funext i
  unfold bsAll
  simp only [List.length_cons]
  by_cases h1 : a + 1 ≤ i ∧ i < a + 1 + t.length
  · have e1 : ¬ i = a := by omega
    have e2 : a ≤ i ∧ i < a + (t.length + 1) := by omega
    rw [if_pos h1, if_neg e1, if_pos e2]
    obtain ⟨j, rfl⟩ : ∃ j, i = a + 1 + j := ⟨i - (a + 1), by omega⟩
    rw [show a + 1 + j - (a + 1) = j by omega, show a + 1 + j - a = j + 1 by omega]; rfl
  · rw [if_neg h1]
    by_cases h2 : i = a
    · subst h2
      have e2 : i ≤ i ∧ i < i + (t.length + 1) := by omega
      rw [if_pos rfl, if_pos e2]
      simp
    · have e2 : ¬ (a ≤ i ∧ i < a + (t.length + 1)) := by omega
      rw [if_neg h2, if_neg e2]
theorem bsTorn_zero (bs : Nat → UInt8) (a : Nat) (x tb : UInt8) (t : List UInt8) : (fun i => if i = a then bs a &&& (x ||| tb) else bs i) = bsTorn bs a 0 (x :: t) tb := by
  funext i
  unfold bsTorn
  have e2 : ¬ (a ≤ i ∧ i < a + 0) := by omega
  rw [if_neg e2]
  by_cases h : i = a
  · subst h; rw [if_pos rfl, if_pos (by omega)]; rfl
  · rw [if_neg h, if_neg (by omega)]
theorem bsTorn_cons (bs : Nat → UInt8) (a n : Nat) (x tb : UInt8) (t : List UInt8) : bsTorn (fun i => if i = a then bs a &&& x else bs i) (a + 1) n t tb = bsTorn bs a (n + 1) (x :: t) tb := by
  funext i
  unfold bsTorn
  dsimp only
  by_cases h1 : a + 1 ≤ i ∧ i < a + 1 + n
  · have e1 : ¬ i = a := by omega
    have e2 : a ≤ i ∧ i < a + (n + 1) := by omega
    rw [if_pos h1, if_neg e1, if_pos e2]
    obtain ⟨j, rfl⟩ : ∃ j, i = a + 1 + j := ⟨i - (a + 1), by omega⟩
    rw [show a + 1 + j - (a + 1) = j by omega, show a + 1 + j - a = j + 1 by omega]; rfl
  · rw [if_neg h1]
    by_cases h2 : i = a
    · subst h2
      have e2 : i ≤ i ∧ i < i + (n + 1) := by omega
      rw [if_neg (by omega), if_pos rfl, if_pos e2]
      simp
    · have e2 : ¬ (a ≤ i ∧ i < a + (n + 1)) := by omega
      rw [if_neg e2]
      by_cases h3 : i = a + 1 + n
      · subst h3
        rw [if_pos rfl, if_neg h2, if_pos (by omega)]; rfl
      · rw [if_neg h3, if_neg h2, if_neg (by omega)]
theorem u8_ff (x : UInt8) : (255 : UInt8) &&& x = x := by
  apply UInt8.toNat.inj
  rw [UInt8.toNat_and]
  have h := CrcM.b_lt x
  show 255 &&& x.toNat = x.toNat
  rw [Nat.and_comm, show (255 : Nat) = 2 ^ 8 - 1 from rfl, Nat.and_two_pow_sub_one_eq_mod]
  omega
end Go.Proofs.YtoblapnnpjgpnaaGreatDoor
namespace Go.Proofs.YtoblapnnpjgpnaaGreatDoor
open Go.RowKit
theorem Fl.prog_append (m : List UInt8) : ∀ (l : List UInt8) (f : Fl) (a : Nat), f.prog a (l ++ m) = if (f.prog a l).2 = 0 then (f.prog a l).1.prog (a + l.length) m else f.prog a l
  | [], f, a => by simp [Fl.prog]
  | x :: l, f, a => by
    cases hs : f.stepB with
    | true =>
      have e : ∀ t, f.prog a (x :: t) = (f.stepF.put a x).prog (a + 1) t := fun t => by
        show (if f.stepB then _ else _) = _
        rw [if_pos hs]
      rw [List.cons_append, e, e, Fl.prog_append m l, List.length_cons, show a + 1 + l.length = a + (l.length + 1) by omega]
    | false =>
      have e : ∀ t, f.prog a (x :: t) = (f.stepF.put a (x ||| UInt8.ofNat (f.torn % 256).toNat), 11) := fun t => by
        show (if f.stepB then _ else _) = _
        rw [if_neg (by rw [hs]; decide)]
      rw [List.cons_append, e, e, if_neg (show ¬ (11 : Int) = 0 by decide)]
/-- what stays in any step -/
structure Kept (f f' : Fl) : Prop where
  er : f'.er = f.er
  wear : f'.wear = f.wear
theorem prog_cases (l : List UInt8) : ∀ (f : Fl) (a : Nat),
    (∃ f', f.prog a l = (f', 0) ∧ f'.bs = bsAll f.bs a l ∧ Kept f f' ∧ f'.steps = f.steps + l.length ∧ f'.down = f.down ∧ (f.there = false → f'.there = false)) ∨
    (f.there = true ∧ ∃ f' k tb, k < l.length ∧ f.prog a l = (f', 11) ∧ f'.bs = bsTorn f.bs a k l tb ∧ Kept f f' ∧ f'.down = true ∧ f'.there = false) := by
  induction l with
  | nil => intro f a; exact .inl ⟨f, rfl, (bsAll_nil _ _).symm, ⟨rfl, rfl⟩, by simp, rfl, fun h => h⟩
  | cons x t ih =>
    intro f a
    cases hs : f.stepB with
    | true =>
      have e : f.prog a (x :: t) = (f.stepF.put a x).prog (a + 1) t := by
        show (if f.stepB then _ else _) = _
        rw [if_pos hs]
      have hbs : (f.stepF.put a x).bs = fun i => if i = a then f.bs a &&& x else f.bs i := by
        show (fun i => if i = a then f.stepF.bs a &&& x else f.stepF.bs i) = _
        rw [Fl.stepF_bs]
      have hd : (f.stepF.put a x).down = f.down := by
        show f.stepF.down = _
        unfold Fl.stepF
        unfold Fl.stepB at hs
        split
        · rename_i h
          rw [if_pos h] at hs
          rw [if_pos (by simpa using hs)]; rfl
        · rfl
      have ht : f.there = false → (f.stepF.put a x).there = false := by
        intro h
        show f.stepF.there = _
        unfold Fl.stepF
        rw [if_neg (by rw [h]; decide)]; exact h
      have hk : Kept f (f.stepF.put a x) := ⟨Fl.stepF_er f, Fl.stepF_wear f⟩
      have hst : (f.stepF.put a x).steps = f.steps + 1 := Fl.stepF_steps f
      rcases ih (f.stepF.put a x) (a + 1) with ⟨f', h1, h2, h3, h4, h5, h6⟩ | ⟨h0, f', k, tb, hkl, h1, h2, h3, h4, h5⟩
      · left
        refine ⟨f', e.trans h1, ?_, ⟨h3.er.trans hk.er, h3.wear.trans hk.wear⟩, ?_, h5.trans hd, fun h => h6 (ht h)⟩
        · rw [h2, hbs, bsAll_cons]
        · rw [h4, hst, List.length_cons]; push_cast; omega
      · right
        refine ⟨?_, f', k + 1, tb, by simp only [List.length_cons]; omega, e.trans h1, ?_, ⟨h3.er.trans hk.er, h3.wear.trans hk.wear⟩, h4, h5⟩
        · cases h : f.there with
          | true => rfl
          | false => rw [ht h] at h0; cases h0
        · rw [h2, hbs, bsTorn_cons]
    | false =>
      right
      have e : f.prog a (x :: t) = (f.stepF.put a (x ||| UInt8.ofNat (f.torn % 256).toNat), 11) := by
        show (if f.stepB then _ else _) = _
        rw [if_neg (by rw [hs]; decide)]
      have h0 : f.there = true := by
        unfold Fl.stepB at hs
        cases h : f.there with
        | true => rfl
        | false => rw [if_neg (by rw [h]; decide)] at hs; cases hs
      have hsf : f.stepF = { f.tick with there := false, down := true } := by
        unfold Fl.stepB at hs
        rw [if_pos h0] at hs
        unfold Fl.stepF
        rw [if_pos h0, if_neg (by simpa using hs)]
      refine ⟨h0, _, 0, UInt8.ofNat (f.torn % 256).toNat, by simp, e, ?_, ⟨Fl.stepF_er f, Fl.stepF_wear f⟩, ?_, ?_⟩
      · rw [← bsTorn_zero]
        show (fun i => if i = a then f.stepF.bs a &&& _ else f.stepF.bs i) = _
        rw [Fl.stepF_bs]
      · show f.stepF.down = true; rw [hsf]
      · show f.stepF.there = false; rw [hsf]
def erUp (e : Nat → Int) (s : Nat) : Nat → Int := fun i => if i = s then e s + 1 else e i
theorem erase_cases (f : Fl) (s : Nat) (hw : f.er s < f.wear) :
    (∃ f', f.erase s = (f', 0) ∧ f'.bs = (fun i => if 256 * s ≤ i ∧ i < 256 * s + 256 then 255 else f.bs i) ∧ f'.er = erUp f.er s ∧ f'.wear = f.wear ∧ f'.steps = f.steps + 1 ∧ f'.down = f.down ∧ (f.there = false → f'.there = false)) ∨
    (f.there = true ∧ ∃ f' t, t ≤ 256 ∧ f.erase s = (f', 11) ∧ f'.bs = (fun i => if 256 * s ≤ i ∧ i < 256 * s + t then 255 else f.bs i) ∧ f'.er = erUp f.er s ∧ f'.wear = f.wear ∧ f'.down = true ∧ f'.there = false) := by
  have hb : (f.wearUp s).stepF.bs = f.bs := by rw [Fl.stepF_bs]; rfl
  have he : (f.wearUp s).stepF.er = erUp f.er s := by rw [Fl.stepF_er]; rfl
  have hww : (f.wearUp s).stepF.wear = f.wear := by rw [Fl.stepF_wear]; rfl
  have hfill : ∀ n, ((f.wearUp s).stepF.fill (256 * s) n).bs = (fun i => if 256 * s ≤ i ∧ i < 256 * s + n then 255 else f.bs i) := by
    intro n
    show (fun i => if 256 * s ≤ i ∧ i < 256 * s + n then 255 else (f.wearUp s).stepF.bs i) = _
    rw [hb]
  cases hs : (f.wearUp s).stepB with
  | true =>
    left
    refine ⟨(f.wearUp s).stepF.fill (256 * s) 256, ?_, hfill 256, he, hww, ?_, ?_, ?_⟩
    · unfold Fl.erase; rw [if_neg (by omega), if_pos hs]
    · show (f.wearUp s).stepF.steps = _; rw [Fl.stepF_steps]; rfl
    · show (f.wearUp s).stepF.down = f.down
      unfold Fl.stepF
      unfold Fl.stepB at hs
      split
      · rename_i h
        rw [if_pos h] at hs
        rw [if_pos (by simpa using hs)]; rfl
      · rfl
    · intro h
      show (f.wearUp s).stepF.there = false
      unfold Fl.stepF
      rw [if_neg (by show ¬ f.there = true; rw [h]; decide)]; exact h
  | false =>
    right
    have h0 : f.there = true := by
      unfold Fl.stepB at hs
      cases h : f.there with
      | true => rfl
      | false => rw [if_neg (by show ¬ f.there = true; rw [h]; decide)] at hs; cases hs
    have hsf : (f.wearUp s).stepF = { (f.wearUp s).tick with there := false, down := true } := by
      unfold Fl.stepB at hs
      rw [if_pos (show (f.wearUp s).there = true from h0)] at hs
      unfold Fl.stepF
      rw [if_pos (show (f.wearUp s).there = true from h0), if_neg (by simpa using hs)]
    refine ⟨h0, (f.wearUp s).stepF.fill (256 * s) f.tornN, f.tornN, f.tornN_le, ?_, hfill _, he, hww, ?_, ?_⟩
    · unfold Fl.erase; rw [if_neg (by omega), if_neg (by rw [hs]; decide)]
    · show (f.wearUp s).stepF.down = true; rw [hsf]
    · show (f.wearUp s).stepF.there = false; rw [hsf]
theorem erase_down_same (f : Fl) (s : Nat) (h : (f.erase s).2 = 0) : (f.erase s).1.down = f.down := by
  by_cases hw : f.er s < f.wear
  · rcases erase_cases f s hw with ⟨f', e, _, _, _, _, d, _⟩ | ⟨_, f', t, _, e, _⟩
    · rw [e]; exact d
    · rw [e] at h; cases h
  · have e : f.erase s = (f, 10) := by unfold Fl.erase; rw [if_pos (by omega)]
    rw [e]
theorem prog_down_same (f : Fl) (a : Nat) (l : List UInt8) (h : (f.prog a l).2 = 0) : (f.prog a l).1.down = f.down := by
  rcases prog_cases l f a with ⟨f', e, _, _, _, d, _⟩ | ⟨_, f', k, tb, _, e, _⟩
  · rw [e]; exact d
  · rw [e] at h; cases h
theorem grown_of_below {w w1 w2 : World} {r : Option Nat} (h : Below w.heap.size w w1) (h2 : w1.grownBy w2 r) : w.grownBy w2 r :=
  ⟨h2.os.trans h.os, h2.tape.trans h.tape, h2.output.trans h.output, Nat.le_trans h.size h2.size, fun j hj hr => (h2.block j (Nat.lt_of_lt_of_le hj h.size) hr).trans (h.block j hj)⟩
theorem grown_of_alloc (w : World) (o : Obj) (r : Option Nat) : w.grownBy (w.alloc o) r :=
  ⟨rfl, rfl, rfl, by simp, fun j hj _ => heap_alloc_old w o hj⟩
end Go.Proofs.YtoblapnnpjgpnaaGreatDoor
