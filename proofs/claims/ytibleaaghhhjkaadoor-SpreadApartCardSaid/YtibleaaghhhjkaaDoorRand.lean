/- rand.mix, shift, New, Next, Below: by contracts. -/
import Derived.Test.YtibleaaghhhjkaaDoorRows
import Derived.Test.YtibleaaghhhjkaaDoorOwn
import Derived.Test.YtibleaaghhhjkaaDoorRandMath
import Derived.Laws.LoneSync
import Derived.BigQuiet
import Derived.Deep.QuietTactic
import Derived.Deep.RegionWith
import Derived.WalkSpells
import Derived.WalkLawsBesides
namespace Go.Proofs.YtibleaaghhhjkaaDoor
open Go.RowKit
open RdM
theorem mix_any (x : Int) (h0 : 0 ≤ x) (h1 : x ≤ 4294967295) (w : World) : Calls Tryd.prog 54 #[.int .u32 x] w fun e w' => e = .returned (.int .u32 (mx x)) ∧ w = w' := by
  go_enter Tryd.func54, Tryd.ntmps54
  go_wp2
  go_ret
  exact ⟨rfl, rfl⟩
theorem r1mix_any (x : Int) (h0 : 0 ≤ x) (h1 : x ≤ 4294967295) (w : World) : Calls Tryd.prog 64 #[.int .u32 x] w fun e w' => e = .returned (.int .u32 (mx x)) ∧ w = w' := by
  go_enter Tryd.func64, Tryd.ntmps64
  go_wp2
  go_ret
  exact ⟨rfl, rfl⟩
theorem shift_any (x : Int) (h0 : 0 ≤ x) (h1 : x ≤ 4294967295) (w : World) : Calls Tryd.prog 61 #[.int .u32 x] w fun e w' => e = .returned (.int .u32 (sh x)) ∧ w = w' := by
  by_cases hx : x = 0
  · subst hx
    go_enter Tryd.func61, Tryd.ntmps61
    go_wp2
    go_ret
    exact ⟨rfl, rfl⟩
  · go_enter Tryd.func61, Tryd.ntmps61
    go_wp2
    go_ret
    refine ⟨?_, rfl⟩
    unfold sh
    rw [if_neg hx]
    rfl
theorem aload_any (a : Addr) (x : Int) (w : World) (hc : w.cell? a = some (.int .u32 x)) : Calls Tryd.prog 62 #[.pointer (some a)] w fun e w' => e = .returned (.int .u32 x) ∧ w = w' := by
  have hl := run_call_load (P := Tryd.prog) Tryd.func75 (by kernel_rfl) (by kernel_rfl) (by kernel_rfl) .u32 (by kernel_rfl) hc
  go_enter Tryd.func62, Tryd.ntmps62
  go_wp2
  go_ret
  exact ⟨rfl, rfl⟩
theorem astore_any (g o : Nat) (u : Value) (x : Int) (w : World) (hc : w.cell? ⟨g, o, none⟩ = some u) (hf : w.frozen? ⟨g, o, none⟩ = false) : Calls Tryd.prog 53 #[.pointer (some ⟨g, o, none⟩), .int .u32 x] w fun e w' => e = .returned (.tuple #[]) ∧ w' = w.setCell ⟨g, o, none⟩ (.int .u32 x) := by
  have hl := run_call_store (P := Tryd.prog) (k := .u32) (y := x) Tryd.func69 (by kernel_rfl) (by kernel_rfl) (by kernel_rfl) (by kernel_rfl) hc hf
  go_enter Tryd.func53, Tryd.ntmps53
  go_wp2
  go_end0
  exact ⟨rfl, rfl⟩
/-- block g is a source in state x -/
def Src (w : World) (g : Nat) (x : Int) : Prop := w.heap[g]? = some (.cells #[.int .u32 x] 85 (0, 0)) ∧ 0 ≤ x ∧ x ≤ 4294967295
/-- below B, w' is as w was, but for block g -/
structure But (B g : Nat) (w w' : World) : Prop where
  os : w'.os = w.os
  tape : w'.tape = w.tape
  output : w'.output = w.output
  size : w.heap.size ≤ w'.heap.size
  block : ∀ k, k < B → k ≠ g → w'.heap[k]? = w.heap[k]?
section
variable {B B' g : Nat} {w w' w'' : World}
theorem But.refl (B g : Nat) (w : World) : But B g w w := ⟨rfl, rfl, rfl, Nat.le_refl _, fun _ _ _ => rfl⟩
theorem But.trans (h : But B g w w') (k : But B g w' w'') : But B g w w'' := ⟨k.os.trans h.os, k.tape.trans h.tape, k.output.trans h.output, Nat.le_trans h.size k.size, fun i hi hg => (k.block i hi hg).trans (h.block i hi hg)⟩
theorem But.mono (h : But B g w w') (hB : B' ≤ B) : But B' g w w' := ⟨h.os, h.tape, h.output, h.size, fun k hk hg => h.block k (by omega) hg⟩
theorem But.of_below (h : Below B w w') : But B g w w' := ⟨h.os, h.tape, h.output, h.size, fun k hk _ => h.block k hk⟩
theorem But.below (h : But B g w w') (hB : B' ≤ g) (hB2 : B' ≤ B) : Below B' w w' := ⟨h.os, h.tape, h.output, h.size, fun k hk => h.block k (by omega) (by omega)⟩
theorem But.setSelf (h : But B g w w') (o : Nat) (v : Value) : But B g w (w'.setCell ⟨g, o, none⟩ v) :=
  ⟨h.os, h.tape, h.output, by simpa using h.size, fun k hk hg => (Below.heap_setCell w' ⟨g, o, none⟩ v k hg).trans (h.block k hk hg)⟩
theorem But.other {g' : Nat} {x : Int} (h : But B g w w') (hs : Src w g' x) (hg : g' ≠ g) (hB : g' < B) : Src w' g' x := ⟨(h.block g' hB hg).trans hs.1, hs.2⟩
theorem Src.cell {x : Int} (h : Src w g x) : w.cell? ⟨g, 0, none⟩ = some (.int .u32 x) := by rw [cell_of_row w g 0 _ _ _ h.1]; rfl
theorem Src.frozen {x : Int} (h : Src w g x) : w.frozen? ⟨g, 0, none⟩ = false := frozen_of_row w g 0 _ _ h.1
theorem Src.set {x y : Int} (h : Src w g x) (h0 : 0 ≤ y) (h1 : y ≤ 4294967295) : Src (w.setCell ⟨g, 0, none⟩ (.int .u32 y)) g y := ⟨by rw [heap_setCell_same w g 0 _ _ _ h.1]; rfl, h0, h1⟩
theorem Src.lt {x : Int} (h : Src w g x) : g < w.heap.size := (Array.getElem?_eq_some_iff.1 h.1).1
theorem Src.below {x : Int} (h : Src w g x) (hb : Below B w w') (hB : g < B) : Src w' g x := ⟨(hb.block g hB).trans h.1, h.2⟩
theorem own_but {base e n c : Nat} {A : Option Addr} {xs : List Value} (h : w.ownsRow base e 1 (.slice A n c) n xs) (hb : But w.heap.size g w w') (hg : g < base) : w'.ownsRow base e 1 (.slice A n c) n xs := by
  refine ⟨h.1, ?_⟩
  rcases h.2 with h0 | ⟨g', cap, cur, hv, hbg, hg', r⟩
  · exact .inl h0
  · exact .inr ⟨g', cap, cur, hv, hbg, by rw [hb.block g' (Array.getElem?_eq_some_iff.1 hg').1 (by omega)]; exact hg', r⟩
theorem Row.but {n : Nat} {A : Option Addr} {xs : List Value} (h : Row w B A n xs) (hb : But B g w w') (hg : ∀ b o, A = some ⟨b, o, none⟩ → 0 < n → b ≠ g) : Row w' B A n xs :=
  ⟨h.1, fun hn => by
    obtain ⟨b, o, e, hlt, hc⟩ := h.2 hn
    exact ⟨b, o, e, hlt, fun j u hu => (World.cell?_of_block (w := w) (a := ⟨b, o + j, none⟩) (hb.block b hlt (hg b o e hn))).trans (hc j u hu)⟩⟩
end
/-- a source's first state -/
def seed (a b : Int) : Int := (mx a + b * 2654435769 + 1) % 4294967296
theorem seed_wrap (a b : Int) : IntKind.u32.wrap (IntKind.u32.wrap (mx a + IntKind.u32.wrap (b * 2654435769)) + 1) = seed a b := by
  unfold seed
  simp only [IntKind.wrap_u32']
  omega
theorem seed_bounds (a b : Int) : 0 ≤ seed a b ∧ seed a b ≤ 4294967295 := by unfold seed; omega
def NewOk (a b : Int) (w : World) (e : Ending) (w' : World) : Prop := e = .returned (.pointer (some ⟨w.heap.size, 0, none⟩)) ∧ Src w' w.heap.size (seed a b) ∧ Below w.heap.size w w' ∧ w'.heap.size = w.heap.size + 1
set_option maxHeartbeats 800000 in
theorem new_any (a b : Int) (ha0 : 0 ≤ a) (ha1 : a ≤ 4294967295) (hb0 : 0 ≤ b) (hb1 : b ≤ 4294967295) (w : World) : Calls Tryd.prog 25 #[.int .u32 a, .int .u32 b] w (NewOk a b w) := by
  obtain ⟨hm0, hm1⟩ := mx_bounds a
  have hs0 : Src (w.alloc (.cells #[.int .u32 0] 85)).drew w.heap.size 0 := ⟨heap_alloc_new w _, by omega, by omega⟩
  have HS := Lib.hid hs0
  have hb : Below w.heap.size w (w.alloc (.cells #[.int .u32 0] 85)).drew := ((Below.refl _ _).alloc (Nat.le_refl _) _).drew
  have HW := Lib.hid (seed_wrap a b)
  have HSB := Lib.hid (seed_bounds a b)
  clear hs0
  go_enter Tryd.func25, Tryd.ntmps25
  go_wp2_with fail
  go_region_with (first | (go_at_call 54; refine (mix_any a ha0 ha1 _).mono ?_; rintro e w' ⟨rfl, rfl⟩) | (go_at_call 53; refine (astore_any _ _ _ _ _ HS.out.cell HS.out.frozen).mono ?_; rintro e w' ⟨rfl, rfl⟩))
  all_goals
    rw [HW.out]
    go_wp2_with fail
    go_ret
    exact ⟨rfl, ⟨heap_alloc_new w _, HSB.out⟩, ((Below.refl _ _).alloc (Nat.le_refl _) _).drew, by simp⟩
def r1Src (w : World) (g : Nat) (x : Int) : Prop := w.heap[g]? = some (.cells #[.int .u32 x] 104 (0, 0))
theorem r1new_any (a b : Int) (ha0 : 0 ≤ a) (ha1 : a ≤ 4294967295) (hb0 : 0 ≤ b) (hb1 : b ≤ 4294967295) (w : World) : Calls Tryd.prog 40 #[.int .u32 a, .int .u32 b] w fun e w' => e = .returned (.pointer (some ⟨w.heap.size, 0, none⟩)) ∧ w' = w.alloc (.cells #[.int .u32 (seed a b)] 104) := by
  obtain ⟨hm0, hm1⟩ := mx_bounds a
  go_enter Tryd.func40, Tryd.ntmps40
  go_wp2_with (go_at_call 64; refine (r1mix_any a ha0 ha1 _).mono ?_; rintro e w' ⟨rfl, rfl⟩)
  go_ret
  exact ⟨rfl, by unfold seed; rfl⟩
theorem next_nil (w : World) : Calls Tryd.prog 29 #[.pointer none] w fun e w' => e = .returned (.int .u32 0) ∧ w = w' := by
  go_enter Tryd.func29, Tryd.ntmps29
  go_wp2
  go_ret
  exact ⟨rfl, rfl⟩
theorem next_set (g : Nat) (x : Int) (w : World) (hs : Src w g x) : Calls Tryd.prog 29 #[.pointer (some ⟨g, 0, none⟩)] w fun e w' => e = .returned (.int .u32 (mx (sh x))) ∧ w' = w.setCell ⟨g, 0, none⟩ (.int .u32 (sh x)) := by
  have HS := Lib.hid hs
  obtain ⟨_, h0, h1⟩ := hs
  obtain ⟨hb0, hb1⟩ := sh_bounds x
  go_enter Tryd.func29, Tryd.ntmps29
  go_wp2_with (first | (go_at_call 62; refine (aload_any _ x _ HS.out.cell).mono ?_; rintro e w' ⟨rfl, rfl⟩) | (go_at_call 61; refine (shift_any x h0 h1 _).mono ?_; rintro e w' ⟨rfl, rfl⟩) | (go_at_call 53; refine (astore_any _ _ _ _ _ HS.out.cell HS.out.frozen).mono ?_; rintro e w' ⟨rfl, rfl⟩) | (go_at_call 54; refine (mix_any _ hb0 hb1 _).mono ?_; rintro e w' ⟨rfl, rfl⟩))
  go_ret
  exact ⟨rfl, rfl⟩
def NextOk (g : Nat) (x : Int) (w : World) (v : Value) (e : Ending) (w' : World) : Prop := e = .returned v ∧ Src w' g (sh x) ∧ But w.heap.size g w w' ∧ w'.heap.size = w.heap.size
theorem next_any (g : Nat) (x : Int) (w : World) (hs : Src w g x) : Calls Tryd.prog 29 #[.pointer (some ⟨g, 0, none⟩)] w (NextOk g x w (.int .u32 (mx (sh x)))) := by
  refine (next_set g x w hs).mono ?_
  rintro e w' ⟨rfl, rfl⟩
  exact ⟨rfl, hs.set (sh_bounds x).1 (sh_bounds x).2, (But.refl _ _ _).setSelf 0 _, by simp⟩
theorem below_nil (n : Int) (w : World) : Calls Tryd.prog 55 #[.pointer none, .int .i64 n] w fun e w' => e = .returned (.int .i64 0) ∧ w = w' := by
  go_enter Tryd.func55, Tryd.ntmps55
  go_wp2
  go_ret
  exact ⟨rfl, rfl⟩
theorem below_out (g : Nat) (n : Int) (w : World) (h : n < 1 ∨ 2147483648 < n) : Calls Tryd.prog 55 #[.pointer (some ⟨g, 0, none⟩), .int .i64 n] w fun e w' => e = .returned (.int .i64 0) ∧ w = w' := by
  by_cases h1 : n < 1
  · go_enter Tryd.func55, Tryd.ntmps55
    go_wp2
    go_ret
    exact ⟨rfl, rfl⟩
  · have h2 : 2147483648 < n := by omega
    go_enter Tryd.func55, Tryd.ntmps55
    go_wp2
    go_ret
    exact ⟨rfl, rfl⟩
theorem below_any (g : Nat) (x n : Int) (w : World) (hs : Src w g x) (h1 : 1 ≤ n) (h2 : n ≤ 2147483648) : Calls Tryd.prog 55 #[.pointer (some ⟨g, 0, none⟩), .int .i64 n] w (NextOk g x w (.int .i64 (bl x n))) := by
  obtain ⟨hy0, hy1⟩ := mx_bounds (sh x)
  obtain ⟨a0, a1, a2, a3⟩ := mul_bounds _ n hy0 hy1 h1 h2
  have HB : Hid (mx (sh x) * n / 4294967296 = bl x n) := rfl
  have hn := Lib.hid (next_any g x w hs)
  clear hs
  go_enter Tryd.func55, Tryd.ntmps55
  go_wp2_with fail
  refine hn.out.mono ?_
  rintro e w' ⟨rfl, hs', hb', hz'⟩
  generalize mx (sh x) = y at *
  go_wp2_with fail
  go_ret
  refine ⟨?_, hs', hb', hz'⟩
  rw [← HB.out]
  rfl
end Go.Proofs.YtibleaaghhhjkaaDoor
