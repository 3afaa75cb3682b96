/- Numbers by chance: plain facts. -/
import Derived.WalkKit
import Derived.OpenShut
import Derived.Laws.LoneSync
import Derived.BigQuiet
import Derived.Deep.QuietTactic
import Derived.Deep.RegionWith
import Derived.WalkSpells
import Derived.WalkLawsBesides
import Derived.Sort.OwnSortedInts
import Derived.BigRegion
import Derived.Deep.DeepCutAuto
import Derived.Defers
import Derived.RegionCalls
import Derived.ChangeAlike
import Derived.Test.YtmncpgfdpcckpaaGreatDoorRows
import Derived.Test.YtmncpgfdpcckpaaGreatDoorZAQN
import Derived.Test.YtmncpgfdpcckpaaGreatDoorShelf
set_option maxRecDepth 100000
namespace Go.Proofs.YtmncpgfdpcckpaaGreatDoor
open Go.RowKit
namespace RdM
def sh (x : Int) : Int :=
 let y := if x = 0 then 1 else x
 let a := bits .xor .u32 y (y * 8192 % 4294967296)
 let b := bits .xor .u32 a (a / 131072)
 bits .xor .u32 b (b * 32 % 4294967296)
def mx (x : Int) : Int :=
 let a := bits .xor .u32 x (x / 65536)
 let b := a * 2146121005 % 4294967296
 let c := bits .xor .u32 b (b / 32768)
 let d := c * 2221713035 % 4294967296
 bits .xor .u32 d (d / 65536)
theorem xor_bounds (a b : Int) : 0 ≤ bits .xor .u32 a b ∧ bits .xor .u32 a b ≤ 4294967295 := by
 have h := wf_bits .xor .u32 a b
 simpa [Lit.wf, IntKind.min, IntKind.max, IntKind.signed, IntKind.bits] using h
theorem sh_bounds (x : Int) : 0 ≤ sh x ∧ sh x ≤ 4294967295 := xor_bounds _ _
theorem mx_bounds (x : Int) : 0 ≤ mx x ∧ mx x ≤ 4294967295 := xor_bounds _ _
def bl (x n : Int) : Int := mx (sh x) * n / 4294967296
theorem mul_bounds (y n : Int) (h0 : 0 ≤ y) (h1 : y ≤ 4294967295) (h2 : 1 ≤ n) (h3 : n ≤ 2147483648) : 0 ≤ y * n ∧ y * n ≤ 9223372034707292160 ∧ 0 ≤ y * n / 4294967296 ∧ y * n / 4294967296 < n := by
 have a0 : 0 ≤ y * n := Int.mul_nonneg h0 (by omega)
 have a1 : y * n ≤ 4294967295 * n := Int.mul_le_mul_of_nonneg_right h1 (by omega)
 refine ⟨a0, by omega, by omega, by omega⟩
theorem bl_bounds (x n : Int) (h2 : 1 ≤ n) (h3 : n ≤ 2147483648) : 0 ≤ bl x n ∧ bl x n < n := by
 obtain ⟨h0, h1⟩ := mx_bounds (sh x)
 obtain ⟨_, _, h4, h5⟩ := mul_bounds _ n h0 h1 h2 h3
 exact ⟨h4, h5⟩
def shk (x : Int) : Nat → Int
 | 0 => x
 | k + 1 => sh (shk x k)
def swapL (p : List Int) (i j : Nat) : List Int := (p.set i (p.getD j 0)).set j (p.getD i 0)
theorem swapL_length (p : List Int) (i j : Nat) : (swapL p i j).length = p.length := by simp [swapL]
theorem swap_perm (p : List Int) (i j : Nat) (hi : i < p.length) (hj : j < p.length) : (swapL p i j).Perm p := by
 have e : swapL p i j = (p.set i p[j]).set j p[i] := by simp [swapL, List.getD, hi, hj]
 rw [e]
 exact List.set_set_perm hi hj
def ids (n : Nat) : List Int := (List.range n).map fun (j : Nat) => (j : Int)
theorem ids_length (n : Nat) : (ids n).length = n := by simp [ids]
def go (n : Nat) (x : Int) : Nat → List Int
 | 0 => ids n
 | i + 1 => swapL (go n x i) i (i + (bl (shk x i) ((n : Int) - i)).toNat)
theorem go_length (n : Nat) (x : Int) (i : Nat) : (go n x i).length = n := by
 induction i with
 | zero => exact ids_length n
 | succ i ih => show (swapL _ _ _).length = n; rw [swapL_length, ih]
theorem go_perm (n : Nat) (hn : n ≤ 2147483648) (x : Int) (i : Nat) (hi : i ≤ n) : (go n x i).Perm (ids n) := by
 induction i with
 | zero => exact List.Perm.refl _
 | succ i ih =>
  have hb := bl_bounds (shk x i) ((n : Int) - i) (by omega) (by omega)
  exact (swap_perm _ _ _ (by rw [go_length]; omega) (by rw [go_length]; omega)).trans (ih (by omega))
def some_ (n : Nat) (x : Int) (k : Nat) : List Int := ((go n x k).take k).mergeSort fun a b => decide (a ≤ b)
theorem some_length (n : Nat) (x : Int) (k : Nat) (h : k ≤ n) : (some_ n x k).length = k := by
 simp [some_, List.length_mergeSort, go_length]; omega
theorem nodup_ne {α : Type} {l : List α} : l.Nodup ↔ l.Pairwise fun a b => a ≠ b := Iff.rfl
theorem ids_nodup (n : Nat) : (ids n).Nodup := by
 unfold ids
 rw [nodup_ne, List.pairwise_map]
 exact (nodup_ne.1 List.nodup_range).imp (by intro a b h; omega)
theorem some_sub (n : Nat) (hn : n ≤ 2147483648) (x : Int) (k : Nat) (h : k ≤ n) : (some_ n x k).Nodup ∧ ∀ a ∈ some_ n x k, 0 ≤ a ∧ a < n := by
 have hp : (some_ n x k).Perm ((go n x k).take k) := List.mergeSort_perm _ _
 have hsub : ((go n x k).take k).Sublist (go n x k) := List.take_sublist _ _
 have hg := go_perm n hn x k h
 constructor
 ·exact hp.nodup_iff.2 ((hg.nodup_iff.2 (ids_nodup n)).sublist hsub)
 ·intro a ha
  have := hg.mem_iff.1 (hsub.mem (hp.mem_iff.1 ha))
  simp only [ids, List.mem_map, List.mem_range] at this
  obtain ⟨j, hj, rfl⟩ := this
  omega
end RdM
end Go.Proofs.YtmncpgfdpcckpaaGreatDoor
namespace Go.Proofs.YtmncpgfdpcckpaaGreatDoor
open Go.RowKit
open RdM
theorem mix_any (x : Int) (h0 : 0 ≤ x) (h1 : x ≤ 4294967295) (w : World) : Calls Tryz.prog 140 #[.int .u32 x] w fun e w' => e = .returned (.int .u32 (mx x)) ∧ w = w' := by
 go_enter Tryz.func140, Tryz.ntmps140
 go_wp2
 go_ret
 exact ⟨rfl, rfl⟩
theorem r1mix_any (x : Int) (h0 : 0 ≤ x) (h1 : x ≤ 4294967295) (w : World) : Calls Tryz.prog 151 #[.int .u32 x] w fun e w' => e = .returned (.int .u32 (mx x)) ∧ w = w' := by
 go_enter Tryz.func151, Tryz.ntmps151
 go_wp2
 go_ret
 exact ⟨rfl, rfl⟩
theorem shift_any (x : Int) (h0 : 0 ≤ x) (h1 : x ≤ 4294967295) (w : World) : Calls Tryz.prog 146 #[.int .u32 x] w fun e w' => e = .returned (.int .u32 (sh x)) ∧ w = w' := by
 by_cases hx : x = 0
 ·subst hx
  go_enter Tryz.func146, Tryz.ntmps146
  go_wp2
  go_ret
  exact ⟨rfl, rfl⟩
 ·go_enter Tryz.func146, Tryz.ntmps146
  go_wp2
  go_ret
  refine ⟨?_, rfl⟩
  unfold sh
  rw [if_neg hx]
  rfl
theorem aload_any (a : Addr) (x : Int) (w : World) (hc : w.cell? a = some (.int .u32 x)) : Calls Tryz.prog 147 #[.pointer (some a)] w fun e w' => e = .returned (.int .u32 x) ∧ w = w' := by
 have hl := run_call_load (P := Tryz.prog) Tryz.func159 (by kernel_rfl) (by kernel_rfl) (by kernel_rfl) .u32 (by kernel_rfl) hc
 go_enter Tryz.func147, Tryz.ntmps147
 go_wp2
 go_ret
 exact ⟨rfl, rfl⟩
theorem astore_any (g o : Nat) (u : Value) (x : Int) (w : World) (hc : w.cell? ⟨g, o, none⟩ = some u) (hf : w.frozen? ⟨g, o, none⟩ = false) : Calls Tryz.prog 139 #[.pointer (some ⟨g, o, none⟩), .int .u32 x] w fun e w' => e = .returned (.tuple #[]) ∧ w' = w.setCell ⟨g, o, none⟩ (.int .u32 x) := by
 have hl := run_call_store (P := Tryz.prog) (k := .u32) (y := x) Tryz.func155 (by kernel_rfl) (by kernel_rfl) (by kernel_rfl) (by kernel_rfl) hc hf
 go_enter Tryz.func139, Tryz.ntmps139
 go_wp2
 go_end0
 exact ⟨rfl, rfl⟩
def Src (w : World) (g : Nat) (x : Int) : Prop := w.heap[g]? = some (.cells #[.int .u32 x] 196 (0, 0)) ∧ 0 ≤ x ∧ x ≤ 4294967295
structure But (B g : Nat) (w w' : World) : Prop where
 os : w'.os = w.os
 tape : w'.tape = w.tape
 output : w'.output = w.output
 size : w.heap.size ≤ w'.heap.size
 block : ∀ k, k < B → k ≠ g → w'.heap[k]? = w.heap[k]?
section
variable {B B' g : Nat} {w w' w'' : World}
theorem But.refl (B g : Nat) (w : World) : But B g w w := ⟨rfl, rfl, rfl, Nat.le_refl _, fun _ _ _ => rfl⟩
theorem But.trans (h : But B g w w') (k : But B g w' w'') : But B g w w'' := ⟨k.os.trans h.os, k.tape.trans h.tape, k.output.trans h.output, Nat.le_trans h.size k.size, fun i hi hg => (k.block i hi hg).trans (h.block i hi hg)⟩
theorem But.mono (h : But B g w w') (hB : B' ≤ B) : But B' g w w' := ⟨h.os, h.tape, h.output, h.size, fun k hk hg => h.block k (by omega) hg⟩
theorem But.of_below (h : Below B w w') : But B g w w' := ⟨h.os, h.tape, h.output, h.size, fun k hk _ => h.block k hk⟩
theorem But.below (h : But B g w w') (hB : B' ≤ g) (hB2 : B' ≤ B) : Below B' w w' := ⟨h.os, h.tape, h.output, h.size, fun k hk => h.block k (by omega) (by omega)⟩
theorem But.setSelf (h : But B g w w') (o : Nat) (v : Value) : But B g w (w'.setCell ⟨g, o, none⟩ v) :=
 ⟨h.os, h.tape, h.output, by simpa using h.size, fun k hk hg => (Below.heap_setCell w' ⟨g, o, none⟩ v k hg).trans (h.block k hk hg)⟩
theorem But.other {g' : Nat} {x : Int} (h : But B g w w') (hs : Src w g' x) (hg : g' ≠ g) (hB : g' < B) : Src w' g' x := ⟨(h.block g' hB hg).trans hs.1, hs.2⟩
theorem Src.cell {x : Int} (h : Src w g x) : w.cell? ⟨g, 0, none⟩ = some (.int .u32 x) := by rw [cell_of_row w g 0 _ _ _ h.1]; rfl
theorem Src.frozen {x : Int} (h : Src w g x) : w.frozen? ⟨g, 0, none⟩ = false := frozen_of_row w g 0 _ _ h.1
theorem Src.set {x y : Int} (h : Src w g x) (h0 : 0 ≤ y) (h1 : y ≤ 4294967295) : Src (w.setCell ⟨g, 0, none⟩ (.int .u32 y)) g y := ⟨by rw [heap_setCell_same w g 0 _ _ _ h.1]; rfl, h0, h1⟩
theorem Src.lt {x : Int} (h : Src w g x) : g < w.heap.size := (Array.getElem?_eq_some_iff.1 h.1).1
theorem Src.below {x : Int} (h : Src w g x) (hb : Below B w w') (hB : g < B) : Src w' g x := ⟨(hb.block g hB).trans h.1, h.2⟩
theorem own_but {base e n c : Nat} {A : Option Addr} {xs : List Value} (h : w.ownsRow base e 1 (.slice A n c) n xs) (hb : But w.heap.size g w w') (hg : g < base) : w'.ownsRow base e 1 (.slice A n c) n xs := by
 refine ⟨h.1, ?_⟩
 rcases h.2 with h0 | ⟨g', cap, cur, hv, hbg, hg', r⟩
 ·exact .inl h0
 ·exact .inr ⟨g', cap, cur, hv, hbg, by rw [hb.block g' (Array.getElem?_eq_some_iff.1 hg').1 (by omega)]; exact hg', r⟩
theorem Row.but {n : Nat} {A : Option Addr} {xs : List Value} (h : Row w B A n xs) (hb : But B g w w') (hg : ∀ b o, A = some ⟨b, o, none⟩ → 0 < n → b ≠ g) : Row w' B A n xs :=
 ⟨h.1, fun hn => by
  obtain ⟨b, o, e, hlt, hc⟩ := h.2 hn
  exact ⟨b, o, e, hlt, fun j u hu => (World.cell?_of_block (w := w) (a := ⟨b, o + j, none⟩) (hb.block b hlt (hg b o e hn))).trans (hc j u hu)⟩⟩
end
def seed (a b : Int) : Int := (mx a + b * 2654435769 + 1) % 4294967296
theorem seed_wrap (a b : Int) : IntKind.u32.wrap (IntKind.u32.wrap (mx a + IntKind.u32.wrap (b * 2654435769)) + 1) = seed a b := by
 unfold seed
 simp only [IntKind.wrap_u32']
 omega
theorem seed_bounds (a b : Int) : 0 ≤ seed a b ∧ seed a b ≤ 4294967295 := by unfold seed; omega
def RandNewOk (a b : Int) (w : World) (e : Ending) (w' : World) : Prop := e = .returned (.pointer (some ⟨w.heap.size, 0, none⟩)) ∧ Src w' w.heap.size (seed a b) ∧ Below w.heap.size w w' ∧ w'.heap.size = w.heap.size + 1
set_option maxHeartbeats 800000 in
theorem rand_new (a b : Int) (ha0 : 0 ≤ a) (ha1 : a ≤ 4294967295) (hb0 : 0 ≤ b) (hb1 : b ≤ 4294967295) (w : World) : Calls Tryz.prog 108 #[.int .u32 a, .int .u32 b] w (RandNewOk a b w) := by
 obtain ⟨hm0, hm1⟩ := mx_bounds a
 have hs0 : Src (w.alloc (.cells #[.int .u32 0] 196)).drew w.heap.size 0 := ⟨heap_alloc_new w _, by omega, by omega⟩
 have HS := Lib.hid hs0
 have hb : Below w.heap.size w (w.alloc (.cells #[.int .u32 0] 196)).drew := ((Below.refl _ _).alloc (Nat.le_refl _) _).drew
 have HW := Lib.hid (seed_wrap a b)
 have HSB := Lib.hid (seed_bounds a b)
 clear hs0
 go_enter Tryz.func108, Tryz.ntmps108
 go_wp2_with fail
 go_region_with (first | (go_at_call 140; refine (mix_any a ha0 ha1 _).mono ?_; rintro e w' ⟨rfl, rfl⟩) | (go_at_call 139; refine (astore_any _ _ _ _ _ HS.out.cell HS.out.frozen).mono ?_; rintro e w' ⟨rfl, rfl⟩))
 all_goals
  rw [HW.out]
  go_wp2_with fail
  go_ret
  exact ⟨rfl, ⟨heap_alloc_new w _, HSB.out⟩, ((Below.refl _ _).alloc (Nat.le_refl _) _).drew, by simp⟩
def r1Src (w : World) (g : Nat) (x : Int) : Prop := w.heap[g]? = some (.cells #[.int .u32 x] 207 (0, 0))
theorem r1new_any (a b : Int) (ha0 : 0 ≤ a) (ha1 : a ≤ 4294967295) (hb0 : 0 ≤ b) (hb1 : b ≤ 4294967295) (w : World) : Calls Tryz.prog 125 #[.int .u32 a, .int .u32 b] w fun e w' => e = .returned (.pointer (some ⟨w.heap.size, 0, none⟩)) ∧ w' = w.alloc (.cells #[.int .u32 (seed a b)] 207) := by
 obtain ⟨hm0, hm1⟩ := mx_bounds a
 go_enter Tryz.func125, Tryz.ntmps125
 go_wp2_with (go_at_call 151; refine (r1mix_any a ha0 ha1 _).mono ?_; rintro e w' ⟨rfl, rfl⟩)
 go_ret
 exact ⟨rfl, by unfold seed; rfl⟩
theorem next_set (g : Nat) (x : Int) (w : World) (hs : Src w g x) : Calls Tryz.prog 112 #[.pointer (some ⟨g, 0, none⟩)] w fun e w' => e = .returned (.int .u32 (mx (sh x))) ∧ w' = w.setCell ⟨g, 0, none⟩ (.int .u32 (sh x)) := by
 have HS := Lib.hid hs
 obtain ⟨_, h0, h1⟩ := hs
 obtain ⟨hb0, hb1⟩ := sh_bounds x
 go_enter Tryz.func112, Tryz.ntmps112
 go_wp2_with (first | (go_at_call 147; refine (aload_any _ x _ HS.out.cell).mono ?_; rintro e w' ⟨rfl, rfl⟩) | (go_at_call 146; refine (shift_any x h0 h1 _).mono ?_; rintro e w' ⟨rfl, rfl⟩) | (go_at_call 139; refine (astore_any _ _ _ _ _ HS.out.cell HS.out.frozen).mono ?_; rintro e w' ⟨rfl, rfl⟩) | (go_at_call 140; refine (mix_any _ hb0 hb1 _).mono ?_; rintro e w' ⟨rfl, rfl⟩))
 go_ret
 exact ⟨rfl, rfl⟩
def NextOk (g : Nat) (x : Int) (w : World) (v : Value) (e : Ending) (w' : World) : Prop := e = .returned v ∧ Src w' g (sh x) ∧ But w.heap.size g w w' ∧ w'.heap.size = w.heap.size
theorem next_any (g : Nat) (x : Int) (w : World) (hs : Src w g x) : Calls Tryz.prog 112 #[.pointer (some ⟨g, 0, none⟩)] w (NextOk g x w (.int .u32 (mx (sh x)))) := by
 refine (next_set g x w hs).mono ?_
 rintro e w' ⟨rfl, rfl⟩
 exact ⟨rfl, hs.set (sh_bounds x).1 (sh_bounds x).2, (But.refl _ _ _).setSelf 0 _, by simp⟩
theorem below_any (g : Nat) (x n : Int) (w : World) (hs : Src w g x) (h1 : 1 ≤ n) (h2 : n ≤ 2147483648) : Calls Tryz.prog 141 #[.pointer (some ⟨g, 0, none⟩), .int .i64 n] w (NextOk g x w (.int .i64 (bl x n))) := by
 obtain ⟨hy0, hy1⟩ := mx_bounds (sh x)
 obtain ⟨a0, a1, a2, a3⟩ := mul_bounds _ n hy0 hy1 h1 h2
 have HB : Hid (mx (sh x) * n / 4294967296 = bl x n) := rfl
 have hn := Lib.hid (next_any g x w hs)
 clear hs
 go_enter Tryz.func141, Tryz.ntmps141
 go_wp2_with fail
 refine hn.out.mono ?_
 rintro e w' ⟨rfl, hs', hb', hz'⟩
 generalize mx (sh x) = y at *
 go_wp2_with fail
 go_ret
 refine ⟨?_, hs', hb', hz'⟩
 rw [← HB.out]
 rfl
end Go.Proofs.YtmncpgfdpcckpaaGreatDoor
namespace Go.Proofs.YtmncpgfdpcckpaaGreatDoor
open Go.RowKit
open RdM
def iv (l : List Int) : List Value := l.map (Value.int .i64)
theorem iv_length (l : List Int) : (iv l).length = l.length := by simp [iv]
theorem iv_get (l : List Int) (k : Nat) (h : k < l.length) : (iv l)[k]? = some (.int .i64 (l.getD k 0)) := by simp [iv, h, List.getD]
theorem Tryz.info3 : (Tryz.prog.info? 3).map (fun i => (i.zero, i.size, i.bytes)) = some (some (.int .i64 0), 1, 8) := by kernel_rfl
theorem mk_ints (c : Nat) (hc : c ≤ 1000000) (w : World) : (Instr.makeSlice 161 (.int .i64 (c : Int)) (.int .i64 (c : Int))).run Tryz.prog w = .ok (.slice (some ⟨w.heap.size, 0, none⟩) c c) (w.alloc (.cells (Array.replicate c (.int .i64 0)) 3)) := by
 obtain ⟨i0, hi, hz0, hz1, hz2⟩ := info_parts Tryz.info3
 have := run_make (P := Tryz.prog) w 161 3 i0 (.int .i64 0) Tryz.underlying161 hi hz0 .i64 .i64 c c (by omega) (Int.le_refl _) (by rw [hz2]; omega) (by omega)
 have e : madeCells #[Value.int .i64 0] c = Array.replicate c (.int .i64 0) := by
  apply Array.toList_inj.1
  rw [toList_madeCells_one]; simp
 simpa [hz1, Value.cells, e] using this
def idl (n k : Nat) : List Int := (List.range n).map fun j => if j < k then (j : Int) else 0
theorem idl_length (n k : Nat) : (idl n k).length = n := by simp [idl]
theorem idl_get (n k j : Nat) (h : j < n) : (idl n k)[j]? = some (if j < k then (j : Int) else 0) := by simp [idl, h]
theorem idl_zero (n : Nat) : idl n 0 = List.replicate n 0 := by
 apply List.ext_getElem <;> simp [idl]
theorem idl_all (n : Nat) : idl n n = ids n := by
 apply List.ext_getElem?
 intro j
 by_cases h : j < n
 ·rw [idl_get n n j h]; simp [ids, h]
 ·rw [List.getElem?_eq_none (by rw [idl_length]; omega), List.getElem?_eq_none (by rw [ids_length]; omega)]
theorem idl_set (n k : Nat) (h : k < n) : (idl n k).set k (k : Int) = idl n (k + 1) := by
 apply List.ext_getElem?
 intro j
 rw [List.getElem?_set]
 by_cases hj : j < n
 ·rw [idl_get n (k + 1) j hj]
  by_cases e : k = j
  ·subst e; simp [idl_length, h]
  ·rw [if_neg e, idl_get n k j hj]
   by_cases h1 : j < k
   ·rw [if_pos h1, if_pos (by omega)]
   ·rw [if_neg h1, if_neg (by omega)]
 ·rw [List.getElem?_eq_none (by rw [idl_length]; omega)]
  rw [List.getElem?_eq_none (by rw [idl_length]; omega)]
  split
  ·split
   ·rename_i h3; rw [idl_length] at h3; omega
   ·rfl
  ·rfl
theorem iv_set (l : List Int) (k : Nat) (v : Int) : (iv l).set k (.int .i64 v) = iv (l.set k v) := by simp [iv, List.map_set]
theorem some_out (g : Nat) (n k : Int) (w : World) (h : n < 1 ∨ 256 < n) : Calls Tryz.prog 109 #[.pointer (some ⟨g, 0, none⟩), .int .i64 n, .int .i64 k] w fun e w' => e = .returned (.slice none 0 0) ∧ w = w' := by
 by_cases h1 : n < 1
 ·go_enter Tryz.func109, Tryz.ntmps109
  go_wp2
  go_ret
  exact ⟨rfl, rfl⟩
 ·have h2 : 256 < n := by omega
  go_enter Tryz.func109, Tryz.ntmps109
  go_wp2
  go_ret
  exact ⟨rfl, rfl⟩
def kk (n : Nat) (k : Int) : Nat := (min (max k 0) n).toNat
def SomeOk (g n : Nat) (x : Int) (K : Nat) (w : World) (e : Ending) (w' : World) : Prop :=
 ∃ A c, e = .returned (.slice A K c) ∧ w'.ownsRow w.heap.size 3 1 (.slice A K c) K (iv (some_ n x K)) ∧ Src w' g (shk x K) ∧ But w.heap.size g w w'
theorem setsrc {w : World} {g B i j : Nat} {x : Int} (h : Src w g x) (hg : g < B) (u v : Value) : Src ((w.setCell ⟨B, i, none⟩ u).setCell ⟨B, j, none⟩ v).drew g x :=
 ⟨by show ((w.setCell ⟨B, i, none⟩ u).setCell ⟨B, j, none⟩ v).heap[g]? = _; rw [Below.heap_setCell _ _ _ _ (by show g ≠ B; omega), Below.heap_setCell _ _ _ _ (by show g ≠ B; omega)]; exact h.1, h.2⟩
theorem setbut {w w' : World} {B g i j : Nat} (h : But B g w w') (hB : B ≤ B) (u v : Value) : But B g w ((w'.setCell ⟨B, i, none⟩ u).setCell ⟨B, j, none⟩ v).drew :=
 h.trans (But.of_below (((Below.refl B w').setCell (Nat.le_refl _) u).setCell (Nat.le_refl _) v).drew)
set_option maxHeartbeats 3200000 in
theorem some_any (g n : Nat) (x k : Int) (w : World) (hs : Src w g x) (h1 : 1 ≤ n) (h2 : n ≤ 256) (K : Nat) (hK : kk n k = K) : Calls Tryz.prog 109 #[.pointer (some ⟨g, 0, none⟩), .int .i64 n, .int .i64 k] w (SomeOk g n x K w) := by
 have hKn : K ≤ n := by rw [← hK]; unfold kk; omega
 have hKi : min (max k 0) (n : Int) = (K : Int) := by rw [← hK]; unfold kk; omega
 have hKi2 := Lib.hid hKi
 have hmk := mk_ints n (by omega) w
 have HS := Lib.hid hs
 have hglt := hs.lt
 clear hK hKi hs
 go_enter Tryz.func109, Tryz.ntmps109
 go_upto_region 4 with fail
 rw [hKi2.out]
 go_wp2_with fail
 clear hmk
 go_loopw [30] (fun z wr => ∃ i : Nat, i ≤ n ∧ z = .int .i64 i ∧ Hid (wr.ownsRow w.heap.size 3 1 (.slice (some ⟨w.heap.size, 0, none⟩) n n) n (iv (idl n i))) ∧ Hid (Below w.heap.size w wr)) (fun z _ => n - (intOf z).toNat)
 case atStart =>
  refine ⟨0, by omega, rfl, ?_, (Below.refl _ _).alloc (Nat.le_refl _) _⟩
  show World.ownsRow _ _ _ _ _ _ _
  rw [idl_zero]
  have := own_lit (w := w) (base := w.heap.size) (g := w.heap.size) (n := n) (e := 3) (Array.replicate n (.int .i64 0)) rfl (Nat.le_refl _) (by simp) (by unfold maxLen; omega)
  simpa [iv] using this
 case round =>
  obtain ⟨i, hi, rfl, hown, hbl⟩ := hrel
  by_cases hlt : i < n
  ·have hfz := hown.out.frozenAt i
   have hcs := (hown.out.cellAt i (by omega)).trans (iv_get _ i (by rw [idl_length]; exact hlt))
   have hst := Lib.hid ((hown.out.stored i (.int .i64 (i : Int))).1)
   have hset := Lib.hid (iv_set (idl n i) i (i : Int))
   have hids := Lib.hid (idl_set n i hlt)
   generalize (idl n i).getD i 0 = u at *
   go_wp2_with fail
   go_roundw
   case rel => exact ⟨i + 1, by omega, by go_num, by show World.ownsRow _ _ _ _ _ _ _; rw [← hids.out, ← hset.out]; exact hst.out, hbl.out.setCell (Nat.le_refl _) _⟩
   case measure => simp [intOf]; omega
  ·obtain rfl : n = i := by omega
   have hgo0 : Hid (wr.ownsRow w.heap.size 3 1 (.slice (some ⟨w.heap.size, 0, none⟩) n n) n (iv (go n x 0))) := by
    show World.ownsRow _ _ _ _ _ _ _
    have := hown.out
    rwa [idl_all] at this
   have hsrc0 : Hid (Src wr g (shk x 0)) := HS.out.below hbl.out hglt
   have hbut0 : Hid (But w.heap.size g w wr) := But.of_below hbl.out
   clear hown hbl
   obtain ⟨wo, rfl⟩ : ∃ wo : World, wo = wr := ⟨_, rfl⟩
   go_wp2_with fail
   go_loopw [39] (fun z wr => ∃ i : Nat, i ≤ K ∧ z = .int .i64 i ∧ Hid (wr.ownsRow w.heap.size 3 1 (.slice (some ⟨w.heap.size, 0, none⟩) n n) n (iv (go n x i))) ∧ Hid (Src wr g (shk x i)) ∧ Hid (But w.heap.size g w wr)) (fun z _ => K - (intOf z).toNat)
   case atStart => exact ⟨0, by omega, rfl, hgo0, hsrc0, hbut0⟩
   case round =>
    obtain ⟨i, hi, rfl, hown, hsrc, hbut⟩ := hrel
    clear hgo0 hsrc0 hbut0
    by_cases hlt : i < K
    ·have hni : (1 : Int) ≤ (n : Int) - (i : Int) := by omega
     have hni2 : (n : Int) - (i : Int) ≤ 2147483648 := by omega
     go_wp2_with fail
     refine (below_any g (shk x i) ((n : Int) - (i : Int)) wr hsrc.out hni hni2).mono ?_
     rintro e w1 ⟨rfl, hs1, hb1, hz1⟩
     obtain ⟨hq0, hq1⟩ := bl_bounds (shk x i) ((n : Int) - (i : Int)) hni hni2
     have hown1 := own_but hown.out hb1 hglt
     have hgo : Hid (go n x (i + 1) = swapL (go n x i) i (i + (bl (shk x i) ((n : Int) - i)).toNat)) := rfl
     have HS1 : Hid (Src w1 g (shk x (i + 1))) := hs1
     have hbut1 : Hid (But w.heap.size g w w1) := hbut.out.trans (hb1.mono hbut.out.size)
     generalize hq : bl (shk x i) ((n : Int) - (i : Int)) = q at *
     have HQ := Lib.hid hq
     clear hs1 hb1 hsrc hbut hq
     obtain ⟨j, rfl⟩ : ∃ j : Nat, q = j := ⟨q.toNat, by omega⟩
     have hp := go_length n x i
     have hcI := (hown1.cellAt i (by omega)).trans (iv_get _ i (by rw [hp]; omega))
     have hcJ := (hown1.cellAt (i + j) (by omega)).trans (iv_get _ (i + j) (by rw [hp]; omega))
     have hfI := hown1.frozenAt i
     have hfJ := hown1.frozenAt (i + j)
     have hst := Lib.hid ((((hown1.stored i (.int .i64 ((go n x i).getD (i + j) 0))).1).stored (i + j) (.int .i64 ((go n x i).getD i 0))).1)
     have hsw : Hid ((((iv (go n x i)).set i (.int .i64 ((go n x i).getD (i + j) 0))).set (i + j) (.int .i64 ((go n x i).getD i 0))) = iv (go n x (i + 1))) := by
      show _ = _
      rw [hgo.out, iv_set, iv_set, Int.toNat_natCast]; rfl
     have hmid : ∃ u, (w1.setCell ⟨w.heap.size, i, none⟩ (.int .i64 ((go n x i).getD (i + j) 0))).cell? ⟨w.heap.size, i + j, none⟩ = some u := by
      rw [((hown1.stored i (.int .i64 ((go n x i).getD (i + j) 0))).1).cellAt (i + j) (by omega)]
      exact ⟨_, List.getElem?_eq_getElem (by rw [List.length_set, iv_length, hp]; omega)⟩
     obtain ⟨um, hmid⟩ := hmid
     have HP := Lib.hid hp
     clear hp hgo
     generalize (go n x i).getD (i + j) 0 = vj at *
     generalize (go n x i).getD i 0 = vi at *
     have hij : (i : Int) + (j : Int) < (n : Int) := by omega
     have hii : (i : Int) < (n : Int) := by omega
     go_wp2_with fail
     go_region
     all_goals
      go_wp2_with fail
      go_roundw
      case rel => exact ⟨i + 1, by omega, by go_num, by show World.ownsRow _ _ _ _ _ _ _; rw [← hsw.out]; exact hst.out, setsrc HS1.out hglt _ _, setbut hbut1.out (Nat.le_refl _) _ _⟩
      case measure => simp [intOf]; omega
    ·obtain rfl : K = i := by omega
     have hp := go_length n x K
     have hcz : Hid (∀ j, j < (go n x K).length → wr.cell? ⟨w.heap.size, 0 + j, none⟩ = some (.int .i64 ((go n x K).getD j 0))) := by
      intro j hj
      rw [Nat.zero_add]
      exact (hown.out.cellAt j (by omega)).trans (iv_get _ j hj)
     have hKc : (K : Int) ≤ (n : Int) := by omega
     have HP := Lib.hid hp
     clear hp
     go_wp2_with fail
     refine (Tryz.slices_Clone_int w.heap.size 0 K n (go n x K) wr (by rw [HP.out]; exact hKn) (by omega) hcz.out).mono ?_
     rintro e w2 ⟨v, rfl, howv, hvn, hb2⟩
     have hls : (((go n x K).take K).mergeSort fun a b => decide (a ≤ b)).length = K := by rw [List.length_mergeSort, List.length_take, HP.out]; omega
     have hlt0 : ((go n x K).take K).length = K := by rw [List.length_take, HP.out]; omega
     have HLS := Lib.hid hls
     have HL0 := Lib.hid hlt0
     have hs2 : Hid (Src w2 g (shk x K)) := hsrc.out.below hb2 (by have := hbut.out.size; omega)
     have hbut2 : Hid (But w.heap.size g w w2) := hbut.out.trans (But.of_below (hb2.mono hbut.out.size))
     have hsz2 : Hid (w.heap.size ≤ wr.heap.size) := hbut.out.size
     have HNZ := Lib.hid hvn
     clear hls hlt0 hvn
     rcases howv.2 with ⟨h0, _⟩ | ⟨g2, c2, cur, rfl, hg2, hh2, hc1, hc2, hc3, hc4⟩
     ·exact absurd h0 HNZ.out
     have hH := Lib.hid (holds_of_blockI (ss := (go n x K).take K) hh2 (by rw [HL0.out]; have := hc4; rw [Nat.mul_one] at this; rw [this]))
     have hres := Lib.hid (fun (q : Nat) (os : Array Obj) => ownsRow_sortedI (w := w2) (base := wr.heap.size) (g := g2) (cap := c2) (n := q) (e := 3) (os := os) (cur := cur) (ss := (go n x K).take K) (ts := ((go n x K).take K).mergeSort fun a b => decide (a ≤ b)) (by rw [HLS.out, HL0.out]) hg2 hh2 (by rw [HL0.out]; exact hc1) hc2 hc3)
     have hg2lt : Hid (g2 < w2.heap.size) := (Array.getElem?_eq_some_iff.1 hh2).1
     have hG2 := Lib.hid hg2
     have HOV := Lib.hid howv
     clear howv hh2 hc4 hc3 hg2
     by_cases hK0 : K = 0
     ·subst hK0
      go_wp2_with fail
      refine (Tryz.slices_Sort_int_none _ _ w2).mono ?_
      rintro e w3 ⟨rfl, rfl⟩
      go_wp2_with fail
      go_ret
      refine ⟨_, _, rfl, ?_, hs2.out, hbut2.out⟩
      have := own_base HOV.out hsz2.out
      simpa [some_, iv] using this
     ·go_wp2_with fail
      have hsort := Tryz.slices_Sort_int g2 0 c2 ((go n x K).take K) w2 hH.out hg2lt.out (by rw [HL0.out]; omega)
      rw [HL0.out] at hsort
      refine hsort.mono ?_
      rintro e w3 ⟨rfl, q, os, rfl⟩
      have hr := hres.out q os
      rw [HL0.out] at hr
      have hgr := grownBy_sortedI (w := w2) (g := g2) (n := q) (os := os) (((go n x K).take K).mergeSort fun a b => decide (a ≤ b)).toArray
      have hb3 : Below wr.heap.size w2 (Sort.grow (Sort.putRow (Value.int .i64) (Sort.ahead w2 q) g2 0 (((go n x K).take K).mergeSort fun a b => decide (a ≤ b)).toArray) os) := (Below.refl wr.heap.size w2).grown hgr hb2.size (by intro k hk; injection hk with hk; subst hk; exact hG2.out)
      generalize hw3 : (Sort.grow (Sort.putRow (Value.int .i64) (Sort.ahead w2 q) g2 0 (((go n x K).take K).mergeSort fun a b => decide (a ≤ b)).toArray) os) = w3 at *
      clear hw3 hgr hsort
      have HR := Lib.hid hr
      clear hr
      go_wp2_with fail
      go_ret
      exact ⟨_, _, rfl, own_base HR.out hsz2.out, hs2.out.below hb3 (by have := hsz2.out; omega), hbut2.out.trans (But.of_below (hb3.mono hsz2.out))⟩
end Go.Proofs.YtmncpgfdpcckpaaGreatDoor
namespace Go.Proofs.YtmncpgfdpcckpaaGreatDoor
open Go.RowKit
open RdM
def SomeRow (g n : Nat) (x : Int) (K : Nat) (w : World) (e : Ending) (w' : World) : Prop :=
 ∃ A c, e = .returned (.slice A K c) ∧ Hid (Row w' w'.heap.size A K (iv (some_ n x K))) ∧ Hid (Src w' g (shk x K)) ∧ Hid (But w.heap.size g w w')
theorem some_tot (g n : Nat) (x k : Int) (w : World) (hs : Src w g x) (h2 : n ≤ 256) (K : Nat) (hK : kk n k = K) : Calls Tryz.prog 109 #[.pointer (some ⟨g, 0, none⟩), .int .i64 (n : Int), .int .i64 k] w (SomeRow g n x K w) := by
 by_cases h1 : 1 ≤ n
 ·refine (some_any g n x k w hs h1 h2 K hK).mono ?_
  rintro e w' ⟨A, c, rfl, hown, hsr, hbt⟩
  exact ⟨A, c, rfl, Row.of_own hown, hsr, hbt⟩
 ·have hn : n = 0 := by omega
  subst hn
  have hK0 : K = 0 := by rw [← hK]; unfold kk; omega
  subst hK0
  refine (some_out g 0 k w (by omega)).mono ?_
  rintro e w' ⟨rfl, rfl⟩
  exact ⟨none, 0, rfl, by show Row _ _ _ _ _; simpa [some_, iv] using Row.nil w w.heap.size none, hs, But.refl _ _ _⟩
theorem kk_nat (n k : Nat) : kk n k = min n k := by unfold kk; omega
end Go.Proofs.YtmncpgfdpcckpaaGreatDoor
namespace Go.Proofs.YtmncpgfdpcckpaaGreatDoor
open Go.RowKit
theorem div_le_iff (c N : Nat) (h : 1 ≤ c) : (c : Int) ≤ (N : Int) / (c : Int) ↔ c * c ≤ N := by
 rw [← Int.natCast_ediv, Int.ofNat_le]
 exact Nat.le_div_iff_mul_le (by omega)
theorem tdiv_neg (n b : Int) (hn : n < 1) (hb : 1 ≤ b) : ¬ b ≤ n.tdiv b := by
 have h : n.tdiv b ≤ 0 := by
  obtain ⟨m, rfl⟩ : ∃ m : Nat, n = -(m : Int) := ⟨(-n).toNat, by omega⟩
  obtain ⟨k, rfl⟩ : ∃ k : Nat, b = (k : Int) := ⟨b.toNat, by omega⟩
  have h0 : 0 ≤ (m : Int) / (k : Int) := Int.ediv_nonneg (by omega) (by omega)
  rw [Int.neg_tdiv, ← Int.ofNat_tdiv]
  omega
 omega
theorem sq_step (r b N : Nat) (h : (r + b) * (r + b) ≤ N) (h2 : N < (r + 2 * b) * (r + 2 * b)) : N < (r + b + b) * (r + b + b) := by
 rwa [show r + b + b = r + 2 * b by omega]
set_option maxHeartbeats 1600000 in
theorem root_neg (n : Int) (hn : n < 1) (h0 : -9223372036854775808 ≤ n) (w : World) : Calls Tryz.prog 177 #[.int .i64 n] w fun e w' => e = .returned (.int .i64 0) ∧ w = w' := by
 go_enter Tryz.func177, Tryz.ntmps177
 go_wp2_with fail
 go_loop [3, 4] (fun r t => ∃ b : Nat, b ≤ 2147483648 ∧ r = .int .i64 0 ∧ t = .int .i64 b) (fun _ t => (intOf t).toNat)
 case atStart => exact ⟨2147483648, by omega, rfl, rfl⟩
 case round =>
  obtain ⟨b, hb, rfl, rfl⟩ := hrel
  by_cases hb0 : b = 0
  ·subst hb0
   go_wp2_with fail
   go_ret
   exact ⟨rfl, rfl⟩
  ·have hb1 : (1 : Int) ≤ (b : Int) := by omega
   have hbl : (b : Int) ≤ 2147483648 := by omega
   have ht := tdiv_neg n b hn hb1
   have hb2 : ¬ (b : Int) = 0 := by omega
   go_wp2_with fail
   go_round
   case rel => exact ⟨b / 2, by omega, rfl, by go_num⟩
   case measure => simp [intOf]; omega
set_option maxHeartbeats 1600000 in
theorem root_pos (N : Nat) (h1 : 1 ≤ N) (h2 : N ≤ 9223372036854775807) (w : World) : Calls Tryz.prog 177 #[.int .i64 (N : Int)] w fun e w' => (∃ r : Nat, e = .returned (.int .i64 (r : Int)) ∧ Hid (1 ≤ r ∧ r ≤ 4294967295 ∧ r * r ≤ N ∧ N < (r + 1) * (r + 1))) ∧ w = w' := by
 have H2 := Lib.hid h2
 have hNi : (N : Int) ≤ 9223372036854775807 := by omega
 have HNI := Lib.hid hNi
 clear h2 hNi
 go_enter Tryz.func177, Tryz.ntmps177
 go_wp2_with fail
 go_loop [3, 4] (fun r t => ∃ (j rr : Nat), j ≤ 32 ∧ r = .int .i64 rr ∧ t = .int .i64 (2 ^ j / 2 : Nat) ∧ Hid (rr + 2 ^ j ≤ 4294967296 ∧ rr * rr ≤ N ∧ N < (rr + 2 ^ j) * (rr + 2 ^ j))) (fun _ t => (intOf t).toNat)
 case atStart => exact ⟨32, 0, by omega, rfl, rfl, by omega, by omega, by have := H2.out; omega⟩
 case round =>
  obtain ⟨j, r, hj, rfl, rfl, hI⟩ := hrel
  cases j with
  | zero =>
   have hI2 : Hid (1 ≤ r ∧ r ≤ 4294967295 ∧ r * r ≤ N ∧ N < (r + 1) * (r + 1)) := by
    obtain ⟨a, b, c⟩ := hI.out
    simp at a c
    refine ⟨?_, by omega, b, c⟩
    rcases Nat.eq_zero_or_pos r with h | h
    ·subst h; simp at c; omega
    ·exact h
   have e0 : (2 ^ 0 / 2 : Nat) = 0 := rfl
   rw [e0]
   clear e0
   go_wp2_with fail
   go_ret
   exact ⟨⟨r, rfl, hI2⟩, rfl⟩
  | succ j =>
   obtain ⟨b, hb⟩ : ∃ b : Nat, b = 2 ^ j := ⟨_, rfl⟩
   have e1 : (2 ^ (j + 1) / 2 : Nat) = b := by rw [hb, Nat.pow_succ]; omega
   have e2 : (2 ^ (j + 1) : Nat) = 2 * b := by rw [hb, Nat.pow_succ]; omega
   have hb1 : 1 ≤ b := by rw [hb]; exact Nat.one_le_two_pow
   rw [e2] at hI
   rw [e1]
   have HB := Lib.hid hb
   have hI' := hI.out
   have hrb : r + b ≤ 4294967296 := by have := hI'.1; omega
   have hbl : b ≤ 4294967296 := by omega
   clear hb e1 e2
   have hbi : (1 : Int) ≤ (b : Int) := by omega
   have hci : (1 : Int) ≤ (r : Int) + (b : Int) := by omega
   have hcl : (r : Int) + (b : Int) ≤ 4294967296 := by omega
   have hc0 : ¬ (r : Int) + (b : Int) = 0 := by omega
   have hdv := div_le_iff (r + b) N (by omega)
   rw [Int.natCast_add] at hdv
   have HDV := Lib.hid hdv
   have HRB := Lib.hid hrb
   clear hI' hdv hrb
   have hNI := HNI.out
   have hq0 : (0 : Int) ≤ (N : Int) / ((r : Int) + (b : Int)) := Int.ediv_nonneg (by omega) (by omega)
   have hq1 : (N : Int) / ((r : Int) + (b : Int)) ≤ 9223372036854775807 := Int.le_trans (Int.ediv_le_self _ (by omega)) hNI
   go_wp2_with fail
   ·have hle := HDV.out.1 (by assumption)
    have HLE := Lib.hid hle
    clear hle
    go_round
    case rel => exact ⟨j, r + b, by omega, by go_num, by rw [← HB.out]; go_num, by
     show _ ∧ _ ∧ _
     rw [← HB.out]
     have := hI.out
     exact ⟨by omega, HLE.out, sq_step r b N HLE.out this.2.2⟩⟩
    case measure => simp [intOf]; omega
   ·have hlq : (N : Int) / ((r : Int) + (b : Int)) < (r : Int) + (b : Int) := by assumption
    have hle : ¬ (r + b) * (r + b) ≤ N := fun h => absurd (HDV.out.2 h) (Int.not_le.2 hlq)
    have HLE := Lib.hid hle
    clear hle
    go_round
    case rel => exact ⟨j, r, by omega, rfl, by rw [← HB.out]; go_num, by
     show _ ∧ _ ∧ _
     rw [← HB.out]
     have := hI.out
     have h3 := HLE.out
     exact ⟨by omega, this.2.1, by omega⟩⟩
    case measure => simp [intOf]; omega
end Go.Proofs.YtmncpgfdpcckpaaGreatDoor
namespace Go.Proofs.YtmncpgfdpcckpaaGreatDoor
namespace SoM
def rt (n : Nat) : Nat := if n < 1 then 0 else if n < 4 then 1 else if n < 9 then 2 else if n < 16 then 3 else if n < 25 then 4 else if n < 36 then 5 else if n < 49 then 6 else if n < 64 then 7 else 8
theorem rt_eq (n r : Nat) (h1 : 1 ≤ n) (h2 : n ≤ 80) (h3 : r * r ≤ n) (h4 : n < (r + 1) * (r + 1)) : r = rt n := by
 have h : r ≤ 8 := by
  rcases Nat.lt_or_ge 8 r with h | h
  ·have := Nat.mul_le_mul (show 9 ≤ r by omega) (show 9 ≤ r by omega)
   omega
  ·exact h
 have : r = 0 ∨ r = 1 ∨ r = 2 ∨ r = 3 ∨ r = 4 ∨ r = 5 ∨ r = 6 ∨ r = 7 ∨ r = 8 := by omega
 unfold rt
 rcases this with rfl | rfl | rfl | rfl | rfl | rfl | rfl | rfl | rfl <;> simp at h3 h4 <;> (repeat' split) <;> omega
def ideal (n d : Nat) : Nat := if d = 1 then 1048576 / n else 1048576 / (d * (d - 1))
def wt (n d : Nat) : Nat := ideal n d + if d < n / rt n then rt n * 262144 / (d * n) else if d = n / rt n then rt n * 524288 / n else 0
def ws (n k : Nat) : List Nat := (List.range k).map fun j => wt n (j + 1)
def sm (n : Nat) : Nat → Nat
 | 0 => 0
 | k + 1 => sm n k + wt n (k + 1)
def sms (n k : Nat) : List Nat := (List.range k).map fun j => sm n (j + 1)
theorem all2 (p : Nat → Nat → Bool) (h : ((List.range 81).all fun n => (List.range 81).all fun d => p n d) = true) (n d : Nat) (hn : n < 81) (hd : d < 81) : p n d = true :=
 List.all_eq_true.1 (List.all_eq_true.1 h n (List.mem_range.2 hn)) d (List.mem_range.2 hd)
def okW (n d : Nat) : Bool := n == 0 || d == 0 || decide (n < d) || (decide (1 ≤ wt n d) && decide (wt n d ≤ 4000000) && decide (ideal n d ≤ 1048576) && decide (sm n d ≤ 4000000) && decide (1 ≤ rt n) && decide (rt n ≤ 8) && decide (1 ≤ sm n d))
theorem okW_all : ((List.range 81).all fun n => (List.range 81).all fun d => okW n d) = true := by decide +kernel
theorem wt_bound (n d : Nat) (hn : 1 ≤ n) (hn2 : n ≤ 80) (hd : 1 ≤ d) (hd2 : d ≤ n) : 1 ≤ wt n d ∧ wt n d ≤ 4000000 ∧ ideal n d ≤ 1048576 ∧ sm n d ≤ 4000000 ∧ 1 ≤ rt n ∧ rt n ≤ 8 ∧ 1 ≤ sm n d := by
 have h := all2 okW okW_all n d (by omega) (by omega)
 simp only [okW, Bool.or_eq_true, Bool.and_eq_true, beq_iff_eq, decide_eq_true_eq] at h
 omega
end SoM
end Go.Proofs.YtmncpgfdpcckpaaGreatDoor
namespace Go.Proofs.YtmncpgfdpcckpaaGreatDoor
open Go.RowKit
open SoM
def Tab (w : World) (g n : Nat) (d m : Int) (v : Value) : Prop := w.heap[g]? = some (.cells #[.int .i64 (n : Int), .int .u32 d, .int .i32 m, .int .u32 0, v] 202 (0, 0))
theorem Tab.cells {w : World} {g n : Nat} {d m : Int} {v : Value} (h : Tab w g n d m v) : w.cell? ⟨g, 0, none⟩ = some (.int .i64 (n : Int)) ∧ w.cell? ⟨g, 1, none⟩ = some (.int .u32 d) ∧ w.cell? ⟨g, 2, none⟩ = some (.int .i32 m) ∧ w.cell? ⟨g, 3, none⟩ = some (.int .u32 0) ∧ w.cell? ⟨g, 4, none⟩ = some v := by
 refine ⟨?_, ?_, ?_, ?_, ?_⟩ <;> rw [cell_of_row w g _ _ _ (0, 0) h] <;> rfl
theorem Tab.frozen {w : World} {g n : Nat} {d m : Int} {v : Value} (h : Tab w g n d m v) (j : Nat) : w.frozen? ⟨g, j, none⟩ = false := frozen_of_row w g j _ _ h
theorem Tab.lt {w : World} {g n : Nat} {d m : Int} {v : Value} (h : Tab w g n d m v) : g < w.heap.size := (Array.getElem?_eq_some_iff.1 h).1
theorem Tab.below {w w' : World} {B g n : Nat} {d m : Int} {v : Value} (h : Tab w g n d m v) (hb : Below B w w') (hg : g < B) : Tab w' g n d m v := (hb.block g hg).trans h
theorem empty_nil (w : World) : Calls Tryz.prog 144 #[.pointer none] w fun e w' => e = .returned (.bool true) ∧ w = w' := by
 go_enter Tryz.func144, Tryz.ntmps144
 go_wp2
 go_ret
 exact ⟨rfl, rfl⟩
theorem empty_no (g n : Nat) (d m : Int) (v : Value) (w : World) (h : Tab w g n d m v) (h1 : 1 ≤ n) : Calls Tryz.prog 144 #[.pointer (some ⟨g, 0, none⟩)] w fun e w' => e = .returned (.bool false) ∧ w = w' := by
 obtain ⟨c0, _, _, _, _⟩ := h.cells
 have hn : ((n : Int) == 0) = false := by simp; omega
 clear h
 go_enter Tryz.func144, Tryz.ntmps144
 go_wp2
 go_ret
 exact ⟨rfl, rfl⟩
theorem new_in (n : Nat) (w : World) (h1 : 1 ≤ n) (h2 : n ≤ 80) : Calls Tryz.prog 110 #[.int .i64 (n : Int)] w fun e w' => e = .returned (.pointer (some ⟨w.heap.size, 0, none⟩)) ∧ Hid (Tab w' w.heap.size n 0 0 (.slice none 0 0)) ∧ Hid (Below w.heap.size w w') := by
 go_enter Tryz.func110, Tryz.ntmps110
 go_wp2
 go_ret
 exact ⟨rfl, heap_alloc_new w _, (Below.refl _ _).alloc (Nat.le_refl _) _⟩
theorem ideal_any (n d : Nat) (w : World) (h1 : 1 ≤ n) (h2 : n ≤ 80) (h3 : 1 ≤ d) (h4 : d ≤ 80) : Calls Tryz.prog 178 #[.int .i64 (n : Int), .int .i64 (d : Int)] w fun e w' => e = .returned (.int .i64 (ideal n d : Nat)) ∧ w = w' := by
 by_cases hd : d = 1
 ·subst hd
  have hn : ¬ (n : Int) = 0 := by omega
  go_enter Tryz.func178, Tryz.ntmps178
  go_wp2
  go_ret
  refine ⟨?_, rfl⟩
  simp [ideal]
 ·obtain ⟨p, rfl⟩ : ∃ p, d = p + 1 := ⟨d - 1, by omega⟩
  obtain ⟨q, hq⟩ : ∃ q : Nat, q = (p + 1) * p := ⟨_, rfl⟩
  have hq1 : 1 ≤ q := by rw [hq]; exact Nat.mul_pos (by omega) (by omega)
  have hq2 : q ≤ 6400 := by
   have := Nat.mul_le_mul (show p + 1 ≤ 80 by omega) (show p ≤ 80 by omega)
   omega
  have hd1 : (((p : Int) + 1) == 1) = false := by simp; omega
  have hp0 : ¬ (p : Int) = 0 := by omega
  have hpp : 0 ≤ (p : Int) := by omega
  have hpl : (p : Int) ≤ 80 := by omega
  have hm : ((p : Int) + 1) * (p : Int) = (q : Int) := by rw [hq]; push_cast; rfl
  have hq0 : ¬ (q : Int) = 0 := by omega
  have HQ := Lib.hid hq
  clear hq hd
  go_enter Tryz.func178, Tryz.ntmps178
  go_wp2
  go_ret
  refine ⟨?_, rfl⟩
  unfold ideal
  rw [if_neg (by omega), Nat.add_sub_cancel, ← HQ.out]
  simp
end Go.Proofs.YtmncpgfdpcckpaaGreatDoor
namespace Go.Proofs.YtmncpgfdpcckpaaGreatDoor
open Go.RowKit
open SoM
def uv (l : List Nat) : List Value := l.map fun (x : Nat) => Value.int .u32 (x : Int)
theorem uv_get (l : List Nat) (k : Nat) (h : k < l.length) : (uv l)[k]? = some (.int .u32 (l.getD k 0 : Nat)) := by simp [uv, h, List.getD]
theorem Tryz.info32 : (Tryz.prog.info? 32).map (fun i => (i.zero, i.size, i.bytes)) = some (some (.int .u32 0), 1, 4) := by kernel_rfl
theorem mk_u32 (c : Nat) (hc : c ≤ 1000000) (w : World) : (Instr.makeSlice 208 (.int .i64 (c : Int)) (.int .i64 (c : Int))).run Tryz.prog w = .ok (.slice (some ⟨w.heap.size, 0, none⟩) c c) (w.alloc (.cells (Array.replicate c (.int .u32 0)) 32)) := by
 obtain ⟨i0, hi, hz0, hz1, hz2⟩ := info_parts Tryz.info32
 have := run_make (P := Tryz.prog) w 208 32 i0 (.int .u32 0) Tryz.underlying208 hi hz0 .i64 .i64 c c (by omega) (Int.le_refl _) (by rw [hz2]; omega) (by omega)
 have e : madeCells #[Value.int .u32 0] c = Array.replicate c (.int .u32 0) := by
  apply Array.toList_inj.1
  rw [toList_madeCells_one]; simp
 simpa [hz1, Value.cells, e] using this
def wsl (n k : Nat) : List Nat := (List.range n).map fun j => if j < k then wt n (j + 1) else 0
theorem wsl_length (n k : Nat) : (wsl n k).length = n := by simp [wsl]
theorem wsl_get (n k j : Nat) (h : j < n) : (wsl n k)[j]? = some (if j < k then wt n (j + 1) else 0) := by simp [wsl, h]
theorem wsl_zero (n : Nat) : wsl n 0 = List.replicate n 0 := by
 apply List.ext_getElem <;> simp [wsl]
theorem wsl_all (n : Nat) : wsl n n = ws n n := by
 apply List.ext_getElem?
 intro j
 by_cases h : j < n
 ·rw [wsl_get n n j h]; simp [ws, h]
 ·rw [List.getElem?_eq_none (by rw [wsl_length]; omega), List.getElem?_eq_none (by simp [ws]; omega)]
theorem wsl_set (n k : Nat) (h : k < n) : (wsl n k).set k (wt n (k + 1)) = wsl n (k + 1) := by
 apply List.ext_getElem?
 intro j
 rw [List.getElem?_set]
 by_cases hj : j < n
 ·rw [wsl_get n (k + 1) j hj]
  by_cases e : k = j
  ·subst e; simp [wsl_length, h]
  ·rw [if_neg e, wsl_get n k j hj]
   by_cases h1 : j < k
   ·rw [if_pos h1, if_pos (by omega)]
   ·rw [if_neg h1, if_neg (by omega)]
 ·rw [List.getElem?_eq_none (by rw [wsl_length]; omega)]
  rw [List.getElem?_eq_none (by rw [wsl_length]; omega)]
  split
  ·split
   ·rename_i h3; rw [wsl_length] at h3; omega
   ·rfl
  ·rfl
theorem uv_set (l : List Nat) (k v : Nat) : (uv l).set k (.int .u32 (v : Nat)) = uv (l.set k v) := by simp [uv, List.map_set]
theorem root_rt (n : Nat) (h1 : 1 ≤ n) (h2 : n ≤ 80) (w : World) : Calls Tryz.prog 177 #[.int .i64 (n : Int)] w fun e w' => e = .returned (.int .i64 (rt n : Nat)) ∧ w = w' := by
 refine (root_pos n h1 (by omega) w).mono ?_
 rintro e w' ⟨⟨r, rfl, hr⟩, rfl⟩
 obtain ⟨_, _, a, b⟩ := hr.out
 rw [rt_eq n r h1 h2 a b]
 exact ⟨rfl, rfl⟩
theorem weights_nil (w : World) : Calls Tryz.prog 158 #[.pointer none] w fun e w' => e = .returned (.slice none 0 0) ∧ w = w' := by
 go_enter Tryz.func158, Tryz.ntmps158
 go_wp2_with (go_at_call 144; refine (empty_nil _).mono ?_; rintro e w' ⟨rfl, rfl⟩)
 go_ret
 exact ⟨rfl, rfl⟩
theorem wt_lt (n d R M P Q : Nat) (hR : rt n = R) (hM : n / R = M) (hP : d * n = P) (hQ : R * 262144 / P = Q) (h : d < M) : wt n d = ideal n d + Q := by
 unfold wt; rw [hR, hM, if_pos h, hP, hQ]
theorem wt_eq (n d R M Q : Nat) (hR : rt n = R) (hM : n / R = M) (hQ : R * 524288 / n = Q) (h : d = M) : wt n d = ideal n d + Q := by
 unfold wt; rw [hR, hM, if_neg (by omega), if_pos h, hQ]
theorem wt_gt (n d R M : Nat) (hR : rt n = R) (hM : n / R = M) (h : M < d) : wt n d = ideal n d := by
 unfold wt; rw [hR, hM, if_neg (by omega), if_neg (by omega)]; rfl
def WtOk (n : Nat) (w : World) (e : Ending) (w' : World) : Prop :=
 ∃ A c, e = .returned (.slice A n c) ∧ Hid (w'.ownsRow w.heap.size 32 1 (.slice A n c) n (uv (ws n n))) ∧ Hid (Below w.heap.size w w')
set_option maxHeartbeats 3200000 in
theorem weights_any (g n : Nat) (dn m0 : Int) (v : Value) (w : World) (h : Tab w g n dn m0 v) (h1 : 1 ≤ n) (h2 : n ≤ 80) : Calls Tryz.prog 158 #[.pointer (some ⟨g, 0, none⟩)] w (WtOk n w) := by
 obtain ⟨_, _, _, _, hR1, hR8, _⟩ := wt_bound n 1 h1 h2 (by omega) (by omega)
 obtain ⟨R, hR⟩ : ∃ R, rt n = R := ⟨_, rfl⟩
 rw [hR] at hR1 hR8
 have HRT := Lib.hid (root_rt n h1 h2)
 rw [hR] at HRT
 obtain ⟨M, hM⟩ : ∃ M, n / R = M := ⟨_, rfl⟩
 have hMi : (n : Int) / (R : Int) = (M : Int) := by rw [← Int.natCast_ediv, hM]
 have hMn : M ≤ n := by rw [← hM]; exact Nat.div_le_self _ _
 have hmk := mk_u32 n (by omega) w
 have HT := Lib.hid h
 have hlt := h.lt
 obtain ⟨c0, _, _, _, _⟩ := h.cells
 have hR0 : ¬ (R : Int) = 0 := by omega
 have HR := Lib.hid hR
 have HM := Lib.hid hM
 have HMI := Lib.hid hMi
 have hMi' := hMi
 clear h hR hM hMi
 go_enter Tryz.func158, Tryz.ntmps158
 go_wp2_with (first | (go_at_call 144; refine (empty_no g n dn m0 v _ HT.out h1).mono ?_; rintro e w' ⟨rfl, rfl⟩) | (go_at_call 177; refine (HRT.out _).mono ?_; rintro e w' ⟨rfl, rfl⟩))
 clear hmk hMi' c0
 go_loopw [6] (fun z wr => ∃ k : Nat, k ≤ n ∧ z = .int .i64 (k + 1 : Nat) ∧ Hid (wr.ownsRow w.heap.size 32 1 (.slice (some ⟨w.heap.size, 0, none⟩) n n) n (uv (wsl n k))) ∧ Hid (Below w.heap.size w wr)) (fun z _ => n + 1 - (intOf z).toNat)
 case atStart =>
  refine ⟨0, by omega, rfl, ?_, (Below.refl _ _).alloc (Nat.le_refl _) _⟩
  show World.ownsRow _ _ _ _ _ _ _
  rw [wsl_zero]
  have := own_lit (w := w) (base := w.heap.size) (g := w.heap.size) (n := n) (e := 32) (Array.replicate n (.int .u32 0)) rfl (Nat.le_refl _) (by simp) (by unfold maxLen; omega)
  simpa [uv] using this
 case round =>
  obtain ⟨k, hk, rfl, hown, hbl⟩ := hrel
  have hT := HT.out.below hbl.out hlt
  obtain ⟨c0, _, _, _, _⟩ := hT.cells
  clear hT
  rw [show ((k + 1 : Nat) : Int) = (k : Int) + 1 by push_cast; rfl]
  by_cases hlk : k < n
  ·obtain ⟨b1, b2, b3, _, _, _, _⟩ := wt_bound n (k + 1) h1 h2 (by omega) (by omega)
   have hid := Lib.hid (fun w => ideal_any n (k + 1) w h1 h2 (by omega) (by omega))
   obtain ⟨I, hI⟩ : ∃ I, ideal n (k + 1) = I := ⟨_, rfl⟩
   rw [hI] at hid b3
   have hfz := hown.out.frozenAt k
   have hcs := (hown.out.cellAt k (by omega)).trans (uv_get _ k (by rw [wsl_length]; exact hlk))
   have hst := Lib.hid ((hown.out.stored k (.int .u32 (wt n (k + 1) : Nat))).1)
   have hset := Lib.hid (uv_set (wsl n k) k (wt n (k + 1)))
   have hids := Lib.hid (wsl_set n k hlk)
   generalize (wsl n k).getD k 0 = u at *
   have hle : (k : Int) + 1 ≤ (n : Int) := by omega
   have hI' := Lib.hid hI
   clear hI
   rcases Nat.lt_trichotomy (k + 1) M with hc | hc | hc
   ·obtain ⟨P, hP⟩ : ∃ P, (k + 1) * n = P := ⟨_, rfl⟩
    have hP1 : 1 ≤ P := by rw [← hP]; exact Nat.mul_pos (by omega) (by omega)
    have hP2 : P ≤ 6400 := by
     have := Nat.mul_le_mul (show k + 1 ≤ 80 by omega) h2
     omega
    have hPi : ((k : Int) + 1) * (n : Int) = (P : Int) := by rw [← hP]; push_cast; rfl
    obtain ⟨Q, hQ⟩ : ∃ Q, R * 262144 / P = Q := ⟨_, rfl⟩
    have hQi : (R : Int) * 262144 / (P : Int) = (Q : Int) := by rw [← hQ, Int.natCast_ediv, Int.natCast_mul]; rfl
    have hQ2 : Q ≤ 2097152 := by
     rw [← hQ]
     exact Nat.le_trans (Nat.div_le_self _ _) (by omega)
    have hW := wt_lt n (k + 1) R M P Q HR.out HM.out hP hQ hc
    rw [hI'.out] at hW
    have HW := Lib.hid hW
    have hci : (k : Int) + 1 < (M : Int) := by omega
    have hP0 : ¬ (P : Int) = 0 := by omega
    have hWb : (I : Int) + (Q : Int) ≤ 4294967295 := by omega
    clear hP hQ hW hc b1 b2
    go_wp2_with (go_at_call 178; refine (hid.out _).mono ?_; rintro e w' ⟨rfl, rfl⟩)
    go_roundw
    case rel => exact ⟨k + 1, by omega, by go_num, by show World.ownsRow _ _ _ _ _ _ _; rw [← hids.out, ← hset.out]; have := hst.out; rw [HW.out] at this ⊢; exact this, hbl.out.setCell (Nat.le_refl _) _⟩
    case measure => simp [intOf]; omega
   ·obtain ⟨Q, hQ⟩ : ∃ Q, R * 524288 / n = Q := ⟨_, rfl⟩
    have hQi : (R : Int) * 524288 / (n : Int) = (Q : Int) := by rw [← hQ, Int.natCast_ediv, Int.natCast_mul]; rfl
    have hQ2 : Q ≤ 4194304 := by
     rw [← hQ]
     exact Nat.le_trans (Nat.div_le_self _ _) (by omega)
    have hW := wt_eq n (k + 1) R M Q HR.out HM.out hQ hc
    rw [hI'.out] at hW
    have HW := Lib.hid hW
    have hci : ¬ (k : Int) + 1 < (M : Int) := by omega
    have hci2 : (((k : Int) + 1) == (M : Int)) = true := by simp; omega
    have hn0 : ¬ (n : Int) = 0 := by omega
    have hWb : (I : Int) + (Q : Int) ≤ 4294967295 := by omega
    clear hQ hW hc b1 b2
    go_wp2_with (go_at_call 178; refine (hid.out _).mono ?_; rintro e w' ⟨rfl, rfl⟩)
    go_roundw
    case rel => exact ⟨k + 1, by omega, by go_num, by show World.ownsRow _ _ _ _ _ _ _; rw [← hids.out, ← hset.out]; have := hst.out; rw [HW.out] at this ⊢; exact this, hbl.out.setCell (Nat.le_refl _) _⟩
    case measure => simp [intOf]; omega
   ·have hW := wt_gt n (k + 1) R M HR.out HM.out hc
    rw [hI'.out] at hW
    have HW := Lib.hid hW
    have hci : ¬ (k : Int) + 1 < (M : Int) := by omega
    have hci2 : (((k : Int) + 1) == (M : Int)) = false := by simp; omega
    have hWb : (I : Int) ≤ 4294967295 := by omega
    clear hW hc b1 b2
    go_wp2_with (go_at_call 178; refine (hid.out _).mono ?_; rintro e w' ⟨rfl, rfl⟩)
    go_roundw
    case rel => exact ⟨k + 1, by omega, by go_num, by show World.ownsRow _ _ _ _ _ _ _; rw [← hids.out, ← hset.out]; have := hst.out; rw [HW.out] at this ⊢; exact this, hbl.out.setCell (Nat.le_refl _) _⟩
    case measure => simp [intOf]; omega
  ·obtain rfl : n = k := by omega
   have hle : ¬ (n : Int) + 1 ≤ (n : Int) := by omega
   have hfin := hown.out
   rw [wsl_all] at hfin
   have HF := Lib.hid hfin
   clear hfin
   go_wp2_with fail
   go_ret
   exact ⟨_, n, rfl, HF.out, hbl⟩
end Go.Proofs.YtmncpgfdpcckpaaGreatDoor
namespace Go.Proofs.YtmncpgfdpcckpaaGreatDoor
open Go.RowKit
open SoM
def u6 (l : List Nat) : List Value := l.map fun (x : Nat) => Value.int .u64 (x : Int)
theorem u6_get (l : List Nat) (k : Nat) (h : k < l.length) : (u6 l)[k]? = some (.int .u64 (l.getD k 0 : Nat)) := by simp [u6, h, List.getD]
theorem sms_length (n k : Nat) : (sms n k).length = k := by simp [sms]
theorem sms_next (n k : Nat) : sms n (k + 1) = sms n k ++ [sm n (k + 1)] := by simp [sms, List.range_succ]
theorem ws_getD (n k : Nat) (h : k < n) : (ws n n).getD k 0 = wt n (k + 1) := by simp [ws, h, List.getD]
theorem Tryz.info137 : (Tryz.prog.info? 137).map (fun i => (i.zero, i.size, i.bytes)) = some (some (.int .u64 0), 1, 8) := by kernel_rfl
def SolAddOk (g n : Nat) (d m : Int) (w : World) (e : Ending) (w' : World) : Prop :=
 e = .returned (.tuple #[]) ∧ ∃ A c, Hid (Tab w' g n d m (.slice A n c)) ∧ Hid (w'.ownsRow w.heap.size 137 1 (.slice A n c) n (u6 (sms n n))) ∧ Hid (But w.heap.size g w w')
theorem Tab.set {w : World} {g n : Nat} {d m : Int} {v : Value} (h : Tab w g n d m v) (u : Value) : Tab (w.setCell ⟨g, 4, none⟩ u) g n d m u := by
 unfold Tab
 rw [heap_setCell_same w g 4 _ _ _ h]; rfl
set_option maxHeartbeats 3200000 in
theorem soladd_any (g n : Nat) (d m : Int) (w : World) (h : Tab w g n d m (.slice none 0 0)) (h1 : 1 ≤ n) (h2 : n ≤ 80) : Calls Tryz.prog 145 #[.pointer (some ⟨g, 0, none⟩)] w (SolAddOk g n d m w) := by
 obtain ⟨i0, hi, hz0, hz1, hz2⟩ := info_parts Tryz.info137
 have HT := Lib.hid h
 have hlt := h.lt
 clear h
 go_enter Tryz.func145, Tryz.ntmps145
 go_wp2_with fail
 refine (weights_any g n d m _ w HT.out h1 h2).mono ?_
 rintro e w1 ⟨Aw, cw, rfl, hown, hb1⟩
 have hs1 := hb1.out.size
 have HT1 := Lib.hid (HT.out.below hb1.out hlt)
 obtain ⟨gw, cw', hv, hgw, hgw1⟩ := hown.out.form (by omega)
 injection hv with e1 e2 e3
 subst e1 e3
 have HROW := Lib.hid (Row.of_own hown.out)
 clear hown
 go_wp2_with fail
 go_loopw [2, 8] (fun s z wr => ∃ (k : Nat) (Av : Option Addr) (cv : Nat), k ≤ n ∧ s = .int .u64 (sm n k : Nat) ∧ z = .int .i64 k ∧ Hid (Tab wr g n d m (.slice Av k cv)) ∧ Hid (wr.ownsRow w1.heap.size 137 1 (.slice Av k cv) k (u6 (sms n k))) ∧ Hid (But w1.heap.size g w1 wr)) (fun _ z _ => n - (intOf z).toNat)
 case atStart => exact ⟨0, none, 0, by omega, rfl, rfl, HT1, World.ownsRow_nil _ _ _ _, But.refl _ _ _⟩
 case round =>
  obtain ⟨k, Av, cv, hk, rfl, rfl, hT, hown, hbt⟩ := hrel
  clear HT1
  by_cases hlk : k < n
  ·have hrow := HROW.out.but hbt.out (by intro b o e _; injection e with e; injection e with e1 e2; omega)
   obtain ⟨b, o, eA, _, hcw⟩ := hrow.cellAt hlk (uv_get _ k (by simp [ws]; exact hlk))
   injection eA with eA
   injection eA with eb eo
   subst eb eo
   rw [ws_getD n k hlk, Nat.zero_add] at hcw
   obtain ⟨b1, b2, _, b4, _, _, _⟩ := wt_bound n (k + 1) h1 h2 (by omega) (by omega)
   have hsn : sm n (k + 1) = sm n k + wt n (k + 1) := rfl
   have hnx := Lib.hid (sms_next n k)
   have HSN := Lib.hid hsn
   rw [hsn] at b4 hnx
   obtain ⟨_, _, _, _, c4⟩ := hT.out.cells
   generalize wt n (k + 1) = x at *
   generalize sm n k = s at *
   have hx2 : (s : Int) + (x : Int) ≤ 4000000 := by omega
   clear hrow hsn b1 b2 b4
   have hsz := hbt.out.size
   go_wp2_with (at_builtin; refine wpList_app rfl (.tmp 20) (.tmp 22) 187 rfl w1.heap.size 137 i0 (.int .u64 0) 8 Tryz.underlying187 hi hz0 hz1 hz2 rfl _ k _ rfl (hown.out.alloc _) _ _ 1 1 _ rfl (row_new wr _ _ _) (by intro u hu; simp at hu; subst hu; rfl) (by unfold maxLen; omega) (by omega) (by simp; omega) ?_; intro v2 w2 hown2 hg2 hat2; obtain ⟨A2, c2, rfl, _⟩ := own_slice hown2; have hb2 := below_app ((Below.refl w1.heap.size wr).alloc hsz _) (by simp; omega) (hown.out.alloc _) (Nat.le_refl _) hg2; have hT2 := hT.out.below hb2 (by omega); obtain ⟨_, _, _, _, d4⟩ := hT2.cells; have df := hT2.frozen 4; have HT2 := Lib.hid hT2; have HO2 := Lib.hid hown2; have HB2 := Lib.hid hb2; clear hown2 hg2 hat2 hb2 hT2)
   have hTn : Hid (Tab (w2.setCell ⟨g, 4, none⟩ (.slice A2 (k + 1) c2)) g n d m (.slice A2 (k + 1) c2)) := HT2.out.set _
   have hOn : Hid ((w2.setCell ⟨g, 4, none⟩ (.slice A2 (k + 1) c2)).ownsRow w1.heap.size 137 1 (.slice A2 (k + 1) c2) (k + 1) (u6 (sms n (k + 1)))) := by
    have h3 := own_but HO2.out ((But.refl w2.heap.size g w2).setSelf 4 (.slice A2 (k + 1) c2)) (by omega)
    show World.ownsRow _ _ _ _ _ _ _
    rw [hnx.out]
    simpa [u6] using h3
   have hBn : Hid (But w1.heap.size g w1 (w2.setCell ⟨g, 4, none⟩ (.slice A2 (k + 1) c2))) := (hbt.out.trans (But.of_below HB2.out)).setSelf 4 _
   clear d4 df c4 hcw
   go_roundw
   case rel => exact ⟨k + 1, A2, c2, by omega, by rw [HSN.out]; go_num, by go_num, hTn, hOn, hBn⟩
   case measure => simp [intOf]; omega
  ·obtain rfl : n = k := by omega
   go_wp2_with fail
   go_end0
   exact ⟨rfl, Av, cv, hT, own_base hown.out hs1, (But.of_below hb1.out).trans (hbt.out.mono hs1)⟩
end Go.Proofs.YtmncpgfdpcckpaaGreatDoor
namespace Go.Proofs.YtmncpgfdpcckpaaGreatDoor
open Go.RowKit
open SoM
theorem disable (w : World) : (callFunc 190 #[]).run Tryz.prog w = .ok (.value (.tuple #[])) w := run_call_mark0 Tryz.func190 (by kernel_rfl) (by kernel_rfl) (by kernel_rfl) .disable (by kernel_rfl) w
theorem enable (w : World) : (callFunc 192 #[]).run Tryz.prog w = .ok (.value (.tuple #[])) w := run_call_mark0 Tryz.func192 (by kernel_rfl) (by kernel_rfl) (by kernel_rfl) .enable (by kernel_rfl) w
theorem acquire (a : Addr) (w : World) : (callFunc 193 #[.pointer (some a)]).run Tryz.prog w = .ok (.value (.tuple #[])) w := run_call_marked Tryz.func193 (by kernel_rfl) (by kernel_rfl) (by kernel_rfl) .acquire (by kernel_rfl) a w
theorem releaseMerge (a : Addr) (w : World) : (callFunc 195 #[.pointer (some a)]).run Tryz.prog w = .ok (.value (.tuple #[])) w := run_call_marked Tryz.func195 (by kernel_rfl) (by kernel_rfl) (by kernel_rfl) .releaseMerge (by kernel_rfl) a w
theorem store_deferred (a : Addr) (x : Value) (u : FrameMode) (w : World) (hc : w.cell? a = some x) (hz : w.frozen? a = false) :
  CallsD Tryz.prog 162 #[.pointer (some a), .bool true] u w fun e u' w' => u' = u ∧ (e = .returned (.tuple #[]) ∧ w' = w.drew.setCell a (.int .u32 1)) := by
 have hc' : w.drew.cell? a = some x := by go_simp
 have hz' : w.drew.frozen? a = false := by go_simp
 have hst := run_call_store (P := Tryz.prog) Tryz.func155 (by kernel_rfl) (by kernel_rfl) (by kernel_rfl) (by kernel_rfl) (k := .u32) (y := 1) hc' hz'
 go_enter_d Tryz.func162, Tryz.ntmps162
 go_wp2
 go_region_calls
 all_goals (go_end0; exact ⟨rfl, rfl⟩)
set_option maxHeartbeats 1600000 in
theorem unlock_deferred (a : Addr) (u : FrameMode) (w : World) (hc : w.cell? a = some (.int .i32 1)) (hz : w.frozen? a = false) :
  CallsD Tryz.prog 161 #[.pointer (some a)] u w fun e u' w' => u' = u ∧ (e = .returned (.tuple #[]) ∧ w' = w.setCell a (.int .i32 0)) := by
 have hd := disable
 have he := enable
 have hr := releaseMerge
 have hadd := run_call_add (P := Tryz.prog) Tryz.func196 (by kernel_rfl) (by kernel_rfl) (by kernel_rfl) .i32 (by kernel_rfl) (y := -1) (s := 0) hc hz (by simp [go_sem]; rfl)
 have hcv := run_convert_to_unsafe (P := Tryz.prog) (src := 240) (dst := 244) Tryz.underlying240 Tryz.underlying244 (by kernel_rfl) hc
 go_enter_d Tryz.func161, Tryz.ntmps161
 go_wp2
 go_end0
 go_wp2
 go_end0
 exact ⟨rfl, rfl⟩
set_option maxHeartbeats 1600000 in
theorem lock_free (a : Addr) (w : World) (hc : w.cell? a = some (.int .i32 0)) (hz : w.frozen? a = false) :
  Calls Tryz.prog 160 #[.pointer (some a)] w fun e w' => e = .returned (.tuple #[]) ∧ w' = w.setCell a (.int .i32 1) := by
 have hd := disable
 have he := enable
 have ha := acquire
 have hcas := run_call_cas_hit (P := Tryz.prog) Tryz.func191 (by kernel_rfl) (by kernel_rfl) (by kernel_rfl) .i32 (by kernel_rfl) (y := 1) hc hz
 have hc' : (w.setCell a (.int .i32 1)).cell? a = some (.int .i32 1) := World.cell?_setCell_same w a _ hc
 have hcv := run_convert_to_unsafe (P := Tryz.prog) (src := 240) (dst := 244) Tryz.underlying240 Tryz.underlying244 (by kernel_rfl) hc'
 go_enter Tryz.func160, Tryz.ntmps160
 go_wp2
 first | go_end0 | (simp only [Exit.inBlock, Exit.then]; refine bodyPost_ret (results_none rfl _ _ _) rfl ?_) | refine bodyPost_ret (results_none rfl _ _ _) rfl ?_
 go_wp2
 go_end0
 exact ⟨rfl, rfl⟩
theorem bload_no (a : Addr) (w : World) (hc : w.cell? a = some (.int .u32 0)) : Calls Tryz.prog 148 #[.pointer (some a)] w fun e w' => e = .returned (.bool false) ∧ w = w' := by
 have hl := run_call_load (P := Tryz.prog) Tryz.func159 (by kernel_rfl) (by kernel_rfl) (by kernel_rfl) .u32 (by kernel_rfl) hc
 go_enter Tryz.func148, Tryz.ntmps148
 go_wp2
 go_ret
 exact ⟨rfl, rfl⟩
theorem bload_yes (a : Addr) (w : World) (hc : w.cell? a = some (.int .u32 1)) : Calls Tryz.prog 148 #[.pointer (some a)] w fun e w' => e = .returned (.bool true) ∧ w = w' := by
 have hl := run_call_load (P := Tryz.prog) Tryz.func159 (by kernel_rfl) (by kernel_rfl) (by kernel_rfl) .u32 (by kernel_rfl) hc
 go_enter Tryz.func148, Tryz.ntmps148
 go_wp2
 go_ret
 exact ⟨rfl, rfl⟩
theorem Tab.setM {w : World} {g n : Nat} {d m : Int} {v : Value} (h : Tab w g n d m v) (m' : Int) : Tab (w.setCell ⟨g, 2, none⟩ (.int .i32 m')) g n d m' v := by
 unfold Tab
 rw [heap_setCell_same w g 2 _ _ _ h]; rfl
theorem Tab.setD {w : World} {g n : Nat} {d m : Int} {v : Value} (h : Tab w g n d m v) (d' : Int) : Tab (w.setCell ⟨g, 1, none⟩ (.int .u32 d')) g n d' m v := by
 unfold Tab
 rw [heap_setCell_same w g 1 _ _ _ h]; rfl
def DoOk (g n : Nat) (w : World) (e : Ending) (w' : World) : Prop :=
 e = .returned (.tuple #[]) ∧ ∃ A c, Hid (Tab w' g n 1 0 (.slice A n c)) ∧ Hid (w'.ownsRow w.heap.size 137 1 (.slice A n c) n (u6 (sms n n))) ∧ Hid (But w.heap.size g w w')
set_option maxHeartbeats 3200000 in
theorem slow_any (g n : Nat) (w : World) (h : Tab w g n 0 0 (.slice none 0 0)) (h1 : 1 ≤ n) (h2 : n ≤ 80) :
  Calls Tryz.prog 149 #[.pointer (some ⟨g, 1, none⟩), .func (.func 145) #[.pointer (some ⟨g, 0, none⟩)] #[]] w (DoOk g n w) := by
 have HT := Lib.hid h
 have hlt := h.lt
 have HTM := Lib.hid (h.setM 1)
 have hnot : ∀ (x : Bool) (w : World), (Op.unary .not (.bool x)).run Tryz.prog w = .ok (.bool (!x)) w := fun _ _ => rfl
 clear h
 go_enter_defers Tryz.func149, Tryz.ntmps149
 go_wp2_with (first | (go_at_call 160; refine (lock_free ⟨g, 2, none⟩ _ HT.out.cells.2.2.1 (HT.out.frozen 2)).mono ?_; rintro e w' ⟨rfl, rfl⟩) | (go_at_call 148; refine (bload_no _ _ HTM.out.cells.2.1).mono ?_; rintro e w' ⟨rfl, rfl⟩))
 refine (soladd_any g n 0 1 _ HTM.out h1 h2).mono ?_
 rintro e w2 ⟨rfl, A, c, hT2, hown2, hbt2⟩
 have hbt : Hid (But w.heap.size g w w2) := ((But.refl _ _ _).setSelf 2 _).trans (by simpa using hbt2.out)
 have hown : Hid (w2.ownsRow w.heap.size 137 1 (.slice A n c) n (u6 (sms n n))) := by show World.ownsRow _ _ _ _ _ _ _; simpa using hown2.out
 clear hbt2 hown2
 go_wp2
 have hT2d : Tab w2.drew g n 0 1 (.slice A n c) := hT2.out
 have HT3 := Lib.hid (hT2d.setD 1)
 refine leaves_cons (f := 162) (args := #[.pointer (some ⟨g, 1, none⟩), .bool true]) (by simp) (by simp [go_sem]) ?_
 refine (store_deferred ⟨g, 1, none⟩ (.int .u32 0) .returning _ hT2.out.cells.2.1 (hT2.out.frozen 1)).mono ?_
 rintro e u' w'' ⟨rfl, rfl, rfl⟩
 refine leaves_cons (f := 161) (args := #[.pointer (some ⟨g, 2, none⟩)]) (by simp [settle]) (by simp [go_sem]) ?_
 refine (unlock_deferred ⟨g, 2, none⟩ _ _ HT3.out.cells.2.2.1 (HT3.out.frozen 2)).mono ?_
 rintro e u' w'' ⟨rfl, rfl, rfl⟩
 simp [Leaves, settle, results, Tryz.results149]
 have hB : But w2.heap.size g w2 ((w2.drew.setCell ⟨g, 1, none⟩ (.int .u32 1)).setCell ⟨g, 2, none⟩ (.int .i32 0)) := ((But.of_below (Below.refl _ _).drew).setSelf 1 _).setSelf 2 _
 exact ⟨rfl, A, c, HT3.out.setM 0, own_but hown.out hB hlt, hbt.out.trans (hB.mono hbt.out.size)⟩
theorem do_first (g n : Nat) (w : World) (h : Tab w g n 0 0 (.slice none 0 0)) (h1 : 1 ≤ n) (h2 : n ≤ 80) :
  Calls Tryz.prog 115 #[.pointer (some ⟨g, 1, none⟩), .func (.func 145) #[.pointer (some ⟨g, 0, none⟩)] #[]] w (DoOk g n w) := by
 have HT := Lib.hid h
 have hnot : ∀ (x : Bool) (w : World), (Op.unary .not (.bool x)).run Tryz.prog w = .ok (.bool (!x)) w := fun _ _ => rfl
 clear h
 go_enter Tryz.func115, Tryz.ntmps115
 go_wp2_with (go_at_call 148; refine (bload_no _ _ HT.out.cells.2.1).mono ?_; rintro e w' ⟨rfl, rfl⟩)
 refine (slow_any g n w HT.out h1 h2).mono ?_
 rintro e w2 ⟨rfl, A, c, hT2, hown2, hbt2⟩
 go_wp2
 go_end0
 exact ⟨rfl, A, c, hT2, hown2, hbt2⟩
end Go.Proofs.YtmncpgfdpcckpaaGreatDoor
namespace Go.Proofs.YtmncpgfdpcckpaaGreatDoor
open Go.RowKit
open SoM
theorem sm_mono (n i j : Nat) (h : i ≤ j) : sm n i ≤ sm n j := by
 induction j with
 | zero =>
  have h0 : i = 0 := by omega
  subst h0
  exact Nat.le_refl _
 | succ j ih =>
  rcases Nat.lt_or_ge j i with h2 | h2
  ·obtain rfl : i = j + 1 := by omega
   exact Nat.le_refl _
  ·have := ih h2
   show sm n i ≤ sm n j + wt n (j + 1)
   omega
def IsDeg (n a d : Nat) : Prop := 1 ≤ d ∧ d ≤ n ∧ sm n (d - 1) ≤ a ∧ a < sm n d
theorem IsDeg.uniq {n a d d' : Nat} (h : IsDeg n a d) (h' : IsDeg n a d') : d = d' := by
 obtain ⟨_, _, h3, h4⟩ := h
 obtain ⟨_, _, h7, h8⟩ := h'
 rcases Nat.lt_trichotomy d d' with e | e | e
 ·have := sm_mono n d (d' - 1) (by omega); omega
 ·exact e
 ·have := sm_mono n d' (d - 1) (by omega); omega
theorem sms_getD (n k : Nat) (h : k < n) : (sms n n).getD k 0 = sm n (k + 1) := by simp [sms, h, List.getD]
def atx (n x : Nat) : Nat := x * sm n n / 4294967296
theorem atx_lt (n x : Nat) (h1 : 1 ≤ n) (h2 : n ≤ 80) (hx : x < 4294967296) : atx n x < sm n n := by
 obtain ⟨_, _, _, _, _, _, h7⟩ := wt_bound n n h1 h2 h1 (Nat.le_refl _)
 unfold atx
 rw [Nat.div_lt_iff_lt_mul (by omega), Nat.mul_comm]
 exact Nat.mul_lt_mul_of_pos_left hx h7
def Full (w : World) (g n : Nat) : Prop := ∃ A c, Tab w g n 1 0 (.slice A n c) ∧ Row w w.heap.size A n (u6 (sms n n)) ∧ (∀ b o, A = some ⟨b, o, none⟩ → b ≠ g)
theorem Full.below {w w' : World} {g n : Nat} (h : Full w g n) (hb : Below w.heap.size w w') : Full w' g n := by
 obtain ⟨A, c, h1, h2, h3⟩ := h
 exact ⟨A, c, h1.below hb h1.lt, (h2.below hb).more hb.size, h3⟩
def DegOk (g n x : Nat) (w : World) (e : Ending) (w' : World) : Prop :=
 ∃ d : Nat, e = .returned (.int .i64 (d : Int)) ∧ Hid (IsDeg n (atx n x) d) ∧ Hid (Full w' g n) ∧ Hid (But w.heap.size g w w')
set_option maxHeartbeats 3200000 in
theorem degree_first (g n x : Nat) (w : World) (h : Tab w g n 0 0 (.slice none 0 0)) (h1 : 1 ≤ n) (h2 : n ≤ 80) (hx : x < 4294967296) :
  Calls Tryz.prog 111 #[.pointer (some ⟨g, 0, none⟩), .int .u32 (x : Int)] w (DegOk g n x w) := by
 have HT0 := Lib.hid h
 have hglt := h.lt
 have HX := Lib.hid hx
 clear h hx
 go_enter Tryz.func111, Tryz.ntmps111
 go_wp2_with (go_at_call 144; refine (empty_no g n 0 0 _ _ HT0.out h1).mono ?_; rintro e w' ⟨rfl, rfl⟩)
 refine (do_first g n w HT0.out h1 h2).mono ?_
 rintro e w2 ⟨rfl, A, c, hT2, hown2, hbt⟩
 have hx := HX.out
 have hAg : ∀ b o, A = some ⟨b, o, none⟩ → b ≠ g := by
  intro b o eA
  obtain ⟨g', c', hv, hg', _⟩ := hown2.out.form (by omega)
  injection hv with e1 e2 e3
  rw [eA] at e1
  injection e1 with e1
  injection e1 with e1
  omega
 have hT := hT2.out
 have hR := Row.of_own hown2.out
 have HF : Hid (Full w2 g n) := ⟨A, c, hT, hR, hAg⟩
 clear hAg hT2 hown2 HT0
 obtain ⟨c0, _, _, _, c4⟩ := hT.cells
 obtain ⟨b, o, rfl, _, hcl⟩ := hR.cellAt (k := n - 1) (by omega) (u6_get _ (n - 1) (by rw [sms_length]; omega))
 rw [sms_getD n (n - 1) (by omega), show n - 1 + 1 = n by omega] at hcl
 have HR := Lib.hid hR
 obtain ⟨_, _, _, hs4, _, _, _⟩ := wt_bound n n h1 h2 h1 (Nat.le_refl _)
 have HATL := Lib.hid (atx_lt n x h1 h2 hx)
 obtain ⟨S, hS⟩ : ∃ S, sm n n = S := ⟨_, rfl⟩
 obtain ⟨T, hTT⟩ : ∃ T, atx n x = T := ⟨_, rfl⟩
 rw [hS] at hcl hs4
 have hmul : ∃ Q : Nat, (x : Int) * (S : Int) = (Q : Int) ∧ Q ≤ 18446744073709551615 ∧ (Q : Int) / 4294967296 = (T : Int) := by
  refine ⟨x * S, by push_cast; rfl, ?_, ?_⟩
  ·have := Nat.mul_le_mul (show x ≤ 4294967296 by omega) hs4
   omega
  ·rw [← hTT, atx, hS]; rfl
 obtain ⟨Q, hQ, hQ2, hQ3⟩ := hmul
 have HTT := Lib.hid hTT
 have HS := Lib.hid hS
 rw [hTT] at HATL
 have hni : (0 : Int) ≤ (n : Int) - 1 := by omega
 have hni2 : (n : Int) - 1 < (n : Int) := by omega
 have hnn : ((n : Int) - 1).toNat = n - 1 := by omega
 have hwn : IntKind.i64.wrap ((n : Int) - 1) = (n : Int) - 1 := IntWalk.i64_in _ (by omega)
 have hQi : (Q : Int) ≤ 18446744073709551615 := by omega
 have hwq : IntKind.u64.wrap (Q : Int) = (Q : Int) := by simp only [IntKind.wrap, IntKind.bits, IntKind.signed]; simp; omega
 have hwx : IntKind.u64.wrap (x : Int) = (x : Int) := by simp only [IntKind.wrap, IntKind.bits, IntKind.signed]; simp; omega
 have HQI := Lib.hid hQi
 clear hT hR hs4 hS hTT hQ2 hQi hx
 go_wp2_with fail
 go_quiet (fail)
 go_wp2_with fail
 have hFd : Hid (Full (w2.drewN nq) g n) := HF.out.below ⟨rfl, rfl, rfl, Nat.le_refl _, fun _ _ => rfl⟩
 have hBd : Hid (But w.heap.size g w (w2.drewN nq)) := hbt.out.trans <| But.of_below ⟨rfl, rfl, rfl, Nat.le_refl _, fun _ _ => rfl⟩
 have hc4d : (w2.drewN nq).cell? ⟨g, 4, none⟩ = some (.slice (some ⟨b, o, none⟩) n c) := c4
 have hRd : Hid (Row (w2.drewN nq) w2.heap.size (some ⟨b, o, none⟩) n (u6 (sms n n))) := HR.out
 clear c0 c4 hcl hwx hwq hQ hQ3 hwn hnn hni hni2
 generalize w2.drewN nq = w1 at *
 go_loop [6] (fun z => ∃ k : Nat, k < n ∧ z = .int .i64 (k + 1 : Nat) ∧ sm n k ≤ T) (fun z => n + 1 - (intOf z).toNat)
 case atStart => exact ⟨0, by omega, rfl, by simp [sm]⟩
 case round =>
  obtain ⟨k, hk, rfl, hle⟩ := hrel
  rw [show ((k + 1 : Nat) : Int) = (k : Int) + 1 by push_cast; rfl]
  obtain ⟨b', o', e', _, hcl⟩ := hRd.out.cellAt (k := k) hk (u6_get _ k (by rw [sms_length]; exact hk))
  injection e' with e'
  injection e' with e1 e2
  subst e1 e2
  rw [sms_getD n k hk] at hcl
  have hki : (k : Int) < (n : Int) := by omega
  have HLE := Lib.hid hle
  obtain ⟨Y, hY⟩ : ∃ Y, sm n (k + 1) = Y := ⟨_, rfl⟩
  rw [hY] at hcl
  have HY := Lib.hid hY
  clear hle hY
  by_cases hc : Y ≤ T
  ·have hci : (Y : Int) ≤ (T : Int) := by omega
   have hkn : k + 1 < n := by
    rcases Nat.lt_or_ge (k + 1) n with h | h
    ·exact h
    ·have : k + 1 = n := by omega
     have h2 := HATL.out
     have h3 := HY.out
     rw [this] at h3
     omega
   go_wp2_with fail
   go_round
   case rel => exact ⟨k + 1, by omega, by go_num, by rw [HY.out]; exact hc⟩
   case measure => simp [intOf]; omega
  ·have hci : ¬ (Y : Int) ≤ (T : Int) := by omega
   go_wp2_with fail
   go_ret
   refine ⟨k + 1, rfl, ?_, hFd, hBd⟩
   show IsDeg _ _ _
   rw [HTT.out]
   exact ⟨by omega, by omega, HLE.out, by rw [HY.out]; omega⟩
end Go.Proofs.YtmncpgfdpcckpaaGreatDoor
