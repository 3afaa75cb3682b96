/- rand.Some: by contract. -/
import Derived.Test.YtibleaaghhhjkaaDoorRand
import Derived.Test.YtibleaaghhhjkaaDoorShelf
import Derived.Sort.OwnSortedInts
import Derived.BigRegion
import Derived.Deep.DeepCutAuto
namespace Go.Proofs.YtibleaaghhhjkaaDoor
open Go.RowKit
open RdM
def iv (l : List Int) : List Value := l.map (Value.int .i64)
theorem iv_length (l : List Int) : (iv l).length = l.length := by simp [iv]
theorem iv_get (l : List Int) (k : Nat) (h : k < l.length) : (iv l)[k]? = some (.int .i64 (l.getD k 0)) := by simp [iv, h, List.getD]
theorem Tryd.info3 : (Tryd.prog.info? 3).map (fun i => (i.zero, i.size, i.bytes)) = some (some (.int .i64 0), 1, 8) := by kernel_rfl
theorem mk_ints (c : Nat) (hc : c ≤ 1000000) (w : World) : (Instr.makeSlice 34 (.int .i64 (c : Int)) (.int .i64 (c : Int))).run Tryd.prog w = .ok (.slice (some ⟨w.heap.size, 0, none⟩) c c) (w.alloc (.cells (Array.replicate c (.int .i64 0)) 3)) := by
  obtain ⟨i0, hi, hz0, hz1, hz2⟩ := info_parts Tryd.info3
  have := run_make (P := Tryd.prog) w 34 3 i0 (.int .i64 0) Tryd.underlying34 hi hz0 .i64 .i64 c c (by omega) (Int.le_refl _) (by rw [hz2]; omega) (by omega)
  have e : madeCells #[Value.int .i64 0] c = Array.replicate c (.int .i64 0) := by
    apply Array.toList_inj.1
    rw [toList_madeCells_one]; simp
  simpa [hz1, Value.cells, e] using this
/-- the first k places hold their own number -/
def idl (n k : Nat) : List Int := (List.range n).map fun j => if j < k then (j : Int) else 0
theorem idl_length (n k : Nat) : (idl n k).length = n := by simp [idl]
theorem idl_get (n k j : Nat) (h : j < n) : (idl n k)[j]? = some (if j < k then (j : Int) else 0) := by simp [idl, h]
theorem idl_zero (n : Nat) : idl n 0 = List.replicate n 0 := by
  apply List.ext_getElem <;> simp [idl]
theorem idl_all (n : Nat) : idl n n = ids n := by
  apply List.ext_getElem?
  intro j
  by_cases h : j < n
  · rw [idl_get n n j h]; simp [ids, h]
  · rw [List.getElem?_eq_none (by rw [idl_length]; omega), List.getElem?_eq_none (by rw [ids_length]; omega)]
theorem idl_set (n k : Nat) (h : k < n) : (idl n k).set k (k : Int) = idl n (k + 1) := by
  apply List.ext_getElem?
  intro j
  rw [List.getElem?_set]
  by_cases hj : j < n
  · rw [idl_get n (k + 1) j hj]
    by_cases e : k = j
    · subst e; simp [idl_length, h]
    · rw [if_neg e, idl_get n k j hj]
      by_cases h1 : j < k
      · rw [if_pos h1, if_pos (by omega)]
      · rw [if_neg h1, if_neg (by omega)]
  · rw [List.getElem?_eq_none (by rw [idl_length]; omega)]
    rw [List.getElem?_eq_none (by rw [idl_length]; omega)]
    split
    · split
      · rename_i h3; rw [idl_length] at h3; omega
      · rfl
    · rfl
theorem iv_set (l : List Int) (k : Nat) (v : Int) : (iv l).set k (.int .i64 v) = iv (l.set k v) := by simp [iv, List.map_set]
theorem some_nil (n k : Int) (w : World) : Calls Tryd.prog 26 #[.pointer none, .int .i64 n, .int .i64 k] w fun e w' => e = .returned (.slice none 0 0) ∧ w = w' := by
  go_enter Tryd.func26, Tryd.ntmps26
  go_wp2
  go_ret
  exact ⟨rfl, rfl⟩
theorem some_out (g : Nat) (n k : Int) (w : World) (h : n < 1 ∨ 256 < n) : Calls Tryd.prog 26 #[.pointer (some ⟨g, 0, none⟩), .int .i64 n, .int .i64 k] w fun e w' => e = .returned (.slice none 0 0) ∧ w = w' := by
  by_cases h1 : n < 1
  · go_enter Tryd.func26, Tryd.ntmps26
    go_wp2
    go_ret
    exact ⟨rfl, rfl⟩
  · have h2 : 256 < n := by omega
    go_enter Tryd.func26, Tryd.ntmps26
    go_wp2
    go_ret
    exact ⟨rfl, rfl⟩
/-- how many are told -/
def kk (n : Nat) (k : Int) : Nat := (min (max k 0) n).toNat
def SomeOk (g n : Nat) (x : Int) (K : Nat) (w : World) (e : Ending) (w' : World) : Prop :=
  ∃ A c, e = .returned (.slice A K c) ∧ w'.ownsRow w.heap.size 3 1 (.slice A K c) K (iv (some_ n x K)) ∧ Src w' g (shk x K) ∧ But w.heap.size g w w'
theorem setsrc {w : World} {g B i j : Nat} {x : Int} (h : Src w g x) (hg : g < B) (u v : Value) : Src ((w.setCell ⟨B, i, none⟩ u).setCell ⟨B, j, none⟩ v).drew g x :=
  ⟨by show ((w.setCell ⟨B, i, none⟩ u).setCell ⟨B, j, none⟩ v).heap[g]? = _; rw [Below.heap_setCell _ _ _ _ (by show g ≠ B; omega), Below.heap_setCell _ _ _ _ (by show g ≠ B; omega)]; exact h.1, h.2⟩
theorem setbut {w w' : World} {B g i j : Nat} (h : But B g w w') (hB : B ≤ B) (u v : Value) : But B g w ((w'.setCell ⟨B, i, none⟩ u).setCell ⟨B, j, none⟩ v).drew :=
  h.trans (But.of_below (((Below.refl B w').setCell (Nat.le_refl _) u).setCell (Nat.le_refl _) v).drew)
set_option maxRecDepth 100000 in
set_option maxHeartbeats 3200000 in
theorem some_any (g n : Nat) (x k : Int) (w : World) (hs : Src w g x) (h1 : 1 ≤ n) (h2 : n ≤ 256) (K : Nat) (hK : kk n k = K) : Calls Tryd.prog 26 #[.pointer (some ⟨g, 0, none⟩), .int .i64 n, .int .i64 k] w (SomeOk g n x K w) := by
  have hKn : K ≤ n := by rw [← hK]; unfold kk; omega
  have hKi : min (max k 0) (n : Int) = (K : Int) := by rw [← hK]; unfold kk; omega
  have hKi2 := Lib.hid hKi
  have hmk := mk_ints n (by omega) w
  have HS := Lib.hid hs
  have hglt := hs.lt
  clear hK hKi hs
  go_enter Tryd.func26, Tryd.ntmps26
  go_upto_region 4 with fail
  rw [hKi2.out]
  go_wp2_with fail
  clear hmk
  go_loopw [30] (fun z wr => ∃ i : Nat, i ≤ n ∧ z = .int .i64 i ∧ Hid (wr.ownsRow w.heap.size 3 1 (.slice (some ⟨w.heap.size, 0, none⟩) n n) n (iv (idl n i))) ∧ Hid (Below w.heap.size w wr)) (fun z _ => n - (intOf z).toNat)
  case atStart =>
    refine ⟨0, by omega, rfl, ?_, (Below.refl _ _).alloc (Nat.le_refl _) _⟩
    show World.ownsRow _ _ _ _ _ _ _
    rw [idl_zero]
    have := own_lit (w := w) (base := w.heap.size) (g := w.heap.size) (n := n) (e := 3) (Array.replicate n (.int .i64 0)) rfl (Nat.le_refl _) (by simp) (by unfold maxLen; omega)
    simpa [iv] using this
  case round =>
    obtain ⟨i, hi, rfl, hown, hbl⟩ := hrel
    by_cases hlt : i < n
    · have hfz := hown.out.frozenAt i
      have hcs := (hown.out.cellAt i (by omega)).trans (iv_get _ i (by rw [idl_length]; exact hlt))
      have hst := Lib.hid ((hown.out.stored i (.int .i64 (i : Int))).1)
      have hset := Lib.hid (iv_set (idl n i) i (i : Int))
      have hids := Lib.hid (idl_set n i hlt)
      generalize (idl n i).getD i 0 = u at *
      go_wp2_with fail
      go_roundw
      case rel => exact ⟨i + 1, by omega, by go_num, by show World.ownsRow _ _ _ _ _ _ _; rw [← hids.out, ← hset.out]; exact hst.out, hbl.out.setCell (Nat.le_refl _) _⟩
      case measure => simp [intOf]; omega
    · obtain rfl : n = i := by omega
      have hgo0 : Hid (wr.ownsRow w.heap.size 3 1 (.slice (some ⟨w.heap.size, 0, none⟩) n n) n (iv (go n x 0))) := by
        show World.ownsRow _ _ _ _ _ _ _
        have := hown.out
        rwa [idl_all] at this
      have hsrc0 : Hid (Src wr g (shk x 0)) := HS.out.below hbl.out hglt
      have hbut0 : Hid (But w.heap.size g w wr) := But.of_below hbl.out
      clear hown hbl
      obtain ⟨wo, rfl⟩ : ∃ wo : World, wo = wr := ⟨_, rfl⟩
      go_wp2_with fail
      go_loopw [39] (fun z wr => ∃ i : Nat, i ≤ K ∧ z = .int .i64 i ∧ Hid (wr.ownsRow w.heap.size 3 1 (.slice (some ⟨w.heap.size, 0, none⟩) n n) n (iv (go n x i))) ∧ Hid (Src wr g (shk x i)) ∧ Hid (But w.heap.size g w wr)) (fun z _ => K - (intOf z).toNat)
      case atStart => exact ⟨0, by omega, rfl, hgo0, hsrc0, hbut0⟩
      case round =>
        obtain ⟨i, hi, rfl, hown, hsrc, hbut⟩ := hrel
        clear hgo0 hsrc0 hbut0
        by_cases hlt : i < K
        · have hni : (1 : Int) ≤ (n : Int) - (i : Int) := by omega
          have hni2 : (n : Int) - (i : Int) ≤ 2147483648 := by omega
          go_wp2_with fail
          refine (below_any g (shk x i) ((n : Int) - (i : Int)) wr hsrc.out hni hni2).mono ?_
          rintro e w1 ⟨rfl, hs1, hb1, hz1⟩
          obtain ⟨hq0, hq1⟩ := bl_bounds (shk x i) ((n : Int) - (i : Int)) hni hni2
          have hown1 := own_but hown.out hb1 hglt
          have hgo : Hid (go n x (i + 1) = swapL (go n x i) i (i + (bl (shk x i) ((n : Int) - i)).toNat)) := rfl
          have HS1 : Hid (Src w1 g (shk x (i + 1))) := hs1
          have hbut1 : Hid (But w.heap.size g w w1) := hbut.out.trans (hb1.mono hbut.out.size)
          generalize hq : bl (shk x i) ((n : Int) - (i : Int)) = q at *
          have HQ := Lib.hid hq
          clear hs1 hb1 hsrc hbut hq
          obtain ⟨j, rfl⟩ : ∃ j : Nat, q = j := ⟨q.toNat, by omega⟩
          have hp := go_length n x i
          have hcI := (hown1.cellAt i (by omega)).trans (iv_get _ i (by rw [hp]; omega))
          have hcJ := (hown1.cellAt (i + j) (by omega)).trans (iv_get _ (i + j) (by rw [hp]; omega))
          have hfI := hown1.frozenAt i
          have hfJ := hown1.frozenAt (i + j)
          have hst := Lib.hid ((((hown1.stored i (.int .i64 ((go n x i).getD (i + j) 0))).1).stored (i + j) (.int .i64 ((go n x i).getD i 0))).1)
          have hsw : Hid ((((iv (go n x i)).set i (.int .i64 ((go n x i).getD (i + j) 0))).set (i + j) (.int .i64 ((go n x i).getD i 0))) = iv (go n x (i + 1))) := by
            show _ = _
            rw [hgo.out, iv_set, iv_set, Int.toNat_natCast]; rfl
          have hmid : ∃ u, (w1.setCell ⟨w.heap.size, i, none⟩ (.int .i64 ((go n x i).getD (i + j) 0))).cell? ⟨w.heap.size, i + j, none⟩ = some u := by
            rw [((hown1.stored i (.int .i64 ((go n x i).getD (i + j) 0))).1).cellAt (i + j) (by omega)]
            exact ⟨_, List.getElem?_eq_getElem (by rw [List.length_set, iv_length, hp]; omega)⟩
          obtain ⟨um, hmid⟩ := hmid
          have HP := Lib.hid hp
          clear hp hgo
          generalize (go n x i).getD (i + j) 0 = vj at *
          generalize (go n x i).getD i 0 = vi at *
          have hij : (i : Int) + (j : Int) < (n : Int) := by omega
          have hii : (i : Int) < (n : Int) := by omega
          go_wp2_with fail
          go_region
          all_goals
            go_wp2_with fail
            go_roundw
            case rel => exact ⟨i + 1, by omega, by go_num, by show World.ownsRow _ _ _ _ _ _ _; rw [← hsw.out]; exact hst.out, setsrc HS1.out hglt _ _, setbut hbut1.out (Nat.le_refl _) _ _⟩
            case measure => simp [intOf]; omega
        · obtain rfl : K = i := by omega
          have hp := go_length n x K
          have hcz : Hid (∀ j, j < (go n x K).length → wr.cell? ⟨w.heap.size, 0 + j, none⟩ = some (.int .i64 ((go n x K).getD j 0))) := by
            intro j hj
            rw [Nat.zero_add]
            exact (hown.out.cellAt j (by omega)).trans (iv_get _ j hj)
          have hKc : (K : Int) ≤ (n : Int) := by omega
          have HP := Lib.hid hp
          clear hp
          go_wp2_with fail
          refine (Tryd.slices_Clone_int w.heap.size 0 K n (go n x K) wr (by rw [HP.out]; exact hKn) (by omega) hcz.out).mono ?_
          rintro e w2 ⟨v, rfl, howv, hvn, hb2⟩
          have hls : (((go n x K).take K).mergeSort fun a b => decide (a ≤ b)).length = K := by rw [List.length_mergeSort, List.length_take, HP.out]; omega
          have hlt0 : ((go n x K).take K).length = K := by rw [List.length_take, HP.out]; omega
          have HLS := Lib.hid hls
          have HL0 := Lib.hid hlt0
          have hs2 : Hid (Src w2 g (shk x K)) := hsrc.out.below hb2 (by have := hbut.out.size; omega)
          have hbut2 : Hid (But w.heap.size g w w2) := hbut.out.trans (But.of_below (hb2.mono hbut.out.size))
          have hsz2 : Hid (w.heap.size ≤ wr.heap.size) := hbut.out.size
          have HNZ := Lib.hid hvn
          clear hls hlt0 hvn
          rcases howv.2 with ⟨h0, _⟩ | ⟨g2, c2, cur, rfl, hg2, hh2, hc1, hc2, hc3, hc4⟩
          · exact absurd h0 HNZ.out
          have hH := Lib.hid (holds_of_blockI (ss := (go n x K).take K) hh2 (by rw [HL0.out]; have := hc4; rw [Nat.mul_one] at this; rw [this]))
          have hres := Lib.hid (fun (q : Nat) (os : Array Obj) => ownsRow_sortedI (w := w2) (base := wr.heap.size) (g := g2) (cap := c2) (n := q) (e := 3) (os := os) (cur := cur) (ss := (go n x K).take K) (ts := ((go n x K).take K).mergeSort fun a b => decide (a ≤ b)) (by rw [HLS.out, HL0.out]) hg2 hh2 (by rw [HL0.out]; exact hc1) hc2 hc3)
          have hg2lt : Hid (g2 < w2.heap.size) := (Array.getElem?_eq_some_iff.1 hh2).1
          have hG2 := Lib.hid hg2
          have HOV := Lib.hid howv
          clear howv hh2 hc4 hc3 hg2
          by_cases hK0 : K = 0
          · subst hK0
            go_wp2_with fail
            refine (Tryd.slices_Sort_int_none _ _ w2).mono ?_
            rintro e w3 ⟨rfl, rfl⟩
            go_wp2_with fail
            go_ret
            refine ⟨_, _, rfl, ?_, hs2.out, hbut2.out⟩
            have := own_base HOV.out hsz2.out
            simpa [some_, iv] using this
          · go_wp2_with fail
            have hsort := Tryd.slices_Sort_int g2 0 c2 ((go n x K).take K) w2 hH.out hg2lt.out (by rw [HL0.out]; omega)
            rw [HL0.out] at hsort
            refine hsort.mono ?_
            rintro e w3 ⟨rfl, q, os, rfl⟩
            have hr := hres.out q os
            rw [HL0.out] at hr
            have hgr := grownBy_sortedI (w := w2) (g := g2) (n := q) (os := os) (((go n x K).take K).mergeSort fun a b => decide (a ≤ b)).toArray
            have hb3 : Below wr.heap.size w2 (Sort.grow (Sort.putRow (Value.int .i64) (Sort.ahead w2 q) g2 0 (((go n x K).take K).mergeSort fun a b => decide (a ≤ b)).toArray) os) := (Below.refl wr.heap.size w2).grown hgr hb2.size (by intro k hk; injection hk with hk; subst hk; exact hG2.out)
            generalize hw3 : (Sort.grow (Sort.putRow (Value.int .i64) (Sort.ahead w2 q) g2 0 (((go n x K).take K).mergeSort fun a b => decide (a ≤ b)).toArray) os) = w3 at *
            clear hw3 hgr hsort
            have HR := Lib.hid hr
            clear hr
            go_wp2_with fail
            go_ret
            exact ⟨_, _, rfl, own_base HR.out hsz2.out, hs2.out.below hb3 (by have := hsz2.out; omega), hbut2.out.trans (But.of_below (hb3.mono hsz2.out))⟩
end Go.Proofs.YtibleaaghhhjkaaDoor
