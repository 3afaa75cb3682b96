/- DigestLong's walk. -/
import Derived.Test.YtapjaagigjfidaaDoorDgOnce
import Derived.Deep.DeepCutAuto
namespace Go.Proofs.YtapjaagigjfidaaDoor.Sh
open Go.RowKit
theorem Tryd.info23 : (Tryd.prog.info? 23).map (fun i => (i.zero, i.size, i.bytes)) = some (some (.slice none 0 0), 1, 24) := by kernel_rfl
theorem made_list (v : Value) (n : Nat) : madeCells #[v] n = Array.replicate n v := by
  apply Array.toList_inj.1
  rw [toList_madeCells_one]; simp
theorem mk_bytes (c : Nat) (hc : c ≤ 1000000000) (w : World) : (Instr.makeSlice 23 (.int .i64 (c : Int)) (.int .i64 (c : Int))).run Tryd.prog w = .ok (.slice (some ⟨w.heap.size, 0, none⟩) c c) (w.alloc (.cells (Array.replicate c (.int .u8 0)) 5)) := by
  obtain ⟨i0, hi, hz0, hz1, hz2⟩ := info_parts Tryd.info5
  have := run_make (P := Tryd.prog) w 23 5 i0 (.int .u8 0) Tryd.underlying23 hi hz0 .i64 .i64 c c (by omega) (Int.le_refl _) (by rw [hz2]; omega) (by omega)
  simpa [hz1, Value.cells, made_list] using this
/-- the rows of one byte each -/
def ones (g n k : Nat) : List Value := (List.range k).map fun j => Value.slice (some ⟨g, j, none⟩) 1 (n - j)
def onesB (g n k : Nat) (x : UInt8) : List BRow := (List.range k).map fun j => ⟨some ⟨g, j, none⟩, 1, n - j, [x]⟩
theorem onesB_flat (g n k : Nat) (x : UInt8) : flat (onesB g n k x) = List.replicate k x := by
  induction k with
  | zero => rfl
  | succ k ih =>
    have e : onesB g n (k + 1) x = onesB g n k x ++ [⟨some ⟨g, k, none⟩, 1, n - k, [x]⟩] := by simp [onesB, List.range_succ]
    rw [e, flat_snoc, ih, List.replicate_succ']
theorem onesB_val (g n k : Nat) (x : UInt8) : (onesB g n k x).map BRow.val = ones g n k := by
  simp [onesB, ones, BRow.val]
/-- block g: n bytes, the first k of them x -/
def LongB (g n k : Nat) (x : UInt8) (wr : World) : Prop := ∃ cs : Array Value, wr.heap[g]? = some (.cells cs 5 (0, 0)) ∧ cs.size = n ∧ ∀ j, j < k → cs[j]? = some (.int .u8 (x.toNat : Int))
def LongA (w : World) (g n k : Nat) (x : UInt8) (A : Option Addr) (c : Nat) (wr : World) : Prop :=
  wr.ownsRow (g + 1) 23 1 (.slice A k c) k (ones g n k) ∧ LongB g n k x wr ∧ Below w.heap.size w wr
theorem LongB.row {g n k j m : Nat} {x : UInt8} {wr : World} (h : LongB g n k x wr) (hj : j + m ≤ k) : Row wr wr.heap.size (some ⟨g, j, none⟩) m (bv (List.replicate m x)) := by
  obtain ⟨cs, hg, hs, hc⟩ := h
  refine ⟨by rw [bv_length, List.length_replicate], fun hm => ⟨g, j, rfl, (Array.getElem?_eq_some_iff.1 hg).1, fun i u hu => ?_⟩⟩
  have hi : i < m := by have := (List.getElem?_eq_some_iff.1 hu).1; rw [bv_length, List.length_replicate] at this; exact this
  rw [cell_of_row wr g (j + i) cs _ (0, 0) hg, hc (j + i) (by omega), ← hu, bv_get _ i (by rw [List.length_replicate]; exact hi), List.getElem_replicate]
theorem own_rows {w : World} {B : Nat} {A : Option Addr} {n c : Nat} {xs : List Value} (h : w.ownsRow B 23 1 (.slice A n c) n xs) : Row w w.heap.size A n xs := Row.of_own h
set_option maxRecDepth 100000 in
set_option maxHeartbeats 1600000 in
theorem long_walk (y : Int) (_ : -9223372036854775808 ≤ y) (_ : y ≤ 9223372036854775807) (x : UInt8) (w : World) (ht : Tab w) :
    Calls Tryd.prog 7 #[.int .i64 y, .int .u8 (x.toNat : Int)] w fun e w' => e = .returned (.bool true) ∧ Below w.heap.size w w' := by
  obtain ⟨i0, hi, hz0, hz1, hz2⟩ := info_parts Tryd.info5
  obtain ⟨j0, hj, hy0, hy1, hy2⟩ := info_parts Tryd.info23
  obtain ⟨n, hn, hpick⟩ := pick_in y 400 (by omega) (by omega)
  have HP := Lib.hid hpick
  have HT := Lib.hid ht
  have hm := mk_bytes n (by omega) w
  have hn4 : n < 400 := by omega
  have hA0 : Hid (LongA w w.heap.size n 0 x none 0 (w.alloc (.cells (Array.replicate n (.int .u8 0)) 5))) :=
    ⟨World.ownsRow_nil _ _ _ _, ⟨_, heap_alloc_new _ _, by simp, fun j h => by omega⟩, (Below.refl _ _).alloc (Nat.le_refl _) _⟩
  clear hpick ht hn
  go_enter Tryd.func7, Tryd.ntmps7
  go_wp2_with (rw [HP.out])
  clear hm
  go_loopw [6, 16] (fun r i wr => ∃ k : Nat, k ≤ n ∧ i = .int .i64 k ∧ ∃ A c, r = .slice A k c ∧ Hid (LongA w w.heap.size n k x A c wr)) (fun _ i _ => n - (intOf i).toNat)
  case atStart => exact ⟨0, by omega, rfl, none, 0, rfl, hA0⟩
  case round =>
    obtain ⟨k, hk, rfl, A, c, rfl, hd⟩ := hrel
    clear hA0
    by_cases hlt : k < n
    · have hcell : ∃ v, wr.cell? ⟨w.heap.size, k, none⟩ = some v := by
        obtain ⟨cs, hg, hs, _⟩ := hd.out.2.1
        rw [cell_of_row wr _ k cs _ (0, 0) hg]
        exact ⟨cs[k], by rw [Array.getElem?_eq_getElem]⟩
      obtain ⟨v0, hcl⟩ := hcell
      have hfr : wr.frozen? ⟨w.heap.size, k, none⟩ = false := by
        obtain ⟨cs, hg, _⟩ := hd.out.2.1
        exact frozen_of_row wr _ k cs _ hg
      have hB1 : Hid (LongB w.heap.size n (k + 1) x (wr.setCell ⟨w.heap.size, k, none⟩ (.int .u8 (x.toNat : Int)))) := by
        obtain ⟨cs, hg, hs, hc⟩ := hd.out.2.1
        refine ⟨cs.setIfInBounds k (.int .u8 (x.toNat : Int)), heap_setCell_same wr _ k cs _ _ hg, by simpa using hs, fun j hj => ?_⟩
        rw [Array.getElem?_setIfInBounds]
        by_cases e : k = j
        · subst e; rw [if_pos rfl, if_pos (by omega)]
        · rw [if_neg e]; exact hc j (by omega)
      have hown1 : (wr.setCell ⟨w.heap.size, k, none⟩ (.int .u8 (x.toNat : Int))).ownsRow (w.heap.size + 1) 23 1 (.slice A k c) k (ones w.heap.size n k) := ownsRow_setCell_below hd.out.1 (Nat.lt_succ_self _) _
      have hbel1 : Hid (Below w.heap.size w (wr.setCell ⟨w.heap.size, k, none⟩ (.int .u8 (x.toNat : Int)))) := hd.out.2.2.setCell (Nat.le_refl _) _
      have hsz : w.heap.size + 1 ≤ wr.heap.size := by
        obtain ⟨cs, hg, _⟩ := hd.out.2.1
        exact (Array.getElem?_eq_some_iff.1 hg).1
      clear hd
      have hkn : ¬ n = k := by omega
      have hrn : Row ((wr.setCell ⟨w.heap.size, k, none⟩ (.int .u8 (x.toNat : Int))).alloc (.cells #[.slice (some ⟨w.heap.size, k, none⟩) 1 (n - k)] 23)) (wr.heap.size + 1) (some ⟨wr.heap.size, 0, none⟩) 1 [.slice (some ⟨w.heap.size, k, none⟩) 1 (n - k)] := by
        have := row_new (wr.setCell ⟨w.heap.size, k, none⟩ (.int .u8 (x.toNat : Int))) #[.slice (some ⟨w.heap.size, k, none⟩) 1 (n - k)] 23 (0, 0)
        simpa using this
      have HRN := Lib.hid hrn
      have HO1 := Lib.hid hown1
      clear hrn hown1
      go_wp2_with (at_builtin; refine wpList_app rfl (.tmp 23) (.tmp 29) 22 rfl (w.heap.size + 1) 23 j0 (.slice none 0 0) 24 Tryd.underlying22 hj hy0 hy1 hy2 rfl _ k _ rfl (HO1.out.alloc _) _ _ 1 1 _ rfl HRN.out (by intro u hu; simp at hu; subst hu; rfl) (by unfold maxLen; omega) (by omega) (by simp; omega) ?_; intro v2 w2 hown2 hg2 hat2)
      obtain ⟨A2, c2, rfl, _⟩ := own_slice hown2
      have hD : Hid (LongA w w.heap.size n (k + 1) x A2 c2 w2) := by
        have hb2 := below_app ((Below.refl (w.heap.size + 1) (wr.setCell ⟨w.heap.size, k, none⟩ (.int .u8 (x.toNat : Int)))).alloc (by simpa using hsz) (.cells #[.slice (some ⟨w.heap.size, k, none⟩) 1 (n - k)] 23)) (by simp; omega) (HO1.out.alloc _) (Nat.le_refl _) hg2
        refine ⟨?_, ?_, hbel1.out.trans (hb2.mono (by omega))⟩
        · rw [show ones w.heap.size n (k + 1) = ones w.heap.size n k ++ [.slice (some ⟨w.heap.size, k, none⟩) 1 (n - k)] by simp [ones, List.range_succ]]
          exact hown2
        · obtain ⟨cs, hg, r⟩ := hB1.out
          exact ⟨cs, (hb2.block w.heap.size (by omega)).trans hg, r⟩
      clear hown2 hg2 hat2
      go_roundw
      case rel => exact ⟨k + 1, by omega, by go_num, A2, c2, rfl, hD⟩
      case measure => simp [intOf]; omega
    · obtain rfl : n = k := by omega
      have hb := hd.out.2.2
      have HBW := Lib.hid hb
      have hR2 : Hid (Rows2 wr wr.heap.size A n (onesB w.heap.size n n x)) := by
        refine ⟨by rw [onesB_val]; exact own_rows hd.out.1, fun r hr => ?_⟩
        simp only [onesB, List.mem_map, List.mem_range] at hr
        obtain ⟨j, hj, rfl⟩ := hr
        exact hd.out.2.1.row (j := j) (m := 1) (by omega)
      have hRB := Lib.hid (hd.out.2.1.row (j := 0) (m := n) (by omega))
      clear hb hd
      go_wp2_with fail
      refine (rows_any wr.heap.size n c A _ wr (HT.out.below HBW.out HT.out.1) hR2.out (Nat.le_refl _) (by rw [onesB_flat, List.length_replicate]; omega) (by omega)).mono ?_
      rintro e w2 ⟨A2, c2, rfl, O2, hb2⟩
      rw [onesB_flat] at O2
      have hB2 := Lib.hid (HBW.out.trans (hb2.out.mono HBW.out.size))
      go_wp2_with fail
      refine (sum_any wr.heap.size n n _ _ w2 (HT.out.below hB2.out HT.out.1) (hRB.out.below hb2.out) hb2.out.size (by omega)).mono ?_
      rintro e w3 ⟨A3, c3, rfl, O3, hb3⟩
      have hB3 := Lib.hid (hB2.out.trans (hb3.out.mono hB2.out.size))
      have O2' := Lib.hid (own_below O2.out hb3.out)
      go_wp2_with fail
      refine (alike_yes _ _ c2 c3 A2 A3 _ w3 (Row.of_own O2'.out) (Row.of_own O3.out)).mono ?_
      rintro e w' ⟨rfl, rfl⟩
      go_wp2_with fail
      refine (awake2_any _ (HT.out.below hB3.out HT.out.1)).mono ?_
      rintro e w4 ⟨rfl, hb4⟩
      have hB4 := Lib.hid (hB3.out.trans (hb4.mono hB3.out.size))
      clear hb4
      go_wp2_with fail
      go_ret
      exact ⟨rfl, hB4.out⟩
end Go.Proofs.YtapjaagigjfidaaDoor.Sh
