/- The reference's reader: take, flag: by contracts. -/
import Derived.Test.YtdipccjgpkedhaaRdr
namespace Go.Proofs.Ytdipccjgpkedhaa
open Go.RowKit
/-- the reference's reader r lies in block g, its bytes below block B -/
def RdAt2 (w : World) (g B : Nat) (r : Rd) : Prop :=
  ∃ A c, w.heap[g]? = some (.cells #[.slice A r.l.length c, .int .i64 r.e] 61 (0, 0)) ∧ Row w B A r.l.length (bv r.l) ∧ B ≤ g ∧ r.l.length ≤ c ∧ c ≤ 9223372036854775807
def RdTo2 (g B : Nat) (r : Rd) (w w' : World) : Prop := RdAt2 w' g B r ∧ w.grownBy w' (some g)
theorem RdAt2.lt {w : World} {g B : Nat} {r : Rd} (h : RdAt2 w g B r) : g < w.heap.size := by
  obtain ⟨A, c, hx, _⟩ := h
  exact (Array.getElem?_eq_some_iff.1 hx).1
theorem RdAt2.le {w : World} {g B : Nat} {r : Rd} (h : RdAt2 w g B r) : B ≤ g := by obtain ⟨_, _, _, _, h, _⟩ := h; exact h
theorem RdAt2.below {w w' : World} {g B : Nat} {r : Rd} (h : RdAt2 w g B r) (hb : Below w.heap.size w w') : RdAt2 w' g B r := by
  obtain ⟨A, c, hx, hr, hB, h1, h2⟩ := h
  exact ⟨A, c, (hb.block g (Array.getElem?_eq_some_iff.1 hx).1).trans hx, hr.below (hb.mono (Nat.le_of_lt (Nat.lt_of_le_of_lt hB (Array.getElem?_eq_some_iff.1 hx).1))), hB, h1, h2⟩
theorem RdTo2.refl {w : World} {g B : Nat} {r : Rd} (h : RdAt2 w g B r) : RdTo2 g B r w w := ⟨h, rfl, rfl, rfl, Nat.le_refl _, fun _ _ _ => rfl⟩
theorem RdTo2.trans {w w1 w2 : World} {g B : Nat} {r r' : Rd} (h1 : RdTo2 g B r w w1) (h2 : RdTo2 g B r' w1 w2) : RdTo2 g B r' w w2 := ⟨h2.1, h1.2.trans h2.2⟩
theorem rd2_fail {w : World} {g B : Nat} {l : List UInt8} {e : Int} (h : RdAt2 w g B ⟨l, e⟩) (k : Int) : RdTo2 g B ⟨l, k⟩ w (w.setCell ⟨g, 1, none⟩ (.int .i64 k)) := by
  obtain ⟨A, c, hx, hr, hB, h1, h2⟩ := h
  exact ⟨⟨A, c, heap_setCell_same w g 1 _ _ (.int .i64 k) hx, hr.setCell (p := ⟨g, 1, none⟩) hB _, hB, h1, h2⟩, grown_cell w g 1 _⟩
def Take2Ok (g B N : Nat) (r : Rd) (w : World) (e : Ending) (w' : World) : Prop :=
  ∃ A c, e = .returned (.slice A N c) ∧ Hid (N ≤ c ∧ c ≤ 9223372036854775807) ∧ Hid (RowP w' (fun b => b < B ∨ w.heap.size ≤ b) A N (bv (r.got N))) ∧ Hid (RdTo2 g B (r.past N) w w')
set_option maxRecDepth 100000 in
set_option maxHeartbeats 1600000 in
theorem rtake2_ok (N : Nat) (hN0 : 0 < N) (hN : N ≤ 44) {w : World} {g B : Nat} {l : List UInt8} (h : RdAt2 w g B ⟨l, 0⟩) (hle : N ≤ l.length) :
    Calls Try.prog 38 #[.pointer (some ⟨g, 0, none⟩), .int .i64 (N : Int)] w (Take2Ok g B N ⟨l, 0⟩ w) := by
  obtain ⟨A, c, hx, hr, hB, hnc, hc⟩ := h
  unfold Take2Ok
  rw [rd_got hle, rd_past hle]
  dsimp only at hx hr hB hnc
  have hg := (Array.getElem?_eq_some_iff.1 hx).1
  obtain ⟨n, hn⟩ : ∃ n, l.length = n := ⟨_, rfl⟩
  rw [hn] at hx hr hnc hle
  obtain ⟨b, o, rfl, hbB, _⟩ := hr.byteAt (k := 0) (by omega)
  have c0 : w.cell? ⟨g, 0, none⟩ = some (.slice (some ⟨b, o, none⟩) n c) := by rw [cell_of_row w g 0 _ _ (0, 0) hx]; rfl
  have c1 : w.cell? ⟨g, 1, none⟩ = some (.int .i64 0) := by rw [cell_of_row w g 1 _ _ (0, 0) hx]; rfl
  have f0 := frozen_of_row w g 0 _ _ hx
  have hd : decide (n < N) = false := by simp; omega
  have hNc : (N : Int) ≤ c := by omega
  have hNn : (N : Int) ≤ n := by omega
  have hnc2 : (n : Int) ≤ c := by omega
  have hc64 : (c : Int) ≤ 9223372036854775807 := by omega
  have HCC : Hid (N ≤ c ∧ c ≤ 9223372036854775807) := Lib.hid ⟨by omega, by omega⟩
  have fin : ∀ (A' : Option Addr), A' = (if c = N then (some ⟨b, o, none⟩ : Option Addr) else some ⟨b, o + N, none⟩) →
      Hid (RowP (w.setCell ⟨g, 0, none⟩ (.slice A' (n - N) (c - N))) (fun b => b < B ∨ w.heap.size ≤ b) (some ⟨b, o, none⟩) N (bv (l.take N))) ∧ Hid (RdTo2 g B ⟨l.drop N, 0⟩ w (w.setCell ⟨g, 0, none⟩ (.slice A' (n - N) (c - N)))) := by
    intro A' hA'
    have hlen : (l.drop N).length = n - N := by rw [List.length_drop, hn]
    refine ⟨?_, ⟨A', c - N, ?_, ?_, hB, by dsimp only; omega, by omega⟩, grown_cell w g 0 _⟩
    · have h1 : Row w B (some ⟨b, o, none⟩) N (bv (l.take N)) := by rw [← bv_take]; exact hr.head hle
      have h2 := h1.setCell (p := ⟨g, 0, none⟩) hB (.slice A' (n - N) (c - N))
      refine ⟨h2.1, fun hn0 => ?_⟩
      obtain ⟨b', o', e, hlt, hcc⟩ := h2.2 hn0
      exact ⟨b', o', e, by simp; omega, .inl hlt, hcc⟩
    · dsimp only
      rw [hlen]
      exact heap_setCell_same w g 0 _ _ _ hx
    · dsimp only
      rw [hlen, ← bv_drop]
      have h1 := (hr.tail (k := N) (cap := c) (by omega) (by omega)).setCell (p := ⟨g, 0, none⟩) hB (.slice A' (n - N) (c - N))
      have eA : (if c = N then (some ⟨b, o, none⟩ : Option Addr) else Option.map (fun x : Addr => x.add N) (some ⟨b, o, none⟩)) = A' := by rw [hA', Option.map_some, plain_add]
      rw [eA] at h1
      exact h1
  have FIN := Lib.hid fin
  clear hx hr hB hn fin
  by_cases hcN : c = N
  · obtain rfl := hcN
    obtain rfl : n = c := by omega
    go_enter Try.func38, Try.ntmps38
    go_wp2_with fail
    go_ret
    obtain ⟨y1, y2⟩ := FIN.out (some ⟨b, o, none⟩) (by simp)
    simp only [Nat.sub_self] at y1 y2
    exact ⟨_, _, rfl, HCC, y1, y2⟩
  · have HCN := Lib.hid hcN
    have hcN2 : ¬ (c : Int) = (N : Int) := by omega
    go_enter Try.func38, Try.ntmps38
    go_wp2_with fail
    go_ret
    obtain ⟨y1, y2⟩ := FIN.out _ (by rw [if_neg HCN.out])
    exact ⟨_, _, rfl, HCC, y1, y2⟩
set_option maxRecDepth 100000 in
set_option maxHeartbeats 800000 in
theorem rtake2_no (N : Nat) (hN0 : 0 < N) (hN : N ≤ 44) {w : World} {g B : Nat} {r : Rd} (h : RdAt2 w g B r) (hbad : (r.short N).e ≠ 0) :
    Calls Try.prog 38 #[.pointer (some ⟨g, 0, none⟩), .int .i64 (N : Int)] w (Take2Ok g B N r w) := by
  have hgot : r.got N = List.replicate N 0 := by unfold Rd.got; rw [if_neg hbad]
  have hpast : r.past N = r.short N := by unfold Rd.past; rw [if_neg hbad]
  unfold Take2Ok
  rw [hgot, hpast]
  clear hgot hpast
  obtain ⟨Z, hZ⟩ : ∃ Z, Array.replicate N (Value.int .u8 0) = Z := ⟨_, rfl⟩
  have hm : ∀ W, (Instr.makeSlice 23 (.int .i64 (N : Int)) (.int .i64 (N : Int))).run Try.prog W = .ok (.slice (some ⟨W.heap.size, 0, none⟩) N N) (W.alloc (.cells Z 5)) := by
    intro W; rw [← hZ]; exact zr_make N (by omega) W
  have fin : ∀ w1 : World, RdTo2 g B (r.short N) w w1 → Hid (N ≤ N ∧ N ≤ 9223372036854775807) ∧ Hid (RowP (w1.alloc (.cells Z 5)) (fun b => b < B ∨ w.heap.size ≤ b) (some ⟨w1.heap.size, 0, none⟩) N (bv (List.replicate N 0))) ∧ Hid (RdTo2 g B (r.short N) w (w1.alloc (.cells Z 5))) := by
    intro w1 hto
    refine ⟨⟨Nat.le_refl _, by omega⟩, ?_, hto.1.below ((Below.refl _ _).alloc (Nat.le_refl _) _), hto.2.trans (grown_of_below _ ((Below.refl _ _).alloc (Nat.le_refl _) _))⟩
    exact (blk_row (lo := w.heap.size) (by rw [heap_alloc_new, bv_zeros, hZ]) (by simp) hto.2.size).imp fun b _ hb => .inr hb
  have FIN := Lib.hid fin
  clear fin hZ
  have H := Lib.hid h
  obtain ⟨l, e⟩ := r
  obtain ⟨A, c, hx, hr, hB, hnc, hc⟩ := h
  obtain ⟨n, hn⟩ : ∃ n, l.length = n := ⟨_, rfl⟩
  dsimp only at hx
  rw [hn] at hx
  have c0 : w.cell? ⟨g, 0, none⟩ = some (.slice A n c) := by rw [cell_of_row w g 0 _ _ (0, 0) hx]; rfl
  have c1 : w.cell? ⟨g, 1, none⟩ = some (.int .i64 e) := by rw [cell_of_row w g 1 _ _ (0, 0) hx]; rfl
  have f1 := frozen_of_row w g 1 _ _ hx
  clear hx hr hB hnc hc
  by_cases he : e = 0
  · subst he
    have hlt : n < N := by
      by_cases hlt : n < N
      · exact hlt
      · exfalso; apply hbad; unfold Rd.short; rw [if_neg (by dsimp only; omega)]
    have hs : (⟨l, 0⟩ : Rd).short N = ⟨l, 2⟩ := by unfold Rd.short Rd.fail; rw [if_pos (by dsimp only; omega), if_pos rfl]
    rw [hs] at FIN ⊢
    have hd : decide (n < N) = true := by simp; omega
    have hfi := FIN.out _ (rd2_fail H.out 2)
    rw [show (w.setCell ⟨g, 1, none⟩ (.int .i64 2)).heap.size = w.heap.size by simp] at hfi
    have FI := Lib.hid hfi
    clear hfi
    clear hs hbad hn hlt
    go_enter Try.func38, Try.ntmps38
    go_wp2_with fail
    go_ret
    exact ⟨_, _, rfl, FI.out.1, FI.out.2.1, FI.out.2.2⟩
  · have hs : (⟨l, e⟩ : Rd).short N = ⟨l, e⟩ := by
      unfold Rd.short Rd.fail
      by_cases hlt : l.length < N
      · rw [if_pos hlt, if_neg he]
      · rw [if_neg hlt]
    rw [hs] at FIN ⊢
    have q : (e != 0) = true := by simpa using he
    have q2 : (e == 0) = false := by simpa using he
    have FI := Lib.hid (FIN.out w (RdTo2.refl H.out))
    clear hs hbad hn he
    go_enter Try.func38, Try.ntmps38
    go_wp2_with fail
    go_ret
    exact ⟨_, _, rfl, FI.out.1, FI.out.2.1, FI.out.2.2⟩
theorem rtake2_any (N : Nat) (hN0 : 0 < N) (hN : N ≤ 44) {w : World} {g B : Nat} {r : Rd} (h : RdAt2 w g B r) :
    Calls Try.prog 38 #[.pointer (some ⟨g, 0, none⟩), .int .i64 (N : Int)] w (Take2Ok g B N r w) := by
  by_cases hb : (r.short N).e = 0
  · obtain ⟨l, e⟩ := r
    by_cases hlt : l.length < N
    · exfalso
      simp only [Rd.short, if_pos hlt, Rd.fail] at hb
      split at hb
      · simp at hb
      · next h2 => exact h2 hb
    · have he : e = 0 := by simpa [Rd.short, hlt] using hb
      subst he
      exact rtake2_ok N hN0 hN h (Nat.not_lt.1 hlt)
  · exact rtake2_no N hN0 hN h hb
theorem got_length (r : Rd) (n : Nat) : (r.got n).length = n := by
  unfold Rd.got
  by_cases h : (r.short n).e = 0
  · rw [if_pos h, List.length_take]
    unfold Rd.short at h
    by_cases hlt : r.l.length < n
    · exfalso
      rw [if_pos hlt] at h
      unfold Rd.fail at h
      by_cases he : r.e = 0
      · rw [if_pos he] at h; exact absurd (show (2 : Int) = 0 from h) (by decide)
      · rw [if_neg he] at h; exact he h
    · omega
  · rw [if_neg h, List.length_replicate]
theorem got_bad {r : Rd} {n : Nat} (h : (r.past n).e ≠ 0) : r.got n = List.replicate n 0 := by
  unfold Rd.got
  by_cases hs : (r.short n).e = 0
  · exfalso; apply h; unfold Rd.past; rw [if_pos hs]
  · rw [if_neg hs]
set_option maxRecDepth 100000 in
set_option maxHeartbeats 800000 in
theorem rflag2_any {w : World} {g B : Nat} {r : Rd} (h : RdAt2 w g B r) :
    Calls Try.prog 40 #[.pointer (some ⟨g, 0, none⟩)] w fun e w' => e = .returned (.bool r.flag.1) ∧ Hid (RdTo2 g B r.flag.2 w w') := by
  have H := Lib.hid (rtake2_any 1 (by omega) (by omega) h)
  clear h
  have hl := got_length r 1
  have hbad := fun hh => got_bad (r := r) (n := 1) hh
  have hf : r.flag = (decide ((Rd.num 1 r).1 = 1), if 1 < (Rd.num 1 r).1 then (Rd.num 1 r).2.fail 3 else (Rd.num 1 r).2) := rfl
  unfold Take2Ok at H
  obtain ⟨x, hx⟩ : ∃ x, (Rd.num 1 r).1 = x := ⟨_, rfl⟩
  have hx2 : CrcM.number (r.got 1) = x := hx
  obtain ⟨r2, hr2⟩ : ∃ r2, (Rd.num 1 r).2 = r2 := ⟨_, rfl⟩
  have hp : r.past 1 = r2 := hr2
  rw [hx, hr2] at hf
  rw [hf]
  rw [hp] at H hbad
  obtain ⟨l, hgl⟩ : ∃ l, r.got 1 = l := ⟨_, rfl⟩
  rw [hgl] at H hl hbad hx2
  clear hx hr2 hp hgl hf
  obtain ⟨y, rfl⟩ : ∃ y, l = [y] := by
    match l, hl with
    | [y], _ => exact ⟨y, rfl⟩
  have hxy : x = y.toNat := by rw [← hx2]; simp [CrcM.number]
  subst hxy
  have hy := CrcM.b_lt y
  have HBAD : Hid (r2.e ≠ 0 → y = 0) := Lib.hid (fun hh => by have := hbad hh; simpa using this)
  clear hl hx2 hbad
  by_cases h1 : 1 < y.toNat
  · have q1 : ¬ y.toNat = 1 := by omega
    have q2 : decide ((1 : Int) < (y.toNat : Int)) = true := by rw [decide_eq_true_eq]; omega
    have q3 : ((y.toNat : Int) == 1) = false := by simp; omega
    have he : r2.e = 0 := by
      by_cases he : r2.e = 0
      · exact he
      · have := HBAD.out he; subst this; exact absurd h1 (by decide)
    have hfl : (if 1 < y.toNat then r2.fail 3 else r2) = ⟨r2.l, 3⟩ := by rw [if_pos h1]; unfold Rd.fail; rw [if_pos he]
    rw [hfl, decide_eq_false q1]
    have HE := Lib.hid he
    clear q1 hfl h1 he
    go_enter Try.func40, Try.ntmps40
    go_wp2_with fail
    refine H.out.mono ?_
    rintro e w1 ⟨A, c, rfl, -, hrow, hto⟩
    obtain ⟨b, o, rfl, _, _, hcell⟩ := hrow.out.row.byteAt (k := 0) (by omega)
    have hcell : w1.cell? ⟨b, o, none⟩ = some (.int .u8 (y.toNat : Int)) := by simpa using hcell
    obtain ⟨l2, e2⟩ := r2
    have HE2 : e2 = 0 := HE.out
    subst HE2
    have HTO := Lib.hid hto.out
    obtain ⟨A2, c2, hx2, _⟩ := hto.out.1
    have k1 : w1.cell? ⟨g, 1, none⟩ = some (.int .i64 0) := by rw [cell_of_row w1 g 1 _ _ (0, 0) hx2]; rfl
    have f1 := frozen_of_row w1 g 1 _ _ hx2
    clear hrow hto hx2 H
    go_wp2_with fail
    go_ret
    exact ⟨rfl, Lib.hid (HTO.out.trans (rd2_fail HTO.out.1 3))⟩
  · rw [if_neg h1]
    have q2 : decide ((1 : Int) < (y.toNat : Int)) = false := by rw [decide_eq_false_iff_not]; omega
    by_cases h0 : y.toNat = 1
    · have q3 : ((y.toNat : Int) == 1) = true := by simp; omega
      have he : r2.e = 0 := by
        by_cases he : r2.e = 0
        · exact he
        · have := HBAD.out he; subst this; exact absurd h0 (by decide)
      rw [decide_eq_true h0]
      have HE := Lib.hid he
      clear h1 h0 he
      go_enter Try.func40, Try.ntmps40
      go_wp2_with fail
      refine H.out.mono ?_
      rintro e w1 ⟨A, c, rfl, -, hrow, hto⟩
      obtain ⟨b, o, rfl, _, _, hcell⟩ := hrow.out.row.byteAt (k := 0) (by omega)
      have hcell : w1.cell? ⟨b, o, none⟩ = some (.int .u8 (y.toNat : Int)) := by simpa using hcell
      obtain ⟨A2, c2, hx2, _⟩ := hto.out.1
      rw [HE.out] at hx2
      have k1 : w1.cell? ⟨g, 1, none⟩ = some (.int .i64 0) := by rw [cell_of_row w1 g 1 _ _ (0, 0) hx2]; rfl
      clear hrow hx2 H
      go_wp2_with fail
      go_ret
      exact ⟨rfl, hto⟩
    · have q3 : ((y.toNat : Int) == 1) = false := by simp; omega
      rw [decide_eq_false h0]
      clear h1 h0
      go_enter Try.func40, Try.ntmps40
      go_wp2_with fail
      refine H.out.mono ?_
      rintro e w1 ⟨A, c, rfl, -, hrow, hto⟩
      obtain ⟨b, o, rfl, _, _, hcell⟩ := hrow.out.row.byteAt (k := 0) (by omega)
      have hcell : w1.cell? ⟨b, o, none⟩ = some (.int .u8 (y.toNat : Int)) := by simpa using hcell
      clear hrow H
      go_wp2_with fail
      go_ret
      exact ⟨rfl, hto⟩
end Go.Proofs.Ytdipccjgpkedhaa
