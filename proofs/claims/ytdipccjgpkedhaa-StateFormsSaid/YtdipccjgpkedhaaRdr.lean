/- state's reader: fail, take, number, flag: by contracts. -/
import Derived.Test.YtdipccjgpkedhaaRdMath
import Derived.Laws.CopyOwn
namespace Go.Proofs.Ytdipccjgpkedhaa
open Go.RowKit
/-- reader r lies in block g, its bytes below block B -/
def RdAt (w : World) (g B : Nat) (r : Rd) : Prop :=
  ∃ A c, w.heap[g]? = some (.cells #[.slice A r.l.length c, .int .i64 r.e] 58 (0, 0)) ∧ Row w B A r.l.length (bv r.l) ∧ B ≤ g ∧ r.l.length ≤ c ∧ c ≤ 9223372036854775807
def RdTo (g B : Nat) (r : Rd) (w w' : World) : Prop := RdAt w' g B r ∧ w.grownBy w' (some g)
theorem grown_cell (W : World) (g k : Nat) (v : Value) : W.grownBy (W.setCell ⟨g, k, none⟩ v) (some g) :=
  ⟨rfl, rfl, rfl, by simp, fun b hb hne => heap_setCell_other W ⟨g, k, none⟩ b v (fun e => hne (by rw [e]))⟩
theorem grown_of_below {w w' : World} (row : Option Nat) (h : Below w.heap.size w w') : w.grownBy w' row := ⟨h.os, h.tape, h.output, h.size, fun b hb _ => h.block b hb⟩
theorem RdAt.lt {w : World} {g B : Nat} {r : Rd} (h : RdAt w g B r) : g < w.heap.size := by
  obtain ⟨A, c, hx, _⟩ := h
  exact (Array.getElem?_eq_some_iff.1 hx).1
theorem RdAt.below {w w' : World} {g B : Nat} {r : Rd} (h : RdAt w g B r) (hb : Below w.heap.size w w') : RdAt w' g B r := by
  obtain ⟨A, c, hx, hr, hB, h1, h2⟩ := h
  exact ⟨A, c, (hb.block g (Array.getElem?_eq_some_iff.1 hx).1).trans hx, hr.below (hb.mono (Nat.le_of_lt (Nat.lt_of_le_of_lt hB (Array.getElem?_eq_some_iff.1 hx).1))), hB, h1, h2⟩
theorem RdTo.refl {w : World} {g B : Nat} {r : Rd} (h : RdAt w g B r) : RdTo g B r w w := ⟨h, rfl, rfl, rfl, Nat.le_refl _, fun _ _ _ => rfl⟩
set_option maxRecDepth 100000 in
set_option maxHeartbeats 400000 in
theorem rfail_any (k : Int) {w : World} {g B : Nat} {r : Rd} (h : RdAt w g B r) :
    Calls Try.prog 60 #[.pointer (some ⟨g, 0, none⟩), .int .i64 k] w fun e w' => e = .returned (.tuple #[]) ∧ Hid (RdTo g B (r.fail k) w w') := by
  obtain ⟨l, e⟩ := r
  obtain ⟨A, c, hx, hr, hB, hnc, hc⟩ := h
  have c1 : w.cell? ⟨g, 1, none⟩ = some (.int .i64 e) := by rw [cell_of_row w g 1 _ _ (0, 0) hx]; rfl
  have f1 := frozen_of_row w g 1 _ _ hx
  have HX := Lib.hid hx
  have HR := Lib.hid hr
  have HB := Lib.hid hB
  have HN := Lib.hid (And.intro hnc hc)
  clear hx hr hB hnc hc
  by_cases he : e = 0
  · have q : ((e : Int) == 0) = true := by simp [he]
    have HE := Lib.hid he
    clear he
    go_enter Try.func60, Try.ntmps60
    go_wp2
    go_end0
    refine ⟨rfl, ?_⟩
    show RdTo g B (if e = 0 then (⟨l, k⟩ : Rd) else ⟨l, e⟩) w _
    rw [if_pos HE.out]
    exact ⟨⟨A, c, heap_setCell_same w g 1 _ _ (.int .i64 k) HX.out, HR.out.setCell HB.out _, HB.out, HN.out⟩, grown_cell w g 1 _⟩
  · have q : ((e : Int) == 0) = false := by simp [he]
    have HE := Lib.hid he
    clear he
    go_enter Try.func60, Try.ntmps60
    go_wp2
    go_end0
    refine ⟨rfl, ?_⟩
    show RdTo g B (if e = 0 then (⟨l, k⟩ : Rd) else ⟨l, e⟩) w _
    rw [if_neg HE.out]
    exact RdTo.refl ⟨A, c, HX.out, HR.out, HB.out, HN.out⟩
theorem zr_list (v : Value) (n : Nat) : madeCells #[v] n = Array.replicate n v := by
  apply Array.toList_inj.1
  rw [toList_madeCells_one]; simp
theorem zr_make (c : Nat) (hc : c ≤ 1000000000) (w : World) : (Instr.makeSlice 23 (.int .i64 (c : Int)) (.int .i64 (c : Int))).run Try.prog w = .ok (.slice (some ⟨w.heap.size, 0, none⟩) c c) (w.alloc (.cells (Array.replicate c (.int .u8 0)) 5)) := by
  obtain ⟨i0, hi, hz0, hz1, hz2⟩ := info_parts Try.info5
  have := run_make (P := Try.prog) w 23 5 i0 (.int .u8 0) Try.underlying23 hi hz0 .i64 .i64 c c (by omega) (Int.le_refl _) (by rw [hz2]; omega) (by omega)
  simpa [hz1, Value.cells, zr_list] using this
theorem blk_row {w : World} {g n lo : Nat} {l : List UInt8} (h : w.heap[g]? = some (.cells (bv l).toArray 5 (0, 0))) (hn : l.length = n) (hlo : lo ≤ g) : RowP w (fun b => lo ≤ b) (some ⟨g, 0, none⟩) n (bv l) := by
  refine ⟨by rw [bv_length, hn], fun _ => ⟨g, 0, rfl, (Array.getElem?_eq_some_iff.1 h).1, hlo, fun j v hv => ?_⟩⟩
  rw [Nat.zero_add, cell_of_row w g j _ _ (0, 0) h, ← hv]
  simp
theorem bv_zeros (n : Nat) : (bv (List.replicate n 0)).toArray = Array.replicate n (.int .u8 0) := by simp [bv]
def TakeOk (g B N : Nat) (r : Rd) (w : World) (e : Ending) (w' : World) : Prop :=
  ∃ A, e = .returned (.slice A N N) ∧ Hid (RowP w' (fun b => w.heap.size ≤ b) A N (bv (r.got N))) ∧ Hid (RdTo g B (r.past N) w w')
theorem splice_whole (cur cs : List Value) (h : cs.length = cur.length) : splice cur 0 cs = cs := by
  simp [splice, h]
theorem rd_got {N : Nat} {l : List UInt8} (h : N ≤ l.length) : (⟨l, 0⟩ : Rd).got N = l.take N := by simp [Rd.got, Rd.short, Nat.not_lt.2 h]
theorem rd_past {N : Nat} {l : List UInt8} (h : N ≤ l.length) : (⟨l, 0⟩ : Rd).past N = ⟨l.drop N, 0⟩ := by simp [Rd.past, Rd.short, Nat.not_lt.2 h]
set_option maxRecDepth 100000 in
set_option maxHeartbeats 1600000 in
theorem rtake_ok (N : Nat) (hN0 : 0 < N) (hN : N ≤ 44) {w : World} {g B : Nat} {l : List UInt8} (h : RdAt w g B ⟨l, 0⟩) (hle : N ≤ l.length) :
    Calls Try.prog 59 #[.pointer (some ⟨g, 0, none⟩), .int .i64 (N : Int)] w (TakeOk g B N ⟨l, 0⟩ w) := by
  obtain ⟨A, c, hx, hr, hB, hnc, hc⟩ := h
  unfold TakeOk
  rw [rd_got hle, rd_past hle]
  dsimp only at hx hr hB hnc
  have hg := (Array.getElem?_eq_some_iff.1 hx).1
  obtain ⟨n, hn⟩ : ∃ n, l.length = n := ⟨_, rfl⟩
  rw [hn] at hx hr hnc hle
  obtain ⟨b, o, rfl, hbB, _⟩ := hr.byteAt (k := 0) (by omega)
  have c0 : w.cell? ⟨g, 0, none⟩ = some (.slice (some ⟨b, o, none⟩) n c) := by rw [cell_of_row w g 0 _ _ (0, 0) hx]; rfl
  have c1 : w.cell? ⟨g, 1, none⟩ = some (.int .i64 0) := by rw [cell_of_row w g 1 _ _ (0, 0) hx]; rfl
  have f0 := frozen_of_row w g 0 _ _ hx
  have hd : decide (n < N) = false := by simp; omega
  obtain ⟨Z, hZ⟩ : ∃ Z, List.replicate N (Value.int .u8 0) = Z := ⟨_, rfl⟩
  have hm : ∀ W, (Instr.makeSlice 23 (.int .i64 (N : Int)) (.int .i64 (N : Int))).run Try.prog W = .ok (.slice (some ⟨W.heap.size, 0, none⟩) N N) (W.alloc (.cells Z.toArray 5)) := by
    intro W; rw [← hZ, zr_make N (by omega) W]; simp
  have HZ : Hid (Z.length = N) := by show _ = _; rw [← hZ, List.length_replicate]
  have B1 := Lib.hid (heap_alloc_new w (.cells Z.toArray 5))
  have hA0 : Hid (Below w.heap.size w (w.alloc (.cells Z.toArray 5))) := (Below.refl _ _).alloc (Nat.le_refl _) _
  have hbw : b < w.heap.size := by omega
  have HRT : Hid (Row w B (some ⟨b, o, none⟩) N (bv (l.take N))) := by rw [← bv_take]; exact hr.head hle
  have hsrc : Hid (∀ j v, (bv (l.take N))[j]? = some v → (w.alloc (.cells Z.toArray 5)).cell? ((⟨b, o, none⟩ : Addr).add j) = some v) := by
    intro j v hv
    obtain ⟨b', o', e, _, hcell⟩ := (HRT.out.alloc (by omega) (.cells Z.toArray 5)).2 (by omega)
    injection e with e
    injection e with e1 e2
    subst e1 e2
    rw [plain_add]
    exact hcell j v hv
  have HLEN : Hid ((bv (l.take N)).length = Nat.min n N) := by
    show _ = min n N
    rw [bv_length, List.length_take, hn]; exact Nat.min_comm _ _
  have HLN : Hid ((bv (l.take N)).length = N) := by show _ = _; rw [bv_length, List.length_take, hn]; omega
  have HX := Lib.hid hx
  have HR := Lib.hid hr
  have HB := Lib.hid hB
  have HN := Lib.hid hn
  have HG := Lib.hid hg
  have C0 := Lib.hid c0
  have F0 := Lib.hid f0
  have hNc : (N : Int) ≤ c := by omega
  have hNn : (N : Int) ≤ n := by omega
  have hc64 : (c : Int) ≤ 9223372036854775807 := by omega
  have fin : ∀ (A' : Option Addr) (w2 : World), Hid (w2.heap[w.heap.size]? = some (.cells (splice Z 0 (bv (l.take N))).toArray 5 (0, 0))) → Below w.heap.size w w2 → A' = (if c = N then some (⟨b, o, none⟩ : Addr) else some ⟨b, o + N, none⟩) →
      Hid (RowP (w2.setCell ⟨g, 0, none⟩ (.slice A' (n - N) (c - N))) (fun b => w.heap.size ≤ b) (some ⟨w.heap.size, 0, none⟩) N (bv (l.take N))) ∧ Hid (RdTo g B ⟨l.drop N, 0⟩ w (w2.setCell ⟨g, 0, none⟩ (.slice A' (n - N) (c - N)))) := by
    intro A' w2 hcp hb2 hA'
    have hcp' := hcp.out
    rw [splice_whole _ _ (by rw [HLN.out, HZ.out])] at hcp'
    refine ⟨blk_row ((heap_setCell_other w2 _ _ _ (by show w.heap.size ≠ g; omega)).trans hcp') (by have := HLN.out; rwa [bv_length] at this) (Nat.le_refl _), ?_, (grown_of_below _ hb2).trans (grown_cell w2 g 0 _)⟩
    have hx2 := (hb2.block g hg).trans HX.out
    have hlen : (l.drop N).length = n - N := by rw [List.length_drop, HN.out]
    refine ⟨A', c - N, ?_, ?_, HB.out, by dsimp only; omega, by omega⟩
    · dsimp only
      rw [hlen]
      exact heap_setCell_same w2 g 0 _ _ _ hx2
    · dsimp only
      rw [hlen, ← bv_drop]
      have h1 := ((HR.out.below (hb2.mono (by omega))).tail (k := N) (cap := c) (by omega) (by omega)).setCell (p := ⟨g, 0, none⟩) HB.out (.slice A' (n - N) (c - N))
      have eA : (if c = N then (some ⟨b, o, none⟩ : Option Addr) else Option.map (fun x : Addr => x.add N) (some ⟨b, o, none⟩)) = A' := by rw [hA', Option.map_some, plain_add]
      rw [eA] at h1
      exact h1
  have FIN := Lib.hid fin
  clear hx hr hB hn f0 fin hZ
  by_cases hcN : c = N
  · obtain rfl := hcN
    obtain rfl : n = c := by omega
    go_enter Try.func59, Try.ntmps59
    go_upto_region 5 with fail
    obtain ⟨W0, hW0⟩ : ∃ W0, w.alloc (.cells Z.toArray 5) = W0 := ⟨_, rfl⟩
    rw [hW0] at B1 hA0 hsrc ⊢
    have d0 := (hA0.out.cell (p := ⟨g, 0, none⟩) HG.out).trans C0.out
    clear hW0 c0 c1 hm
    go_upto_region 6 with ((with_reducible show wpList _ _ _ _ _ _); refine wpList_copy_splice (o := ⟨some 27, _, _, _, _, _⟩) rfl (.tmp 22) (.tmp 26) 23 23 rfl 5 Try.underlying23 (by kernel_rfl) (some ⟨w.heap.size, 0, none⟩) (some ⟨b, o, none⟩) n n n n rfl rfl w.heap.size 0 Z 5 B1.out (bv (l.take n)) HLEN.out (fun _ => ⟨rfl, _, rfl, hsrc.out⟩) (by rw [HLN.out, HZ.out]; omega) (bv_one _) w.heap.size w hA0.out (Nat.le_refl _) ?_; intro w2 hcp hb2; have k0 := (hb2.cell (p := ⟨g, 0, none⟩) HG.out).trans C0.out; have k1 := (hb2.frozen (p := ⟨g, 0, none⟩) HG.out).trans F0.out; have HB2 := Lib.hid hb2; clear hb2)
    clear d0
    go_wp2_with fail
    go_ret
    obtain ⟨y1, y2⟩ := FIN.out (some ⟨b, o, none⟩) _ hcp HB2.out (by simp)
    simp only [Nat.sub_self] at y1 y2
    exact ⟨_, rfl, y1, y2⟩
  · have HCN := Lib.hid hcN
    go_enter Try.func59, Try.ntmps59
    go_upto_region 5 with fail
    obtain ⟨W0, hW0⟩ : ∃ W0, w.alloc (.cells Z.toArray 5) = W0 := ⟨_, rfl⟩
    rw [hW0] at B1 hA0 hsrc ⊢
    have d0 := (hA0.out.cell (p := ⟨g, 0, none⟩) HG.out).trans C0.out
    clear hW0 c0 c1 hm
    go_upto_region 6 with ((with_reducible show wpList _ _ _ _ _ _); refine wpList_copy_splice (o := ⟨some 27, _, _, _, _, _⟩) rfl (.tmp 22) (.tmp 26) 23 23 rfl 5 Try.underlying23 (by kernel_rfl) (some ⟨w.heap.size, 0, none⟩) (some ⟨b, o, none⟩) N N n c rfl rfl w.heap.size 0 Z 5 B1.out (bv (l.take N)) HLEN.out (fun _ => ⟨rfl, _, rfl, hsrc.out⟩) (by rw [HLN.out, HZ.out]; omega) (bv_one _) w.heap.size w hA0.out (Nat.le_refl _) ?_; intro w2 hcp hb2; have k0 := (hb2.cell (p := ⟨g, 0, none⟩) HG.out).trans C0.out; have k1 := (hb2.frozen (p := ⟨g, 0, none⟩) HG.out).trans F0.out; have HB2 := Lib.hid hb2; clear hb2)
    clear d0
    go_wp2_with fail
    go_ret
    obtain ⟨y1, y2⟩ := FIN.out _ _ hcp HB2.out (by rw [if_neg HCN.out])
    exact ⟨_, rfl, y1, y2⟩
set_option maxRecDepth 100000 in
set_option maxHeartbeats 800000 in
theorem rtake_no (N : Nat) (hN0 : 0 < N) (hN : N ≤ 44) {w : World} {g B : Nat} {r : Rd} (h : RdAt w g B r) (hbad : (r.short N).e ≠ 0) :
    Calls Try.prog 59 #[.pointer (some ⟨g, 0, none⟩), .int .i64 (N : Int)] w (TakeOk g B N r w) := by
  have hgot : r.got N = List.replicate N 0 := by unfold Rd.got; rw [if_neg hbad]
  have hpast : r.past N = r.short N := by unfold Rd.past; rw [if_neg hbad]
  unfold TakeOk
  rw [hgot, hpast]
  clear hgot hpast
  obtain ⟨Z, hZ⟩ : ∃ Z, Array.replicate N (Value.int .u8 0) = Z := ⟨_, rfl⟩
  have hm : ∀ W, (Instr.makeSlice 23 (.int .i64 (N : Int)) (.int .i64 (N : Int))).run Try.prog W = .ok (.slice (some ⟨W.heap.size, 0, none⟩) N N) (W.alloc (.cells Z 5)) := by
    intro W; rw [← hZ]; exact zr_make N (by omega) W
  have fin : ∀ w1 : World, w.grownBy w1 (some g) → RdAt w1 g B (r.short N) → Hid (RowP (w1.alloc (.cells Z 5)) (fun b => w.heap.size ≤ b) (some ⟨w1.heap.size, 0, none⟩) N (bv (List.replicate N 0))) ∧ Hid (RdTo g B (r.short N) w (w1.alloc (.cells Z 5))) := by
    intro w1 hg1 hr1
    refine ⟨blk_row (by rw [heap_alloc_new, bv_zeros, hZ]) (by simp) hg1.size, hr1.below ((Below.refl _ _).alloc (Nat.le_refl _) _), hg1.trans (grown_of_below _ ((Below.refl _ _).alloc (Nat.le_refl _) _))⟩
  have FIN := Lib.hid fin
  clear fin hZ
  have H := Lib.hid h
  obtain ⟨A, c, hx, hr, hB, hnc, hc⟩ := h
  have hg := (Array.getElem?_eq_some_iff.1 hx).1
  obtain ⟨n, hn⟩ : ∃ n, r.l.length = n := ⟨_, rfl⟩
  obtain ⟨ee, he⟩ : ∃ ee, r.e = ee := ⟨_, rfl⟩
  rw [hn, he] at hx
  have c0 : w.cell? ⟨g, 0, none⟩ = some (.slice A n c) := by rw [cell_of_row w g 0 _ _ (0, 0) hx]; rfl
  have c1 : w.cell? ⟨g, 1, none⟩ = some (.int .i64 ee) := by rw [cell_of_row w g 1 _ _ (0, 0) hx]; rfl
  clear hx hr hB hnc hc
  by_cases hlt : n < N
  · have hs : r.short N = r.fail 2 := by unfold Rd.short; rw [hn, if_pos hlt]
    rw [hs] at hbad FIN ⊢
    have hd : decide (n < N) = true := by simp; omega
    have HS := Lib.hid hbad
    clear hs hbad he hn
    go_enter Try.func59, Try.ntmps59
    go_wp2_with fail
    refine (rfail_any 2 H.out).mono ?_
    rintro e w1 ⟨rfl, hto⟩
    obtain ⟨A1, c2, hx1, _⟩ := hto.out.1
    have hg1 : g < w1.heap.size := (Array.getElem?_eq_some_iff.1 hx1).1
    obtain ⟨e1, he1⟩ : ∃ e1, (r.fail 2).e = e1 := ⟨_, rfl⟩
    rw [he1] at hx1
    have k1 : w1.cell? ⟨g, 1, none⟩ = some (.int .i64 e1) := by rw [cell_of_row w1 g 1 _ _ (0, 0) hx1]; rfl
    have q : ((e1 : Int) == 0) = false := by have := HS.out; rw [he1] at this; simp [this]
    have FI := Lib.hid (FIN.out w1 hto.out.2 hto.out.1)
    clear hx1 he1 hto c0 c1
    go_wp2_with fail
    go_ret
    exact ⟨_, rfl, FI.out.1, FI.out.2⟩
  · have hs : r.short N = r := by unfold Rd.short; rw [hn, if_neg hlt]
    rw [hs] at hbad FIN ⊢
    have hd : decide (n < N) = false := by simp; omega
    have q : ((ee : Int) == 0) = false := by rw [he] at hbad; simp [hbad]
    have FI := Lib.hid (FIN.out w ⟨rfl, rfl, rfl, Nat.le_refl _, fun _ _ _ => rfl⟩ H.out)
    clear hs hbad he hn
    go_enter Try.func59, Try.ntmps59
    go_wp2_with fail
    go_ret
    exact ⟨_, rfl, FI.out.1, FI.out.2⟩
theorem rtake_any (N : Nat) (hN0 : 0 < N) (hN : N ≤ 44) {w : World} {g B : Nat} {r : Rd} (h : RdAt w g B r) :
    Calls Try.prog 59 #[.pointer (some ⟨g, 0, none⟩), .int .i64 (N : Int)] w (TakeOk g B N r w) := by
  by_cases hb : (r.short N).e = 0
  · obtain ⟨l, e⟩ := r
    by_cases hlt : l.length < N
    · exfalso
      simp only [Rd.short, if_pos hlt, Rd.fail] at hb
      split at hb
      · simp at hb
      · next h2 => exact h2 hb
    · have he : e = 0 := by simpa [Rd.short, hlt] using hb
      subst he
      exact rtake_ok N hN0 hN h (Nat.not_lt.1 hlt)
  · exact rtake_no N hN0 hN h hb
def NumOk (g B N : Nat) (r : Rd) (w : World) (e : Ending) (w' : World) : Prop := e = .returned (.int .u32 ((Rd.num N r).1 : Int)) ∧ Hid (RdTo g B (r.past N) w w')
set_option maxRecDepth 100000 in
set_option maxHeartbeats 800000 in
theorem rnum_any (N : Nat) (hN0 : 0 < N) (hN : N ≤ 4) {w : World} {g B : Nat} {r : Rd} (h : RdAt w g B r) :
    Calls Try.prog 50 #[.pointer (some ⟨g, 0, none⟩), .int .i64 (N : Int)] w (NumOk g B N r w) := by
  have H := Lib.hid (rtake_any N hN0 (by omega) h)
  clear h
  unfold NumOk Rd.num
  unfold TakeOk at H
  obtain ⟨l, hl⟩ : ∃ l, r.got N = l := ⟨_, rfl⟩
  obtain ⟨r2, hr2⟩ : ∃ r2, r.past N = r2 := ⟨_, rfl⟩
  rw [hl, hr2] at H ⊢
  clear hl hr2
  dsimp only
  go_enter Try.func50, Try.ntmps50
  go_wp2_with fail
  refine H.out.mono ?_
  rintro e w1 ⟨A, rfl, hrow, hto⟩
  have HR := Lib.hid hrow.out.row
  have HS : Hid (isNum 0 0 l) := ⟨rfl, by decide⟩
  have HN := Lib.hid HR.out.blen
  clear hrow H
  go_wp2_with fail
  go_loop [5, 12] (fun v i => ∃ (k x : Nat), k ≤ N ∧ Hid (isNum k x l) ∧ i = .int .i64 k ∧ v = .int .u32 x) (fun _ i => N - (intOf i).toNat)
  case atStart => exact ⟨0, 0, by omega, HS, rfl, rfl⟩
  case round =>
    obtain ⟨k, x, hk, hx, rfl, rfl⟩ := hrel
    by_cases hlt : k < N
    · obtain ⟨b, o, rfl, _, hkl, hcell⟩ := HR.out.byteAt hlt
      obtain ⟨y, hy, hr⟩ := isNum_next hx.out hkl (by omega)
      have HY := Lib.hid hy
      clear hy
      have hb : (l[k].toNat : Int) ≤ 255 := by have := CrcM.b_lt l[k]; omega
      go_wp2
      go_round
      case rel => exact ⟨k + 1, y, by omega, hr, by go_num, HY.out⟩
      case measure => simp [intOf]; omega
    · have : N = k := by omega
      subst this
      go_wp2
      go_ret
      refine ⟨?_, hto⟩
      have e := hx.out.1
      rw [List.take_of_length_le (by rw [HN.out]; omega)] at e
      rw [e]; rfl
def FlagOk (g B : Nat) (r : Rd) (w : World) (e : Ending) (w' : World) : Prop := e = .returned (.bool r.flag.1) ∧ Hid (RdTo g B r.flag.2 w w')
set_option maxRecDepth 100000 in
set_option maxHeartbeats 800000 in
theorem rflag_any {w : World} {g B : Nat} {r : Rd} (h : RdAt w g B r) :
    Calls Try.prog 52 #[.pointer (some ⟨g, 0, none⟩)] w (FlagOk g B r w) := by
  have H := Lib.hid (rnum_any 1 (by omega) (by omega) h)
  clear h
  unfold FlagOk Rd.flag
  unfold NumOk at H
  obtain ⟨x, hx⟩ : ∃ x, (Rd.num 1 r).1 = x := ⟨_, rfl⟩
  obtain ⟨r2, hr2⟩ : ∃ r2, (Rd.num 1 r).2 = r2 := ⟨_, rfl⟩
  have hp : r.past 1 = r2 := hr2
  rw [hx, hp] at H
  rw [hx, hr2]
  clear hx hr2 hp
  by_cases h1 : 1 < x
  · have q1 : ¬ x = 1 := by omega
    have q2 : (1 : Int) < (x : Int) := by omega
    have q3 : ((x : Int) == 1) = false := by simp; omega
    rw [if_pos h1, decide_eq_false q1]
    clear q1
    go_enter Try.func52, Try.ntmps52
    go_wp2_with fail
    refine H.out.mono ?_
    rintro e w1 ⟨rfl, hto⟩
    clear H
    go_wp2_with fail
    refine (rfail_any 3 hto.out.1).mono ?_
    rintro e w2 ⟨rfl, hto2⟩
    have HT : Hid (RdTo g B (r2.fail 3) w w2) := ⟨hto2.out.1, hto.out.2.trans hto2.out.2⟩
    clear hto hto2
    go_wp2_with fail
    go_ret
    exact ⟨rfl, HT⟩
  · rw [if_neg h1]
    have q2 : (x : Int) ≤ 1 := by omega
    have q4 : ¬ (1 : Int) < (x : Int) := by omega
    rcases (by omega : x = 0 ∨ x = 1) with rfl | rfl
    all_goals
      go_enter Try.func52, Try.ntmps52
      go_wp2_with fail
      refine H.out.mono ?_
      rintro e w1 ⟨rfl, hto⟩
      clear H
      go_wp2_with fail
      go_ret
      exact ⟨rfl, hto⟩
end Go.Proofs.Ytdipccjgpkedhaa
