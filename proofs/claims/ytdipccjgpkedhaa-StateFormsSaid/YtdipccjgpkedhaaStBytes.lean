/- state.Bytes: by contract. -/
import Derived.Test.YtdipccjgpkedhaaStAdd
import Derived.Test.YtdipccjgpkedhaaStB
namespace Go.Proofs.Ytdipccjgpkedhaa
open Go.RowKit
def LSt.w32 (L : LSt) : Prop := L.flo < 4294967296 ∧ L.gen < 4294967296 ∧ L.v0 < 4294967296 ∧ L.v1 < 4294967296 ∧ L.m.s < 4294967296 ∧ L.m.v < 4294967296
theorem filled_full {v : Nat} {l : Int} {h : List UInt8} (hv : v < 4294967296) (hf : filledB l h.length = true) : (⟨v, l, h⟩ : LSlot).full := by
  simp [filledB] at hf
  exact ⟨hv, by show 0 ≤ l; omega, by show l < 65536; omega, hf.1⟩
theorem empty_zero {v : Nat} {l : Int} {h : List UInt8} (hf : emptyB v l h = true) : (⟨v, l, h⟩ : LSlot) = LSlot.zero := by
  simp [emptyB] at hf
  obtain ⟨rfl, rfl, rfl⟩ := hf
  rfl
theorem may_ok {L : LSt} (h : L.may = true) (hw : L.w32) : L.ok ∧ (L.act = 0 ∨ L.act = 1) ∧ 0 ≤ L.trial ∧ L.trial ≤ 3 := by
  obtain ⟨act, trial, flo, gen, v0, l0, h0, v1, l1, h1, on, m⟩ := L
  obtain ⟨w1, w2, w3, w4, w5, w6⟩ := hw
  simp only at w1 w2 w3 w4 w5 w6
  simp only [LSt.may, mayB2, Bool.and_eq_true, decide_eq_true_eq] at h
  obtain ⟨⟨⟨a1, a2, a3⟩, a4⟩, a5⟩ := h
  have ss : (⟨v0, l0, h0⟩ : LSlot).ok ∧ (⟨v1, l1, h1⟩ : LSlot).ok := by
    split at a5
    · rw [Bool.and_eq_true, Bool.or_eq_true, Bool.and_eq_true] at a5
      refine ⟨.inr (filled_full w3 a5.1), ?_⟩
      rcases a5.2 with x | x
      · exact .inr (filled_full w4 x)
      · exact .inl (empty_zero x.2)
    · rw [Bool.and_eq_true, Bool.or_eq_true, Bool.and_eq_true] at a5
      refine ⟨?_, .inr (filled_full w4 a5.1)⟩
      rcases a5.2 with x | x
      · exact .inr (filled_full w3 x)
      · exact .inl (empty_zero x.2)
  refine ⟨⟨?_, ?_, a2, ?_, w1, w2, ss.1, ss.2, ?_⟩, a1, a2, a3⟩
  · show 0 ≤ act; omega
  · show act < 256; omega
  · show trial < 256; omega
  · show nowOk (on, m)
    unfold nowOk
    cases on with
    | true => exact ⟨a4, w5, w6⟩
    | false =>
      obtain ⟨s, v, l, z, p, hh⟩ := m
      simp at a4
      obtain ⟨rfl, rfl, rfl, rfl, rfl, rfl⟩ := a4
      rfl
theorem slot_bytes_le {S : LSlot} (h : S.ok) : S.bytes.length ≤ 39 := by
  rcases h with rfl | h
  · decide
  · unfold LSlot.bytes
    split
    · simp
    · simp [CrcM.four, h.2.2.2]
set_option maxRecDepth 100000 in
set_option maxHeartbeats 400000 in
theorem bytesS_no {cs : Array Value} {L : LSt} {w : World} {P : Nat → Prop} (h : IsSt w P cs L) (hm : L.may = false) :
    Calls Try.prog 7 #[.agg cs] w fun e w' => e = .returned (.tuple #[.slice none 0 0, .int .i64 1]) ∧ Below w.heap.size w w' := by
  have hb0 : Below w.heap.size w (w.alloc (.cells cs 30)) := (Below.refl _ _).alloc (Nat.le_refl _) _
  have H0 := Lib.hid (h.below hb0)
  have B0 := Lib.hid hb0
  have BX := Lib.hid (heap_alloc_new w (.cells cs 30))
  have HM := Lib.hid hm
  have I := Lib.hid h.inf
  clear h hb0 hm
  go_enter Try.func7, Try.ntmps7
  go_wp2_with ((with_reducible show wpList _ _ _ _ _ _); refine wpList_load_row (o := ⟨some 9, _, _, _, _, _⟩) rfl _ (.tmp 1) rfl w.heap.size rfl _ _ _ _ BX.out Try.underlying30 rfl I.out ?_)
  refine (mayS H0.out).mono ?_
  rintro e w1 ⟨rfl, hb1⟩
  rw [HM.out]
  have B1 := Lib.hid (B0.out.trans (hb1.mono B0.out.size))
  clear hb1
  go_wp2_with fail
  go_ret2
  exact ⟨rfl, B1.out⟩
def BytesOk (l : List UInt8) (w : World) (e : Ending) (w' : World) : Prop := ∃ A n c, e = .returned (.tuple #[.slice A n c, .int .i64 0]) ∧ Hid (n = l.length) ∧ Hid (w'.ownsRow w.heap.size 5 1 (.slice A n c) n (bv l)) ∧ Hid (Below w.heap.size w w')
theorem row_far {w wa w6 : World} {A : Option Addr} {n c lo : Nat} {xs : List Value} {v : Value} (hr : Row w w.heap.size A n xs) (hlt : ∀ k, (Value.slice A n c).ownBlock = some k → lo ≤ k ∧ k < w.heap.size) (hb : Below w.heap.size w wa) (hg : wa.grownBy w6 v.ownBlock) (hv : ∀ k, v.ownBlock = some k → k < lo) : Row w6 w.heap.size A n xs := by
  refine ⟨hr.1, fun hn => ?_⟩
  obtain ⟨b, o, e, hl, hc⟩ := hr.2 hn
  have h5 := (hlt b (by rw [e]; rfl)).1
  exact ⟨b, o, e, hl, fun j u hu => (World.cell?_of_block (a := ⟨b, o + j, none⟩) ((hg.block b (Nat.lt_of_lt_of_le hl hb.size) (fun e2 => by have := hv b e2.symm; omega)).trans (hb.block b hl))).trans (hc j u hu)⟩
theorem run_index2 (w : World) (cs : Array Value) (j : Int) (n : Nat) (hn : j = n) (h2 : n < 2) : (Instr.index 26 (.agg cs) (.int .i64 j)).run Try.prog w = .ok (.agg (cs.extract (n * 3) (n * 3 + 3))) w := by
  have hi : ∃ i, Try.prog.info? 25 = some i := Option.isSome_iff_exists.1 (by kernel_rfl)
  obtain ⟨i, hi⟩ := hi
  have hc : Try.prog.cellsOf 25 = 3 := by kernel_rfl
  have hin : 0 ≤ j ∧ j < 2 := by omega
  have hj : j.toNat = n := by omega
  simp [Instr.index, run_underlying Try.underlying26, run_underlying Try.underlying25, asIntOf, hin, part, isAgg, run_sizeOf w hi, hc, hj, go_sem]
set_option maxRecDepth 100000 in
set_option maxHeartbeats 3200000 in
theorem bytesS_ex (act tr flo gen v0 v1 : Nat) (l0 l1 : Int) (h0 h1 : List UInt8) (on : Bool) (m : LMan) (A0 A1 A : Option Addr) (c0 c1 c : Nat) (w : World) (hm : ((⟨(act : Int), (tr : Int), flo, gen, v0, l0, h0, v1, l1, h1, on, m⟩ : LSt)).may = true) (hw : ((⟨(act : Int), (tr : Int), flo, gen, v0, l0, h0, v1, l1, h1, on, m⟩ : LSt)).w32) (r0 : Row w w.heap.size A0 h0.length (bv h0)) (r1 : Row w w.heap.size A1 h1.length (bv h1)) (r : Row w w.heap.size A m.h.length (bv m.h)) :
    Calls Try.prog 7 #[.agg #[.int .i64 (act : Int), .int .i64 (tr : Int), .int .u32 (flo : Int), .int .u32 (gen : Int), .int .u32 (v0 : Int), .int .i64 l0, .slice A0 h0.length c0, .int .u32 (v1 : Int), .int .i64 l1, .slice A1 h1.length c1, .bool on, .int .u32 (m.s : Int), .int .u32 (m.v : Int), .int .i64 m.l, .int .i64 m.z, .int .i64 m.p, .slice A m.h.length c]] w (BytesOk ((⟨(act : Int), (tr : Int), flo, gen, v0, l0, h0, v1, l1, h1, on, m⟩ : LSt)).bytes w) := by
  obtain ⟨i0, hi, hz0, hz1, hz2⟩ := info_parts Try.info5
  have hst : IsSt w (fun _ => True) #[.int .i64 (act : Int), .int .i64 (tr : Int), .int .u32 (flo : Int), .int .u32 (gen : Int), .int .u32 (v0 : Int), .int .i64 l0, .slice A0 h0.length c0, .int .u32 (v1 : Int), .int .i64 l1, .slice A1 h1.length c1, .bool on, .int .u32 (m.s : Int), .int .u32 (m.v : Int), .int .i64 m.l, .int .i64 m.z, .int .i64 m.p, .slice A m.h.length c] (⟨(act : Int), (tr : Int), flo, gen, v0, l0, h0, v1, l1, h1, on, m⟩ : LSt) := ⟨A0, c0, A1, c1, A, c, rfl, .of_row r0, .of_row r1, .of_row r⟩
  obtain ⟨hok, ha, ht1, ht2⟩ := may_ok hm hw
  simp only at ha ht1 ht2
  have qa : act ≤ 1 := by omega
  have qt : tr ≤ 3 := by omega
  have hb0 : Below w.heap.size w (w.alloc (.cells #[.int .i64 (act : Int), .int .i64 (tr : Int), .int .u32 (flo : Int), .int .u32 (gen : Int), .int .u32 (v0 : Int), .int .i64 l0, .slice A0 h0.length c0, .int .u32 (v1 : Int), .int .i64 l1, .slice A1 h1.length c1, .bool on, .int .u32 (m.s : Int), .int .u32 (m.v : Int), .int .i64 m.l, .int .i64 m.z, .int .i64 m.p, .slice A m.h.length c] 30)) := (Below.refl _ _).alloc (Nat.le_refl _) _
  have H0 := Lib.hid (hst.below hb0)
  have B0 := Lib.hid hb0
  have BX := Lib.hid (heap_alloc_new w (.cells #[.int .i64 (act : Int), .int .i64 (tr : Int), .int .u32 (flo : Int), .int .u32 (gen : Int), .int .u32 (v0 : Int), .int .i64 l0, .slice A0 h0.length c0, .int .u32 (v1 : Int), .int .i64 l1, .slice A1 h1.length c1, .bool on, .int .u32 (m.s : Int), .int .u32 (m.v : Int), .int .i64 m.l, .int .i64 m.z, .int .i64 m.p, .slice A m.h.length c] 30))
  have HM := Lib.hid hm
  have RR0 := Lib.hid ((r0.below hb0).more hb0.size)
  have RR1 := Lib.hid ((r1.below hb0).more hb0.size)
  have RR := Lib.hid ((r.below hb0).more hb0.size)
  have HOK := Lib.hid hok
  have HW := Lib.hid hw
  clear hst hb0 hm r0 r1 r ha ht1 ht2 hok hw
  obtain ⟨BY, hBY⟩ : ∃ BY, ((⟨(act : Int), (tr : Int), flo, gen, v0, l0, h0, v1, l1, h1, on, m⟩ : LSt)).bytes = BY := ⟨_, rfl⟩
  rw [hBY]
  have HBY := Lib.hid hBY
  clear hBY
  go_enter Try.func7, Try.ntmps7
  go_wp2_with ((with_reducible show wpList _ _ _ _ _ _); refine wpList_load_row (o := ⟨some 9, _, _, _, _, _⟩) rfl _ (.tmp 1) rfl w.heap.size rfl _ _ _ _ BX.out Try.underlying30 rfl (by kernel_rfl) ?_)
  refine (mayS H0.out).mono ?_
  rintro e wb ⟨rfl, hb1⟩
  rw [HM.out]
  have B1 := Lib.hid (B0.out.trans (hb1.mono B0.out.size))
  have BX1 := Lib.hid ((hb1.block w.heap.size (by simp)).trans BX.out)
  have R0 := Lib.hid ((RR0.out.below hb1).more hb1.size)
  have R1 := Lib.hid ((RR1.out.below hb1).more hb1.size)
  have R := Lib.hid ((RR.out.below hb1).more hb1.size)
  have HLT : Hid (w.heap.size < wb.heap.size) := Lib.hid (Array.getElem?_eq_some_iff.1 BX1.out).1
  clear hb1 H0 B0 BX HM RR0 RR1 RR
  have HCL : Hid (∀ W, Below wb.heap.size wb W → W.heap[w.heap.size]? = some (.cells #[.int .i64 (act : Int), .int .i64 (tr : Int), .int .u32 (flo : Int), .int .u32 (gen : Int), .int .u32 (v0 : Int), .int .i64 l0, .slice A0 h0.length c0, .int .u32 (v1 : Int), .int .i64 l1, .slice A1 h1.length c1, .bool on, .int .u32 (m.s : Int), .int .u32 (m.v : Int), .int .i64 m.l, .int .i64 m.z, .int .i64 m.p, .slice A m.h.length c] 30 (0, 0))) := Lib.hid fun W hW => (hW.block _ HLT.out).trans BX1.out
  have ba : Below wb.heap.size wb (wb.alloc (.cells #[.int .u8 (act : Int), .int .u8 (tr : Int)] 5)) := (Below.refl _ _).alloc (Nat.le_refl _) _
  have e2 : bv [UInt8.ofNat act, UInt8.ofNat tr] = [Value.int IntKind.u8 (act : Int), Value.int IntKind.u8 (tr : Int)] := by simp [bv]; omega
  have O2 : Hid ((wb.alloc (.cells #[.int .u8 (act : Int), .int .u8 (tr : Int)] 5)).ownsRow wb.heap.size 5 1 (.slice (some ⟨wb.heap.size, 0, none⟩) 2 2) 2 (bv [UInt8.ofNat act, UInt8.ofNat tr])) := Lib.hid (by rw [e2]; exact own_lit #[.int .u8 (act : Int), .int .u8 (tr : Int)] rfl (Nat.le_refl _) rfl (by unfold maxLen; omega))
  have B2 := Lib.hid ba
  have k0 := cell_of_row _ w.heap.size 0 _ _ (0, 0) BX1.out
  have k1 := cell_of_row _ w.heap.size 1 _ _ (0, 0) BX1.out
  have k2 := cell_of_row _ w.heap.size 2 _ _ (0, 0) (HCL.out _ ba)
  clear ba e2
  go_wp2_with fail
  generalize (wb.alloc (.cells #[.int .u8 (act : Int), .int .u8 (tr : Int)] 5)) = w2 at *
  clear k0 k1 k2
  refine (stAdd_any wb.heap.size 2 2 _ _ flo HW.out.1 w2 O2.out B2.out.size (by omega)).mono ?_
  rintro e w3 ⟨A3, c3, rfl, O3, hb3⟩
  have B3 := Lib.hid (hb3.out _ B2.out)
  have k3 := cell_of_row _ w.heap.size 3 _ _ (0, 0) (HCL.out _ B3.out)
  clear O2 hb3 B2
  go_wp2_with fail
  clear k3
  refine (stAdd_any wb.heap.size (2 + 4) c3 A3 _ gen HW.out.2.1 w3 O3.out B3.out.size (by omega)).mono ?_
  rintro e w4 ⟨A4, c4, rfl, O4, hb4⟩
  have B4 := Lib.hid (hb4.out _ B3.out)
  clear O3 hb4 B3
  have HRG : Hid (World.rangeAt w4 w.heap.size 4 (#[.int .u32 (v0 : Int), .int .i64 l0, .slice A0 h0.length c0, .int .u32 (v1 : Int), .int .i64 l1, .slice A1 h1.length c1] : Array Value).toList) := Lib.hid fun j v hv => by
    rw [cell_of_row _ w.heap.size (4 + j) _ _ (0, 0) (HCL.out _ B4.out)]
    match j, hv with
    | 0, hv => exact hv
    | 1, hv => exact hv
    | 2, hv => exact hv
    | 3, hv => exact hv
    | 4, hv => exact hv
    | 5, hv => exact hv
    | j + 6, hv => simp at hv
  obtain ⟨lk, hlk⟩ : ∃ lk : Nat → List UInt8, lk = fun k => match k with | 0 => ([UInt8.ofNat act, UInt8.ofNat tr] ++ CrcM.four flo ++ CrcM.four gen) | 1 => ([UInt8.ofNat act, UInt8.ofNat tr] ++ CrcM.four flo ++ CrcM.four gen) ++ ((⟨v0, l0, h0⟩ : LSlot)).bytes | _ => ([UInt8.ofNat act, UInt8.ofNat tr] ++ CrcM.four flo ++ CrcM.four gen) ++ ((⟨v0, l0, h0⟩ : LSlot)).bytes ++ ((⟨v1, l1, h1⟩ : LSlot)).bytes := ⟨_, rfl⟩
  have LKP : Hid (lk 0 = ([UInt8.ofNat act, UInt8.ofNat tr] ++ CrcM.four flo ++ CrcM.four gen)) := Lib.hid (by subst hlk; rfl)
  have LK0 : Hid (lk 1 = lk 0 ++ ((⟨v0, l0, h0⟩ : LSlot)).bytes) := Lib.hid (by subst hlk; rfl)
  have LK1 : Hid (lk 2 = lk 1 ++ ((⟨v1, l1, h1⟩ : LSlot)).bytes) := Lib.hid (by subst hlk; rfl)
  have OK0 : Hid (((⟨v0, l0, h0⟩ : LSlot)).ok) := Lib.hid HOK.out.2.2.2.2.2.2.1
  have OK1 : Hid (((⟨v1, l1, h1⟩ : LSlot)).ok) := Lib.hid HOK.out.2.2.2.2.2.2.2.1
  have O5 : Hid (World.ownsRow w4 wb.heap.size 5 1 (.slice A4 (2 + 4 + 4) c4) (2 + 4 + 4) (bv (lk 0))) := Lib.hid (by rw [LKP.out]; exact O4.out)
  have L5 : Hid ((lk 0).length = 2 + 4 + 4) := Lib.hid (by rw [LKP.out]; rfl)
  have lkn : Hid (∀ k, k ≤ 2 → (lk k).length ≤ 1000) := Lib.hid (by
    have b0 := slot_bytes_le OK0.out
    have b1 := slot_bytes_le OK1.out
    intro k hk
    rcases (by omega : k = 0 ∨ k = 1 ∨ k = 2) with rfl | rfl | rfl
    · rw [L5.out]; omega
    · rw [LK0.out, List.length_append, L5.out]; omega
    · rw [LK1.out, LK0.out, List.length_append, List.length_append, L5.out]; omega)
  clear hlk O4
  go_wp2_with ((with_reducible show wpList _ _ _ _ _ _); refine wpList_load_mid rfl _ (.tmp 27) rfl w.heap.size 4 rfl _ _ HRG.out Try.underlying26 rfl (by kernel_rfl) ?_)
  clear HRG
  go_loopw [29, 4] (fun x s wr => ∃ (k n4 : Nat) (A4 : Option Addr) (c4 : Nat), k ≤ 2 ∧ x = .int .i64 k ∧ s = .slice A4 n4 c4 ∧ Hid (World.ownsRow wr wb.heap.size 5 1 (.slice A4 n4 c4) n4 (bv (lk k))) ∧ Hid ((lk k).length = n4) ∧ Hid (Below wb.heap.size wb wr)) (fun x _ _ => 2 - (intOf x).toNat)
  case atStart => exact ⟨0, _, _, _, by omega, rfl, rfl, O5, L5, B4⟩
  case round =>
    clear O5 L5 B4
    obtain ⟨k, n4, A4, c4, hk, rfl, rfl, HO, HLN, HB⟩ := hrel
    have HN : Hid (n4 ≤ 1000) := Lib.hid (by rw [← HLN.out]; exact lkn.out k hk)
    rcases (by omega : k = 0 ∨ k = 1 ∨ k = 2) with rfl | rfl | rfl
    · -- slot 0
      have ba : Below wr.heap.size wr (wr.alloc (.cells #[.int .u32 (v0 : Int), .int .i64 l0, .slice A0 h0.length c0] 25)) := (Below.refl _ _).alloc (Nat.le_refl _) _
      have O0 := Lib.hid (own_below HO.out ba)
      have B0 := Lib.hid (HB.out.trans (ba.mono HB.out.size))
      have BX := Lib.hid (heap_alloc_new wr (.cells #[.int .u32 (v0 : Int), .int .i64 l0, .slice A0 h0.length c0] 25))
      have RR := Lib.hid (R0.out.below B0.out)
      clear ba
      have ix : ∀ W, (Instr.index 26 (.agg #[.int .u32 (v0 : Int), .int .i64 l0, .slice A0 h0.length c0, .int .u32 (v1 : Int), .int .i64 l1, .slice A1 h1.length c1]) (.int .i64 0)).run Try.prog W = .ok (.agg #[.int .u32 (v0 : Int), .int .i64 l0, .slice A0 h0.length c0]) W := fun W => run_index2 W _ 0 0 rfl (by omega)
      go_wp2_with (first
        | ((with_reducible show wpList _ _ _ _ _ _); refine wpList_store_new rfl rfl _ (.tmp 6) (.tmp 31) rfl _ _ #[.int .u32 (v0 : Int), .int .i64 l0, .slice A0 h0.length c0] _ rfl rfl (by kernel_rfl) (by rfl) (by simp [Value.oneCell']) ?_)
        | ((with_reducible show wpList _ _ _ _ _ _); refine wpList_load_row (o := ⟨some 33, _, _, _, _, _⟩) rfl _ (.tmp 6) rfl wr.heap.size rfl _ _ _ _ BX.out Try.underlying25 rfl (by kernel_rfl) ?_))
      generalize (wr.alloc (.cells #[.int .u32 (v0 : Int), .int .i64 l0, .slice A0 h0.length c0] 25)) = w6 at *
      refine (addSlot_any (S := (⟨v0, l0, h0⟩ : LSlot)) O0.out B0.out.size (by have := HN.out; omega) RR.out (Nat.le_refl _) OK0.out).mono ?_
      rintro e w7 ⟨A7, c7, rfl, bg⟩
      have HB7 := Lib.hid (bg.out.below B0.out B0.out.size O0.out)
      have HO7 := Lib.hid bg.out.own
      obtain ⟨n7, hn7⟩ : ∃ n7, n4 + ((⟨v0, l0, h0⟩ : LSlot)).bytes.length = n7 := ⟨_, rfl⟩
      have HL7 : Hid ((lk 1).length = n7) := Lib.hid (by rw [← hn7, LK0.out, List.length_append, HLN.out])
      rw [hn7] at HO7 ⊢
      have HO8 : Hid (World.ownsRow w7 wb.heap.size 5 1 (.slice A7 n7 c7) n7 (bv (lk 1))) := Lib.hid (by rw [LK0.out]; exact HO7.out)
      clear HO7 bg O0 B0 BX RR hn7
      go_wp2_with fail
      go_roundw
      case rel => exact ⟨1, n7, A7, c7, by omega, by go_num, rfl, HO8, HL7, HB7⟩
      case measure => simp [intOf]
    · -- slot 1
      have ba : Below wr.heap.size wr (wr.alloc (.cells #[.int .u32 (v1 : Int), .int .i64 l1, .slice A1 h1.length c1] 25)) := (Below.refl _ _).alloc (Nat.le_refl _) _
      have O0 := Lib.hid (own_below HO.out ba)
      have B0 := Lib.hid (HB.out.trans (ba.mono HB.out.size))
      have BX := Lib.hid (heap_alloc_new wr (.cells #[.int .u32 (v1 : Int), .int .i64 l1, .slice A1 h1.length c1] 25))
      have RR := Lib.hid (R1.out.below B0.out)
      clear ba
      have ix : ∀ W, (Instr.index 26 (.agg #[.int .u32 (v0 : Int), .int .i64 l0, .slice A0 h0.length c0, .int .u32 (v1 : Int), .int .i64 l1, .slice A1 h1.length c1]) (.int .i64 1)).run Try.prog W = .ok (.agg #[.int .u32 (v1 : Int), .int .i64 l1, .slice A1 h1.length c1]) W := fun W => run_index2 W _ 1 1 rfl (by omega)
      go_wp2_with (first
        | ((with_reducible show wpList _ _ _ _ _ _); refine wpList_store_new rfl rfl _ (.tmp 6) (.tmp 31) rfl _ _ #[.int .u32 (v1 : Int), .int .i64 l1, .slice A1 h1.length c1] _ rfl rfl (by kernel_rfl) (by rfl) (by simp [Value.oneCell']) ?_)
        | ((with_reducible show wpList _ _ _ _ _ _); refine wpList_load_row (o := ⟨some 33, _, _, _, _, _⟩) rfl _ (.tmp 6) rfl wr.heap.size rfl _ _ _ _ BX.out Try.underlying25 rfl (by kernel_rfl) ?_))
      generalize (wr.alloc (.cells #[.int .u32 (v1 : Int), .int .i64 l1, .slice A1 h1.length c1] 25)) = w6 at *
      refine (addSlot_any (S := (⟨v1, l1, h1⟩ : LSlot)) O0.out B0.out.size (by have := HN.out; omega) RR.out (Nat.le_refl _) OK1.out).mono ?_
      rintro e w7 ⟨A7, c7, rfl, bg⟩
      have HB7 := Lib.hid (bg.out.below B0.out B0.out.size O0.out)
      have HO7 := Lib.hid bg.out.own
      obtain ⟨n7, hn7⟩ : ∃ n7, n4 + ((⟨v1, l1, h1⟩ : LSlot)).bytes.length = n7 := ⟨_, rfl⟩
      have HL7 : Hid ((lk 2).length = n7) := Lib.hid (by rw [← hn7, LK1.out, List.length_append, HLN.out])
      rw [hn7] at HO7 ⊢
      have HO8 : Hid (World.ownsRow w7 wb.heap.size 5 1 (.slice A7 n7 c7) n7 (bv (lk 2))) := Lib.hid (by rw [LK1.out]; exact HO7.out)
      clear HO7 bg O0 B0 BX RR hn7
      go_wp2_with fail
      go_roundw
      case rel => exact ⟨2, n7, A7, c7, by omega, by go_num, rfl, HO8, HL7, HB7⟩
      case measure => simp [intOf]
    · -- behind the slots
      have k10 := cell_of_row _ w.heap.size 10 _ _ (0, 0) (HCL.out _ HB.out)
      have hn : n4 ≤ 1000 := HN.out
      cases on with
      | false =>
        have e : ((⟨(act : Int), (tr : Int), flo, gen, v0, l0, h0, v1, l1, h1, false, m⟩ : LSt)).bytes = lk 2 ++ [0] := by rw [LK1.out, LK0.out, LKP.out]; rfl
        go_wp2_with (at_builtin; go_loud (refine wpList_app rfl (.tmp 39) (.tmp 40) 23 rfl wb.heap.size 5 i0 (.int .u8 0) 1 Try.underlying23 hi hz0 hz1 hz2 rfl _ n4 (bv (lk 2)) rfl (HO.out.alloc _) _ _ 1 1 _ rfl (row_new wr _ _ _) (by intro u hu; simp at hu; subst hu; rfl) (by unfold maxLen; omega) (by omega) (by have := HB.out.size; simp; omega) ?_; intro v6 w6 hown6 hg6 hat6))
        obtain ⟨A6, c6, rfl, _⟩ := own_slice hown6
        have HW6 := Lib.hid (below_app (HB.out.alloc HB.out.size _) (by have := HB.out.size; simp; omega) (HO.out.alloc _) (Nat.le_refl _) hg6)
        go_ret2
        refine ⟨A6, n4 + 1, c6, rfl, Lib.hid ?_, Lib.hid ?_, Lib.hid (B1.out.trans (HW6.out.mono B1.out.size))⟩
        · rw [← HBY.out, e, List.length_append, HLN.out]; rfl
        · rw [← HBY.out, e, bv_append]
          exact own_base hown6 B1.out.size
      | true =>
        have hmo : m.ok := HOK.out.2.2.2.2.2.2.2.2
        obtain ⟨ms, mv, ml, mz, mp, mh⟩ := m
        obtain ⟨Lm, Zm, Pm, rfl, rfl, rfl, b1, b2, b3, b4, b5, b6⟩ := man_bounds hmo.1
        simp only at b6
        have HPB : Hid (plainB ms mv Lm Zm Pm mh = (⟨ms, mv, (Lm : Int), (Zm : Int), (Pm : Int), mh⟩ : LMan).bytes) := Lib.hid (by unfold LMan.bytes; simp)
        have e : ((⟨(act : Int), (tr : Int), flo, gen, v0, l0, h0, v1, l1, h1, true, (⟨ms, mv, (Lm : Int), (Zm : Int), (Pm : Int), mh⟩ : LMan)⟩ : LSt)).bytes = lk 2 ++ [1] ++ plainB ms mv Lm Zm Pm mh := by rw [HPB.out, LK1.out, LK0.out, LKP.out]; unfold LSt.bytes LSt.s0 LSt.s1; simp
        have HE := Lib.hid e
        have hlp : (plainB ms mv Lm Zm Pm mh).length = 44 := by rw [HPB.out, bytes_len, b6]
        have HPN := Lib.hid hlp
        have RM : Hid (Row wr wb.heap.size A 32 (bv mh)) := Lib.hid (by have := R.out.below HB.out; rw [b6] at this; exact this)
        have HMB : Hid (manB (Lm : Int) (Zm : Int) (Pm : Int) 32 = true) := Lib.hid (by have := hmo.1; unfold LMan.may at this; rw [b6] at this; exact this)
        have HB6 := Lib.hid b6
        have HSV : Hid (ms < 4294967296 ∧ mv < 4294967296 ∧ Lm ≤ 512 ∧ Zm ≤ 16 ∧ Pm ≤ 16) := Lib.hid ⟨hmo.2.1, hmo.2.2, b2, b4, b5⟩
        clear e hlp hmo b1 b2 b3 b4 b5
        have HRM : Hid (World.rangeAt wr w.heap.size 11 [.int .u32 (ms : Int), .int .u32 (mv : Int), .int .i64 (Lm : Int), .int .i64 (Zm : Int), .int .i64 (Pm : Int), .slice A mh.length c]) := Lib.hid fun j v hv => by
          rw [cell_of_row _ w.heap.size (11 + j) _ _ (0, 0) (HCL.out _ HB.out)]
          match j, hv with
          | 0, hv => exact hv
          | 1, hv => exact hv
          | 2, hv => exact hv
          | 3, hv => exact hv
          | 4, hv => exact hv
          | 5, hv => exact hv
          | j + 6, hv => simp at hv
        rw [HB6.out] at HRM
        go_wp2_with ((with_reducible show wpList _ _ _ _ _ _); refine wpList_load_mid rfl _ (.tmp 43) rfl w.heap.size 11 rfl _ _ HRM.out Try.underlying28 rfl (by kernel_rfl) ?_)
        refine (plain_yes ms mv Lm Zm Pm A c wb.heap.size mh wr HSV.out.1 HSV.out.2.1 HSV.out.2.2.1 HSV.out.2.2.2.1 HSV.out.2.2.2.2 HMB.out RM.out HB.out.size).mono ?_
        rintro e w5 ⟨A5, c5, rfl, O5, hb5⟩
        have OW5 := Lib.hid (own_below HO.out hb5.out)
        have HB5 := Lib.hid (HB.out.trans (hb5.out.mono HB.out.size))
        have RP5 : Hid (Row w5 w5.heap.size A5 44 (bv (plainB ms mv Lm Zm Pm mh))) := Lib.hid (Row.of_own O5.out)
        have LT5 := Lib.hid O5.out.lt
        clear HRM RM k10
        go_upto_region 16 with fail
        go_wp2_with (first
          | (at_builtin; refine wpList_app rfl (.tmp 51) (.tmp 52) 23 rfl wb.heap.size 5 i0 (.int .u8 0) 1 Try.underlying23 hi hz0 hz1 hz2 rfl _ n4 (bv (lk 2)) rfl (OW5.out.alloc _) _ _ 1 1 _ rfl (row_new w5 _ _ _) (by intro u hu; simp at hu; subst hu; rfl) (by unfold maxLen; omega) (by omega) (by have := HB5.out.size; simp; omega) ?_; intro v6 w6 hown6 hg6 hat6; obtain ⟨A6, c6, rfl, _⟩ := own_slice hown6; have HW6 := Lib.hid (below_app (HB5.out.alloc HB5.out.size _) (by have := HB5.out.size; simp; omega) (OW5.out.alloc _) (Nat.le_refl _) hg6); have O6 := Lib.hid hown6; have RP6 : Hid (Row w6 w5.heap.size A5 44 (bv (plainB ms mv Lm Zm Pm mh))) := Lib.hid (row_far RP5.out LT5.out ((Below.refl _ _).alloc (Nat.le_refl _) _) hg6 (fun k hk => (HO.out.lt k hk).2)); clear hown6 hg6 hat6)
          | (at_builtin; refine wpList_app rfl (.tmp 53) (.tmp 54) 23 rfl wb.heap.size 5 i0 (.int .u8 0) 1 Try.underlying23 hi hz0 hz1 hz2 rfl _ (n4 + 1) _ rfl O6.out w5.heap.size A5 44 c5 _ rfl RP6.out (bv_one _) (by unfold maxLen; omega) (by omega) HW6.out.size ?_; intro v7 w7 hown7 hg7 hat7))
        obtain ⟨A7, c7, rfl, _⟩ := own_slice hown7
        have HW7 := Lib.hid (below_app HW6.out HW6.out.size O6.out (Nat.le_refl _) hg7)
        go_ret2
        refine ⟨A7, n4 + 1 + 44, c7, rfl, Lib.hid ?_, Lib.hid ?_, Lib.hid (B1.out.trans (HW7.out.mono B1.out.size))⟩
        · rw [← HBY.out, HE.out, List.length_append, List.length_append, HLN.out, HPN.out]; rfl
        · rw [← HBY.out, HE.out, bv_append, bv_append]
          exact own_base hown7 B1.out.size
end Go.Proofs.Ytdipccjgpkedhaa
