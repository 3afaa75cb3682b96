/- state's reader: slot, manifest: by contract. -/
import Derived.Test.YtdipccjgpkedhaaRdr
import Derived.Test.YtdipccjgpkedhaaManRead
namespace Go.Proofs.Ytdipccjgpkedhaa
open Go.RowKit
def LSlot.cells (S : LSlot) (A : Option Addr) (c : Nat) : Array Value := #[.int .u32 (S.v : Int), .int .i64 S.l, .slice A S.h.length c]
/-- what is told besides, in blocks from world w on -/
def SlotRd (g B : Nat) (S : LSlot) (r : Rd) (w : World) (e : Ending) (w' : World) : Prop :=
  ∃ A c, e = .returned (.agg (S.cells A c)) ∧ Hid (RowP w' (fun b => w.heap.size ≤ b) A S.h.length (bv S.h)) ∧ Hid (RdTo g B r w w')
theorem RdTo.trans {w w1 w2 : World} {g B : Nat} {r r' : Rd} (h1 : RdTo g B r w w1) (h2 : RdTo g B r' w1 w2) : RdTo g B r' w w2 := ⟨h2.1, h1.2.trans h2.2⟩
theorem RdTo.of_below {w w1 w2 : World} {g B : Nat} {r : Rd} (hb : Below w.heap.size w w1) (h2 : RdTo g B r w1 w2) : RdTo g B r w w2 := ⟨h2.1, (grown_of_below _ hb).trans h2.2⟩
theorem RdTo.setRow {w w1 : World} {g B k : Nat} {r : Rd} (h : RdTo g B r w w1) (hk : w.heap.size ≤ k) (hg : g < w.heap.size) (_ : B ≤ w.heap.size) (cs : Array Value) : RdTo g B r w (w1.setRow k cs) := by
  obtain ⟨⟨A, c, hx, hr, hBg, hn, hc⟩, hgr⟩ := h
  refine ⟨⟨A, c, (setRow_other _ _ _ _ (by omega)).trans hx, hr.keep fun p hp => World.cell?_of_block (setRow_other _ _ _ _ (by omega)), hBg, hn, hc⟩, ?_⟩
  exact ⟨hgr.os, hgr.tape, hgr.output, by simpa using hgr.size, fun b hb hne => (setRow_other _ _ _ _ (by omega)).trans (hgr.block b hb hne)⟩
theorem RdTo.box {w w1 : World} {g B k : Nat} {r : Rd} {cs : Array Value} {t : TypeId} {fr : Nat × Nat} (h : RdTo g B r w w1) (hx : w.heap[k]? = some (.cells cs t fr)) (hk : k ≠ g) : w1.heap[k]? = some (.cells cs t fr) :=
  (h.2.block k (Array.getElem?_eq_some_iff.1 hx).1 (fun e => hk (Option.some.inj e))).trans hx
theorem RdAt.le {w : World} {g B : Nat} {r : Rd} (h : RdAt w g B r) : B ≤ g := by obtain ⟨_, _, _, _, h, _⟩ := h; exact h
set_option maxRecDepth 100000 in
set_option maxHeartbeats 1600000 in
theorem rslot_any {w : World} {g B : Nat} {r : Rd} (h : RdAt w g B r) :
    Calls Try.prog 51 #[.pointer (some ⟨g, 0, none⟩)] w (SlotRd g B (Rd.slot r).1 (Rd.slot r).2 w) := by
  have hb0 : Below w.heap.size w (w.alloc (.cells #[.int .u32 0, .int .i64 0, .slice none 0 0] 25)) := (Below.refl _ _).alloc (Nat.le_refl _) _
  have X0 := Lib.hid (heap_alloc_new w (.cells #[.int .u32 0, .int .i64 0, .slice none 0 0] 25))
  have H0 := Lib.hid (h.below hb0)
  have LG := Lib.hid h.lt
  have BG := Lib.hid h.le
  have B0 := Lib.hid hb0
  clear h hb0
  unfold Rd.slot
  have HF := Lib.hid (rflag_any H0.out)
  unfold FlagOk at HF
  obtain ⟨f, hf⟩ : ∃ f, r.flag.1 = f := ⟨_, rfl⟩
  obtain ⟨r1, hr1⟩ : ∃ r1, r.flag.2 = r1 := ⟨_, rfl⟩
  rw [hf, hr1] at HF
  rw [hf, hr1]
  clear hf hr1
  cases f with
  | false =>
    go_enter Try.func51, Try.ntmps51
    go_wp2_with fail
    refine HF.out.mono ?_
    rintro e w1 ⟨rfl, hto⟩
    have X1 := Lib.hid (hto.out.box X0.out (by have := LG.out; omega))
    have HT := Lib.hid (RdTo.of_below B0.out hto.out)
    clear hto HF H0 X0 B0
    go_wp2_with ((with_reducible show wpList _ _ _ _ _ _); refine wpList_store_row rfl _ (.tmp 2) (.tmp 6) rfl (w.heap.size) #[.int .u32 0, .int .i64 0, .slice none 0 0] rfl rfl _ _ X1.out (by kernel_rfl) (by rfl) (by simp [Value.oneCell']) ?_)
    have hrow : (w1.setRow w.heap.size #[.int .u32 0, .int .i64 0, .slice none 0 0]).heap[w.heap.size]? = some (.cells #[.int .u32 0, .int .i64 0, .slice none 0 0] 25 (0, 0)) := setRow_heap _ _ _ _ _ _ X1.out
    refine bodyPost_ret (results_cell_row rfl _ _ (w.heap.size) _ _ (0, 0) _ rfl hrow Try.underlying25 rfl (by kernel_rfl)) rfl ?_
    exact ⟨none, 0, rfl, Lib.hid (.nil _ _ _), Lib.hid (HT.out.setRow (Nat.le_refl _) LG.out (by have := LG.out; have := BG.out; omega) _)⟩
  | true =>
    go_enter Try.func51, Try.ntmps51
    go_wp2_with fail
    refine HF.out.mono ?_
    rintro e w1 ⟨rfl, ht1⟩
    go_wp2_with fail
    refine (rnum_any 4 (by omega) (by omega) ht1.out.1).mono ?_
    rintro e w2 ⟨rfl, ht2⟩
    obtain ⟨a1, ha1⟩ : ∃ a1, (Rd.num 4 r1).1 = a1 := ⟨_, rfl⟩
    rw [ha1]
    go_wp2_with fail
    refine (rnum_any 2 (by omega) (by omega) ht2.out.1).mono ?_
    rintro e w3 ⟨rfl, ht3⟩
    obtain ⟨a2, ha2⟩ : ∃ a2, (Rd.num 2 (r1.past 4)).1 = a2 := ⟨_, rfl⟩
    have hq2 : (a2 : Int) ≤ 65535 := by
      have : (Rd.num 2 (r1.past 4)).1 < 65536 := num_lt2 _ (by
        show ((r1.past 4).got 2).length ≤ 2
        unfold Rd.got; split <;> simp <;> omega)
      omega
    rw [ha2]
    go_wp2_with fail
    refine (rtake_any 32 (by omega) (by omega) ht3.out.1).mono ?_
    rintro e w4 ⟨A4, rfl, hrw, ht4⟩
    have HTT := Lib.hid (RdTo.of_below B0.out (((ht1.out.trans ht2.out).trans ht3.out).trans ht4.out))
    have X4 := Lib.hid ((((ht1.out.trans ht2.out).trans ht3.out).trans ht4.out).box X0.out (by have := LG.out; omega))
    have L4 : Hid (w.heap.size < w3.heap.size) := Lib.hid (by have h1 := ((ht1.out.trans ht2.out).trans ht3.out).2.size; have := (Array.getElem?_eq_some_iff.1 X0.out).1; omega)
    have R4 := Lib.hid hrw.out
    clear ht1 ht2 ht3 ht4 hrw HF H0 X0 B0
    obtain ⟨a3, ha3⟩ : ∃ a3, (Rd.take 32 (Rd.num 2 (Rd.num 4 r1).2).2).1 = a3 := ⟨_, rfl⟩
    have hl3 : a3.length = 32 := by rw [← ha3]; show (Rd.got _ 32).length = 32; rw [← bv_length]; exact R4.out.1
    have HL3 := Lib.hid hl3
    have R5 : Hid (RowP w4 (fun b => w3.heap.size ≤ b) A4 32 (bv a3)) := Lib.hid (by rw [← ha3]; exact R4.out)
    clear R4 hl3
    have ha2' : (Rd.num 2 (Rd.num 4 r1).2).1 = a2 := ha2
    have SC : Hid ((⟨(Rd.num 4 r1).1, ((Rd.num 2 (Rd.num 4 r1).2).1 : Nat), (Rd.take 32 (Rd.num 2 (Rd.num 4 r1).2).2).1⟩ : LSlot) = ⟨a1, (a2 : Nat), a3⟩) := Lib.hid (by rw [ha1, ha2', ha3])
    clear ha1 ha2 ha2' ha3
    go_wp2_with ((with_reducible show wpList _ _ _ _ _ _); refine wpList_store_row rfl _ (.tmp 2) (.tmp 14) rfl (w.heap.size) #[.int .u32 (a1 : Int), .int .i64 (a2 : Int), .slice A4 32 32] rfl rfl _ _ X4.out (by kernel_rfl) (by rfl) (by simp [Value.oneCell']) ?_)
    have hrow : (w4.setRow w.heap.size #[.int .u32 (a1 : Int), .int .i64 (a2 : Int), .slice A4 32 32]).heap[w.heap.size]? = some (.cells #[.int .u32 (a1 : Int), .int .i64 (a2 : Int), .slice A4 32 32] 25 (0, 0)) := setRow_heap _ _ _ _ _ _ X4.out
    refine bodyPost_ret (results_cell_row rfl _ _ (w.heap.size) _ _ (0, 0) _ rfl hrow Try.underlying25 rfl (by kernel_rfl)) rfl ?_
    rw [SC.out]
    refine ⟨A4, 32, by simp only [LSlot.cells, HL3.out], Lib.hid ?_, Lib.hid (HTT.out.setRow (Nat.le_refl _) LG.out (by have := LG.out; have := BG.out; omega) _)⟩
    show RowP _ _ A4 a3.length (bv a3)
    rw [HL3.out]
    exact (R5.out.keep (by simp) fun b hb _ => setRow_other _ _ _ _ (by have := L4.out; omega)).imp fun b _ hb => by have := L4.out; omega
/-- a manifest that is read -/
def ManRd (g B : Nat) (M : LMan) (r : Rd) (w : World) (e : Ending) (w' : World) : Prop :=
  ∃ cs, e = .returned (.agg cs) ∧ Hid (IsMan w' (fun b => w.heap.size ≤ b) cs M) ∧ Hid (RdTo g B r w w')
set_option maxRecDepth 100000 in
set_option maxHeartbeats 1600000 in
theorem rman_any {w : World} {g B : Nat} {r : Rd} (h : RdAt w g B r) :
    Calls Try.prog 53 #[.pointer (some ⟨g, 0, none⟩)] w (ManRd g B (Rd.man r).1 (Rd.man r).2 w) := by
  have hb0 : Below w.heap.size w (w.alloc (.cells #[.int .u32 0, .int .u32 0, .int .i64 0, .int .i64 0, .int .i64 0, .slice none 0 0] 28)) := (Below.refl _ _).alloc (Nat.le_refl _) _
  have X0 := Lib.hid (heap_alloc_new w (.cells #[.int .u32 0, .int .u32 0, .int .i64 0, .int .i64 0, .int .i64 0, .slice none 0 0] 28))
  have H0 := Lib.hid (h.below hb0)
  have LG := Lib.hid h.lt
  have BG := Lib.hid h.le
  have B0 := Lib.hid hb0
  clear h hb0
  go_enter Try.func53, Try.ntmps53
  go_wp2_with fail
  refine (rtake_any 44 (by omega) (by omega) H0.out).mono ?_
  rintro e w1 ⟨A1, rfl, hrw, ht1⟩
  go_wp2_with fail
  refine (read_any A1 44 44 (r.got 44) w1 hrw.out.row (by omega) (by omega)).mono ?_
  rintro e w2 ⟨cs, rfl, hman, hb2⟩
  have hto2 : RdTo g B (r.past 44) w1 w2 := ⟨ht1.out.1.below hb2.out, grown_of_below _ hb2.out⟩
  have ba : Below w2.heap.size w2 (w2.alloc (.cells cs 28)) := (Below.refl _ _).alloc (Nat.le_refl _) _
  have X1 := Lib.hid ((ba.block w.heap.size (Array.getElem?_eq_some_iff.1 ((ht1.out.trans hto2).box X0.out (by have := LG.out; omega))).1).trans ((ht1.out.trans hto2).box X0.out (by have := LG.out; omega)))
  have H3 := Lib.hid ((ht1.out.trans hto2).1.below ba)
  have HG3 := Lib.hid ((ht1.out.trans hto2).2.trans (grown_of_below _ ba))
  have M3 := Lib.hid (hman.out.below ba)
  have Y3 := Lib.hid (heap_alloc_new w2 (.cells cs 28))
  have I3 := Lib.hid hman.out.inf
  have O3 := Lib.hid hman.out.one
  have Z3 : Hid (6 = cs.size) := Lib.hid hman.out.size.symm
  have L1 : Hid (w.heap.size < w1.heap.size) := Lib.hid (by have h1 := ht1.out.2.size; have := (Array.getElem?_eq_some_iff.1 X0.out).1; omega)
  have L2 : Hid (w1.heap.size ≤ w2.heap.size) := Lib.hid hb2.out.size
  clear hrw ht1 hman hb2 hto2 ba H0 X0
  go_wp2_with ((with_reducible show wpList _ _ _ _ _ _); refine wpList_store_new rfl rfl _ (.tmp 3) (.tmp 9) rfl _ _ cs _ rfl rfl I3.out Z3.out O3.out ?_)
  generalize hw3 : w2.alloc (.cells cs 28) = w3 at *
  refine (rfail_any (readE (r.got 44)) H3.out).mono ?_
  rintro e w4 ⟨rfl, ht4⟩
  have X4 := Lib.hid (ht4.out.box X1.out (by have := LG.out; omega))
  have Y4 := Lib.hid (ht4.out.box Y3.out (by have := LG.out; have := L1.out; have := L2.out; omega))
  have HT : Hid (RdTo g B (Rd.man r).2 w w4) := Lib.hid (RdTo.of_below B0.out ⟨ht4.out.1, HG3.out.trans ht4.out.2⟩)
  have M4 : Hid (IsMan w4 (fun b => w1.heap.size ≤ b) cs (Rd.man r).1) := Lib.hid (M3.out.keep ht4.out.2.size fun b hb hl => ht4.out.2.block b hl (fun e => by have := LG.out; have := L1.out; have : b = g := Option.some.inj e; omega))
  clear ht4 X1 Y3 H3 HG3 M3 B0 hw3
  go_wp2_with (first
    | ((with_reducible show wpList _ _ _ _ _ _); refine wpList_load_row (o := ⟨some 14, _, _, _, _, _⟩) rfl _ (.tmp 3) rfl (w2.heap.size) rfl _ _ _ _ Y4.out Try.underlying28 rfl I3.out ?_)
    | ((with_reducible show wpList _ _ _ _ _ _); refine wpList_store_row rfl _ (.tmp 2) (.tmp 14) rfl (w.heap.size) cs rfl rfl _ _ X4.out I3.out Z3.out O3.out ?_))
  have hrow : (w4.setRow w.heap.size cs).heap[w.heap.size]? = some (.cells cs 28 (0, 0)) := setRow_heap _ _ _ _ _ _ X4.out
  refine bodyPost_ret (results_cell_row rfl _ _ (w.heap.size) _ _ (0, 0) _ rfl hrow Try.underlying28 rfl I3.out) rfl ?_
  exact ⟨cs, rfl, Lib.hid ((M4.out.keep (by simp) fun b hb _ => setRow_other _ _ _ _ (by have := L1.out; omega)).imp fun b _ hb => by have := L1.out; omega), Lib.hid (HT.out.setRow (Nat.le_refl _) LG.out (by have := LG.out; have := BG.out; omega) _)⟩
end Go.Proofs.Ytdipccjgpkedhaa
