/- cell.put: by contract. -/
import Derived.Test.YtmlmpjokmbgmcaaCellP
namespace Go.Proofs.Ytmlmpjokmbgmcaa
open Go.RowKit
theorem hd6_cells (n len : Nat) (hn : n < 4294967296) (hl : len ≤ 245) : [Value.int .u8 ((n : Int) / 16777216), Value.int .u8 ((n : Int) / 65536 % 256), Value.int .u8 ((n : Int) / 256 % 256), Value.int .u8 ((n : Int) % 256), Value.int .u8 ((len : Int) / 256), Value.int .u8 (len : Int)] = bv (hd6 n len) := by
  unfold hd6
  rw [bv_append, ← four_cells n hn]
  simp [bv]
  omega
set_option maxRecDepth 100000 in
set_option maxHeartbeats 3200000 in
theorem put_c (g s n B m cap : Nat) (A : Option Addr) (b : List UInt8) (f : Fl) (w : World) (k si : Int) (hsi : si = (s : Int)) (hf : FlAt w g f) (hl : Row w B A m (bv b)) (hA : 0 < m → ∀ b o, A = some ⟨b, o, none⟩ → b ≠ g) (hB : B ≤ w.heap.size) (hm : m ≤ 245)
    (hs : s < 14) (hn : n < 4294967296) (hd : f.down = false) (hok : f.Ok k) (hk : k ≤ 1000000) :
    Calls Try.prog 46 #[.pointer (some ⟨g, 0, none⟩), .int .i64 si, .int .u32 (n : Int), .slice A m cap] w (ProgOk g (f.putC s n b) w) := by
  subst hsi
  obtain ⟨i0, hi, hz0, hz1, hz2⟩ := info_parts Try.info5
  have HBL := Lib.hid hl.blen
  have HGL := Lib.hid hf.lt
  have HE := Lib.hid (fun W (hW : FlAt W g f) => erase_ok g s f W hW hd hs (hok.2.2.2.1 s) (by have := hok.2.2.2.2; omega) (by have := hok.1; omega) (by have := hok.2.1; omega) hok.2.2.1.2)
  have HOK1 := Lib.hid (hok.erase s)
  have HDS := Lib.hid (fun h => (erase_down_same f s h).trans hd)
  have HPC : Hid (f.putC s n b = if (f.erase s).2 = 0 then (f.erase s).1.prog (256 * s) (msgz n b) else f.erase s) := rfl
  obtain ⟨f1, r1, hE⟩ : ∃ f1 r1, f.erase s = (f1, r1) := ⟨_, _, rfl⟩
  rw [hE] at HE HOK1 HDS HPC
  dsimp only at HOK1 HDS HPC
  have hcells := hd6_cells n m hn hm
  obtain ⟨C, hC⟩ : ∃ C : Array Value, C = #[Value.int .u8 ((n : Int) / 16777216), Value.int .u8 ((n : Int) / 65536 % 256), Value.int .u8 ((n : Int) / 256 % 256), Value.int .u8 ((n : Int) % 256), Value.int .u8 ((m : Int) / 256), Value.int .u8 (m : Int)] := ⟨_, rfl⟩
  have HF := Lib.hid hf
  have HL := Lib.hid hl
  have HA := Lib.hid hA
  have HCE := Lib.hid hcells
  clear hE hf hl hA hd hok hcells hC
  have hw0 : Below w.heap.size w (w.alloc (.cells #[Value.int .u8 ((n : Int) / 16777216), Value.int .u8 ((n : Int) / 65536 % 256), Value.int .u8 ((n : Int) / 256 % 256), Value.int .u8 ((n : Int) % 256), Value.int .u8 ((m : Int) / 256), Value.int .u8 (m : Int)] 5)) := (Below.refl _ _).alloc (Nat.le_refl _) _
  have hown0 : (w.alloc (.cells #[Value.int .u8 ((n : Int) / 16777216), Value.int .u8 ((n : Int) / 65536 % 256), Value.int .u8 ((n : Int) / 256 % 256), Value.int .u8 ((n : Int) % 256), Value.int .u8 ((m : Int) / 256), Value.int .u8 (m : Int)] 5)).ownsRow w.heap.size 5 1 (.slice (some ⟨w.heap.size, 0, none⟩) 6 6) 6 (bv (hd6 n m)) := by
    rw [← HCE.out]
    exact own_lit (base := w.heap.size) _ rfl (Nat.le_refl _) rfl (by unfold maxLen; omega)
  have HO0 := Lib.hid hown0
  have HW0 := Lib.hid hw0
  clear hw0 hown0 HCE
  go_enter Try.func46, Try.ntmps46
  go_upto_region 2 with fail
  generalize w.alloc (.cells #[Value.int .u8 ((n : Int) / 16777216), Value.int .u8 ((n : Int) / 65536 % 256), Value.int .u8 ((n : Int) / 256 % 256), Value.int .u8 ((n : Int) % 256), Value.int .u8 ((m : Int) / 256), Value.int .u8 (m : Int)] 5) = w0 at *
  go_wp2_with (at_builtin; refine wpList_app rfl (.tmp 32) (.tmp 33) 27 rfl w.heap.size 5 i0 (.int .u8 0) 1 Try.underlying27 hi hz0 hz1 hz2 rfl _ 6 (bv (hd6 n m)) rfl HO0.out B A m cap (bv b) rfl (HL.out.below (HW0.out.mono hB)) (bv_one b) (by unfold maxLen; omega) (by omega) HW0.out.size ?_; intro v1 w1 hown1 hg1 hat1)
  have HB1 : Hid (Below w.heap.size w w1) := below_app HW0.out HW0.out.size HO0.out (Nat.le_refl _) hg1
  obtain ⟨A1, c1, rfl, _⟩ := own_slice hown1
  rw [← bv_append] at hown1
  have HR1 := Lib.hid (Row.of_own hown1)
  clear hown1 hg1 hat1 HO0 HW0
  go_wp2_with fail
  refine (put_any w1.heap.size _ c1 A1 (hd6 n m ++ b) w1 HR1.out (by omega) (Nat.le_refl _)).mono ?_
  rintro e w2 ⟨A2, n2, c2, rfl, hn2, hown2, hb2⟩
  have hmsg : (hd6 n m ++ b) ++ CrcM.four (CrcM.sum (hd6 n m ++ b)) = msg n b := by unfold msg; rw [HBL.out]
  rw [hmsg] at hn2 hown2
  obtain rfl : n2 = m + 10 := by rw [hn2, msg_length, HBL.out]
  have HR2 := Lib.hid (Row.of_own hown2)
  have HA2 : Hid (∀ b o, A2 = some ⟨b, o, none⟩ → b ≠ g) := by
    intro b' o' e
    obtain ⟨g2, c22, hv, hg2, _⟩ := hown2.form (by omega)
    injection hv with e1 e2 e3
    rw [e] at e1
    injection e1 with e1
    injection e1 with e1
    have := HGL.out
    have := HB1.out.size
    omega
  have HB2 : Hid (Below w.heap.size w w2) := HB1.out.trans (hb2.mono HB1.out.size)
  have HF2 := Lib.hid (HF.out.below HB2.out)
  clear hn2 hown2 hb2 hmsg HR1 HB1 HF HL HA
  go_wp2_with fail
  refine (HE.out w2 HF2.out).mono ?_
  rintro e w3 ⟨rfl, hd3⟩
  have HG3 : Hid (w.grownBy w3 (some g)) := grown_of_below HB2.out hd3.out.2
  have HF3 := Lib.hid hd3.out.1
  have hr1' := HR2.out.apart (fun _ => HA2.out) hd3.out.2 (Nat.le_refl _)
  have HS3 := Lib.hid hd3.out.2.size
  have HR3 := Lib.hid hr1'
  clear hd3 hr1' HE HR2 HF2 HB2
  dsimp only
  by_cases h0 : r1 = 0
  · subst h0
    have hd1 := HDS.out rfl
    have HP := Lib.hid (prog_at (g := g) (a := 256 * s) (n := m + 10) (B := w2.heap.size) (cap := c2) (A := A2) (l := msg n b) (f := f1) (w := w3) ((s : Int) * 256) (by push_cast; omega) HF3.out HR3.out (fun _ => HA2.out) HS3.out hd1 (by omega) (by have := HOK1.out.1; omega) (by have := HOK1.out.2.1; omega) HOK1.out.2.2.1)
    have HPC2 : Hid (f.putC s n b = if (f1.prog (256 * s) (msg n b)).2 = 0 then (f1.prog (256 * s) (msg n b)).1.prog (256 * s + (m + 10)) [0] else f1.prog (256 * s) (msg n b)) := by
      show _ = _
      rw [HPC.out, if_pos rfl]
      unfold msgz
      rw [Fl.prog_append, msg_length, HBL.out]
    have HOK2 := Lib.hid (HOK1.out.prog (msg n b) (256 * s))
    have HML : Hid ((msg n b).length = m + 10) := by show _ = _; rw [msg_length, HBL.out]
    have HDS2 := Lib.hid (fun h => (prog_down_same f1 (256 * s) (msg n b) h).trans hd1)
    obtain ⟨f2, r2, hE⟩ : ∃ f2 r2, f1.prog (256 * s) (msg n b) = (f2, r2) := ⟨_, _, rfl⟩
    rw [hE] at HP HPC2 HOK2 HDS2
    dsimp only at HP HPC2 HOK2 HDS2
    clear hE hd1 HPC HDS
    go_wp2_with fail
    refine HP.out.mono ?_
    rintro e w4 ⟨rfl, hd4⟩
    have HG4 : Hid (w.grownBy w4 (some g)) := HG3.out.trans hd4.out.2
    have HF4 := Lib.hid hd4.out.1
    clear hd4 HP HG3 HF3 HR3
    dsimp only
    by_cases h2 : r2 = 0
    · subst h2
      have hd2 := HDS2.out rfl
      have hgl4 : g < w4.heap.size := HF4.out.lt
      have hba : Below w4.heap.size w4 (w4.alloc (.cells #[.int .u8 0] 5)) := (Below.refl _ _).alloc (Nat.le_refl _) _
      have HF5 := Lib.hid (HF4.out.below hba)
      have HP := Lib.hid (prog_at (g := g) (a := 256 * s + (m + 10)) (n := 1) (B := w4.heap.size + 1) (cap := 1) (A := some ⟨w4.heap.size, 0, none⟩) (l := [0]) (f := f2) (w := w4.alloc (.cells #[.int .u8 0] 5)) ((s : Int) * 256 + ((m : Int) + 10)) (by push_cast; omega) HF5.out (row_new w4 #[.int .u8 0] 5 (0, 0)) (by intro _ b o h; injection h with h; injection h with h; omega) (by simp) hd2 (by omega) (by have := HOK2.out.1; omega) (by have := HOK2.out.2.1; have := HML.out; omega) HOK2.out.2.2.1)
      have HG5 : Hid (w.grownBy (w4.alloc (.cells #[.int .u8 0] 5)) (some g)) := HG4.out.trans (grown_of_alloc _ _ _)
      clear hd2 hba HF5 HF4 HG4
      go_wp2_with fail
      refine HP.out.mono ?_
      rintro e w6 ⟨rfl, hd6⟩
      go_wp2_with fail
      go_ret
      refine ⟨?_, ?_⟩
      · rw [HPC2.out, if_pos trivial]; rfl
      · rw [HPC2.out, if_pos trivial]; exact ⟨hd6.out.1, HG5.out.trans hd6.out.2⟩
    · have h2' : (r2 != 0) = true := by simpa using h2
      have HQ : Hid (f.putC s n b = (f2, r2)) := by show _ = _; rw [HPC2.out, if_neg h2]
      clear h2
      go_wp2_with fail
      go_ret
      refine ⟨?_, ?_⟩
      · rw [HQ.out]; rfl
      · rw [HQ.out]; exact ⟨HF4.out, HG4.out⟩
  · have h0' : (r1 != 0) = true := by simpa using h0
    have HQ : Hid (f.putC s n b = (f1, r1)) := by show _ = _; rw [HPC.out, if_neg h0]
    clear h0
    go_wp2_with fail
    go_ret
    refine ⟨?_, ?_⟩
    · rw [HQ.out]; rfl
    · rw [HQ.out]; exact ⟨HF3.out, HG3.out⟩
end Go.Proofs.Ytmlmpjokmbgmcaa
