/- The reference's WriteCell: by contract. -/
import Derived.Test.YtmlmpjokmbgmcaaRCell2
import Derived.Test.YtmlmpjokmbgmcaaR1Put
namespace Go.Proofs.Ytmlmpjokmbgmcaa
open Go.RowKit
/-- what a write of a cell makes of flash, and tells -/
def WrIs (f : Fl) (b : List UInt8) (r : Fl × Int) : Prop :=
  (245 < b.length ∧ r = (f, 1)) ∨ (b.length ≤ 245 ∧ f.down = true ∧ r = (f, 11)) ∨
  (b.length ≤ 245 ∧ f.down = false ∧ ∃ s N, WrTo f s N ∧ ((N = 4294967296 ∧ r = (f, 9)) ∨ (N < 4294967296 ∧ r = f.putC s N b)))
theorem wrto_any (f : Fl) : ∃ s N, WrTo f s N ∧ N ≤ 4294967296 := by
  have l0 := partN_lt (P0 f)
  have l1 := partN_lt (P1 f)
  by_cases h1 : partOk (P1 f) <;> by_cases h0 : partOk (P0 f)
  · by_cases hl : partN (P0 f) < partN (P1 f)
    · exact ⟨0, _, .inr (.inl ⟨h1, .inr hl, rfl, rfl⟩), by omega⟩
    · exact ⟨1, _, .inr (.inr ⟨h0, .inr (by omega), rfl, rfl⟩), by omega⟩
  · exact ⟨0, _, .inr (.inl ⟨h1, .inl h0, rfl, rfl⟩), by omega⟩
  · exact ⟨1, _, .inr (.inr ⟨h0, .inl h1, rfl, rfl⟩), by omega⟩
  · exact ⟨0, 1, .inl ⟨h0, h1, rfl, rfl⟩, by omega⟩
theorem wr_any (f : Fl) (b : List UInt8) : ∃ r, WrIs f b r := by
  by_cases hb : b.length ≤ 245
  · cases hd : f.down with
    | true => exact ⟨_, .inr (.inl ⟨hb, hd, rfl⟩)⟩
    | false =>
      obtain ⟨s, N, h, hN⟩ := wrto_any f
      by_cases e : N = 4294967296
      · exact ⟨_, .inr (.inr ⟨hb, hd, s, N, h, .inl ⟨e, rfl⟩⟩)⟩
      · exact ⟨_, .inr (.inr ⟨hb, hd, s, N, h, .inr ⟨by omega, rfl⟩⟩)⟩
  · exact ⟨_, .inl ⟨by omega, rfl⟩⟩
theorem wrto_uniq {f : Fl} {s N t M : Nat} (h : WrTo f s N) (h2 : WrTo f t M) : s = t ∧ N = M := by
  rcases h with ⟨a0, a1, e, e'⟩ | ⟨a1, a0, e, e'⟩ | ⟨a0, a1, e, e'⟩ <;> rcases h2 with ⟨b0, b1, i, i'⟩ | ⟨b1, b0, i, i'⟩ | ⟨b0, b1, i, i'⟩
  · exact ⟨e.trans i.symm, e'.trans i'.symm⟩
  · exact absurd b1 a1
  · exact absurd b0 a0
  · exact absurd a1 b1
  · exact ⟨e.trans i.symm, e'.trans i'.symm⟩
  · rcases a0 with a0 | a0
    · exact absurd b0 a0
    · rcases b1 with b1 | b1
      · exact absurd a1 b1
      · omega
  · exact absurd a0 b0
  · rcases a1 with a1 | a1
    · exact absurd b1 a1
    · rcases b0 with b0 | b0
      · exact absurd a0 b0
      · omega
  · exact ⟨e.trans i.symm, e'.trans i'.symm⟩
theorem rprog_at (gm gB a B n cap : Nat) (A : Option Addr) (l : List UInt8) (f : Fl) (w : World) (ai : Int) (hai : ai = (a : Nat)) (hf : RfAt w gm gB f) (hl : Row w B A n (bv l)) (hA : 0 < n → ∀ b o, A = some ⟨b, o, none⟩ → b ≠ gm ∧ b ≠ gB) (hB : B ≤ w.heap.size) (hd : f.down = false) (ha : a + n ≤ 3584)
    (h0 : 0 ≤ f.steps) (h1 : f.steps ≤ 9223372036854770000) :
    Calls Try.prog 24 #[.pointer (some ⟨gm, 0, none⟩), .int .i64 ai, .slice A n cap] w (RProgOk gm gB (f.prog a l) w) := by
  subst hai; exact rprog_ok gm gB a B n cap A l f w hf hl hA hB hd ha h0 h1
theorem four_at (N : Nat) (v : Int) (hv : v = (N : Int)) (hs : N < 2 ^ 32) (w : World) : Calls Try.prog 51 #[.int .u32 v] w (FreshBytes w.heap.size (CrcM.four N) w) := by
  subst hv; exact four_any N hs w
theorem two_cells (m : Nat) (h : m ≤ 245) : [Value.int .u8 ((m : Int) / 256), Value.int .u8 (m : Int)] = bv [UInt8.ofNat (m / 256), UInt8.ofNat m] := by
  simp [bv]
  omega
theorem gr2_done {gm gB : Nat} {w w1 w2 : World} (h : Below w.heap.size w w1) (h2 : Gr2 gm gB w1 w2) : Gr2 gm gB w w2 := (Gr2.refl gm gB w).below h |>.trans h2
section
variable {gm gB B m cap : Nat} {A : Option Addr} {b : List UInt8} {f : Fl} {w : World}
theorem rcwrite_arg (h : 245 < m) : Calls Try.prog 20 #[.pointer (some ⟨gm, 0, none⟩), .slice A m cap] w fun e w' => e = .returned (.int .i64 1) ∧ w = w' := by
  go_enter Try.func20, Try.ntmps20
  go_wp2_with fail
  go_ret
  exact ⟨rfl, rfl⟩
theorem rcwrite_down (hf : RfAt w gm gB f) (hm : m ≤ 245) (hd : f.down = true) : Calls Try.prog 20 #[.pointer (some ⟨gm, 0, none⟩), .slice A m cap] w fun e w' => e = .returned (.int .i64 11) ∧ w = w' := by
  have h0 := hf.off
  rw [hd] at h0
  have hg : ¬ (245 : Int) < m := by omega
  clear hf
  go_enter Try.func20, Try.ntmps20
  go_wp2_with fail
  go_ret
  exact ⟨rfl, rfl⟩
set_option maxRecDepth 100000 in
set_option maxHeartbeats 3200000 in
theorem rcwrite_full (hf : RfAt w gm gB f) (hm : m ≤ 245) (hd : f.down = false) {s : Nat} (hw : WrTo f s 4294967296) : Calls Try.prog 20 #[.pointer (some ⟨gm, 0, none⟩), .slice A m cap] w fun e w' => e = .returned (.int .i64 9) ∧ Hid (Below w.heap.size w w') := by
  have h0 := hf.off
  have h1 := hf.slot0
  rw [hd] at h0
  have hg : ¬ (245 : Int) < m := by omega
  have HN := Lib.hid (rnewest_any gB f w hf.2.1)
  have HW := Lib.hid hw
  clear hf hw
  go_enter Try.func20, Try.ntmps20
  go_wp2_with fail
  refine HN.out.mono ?_
  rintro e w1 ⟨c, num, A1, n, cp, rfl, hn, hb⟩
  clear HN h0 h1
  have HC : Hid (num = 4294967295 ∧ (c = 0 ∨ c = 1)) := by
    rcases hn.out with ⟨p0, p1, _⟩ | ⟨D, s', h1, h2, h3, _⟩
    · have := (wrto_uniq HW.out (.inl ⟨p0, p1, rfl, rfl⟩)).2
      omega
    · have := (wrto_uniq HW.out h2).2
      exact ⟨by omega, by rcases h3 with ⟨_, h⟩ | ⟨_, h⟩ <;> simp [h]⟩
  obtain ⟨rfl, hc⟩ := HC.out
  clear HC hn HW
  rcases hc with rfl | rfl
  all_goals
    go_wp2_with fail
    go_ret
    exact ⟨rfl, hb⟩
set_option maxRecDepth 100000 in
set_option maxHeartbeats 3200000 in
theorem rcwrite_put (hf : RfAt w gm gB f) (hl : Row w B A m (bv b)) (hA : 0 < m → ∀ b o, A = some ⟨b, o, none⟩ → b ≠ gm ∧ b ≠ gB) (hB : B ≤ w.heap.size) (hm : m ≤ 245) (hd : f.down = false) {k : Int} (hok : f.Ok k) (hk : k ≤ 1000000) {s N : Nat} (hw : WrTo f s N) (hN : N < 4294967296) :
    Calls Try.prog 20 #[.pointer (some ⟨gm, 0, none⟩), .slice A m cap] w (RProgOk gm gB (f.putC s N b) w) := by
  have hoff := hf.off
  have hsl := hf.slot0
  rw [hd] at hoff
  have hg : ¬ (245 : Int) < m := by omega
  have hbl := hl.blen
  have HNW := Lib.hid (rnewest_any gB f w hf.2.1)
  have HW := Lib.hid hw
  have hsle : s ≤ 1 := by rcases hw with ⟨_, _, h, _⟩ | ⟨_, _, h, _⟩ | ⟨_, _, h, _⟩ <;> omega
  have HE := Lib.hid (fun s (hs : s < 14) W (hW : RfAt W gm gB f) => rerase_ok gm gB s f W hW hd hs (hok.2.2.2.1 s) (by have := hok.2.2.2.2; omega) (by have := hok.1; omega) (by have := hok.2.1; omega))
  have HOK1 := Lib.hid (hok.erase s)
  have HDS := Lib.hid (fun h => (erase_down_same f s h).trans hd)
  have HPC : Hid (f.putC s N b = if (f.erase s).2 = 0 then (f.erase s).1.prog (256 * s) (msgz N b) else f.erase s) := rfl
  have HF := Lib.hid hf
  have HL := Lib.hid hl
  have HA := Lib.hid hA
  have HBL := Lib.hid hbl
  clear hf hl hA hw hok hbl
  go_enter Try.func20, Try.ntmps20
  go_wp2_with fail
  refine HNW.out.mono ?_
  rintro e w1 ⟨c, num, A1, n1, cp1, rfl, hn, HB1⟩
  have HC : Hid (num + 1 = N ∧ (s = 0 ∧ c = -1 ∨ s = 0 ∧ c = 1 ∨ s = 1 ∧ c = 0)) := by
    rcases hn.out with ⟨p0, p1, e1, e2, _⟩ | ⟨D, s', h1, h2, h3, _⟩
    · obtain ⟨e3, e4⟩ := wrto_uniq HW.out (.inl ⟨p0, p1, rfl, rfl⟩)
      exact ⟨by omega, .inl ⟨e3, e1⟩⟩
    · obtain ⟨e3, e4⟩ := wrto_uniq HW.out h2
      refine ⟨by omega, ?_⟩
      rcases h3 with ⟨h, h'⟩ | ⟨h, h'⟩
      · exact .inr (.inl ⟨by omega, h'⟩)
      · exact .inr (.inr ⟨by omega, h'⟩)
  have HF1 := Lib.hid (HF.out.below HB1.out)
  have HL1 := Lib.hid (HL.out.below (HB1.out.mono hB))
  obtain ⟨hnum, hcs⟩ := HC.out
  clear HC hn HW HNW hoff hsl HF HL
  rcases hcs with ⟨hs, hc⟩ | ⟨hs, hc⟩ | ⟨hs, hc⟩
  · subst hs hc
    have hnx : ((num : Int) + 1) % 4294967296 = (N : Int) := by omega
    have hne : ((num : Int) == 4294967295) = false := by rw [beq_eq_false_iff_ne]; omega
    have HE1 := Lib.hid (HE.out 0 (by omega) w1 HF1.out)
    have HPC1 : Hid (f.putC 0 N b = if (f.erase 0).2 = 0 then (f.erase 0).1.prog 0 (msgz N b) else f.erase 0) := HPC
    have HNX := Lib.hid hnx
    have HNL : Hid (N < 2 ^ 32) := by show _ < _; omega
    clear hnx hnum hN HE HPC hsle
    obtain ⟨f1, r1, hE⟩ : ∃ f1 r1, f.erase 0 = (f1, r1) := ⟨_, _, rfl⟩
    rw [hE] at HE1 HPC1 HDS HOK1
    dsimp only at HE1 HPC1 HDS HOK1
    clear hE
    go_upto_region 12 with fail
    go_wp2_with fail
    refine HE1.out.mono ?_
    rintro e w3 ⟨rfl, hd3⟩
    have HG3 : Hid (Gr2 gm gB w w3) := gr2_done HB1.out hd3.out.2
    have HF3 := Lib.hid hd3.out.1
    have HL3 := Lib.hid (HL1.out.gr2 HA.out hd3.out.2 (by have := HB1.out.size; omega))
    clear hd3 HE1 HF1 HL1
    dsimp only
    by_cases h0 : r1 = 0
    · subst h0
      have hd1 := HDS.out rfl
      rw [if_pos rfl] at HPC1
      go_upto_region 15 with fail
      go_wp2_with fail
      refine (four_at N _ HNX.out HNL.out w3).mono ?_
      rintro e w4 ⟨A4, n4, c4, rfl, hn4, hown4, hb4⟩
      obtain rfl : n4 = 4 := hn4
      obtain ⟨W1, hW1⟩ : ∃ W1, w4.alloc (.cells #[.int .u8 ((m : Int) / 256), .int .u8 (m : Int)] 5) = W1 := ⟨_, rfl⟩
      obtain ⟨W2, hW2⟩ : ∃ W2, W1.alloc (.cells #[.slice A4 4 c4, .slice (some ⟨w4.heap.size, 0, none⟩) 2 2, .slice A m cap] 27) = W2 := ⟨_, rfl⟩
      have hs1 : W1.heap.size = w4.heap.size + 1 := by rw [← hW1]; simp
      have hb1 : Below w4.heap.size w4 W1 := by rw [← hW1]; exact (Below.refl _ _).alloc (Nat.le_refl _) _
      have hb2 : Below W1.heap.size W1 W2 := by rw [← hW2]; exact (Below.refl _ _).alloc (Nat.le_refl _) _
      have hr1 : Row W1 W1.heap.size (some ⟨w4.heap.size, 0, none⟩) 2 (bv [UInt8.ofNat (m / 256), UInt8.ofNat m]) := by
        rw [← two_cells m hm, ← hW1]; exact row_lit w4 [.int .u8 ((m : Int) / 256), .int .u8 (m : Int)] _
      have hb42 : Below w4.heap.size w4 W2 := hb1.trans (hb2.mono hb1.size)
      have hb32 : Below w3.heap.size w3 W2 := hb4.trans (hb42.mono hb4.size)
      have HJ : Hid (Rows2 W2 W2.heap.size (some ⟨W1.heap.size, 0, none⟩) 3 [⟨A4, 4, c4, CrcM.four N⟩, ⟨some ⟨w4.heap.size, 0, none⟩, 2, 2, [UInt8.ofNat (m / 256), UInt8.ofNat m]⟩, ⟨A, m, cap, b⟩]) := by
        refine ⟨?_, fun r hr => ?_⟩
        · rw [← hW2]; exact row_lit W1 [.slice A4 4 c4, .slice (some ⟨w4.heap.size, 0, none⟩) 2 2, .slice A m cap] _
        · simp only [List.mem_cons, List.not_mem_nil, or_false] at hr
          rcases hr with rfl | rfl | rfl
          · exact ((Row.of_own hown4).below hb42).more hb42.size
          · exact (hr1.below hb2).more hb2.size
          · exact (HL3.out.below (hb32.mono (by have := HG3.out.size; omega))).more (by have := HG3.out.size; have := hb32.size; omega)
      have HFT : Hid (flat [(⟨A4, 4, c4, CrcM.four N⟩ : BRow), ⟨some ⟨w4.heap.size, 0, none⟩, 2, 2, [UInt8.ofNat (m / 256), UInt8.ofNat m]⟩, ⟨A, m, cap, b⟩] = hd6 N b.length ++ b) := by
        show _ = _; rw [HBL.out]; simp [flat, hd6]
      have HJN := Lib.hid (join_any W2.heap.size 3 3 _ _ W2 HJ.out (by omega) (by rw [HFT.out, List.length_append, hd6_length, HBL.out]; omega) (Nat.le_refl _))
      rw [HFT.out] at HJN
      have HS1 := Lib.hid hs1
      rw [hs1] at HJN
      have HW1 := Lib.hid hW1
      have HW2 := Lib.hid hW2
      have HB32 := Lib.hid hb32
      clear hown4 hb4 hW1 hW2 hs1 hb1 hb2 hr1 hb42 hb32 HJ HFT HNX HNL HL3
      go_wp2_with fail
      rw [HW1.out, HW2.out]
      refine HJN.out.mono ?_
      rintro e w5 ⟨A5, n5, c5, rfl, hn5, hown5, hb5⟩
      have hn5' : n5 = m + 6 := by rw [hn5, List.length_append, hd6_length, HBL.out]; omega
      subst hn5'
      have HR5 := Lib.hid (Row.of_own hown5)
      have HB35 : Hid (Below w3.heap.size w3 w5) := HB32.out.trans (hb5.mono HB32.out.size)
      clear hn5 hown5 hb5 HJN HW1 HW2 HB32
      go_wp2_with fail
      refine (r1put_any w5.heap.size _ c5 A5 _ w5 HR5.out (by omega) (Nat.le_refl _)).mono ?_
      rintro e w6 ⟨A6, n6, c6, rfl, hn6, hown6, hb6⟩
      have hmsg : CrcM.put (hd6 N b.length ++ b) = msg N b := rfl
      rw [hmsg] at hn6 hown6
      obtain rfl : n6 = m + 10 := by rw [hn6, msg_length, HBL.out]
      have HR6 := Lib.hid (Row.of_own hown6)
      have HB36 : Hid (Below w3.heap.size w3 w6) := HB35.out.trans (hb6.mono HB35.out.size)
      have hgm3 : gm < w3.heap.size := by obtain ⟨_, _, fu, fz, _, h⟩ := HF3.out; exact h.lt
      have hgB3 : gB < w3.heap.size := HF3.out.2.1.lt
      have HA6 : Hid (∀ b o, A6 = some ⟨b, o, none⟩ → b ≠ gm ∧ b ≠ gB) := by
        intro b' o' e
        obtain ⟨g2, c22, hv, hg2, _⟩ := hown6.form (by omega)
        injection hv with e1 e2 e3
        rw [e] at e1
        injection e1 with e1
        injection e1 with e1
        have := HB35.out.size
        omega
      have HF6 := Lib.hid (HF3.out.below HB36.out)
      have HG6 : Hid (Gr2 gm gB w w6) := HG3.out.below HB36.out
      clear hn6 hown6 hb6 hmsg HR5 HB35 HB36 HF3 HG3
      have HP := Lib.hid (fun ai hai => rprog_at gm gB 0 w6.heap.size (m + 10) c6 A6 (msg N b) f1 w6 ai hai HF6.out HR6.out (fun _ => HA6.out) (Nat.le_refl _) hd1 (by omega) (by have := HOK1.out.1; omega) (by have := HOK1.out.2.1; omega))
      have HPC2 : Hid (f.putC 0 N b = if (f1.prog 0 (msg N b)).2 = 0 then (f1.prog 0 (msg N b)).1.prog (m + 10) [0] else f1.prog 0 (msg N b)) := by
        show _ = _
        rw [HPC1.out]
        unfold msgz
        rw [Fl.prog_append, msg_length, HBL.out, Nat.zero_add]
      have HOK2 := Lib.hid (HOK1.out.prog (msg N b) 0)
      have HML : Hid ((msg N b).length = m + 10) := by show _ = _; rw [msg_length, HBL.out]
      have HDS2 := Lib.hid (fun h => (prog_down_same f1 0 (msg N b) h).trans hd1)
      obtain ⟨f2, r2, hE⟩ : ∃ f2 r2, f1.prog 0 (msg N b) = (f2, r2) := ⟨_, _, rfl⟩
      rw [hE] at HP HPC2 HOK2 HDS2
      dsimp only at HP HPC2 HOK2 HDS2
      clear hE hd1 HPC1 HDS
      go_wp2_with fail
      refine (HP.out _ (by omega)).mono ?_
      rintro e w7 ⟨rfl, hd7⟩
      have HG7 : Hid (Gr2 gm gB w w7) := HG6.out.trans hd7.out.2
      have HF7 := Lib.hid hd7.out.1
      clear hd7 HP HG6 HF6 HR6
      dsimp only
      by_cases h2 : r2 = 0
      · subst h2
        have hd2 := HDS2.out rfl
        rw [if_pos rfl] at HPC2
        have hgm7 : gm < w7.heap.size := by obtain ⟨_, _, fu, fz, _, h⟩ := HF7.out; exact h.lt
        have hgB7 : gB < w7.heap.size := HF7.out.2.1.lt
        have hba : Below w7.heap.size w7 (w7.alloc (.cells #[.int .u8 0] 5)) := (Below.refl _ _).alloc (Nat.le_refl _) _
        have HP := Lib.hid (fun ai hai => rprog_at gm gB (m + 10) (w7.heap.size + 1) 1 1 (some ⟨w7.heap.size, 0, none⟩) [0] f2 (w7.alloc (.cells #[.int .u8 0] 5)) ai hai (HF7.out.below hba) (row_new w7 #[.int .u8 0] 5 (0, 0)) (by intro _ b o h; injection h with h; injection h with h; exact ⟨by omega, by omega⟩) (by simp) hd2 (by omega) (by have := HOK2.out.1; omega) (by have := HOK2.out.2.1; have := HML.out; omega))
        have HG8 : Hid (Gr2 gm gB w (w7.alloc (.cells #[.int .u8 0] 5))) := HG7.out.below hba
        clear hd2 hba HF7 HG7
        go_wp2_with fail
        refine (HP.out _ (by push_cast; omega)).mono ?_
        rintro e w8 ⟨rfl, hd8⟩
        go_wp2_with fail
        go_ret
        refine ⟨?_, ?_⟩
        · rw [HPC2.out]; rfl
        · rw [HPC2.out]; exact ⟨hd8.out.1, HG8.out.trans hd8.out.2⟩
      · have hr : (r2 != 0) = true := by simpa using h2
        have HQ : Hid (f.putC 0 N b = (f2, r2)) := by show _ = _; rw [HPC2.out, if_neg h2]
        clear h2
        go_wp2_with fail
        go_ret
        exact ⟨by rw [HQ.out]; rfl, by rw [HQ.out]; exact ⟨HF7.out, HG7.out⟩⟩
    · have hr : (r1 != 0) = true := by simpa using h0
      have HQ : Hid (f.putC 0 N b = (f1, r1)) := by show _ = _; rw [HPC1.out, if_neg h0]
      clear h0
      go_wp2_with fail
      go_ret
      exact ⟨by rw [HQ.out]; rfl, by rw [HQ.out]; exact ⟨HF3.out, HG3.out⟩⟩
  · subst hs hc
    have hnx : ((num : Int) + 1) % 4294967296 = (N : Int) := by omega
    have hne : ((num : Int) == 4294967295) = false := by rw [beq_eq_false_iff_ne]; omega
    have HE1 := Lib.hid (HE.out 0 (by omega) w1 HF1.out)
    have HPC1 : Hid (f.putC 0 N b = if (f.erase 0).2 = 0 then (f.erase 0).1.prog 0 (msgz N b) else f.erase 0) := HPC
    have HNX := Lib.hid hnx
    have HNL : Hid (N < 2 ^ 32) := by show _ < _; omega
    clear hnx hnum hN HE HPC hsle
    obtain ⟨f1, r1, hE⟩ : ∃ f1 r1, f.erase 0 = (f1, r1) := ⟨_, _, rfl⟩
    rw [hE] at HE1 HPC1 HDS HOK1
    dsimp only at HE1 HPC1 HDS HOK1
    clear hE
    go_upto_region 12 with fail
    go_wp2_with fail
    refine HE1.out.mono ?_
    rintro e w3 ⟨rfl, hd3⟩
    have HG3 : Hid (Gr2 gm gB w w3) := gr2_done HB1.out hd3.out.2
    have HF3 := Lib.hid hd3.out.1
    have HL3 := Lib.hid (HL1.out.gr2 HA.out hd3.out.2 (by have := HB1.out.size; omega))
    clear hd3 HE1 HF1 HL1
    dsimp only
    by_cases h0 : r1 = 0
    · subst h0
      have hd1 := HDS.out rfl
      rw [if_pos rfl] at HPC1
      go_upto_region 15 with fail
      go_wp2_with fail
      refine (four_at N _ HNX.out HNL.out w3).mono ?_
      rintro e w4 ⟨A4, n4, c4, rfl, hn4, hown4, hb4⟩
      obtain rfl : n4 = 4 := hn4
      obtain ⟨W1, hW1⟩ : ∃ W1, w4.alloc (.cells #[.int .u8 ((m : Int) / 256), .int .u8 (m : Int)] 5) = W1 := ⟨_, rfl⟩
      obtain ⟨W2, hW2⟩ : ∃ W2, W1.alloc (.cells #[.slice A4 4 c4, .slice (some ⟨w4.heap.size, 0, none⟩) 2 2, .slice A m cap] 27) = W2 := ⟨_, rfl⟩
      have hs1 : W1.heap.size = w4.heap.size + 1 := by rw [← hW1]; simp
      have hb1 : Below w4.heap.size w4 W1 := by rw [← hW1]; exact (Below.refl _ _).alloc (Nat.le_refl _) _
      have hb2 : Below W1.heap.size W1 W2 := by rw [← hW2]; exact (Below.refl _ _).alloc (Nat.le_refl _) _
      have hr1 : Row W1 W1.heap.size (some ⟨w4.heap.size, 0, none⟩) 2 (bv [UInt8.ofNat (m / 256), UInt8.ofNat m]) := by
        rw [← two_cells m hm, ← hW1]; exact row_lit w4 [.int .u8 ((m : Int) / 256), .int .u8 (m : Int)] _
      have hb42 : Below w4.heap.size w4 W2 := hb1.trans (hb2.mono hb1.size)
      have hb32 : Below w3.heap.size w3 W2 := hb4.trans (hb42.mono hb4.size)
      have HJ : Hid (Rows2 W2 W2.heap.size (some ⟨W1.heap.size, 0, none⟩) 3 [⟨A4, 4, c4, CrcM.four N⟩, ⟨some ⟨w4.heap.size, 0, none⟩, 2, 2, [UInt8.ofNat (m / 256), UInt8.ofNat m]⟩, ⟨A, m, cap, b⟩]) := by
        refine ⟨?_, fun r hr => ?_⟩
        · rw [← hW2]; exact row_lit W1 [.slice A4 4 c4, .slice (some ⟨w4.heap.size, 0, none⟩) 2 2, .slice A m cap] _
        · simp only [List.mem_cons, List.not_mem_nil, or_false] at hr
          rcases hr with rfl | rfl | rfl
          · exact ((Row.of_own hown4).below hb42).more hb42.size
          · exact (hr1.below hb2).more hb2.size
          · exact (HL3.out.below (hb32.mono (by have := HG3.out.size; omega))).more (by have := HG3.out.size; have := hb32.size; omega)
      have HFT : Hid (flat [(⟨A4, 4, c4, CrcM.four N⟩ : BRow), ⟨some ⟨w4.heap.size, 0, none⟩, 2, 2, [UInt8.ofNat (m / 256), UInt8.ofNat m]⟩, ⟨A, m, cap, b⟩] = hd6 N b.length ++ b) := by
        show _ = _; rw [HBL.out]; simp [flat, hd6]
      have HJN := Lib.hid (join_any W2.heap.size 3 3 _ _ W2 HJ.out (by omega) (by rw [HFT.out, List.length_append, hd6_length, HBL.out]; omega) (Nat.le_refl _))
      rw [HFT.out] at HJN
      have HS1 := Lib.hid hs1
      rw [hs1] at HJN
      have HW1 := Lib.hid hW1
      have HW2 := Lib.hid hW2
      have HB32 := Lib.hid hb32
      clear hown4 hb4 hW1 hW2 hs1 hb1 hb2 hr1 hb42 hb32 HJ HFT HNX HNL HL3
      go_wp2_with fail
      rw [HW1.out, HW2.out]
      refine HJN.out.mono ?_
      rintro e w5 ⟨A5, n5, c5, rfl, hn5, hown5, hb5⟩
      have hn5' : n5 = m + 6 := by rw [hn5, List.length_append, hd6_length, HBL.out]; omega
      subst hn5'
      have HR5 := Lib.hid (Row.of_own hown5)
      have HB35 : Hid (Below w3.heap.size w3 w5) := HB32.out.trans (hb5.mono HB32.out.size)
      clear hn5 hown5 hb5 HJN HW1 HW2 HB32
      go_wp2_with fail
      refine (r1put_any w5.heap.size _ c5 A5 _ w5 HR5.out (by omega) (Nat.le_refl _)).mono ?_
      rintro e w6 ⟨A6, n6, c6, rfl, hn6, hown6, hb6⟩
      have hmsg : CrcM.put (hd6 N b.length ++ b) = msg N b := rfl
      rw [hmsg] at hn6 hown6
      obtain rfl : n6 = m + 10 := by rw [hn6, msg_length, HBL.out]
      have HR6 := Lib.hid (Row.of_own hown6)
      have HB36 : Hid (Below w3.heap.size w3 w6) := HB35.out.trans (hb6.mono HB35.out.size)
      have hgm3 : gm < w3.heap.size := by obtain ⟨_, _, fu, fz, _, h⟩ := HF3.out; exact h.lt
      have hgB3 : gB < w3.heap.size := HF3.out.2.1.lt
      have HA6 : Hid (∀ b o, A6 = some ⟨b, o, none⟩ → b ≠ gm ∧ b ≠ gB) := by
        intro b' o' e
        obtain ⟨g2, c22, hv, hg2, _⟩ := hown6.form (by omega)
        injection hv with e1 e2 e3
        rw [e] at e1
        injection e1 with e1
        injection e1 with e1
        have := HB35.out.size
        omega
      have HF6 := Lib.hid (HF3.out.below HB36.out)
      have HG6 : Hid (Gr2 gm gB w w6) := HG3.out.below HB36.out
      clear hn6 hown6 hb6 hmsg HR5 HB35 HB36 HF3 HG3
      have HP := Lib.hid (fun ai hai => rprog_at gm gB 0 w6.heap.size (m + 10) c6 A6 (msg N b) f1 w6 ai hai HF6.out HR6.out (fun _ => HA6.out) (Nat.le_refl _) hd1 (by omega) (by have := HOK1.out.1; omega) (by have := HOK1.out.2.1; omega))
      have HPC2 : Hid (f.putC 0 N b = if (f1.prog 0 (msg N b)).2 = 0 then (f1.prog 0 (msg N b)).1.prog (m + 10) [0] else f1.prog 0 (msg N b)) := by
        show _ = _
        rw [HPC1.out]
        unfold msgz
        rw [Fl.prog_append, msg_length, HBL.out, Nat.zero_add]
      have HOK2 := Lib.hid (HOK1.out.prog (msg N b) 0)
      have HML : Hid ((msg N b).length = m + 10) := by show _ = _; rw [msg_length, HBL.out]
      have HDS2 := Lib.hid (fun h => (prog_down_same f1 0 (msg N b) h).trans hd1)
      obtain ⟨f2, r2, hE⟩ : ∃ f2 r2, f1.prog 0 (msg N b) = (f2, r2) := ⟨_, _, rfl⟩
      rw [hE] at HP HPC2 HOK2 HDS2
      dsimp only at HP HPC2 HOK2 HDS2
      clear hE hd1 HPC1 HDS
      go_wp2_with fail
      refine (HP.out _ (by omega)).mono ?_
      rintro e w7 ⟨rfl, hd7⟩
      have HG7 : Hid (Gr2 gm gB w w7) := HG6.out.trans hd7.out.2
      have HF7 := Lib.hid hd7.out.1
      clear hd7 HP HG6 HF6 HR6
      dsimp only
      by_cases h2 : r2 = 0
      · subst h2
        have hd2 := HDS2.out rfl
        rw [if_pos rfl] at HPC2
        have hgm7 : gm < w7.heap.size := by obtain ⟨_, _, fu, fz, _, h⟩ := HF7.out; exact h.lt
        have hgB7 : gB < w7.heap.size := HF7.out.2.1.lt
        have hba : Below w7.heap.size w7 (w7.alloc (.cells #[.int .u8 0] 5)) := (Below.refl _ _).alloc (Nat.le_refl _) _
        have HP := Lib.hid (fun ai hai => rprog_at gm gB (m + 10) (w7.heap.size + 1) 1 1 (some ⟨w7.heap.size, 0, none⟩) [0] f2 (w7.alloc (.cells #[.int .u8 0] 5)) ai hai (HF7.out.below hba) (row_new w7 #[.int .u8 0] 5 (0, 0)) (by intro _ b o h; injection h with h; injection h with h; exact ⟨by omega, by omega⟩) (by simp) hd2 (by omega) (by have := HOK2.out.1; omega) (by have := HOK2.out.2.1; have := HML.out; omega))
        have HG8 : Hid (Gr2 gm gB w (w7.alloc (.cells #[.int .u8 0] 5))) := HG7.out.below hba
        clear hd2 hba HF7 HG7
        go_wp2_with fail
        refine (HP.out _ (by push_cast; omega)).mono ?_
        rintro e w8 ⟨rfl, hd8⟩
        go_wp2_with fail
        go_ret
        refine ⟨?_, ?_⟩
        · rw [HPC2.out]; rfl
        · rw [HPC2.out]; exact ⟨hd8.out.1, HG8.out.trans hd8.out.2⟩
      · have hr : (r2 != 0) = true := by simpa using h2
        have HQ : Hid (f.putC 0 N b = (f2, r2)) := by show _ = _; rw [HPC2.out, if_neg h2]
        clear h2
        go_wp2_with fail
        go_ret
        exact ⟨by rw [HQ.out]; rfl, by rw [HQ.out]; exact ⟨HF7.out, HG7.out⟩⟩
    · have hr : (r1 != 0) = true := by simpa using h0
      have HQ : Hid (f.putC 0 N b = (f1, r1)) := by show _ = _; rw [HPC1.out, if_neg h0]
      clear h0
      go_wp2_with fail
      go_ret
      exact ⟨by rw [HQ.out]; rfl, by rw [HQ.out]; exact ⟨HF3.out, HG3.out⟩⟩
  · subst hs hc
    have hnx : ((num : Int) + 1) % 4294967296 = (N : Int) := by omega
    have hne : ((num : Int) == 4294967295) = false := by rw [beq_eq_false_iff_ne]; omega
    have HE1 := Lib.hid (HE.out 1 (by omega) w1 HF1.out)
    have HPC1 : Hid (f.putC 1 N b = if (f.erase 1).2 = 0 then (f.erase 1).1.prog 256 (msgz N b) else f.erase 1) := HPC
    have HNX := Lib.hid hnx
    have HNL : Hid (N < 2 ^ 32) := by show _ < _; omega
    clear hnx hnum hN HE HPC hsle
    obtain ⟨f1, r1, hE⟩ : ∃ f1 r1, f.erase 1 = (f1, r1) := ⟨_, _, rfl⟩
    rw [hE] at HE1 HPC1 HDS HOK1
    dsimp only at HE1 HPC1 HDS HOK1
    clear hE
    go_upto_region 12 with fail
    go_wp2_with fail
    refine HE1.out.mono ?_
    rintro e w3 ⟨rfl, hd3⟩
    have HG3 : Hid (Gr2 gm gB w w3) := gr2_done HB1.out hd3.out.2
    have HF3 := Lib.hid hd3.out.1
    have HL3 := Lib.hid (HL1.out.gr2 HA.out hd3.out.2 (by have := HB1.out.size; omega))
    clear hd3 HE1 HF1 HL1
    dsimp only
    by_cases h0 : r1 = 0
    · subst h0
      have hd1 := HDS.out rfl
      rw [if_pos rfl] at HPC1
      go_upto_region 15 with fail
      go_wp2_with fail
      refine (four_at N _ HNX.out HNL.out w3).mono ?_
      rintro e w4 ⟨A4, n4, c4, rfl, hn4, hown4, hb4⟩
      obtain rfl : n4 = 4 := hn4
      obtain ⟨W1, hW1⟩ : ∃ W1, w4.alloc (.cells #[.int .u8 ((m : Int) / 256), .int .u8 (m : Int)] 5) = W1 := ⟨_, rfl⟩
      obtain ⟨W2, hW2⟩ : ∃ W2, W1.alloc (.cells #[.slice A4 4 c4, .slice (some ⟨w4.heap.size, 0, none⟩) 2 2, .slice A m cap] 27) = W2 := ⟨_, rfl⟩
      have hs1 : W1.heap.size = w4.heap.size + 1 := by rw [← hW1]; simp
      have hb1 : Below w4.heap.size w4 W1 := by rw [← hW1]; exact (Below.refl _ _).alloc (Nat.le_refl _) _
      have hb2 : Below W1.heap.size W1 W2 := by rw [← hW2]; exact (Below.refl _ _).alloc (Nat.le_refl _) _
      have hr1 : Row W1 W1.heap.size (some ⟨w4.heap.size, 0, none⟩) 2 (bv [UInt8.ofNat (m / 256), UInt8.ofNat m]) := by
        rw [← two_cells m hm, ← hW1]; exact row_lit w4 [.int .u8 ((m : Int) / 256), .int .u8 (m : Int)] _
      have hb42 : Below w4.heap.size w4 W2 := hb1.trans (hb2.mono hb1.size)
      have hb32 : Below w3.heap.size w3 W2 := hb4.trans (hb42.mono hb4.size)
      have HJ : Hid (Rows2 W2 W2.heap.size (some ⟨W1.heap.size, 0, none⟩) 3 [⟨A4, 4, c4, CrcM.four N⟩, ⟨some ⟨w4.heap.size, 0, none⟩, 2, 2, [UInt8.ofNat (m / 256), UInt8.ofNat m]⟩, ⟨A, m, cap, b⟩]) := by
        refine ⟨?_, fun r hr => ?_⟩
        · rw [← hW2]; exact row_lit W1 [.slice A4 4 c4, .slice (some ⟨w4.heap.size, 0, none⟩) 2 2, .slice A m cap] _
        · simp only [List.mem_cons, List.not_mem_nil, or_false] at hr
          rcases hr with rfl | rfl | rfl
          · exact ((Row.of_own hown4).below hb42).more hb42.size
          · exact (hr1.below hb2).more hb2.size
          · exact (HL3.out.below (hb32.mono (by have := HG3.out.size; omega))).more (by have := HG3.out.size; have := hb32.size; omega)
      have HFT : Hid (flat [(⟨A4, 4, c4, CrcM.four N⟩ : BRow), ⟨some ⟨w4.heap.size, 0, none⟩, 2, 2, [UInt8.ofNat (m / 256), UInt8.ofNat m]⟩, ⟨A, m, cap, b⟩] = hd6 N b.length ++ b) := by
        show _ = _; rw [HBL.out]; simp [flat, hd6]
      have HJN := Lib.hid (join_any W2.heap.size 3 3 _ _ W2 HJ.out (by omega) (by rw [HFT.out, List.length_append, hd6_length, HBL.out]; omega) (Nat.le_refl _))
      rw [HFT.out] at HJN
      have HS1 := Lib.hid hs1
      rw [hs1] at HJN
      have HW1 := Lib.hid hW1
      have HW2 := Lib.hid hW2
      have HB32 := Lib.hid hb32
      clear hown4 hb4 hW1 hW2 hs1 hb1 hb2 hr1 hb42 hb32 HJ HFT HNX HNL HL3
      go_wp2_with fail
      rw [HW1.out, HW2.out]
      refine HJN.out.mono ?_
      rintro e w5 ⟨A5, n5, c5, rfl, hn5, hown5, hb5⟩
      have hn5' : n5 = m + 6 := by rw [hn5, List.length_append, hd6_length, HBL.out]; omega
      subst hn5'
      have HR5 := Lib.hid (Row.of_own hown5)
      have HB35 : Hid (Below w3.heap.size w3 w5) := HB32.out.trans (hb5.mono HB32.out.size)
      clear hn5 hown5 hb5 HJN HW1 HW2 HB32
      go_wp2_with fail
      refine (r1put_any w5.heap.size _ c5 A5 _ w5 HR5.out (by omega) (Nat.le_refl _)).mono ?_
      rintro e w6 ⟨A6, n6, c6, rfl, hn6, hown6, hb6⟩
      have hmsg : CrcM.put (hd6 N b.length ++ b) = msg N b := rfl
      rw [hmsg] at hn6 hown6
      obtain rfl : n6 = m + 10 := by rw [hn6, msg_length, HBL.out]
      have HR6 := Lib.hid (Row.of_own hown6)
      have HB36 : Hid (Below w3.heap.size w3 w6) := HB35.out.trans (hb6.mono HB35.out.size)
      have hgm3 : gm < w3.heap.size := by obtain ⟨_, _, fu, fz, _, h⟩ := HF3.out; exact h.lt
      have hgB3 : gB < w3.heap.size := HF3.out.2.1.lt
      have HA6 : Hid (∀ b o, A6 = some ⟨b, o, none⟩ → b ≠ gm ∧ b ≠ gB) := by
        intro b' o' e
        obtain ⟨g2, c22, hv, hg2, _⟩ := hown6.form (by omega)
        injection hv with e1 e2 e3
        rw [e] at e1
        injection e1 with e1
        injection e1 with e1
        have := HB35.out.size
        omega
      have HF6 := Lib.hid (HF3.out.below HB36.out)
      have HG6 : Hid (Gr2 gm gB w w6) := HG3.out.below HB36.out
      clear hn6 hown6 hb6 hmsg HR5 HB35 HB36 HF3 HG3
      have HP := Lib.hid (fun ai hai => rprog_at gm gB 256 w6.heap.size (m + 10) c6 A6 (msg N b) f1 w6 ai hai HF6.out HR6.out (fun _ => HA6.out) (Nat.le_refl _) hd1 (by omega) (by have := HOK1.out.1; omega) (by have := HOK1.out.2.1; omega))
      have HPC2 : Hid (f.putC 1 N b = if (f1.prog 256 (msg N b)).2 = 0 then (f1.prog 256 (msg N b)).1.prog (256 + (m + 10)) [0] else f1.prog 256 (msg N b)) := by
        show _ = _
        rw [HPC1.out]
        unfold msgz
        rw [Fl.prog_append, msg_length, HBL.out]
      have HOK2 := Lib.hid (HOK1.out.prog (msg N b) 256)
      have HML : Hid ((msg N b).length = m + 10) := by show _ = _; rw [msg_length, HBL.out]
      have HDS2 := Lib.hid (fun h => (prog_down_same f1 256 (msg N b) h).trans hd1)
      obtain ⟨f2, r2, hE⟩ : ∃ f2 r2, f1.prog 256 (msg N b) = (f2, r2) := ⟨_, _, rfl⟩
      rw [hE] at HP HPC2 HOK2 HDS2
      dsimp only at HP HPC2 HOK2 HDS2
      clear hE hd1 HPC1 HDS
      go_wp2_with fail
      refine (HP.out _ (by omega)).mono ?_
      rintro e w7 ⟨rfl, hd7⟩
      have HG7 : Hid (Gr2 gm gB w w7) := HG6.out.trans hd7.out.2
      have HF7 := Lib.hid hd7.out.1
      clear hd7 HP HG6 HF6 HR6
      dsimp only
      by_cases h2 : r2 = 0
      · subst h2
        have hd2 := HDS2.out rfl
        rw [if_pos rfl] at HPC2
        have hgm7 : gm < w7.heap.size := by obtain ⟨_, _, fu, fz, _, h⟩ := HF7.out; exact h.lt
        have hgB7 : gB < w7.heap.size := HF7.out.2.1.lt
        have hba : Below w7.heap.size w7 (w7.alloc (.cells #[.int .u8 0] 5)) := (Below.refl _ _).alloc (Nat.le_refl _) _
        have HP := Lib.hid (fun ai hai => rprog_at gm gB (256 + (m + 10)) (w7.heap.size + 1) 1 1 (some ⟨w7.heap.size, 0, none⟩) [0] f2 (w7.alloc (.cells #[.int .u8 0] 5)) ai hai (HF7.out.below hba) (row_new w7 #[.int .u8 0] 5 (0, 0)) (by intro _ b o h; injection h with h; injection h with h; exact ⟨by omega, by omega⟩) (by simp) hd2 (by omega) (by have := HOK2.out.1; omega) (by have := HOK2.out.2.1; have := HML.out; omega))
        have HG8 : Hid (Gr2 gm gB w (w7.alloc (.cells #[.int .u8 0] 5))) := HG7.out.below hba
        clear hd2 hba HF7 HG7
        go_wp2_with fail
        refine (HP.out _ (by push_cast; omega)).mono ?_
        rintro e w8 ⟨rfl, hd8⟩
        go_wp2_with fail
        go_ret
        refine ⟨?_, ?_⟩
        · rw [HPC2.out]; rfl
        · rw [HPC2.out]; exact ⟨hd8.out.1, HG8.out.trans hd8.out.2⟩
      · have hr : (r2 != 0) = true := by simpa using h2
        have HQ : Hid (f.putC 1 N b = (f2, r2)) := by show _ = _; rw [HPC2.out, if_neg h2]
        clear h2
        go_wp2_with fail
        go_ret
        exact ⟨by rw [HQ.out]; rfl, by rw [HQ.out]; exact ⟨HF7.out, HG7.out⟩⟩
    · have hr : (r1 != 0) = true := by simpa using h0
      have HQ : Hid (f.putC 1 N b = (f1, r1)) := by show _ = _; rw [HPC1.out, if_neg h0]
      clear h0
      go_wp2_with fail
      go_ret
      exact ⟨by rw [HQ.out]; rfl, by rw [HQ.out]; exact ⟨HF3.out, HG3.out⟩⟩
end
end Go.Proofs.Ytmlmpjokmbgmcaa
