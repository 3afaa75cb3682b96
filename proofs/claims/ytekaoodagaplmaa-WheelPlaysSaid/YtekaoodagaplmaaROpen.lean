/- The reference's OpenWheel, where it opens: by contract. -/
import Derived.Test.YtekaoodagaplmaaRWh
import Derived.Test.YtekaoodagaplmaaR1Right
import Derived.Test.YtekaoodagaplmaaNumR
namespace Go.Proofs.Ytekaoodagaplmaa
open Go.RowKit
theorem Fl.sub_take (f : Fl) {a n m : Nat} (h : m ≤ n) : (f.sub a n).take m = f.sub a m := by
  unfold Fl.sub
  rw [← List.map_take, List.take_range, Nat.min_eq_left h]
theorem plB_not_right {gen : Nat} {p : List UInt8} (h : ¬ CrcM.right (p.take (p.length - 1))) : plB gen p = false := by
  unfold plB
  exact decide_eq_false fun hh => h hh.1
theorem rstW_no {f : Fl} {gen size k : Nat} (h : plB gen (plAt (secB f (k / (256 / (size + 13)))) (size + 13) (k % (256 / (size + 13)))) = false) :
    rstW f gen size (k + 1) = ((rstW f gen size k).1, if k % (256 / (size + 13)) = 0 then false else (rstW f gen size k).2.1, (rstW f gen size k).2.2) := by
  rw [rstW]
  simp only [h, Bool.false_and, Bool.false_eq_true, if_false]
theorem Fl.sub_drop (f : Fl) {a n m : Nat} : (f.sub a n).drop m = f.sub (a + m) (n - m) := by
  unfold Fl.sub
  apply List.ext_getElem
  · simp
  · intro i h1 h2
    simp [Nat.add_assoc]
def RX (A : Option Addr) (n : Nat) (xs : List Value) (W : World) : Prop := Row W W.heap.size A n xs
theorem RX.below {A : Option Addr} {n : Nat} {xs : List Value} {W W' : World} (h : RX A n xs W) (hb : Below W.heap.size W W') : RX A n xs W' := (Row.below h hb).more hb.size
theorem below_grow2 {B : Nat} {w0 w w' : World} {o : Option Nat} (h : Below B w0 w) (hB : B ≤ w.heap.size) (hg : w.grownBy w' o) (ho : ∀ g, o = some g → B ≤ g) : Below B w0 w' :=
  ⟨hg.os.trans h.os, hg.tape.trans h.tape, hg.output.trans h.output, Nat.le_trans h.size hg.size, fun b hb => (hg.block b (Nat.lt_of_lt_of_le hb hB) (fun e => by have := ho b e.symm; omega)).trans (h.block b hb)⟩
theorem plB_not_zero {gen : Nat} {p : List UInt8} (h : p.getD (p.length - 1) 0 ≠ 0) : plB gen p = false := by
  unfold plB
  exact decide_eq_false fun hh => h hh.2.1
theorem plB_not_gen {gen : Nat} {p : List UInt8} (h : CrcM.number (p.take 4) ≠ gen) : plB gen p = false := by
  unfold plB
  exact decide_eq_false fun hh => h hh.2.2
theorem plB_is {gen : Nat} {p : List UInt8} (h1 : CrcM.right (p.take (p.length - 1))) (h2 : p.getD (p.length - 1) 0 = 0) (h3 : CrcM.number (p.take 4) = gen) : plB gen p = true := by
  unfold plB
  exact decide_eq_true ⟨h1, h2, h3⟩
theorem rstW_yes {f : Fl} {gen size k : Nat} (h : plB gen (plAt (secB f (k / (256 / (size + 13)))) (size + 13) (k % (256 / (size + 13)))) = true) (hc : k % (256 / (size + 13)) = 0 ∨ (rstW f gen size k).2.1 = true) :
    rstW f gen size (k + 1) = ((rstW f gen size k).1 ++ [plR (plAt (secB f (k / (256 / (size + 13)))) (size + 13) (k % (256 / (size + 13))))], true, ((k / (256 / (size + 13)) : Nat) : Int)) := by
  have e : (if k % (256 / (size + 13)) = 0 then plB gen (plAt (secB f (k / (256 / (size + 13)))) (size + 13) (k % (256 / (size + 13)))) else (rstW f gen size k).2.1) = true := by
    split
    · exact h
    · rename_i h0
      rcases hc with hc | hc
      · exact absurd hc h0
      · exact hc
  rw [rstW]
  rw [e, h]
  rfl
theorem rstW_off {f : Fl} {gen size k : Nat} (h0 : k % (256 / (size + 13)) ≠ 0) (hc : (rstW f gen size k).2.1 = false) :
    rstW f gen size (k + 1) = ((rstW f gen size k).1, false, (rstW f gen size k).2.2) := by
  rw [rstW]
  simp only [h0, hc, if_false, Bool.and_false, Bool.false_eq_true]
theorem wh_mk {H : Wh} {g s : Nat} {L : List (Nat × List UInt8)} {r : Int} {x : Nat} (h1 : H.gen = g) (h2 : H.size = s) (h3 : H.L = L) (h4 : H.ready = r) (h5 : H.next = x) : H = ⟨g, s, L, r, x⟩ := by
  cases H; subst h1 h2 h3 h4 h5; rfl
def ROpenOk (gm gB gen size : Nat) (f : Fl) (w : World) (e : Ending) (w' : World) : Prop := ∃ gr, e = .returned (.tuple #[.pointer (some ⟨gr, 0, none⟩), .int .i64 0]) ∧ Hid (RWhAt (fun b => w.heap.size ≤ b) gr gm gB (opW f gen size 8) w') ∧ Hid (Below w.heap.size w w')
set_option maxRecDepth 100000 in
set_option maxHeartbeats 6400000 in
theorem ropen_ok (gm gB gen size : Nat) (f : Fl) (w : World) (hf : RfAt w gm gB f) (hd : f.down = false) (hs1 : 1 ≤ size) (hs2 : size ≤ 16) (hgm : gm < w.heap.size) :
    Calls Try.prog 9 #[.pointer (some ⟨gm, 0, none⟩), .int .u32 (gen : Int), .int .i64 (size : Int)] w (ROpenOk gm gB gen size f w) := by
  obtain ⟨i0, hi, hz0, hz1, hz2⟩ := info_parts Try.info77
  have HGM : Hid (¬ w.heap.size ≤ gm) := Lib.hid (by omega)
  have HGB : Hid (¬ w.heap.size ≤ gB) := Lib.hid (by have := hf.2.1.lt; omega)
  have HF := Lib.hid hf
  have HS1 := Lib.hid hs1
  have HS2 := Lib.hid hs2
  have h1 : (1 : Int) ≤ size := by omega
  have h2 : (size : Int) ≤ 16 := by omega
  have HD := Lib.hid hd
  have hoff := hf.off
  rw [hd] at hoff
  have hpb := per_bounds hs1 hs2
  have HPB0 := Lib.hid hpb
  obtain ⟨pr, hpr⟩ : ∃ pr, 256 / (size + 13) = pr := ⟨_, rfl⟩
  have HPR := Lib.hid hpr
  rw [hpr] at hpb HPB0
  have hgB : gB < w.heap.size := hf.2.1.lt
  have hb5 : Below w.heap.size w (w.alloc (.cells #[.pointer (some ⟨gm, 0, none⟩), .int .u32 (gen : Int), .int .i64 (size : Int), .slice none 0 0, .int .i64 (-1), .int .i64 0] 47)) := (Below.refl _ _).alloc (Nat.le_refl _) _
  have HW0 : Hid (RWhAt (fun b => w.heap.size ≤ b) w.heap.size gm gB ⟨gen, size, (rstW f gen size 0).1, (rstW f gen size 0).2.2, 0⟩ (w.alloc (.cells #[.pointer (some ⟨gm, 0, none⟩), .int .u32 (gen : Int), .int .i64 (size : Int), .slice none 0 0, .int .i64 (-1), .int .i64 0] 47))) := Lib.hid ⟨none, 0, 0, [], heap_alloc_new w _, Nat.le_refl _, by omega, by omega, RecW.nil _ _, rfl⟩
  have HB0 := Lib.hid hb5
  have HPL0 := Lib.hid (rplaces_any (gr := w.heap.size) (size := size) (w := (w.alloc (.cells #[.pointer (some ⟨gm, 0, none⟩), .int .u32 (gen : Int), .int .i64 (size : Int), .slice none 0 0, .int .i64 (-1), .int .i64 0] 47))) (by rw [cell_of_row _ _ _ _ _ (0, 0) (heap_alloc_new w _)]; rfl) hs1 hs2)
  rw [hpr] at HPL0
  have hp8 : 8 ≤ pr := hpb.1
  have hp18 : (pr : Int) ≤ 18 := by omega
  have hp0 : ¬ (pr : Int) = 0 := by omega
  have HLN0 : Hid ((rstW f gen size 0).1.length ≤ 0) := Lib.hid (Nat.le_refl _)
  have HCB0 : Hid (false = (rstW f gen size 0).2.1) := Lib.hid rfl
  have HC2 : Hid (∀ (W : World) {L : List (Nat × List UInt8)} {rd : Int} {nx : Nat}, RWhAt (fun b => w.heap.size ≤ b) w.heap.size gm gB ⟨gen, size, L, rd, nx⟩ W → W.cell? ⟨w.heap.size, 2, none⟩ = some (.int .i64 (size : Int))) := Lib.hid fun W L rd nx a => by
    obtain ⟨A, n, c, es, hg, _⟩ := a
    exact (rwc6 hg).2.2.1
  clear hf hd hb5 hpr hpb hs1 hs2 hgB hgm
  go_enter Try.func9, Try.ntmps9
  go_upto_region 6 with fail
  clear hoff
  generalize (w.alloc (.cells #[.pointer (some ⟨gm, 0, none⟩), .int .u32 (gen : Int), .int .i64 (size : Int), .slice none 0 0, .int .i64 (-1), .int .i64 0] 47)) = w5 at *
  go_wp2_with fail
  refine HPL0.out.mono ?_
  rintro e w6 ⟨rfl, rfl⟩
  go_wp2_with fail
  go_loopw [10, 39] (fun v x wr => ∃ (k : Nat) (cb : Bool), k ≤ 8 * pr ∧ v = .bool cb ∧ x = .int .i64 (k : Int) ∧ Hid (cb = (rstW f gen size k).2.1) ∧ Hid (RWhAt (fun b => w.heap.size ≤ b) w.heap.size gm gB ⟨gen, size, (rstW f gen size k).1, (rstW f gen size k).2.2, 0⟩ wr) ∧ Hid (Below w.heap.size w wr) ∧ Hid ((rstW f gen size k).1.length ≤ k)) (fun _ x _ => 8 * pr - (intOf x).toNat)
  case atStart => exact ⟨0, false, by omega, rfl, rfl, HCB0, HW0, HB0, HLN0⟩
  case round =>
    obtain ⟨k, cb, hk, rfl, rfl, HCB, HW, HB, HLN⟩ := hrel
    clear HW0 HLN0 HCB0
    by_cases hlt : k < 8 * pr
    · have hki : (k : Int) < (pr : Int) * 8 := by omega
      obtain ⟨s, hs⟩ : ∃ s, k / pr = s := ⟨_, rfl⟩
      obtain ⟨j, hj⟩ : ∃ j, k % pr = j := ⟨_, rfl⟩
      have hs8 : s < 8 := by rw [← hs]; exact Nat.div_lt_of_lt_mul (by rw [Nat.mul_comm]; exact hlt)
      have hjp : j < pr := by rw [← hj]; exact Nat.mod_lt _ (by omega)
      obtain ⟨qw, hqw⟩ : ∃ q, j * (size + 13) = q := ⟨_, rfl⟩
      have hq2 : qw + (size + 13) ≤ 256 := by
        rw [← hqw, ← Nat.succ_mul]
        exact Nat.le_trans (Nat.mul_le_mul_right _ hjp) HPB0.out.2.2
      obtain ⟨a, ha⟩ : ∃ a, 256 * (6 + s) + qw = a := ⟨_, rfl⟩
      have HJ : Hid (k % (256 / (size + 13)) = j) := Lib.hid (by rw [HPR.out]; exact hj)
      have HS : Hid (k / (256 / (size + 13)) = s) := Lib.hid (by rw [HPR.out]; exact hs)
      have HJI : Hid ((k : Int) % (pr : Int) = (j : Int)) := Lib.hid (by rw [← hj]; rfl)
      have HAT := Lib.hid (rat_any (gr := w.heap.size) (size := size) (w := wr) k s j (HC2.out wr HW.out) HS1.out HS2.out (by rw [HPR.out]; omega) HS.out HJ.out)
      rw [hqw, ha] at HAT
      have hal : a + size + 13 ≤ 3584 := by omega
      have HPL : Hid (plAt (secB f (k / (256 / (size + 13)))) (size + 13) (k % (256 / (size + 13))) = f.sub a (size + 13)) := Lib.hid (by
        rw [plAt_flash f HS1.out HS2.out, HS.out, HJ.out, hqw, ha])
      have hs8i : (s : Int) ≤ 8 := by omega
      clear hs hj hqw ha hjp hq2
      go_wp2_with fail
      refine HAT.out.mono ?_
      rintro e wq ⟨rfl, q, rfl⟩
      clear HAT
      have HBQ := Lib.hid (HB.out.trans ((below_drewN (Below.refl _ _) q).mono HB.out.size))
      have HWQ := Lib.hid (HW.out.below (below_drewN (Below.refl _ _) q))
      generalize wr.drewN q = wq at *
      have HFQ := Lib.hid (HF.out.below HBQ.out)
      have hsl := HFQ.out.slot0
      obtain ⟨az, haz⟩ : ∃ x, a + size + 13 = x := ⟨_, rfl⟩
      obtain ⟨n1, hn1⟩ : ∃ x, size + 12 = x := ⟨_, rfl⟩
      have i1 : (a : Int) + (size : Int) + 13 = (az : Int) := by omega
      have i2 : (size : Int) + 12 = (n1 : Int) := by omega
      have i3 : (az : Int) ≤ 3584 := by omega
      have i4 : az - a = n1 + 1 := by omega
      have i5 : a ≤ az := by omega
      have i6 : (a : Int) + (size : Int) ≤ 3584 := by omega
      have i7 : ¬ 3584 = a := by omega
      have i8 : (n1 : Int) ≤ 28 := by omega
      have i9 : n1 ≤ 28 := by omega
      have i10 : 12 ≤ n1 := by omega
      have i11 : (n1 : Int) ≤ ((3584 - a : Nat) : Int) := by omega
      have i12 : n1 ≤ 3584 - a := by omega
      have HN1 := Lib.hid hn1
      have HRW : Hid (Row wq wq.heap.size (some ⟨gB, a, none⟩) n1 (bv (f.sub a n1))) := Lib.hid (HFQ.out.2.1.row (by omega))
      have HTK : Hid ((f.sub a (size + 13)).take n1 = f.sub a n1) := Lib.hid (Fl.sub_take f (by omega))
      have HCA := Lib.hid (HFQ.out.2.1.at_ (i := a + n1) (by omega))
      obtain ⟨cc, hcc⟩ : ∃ c, 3584 - a = c := ⟨_, rfl⟩
      have i13 : n1 ≤ cc := by omega
      have i14 : cc ≤ 3584 := by omega
      by_cases hrt : isRight (f.sub a n1)
      · have HRT := Lib.hid (r1right_yes wq.heap.size n1 cc (some ⟨gB, a, none⟩) (f.sub a n1) wq HRW.out i13 (by omega) (by omega) (Nat.le_refl _) hrt)
        obtain ⟨n2, hn2⟩ : ∃ x, n1 - 4 = x := ⟨_, rfl⟩
        have HTK2 : Hid ((f.sub a n1).take ((f.sub a n1).length - 4) = f.sub a n2) := Lib.hid (by rw [Fl.sub_length, Fl.sub_take f (by omega), hn2])
        rw [HTK2.out] at HRT
        rw [← hcc] at HRT
        have HRTT := Lib.hid hrt
        have HN12 : Hid (n1 = size + 12 ∧ n2 = size + 8) := Lib.hid (by omega)
        clear hrt haz hn1 hcc HRW hn2
        go_wp2_with fail
        refine HRT.out.mono ?_
        rintro e wx ⟨Ax, nx, cx, rfl, hnx, hox, hbx⟩
        have HBX := Lib.hid (HBQ.out.trans (hbx.mono HBQ.out.size))
        have HWX := Lib.hid (HWQ.out.below hbx)
        have HBQX := Lib.hid hbx
        have hca := (hbx.cell (p := ⟨gB, a + n1, none⟩) (HFQ.out.2.1.lt)).trans HCA.out
        have hnx2 : nx = size + 8 := by rw [hnx.out, Fl.sub_length, HN12.out.2]
        subst hnx2
        obtain ⟨gx, hAx, hgx, cur, hgxb, hcap⟩ : ∃ gx, Ax = some ⟨gx, 0, none⟩ ∧ wq.heap.size ≤ gx ∧ ∃ cur, wx.heap[gx]? = some (.cells cur 5 (0, 0)) ∧ size + 8 ≤ cx := by
          rcases hox.2 with ⟨_, h0⟩ | ⟨g', cap, cur, e, hg', hh, hcp, _⟩
          · omega
          · injection e with e1 e2 e3
            subst e3
            exact ⟨g', e1, hg', cur, hh, hcp⟩
        subst hAx
        have HXR := Row.of_own hox
        rw [HN12.out.2] at HXR
        have HX4 : Hid (RX (some ⟨gx, 0, none⟩) 4 (bv (f.sub a 4)) wx) := Lib.hid (by
          have h := HXR.sub (k := 0) (m := 4) (A' := some ⟨gx, 0, none⟩) (by omega) (fun b o e _ => e)
          rw [List.drop_zero, bv_take, Fl.sub_take f (by omega)] at h
          exact h)
        have HX48 : Hid (RX (some ⟨gx, 4, none⟩) 4 (bv (f.sub (a + 4) 4)) wx) := Lib.hid (by
          have h := HXR.sub (k := 4) (m := 4) (A' := some ⟨gx, 4, none⟩) (by omega) (fun b o e _ => by injection e with e; injection e with e1 e2; subst e1 e2; rfl)
          rw [bv_drop, bv_take, Fl.sub_drop, Fl.sub_take f (by omega)] at h
          exact h)
        have HX8 : Hid (RX (some ⟨gx, 8, none⟩) size (bv (f.sub (a + 8) size)) wx) := Lib.hid (by
          have h := HXR.sub (k := 8) (m := size) (A' := some ⟨gx, 8, none⟩) (by omega) (fun b o e _ => by injection e with e; injection e with e1 e2; subst e1 e2; rfl)
          rw [bv_drop, bv_take, Fl.sub_drop, Fl.sub_take f (by omega)] at h
          exact h)
        have HGXB := Lib.hid hgxb
        have LGX := Lib.hid (Array.getElem?_eq_some_iff.1 hgxb).1
        have HGXQ := Lib.hid hgx
        have HGX : Hid (w.heap.size ≤ gx ∧ gx ≠ w.heap.size) := Lib.hid (by
          have h7 := HBQ.out.size
          have h8 := HWQ.out.lt
          exact ⟨by omega, by omega⟩)
        have j1 : ¬ cx = 4 := by omega
        have j2 : ¬ cx = 8 := by omega
        have j3 : (8 : Int) ≤ (cx : Int) := by omega
        have j5 : (8 : Int) ≤ (size : Int) + 8 := by omega
        have j6 : (size : Int) + 8 ≤ (cx : Int) := by omega
        have j4 : (4 : Int) ≤ (cx : Int) := by omega
        obtain ⟨idn, hid⟩ : ∃ i, CrcM.number (f.sub (a + 4) 4) = i := ⟨_, rfl⟩
        have HID := Lib.hid hid
        have HPX : Hid (plR (f.sub a (size + 13)) = (idn, f.sub (a + 8) size)) := Lib.hid (by
          unfold plR
          rw [Fl.sub_length, Fl.sub_drop, Fl.sub_take f (by omega), Fl.sub_take f (by omega), Fl.sub_drop, hid]
          rw [show size + 13 - 5 - 8 = size by omega])
        have HGD : Hid ((f.sub a (size + 13)).getD ((f.sub a (size + 13)).length - 1) 0 = f.bs (a + n1)) := Lib.hid (by
          rw [Fl.sub_length, show size + 13 - 1 = n1 by have := HN12.out.1; omega, List.getD_eq_getElem?_getD, List.getElem?_eq_getElem (by rw [Fl.sub_length]; have := HN12.out.1; omega)]
          simp [Fl.sub])
        have HT1 : Hid ((f.sub a (size + 13)).take ((f.sub a (size + 13)).length - 1) = f.sub a n1) := Lib.hid (by
          rw [Fl.sub_length, show size + 13 - 1 = n1 by have := HN12.out.1; omega]; exact HTK.out)
        have HT4 : Hid ((f.sub a (size + 13)).take 4 = f.sub a 4) := Lib.hid (Fl.sub_take f (by omega))
        have HNM := Lib.hid (r1num_any 4 wx.heap.size cx (some ⟨gx, 0, none⟩) (f.sub a 4) wx HX4.out (by omega))
        obtain ⟨bz, hbz⟩ : ∃ b, f.bs (a + n1) = b := ⟨_, rfl⟩
        rw [hbz] at hca HGD
        obtain ⟨nm, hnm⟩ : ∃ m, CrcM.number (f.sub a 4) = m := ⟨_, rfl⟩
        rw [hnm] at HNM
        obtain ⟨bzn, hbzn⟩ : ∃ m, bz.toNat = m := ⟨_, rfl⟩
        rw [hbzn] at hca
        clear HRT hbx hsl hox hnx hgx hgxb HXR hid hbz HX4
        by_cases hz : bzn = 0
        · subst hz
          by_cases hg : nm = gen
          · have hbeq : ((nm : Int) == (gen : Int)) = true := by rw [beq_iff_eq]; omega
            have HPB : Hid (plB gen (plAt (secB f (k / (256 / (size + 13)))) (size + 13) (k % (256 / (size + 13)))) = true) := Lib.hid (by
              rw [HPL.out]
              exact plB_is (by rw [HT1.out]; exact HRTT.out) (by rw [HGD.out]; exact UInt8.toNat.inj hbzn) (by rw [HT4.out, hnm, hg]))
            clear hg hnm
            go_wp2_with fail
            refine HNM.out.mono ?_
            rintro e wz ⟨rfl, rfl⟩
            go_upto_region 15 with fail
            clear hca hbeq
            by_cases hj0 : j = 0
            · have hji : (k : Int) % (pr : Int) = 0 := by have := HJI.out; rw [this, hj0]; rfl
              have HYC : Hid (k % (256 / (size + 13)) = 0 ∨ (rstW f gen size k).2.1 = true) := Lib.hid (.inl (by rw [HJ.out]; exact hj0))
              have HYS : Hid (rstW f gen size (k + 1) = ((rstW f gen size k).1 ++ [(idn, f.sub (a + 8) size)], true, (s : Int))) := Lib.hid (by rw [rstW_yes HPB.out HYC.out, HPL.out, HPX.out, HS.out])
              obtain ⟨Av, nv, cv, es, hgw, _, _, _, hrw, hes⟩ := id HWX.out
              have HGW := Lib.hid hgw
              have HRW0 := Lib.hid hrw
              have HES := Lib.hid hes
              have LGW := Lib.hid (Array.getElem?_eq_some_iff.1 hgw).1
              have HNV : Hid (nv ≤ 200) := Lib.hid (by
                have e1 := hrw.2.2.1
                have e2 : es.length = (rstW f gen size k).1.length := by
                  have e4 := congrArg List.length hes
                  rw [List.length_map] at e4
                  exact e4
                have := HLN.out
                omega)
              have HOWN := Lib.hid hrw.2.1
              have HOX : Hid ((Value.slice Av nv cv).ownBlock ≠ some gx) := Lib.hid (by
                obtain ⟨Aq, nq, cq, eq, hgq, _, _, _, hrq, _⟩ := id HWQ.out
                have e := hgw.symm.trans ((HBQX.out.block _ (Array.getElem?_eq_some_iff.1 hgq).1).trans hgq)
                have e3 : (Value.slice Av nv cv) = .slice Aq nq cq := by
                  injection e with e
                  injection e with e
                  have e4 := congrArg (fun x : Array Value => x[3]?) e
                  exact Option.some.inj e4
                rw [e3]
                intro h9
                have := (hrq.1.lt gx h9).2
                have := HGXQ.out
                omega)
              clear hgw hrw hes HYC
              go_upto_region 18 with fail
              refine wp_region_noPanic ?_
              refine wp_region_held_drew (S := (fun W => Below w.heap.size w W)) (by kernel_rfl) HBX.out.drew (fun hH0 => ?_)
              have hH0 : Below w.heap.size w wx.drew := hH0
              have HGWd := Lib.hid (show wx.drew.heap[w.heap.size]? = _ from HGW.out)
              have LGWd := Lib.hid (show w.heap.size < wx.drew.heap.size from LGW.out)
              have HGXBd := Lib.hid (show wx.drew.heap[gx]? = _ from HGXB.out)
              have LGXd := Lib.hid (show gx < wx.drew.heap.size from LGX.out)
              have HX48d := Lib.hid (HX48.out.below ((Below.refl wx.heap.size wx).drew))
              have HX8d := Lib.hid (HX8.out.below ((Below.refl wx.heap.size wx).drew))
              have HRW0d := Lib.hid (HRW0.out.below ((Below.refl wx.heap.size wx).drew))
              generalize wx.drew = wd5000 at *
              refine wpAnyH_take (i := 0) (oi := { dst := some 91, op := Op.move (Operand.tmp 8), type := 34, pos := "ref.go:237", after := #[], guard := none }) (v := ?tkv5001) rfl (by kernel_rfl) (by kernel_rfl) (by kernel_rfl) (fun _ _ _ h => h) (Or.inl ⟨by rfl, ?tky5001⟩) hH0 ?tkr5001
              case tky5001 => (intro w' hSw; clear hSw; go_simp; try with_reducible rfl)
              try simp only [Act.put, List.setIfInBounds_toArray, List.set_cons_zero, List.set_cons_succ]
              refine wpAnyH_take (i := 1) (oi := { dst := some 92, op := Op.move (Operand.tmp 8), type := 34, pos := "ref.go:237", after := #[], guard := none }) (v := ?tkv5002) rfl (by kernel_rfl) (by kernel_rfl) (by kernel_rfl) (fun _ _ _ h => h) (Or.inl ⟨by rfl, ?tky5002⟩) hH0 ?tkr5002
              case tky5002 => (intro w' hSw; clear hSw; go_simp; try with_reducible rfl)
              try simp only [Act.put, List.setIfInBounds_toArray, List.set_cons_zero, List.set_cons_succ]
              refine wpAnyH_take (i := 2) (oi := { dst := some 93, op := Op.nilCheck (Operand.tmp 92), type := 0, pos := "ref.go:237", after := #[{ on := 1, ground := Ground.data }], guard := none }) (v := ?tkv5003) rfl (by kernel_rfl) (by kernel_rfl) (by kernel_rfl) (fun _ _ _ h => h) (Or.inl ⟨by rfl, ?tky5003⟩) hH0 ?tkr5003
              case tky5003 => (intro w' hSw; clear hSw; go_simp; try with_reducible rfl)
              try simp only [Act.put, List.setIfInBounds_toArray, List.set_cons_zero, List.set_cons_succ]
              refine wpAnyH_take (i := 3) (oi := { dst := some 94, op := Op.fieldAddr 47 (Operand.tmp 93) 3, type := 0, pos := "ref.go:237", after := #[{ on := 2, ground := Ground.data }], guard := none }) (v := ?tkv5004) rfl (by kernel_rfl) (by kernel_rfl) (by kernel_rfl) (fun _ _ _ h => h) (Or.inl ⟨by rfl, ?tky5004⟩) hH0 ?tkr5004
              case tky5004 => (intro w' hSw; clear hSw; go_simp; try with_reducible rfl)
              try simp only [Act.put, List.setIfInBounds_toArray, List.set_cons_zero, List.set_cons_succ]
              refine wpAnyH_take (i := 5) (oi := { dst := some 96, op := Op.move (Operand.tmp 15), type := 37, pos := "ref.go:237", after := #[], guard := none }) (v := ?tkv5005) rfl (by kernel_rfl) (by kernel_rfl) (by kernel_rfl) (fun _ _ _ h => h) (Or.inl ⟨by rfl, ?tky5005⟩) hH0 ?tkr5005
              case tky5005 => (intro w' hSw; clear hSw; go_simp; try with_reducible rfl)
              try simp only [Act.put, List.setIfInBounds_toArray, List.set_cons_zero, List.set_cons_succ]
              refine wpAnyH_take (i := 6) (oi := { dst := some 97, op := Op.slice 37 (Operand.tmp 96) (some (Operand.const (Value.int IntKind.i64 4))) (some (Operand.const (Value.int IntKind.i64 8))) none, type := 37, pos := "ref.go:237", after := #[{ on := 5, ground := Ground.data }], guard := none }) (v := ?tkv5006) rfl (by kernel_rfl) (by kernel_rfl) (by kernel_rfl) (fun _ _ _ h => h) (Or.inl ⟨by rfl, ?tky5006⟩) hH0 ?tkr5006
              case tky5006 => (intro w' hSw; clear hSw; go_simp; try with_reducible rfl)
              try simp only [Act.put, List.setIfInBounds_toArray, List.set_cons_zero, List.set_cons_succ]
              refine wpAnyH_take (i := 8) (oi := { dst := some 99, op := Op.move (Operand.tmp 15), type := 37, pos := "ref.go:237", after := #[], guard := none }) (v := ?tkv5007) rfl (by kernel_rfl) (by kernel_rfl) (by kernel_rfl) (fun _ _ _ h => h) (Or.inl ⟨by rfl, ?tky5007⟩) hH0 ?tkr5007
              case tky5007 => (intro w' hSw; clear hSw; go_simp; try with_reducible rfl)
              try simp only [Act.put, List.setIfInBounds_toArray, List.set_cons_zero, List.set_cons_succ]
              refine wpAnyH_take (i := 9) (oi := { dst := some 100, op := Op.slice 37 (Operand.tmp 99) (some (Operand.const (Value.int IntKind.i64 8))) none none, type := 37, pos := "ref.go:237", after := #[{ on := 8, ground := Ground.data }], guard := none }) (v := ?tkv5008) rfl (by kernel_rfl) (by kernel_rfl) (by kernel_rfl) (fun _ _ _ h => h) (Or.inl ⟨by rfl, ?tky5008⟩) hH0 ?tkr5008
              case tky5008 => (intro w' hSw; clear hSw; go_simp; try with_reducible rfl)
              try simp only [Act.put, List.setIfInBounds_toArray, List.set_cons_zero, List.set_cons_succ]
              refine wpAnyH_ready (rs := [4, 7]) (by kernel_rfl) (by simp) ?_
              refine AllReadyH.cons (o := { dst := some 95, op := Op.load 44 (Operand.tmp 94), type := 44, pos := "ref.go:237", after := #[{ on := 3, ground := Ground.data }], guard := none }) rfl (fun K hK => ?_) (AllReadyH.cons (o := { dst := some 98, op := Op.call { callee := Callee.value (Operand.func 28), args := #[Operand.tmp 97], argTypes := #[37] }, type := 22, pos := "ref.go:237", after := #[{ on := 6, ground := Ground.data }], guard := none }) rfl (fun K hK => ?_) AllReadyH.nil)
              · have hc5009 := (rwc6 HGWd.out).2.2.2.1
                go_simp
                clear hc5009
                have hS5009 : Below w.heap.size w wd5000 := hH0
                refine hK.out _ _ hS5009 (fun hH5009 => ?_)
                have hH5009 : Below w.heap.size w wd5000 := hH5009
                clear hK K hS5009
                try simp only [Act.put, List.setIfInBounds_toArray, List.set_cons_zero, List.set_cons_succ]
                refine wpAnyH_ready (rs := [7]) (by kernel_rfl) (by simp) ?_
                refine AllReadyH.cons (o := { dst := some 98, op := Op.call { callee := Callee.value (Operand.func 28), args := #[Operand.tmp 97], argTypes := #[37] }, type := 22, pos := "ref.go:237", after := #[{ on := 6, ground := Ground.data }], guard := none }) rfl (fun K hK => ?_) AllReadyH.nil
                go_simp
                refine (r1num_any 4 _ _ _ (f.sub (a + 4) 4) wd5000 HX48d.out (by omega)).mono ?_
                rw [HID.out]
                rintro e' wz5010 ⟨rfl, rfl⟩
                go_simp
                have hS5010 : Below w.heap.size w wd5000 := hH5009
                refine hK.out _ _ hS5010 (fun hH5010 => ?_)
                have hH5010 : Below w.heap.size w wd5000 := hH5010
                clear hK K hS5010
                try simp only [Act.put, List.setIfInBounds_toArray, List.set_cons_zero, List.set_cons_succ]
                refine wpAnyH_take (i := 10) (oi := { dst := some 101, op := Op.build 77 #[(0, Operand.tmp 98), (1, Operand.tmp 100)], type := 77, pos := "ref.go:237", after := #[{ on := 7, ground := Ground.data }, { on := 9, ground := Ground.data }], guard := none }) (v := ?tkv5011) rfl (by kernel_rfl) (by kernel_rfl) (by kernel_rfl) (fun _ _ _ h => h) (Or.inl ⟨by rfl, ?tky5011⟩) hH5010 ?tkr5011
                case tky5011 => (intro w' hSw; clear hSw; go_simp; try with_reducible rfl)
                try simp only [Act.put, List.setIfInBounds_toArray, List.set_cons_zero, List.set_cons_succ]
                refine wpAnyH_ready (rs := [11]) (by kernel_rfl) (by simp) ?_
                refine AllReadyH.cons (o := { dst := some 102, op := Op.buildSlice 44 1 #[(0, Operand.tmp 101)], type := 44, pos := "ref.go:237", after := #[{ on := 10, ground := Ground.data }], guard := none }) rfl (fun K hK => ?_) AllReadyH.nil
                go_simp
                have hb5012 : Below wd5000.heap.size wd5000 (wd5000.alloc (.cells #[.int .u32 (idn : Int), .slice (some ⟨gx, 8, none⟩) size (cx - 8)] 77)) := (Below.refl _ _).alloc (Nat.le_refl _) _
                have AX5012 : Hid ((wd5000.alloc (.cells #[.int .u32 (idn : Int), .slice (some ⟨gx, 8, none⟩) size (cx - 8)] 77)).heap[wd5000.heap.size]? = some (.cells #[.int .u32 (idn : Int), .slice (some ⟨gx, 8, none⟩) size (cx - 8)] 77 (0, 0))) := Lib.hid (heap_alloc_new _ _)
                have AL5012 : Hid (wd5000.heap.size < (wd5000.alloc (.cells #[.int .u32 (idn : Int), .slice (some ⟨gx, 8, none⟩) size (cx - 8)] 77)).heap.size) := Lib.hid (by simp)
                generalize (wd5000.alloc (.cells #[.int .u32 (idn : Int), .slice (some ⟨gx, 8, none⟩) size (cx - 8)] 77)) = wn5012 at *
                have HGWd_5012 := Lib.hid ((hb5012.block w.heap.size LGWd.out).trans HGWd.out)
                have LGWd_5012 := Lib.hid (Nat.lt_of_lt_of_le LGWd.out hb5012.size)
                have HGXBd_5012 := Lib.hid ((hb5012.block gx LGXd.out).trans HGXBd.out)
                have LGXd_5012 := Lib.hid (Nat.lt_of_lt_of_le LGXd.out hb5012.size)
                have HX48d_5012 := Lib.hid (HX48d.out.below hb5012)
                have HX8d_5012 := Lib.hid (HX8d.out.below hb5012)
                have HRW0d_5012 := Lib.hid (HRW0d.out.below hb5012)
                have hS5012 : Below w.heap.size w wn5012 := ((hH5010).trans (hb5012.mono (hH5010).size))
                refine hK.out _ _ hS5012 (fun hH5012 => ?_)
                have hH5012 : Below w.heap.size w wn5012 := hH5012
                clear hK K hS5012
                try simp only [Act.put, List.setIfInBounds_toArray, List.set_cons_zero, List.set_cons_succ]
                refine wpAnyH_ready (rs := [12]) (by kernel_rfl) (by simp) ?_
                refine AllReadyH.cons (o := { dst := some 103, op := Op.call { callee := Callee.builtin Builtin.append, args := #[Operand.tmp 95, Operand.tmp 102], argTypes := #[44, 44] }, type := 44, pos := "ref.go:237", after := #[{ on := 4, ground := Ground.data }, { on := 11, ground := Ground.data }, { on := 7, ground := Ground.chain }], guard := none }) rfl (fun K hK => ?_) AllReadyH.nil
                rw [if_pos (by rfl)]
                refine wp_app2 (.tmp 95) (.tmp 102) 44 rfl 0 77 i0 _ 32 Try.underlying44 hi hz0 hz1 hz2 rfl _ nv _ rfl HRW0d_5012.out.1 _ 1 _ _ 77 rfl AX5012.out rfl rfl (by have := HNV.out; unfold maxLen; omega) (by have := HNV.out; omega) (Nat.zero_le _) ?_
                intro v4 w4 hown4 hg4 hat4
                obtain ⟨A4, c4, rfl⟩ := own2_form hown4
                have HAPP := Lib.hid (RWhAt.app (P := (fun b => w.heap.size ≤ b)) (P' := (fun b => w.heap.size ≤ b)) (r := ⟨idn, some ⟨gx, 8, none⟩, size, cx - 8, f.sub (a + 8) size⟩) HGWd_5012.out (Nat.le_refl _) HGM.out HGB.out HRW0d_5012.out HES.out ⟨gx, 8, rfl, HGX.out, LGXd_5012.out, HOX.out, HX8d_5012.out⟩ hown4 hg4 hat4 (fun _ h => h) (fun _ => (hH5012).size))
                have hS5013 : Below w.heap.size w w4 := (below_grow2 (hH5012) (hH5012).size hg4 (fun g hg => (HOWN.out g hg).1))
                refine hK.out _ _ hS5013 (fun hH5013 => ?_)
                have hH5013 : Below w.heap.size w w4 := hH5013
                clear hK K hS5013
                try simp only [Act.put, List.setIfInBounds_toArray, List.set_cons_zero, List.set_cons_succ]
                refine wpAnyH_take (i := 13) (oi := { dst := some 104, op := Op.nilCheck (Operand.tmp 91), type := 0, pos := "ref.go:237", after := #[{ on := 0, ground := Ground.data }, { on := 0, ground := Ground.phase }, { on := 1, ground := Ground.phase }, { on := 2, ground := Ground.phase }, { on := 3, ground := Ground.phase }, { on := 4, ground := Ground.phase }, { on := 5, ground := Ground.phase }, { on := 6, ground := Ground.phase }, { on := 7, ground := Ground.phase }, { on := 8, ground := Ground.phase }, { on := 9, ground := Ground.phase }, { on := 10, ground := Ground.phase }, { on := 11, ground := Ground.phase }, { on := 12, ground := Ground.phase }], guard := none }) (v := ?tkv5014) rfl (by kernel_rfl) (by kernel_rfl) (by kernel_rfl) (fun _ _ _ h => h) (Or.inl ⟨by rfl, ?tky5014⟩) hH5013 ?tkr5014
                case tky5014 => (intro w' hSw; clear hSw; go_simp; try with_reducible rfl)
                try simp only [Act.put, List.setIfInBounds_toArray, List.set_cons_zero, List.set_cons_succ]
                refine wpAnyH_take (i := 14) (oi := { dst := some 105, op := Op.fieldAddr 47 (Operand.tmp 104) 3, type := 0, pos := "ref.go:237", after := #[{ on := 13, ground := Ground.data }, { on := 0, ground := Ground.phase }, { on := 1, ground := Ground.phase }, { on := 2, ground := Ground.phase }, { on := 3, ground := Ground.phase }, { on := 4, ground := Ground.phase }, { on := 5, ground := Ground.phase }, { on := 6, ground := Ground.phase }, { on := 7, ground := Ground.phase }, { on := 8, ground := Ground.phase }, { on := 9, ground := Ground.phase }, { on := 10, ground := Ground.phase }, { on := 11, ground := Ground.phase }, { on := 12, ground := Ground.phase }], guard := none }) (v := ?tkv5015) rfl (by kernel_rfl) (by kernel_rfl) (by kernel_rfl) (fun _ _ _ h => h) (Or.inl ⟨by rfl, ?tky5015⟩) hH5013 ?tkr5015
                case tky5015 => (intro w' hSw; clear hSw; go_simp; try with_reducible rfl)
                try simp only [Act.put, List.setIfInBounds_toArray, List.set_cons_zero, List.set_cons_succ]
                refine wpAnyH_ready (rs := [15]) (by kernel_rfl) (by simp) ?_
                refine AllReadyH.cons (o := { dst := none, op := Op.store 44 (Operand.tmp 105) (Operand.tmp 103), type := 0, pos := "ref.go:237", after := #[{ on := 14, ground := Ground.data }, { on := 12, ground := Ground.data }, { on := 12, ground := Ground.chain }, { on := 0, ground := Ground.phase }, { on := 1, ground := Ground.phase }, { on := 2, ground := Ground.phase }, { on := 3, ground := Ground.phase }, { on := 4, ground := Ground.phase }, { on := 5, ground := Ground.phase }, { on := 6, ground := Ground.phase }, { on := 7, ground := Ground.phase }, { on := 8, ground := Ground.phase }, { on := 9, ground := Ground.phase }, { on := 10, ground := Ground.phase }, { on := 11, ground := Ground.phase }, { on := 12, ground := Ground.phase }], guard := none }) rfl (fun K hK => ?_) AllReadyH.nil
                have q5016 := rwc6 HAPP.out.1
                have y5016 := q5016.2.2.2.1
                have z5016 := q5016.2.2.2.2.2.2.1
                go_simp
                clear q5016 y5016 z5016
                have hS5016 : Below w.heap.size w (w4.setCell ⟨w.heap.size, 3, none⟩ (.slice A4 (nv + 1) c4)) := ((hH5013).setCell (Nat.le_refl _) _)
                refine hK.out _ _ hS5016 (fun hH5016 => ?_)
                have hH5016 : Below w.heap.size w (w4.setCell ⟨w.heap.size, 3, none⟩ (.slice A4 (nv + 1) c4)) := hH5016
                clear hK K hS5016
                refine wpAnyH_done (by kernel_rfl) ?_ _
                refine NoPanic.normal ?_
                have HB18 := Lib.hid (hH5016)
                have HWH := Lib.hid HAPP.out.2
                clear HAPP hown4 hg4 hat4
                obtain ⟨W5, hW5⟩ : ∃ W5, w4.setCell ⟨w.heap.size, 3, none⟩ (.slice A4 (nv + 1) c4) = W5 := ⟨_, rfl⟩
                rw [hW5] at HWH HB18 ⊢
                clear hW5
                obtain ⟨A5, n5, c5, es5, hg5, -⟩ := id HWH.out
                obtain ⟨-, -, -, -, u4, -, -, f4, -⟩ := rwc6 hg5
                have HB19 := Lib.hid (HB18.out.setCell (p := ⟨w.heap.size, 4, none⟩) (Nat.le_refl _) (.int .i64 (6 + (s : Int))))
                have HST2 : Hid (RWhAt (fun b => w.heap.size ≤ b) w.heap.size gm gB ⟨gen, size, (rstW f gen size (k + 1)).1, (rstW f gen size (k + 1)).2.2, 0⟩ (W5.setCell ⟨w.heap.size, 4, none⟩ (.int .i64 (6 + (s : Int))))) := Lib.hid (by
                  rw [HYS.out]
                  exact HWH.out.ready (s : Int) (6 + (s : Int)) (by rw [if_neg (by omega)]; omega))
                have HCB2 : Hid (true = (rstW f gen size (k + 1)).2.1) := Lib.hid (by rw [HYS.out])
                have HLN2 : Hid ((rstW f gen size (k + 1)).1.length ≤ k + 1) := Lib.hid (by
                  rw [HYS.out]
                  show ((rstW f gen size k).1 ++ _).length ≤ _
                  rw [List.length_append]
                  exact Nat.succ_le_succ HLN.out)
                clear hg5
                go_wp2_with fail
                go_roundw
                case rel => exact ⟨k + 1, true, by omega, rfl, by go_num, HCB2, HST2, HB19, HLN2⟩
                case measure => simp [intOf]; omega
              · go_simp
                refine (r1num_any 4 _ _ _ (f.sub (a + 4) 4) wd5000 HX48d.out (by omega)).mono ?_
                rw [HID.out]
                rintro e' wz5017 ⟨rfl, rfl⟩
                go_simp
                have hS5017 : Below w.heap.size w wd5000 := hH0
                refine hK.out _ _ hS5017 (fun hH5017 => ?_)
                have hH5017 : Below w.heap.size w wd5000 := hH5017
                clear hK K hS5017
                try simp only [Act.put, List.setIfInBounds_toArray, List.set_cons_zero, List.set_cons_succ]
                refine wpAnyH_take (i := 10) (oi := { dst := some 101, op := Op.build 77 #[(0, Operand.tmp 98), (1, Operand.tmp 100)], type := 77, pos := "ref.go:237", after := #[{ on := 7, ground := Ground.data }, { on := 9, ground := Ground.data }], guard := none }) (v := ?tkv5018) rfl (by kernel_rfl) (by kernel_rfl) (by kernel_rfl) (fun _ _ _ h => h) (Or.inl ⟨by rfl, ?tky5018⟩) hH5017 ?tkr5018
                case tky5018 => (intro w' hSw; clear hSw; go_simp; try with_reducible rfl)
                try simp only [Act.put, List.setIfInBounds_toArray, List.set_cons_zero, List.set_cons_succ]
                refine wpAnyH_ready (rs := [4, 11]) (by kernel_rfl) (by simp) ?_
                refine AllReadyH.cons (o := { dst := some 95, op := Op.load 44 (Operand.tmp 94), type := 44, pos := "ref.go:237", after := #[{ on := 3, ground := Ground.data }], guard := none }) rfl (fun K hK => ?_) (AllReadyH.cons (o := { dst := some 102, op := Op.buildSlice 44 1 #[(0, Operand.tmp 101)], type := 44, pos := "ref.go:237", after := #[{ on := 10, ground := Ground.data }], guard := none }) rfl (fun K hK => ?_) AllReadyH.nil)
                · have hc5019 := (rwc6 HGWd.out).2.2.2.1
                  go_simp
                  clear hc5019
                  have hS5019 : Below w.heap.size w wd5000 := hH5017
                  refine hK.out _ _ hS5019 (fun hH5019 => ?_)
                  have hH5019 : Below w.heap.size w wd5000 := hH5019
                  clear hK K hS5019
                  try simp only [Act.put, List.setIfInBounds_toArray, List.set_cons_zero, List.set_cons_succ]
                  refine wpAnyH_ready (rs := [11]) (by kernel_rfl) (by simp) ?_
                  refine AllReadyH.cons (o := { dst := some 102, op := Op.buildSlice 44 1 #[(0, Operand.tmp 101)], type := 44, pos := "ref.go:237", after := #[{ on := 10, ground := Ground.data }], guard := none }) rfl (fun K hK => ?_) AllReadyH.nil
                  go_simp
                  have hb5020 : Below wd5000.heap.size wd5000 (wd5000.alloc (.cells #[.int .u32 (idn : Int), .slice (some ⟨gx, 8, none⟩) size (cx - 8)] 77)) := (Below.refl _ _).alloc (Nat.le_refl _) _
                  have AX5020 : Hid ((wd5000.alloc (.cells #[.int .u32 (idn : Int), .slice (some ⟨gx, 8, none⟩) size (cx - 8)] 77)).heap[wd5000.heap.size]? = some (.cells #[.int .u32 (idn : Int), .slice (some ⟨gx, 8, none⟩) size (cx - 8)] 77 (0, 0))) := Lib.hid (heap_alloc_new _ _)
                  have AL5020 : Hid (wd5000.heap.size < (wd5000.alloc (.cells #[.int .u32 (idn : Int), .slice (some ⟨gx, 8, none⟩) size (cx - 8)] 77)).heap.size) := Lib.hid (by simp)
                  generalize (wd5000.alloc (.cells #[.int .u32 (idn : Int), .slice (some ⟨gx, 8, none⟩) size (cx - 8)] 77)) = wn5020 at *
                  have HGWd_5020 := Lib.hid ((hb5020.block w.heap.size LGWd.out).trans HGWd.out)
                  have LGWd_5020 := Lib.hid (Nat.lt_of_lt_of_le LGWd.out hb5020.size)
                  have HGXBd_5020 := Lib.hid ((hb5020.block gx LGXd.out).trans HGXBd.out)
                  have LGXd_5020 := Lib.hid (Nat.lt_of_lt_of_le LGXd.out hb5020.size)
                  have HX48d_5020 := Lib.hid (HX48d.out.below hb5020)
                  have HX8d_5020 := Lib.hid (HX8d.out.below hb5020)
                  have HRW0d_5020 := Lib.hid (HRW0d.out.below hb5020)
                  have hS5020 : Below w.heap.size w wn5020 := ((hH5019).trans (hb5020.mono (hH5019).size))
                  refine hK.out _ _ hS5020 (fun hH5020 => ?_)
                  have hH5020 : Below w.heap.size w wn5020 := hH5020
                  clear hK K hS5020
                  try simp only [Act.put, List.setIfInBounds_toArray, List.set_cons_zero, List.set_cons_succ]
                  refine wpAnyH_ready (rs := [12]) (by kernel_rfl) (by simp) ?_
                  refine AllReadyH.cons (o := { dst := some 103, op := Op.call { callee := Callee.builtin Builtin.append, args := #[Operand.tmp 95, Operand.tmp 102], argTypes := #[44, 44] }, type := 44, pos := "ref.go:237", after := #[{ on := 4, ground := Ground.data }, { on := 11, ground := Ground.data }, { on := 7, ground := Ground.chain }], guard := none }) rfl (fun K hK => ?_) AllReadyH.nil
                  rw [if_pos (by rfl)]
                  refine wp_app2 (.tmp 95) (.tmp 102) 44 rfl 0 77 i0 _ 32 Try.underlying44 hi hz0 hz1 hz2 rfl _ nv _ rfl HRW0d_5020.out.1 _ 1 _ _ 77 rfl AX5020.out rfl rfl (by have := HNV.out; unfold maxLen; omega) (by have := HNV.out; omega) (Nat.zero_le _) ?_
                  intro v4 w4 hown4 hg4 hat4
                  obtain ⟨A4, c4, rfl⟩ := own2_form hown4
                  have HAPP := Lib.hid (RWhAt.app (P := (fun b => w.heap.size ≤ b)) (P' := (fun b => w.heap.size ≤ b)) (r := ⟨idn, some ⟨gx, 8, none⟩, size, cx - 8, f.sub (a + 8) size⟩) HGWd_5020.out (Nat.le_refl _) HGM.out HGB.out HRW0d_5020.out HES.out ⟨gx, 8, rfl, HGX.out, LGXd_5020.out, HOX.out, HX8d_5020.out⟩ hown4 hg4 hat4 (fun _ h => h) (fun _ => (hH5020).size))
                  have hS5021 : Below w.heap.size w w4 := (below_grow2 (hH5020) (hH5020).size hg4 (fun g hg => (HOWN.out g hg).1))
                  refine hK.out _ _ hS5021 (fun hH5021 => ?_)
                  have hH5021 : Below w.heap.size w w4 := hH5021
                  clear hK K hS5021
                  try simp only [Act.put, List.setIfInBounds_toArray, List.set_cons_zero, List.set_cons_succ]
                  refine wpAnyH_take (i := 13) (oi := { dst := some 104, op := Op.nilCheck (Operand.tmp 91), type := 0, pos := "ref.go:237", after := #[{ on := 0, ground := Ground.data }, { on := 0, ground := Ground.phase }, { on := 1, ground := Ground.phase }, { on := 2, ground := Ground.phase }, { on := 3, ground := Ground.phase }, { on := 4, ground := Ground.phase }, { on := 5, ground := Ground.phase }, { on := 6, ground := Ground.phase }, { on := 7, ground := Ground.phase }, { on := 8, ground := Ground.phase }, { on := 9, ground := Ground.phase }, { on := 10, ground := Ground.phase }, { on := 11, ground := Ground.phase }, { on := 12, ground := Ground.phase }], guard := none }) (v := ?tkv5022) rfl (by kernel_rfl) (by kernel_rfl) (by kernel_rfl) (fun _ _ _ h => h) (Or.inl ⟨by rfl, ?tky5022⟩) hH5021 ?tkr5022
                  case tky5022 => (intro w' hSw; clear hSw; go_simp; try with_reducible rfl)
                  try simp only [Act.put, List.setIfInBounds_toArray, List.set_cons_zero, List.set_cons_succ]
                  refine wpAnyH_take (i := 14) (oi := { dst := some 105, op := Op.fieldAddr 47 (Operand.tmp 104) 3, type := 0, pos := "ref.go:237", after := #[{ on := 13, ground := Ground.data }, { on := 0, ground := Ground.phase }, { on := 1, ground := Ground.phase }, { on := 2, ground := Ground.phase }, { on := 3, ground := Ground.phase }, { on := 4, ground := Ground.phase }, { on := 5, ground := Ground.phase }, { on := 6, ground := Ground.phase }, { on := 7, ground := Ground.phase }, { on := 8, ground := Ground.phase }, { on := 9, ground := Ground.phase }, { on := 10, ground := Ground.phase }, { on := 11, ground := Ground.phase }, { on := 12, ground := Ground.phase }], guard := none }) (v := ?tkv5023) rfl (by kernel_rfl) (by kernel_rfl) (by kernel_rfl) (fun _ _ _ h => h) (Or.inl ⟨by rfl, ?tky5023⟩) hH5021 ?tkr5023
                  case tky5023 => (intro w' hSw; clear hSw; go_simp; try with_reducible rfl)
                  try simp only [Act.put, List.setIfInBounds_toArray, List.set_cons_zero, List.set_cons_succ]
                  refine wpAnyH_ready (rs := [15]) (by kernel_rfl) (by simp) ?_
                  refine AllReadyH.cons (o := { dst := none, op := Op.store 44 (Operand.tmp 105) (Operand.tmp 103), type := 0, pos := "ref.go:237", after := #[{ on := 14, ground := Ground.data }, { on := 12, ground := Ground.data }, { on := 12, ground := Ground.chain }, { on := 0, ground := Ground.phase }, { on := 1, ground := Ground.phase }, { on := 2, ground := Ground.phase }, { on := 3, ground := Ground.phase }, { on := 4, ground := Ground.phase }, { on := 5, ground := Ground.phase }, { on := 6, ground := Ground.phase }, { on := 7, ground := Ground.phase }, { on := 8, ground := Ground.phase }, { on := 9, ground := Ground.phase }, { on := 10, ground := Ground.phase }, { on := 11, ground := Ground.phase }, { on := 12, ground := Ground.phase }], guard := none }) rfl (fun K hK => ?_) AllReadyH.nil
                  have q5024 := rwc6 HAPP.out.1
                  have y5024 := q5024.2.2.2.1
                  have z5024 := q5024.2.2.2.2.2.2.1
                  go_simp
                  clear q5024 y5024 z5024
                  have hS5024 : Below w.heap.size w (w4.setCell ⟨w.heap.size, 3, none⟩ (.slice A4 (nv + 1) c4)) := ((hH5021).setCell (Nat.le_refl _) _)
                  refine hK.out _ _ hS5024 (fun hH5024 => ?_)
                  have hH5024 : Below w.heap.size w (w4.setCell ⟨w.heap.size, 3, none⟩ (.slice A4 (nv + 1) c4)) := hH5024
                  clear hK K hS5024
                  refine wpAnyH_done (by kernel_rfl) ?_ _
                  refine NoPanic.normal ?_
                  have HB18 := Lib.hid (hH5024)
                  have HWH := Lib.hid HAPP.out.2
                  clear HAPP hown4 hg4 hat4
                  obtain ⟨W5, hW5⟩ : ∃ W5, w4.setCell ⟨w.heap.size, 3, none⟩ (.slice A4 (nv + 1) c4) = W5 := ⟨_, rfl⟩
                  rw [hW5] at HWH HB18 ⊢
                  clear hW5
                  obtain ⟨A5, n5, c5, es5, hg5, -⟩ := id HWH.out
                  obtain ⟨-, -, -, -, u4, -, -, f4, -⟩ := rwc6 hg5
                  have HB19 := Lib.hid (HB18.out.setCell (p := ⟨w.heap.size, 4, none⟩) (Nat.le_refl _) (.int .i64 (6 + (s : Int))))
                  have HST2 : Hid (RWhAt (fun b => w.heap.size ≤ b) w.heap.size gm gB ⟨gen, size, (rstW f gen size (k + 1)).1, (rstW f gen size (k + 1)).2.2, 0⟩ (W5.setCell ⟨w.heap.size, 4, none⟩ (.int .i64 (6 + (s : Int))))) := Lib.hid (by
                    rw [HYS.out]
                    exact HWH.out.ready (s : Int) (6 + (s : Int)) (by rw [if_neg (by omega)]; omega))
                  have HCB2 : Hid (true = (rstW f gen size (k + 1)).2.1) := Lib.hid (by rw [HYS.out])
                  have HLN2 : Hid ((rstW f gen size (k + 1)).1.length ≤ k + 1) := Lib.hid (by
                    rw [HYS.out]
                    show ((rstW f gen size k).1 ++ _).length ≤ _
                    rw [List.length_append]
                    exact Nat.succ_le_succ HLN.out)
                  clear hg5
                  go_wp2_with fail
                  go_roundw
                  case rel => exact ⟨k + 1, true, by omega, rfl, by go_num, HCB2, HST2, HB19, HLN2⟩
                  case measure => simp [intOf]; omega
                · go_simp
                  have hb5025 : Below wd5000.heap.size wd5000 (wd5000.alloc (.cells #[.int .u32 (idn : Int), .slice (some ⟨gx, 8, none⟩) size (cx - 8)] 77)) := (Below.refl _ _).alloc (Nat.le_refl _) _
                  have AX5025 : Hid ((wd5000.alloc (.cells #[.int .u32 (idn : Int), .slice (some ⟨gx, 8, none⟩) size (cx - 8)] 77)).heap[wd5000.heap.size]? = some (.cells #[.int .u32 (idn : Int), .slice (some ⟨gx, 8, none⟩) size (cx - 8)] 77 (0, 0))) := Lib.hid (heap_alloc_new _ _)
                  have AL5025 : Hid (wd5000.heap.size < (wd5000.alloc (.cells #[.int .u32 (idn : Int), .slice (some ⟨gx, 8, none⟩) size (cx - 8)] 77)).heap.size) := Lib.hid (by simp)
                  generalize (wd5000.alloc (.cells #[.int .u32 (idn : Int), .slice (some ⟨gx, 8, none⟩) size (cx - 8)] 77)) = wn5025 at *
                  have HGWd_5025 := Lib.hid ((hb5025.block w.heap.size LGWd.out).trans HGWd.out)
                  have LGWd_5025 := Lib.hid (Nat.lt_of_lt_of_le LGWd.out hb5025.size)
                  have HGXBd_5025 := Lib.hid ((hb5025.block gx LGXd.out).trans HGXBd.out)
                  have LGXd_5025 := Lib.hid (Nat.lt_of_lt_of_le LGXd.out hb5025.size)
                  have HX48d_5025 := Lib.hid (HX48d.out.below hb5025)
                  have HX8d_5025 := Lib.hid (HX8d.out.below hb5025)
                  have HRW0d_5025 := Lib.hid (HRW0d.out.below hb5025)
                  have hS5025 : Below w.heap.size w wn5025 := ((hH5017).trans (hb5025.mono (hH5017).size))
                  refine hK.out _ _ hS5025 (fun hH5025 => ?_)
                  have hH5025 : Below w.heap.size w wn5025 := hH5025
                  clear hK K hS5025
                  try simp only [Act.put, List.setIfInBounds_toArray, List.set_cons_zero, List.set_cons_succ]
                  refine wpAnyH_ready (rs := [4]) (by kernel_rfl) (by simp) ?_
                  refine AllReadyH.cons (o := { dst := some 95, op := Op.load 44 (Operand.tmp 94), type := 44, pos := "ref.go:237", after := #[{ on := 3, ground := Ground.data }], guard := none }) rfl (fun K hK => ?_) AllReadyH.nil
                  have hc5026 := (rwc6 HGWd_5025.out).2.2.2.1
                  go_simp
                  clear hc5026
                  have hS5026 : Below w.heap.size w wn5025 := hH5025
                  refine hK.out _ _ hS5026 (fun hH5026 => ?_)
                  have hH5026 : Below w.heap.size w wn5025 := hH5026
                  clear hK K hS5026
                  try simp only [Act.put, List.setIfInBounds_toArray, List.set_cons_zero, List.set_cons_succ]
                  refine wpAnyH_ready (rs := [12]) (by kernel_rfl) (by simp) ?_
                  refine AllReadyH.cons (o := { dst := some 103, op := Op.call { callee := Callee.builtin Builtin.append, args := #[Operand.tmp 95, Operand.tmp 102], argTypes := #[44, 44] }, type := 44, pos := "ref.go:237", after := #[{ on := 4, ground := Ground.data }, { on := 11, ground := Ground.data }, { on := 7, ground := Ground.chain }], guard := none }) rfl (fun K hK => ?_) AllReadyH.nil
                  rw [if_pos (by rfl)]
                  refine wp_app2 (.tmp 95) (.tmp 102) 44 rfl 0 77 i0 _ 32 Try.underlying44 hi hz0 hz1 hz2 rfl _ nv _ rfl HRW0d_5025.out.1 _ 1 _ _ 77 rfl AX5025.out rfl rfl (by have := HNV.out; unfold maxLen; omega) (by have := HNV.out; omega) (Nat.zero_le _) ?_
                  intro v4 w4 hown4 hg4 hat4
                  obtain ⟨A4, c4, rfl⟩ := own2_form hown4
                  have HAPP := Lib.hid (RWhAt.app (P := (fun b => w.heap.size ≤ b)) (P' := (fun b => w.heap.size ≤ b)) (r := ⟨idn, some ⟨gx, 8, none⟩, size, cx - 8, f.sub (a + 8) size⟩) HGWd_5025.out (Nat.le_refl _) HGM.out HGB.out HRW0d_5025.out HES.out ⟨gx, 8, rfl, HGX.out, LGXd_5025.out, HOX.out, HX8d_5025.out⟩ hown4 hg4 hat4 (fun _ h => h) (fun _ => (hH5026).size))
                  have hS5027 : Below w.heap.size w w4 := (below_grow2 (hH5026) (hH5026).size hg4 (fun g hg => (HOWN.out g hg).1))
                  refine hK.out _ _ hS5027 (fun hH5027 => ?_)
                  have hH5027 : Below w.heap.size w w4 := hH5027
                  clear hK K hS5027
                  try simp only [Act.put, List.setIfInBounds_toArray, List.set_cons_zero, List.set_cons_succ]
                  refine wpAnyH_take (i := 13) (oi := { dst := some 104, op := Op.nilCheck (Operand.tmp 91), type := 0, pos := "ref.go:237", after := #[{ on := 0, ground := Ground.data }, { on := 0, ground := Ground.phase }, { on := 1, ground := Ground.phase }, { on := 2, ground := Ground.phase }, { on := 3, ground := Ground.phase }, { on := 4, ground := Ground.phase }, { on := 5, ground := Ground.phase }, { on := 6, ground := Ground.phase }, { on := 7, ground := Ground.phase }, { on := 8, ground := Ground.phase }, { on := 9, ground := Ground.phase }, { on := 10, ground := Ground.phase }, { on := 11, ground := Ground.phase }, { on := 12, ground := Ground.phase }], guard := none }) (v := ?tkv5028) rfl (by kernel_rfl) (by kernel_rfl) (by kernel_rfl) (fun _ _ _ h => h) (Or.inl ⟨by rfl, ?tky5028⟩) hH5027 ?tkr5028
                  case tky5028 => (intro w' hSw; clear hSw; go_simp; try with_reducible rfl)
                  try simp only [Act.put, List.setIfInBounds_toArray, List.set_cons_zero, List.set_cons_succ]
                  refine wpAnyH_take (i := 14) (oi := { dst := some 105, op := Op.fieldAddr 47 (Operand.tmp 104) 3, type := 0, pos := "ref.go:237", after := #[{ on := 13, ground := Ground.data }, { on := 0, ground := Ground.phase }, { on := 1, ground := Ground.phase }, { on := 2, ground := Ground.phase }, { on := 3, ground := Ground.phase }, { on := 4, ground := Ground.phase }, { on := 5, ground := Ground.phase }, { on := 6, ground := Ground.phase }, { on := 7, ground := Ground.phase }, { on := 8, ground := Ground.phase }, { on := 9, ground := Ground.phase }, { on := 10, ground := Ground.phase }, { on := 11, ground := Ground.phase }, { on := 12, ground := Ground.phase }], guard := none }) (v := ?tkv5029) rfl (by kernel_rfl) (by kernel_rfl) (by kernel_rfl) (fun _ _ _ h => h) (Or.inl ⟨by rfl, ?tky5029⟩) hH5027 ?tkr5029
                  case tky5029 => (intro w' hSw; clear hSw; go_simp; try with_reducible rfl)
                  try simp only [Act.put, List.setIfInBounds_toArray, List.set_cons_zero, List.set_cons_succ]
                  refine wpAnyH_ready (rs := [15]) (by kernel_rfl) (by simp) ?_
                  refine AllReadyH.cons (o := { dst := none, op := Op.store 44 (Operand.tmp 105) (Operand.tmp 103), type := 0, pos := "ref.go:237", after := #[{ on := 14, ground := Ground.data }, { on := 12, ground := Ground.data }, { on := 12, ground := Ground.chain }, { on := 0, ground := Ground.phase }, { on := 1, ground := Ground.phase }, { on := 2, ground := Ground.phase }, { on := 3, ground := Ground.phase }, { on := 4, ground := Ground.phase }, { on := 5, ground := Ground.phase }, { on := 6, ground := Ground.phase }, { on := 7, ground := Ground.phase }, { on := 8, ground := Ground.phase }, { on := 9, ground := Ground.phase }, { on := 10, ground := Ground.phase }, { on := 11, ground := Ground.phase }, { on := 12, ground := Ground.phase }], guard := none }) rfl (fun K hK => ?_) AllReadyH.nil
                  have q5030 := rwc6 HAPP.out.1
                  have y5030 := q5030.2.2.2.1
                  have z5030 := q5030.2.2.2.2.2.2.1
                  go_simp
                  clear q5030 y5030 z5030
                  have hS5030 : Below w.heap.size w (w4.setCell ⟨w.heap.size, 3, none⟩ (.slice A4 (nv + 1) c4)) := ((hH5027).setCell (Nat.le_refl _) _)
                  refine hK.out _ _ hS5030 (fun hH5030 => ?_)
                  have hH5030 : Below w.heap.size w (w4.setCell ⟨w.heap.size, 3, none⟩ (.slice A4 (nv + 1) c4)) := hH5030
                  clear hK K hS5030
                  refine wpAnyH_done (by kernel_rfl) ?_ _
                  refine NoPanic.normal ?_
                  have HB18 := Lib.hid (hH5030)
                  have HWH := Lib.hid HAPP.out.2
                  clear HAPP hown4 hg4 hat4
                  obtain ⟨W5, hW5⟩ : ∃ W5, w4.setCell ⟨w.heap.size, 3, none⟩ (.slice A4 (nv + 1) c4) = W5 := ⟨_, rfl⟩
                  rw [hW5] at HWH HB18 ⊢
                  clear hW5
                  obtain ⟨A5, n5, c5, es5, hg5, -⟩ := id HWH.out
                  obtain ⟨-, -, -, -, u4, -, -, f4, -⟩ := rwc6 hg5
                  have HB19 := Lib.hid (HB18.out.setCell (p := ⟨w.heap.size, 4, none⟩) (Nat.le_refl _) (.int .i64 (6 + (s : Int))))
                  have HST2 : Hid (RWhAt (fun b => w.heap.size ≤ b) w.heap.size gm gB ⟨gen, size, (rstW f gen size (k + 1)).1, (rstW f gen size (k + 1)).2.2, 0⟩ (W5.setCell ⟨w.heap.size, 4, none⟩ (.int .i64 (6 + (s : Int))))) := Lib.hid (by
                    rw [HYS.out]
                    exact HWH.out.ready (s : Int) (6 + (s : Int)) (by rw [if_neg (by omega)]; omega))
                  have HCB2 : Hid (true = (rstW f gen size (k + 1)).2.1) := Lib.hid (by rw [HYS.out])
                  have HLN2 : Hid ((rstW f gen size (k + 1)).1.length ≤ k + 1) := Lib.hid (by
                    rw [HYS.out]
                    show ((rstW f gen size k).1 ++ _).length ≤ _
                    rw [List.length_append]
                    exact Nat.succ_le_succ HLN.out)
                  clear hg5
                  go_wp2_with fail
                  go_roundw
                  case rel => exact ⟨k + 1, true, by omega, rfl, by go_num, HCB2, HST2, HB19, HLN2⟩
                  case measure => simp [intOf]; omega
            · have hji : (k : Int) % (pr : Int) = (j : Int) := HJI.out
              have hjb : ((j : Int) == 0) = false := by rw [beq_eq_false_iff_ne]; omega
              have hjn : ¬ (j : Int) = 0 := by omega
              cases cb with
              | true =>
                have HYC : Hid (k % (256 / (size + 13)) = 0 ∨ (rstW f gen size k).2.1 = true) := Lib.hid (.inr HCB.out.symm)
                have HYS : Hid (rstW f gen size (k + 1) = ((rstW f gen size k).1 ++ [(idn, f.sub (a + 8) size)], true, (s : Int))) := Lib.hid (by rw [rstW_yes HPB.out HYC.out, HPL.out, HPX.out, HS.out])
                obtain ⟨Av, nv, cv, es, hgw, _, _, _, hrw, hes⟩ := id HWX.out
                have HGW := Lib.hid hgw
                have HRW0 := Lib.hid hrw
                have HES := Lib.hid hes
                have LGW := Lib.hid (Array.getElem?_eq_some_iff.1 hgw).1
                have HNV : Hid (nv ≤ 200) := Lib.hid (by
                  have e1 := hrw.2.2.1
                  have e2 : es.length = (rstW f gen size k).1.length := by
                    have e4 := congrArg List.length hes
                    rw [List.length_map] at e4
                    exact e4
                  have := HLN.out
                  omega)
                have HOWN := Lib.hid hrw.2.1
                have HOX : Hid ((Value.slice Av nv cv).ownBlock ≠ some gx) := Lib.hid (by
                  obtain ⟨Aq, nq, cq, eq, hgq, _, _, _, hrq, _⟩ := id HWQ.out
                  have e := hgw.symm.trans ((HBQX.out.block _ (Array.getElem?_eq_some_iff.1 hgq).1).trans hgq)
                  have e3 : (Value.slice Av nv cv) = .slice Aq nq cq := by
                    injection e with e
                    injection e with e
                    have e4 := congrArg (fun x : Array Value => x[3]?) e
                    exact Option.some.inj e4
                  rw [e3]
                  intro h9
                  have := (hrq.1.lt gx h9).2
                  have := HGXQ.out
                  omega)
                clear hgw hrw hes HYC
                go_upto_region 18 with fail
                refine wp_region_noPanic ?_
                refine wp_region_held_drew (S := (fun W => Below w.heap.size w W)) (by kernel_rfl) HBX.out.drew (fun hH0 => ?_)
                have hH0 : Below w.heap.size w wx.drew := hH0
                have HGWd := Lib.hid (show wx.drew.heap[w.heap.size]? = _ from HGW.out)
                have LGWd := Lib.hid (show w.heap.size < wx.drew.heap.size from LGW.out)
                have HGXBd := Lib.hid (show wx.drew.heap[gx]? = _ from HGXB.out)
                have LGXd := Lib.hid (show gx < wx.drew.heap.size from LGX.out)
                have HX48d := Lib.hid (HX48.out.below ((Below.refl wx.heap.size wx).drew))
                have HX8d := Lib.hid (HX8.out.below ((Below.refl wx.heap.size wx).drew))
                have HRW0d := Lib.hid (HRW0.out.below ((Below.refl wx.heap.size wx).drew))
                generalize wx.drew = wd6000 at *
                refine wpAnyH_take (i := 0) (oi := { dst := some 91, op := Op.move (Operand.tmp 8), type := 34, pos := "ref.go:237", after := #[], guard := none }) (v := ?tkv6001) rfl (by kernel_rfl) (by kernel_rfl) (by kernel_rfl) (fun _ _ _ h => h) (Or.inl ⟨by rfl, ?tky6001⟩) hH0 ?tkr6001
                case tky6001 => (intro w' hSw; clear hSw; go_simp; try with_reducible rfl)
                try simp only [Act.put, List.setIfInBounds_toArray, List.set_cons_zero, List.set_cons_succ]
                refine wpAnyH_take (i := 1) (oi := { dst := some 92, op := Op.move (Operand.tmp 8), type := 34, pos := "ref.go:237", after := #[], guard := none }) (v := ?tkv6002) rfl (by kernel_rfl) (by kernel_rfl) (by kernel_rfl) (fun _ _ _ h => h) (Or.inl ⟨by rfl, ?tky6002⟩) hH0 ?tkr6002
                case tky6002 => (intro w' hSw; clear hSw; go_simp; try with_reducible rfl)
                try simp only [Act.put, List.setIfInBounds_toArray, List.set_cons_zero, List.set_cons_succ]
                refine wpAnyH_take (i := 2) (oi := { dst := some 93, op := Op.nilCheck (Operand.tmp 92), type := 0, pos := "ref.go:237", after := #[{ on := 1, ground := Ground.data }], guard := none }) (v := ?tkv6003) rfl (by kernel_rfl) (by kernel_rfl) (by kernel_rfl) (fun _ _ _ h => h) (Or.inl ⟨by rfl, ?tky6003⟩) hH0 ?tkr6003
                case tky6003 => (intro w' hSw; clear hSw; go_simp; try with_reducible rfl)
                try simp only [Act.put, List.setIfInBounds_toArray, List.set_cons_zero, List.set_cons_succ]
                refine wpAnyH_take (i := 3) (oi := { dst := some 94, op := Op.fieldAddr 47 (Operand.tmp 93) 3, type := 0, pos := "ref.go:237", after := #[{ on := 2, ground := Ground.data }], guard := none }) (v := ?tkv6004) rfl (by kernel_rfl) (by kernel_rfl) (by kernel_rfl) (fun _ _ _ h => h) (Or.inl ⟨by rfl, ?tky6004⟩) hH0 ?tkr6004
                case tky6004 => (intro w' hSw; clear hSw; go_simp; try with_reducible rfl)
                try simp only [Act.put, List.setIfInBounds_toArray, List.set_cons_zero, List.set_cons_succ]
                refine wpAnyH_take (i := 5) (oi := { dst := some 96, op := Op.move (Operand.tmp 15), type := 37, pos := "ref.go:237", after := #[], guard := none }) (v := ?tkv6005) rfl (by kernel_rfl) (by kernel_rfl) (by kernel_rfl) (fun _ _ _ h => h) (Or.inl ⟨by rfl, ?tky6005⟩) hH0 ?tkr6005
                case tky6005 => (intro w' hSw; clear hSw; go_simp; try with_reducible rfl)
                try simp only [Act.put, List.setIfInBounds_toArray, List.set_cons_zero, List.set_cons_succ]
                refine wpAnyH_take (i := 6) (oi := { dst := some 97, op := Op.slice 37 (Operand.tmp 96) (some (Operand.const (Value.int IntKind.i64 4))) (some (Operand.const (Value.int IntKind.i64 8))) none, type := 37, pos := "ref.go:237", after := #[{ on := 5, ground := Ground.data }], guard := none }) (v := ?tkv6006) rfl (by kernel_rfl) (by kernel_rfl) (by kernel_rfl) (fun _ _ _ h => h) (Or.inl ⟨by rfl, ?tky6006⟩) hH0 ?tkr6006
                case tky6006 => (intro w' hSw; clear hSw; go_simp; try with_reducible rfl)
                try simp only [Act.put, List.setIfInBounds_toArray, List.set_cons_zero, List.set_cons_succ]
                refine wpAnyH_take (i := 8) (oi := { dst := some 99, op := Op.move (Operand.tmp 15), type := 37, pos := "ref.go:237", after := #[], guard := none }) (v := ?tkv6007) rfl (by kernel_rfl) (by kernel_rfl) (by kernel_rfl) (fun _ _ _ h => h) (Or.inl ⟨by rfl, ?tky6007⟩) hH0 ?tkr6007
                case tky6007 => (intro w' hSw; clear hSw; go_simp; try with_reducible rfl)
                try simp only [Act.put, List.setIfInBounds_toArray, List.set_cons_zero, List.set_cons_succ]
                refine wpAnyH_take (i := 9) (oi := { dst := some 100, op := Op.slice 37 (Operand.tmp 99) (some (Operand.const (Value.int IntKind.i64 8))) none none, type := 37, pos := "ref.go:237", after := #[{ on := 8, ground := Ground.data }], guard := none }) (v := ?tkv6008) rfl (by kernel_rfl) (by kernel_rfl) (by kernel_rfl) (fun _ _ _ h => h) (Or.inl ⟨by rfl, ?tky6008⟩) hH0 ?tkr6008
                case tky6008 => (intro w' hSw; clear hSw; go_simp; try with_reducible rfl)
                try simp only [Act.put, List.setIfInBounds_toArray, List.set_cons_zero, List.set_cons_succ]
                refine wpAnyH_ready (rs := [4, 7]) (by kernel_rfl) (by simp) ?_
                refine AllReadyH.cons (o := { dst := some 95, op := Op.load 44 (Operand.tmp 94), type := 44, pos := "ref.go:237", after := #[{ on := 3, ground := Ground.data }], guard := none }) rfl (fun K hK => ?_) (AllReadyH.cons (o := { dst := some 98, op := Op.call { callee := Callee.value (Operand.func 28), args := #[Operand.tmp 97], argTypes := #[37] }, type := 22, pos := "ref.go:237", after := #[{ on := 6, ground := Ground.data }], guard := none }) rfl (fun K hK => ?_) AllReadyH.nil)
                · have hc6009 := (rwc6 HGWd.out).2.2.2.1
                  go_simp
                  clear hc6009
                  have hS6009 : Below w.heap.size w wd6000 := hH0
                  refine hK.out _ _ hS6009 (fun hH6009 => ?_)
                  have hH6009 : Below w.heap.size w wd6000 := hH6009
                  clear hK K hS6009
                  try simp only [Act.put, List.setIfInBounds_toArray, List.set_cons_zero, List.set_cons_succ]
                  refine wpAnyH_ready (rs := [7]) (by kernel_rfl) (by simp) ?_
                  refine AllReadyH.cons (o := { dst := some 98, op := Op.call { callee := Callee.value (Operand.func 28), args := #[Operand.tmp 97], argTypes := #[37] }, type := 22, pos := "ref.go:237", after := #[{ on := 6, ground := Ground.data }], guard := none }) rfl (fun K hK => ?_) AllReadyH.nil
                  go_simp
                  refine (r1num_any 4 _ _ _ (f.sub (a + 4) 4) wd6000 HX48d.out (by omega)).mono ?_
                  rw [HID.out]
                  rintro e' wz6010 ⟨rfl, rfl⟩
                  go_simp
                  have hS6010 : Below w.heap.size w wd6000 := hH6009
                  refine hK.out _ _ hS6010 (fun hH6010 => ?_)
                  have hH6010 : Below w.heap.size w wd6000 := hH6010
                  clear hK K hS6010
                  try simp only [Act.put, List.setIfInBounds_toArray, List.set_cons_zero, List.set_cons_succ]
                  refine wpAnyH_take (i := 10) (oi := { dst := some 101, op := Op.build 77 #[(0, Operand.tmp 98), (1, Operand.tmp 100)], type := 77, pos := "ref.go:237", after := #[{ on := 7, ground := Ground.data }, { on := 9, ground := Ground.data }], guard := none }) (v := ?tkv6011) rfl (by kernel_rfl) (by kernel_rfl) (by kernel_rfl) (fun _ _ _ h => h) (Or.inl ⟨by rfl, ?tky6011⟩) hH6010 ?tkr6011
                  case tky6011 => (intro w' hSw; clear hSw; go_simp; try with_reducible rfl)
                  try simp only [Act.put, List.setIfInBounds_toArray, List.set_cons_zero, List.set_cons_succ]
                  refine wpAnyH_ready (rs := [11]) (by kernel_rfl) (by simp) ?_
                  refine AllReadyH.cons (o := { dst := some 102, op := Op.buildSlice 44 1 #[(0, Operand.tmp 101)], type := 44, pos := "ref.go:237", after := #[{ on := 10, ground := Ground.data }], guard := none }) rfl (fun K hK => ?_) AllReadyH.nil
                  go_simp
                  have hb6012 : Below wd6000.heap.size wd6000 (wd6000.alloc (.cells #[.int .u32 (idn : Int), .slice (some ⟨gx, 8, none⟩) size (cx - 8)] 77)) := (Below.refl _ _).alloc (Nat.le_refl _) _
                  have AX6012 : Hid ((wd6000.alloc (.cells #[.int .u32 (idn : Int), .slice (some ⟨gx, 8, none⟩) size (cx - 8)] 77)).heap[wd6000.heap.size]? = some (.cells #[.int .u32 (idn : Int), .slice (some ⟨gx, 8, none⟩) size (cx - 8)] 77 (0, 0))) := Lib.hid (heap_alloc_new _ _)
                  have AL6012 : Hid (wd6000.heap.size < (wd6000.alloc (.cells #[.int .u32 (idn : Int), .slice (some ⟨gx, 8, none⟩) size (cx - 8)] 77)).heap.size) := Lib.hid (by simp)
                  generalize (wd6000.alloc (.cells #[.int .u32 (idn : Int), .slice (some ⟨gx, 8, none⟩) size (cx - 8)] 77)) = wn6012 at *
                  have HGWd_6012 := Lib.hid ((hb6012.block w.heap.size LGWd.out).trans HGWd.out)
                  have LGWd_6012 := Lib.hid (Nat.lt_of_lt_of_le LGWd.out hb6012.size)
                  have HGXBd_6012 := Lib.hid ((hb6012.block gx LGXd.out).trans HGXBd.out)
                  have LGXd_6012 := Lib.hid (Nat.lt_of_lt_of_le LGXd.out hb6012.size)
                  have HX48d_6012 := Lib.hid (HX48d.out.below hb6012)
                  have HX8d_6012 := Lib.hid (HX8d.out.below hb6012)
                  have HRW0d_6012 := Lib.hid (HRW0d.out.below hb6012)
                  have hS6012 : Below w.heap.size w wn6012 := ((hH6010).trans (hb6012.mono (hH6010).size))
                  refine hK.out _ _ hS6012 (fun hH6012 => ?_)
                  have hH6012 : Below w.heap.size w wn6012 := hH6012
                  clear hK K hS6012
                  try simp only [Act.put, List.setIfInBounds_toArray, List.set_cons_zero, List.set_cons_succ]
                  refine wpAnyH_ready (rs := [12]) (by kernel_rfl) (by simp) ?_
                  refine AllReadyH.cons (o := { dst := some 103, op := Op.call { callee := Callee.builtin Builtin.append, args := #[Operand.tmp 95, Operand.tmp 102], argTypes := #[44, 44] }, type := 44, pos := "ref.go:237", after := #[{ on := 4, ground := Ground.data }, { on := 11, ground := Ground.data }, { on := 7, ground := Ground.chain }], guard := none }) rfl (fun K hK => ?_) AllReadyH.nil
                  rw [if_pos (by rfl)]
                  refine wp_app2 (.tmp 95) (.tmp 102) 44 rfl 0 77 i0 _ 32 Try.underlying44 hi hz0 hz1 hz2 rfl _ nv _ rfl HRW0d_6012.out.1 _ 1 _ _ 77 rfl AX6012.out rfl rfl (by have := HNV.out; unfold maxLen; omega) (by have := HNV.out; omega) (Nat.zero_le _) ?_
                  intro v4 w4 hown4 hg4 hat4
                  obtain ⟨A4, c4, rfl⟩ := own2_form hown4
                  have HAPP := Lib.hid (RWhAt.app (P := (fun b => w.heap.size ≤ b)) (P' := (fun b => w.heap.size ≤ b)) (r := ⟨idn, some ⟨gx, 8, none⟩, size, cx - 8, f.sub (a + 8) size⟩) HGWd_6012.out (Nat.le_refl _) HGM.out HGB.out HRW0d_6012.out HES.out ⟨gx, 8, rfl, HGX.out, LGXd_6012.out, HOX.out, HX8d_6012.out⟩ hown4 hg4 hat4 (fun _ h => h) (fun _ => (hH6012).size))
                  have hS6013 : Below w.heap.size w w4 := (below_grow2 (hH6012) (hH6012).size hg4 (fun g hg => (HOWN.out g hg).1))
                  refine hK.out _ _ hS6013 (fun hH6013 => ?_)
                  have hH6013 : Below w.heap.size w w4 := hH6013
                  clear hK K hS6013
                  try simp only [Act.put, List.setIfInBounds_toArray, List.set_cons_zero, List.set_cons_succ]
                  refine wpAnyH_take (i := 13) (oi := { dst := some 104, op := Op.nilCheck (Operand.tmp 91), type := 0, pos := "ref.go:237", after := #[{ on := 0, ground := Ground.data }, { on := 0, ground := Ground.phase }, { on := 1, ground := Ground.phase }, { on := 2, ground := Ground.phase }, { on := 3, ground := Ground.phase }, { on := 4, ground := Ground.phase }, { on := 5, ground := Ground.phase }, { on := 6, ground := Ground.phase }, { on := 7, ground := Ground.phase }, { on := 8, ground := Ground.phase }, { on := 9, ground := Ground.phase }, { on := 10, ground := Ground.phase }, { on := 11, ground := Ground.phase }, { on := 12, ground := Ground.phase }], guard := none }) (v := ?tkv6014) rfl (by kernel_rfl) (by kernel_rfl) (by kernel_rfl) (fun _ _ _ h => h) (Or.inl ⟨by rfl, ?tky6014⟩) hH6013 ?tkr6014
                  case tky6014 => (intro w' hSw; clear hSw; go_simp; try with_reducible rfl)
                  try simp only [Act.put, List.setIfInBounds_toArray, List.set_cons_zero, List.set_cons_succ]
                  refine wpAnyH_take (i := 14) (oi := { dst := some 105, op := Op.fieldAddr 47 (Operand.tmp 104) 3, type := 0, pos := "ref.go:237", after := #[{ on := 13, ground := Ground.data }, { on := 0, ground := Ground.phase }, { on := 1, ground := Ground.phase }, { on := 2, ground := Ground.phase }, { on := 3, ground := Ground.phase }, { on := 4, ground := Ground.phase }, { on := 5, ground := Ground.phase }, { on := 6, ground := Ground.phase }, { on := 7, ground := Ground.phase }, { on := 8, ground := Ground.phase }, { on := 9, ground := Ground.phase }, { on := 10, ground := Ground.phase }, { on := 11, ground := Ground.phase }, { on := 12, ground := Ground.phase }], guard := none }) (v := ?tkv6015) rfl (by kernel_rfl) (by kernel_rfl) (by kernel_rfl) (fun _ _ _ h => h) (Or.inl ⟨by rfl, ?tky6015⟩) hH6013 ?tkr6015
                  case tky6015 => (intro w' hSw; clear hSw; go_simp; try with_reducible rfl)
                  try simp only [Act.put, List.setIfInBounds_toArray, List.set_cons_zero, List.set_cons_succ]
                  refine wpAnyH_ready (rs := [15]) (by kernel_rfl) (by simp) ?_
                  refine AllReadyH.cons (o := { dst := none, op := Op.store 44 (Operand.tmp 105) (Operand.tmp 103), type := 0, pos := "ref.go:237", after := #[{ on := 14, ground := Ground.data }, { on := 12, ground := Ground.data }, { on := 12, ground := Ground.chain }, { on := 0, ground := Ground.phase }, { on := 1, ground := Ground.phase }, { on := 2, ground := Ground.phase }, { on := 3, ground := Ground.phase }, { on := 4, ground := Ground.phase }, { on := 5, ground := Ground.phase }, { on := 6, ground := Ground.phase }, { on := 7, ground := Ground.phase }, { on := 8, ground := Ground.phase }, { on := 9, ground := Ground.phase }, { on := 10, ground := Ground.phase }, { on := 11, ground := Ground.phase }, { on := 12, ground := Ground.phase }], guard := none }) rfl (fun K hK => ?_) AllReadyH.nil
                  have q6016 := rwc6 HAPP.out.1
                  have y6016 := q6016.2.2.2.1
                  have z6016 := q6016.2.2.2.2.2.2.1
                  go_simp
                  clear q6016 y6016 z6016
                  have hS6016 : Below w.heap.size w (w4.setCell ⟨w.heap.size, 3, none⟩ (.slice A4 (nv + 1) c4)) := ((hH6013).setCell (Nat.le_refl _) _)
                  refine hK.out _ _ hS6016 (fun hH6016 => ?_)
                  have hH6016 : Below w.heap.size w (w4.setCell ⟨w.heap.size, 3, none⟩ (.slice A4 (nv + 1) c4)) := hH6016
                  clear hK K hS6016
                  refine wpAnyH_done (by kernel_rfl) ?_ _
                  refine NoPanic.normal ?_
                  have HB18 := Lib.hid (hH6016)
                  have HWH := Lib.hid HAPP.out.2
                  clear HAPP hown4 hg4 hat4
                  obtain ⟨W5, hW5⟩ : ∃ W5, w4.setCell ⟨w.heap.size, 3, none⟩ (.slice A4 (nv + 1) c4) = W5 := ⟨_, rfl⟩
                  rw [hW5] at HWH HB18 ⊢
                  clear hW5
                  obtain ⟨A5, n5, c5, es5, hg5, -⟩ := id HWH.out
                  obtain ⟨-, -, -, -, u4, -, -, f4, -⟩ := rwc6 hg5
                  have HB19 := Lib.hid (HB18.out.setCell (p := ⟨w.heap.size, 4, none⟩) (Nat.le_refl _) (.int .i64 (6 + (s : Int))))
                  have HST2 : Hid (RWhAt (fun b => w.heap.size ≤ b) w.heap.size gm gB ⟨gen, size, (rstW f gen size (k + 1)).1, (rstW f gen size (k + 1)).2.2, 0⟩ (W5.setCell ⟨w.heap.size, 4, none⟩ (.int .i64 (6 + (s : Int))))) := Lib.hid (by
                    rw [HYS.out]
                    exact HWH.out.ready (s : Int) (6 + (s : Int)) (by rw [if_neg (by omega)]; omega))
                  have HCB2 : Hid (true = (rstW f gen size (k + 1)).2.1) := Lib.hid (by rw [HYS.out])
                  have HLN2 : Hid ((rstW f gen size (k + 1)).1.length ≤ k + 1) := Lib.hid (by
                    rw [HYS.out]
                    show ((rstW f gen size k).1 ++ _).length ≤ _
                    rw [List.length_append]
                    exact Nat.succ_le_succ HLN.out)
                  clear hg5
                  go_wp2_with fail
                  go_roundw
                  case rel => exact ⟨k + 1, true, by omega, rfl, by go_num, HCB2, HST2, HB19, HLN2⟩
                  case measure => simp [intOf]; omega
                · go_simp
                  refine (r1num_any 4 _ _ _ (f.sub (a + 4) 4) wd6000 HX48d.out (by omega)).mono ?_
                  rw [HID.out]
                  rintro e' wz6017 ⟨rfl, rfl⟩
                  go_simp
                  have hS6017 : Below w.heap.size w wd6000 := hH0
                  refine hK.out _ _ hS6017 (fun hH6017 => ?_)
                  have hH6017 : Below w.heap.size w wd6000 := hH6017
                  clear hK K hS6017
                  try simp only [Act.put, List.setIfInBounds_toArray, List.set_cons_zero, List.set_cons_succ]
                  refine wpAnyH_take (i := 10) (oi := { dst := some 101, op := Op.build 77 #[(0, Operand.tmp 98), (1, Operand.tmp 100)], type := 77, pos := "ref.go:237", after := #[{ on := 7, ground := Ground.data }, { on := 9, ground := Ground.data }], guard := none }) (v := ?tkv6018) rfl (by kernel_rfl) (by kernel_rfl) (by kernel_rfl) (fun _ _ _ h => h) (Or.inl ⟨by rfl, ?tky6018⟩) hH6017 ?tkr6018
                  case tky6018 => (intro w' hSw; clear hSw; go_simp; try with_reducible rfl)
                  try simp only [Act.put, List.setIfInBounds_toArray, List.set_cons_zero, List.set_cons_succ]
                  refine wpAnyH_ready (rs := [4, 11]) (by kernel_rfl) (by simp) ?_
                  refine AllReadyH.cons (o := { dst := some 95, op := Op.load 44 (Operand.tmp 94), type := 44, pos := "ref.go:237", after := #[{ on := 3, ground := Ground.data }], guard := none }) rfl (fun K hK => ?_) (AllReadyH.cons (o := { dst := some 102, op := Op.buildSlice 44 1 #[(0, Operand.tmp 101)], type := 44, pos := "ref.go:237", after := #[{ on := 10, ground := Ground.data }], guard := none }) rfl (fun K hK => ?_) AllReadyH.nil)
                  · have hc6019 := (rwc6 HGWd.out).2.2.2.1
                    go_simp
                    clear hc6019
                    have hS6019 : Below w.heap.size w wd6000 := hH6017
                    refine hK.out _ _ hS6019 (fun hH6019 => ?_)
                    have hH6019 : Below w.heap.size w wd6000 := hH6019
                    clear hK K hS6019
                    try simp only [Act.put, List.setIfInBounds_toArray, List.set_cons_zero, List.set_cons_succ]
                    refine wpAnyH_ready (rs := [11]) (by kernel_rfl) (by simp) ?_
                    refine AllReadyH.cons (o := { dst := some 102, op := Op.buildSlice 44 1 #[(0, Operand.tmp 101)], type := 44, pos := "ref.go:237", after := #[{ on := 10, ground := Ground.data }], guard := none }) rfl (fun K hK => ?_) AllReadyH.nil
                    go_simp
                    have hb6020 : Below wd6000.heap.size wd6000 (wd6000.alloc (.cells #[.int .u32 (idn : Int), .slice (some ⟨gx, 8, none⟩) size (cx - 8)] 77)) := (Below.refl _ _).alloc (Nat.le_refl _) _
                    have AX6020 : Hid ((wd6000.alloc (.cells #[.int .u32 (idn : Int), .slice (some ⟨gx, 8, none⟩) size (cx - 8)] 77)).heap[wd6000.heap.size]? = some (.cells #[.int .u32 (idn : Int), .slice (some ⟨gx, 8, none⟩) size (cx - 8)] 77 (0, 0))) := Lib.hid (heap_alloc_new _ _)
                    have AL6020 : Hid (wd6000.heap.size < (wd6000.alloc (.cells #[.int .u32 (idn : Int), .slice (some ⟨gx, 8, none⟩) size (cx - 8)] 77)).heap.size) := Lib.hid (by simp)
                    generalize (wd6000.alloc (.cells #[.int .u32 (idn : Int), .slice (some ⟨gx, 8, none⟩) size (cx - 8)] 77)) = wn6020 at *
                    have HGWd_6020 := Lib.hid ((hb6020.block w.heap.size LGWd.out).trans HGWd.out)
                    have LGWd_6020 := Lib.hid (Nat.lt_of_lt_of_le LGWd.out hb6020.size)
                    have HGXBd_6020 := Lib.hid ((hb6020.block gx LGXd.out).trans HGXBd.out)
                    have LGXd_6020 := Lib.hid (Nat.lt_of_lt_of_le LGXd.out hb6020.size)
                    have HX48d_6020 := Lib.hid (HX48d.out.below hb6020)
                    have HX8d_6020 := Lib.hid (HX8d.out.below hb6020)
                    have HRW0d_6020 := Lib.hid (HRW0d.out.below hb6020)
                    have hS6020 : Below w.heap.size w wn6020 := ((hH6019).trans (hb6020.mono (hH6019).size))
                    refine hK.out _ _ hS6020 (fun hH6020 => ?_)
                    have hH6020 : Below w.heap.size w wn6020 := hH6020
                    clear hK K hS6020
                    try simp only [Act.put, List.setIfInBounds_toArray, List.set_cons_zero, List.set_cons_succ]
                    refine wpAnyH_ready (rs := [12]) (by kernel_rfl) (by simp) ?_
                    refine AllReadyH.cons (o := { dst := some 103, op := Op.call { callee := Callee.builtin Builtin.append, args := #[Operand.tmp 95, Operand.tmp 102], argTypes := #[44, 44] }, type := 44, pos := "ref.go:237", after := #[{ on := 4, ground := Ground.data }, { on := 11, ground := Ground.data }, { on := 7, ground := Ground.chain }], guard := none }) rfl (fun K hK => ?_) AllReadyH.nil
                    rw [if_pos (by rfl)]
                    refine wp_app2 (.tmp 95) (.tmp 102) 44 rfl 0 77 i0 _ 32 Try.underlying44 hi hz0 hz1 hz2 rfl _ nv _ rfl HRW0d_6020.out.1 _ 1 _ _ 77 rfl AX6020.out rfl rfl (by have := HNV.out; unfold maxLen; omega) (by have := HNV.out; omega) (Nat.zero_le _) ?_
                    intro v4 w4 hown4 hg4 hat4
                    obtain ⟨A4, c4, rfl⟩ := own2_form hown4
                    have HAPP := Lib.hid (RWhAt.app (P := (fun b => w.heap.size ≤ b)) (P' := (fun b => w.heap.size ≤ b)) (r := ⟨idn, some ⟨gx, 8, none⟩, size, cx - 8, f.sub (a + 8) size⟩) HGWd_6020.out (Nat.le_refl _) HGM.out HGB.out HRW0d_6020.out HES.out ⟨gx, 8, rfl, HGX.out, LGXd_6020.out, HOX.out, HX8d_6020.out⟩ hown4 hg4 hat4 (fun _ h => h) (fun _ => (hH6020).size))
                    have hS6021 : Below w.heap.size w w4 := (below_grow2 (hH6020) (hH6020).size hg4 (fun g hg => (HOWN.out g hg).1))
                    refine hK.out _ _ hS6021 (fun hH6021 => ?_)
                    have hH6021 : Below w.heap.size w w4 := hH6021
                    clear hK K hS6021
                    try simp only [Act.put, List.setIfInBounds_toArray, List.set_cons_zero, List.set_cons_succ]
                    refine wpAnyH_take (i := 13) (oi := { dst := some 104, op := Op.nilCheck (Operand.tmp 91), type := 0, pos := "ref.go:237", after := #[{ on := 0, ground := Ground.data }, { on := 0, ground := Ground.phase }, { on := 1, ground := Ground.phase }, { on := 2, ground := Ground.phase }, { on := 3, ground := Ground.phase }, { on := 4, ground := Ground.phase }, { on := 5, ground := Ground.phase }, { on := 6, ground := Ground.phase }, { on := 7, ground := Ground.phase }, { on := 8, ground := Ground.phase }, { on := 9, ground := Ground.phase }, { on := 10, ground := Ground.phase }, { on := 11, ground := Ground.phase }, { on := 12, ground := Ground.phase }], guard := none }) (v := ?tkv6022) rfl (by kernel_rfl) (by kernel_rfl) (by kernel_rfl) (fun _ _ _ h => h) (Or.inl ⟨by rfl, ?tky6022⟩) hH6021 ?tkr6022
                    case tky6022 => (intro w' hSw; clear hSw; go_simp; try with_reducible rfl)
                    try simp only [Act.put, List.setIfInBounds_toArray, List.set_cons_zero, List.set_cons_succ]
                    refine wpAnyH_take (i := 14) (oi := { dst := some 105, op := Op.fieldAddr 47 (Operand.tmp 104) 3, type := 0, pos := "ref.go:237", after := #[{ on := 13, ground := Ground.data }, { on := 0, ground := Ground.phase }, { on := 1, ground := Ground.phase }, { on := 2, ground := Ground.phase }, { on := 3, ground := Ground.phase }, { on := 4, ground := Ground.phase }, { on := 5, ground := Ground.phase }, { on := 6, ground := Ground.phase }, { on := 7, ground := Ground.phase }, { on := 8, ground := Ground.phase }, { on := 9, ground := Ground.phase }, { on := 10, ground := Ground.phase }, { on := 11, ground := Ground.phase }, { on := 12, ground := Ground.phase }], guard := none }) (v := ?tkv6023) rfl (by kernel_rfl) (by kernel_rfl) (by kernel_rfl) (fun _ _ _ h => h) (Or.inl ⟨by rfl, ?tky6023⟩) hH6021 ?tkr6023
                    case tky6023 => (intro w' hSw; clear hSw; go_simp; try with_reducible rfl)
                    try simp only [Act.put, List.setIfInBounds_toArray, List.set_cons_zero, List.set_cons_succ]
                    refine wpAnyH_ready (rs := [15]) (by kernel_rfl) (by simp) ?_
                    refine AllReadyH.cons (o := { dst := none, op := Op.store 44 (Operand.tmp 105) (Operand.tmp 103), type := 0, pos := "ref.go:237", after := #[{ on := 14, ground := Ground.data }, { on := 12, ground := Ground.data }, { on := 12, ground := Ground.chain }, { on := 0, ground := Ground.phase }, { on := 1, ground := Ground.phase }, { on := 2, ground := Ground.phase }, { on := 3, ground := Ground.phase }, { on := 4, ground := Ground.phase }, { on := 5, ground := Ground.phase }, { on := 6, ground := Ground.phase }, { on := 7, ground := Ground.phase }, { on := 8, ground := Ground.phase }, { on := 9, ground := Ground.phase }, { on := 10, ground := Ground.phase }, { on := 11, ground := Ground.phase }, { on := 12, ground := Ground.phase }], guard := none }) rfl (fun K hK => ?_) AllReadyH.nil
                    have q6024 := rwc6 HAPP.out.1
                    have y6024 := q6024.2.2.2.1
                    have z6024 := q6024.2.2.2.2.2.2.1
                    go_simp
                    clear q6024 y6024 z6024
                    have hS6024 : Below w.heap.size w (w4.setCell ⟨w.heap.size, 3, none⟩ (.slice A4 (nv + 1) c4)) := ((hH6021).setCell (Nat.le_refl _) _)
                    refine hK.out _ _ hS6024 (fun hH6024 => ?_)
                    have hH6024 : Below w.heap.size w (w4.setCell ⟨w.heap.size, 3, none⟩ (.slice A4 (nv + 1) c4)) := hH6024
                    clear hK K hS6024
                    refine wpAnyH_done (by kernel_rfl) ?_ _
                    refine NoPanic.normal ?_
                    have HB18 := Lib.hid (hH6024)
                    have HWH := Lib.hid HAPP.out.2
                    clear HAPP hown4 hg4 hat4
                    obtain ⟨W5, hW5⟩ : ∃ W5, w4.setCell ⟨w.heap.size, 3, none⟩ (.slice A4 (nv + 1) c4) = W5 := ⟨_, rfl⟩
                    rw [hW5] at HWH HB18 ⊢
                    clear hW5
                    obtain ⟨A5, n5, c5, es5, hg5, -⟩ := id HWH.out
                    obtain ⟨-, -, -, -, u4, -, -, f4, -⟩ := rwc6 hg5
                    have HB19 := Lib.hid (HB18.out.setCell (p := ⟨w.heap.size, 4, none⟩) (Nat.le_refl _) (.int .i64 (6 + (s : Int))))
                    have HST2 : Hid (RWhAt (fun b => w.heap.size ≤ b) w.heap.size gm gB ⟨gen, size, (rstW f gen size (k + 1)).1, (rstW f gen size (k + 1)).2.2, 0⟩ (W5.setCell ⟨w.heap.size, 4, none⟩ (.int .i64 (6 + (s : Int))))) := Lib.hid (by
                      rw [HYS.out]
                      exact HWH.out.ready (s : Int) (6 + (s : Int)) (by rw [if_neg (by omega)]; omega))
                    have HCB2 : Hid (true = (rstW f gen size (k + 1)).2.1) := Lib.hid (by rw [HYS.out])
                    have HLN2 : Hid ((rstW f gen size (k + 1)).1.length ≤ k + 1) := Lib.hid (by
                      rw [HYS.out]
                      show ((rstW f gen size k).1 ++ _).length ≤ _
                      rw [List.length_append]
                      exact Nat.succ_le_succ HLN.out)
                    clear hg5
                    go_wp2_with fail
                    go_roundw
                    case rel => exact ⟨k + 1, true, by omega, rfl, by go_num, HCB2, HST2, HB19, HLN2⟩
                    case measure => simp [intOf]; omega
                  · go_simp
                    have hb6025 : Below wd6000.heap.size wd6000 (wd6000.alloc (.cells #[.int .u32 (idn : Int), .slice (some ⟨gx, 8, none⟩) size (cx - 8)] 77)) := (Below.refl _ _).alloc (Nat.le_refl _) _
                    have AX6025 : Hid ((wd6000.alloc (.cells #[.int .u32 (idn : Int), .slice (some ⟨gx, 8, none⟩) size (cx - 8)] 77)).heap[wd6000.heap.size]? = some (.cells #[.int .u32 (idn : Int), .slice (some ⟨gx, 8, none⟩) size (cx - 8)] 77 (0, 0))) := Lib.hid (heap_alloc_new _ _)
                    have AL6025 : Hid (wd6000.heap.size < (wd6000.alloc (.cells #[.int .u32 (idn : Int), .slice (some ⟨gx, 8, none⟩) size (cx - 8)] 77)).heap.size) := Lib.hid (by simp)
                    generalize (wd6000.alloc (.cells #[.int .u32 (idn : Int), .slice (some ⟨gx, 8, none⟩) size (cx - 8)] 77)) = wn6025 at *
                    have HGWd_6025 := Lib.hid ((hb6025.block w.heap.size LGWd.out).trans HGWd.out)
                    have LGWd_6025 := Lib.hid (Nat.lt_of_lt_of_le LGWd.out hb6025.size)
                    have HGXBd_6025 := Lib.hid ((hb6025.block gx LGXd.out).trans HGXBd.out)
                    have LGXd_6025 := Lib.hid (Nat.lt_of_lt_of_le LGXd.out hb6025.size)
                    have HX48d_6025 := Lib.hid (HX48d.out.below hb6025)
                    have HX8d_6025 := Lib.hid (HX8d.out.below hb6025)
                    have HRW0d_6025 := Lib.hid (HRW0d.out.below hb6025)
                    have hS6025 : Below w.heap.size w wn6025 := ((hH6017).trans (hb6025.mono (hH6017).size))
                    refine hK.out _ _ hS6025 (fun hH6025 => ?_)
                    have hH6025 : Below w.heap.size w wn6025 := hH6025
                    clear hK K hS6025
                    try simp only [Act.put, List.setIfInBounds_toArray, List.set_cons_zero, List.set_cons_succ]
                    refine wpAnyH_ready (rs := [4]) (by kernel_rfl) (by simp) ?_
                    refine AllReadyH.cons (o := { dst := some 95, op := Op.load 44 (Operand.tmp 94), type := 44, pos := "ref.go:237", after := #[{ on := 3, ground := Ground.data }], guard := none }) rfl (fun K hK => ?_) AllReadyH.nil
                    have hc6026 := (rwc6 HGWd_6025.out).2.2.2.1
                    go_simp
                    clear hc6026
                    have hS6026 : Below w.heap.size w wn6025 := hH6025
                    refine hK.out _ _ hS6026 (fun hH6026 => ?_)
                    have hH6026 : Below w.heap.size w wn6025 := hH6026
                    clear hK K hS6026
                    try simp only [Act.put, List.setIfInBounds_toArray, List.set_cons_zero, List.set_cons_succ]
                    refine wpAnyH_ready (rs := [12]) (by kernel_rfl) (by simp) ?_
                    refine AllReadyH.cons (o := { dst := some 103, op := Op.call { callee := Callee.builtin Builtin.append, args := #[Operand.tmp 95, Operand.tmp 102], argTypes := #[44, 44] }, type := 44, pos := "ref.go:237", after := #[{ on := 4, ground := Ground.data }, { on := 11, ground := Ground.data }, { on := 7, ground := Ground.chain }], guard := none }) rfl (fun K hK => ?_) AllReadyH.nil
                    rw [if_pos (by rfl)]
                    refine wp_app2 (.tmp 95) (.tmp 102) 44 rfl 0 77 i0 _ 32 Try.underlying44 hi hz0 hz1 hz2 rfl _ nv _ rfl HRW0d_6025.out.1 _ 1 _ _ 77 rfl AX6025.out rfl rfl (by have := HNV.out; unfold maxLen; omega) (by have := HNV.out; omega) (Nat.zero_le _) ?_
                    intro v4 w4 hown4 hg4 hat4
                    obtain ⟨A4, c4, rfl⟩ := own2_form hown4
                    have HAPP := Lib.hid (RWhAt.app (P := (fun b => w.heap.size ≤ b)) (P' := (fun b => w.heap.size ≤ b)) (r := ⟨idn, some ⟨gx, 8, none⟩, size, cx - 8, f.sub (a + 8) size⟩) HGWd_6025.out (Nat.le_refl _) HGM.out HGB.out HRW0d_6025.out HES.out ⟨gx, 8, rfl, HGX.out, LGXd_6025.out, HOX.out, HX8d_6025.out⟩ hown4 hg4 hat4 (fun _ h => h) (fun _ => (hH6026).size))
                    have hS6027 : Below w.heap.size w w4 := (below_grow2 (hH6026) (hH6026).size hg4 (fun g hg => (HOWN.out g hg).1))
                    refine hK.out _ _ hS6027 (fun hH6027 => ?_)
                    have hH6027 : Below w.heap.size w w4 := hH6027
                    clear hK K hS6027
                    try simp only [Act.put, List.setIfInBounds_toArray, List.set_cons_zero, List.set_cons_succ]
                    refine wpAnyH_take (i := 13) (oi := { dst := some 104, op := Op.nilCheck (Operand.tmp 91), type := 0, pos := "ref.go:237", after := #[{ on := 0, ground := Ground.data }, { on := 0, ground := Ground.phase }, { on := 1, ground := Ground.phase }, { on := 2, ground := Ground.phase }, { on := 3, ground := Ground.phase }, { on := 4, ground := Ground.phase }, { on := 5, ground := Ground.phase }, { on := 6, ground := Ground.phase }, { on := 7, ground := Ground.phase }, { on := 8, ground := Ground.phase }, { on := 9, ground := Ground.phase }, { on := 10, ground := Ground.phase }, { on := 11, ground := Ground.phase }, { on := 12, ground := Ground.phase }], guard := none }) (v := ?tkv6028) rfl (by kernel_rfl) (by kernel_rfl) (by kernel_rfl) (fun _ _ _ h => h) (Or.inl ⟨by rfl, ?tky6028⟩) hH6027 ?tkr6028
                    case tky6028 => (intro w' hSw; clear hSw; go_simp; try with_reducible rfl)
                    try simp only [Act.put, List.setIfInBounds_toArray, List.set_cons_zero, List.set_cons_succ]
                    refine wpAnyH_take (i := 14) (oi := { dst := some 105, op := Op.fieldAddr 47 (Operand.tmp 104) 3, type := 0, pos := "ref.go:237", after := #[{ on := 13, ground := Ground.data }, { on := 0, ground := Ground.phase }, { on := 1, ground := Ground.phase }, { on := 2, ground := Ground.phase }, { on := 3, ground := Ground.phase }, { on := 4, ground := Ground.phase }, { on := 5, ground := Ground.phase }, { on := 6, ground := Ground.phase }, { on := 7, ground := Ground.phase }, { on := 8, ground := Ground.phase }, { on := 9, ground := Ground.phase }, { on := 10, ground := Ground.phase }, { on := 11, ground := Ground.phase }, { on := 12, ground := Ground.phase }], guard := none }) (v := ?tkv6029) rfl (by kernel_rfl) (by kernel_rfl) (by kernel_rfl) (fun _ _ _ h => h) (Or.inl ⟨by rfl, ?tky6029⟩) hH6027 ?tkr6029
                    case tky6029 => (intro w' hSw; clear hSw; go_simp; try with_reducible rfl)
                    try simp only [Act.put, List.setIfInBounds_toArray, List.set_cons_zero, List.set_cons_succ]
                    refine wpAnyH_ready (rs := [15]) (by kernel_rfl) (by simp) ?_
                    refine AllReadyH.cons (o := { dst := none, op := Op.store 44 (Operand.tmp 105) (Operand.tmp 103), type := 0, pos := "ref.go:237", after := #[{ on := 14, ground := Ground.data }, { on := 12, ground := Ground.data }, { on := 12, ground := Ground.chain }, { on := 0, ground := Ground.phase }, { on := 1, ground := Ground.phase }, { on := 2, ground := Ground.phase }, { on := 3, ground := Ground.phase }, { on := 4, ground := Ground.phase }, { on := 5, ground := Ground.phase }, { on := 6, ground := Ground.phase }, { on := 7, ground := Ground.phase }, { on := 8, ground := Ground.phase }, { on := 9, ground := Ground.phase }, { on := 10, ground := Ground.phase }, { on := 11, ground := Ground.phase }, { on := 12, ground := Ground.phase }], guard := none }) rfl (fun K hK => ?_) AllReadyH.nil
                    have q6030 := rwc6 HAPP.out.1
                    have y6030 := q6030.2.2.2.1
                    have z6030 := q6030.2.2.2.2.2.2.1
                    go_simp
                    clear q6030 y6030 z6030
                    have hS6030 : Below w.heap.size w (w4.setCell ⟨w.heap.size, 3, none⟩ (.slice A4 (nv + 1) c4)) := ((hH6027).setCell (Nat.le_refl _) _)
                    refine hK.out _ _ hS6030 (fun hH6030 => ?_)
                    have hH6030 : Below w.heap.size w (w4.setCell ⟨w.heap.size, 3, none⟩ (.slice A4 (nv + 1) c4)) := hH6030
                    clear hK K hS6030
                    refine wpAnyH_done (by kernel_rfl) ?_ _
                    refine NoPanic.normal ?_
                    have HB18 := Lib.hid (hH6030)
                    have HWH := Lib.hid HAPP.out.2
                    clear HAPP hown4 hg4 hat4
                    obtain ⟨W5, hW5⟩ : ∃ W5, w4.setCell ⟨w.heap.size, 3, none⟩ (.slice A4 (nv + 1) c4) = W5 := ⟨_, rfl⟩
                    rw [hW5] at HWH HB18 ⊢
                    clear hW5
                    obtain ⟨A5, n5, c5, es5, hg5, -⟩ := id HWH.out
                    obtain ⟨-, -, -, -, u4, -, -, f4, -⟩ := rwc6 hg5
                    have HB19 := Lib.hid (HB18.out.setCell (p := ⟨w.heap.size, 4, none⟩) (Nat.le_refl _) (.int .i64 (6 + (s : Int))))
                    have HST2 : Hid (RWhAt (fun b => w.heap.size ≤ b) w.heap.size gm gB ⟨gen, size, (rstW f gen size (k + 1)).1, (rstW f gen size (k + 1)).2.2, 0⟩ (W5.setCell ⟨w.heap.size, 4, none⟩ (.int .i64 (6 + (s : Int))))) := Lib.hid (by
                      rw [HYS.out]
                      exact HWH.out.ready (s : Int) (6 + (s : Int)) (by rw [if_neg (by omega)]; omega))
                    have HCB2 : Hid (true = (rstW f gen size (k + 1)).2.1) := Lib.hid (by rw [HYS.out])
                    have HLN2 : Hid ((rstW f gen size (k + 1)).1.length ≤ k + 1) := Lib.hid (by
                      rw [HYS.out]
                      show ((rstW f gen size k).1 ++ _).length ≤ _
                      rw [List.length_append]
                      exact Nat.succ_le_succ HLN.out)
                    clear hg5
                    go_wp2_with fail
                    go_roundw
                    case rel => exact ⟨k + 1, true, by omega, rfl, by go_num, HCB2, HST2, HB19, HLN2⟩
                    case measure => simp [intOf]; omega
              | false =>
                have HNO := Lib.hid (rstW_off (f := f) (gen := gen) (size := size) (k := k) (by rw [HJ.out]; exact hj0) HCB.out.symm)
                have HST2 : Hid (RWhAt (fun b => w.heap.size ≤ b) w.heap.size gm gB ⟨gen, size, (rstW f gen size (k + 1)).1, (rstW f gen size (k + 1)).2.2, 0⟩ wx) := Lib.hid (by rw [HNO.out]; exact HWX.out)
                have HCB2 : Hid (false = (rstW f gen size (k + 1)).2.1) := Lib.hid (by rw [HNO.out])
                have HLN2 : Hid ((rstW f gen size (k + 1)).1.length ≤ k + 1) := Lib.hid (by rw [HNO.out]; exact Nat.le_succ_of_le HLN.out)
                go_wp2_with fail
                go_roundw
                case rel => exact ⟨k + 1, false, by omega, rfl, by go_num, HCB2, HST2, HBX, HLN2⟩
                case measure => simp [intOf]; omega
          · have hbeq : ((nm : Int) == (gen : Int)) = false := by rw [beq_eq_false_iff_ne]; omega
            have HPB : Hid (plB gen (plAt (secB f (k / (256 / (size + 13)))) (size + 13) (k % (256 / (size + 13)))) = false) := Lib.hid (by
              rw [HPL.out]
              exact plB_not_gen (by rw [HT4.out, hnm]; exact hg))
            clear hg hnm
            go_wp2_with fail
            refine HNM.out.mono ?_
            rintro e wz ⟨rfl, rfl⟩
            go_upto_region 15 with fail
            clear hca hbeq
            have HNO := Lib.hid (rstW_no HPB.out)
            rw [HJ.out] at HNO
            by_cases hj0 : j = 0
            · have hji : (k : Int) % (pr : Int) = 0 := by have := HJI.out; rw [this, hj0]; rfl
              have HST2 : Hid (RWhAt (fun b => w.heap.size ≤ b) w.heap.size gm gB ⟨gen, size, (rstW f gen size (k + 1)).1, (rstW f gen size (k + 1)).2.2, 0⟩ wx) := Lib.hid (by rw [HNO.out]; exact HWX.out)
              have HCB2 : Hid (false = (rstW f gen size (k + 1)).2.1) := Lib.hid (by rw [HNO.out, if_pos hj0])
              have HLN2 : Hid ((rstW f gen size (k + 1)).1.length ≤ k + 1) := Lib.hid (by rw [HNO.out]; exact Nat.le_succ_of_le HLN.out)
              clear hj0 HNO
              go_wp2_with fail
              go_roundw
              case rel => exact ⟨k + 1, false, by omega, rfl, by go_num, HCB2, HST2, HBX, HLN2⟩
              case measure => simp [intOf]; omega
            · have hji : (k : Int) % (pr : Int) = (j : Int) := HJI.out
              have hjb : ((j : Int) == 0) = false := by rw [beq_eq_false_iff_ne]; omega
              have hjn : ¬ (j : Int) = 0 := by omega
              have HST2 : Hid (RWhAt (fun b => w.heap.size ≤ b) w.heap.size gm gB ⟨gen, size, (rstW f gen size (k + 1)).1, (rstW f gen size (k + 1)).2.2, 0⟩ wx) := Lib.hid (by rw [HNO.out]; exact HWX.out)
              have HCB2 : Hid (cb = (rstW f gen size (k + 1)).2.1) := Lib.hid (by rw [HNO.out, if_neg hj0]; exact HCB.out)
              have HLN2 : Hid ((rstW f gen size (k + 1)).1.length ≤ k + 1) := Lib.hid (by rw [HNO.out]; exact Nat.le_succ_of_le HLN.out)
              clear hj0 HNO
              go_wp2_with fail
              go_roundw
              case rel => exact ⟨k + 1, cb, by omega, rfl, by go_num, HCB2, HST2, HBX, HLN2⟩
              case measure => simp [intOf]; omega
        · have hzb : ((bzn : Int) == 0) = false := by rw [beq_eq_false_iff_ne]; omega
          have HPB : Hid (plB gen (plAt (secB f (k / (256 / (size + 13)))) (size + 13) (k % (256 / (size + 13)))) = false) := Lib.hid (by
            rw [HPL.out]
            exact plB_not_zero (by rw [HGD.out]; intro h; rw [h] at hbzn; exact hz hbzn.symm))
          have hzn : ¬ (bzn : Int) = 0 := by omega
          clear hz hnm
          go_upto_region 15 with fail
          clear hca
          have HNO := Lib.hid (rstW_no HPB.out)
          rw [HJ.out] at HNO
          by_cases hj0 : j = 0
          · have hji : (k : Int) % (pr : Int) = 0 := by have := HJI.out; rw [this, hj0]; rfl
            have HST2 : Hid (RWhAt (fun b => w.heap.size ≤ b) w.heap.size gm gB ⟨gen, size, (rstW f gen size (k + 1)).1, (rstW f gen size (k + 1)).2.2, 0⟩ wx) := Lib.hid (by rw [HNO.out]; exact HWX.out)
            have HCB2 : Hid (false = (rstW f gen size (k + 1)).2.1) := Lib.hid (by rw [HNO.out, if_pos hj0])
            have HLN2 : Hid ((rstW f gen size (k + 1)).1.length ≤ k + 1) := Lib.hid (by rw [HNO.out]; exact Nat.le_succ_of_le HLN.out)
            clear hj0 HNO
            go_wp2_with fail
            go_roundw
            case rel => exact ⟨k + 1, false, by omega, rfl, by go_num, HCB2, HST2, HBX, HLN2⟩
            case measure => simp [intOf]; omega
          · have hji : (k : Int) % (pr : Int) = (j : Int) := HJI.out
            have hjb : ((j : Int) == 0) = false := by rw [beq_eq_false_iff_ne]; omega
            have hjn : ¬ (j : Int) = 0 := by omega
            have HST2 : Hid (RWhAt (fun b => w.heap.size ≤ b) w.heap.size gm gB ⟨gen, size, (rstW f gen size (k + 1)).1, (rstW f gen size (k + 1)).2.2, 0⟩ wx) := Lib.hid (by rw [HNO.out]; exact HWX.out)
            have HCB2 : Hid (cb = (rstW f gen size (k + 1)).2.1) := Lib.hid (by rw [HNO.out, if_neg hj0]; exact HCB.out)
            have HLN2 : Hid ((rstW f gen size (k + 1)).1.length ≤ k + 1) := Lib.hid (by rw [HNO.out]; exact Nat.le_succ_of_le HLN.out)
            clear hj0 HNO
            go_wp2_with fail
            go_roundw
            case rel => exact ⟨k + 1, cb, by omega, rfl, by go_num, HCB2, HST2, HBX, HLN2⟩
            case measure => simp [intOf]; omega
      · have HRT := Lib.hid (r1right_no wq.heap.size n1 cc (some ⟨gB, a, none⟩) (f.sub a n1) wq HRW.out i13 (by omega) (by omega) (Nat.le_refl _) hrt)
        have HPB : Hid (plB gen (plAt (secB f (k / (256 / (size + 13)))) (size + 13) (k % (256 / (size + 13)))) = false) := Lib.hid (by
          rw [HPL.out]
          refine plB_not_right ?_
          rw [Fl.sub_length, show size + 13 - 1 = n1 by omega, HTK.out]
          exact hrt)
        rw [← hcc] at HRT
        clear hrt haz hn1 hcc HRW HTK HCA
        go_wp2_with fail
        refine HRT.out.mono ?_
        rintro e wx ⟨rfl, hbx⟩
        have HBX := Lib.hid (HBQ.out.trans (hbx.mono HBQ.out.size))
        have HWX := Lib.hid (HWQ.out.below hbx)
        clear HRT hbx hsl
        go_upto_region 15 with fail
        have HNO := Lib.hid (rstW_no HPB.out)
        rw [HJ.out] at HNO
        by_cases hj0 : j = 0
        · have hji : (k : Int) % (pr : Int) = 0 := by have := HJI.out; rw [this, hj0]; rfl
          have HST2 : Hid (RWhAt (fun b => w.heap.size ≤ b) w.heap.size gm gB ⟨gen, size, (rstW f gen size (k + 1)).1, (rstW f gen size (k + 1)).2.2, 0⟩ wx) := Lib.hid (by rw [HNO.out]; exact HWX.out)
          have HCB2 : Hid (false = (rstW f gen size (k + 1)).2.1) := Lib.hid (by rw [HNO.out, if_pos hj0])
          have HLN2 : Hid ((rstW f gen size (k + 1)).1.length ≤ k + 1) := Lib.hid (by rw [HNO.out]; exact Nat.le_succ_of_le HLN.out)
          clear hj0 HNO
          go_wp2_with fail
          go_roundw
          case rel => exact ⟨k + 1, false, by omega, rfl, by go_num, HCB2, HST2, HBX, HLN2⟩
          case measure => simp [intOf]; omega
        · have hji : (k : Int) % (pr : Int) = (j : Int) := HJI.out
          have hjb : ((j : Int) == 0) = false := by rw [beq_eq_false_iff_ne]; omega
          have hjn : ¬ (j : Int) = 0 := by omega
          have HST2 : Hid (RWhAt (fun b => w.heap.size ≤ b) w.heap.size gm gB ⟨gen, size, (rstW f gen size (k + 1)).1, (rstW f gen size (k + 1)).2.2, 0⟩ wx) := Lib.hid (by rw [HNO.out]; exact HWX.out)
          have HCB2 : Hid (cb = (rstW f gen size (k + 1)).2.1) := Lib.hid (by rw [HNO.out, if_neg hj0]; exact HCB.out)
          have HLN2 : Hid ((rstW f gen size (k + 1)).1.length ≤ k + 1) := Lib.hid (by rw [HNO.out]; exact Nat.le_succ_of_le HLN.out)
          clear hj0 HNO
          go_wp2_with fail
          go_roundw
          case rel => exact ⟨k + 1, cb, by omega, rfl, by go_num, HCB2, HST2, HBX, HLN2⟩
          case measure => simp [intOf]; omega
    · have hk8e : k = 8 * pr := by omega
      rw [hk8e] at HW
      obtain ⟨wm, rfl⟩ : ∃ x : World, x = wr := ⟨_, rfl⟩
      have hro := rstW_opW (f := f) (gen := gen) (size := size) HS2.out 8
      rw [HPR.out] at hro
      clear hlt HLN HCB
      have hk8 : ¬ ((k : Int) < (pr : Int) * 8) := by omega
      clear hk8e hk
      go_upto_region 21 with fail
      clear hk8
      rcases opW_next_is (f := f) (gen := gen) HS1.out HS2.out with he | ⟨r, hr8, hrd, hrn⟩
      · have hst : Hid (RWhAt (fun b => w.heap.size ≤ b) w.heap.size gm gB (opW f gen size 8) wm) := Lib.hid (by
          have h9 := HW.out
          rw [hro.1, hro.2] at h9
          rw [he] at h9 ⊢
          exact h9)
        have hc4 : wm.cell? ⟨w.heap.size, 4, none⟩ = some (.int .i64 (-1)) := by
          obtain ⟨A, n, c, es, hg, _⟩ := hst.out
          rw [he] at hg
          exact (rwc6 hg).2.2.2.2.1
        clear hro he
        go_wp2_with fail
        go_ret2
        exact ⟨w.heap.size, rfl, hst, HB⟩
      · obtain ⟨LL, hLL⟩ : ∃ L, (opW f gen size 8).L = L := ⟨_, rfl⟩
        have HOP : Hid (opW f gen size 8 = ⟨gen, size, LL, (r : Int), nextUp (size + 13) (r * pr) (r * pr) (secB f r) pr⟩) := Lib.hid (by
          rw [HPR.out] at hrn
          exact wh_mk (opW_gen f gen size 8) (opW_size f gen size 8) hLL hrd hrn)
        have HW1 : Hid (RWhAt (fun b => w.heap.size ≤ b) w.heap.size gm gB ⟨gen, size, LL, (r : Int), 0⟩ wm) := Lib.hid (by
          have h9 := HW.out
          rw [hro.1, hro.2, hLL, hrd] at h9
          exact h9)
        clear hro hrd hrn hLL HW
        obtain ⟨rp, hrp⟩ : ∃ x, r * pr = x := ⟨_, rfl⟩
        have hrpi : (r : Int) * (pr : Int) = (rp : Int) := by rw [← hrp, Int.natCast_mul]
        have hrpi2 : ((r : Int) + 1) * (pr : Int) = (rp : Int) + (pr : Int) := by rw [Int.add_mul, hrpi, Int.one_mul]
        have hrpl : rp + pr ≤ 8 * pr := by rw [← hrp, ← Nat.succ_mul]; exact Nat.mul_le_mul_right _ hr8
        have hrpl2 : (rp : Int) ≤ 144 := by omega
        have hr8i : (r : Int) < 8 := by omega
        have HRP := Lib.hid hrp
        rw [hrp] at HOP
        obtain ⟨A5, n5, c5, es5, hg5, -⟩ := id HW1.out
        obtain ⟨-, -, -, -, u4, u5, -, -, f5⟩ := rwc6 hg5
        obtain ⟨rs, hrs⟩ : ∃ x, r + 6 = x := ⟨_, rfl⟩
        have hrs2 : (r : Int) + 6 = (rs : Int) := by omega
        have hrs6 : (rs : Int) - 6 = (r : Int) := by omega
        have hrsl : (rs : Int) ≤ 14 := by omega
        have hu4 : (if (r : Int) < 0 then (-1 : Int) else (r : Int) + 6) = (rs : Int) := by rw [if_neg (by omega)]; omega
        have HRS := Lib.hid hrs
        have u4b : wm.cell? ⟨w.heap.size, 4, none⟩ = some (.int .i64 (rs : Int)) := by rw [← hu4]; exact u4
        have HB6 := Lib.hid (HB.out.setCell (p := ⟨w.heap.size, 5, none⟩) (Nat.le_refl _) (.int .i64 (rp : Int)))
        have HW6 : Hid (RWhAt (fun b => w.heap.size ≤ b) w.heap.size gm gB ⟨gen, size, LL, (r : Int), nextUp (size + 13) rp rp (secB f r) 0⟩ (wm.setCell ⟨w.heap.size, 5, none⟩ (.int .i64 (rp : Int)))) := Lib.hid (HW1.out.next rp (rp : Int) rfl)
        clear hg5 u4 hu4 hrp hr8 hrs hrs2
        have HRPI2 := Lib.hid hrpi2
        have HRPL := Lib.hid hrpl
        clear hrpl hrpi2
        go_upto_region 22 with fail
        go_upto_region 23 with fail
        clear u4b u5 f5 hrpi
        obtain ⟨rn, hrn2⟩ : ∃ x, rp + pr = x := ⟨_, rfl⟩
        have HRN := Lib.hid hrn2
        have HV : Hid (wrap64 (((r : Int) + 1) * (pr : Int)) = (rn : Int)) := Lib.hid (by
          rw [HRPI2.out, IntWalk.wrap64_in _ ⟨by omega, by have := HRPL.out; omega⟩]; omega)
        clear hrn2
        generalize (wm.setCell ⟨w.heap.size, 5, none⟩ (.int .i64 (rp : Int))) = wn at *
        obtain ⟨A6, n6, c6, es6, hg6, -⟩ := id HW6.out
        have u5 : wn.cell? ⟨w.heap.size, 5, none⟩ = some (.int .i64 (rp : Int)) := (rwc6 hg6).2.2.2.2.2.1
        clear hg6
        go_wp2_with fail
        clear u5
        go_loopw [17] (fun x wr => ∃ i : Nat, i ≤ pr ∧ x = .int .i64 ((rp + i : Nat) : Int) ∧ Hid (RWhAt (fun b => w.heap.size ≤ b) w.heap.size gm gB ⟨gen, size, LL, (r : Int), nextUp (size + 13) rp rp (secB f r) i⟩ wr) ∧ Hid (Below w.heap.size w wr)) (fun x _ => rp + pr - (intOf x).toNat)
        case atStart => exact ⟨0, by omega, rfl, HW6, HB6⟩
        case round =>
          obtain ⟨i, hi2, rfl, HWI, HBI⟩ := hrel
          clear HW6 HB6
          obtain ⟨wj, rfl⟩ : ∃ x : World, x = wr := ⟨_, rfl⟩
          obtain ⟨pi, hpi⟩ : ∃ x, rp + i = x := ⟨_, rfl⟩
          have HPI := Lib.hid hpi
          rw [hpi]
          obtain ⟨A7, n7, c7, es7, hg7, -⟩ := id HWI.out
          have u7 := (rwc6 hg7).2.2.2.2.1
          have hu7 : (if (r : Int) < 0 then (-1 : Int) else (r : Int) + 6) = (rs : Int) := by rw [if_neg (by omega)]; have := HRS.out; omega
          have u4 : wj.cell? ⟨w.heap.size, 4, none⟩ = some (.int .i64 (rs : Int)) := by rw [← hu7]; exact u7
          clear hg7 u7 hu7
          by_cases hlt : i < pr
          · have hli : (pi : Int) < (rn : Int) := by have := HRN.out; omega
            have hmod : pi % pr = i := by rw [← hpi, ← HRP.out, Nat.mul_comm, Nat.mul_add_mod, Nat.mod_eq_of_lt hlt]
            have hdiv : pi / pr = r := by rw [← hpi, ← HRP.out, Nat.mul_comm, Nat.mul_add_div (by omega), Nat.div_eq_of_lt hlt, Nat.add_zero]
            have HAT := Lib.hid (rat_any (gr := w.heap.size) (size := size) (w := wj) pi r i (HC2.out wj HWI.out) HS1.out HS2.out (by rw [HPR.out]; have := HRPL.out; omega) (by rw [HPR.out]; exact hdiv) (by rw [HPR.out]; exact hmod))
            obtain ⟨qw, hqw⟩ : ∃ q, i * (size + 13) = q := ⟨_, rfl⟩
            have hq2 : qw + (size + 13) ≤ 256 := by
              rw [← hqw, ← Nat.succ_mul]
              exact Nat.le_trans (Nat.mul_le_mul_right _ hlt) HPB0.out.2.2
            obtain ⟨a, ha⟩ : ∃ a, 256 * (6 + r) + qw = a := ⟨_, rfl⟩
            have HPA : Hid (plAt (secB f r) (size + 13) i = f.sub a (size + 13)) := Lib.hid (by
              rw [plAt_sub f _ _ _ (Nat.le_trans (Nat.mul_le_mul_right _ hlt) HPB0.out.2.2), hqw, ha])
            rw [hqw, ha] at HAT
            have hal : a + (size + 13) ≤ 3584 := by omega
            obtain ⟨wd, hwd⟩ : ∃ x, size + 13 = x := ⟨_, rfl⟩
            have hwdi : (size : Int) + 13 = (wd : Int) := by omega
            have hali : (a : Int) ≤ 3584 := by omega
            have hwi2 : (wd : Int) ≤ 29 := by omega
            have HWD := Lib.hid hwd
            clear hmod hdiv hqw hq2 ha hpi
            go_wp2_with (rw [HV.out])
            refine HAT.out.mono ?_
            rintro e wq ⟨rfl, q, rfl⟩
            clear HAT u4
            have HBQ := Lib.hid (HBI.out.trans ((below_drewN (Below.refl _ _) q).mono HBI.out.size))
            have HWQ := Lib.hid (HWI.out.below (below_drewN (Below.refl _ _) q))
            generalize wj.drewN q = wq at *
            have HBL := Lib.hid (rblank_ok gm gB a (size + 13) f wq (HF.out.below HBQ.out) HD.out hal)
            rw [hwd] at HBL
            obtain ⟨A8, n8, c8, es8, hg8, -⟩ := id HWQ.out
            obtain ⟨-, -, -, -, -, u5, -, -, f5⟩ := rwc6 hg8
            clear hg8 hal hwd
            cases hff : allFF (f.sub a wd) with
            | true =>
              have HUP : Hid (nextUp (size + 13) rp rp (secB f r) (i + 1) = nextUp (size + 13) rp rp (secB f r) i) := Lib.hid (by
                show (if allFF (plAt (secB f r) (size + 13) i) then _ else _) = _
                rw [HPA.out, HWD.out, hff]; rfl)
              rw [hff] at HBL
              have hpi3 : (pi : Int) ≤ 400 := by have := HRPL.out; have := HPI.out; omega
              clear hff u5 f5
              go_wp2_with fail
              refine HBL.out.mono ?_
              rintro e wz ⟨rfl, hbz⟩
              have HBZ := Lib.hid (HBQ.out.trans (hbz.out.mono HBQ.out.size))
              have HWZ : Hid (RWhAt (fun b => w.heap.size ≤ b) w.heap.size gm gB ⟨gen, size, LL, (r : Int), nextUp (size + 13) rp rp (secB f r) (i + 1)⟩ wz) := Lib.hid (by rw [HUP.out]; exact HWQ.out.below hbz.out)
              clear hbz HBL HUP
              go_wp2_with fail
              go_roundw
              case rel => exact ⟨i + 1, by omega, by rw [← HPI.out]; simp; omega, HWZ, HBZ⟩
              case measure => have := HPI.out; have := HRN.out; simp [intOf]; omega
            | false =>
              have HUP : Hid (nextUp (size + 13) rp rp (secB f r) (i + 1) = pi + 1) := Lib.hid (by
                show (if allFF (plAt (secB f r) (size + 13) i) then _ else _) = _
                rw [HPA.out, HWD.out, hff, ← HPI.out]; rfl)
              rw [hff] at HBL
              clear hff u5 f5
              go_wp2_with fail
              refine HBL.out.mono ?_
              rintro e wz ⟨rfl, hbz⟩
              have HBZ := Lib.hid ((HBQ.out.trans (hbz.out.mono HBQ.out.size)).setCell (p := ⟨w.heap.size, 5, none⟩) (Nat.le_refl _) (.int .i64 ((pi : Int) + 1)))
              have HWZ0 := Lib.hid (HWQ.out.below hbz.out)
              have HWZ : Hid (RWhAt (fun b => w.heap.size ≤ b) w.heap.size gm gB ⟨gen, size, LL, (r : Int), nextUp (size + 13) rp rp (secB f r) (i + 1)⟩ (wz.setCell ⟨w.heap.size, 5, none⟩ (.int .i64 ((pi : Int) + 1)))) := Lib.hid (by rw [HUP.out]; exact HWZ0.out.next (pi + 1) ((pi : Int) + 1) (by omega))
              obtain ⟨A9, n9, c9, es9, hg9, -⟩ := id HWZ0.out
              obtain ⟨-, -, -, -, -, u5, -, -, f5⟩ := rwc6 hg9
              have hpi3 : (pi : Int) ≤ 400 := by have := HRPL.out; have := HPI.out; omega
              clear hg9 hbz HBL HUP
              go_wp2_with fail
              go_roundw
              case rel => exact ⟨i + 1, by omega, by rw [← HPI.out]; simp; omega, HWZ, HBZ⟩
              case measure => have := HPI.out; have := HRN.out; simp [intOf]; omega
          · obtain rfl : i = pr := by omega
            have hli : ¬ (pi : Int) < (rn : Int) := by have := HRN.out; omega
            have hst : Hid (RWhAt (fun b => w.heap.size ≤ b) w.heap.size gm gB (opW f gen size 8) wj) := Lib.hid (by rw [HOP.out]; exact HWI.out)
            clear hlt
            go_wp2_with (rw [HV.out])
            go_ret2
            exact ⟨w.heap.size, rfl, hst, HBI⟩
end Go.Proofs.Ytekaoodagaplmaa
