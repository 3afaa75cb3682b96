/- FrameFound: what is wrapped is unwrapped; frames one behind the other, with noise between that has no D, are found, each as it was; with a byte changed behind the first two a frame is none. For every input, no condition. -/
import Derived.Test.YtghadeingmccfaaFoundMath
import Derived.Test.YtghadeingmccfaaLawRows
namespace Go.Proofs.Ytghadeingmccfaa
open Go.ChangeShapes Go.WideShapes Go.ChangeAt Go.RowKit
open FrM (flen inner frame)
open CrcM (bend bend_length)
theorem LW.rows' {base n c : Nat} {W : World} {A : Option Addr} {es : List BRow} (h : LW base W (.slice A n c) n es) : Rows2 W W.heap.size A n es :=
  ⟨Row.of_own h.1, fun r hr => by obtain ⟨g, _, _, _, _, h5, _⟩ := h.2 r hr; exact h5⟩
theorem flat_flatten (es : List BRow) : flat es = (es.map (·.l)).flatten := by simp [flat, List.flatMap]
theorem flat_len {es : List BRow} {ls : List (List UInt8)} {q : List UInt8} {n nb cc : Nat} (h1 : es.map (·.l) = frs ls n) (h2 : nb = (cat ls q n).length) (h3 : cc = q.length * n) : (flat es).length + cc = nb := by
  rw [flat_flatten, h1, h2, cat_length, h3]
set_option maxRecDepth 100000 in
set_option maxHeartbeats 6400000 in
theorem found_walk (A : Option Addr) (n cap : Nat) (es : List BRow) (An : Option Addr) (nn capn : Nat) (nz : List UInt8) (at_ : Int) (x : UInt8) (w : World)
    (hl : Rows2 w w.heap.size A n es) (hlz : Row w w.heap.size An nn (bv nz)) :
    Calls Try.prog 5 #[.slice A n cap, .slice An nn capn, .int .i64 at_, .int .u8 (x.toNat : Int)] w fun e w' => e = .returned (.bool true) ∧ Below w.heap.size w w' := by
  obtain ⟨i0, hi, hz0, hz1, hz2⟩ := info_parts Try.info5
  obtain ⟨j0, ji, jz0, jz1, jz2⟩ := info_parts Try.info22
  by_cases hbig : 20 < n
  · go_enter Try.func5, Try.ntmps5
    go_wp2_with fail
    refine (awake13_any _).mono ?_
    rintro e w' ⟨rfl, hb⟩
    go_wp2
    go_ret
    exact ⟨rfl, hb⟩
  by_cases hbig2 : 100 < nn
  · go_enter Try.func5, Try.ntmps5
    go_wp2_with fail
    refine (awake13_any _).mono ?_
    rintro e w' ⟨rfl, hb⟩
    go_wp2
    go_ret
    exact ⟨rfl, hb⟩
  go_enter Try.func5, Try.ntmps5
  go_wp2_with fail
  go_loopw [9, 39] (fun v i wr => ∃ (k nq cq : Nat) (Aq : Option Addr), k ≤ nn ∧ i = .int .i64 k ∧ v = .slice Aq nq cq ∧ nq ≤ k ∧ Hid (nq = (noD nz k).length) ∧ Hid (wr.ownsRow w.heap.size 5 1 (.slice Aq nq cq) nq (bv (noD nz k))) ∧ Hid (Below w.heap.size w wr)) (fun _ i _ => nn - (intOf i).toNat)
  case atStart => exact ⟨0, 0, 0, none, by omega, rfl, rfl, by omega, rfl, World.ownsRow_nil _ _ _ _, Below.refl _ _⟩
  case round =>
    obtain ⟨k, nq, cq, Aq, hk, rfl, rfl, hnk, hnq, hown, hb⟩ := hrel
    have hsz := hb.out.size
    by_cases hlt : k < nn
    · obtain ⟨b, o, rfl, _, hkl, hcell⟩ := (hlz.below hb.out).byteAt hlt
      have hnx := Lib.hid (noD_next nz k hkl)
      generalize hx : nz[k] = y at *
      have HX := Lib.hid hx
      clear hx
      by_cases h6 : y = 68
      · have e6 : ((y.toNat : Int) != 68) = false := by rw [h6]; rfl
        have hs : Hid (noD nz (k + 1) = noD nz k) := by have := hnx.out; simp [h6] at this; exact this
        have HO : Hid (wr.ownsRow w.heap.size 5 1 (.slice Aq nq cq) nq (bv (noD nz (k + 1)))) := by show World.ownsRow _ _ _ _ _ _ _; rw [hs.out]; exact hown.out
        have HN : Hid (nq = (noD nz (k + 1)).length) := by show _ = _; rw [hs.out]; exact hnq.out
        clear h6
        go_wp2_with fail
        go_roundw
        case rel => exact ⟨k + 1, nq, cq, Aq, by omega, by go_num, rfl, by omega, HN, HO, hb⟩
        case measure => simp [intOf]; omega
      · have e6 : ((y.toNat : Int) != 68) = true := bne_iff_ne.2 fun e => h6 (UInt8.toNat.inj (by rw [show y.toNat = 68 by omega]; rfl))
        have hs : Hid (noD nz (k + 1) = noD nz k ++ [y]) := by have := hnx.out; rw [if_pos h6] at this; exact this
        clear h6
        go_wp2_with (at_builtin; refine wpList_app rfl (.tmp 45) (.tmp 47) 22 rfl w.heap.size 5 i0 (.int .u8 0) 1 Try.underlying22 hi hz0 hz1 hz2 rfl _ nq _ rfl (hown.out.alloc _) _ _ 1 1 _ rfl (row_new wr _ _ _) (by intro u hu; simp at hu; subst hu; rfl) (by unfold maxLen; omega) (by omega) (by simp; omega) ?_; intro v2 w2 hown2 hg2 hat2)
        have hb2 := below_app (hb.out.alloc hsz _) (by simp; omega) (hown.out.alloc _) (Nat.le_refl _) hg2
        have hown3 : w2.ownsRow w.heap.size 5 1 v2 (nq + 1) (bv (noD nz (k + 1))) := by
          rw [hs.out, bv_append]
          exact hown2
        have HN : Hid (nq + 1 = (noD nz (k + 1)).length) := by show _ = _; rw [hs.out, List.length_append, ← hnq.out]; rfl
        obtain ⟨A3, c3, rfl, _⟩ := own_slice hown3
        clear hown hown2 hg2 hat2
        go_roundw
        case rel => exact ⟨k + 1, nq + 1, c3, A3, by omega, by go_num, rfl, by omega, HN, hown3, hb2⟩
        case measure => simp [intOf]; omega
    · obtain rfl : nn = k := by omega
      obtain ⟨q, hqq⟩ : ∃ q, noD nz nn = q := ⟨_, rfl⟩
      have HND : Hid (∀ y ∈ q, y ≠ 68) := by show ∀ y ∈ q, y ≠ 68; rw [← hqq]; exact noD_none nz nn
      rw [hqq] at hnq hown
      clear hqq hlz
      generalize wr = w1 at *
      have HQ1 : Hid (Row w1 w1.heap.size Aq nq (bv q)) := Row.of_own hown.out
      obtain ⟨ls, hls⟩ : ∃ ls, es.map (·.l) = ls := ⟨_, rfl⟩
      have HLS := Lib.hid hls
      clear hown hls
      go_wp2_with fail
      go_loopw [10, 13, 52] (fun vb vf i wr => ∃ (k nb cb cf : Nat) (Ab Af : Option Addr) (fs : List BRow), k ≤ n ∧ i = .int .i64 k ∧ vb = .slice Ab nb cb ∧ vf = .slice Af k cf ∧ nb ≤ 400 * k ∧
        Hid (nb = (cat ls q k).length) ∧ Hid (wr.ownsRow w1.heap.size 5 1 (.slice Ab nb cb) nb (bv (cat ls q k))) ∧ Hid (LW w1.heap.size wr (.slice Af k cf) k fs) ∧ Hid (Sep (.slice Ab nb cb) fs) ∧ Hid (fs.map (·.l) = frs ls k) ∧
        Hid (∀ i, i < k → (ls.getD i []).length ≤ 291) ∧ Hid (Below w1.heap.size w1 wr)) (fun _ _ i _ => n - (intOf i).toNat)
      case atStart => exact ⟨0, 0, 0, 0, none, none, [], by omega, rfl, rfl, rfl, by omega, rfl, World.ownsRow_nil _ _ _ _, ⟨World.ownsRow_nil _ _ _ _, fun r hr => by cases hr⟩, (fun r hr => by cases hr), rfl, (fun i hi => by omega), Below.refl _ _⟩
      case round =>
        obtain ⟨k, nb, cb, cf, Ab, Af, fs, hk, rfl, rfl, rfl, hnb, hnbl, hob, hlw, hsep, hfs, h291, hb1⟩ := hrel
        have hsz1 := hb1.out.size
        have HBW : Hid (Below w.heap.size w wr) := hb.out.trans (hb1.out.mono hsz)
        by_cases hlt : k < n
        · obtain ⟨b, o, rfl, r, hr, hcell, hrow⟩ := (hl.below HBW.out).at_ hlt
          have hgk : ls.getD k [] = r.l := by rw [← HLS.out]; simp [List.getD, hr]
          have HGK := Lib.hid hgk
          have HROW := Lib.hid hrow
          have hrl := hrow.blen
          clear hgk hr hrow
          by_cases h9 : 291 < r.n
          · clear hrl
            go_wp2_with fail
            refine (awake13_any _).mono ?_
            rintro e w4 ⟨rfl, hb4⟩
            go_wp2_with fail
            go_ret
            exact ⟨rfl, HBW.out.trans (hb4.mono HBW.out.size)⟩
          have hk20 : k < 20 := by omega
          have e8 : (UInt8.ofNat k).toNat = k := by rw [UInt8.toNat_ofNat']; omega
          obtain ⟨F, hF⟩ : ∃ F, frame (UInt8.ofNat k) r.l = F := ⟨_, rfl⟩
          have hFl : F.length = r.n + 9 := by rw [← hF, FrM.frame_length, hrl]
          have hFk : fr ls k = F := by unfold fr; rw [HGK.out, hF]
          have HFK := Lib.hid hFk
          have HFL := Lib.hid hFl
          have hwrap := wrap_at (k : Int) (UInt8.ofNat k) (by rw [e8]) w.heap.size r.n r.c r.A r.l wr HROW.out (by omega) HBW.out.size
          have hunw := fun B n cap A w hl hn hc hB => unwrap_frame (UInt8.ofNat k) r.l B n cap A w (by rw [hF]; exact hl) (by omega) hn hc hB
          rw [e8] at hunw
          rw [hF] at hwrap
          obtain ⟨jq, hjq, hKj⟩ := pick_in at_ (((r.n + 9 : Nat) : Int) - 2) (by omega) (by omega)
          have hub := un_bent (UInt8.ofNat k) r.l (by omega) jq (by omega) x
          rw [hF] at hub
          have HKJ := Lib.hid hKj
          have HUB := Lib.hid hub
          have HWR := Lib.hid hwrap
          have HUN := Lib.hid hunw
          have hrn : r.n ≤ 291 := by omega
          clear hwrap hunw hKj hub hFl hFk hF hrl e8 HGK
          generalize r.l = rl at *
          obtain ⟨nf, hnf⟩ : ∃ nf, nf = r.n + 9 := ⟨_, rfl⟩
          rw [← hnf] at HFL hjq HKJ
          have hnf9 : 9 ≤ nf := by omega
          have hnf300 : nf ≤ 300 := by omega
          clear hnf
          go_wp2_with fail
          refine HWR.out.mono ?_
          rintro e w2 ⟨Af2, nf2, cf2, rfl, hnf2, hownf, hbf⟩
          obtain rfl : nf2 = nf := hnf2.out.trans HFL.out
          obtain ⟨G, cG, hv, hG1, hG2⟩ := hownf.form (by omega)
          injection hv with e1 e2 e3
          subst e1 e3
          have hcf := own_cap hownf
          have HOF := Lib.hid hownf
          have HB2 : Hid (Below w1.heap.size w1 w2) := hb1.out.trans (hbf.mono hsz1)
          have HBF := Lib.hid hbf
          clear hownf hbf hnf2
          go_wp2_with fail
          refine (HUN.out w2.heap.size nf2 cf2 _ w2 (Row.of_own HOF.out) hcf.1 hcf.2 (Nat.le_refl _)).mono ?_
          rintro e w3 ⟨A3, n3, c3, rfl, hn3, hrow3, hc3, hb3⟩
          have hs2 := HBF.out.size
          have HB3 : Hid (Below w1.heap.size w1 w3) := HB2.out.trans (hb3.mono HB2.out.size)
          have HBR : Hid (Below wr.heap.size wr w3) := HBF.out.trans (hb3.mono hs2)
          have hk1 := run_string_row (P := Try.prog) hrow3 c3 22 9 5 Try.underlying22 Try.underlying5 Try.underlying9
          have hk2 := run_string_row (P := Try.prog) (HROW.out.below (HBR.out.mono HBW.out.size)) r.c 22 9 5 Try.underlying22 Try.underlying5 Try.underlying9
          have HF3 : Hid (Row w3 w3.heap.size (some ⟨G, 0, none⟩) nf2 (bv F)) := ((Row.of_own HOF.out).below hb3).more hb3.size
          have HG3 : Hid (w1.heap.size ≤ G ∧ G < w3.heap.size ∧ wr.heap.size ≤ G) := ⟨by omega, by have := hb3.size; omega, hG1⟩
          clear hn3 hrow3 hb3 HB2 HBF HOF
          go_upto_region 20 with fail
          clear hk1 hk2
          have HOB3 := Lib.hid (own_below hob.out HBR.out)
          have HLW3 := Lib.hid (hlw.out.below HBR.out)
          have hs3 : w1.heap.size ≤ w3.heap.size := HB3.out.size
          have HNE : Hid ((Value.slice Af k cf).ownBlock ≠ some G) := fun e => by have := (hlw.out.1.lt G e).2; have := HG3.out; omega
          have HNB : Hid ((Value.slice Ab nb cb).ownBlock ≠ some G) := fun e => by have := (hob.out.lt G e).2; have := HG3.out; omega
          go_upto_region 21 with (at_builtin; refine wpList_app rfl (.tmp 96) (.tmp 98) 32 rfl w1.heap.size 22 j0 (.slice none 0 0) 24 Try.underlying32 ji jz0 jz1 jz2 rfl _ k _ rfl (own_below HLW3.out.1 ((Below.refl _ _).alloc (Nat.le_refl _) _)) _ _ 1 1 _ rfl (row_new w3 _ _ _) (by intro u hu; simp at hu; subst hu; rfl) (by unfold maxLen; omega) (by omega) (by simp; omega) ?_; intro v4 w4 hown4 hg4 hat4; obtain ⟨A4, c4, rfl, _⟩ := own_slice hown4)
          have hbA : Below w3.heap.size w3 (w3.alloc (.cells #[.slice (some ⟨G, 0, none⟩) nf2 cf2] 22)) := (Below.refl _ _).alloc (Nat.le_refl _) _
          have HLWA := HLW3.out.below hbA
          have HLW4 : Hid (LW w1.heap.size w4 (.slice A4 (k + 1) c4) (k + 1) (fs ++ [⟨some ⟨G, 0, none⟩, nf2, cf2, F⟩])) :=
            HLWA.next ((HF3.out.below hbA).more hbA.size) HG3.out.1 (Nat.lt_of_lt_of_le HG3.out.2.1 hbA.size) HNE.out hcf.1 hcf.2 hown4 hg4 hat4
          have hsA : w1.heap.size ≤ (w3.alloc (.cells #[.slice (some ⟨G, 0, none⟩) nf2 cf2] 22)).heap.size := Nat.le_trans hs3 hbA.size
          have HB4 : Hid (Below w1.heap.size w1 w4) := below_app (HB3.out.trans (hbA.mono hs3)) hsA HLWA.1 (Nat.le_refl _) hg4
          have HOB4 : Hid (w4.ownsRow w1.heap.size 5 1 (.slice Ab nb cb) nb (bv (cat ls q k))) := own_grown (own_below HOB3.out hbA) hg4 (own_apart HOB3.out HLW3.out.1 (by decide))
          have HSEP4 : Hid (Sep (.slice Ab nb cb) (fs ++ [⟨some ⟨G, 0, none⟩, nf2, cf2, F⟩])) := hsep.out.snoc HNB.out
          have HQ4 : Hid (Row w4 w1.heap.size Aq nq (bv q)) := HQ1.out.below HB4.out
          have HF4 : Hid (Row w4 w4.heap.size (some ⟨G, 0, none⟩) nf2 (bv F)) := HLW4.out.rows'.2 ⟨some ⟨G, 0, none⟩, nf2, cf2, F⟩ (by simp)
          have HMAP : Hid ((fs ++ [(⟨some ⟨G, 0, none⟩, nf2, cf2, F⟩ : BRow)]).map (·.l) = frs ls (k + 1)) := by
            show List.map _ _ = _
            rw [List.map_append, hfs.out, frs_next, HFK.out]; rfl
          have hs4 : w1.heap.size ≤ w4.heap.size := HB4.out.size
          clear hown4 hg4 hat4 hbA HLWA hsA HLW3 HOB3 HF3 HNE HNB hlw hob hsep HBR HB3 hs3 hs2
          go_upto_region 22 with (first
            | (at_builtin; refine wpList_app rfl (.tmp 100) (.tmp 101) 22 rfl w1.heap.size 5 i0 (.int .u8 0) 1 Try.underlying22 hi hz0 hz1 hz2 rfl _ nb _ rfl HOB4.out _ (some ⟨G, 0, none⟩) nf2 cf2 _ rfl HF4.out (bv_one _) (by unfold maxLen; omega) (by omega) hs4 ?_; intro v5 w5 hown5 hg5 hat5)
            | (at_builtin; refine wpList_app rfl (.tmp 102) (.tmp 103) 22 rfl w1.heap.size 5 i0 (.int .u8 0) 1 Try.underlying22 hi hz0 hz1 hz2 rfl v5 (nb + nf2) _ rfl hown5 _ Aq nq cq _ rfl (HQ4.out.grown hg5 hs4 (fun g h => (HOB4.out.lt g h).1)) (bv_one _) (by unfold maxLen; omega) (by omega) (Nat.le_trans hs4 hg5.size) ?_; intro v6 w6 hown6 hg6 hat6; obtain ⟨A6, c6, rfl, _⟩ := own_slice hown6))
          have HLW5 := HLW4.out.grown hg5 (own_apart HLW4.out.1 HOB4.out (by decide)) HSEP4.out
          have HSEP5 : Sep v5 _ := HSEP4.out.next HLW4.out hat5
          have HB5 := below_app HB4.out hs4 HOB4.out (Nat.le_refl _) hg5
          have HLW6 : Hid (LW w1.heap.size w6 (.slice A4 (k + 1) c4) (k + 1) (fs ++ [⟨some ⟨G, 0, none⟩, nf2, cf2, F⟩])) := HLW5.grown hg6 (own_apart HLW5.1 hown5 (by decide)) HSEP5
          have HSEP6 : Hid (Sep (.slice A6 (nb + nf2 + nq) c6) (fs ++ [⟨some ⟨G, 0, none⟩, nf2, cf2, F⟩])) := HSEP5.next HLW5 hat6
          have HB6 : Hid (Below w1.heap.size w1 w6) := below_app HB5 (Nat.le_trans hs4 hg5.size) hown5 (Nat.le_refl _) hg6
          have HOB6 : Hid (w6.ownsRow w1.heap.size 5 1 (.slice A6 (nb + nf2 + nq) c6) (nb + nf2 + nq) (bv (cat ls q (k + 1)))) := by
            rw [cat_next, bv_append, bv_append, HFK.out]; exact hown6
          have HNB6 : Hid (nb + nf2 + nq = (cat ls q (k + 1)).length) := by
            show _ = _
            rw [cat_next, List.length_append, List.length_append, HFK.out, ← hnbl.out, HFL.out, HQ1.out.blen]
          have HF6 : Hid (Row w6 w6.heap.size (some ⟨G, 0, none⟩) nf2 (bv F)) := HLW6.out.rows'.2 ⟨some ⟨G, 0, none⟩, nf2, cf2, F⟩ (by simp)
          have h291' : Hid (∀ i, i < k + 1 → (ls.getD i []).length ≤ 291) := by
            intro i hi'
            by_cases hik : i < k
            · exact h291.out i hik
            · obtain rfl : i = k := by omega
              have h1 := FrM.frame_length (UInt8.ofNat i) (ls.getD i [])
              have h2 := HFL.out
              rw [← HFK.out] at h2
              unfold fr at h2
              omega
          have hs6 : w1.heap.size ≤ w6.heap.size := HB6.out.size
          clear HLW5 HSEP5 HB5 hown5 hg5 hat5 hown6 hg6 hat6 HLW4 HSEP4 HOB4 HQ4 HF4 HB4 hs4 hnbl h291 hfs HFK
          go_upto_region 23 with (at_builtin; refine wpList_app rfl (.tmp 105) (.tmp 106) 22 rfl w6.heap.size 5 i0 (.int .u8 0) 1 Try.underlying22 hi hz0 hz1 hz2 rfl _ 0 [] rfl (own_lit #[] rfl (Nat.le_refl _) rfl (by unfold maxLen; omega)) _ (some ⟨G, 0, none⟩) nf2 cf2 _ rfl (HF6.out.alloc (Nat.le_refl _) _) (bv_one _) (by unfold maxLen; omega) (by omega) (by simp) ?_; intro v7 w7 hown7 hg7 hat7; obtain ⟨A7, c7, rfl, _⟩ := own_slice hown7)
          have hb7 : Below w6.heap.size w6 w7 := below_new hg7
          have hs7 := hb7.size
          rw [List.nil_append] at hown7
          obtain ⟨g, c7', hv, hg0, hglt⟩ := hown7.form (by omega)
          injection hv with e1 e2 e3
          subst e1 e3
          have hc7 := own_cap hown7
          have hcell7 : w7.cell? ⟨g, 2 + jq, none⟩ = _ := (hown7.cellAt (2 + jq) (by omega)).trans (bv_getD F (2 + jq) (by rw [HFL.out]; omega))
          have hown8 := (hown7.stored (2 + jq) (.int .u8 (bits .xor .u8 ((F.getD (2 + jq) 0).toNat : Int) (x.toNat : Int)))).1
          rw [bv_bend] at hown8
          have hfr := hown7.frozenAt (2 + jq)
          generalize F.getD (2 + jq) 0 = u at *
          have hj0 : (0 : Int) ≤ 2 + (jq : Int) := by omega
          have hj1 : (2 + (jq : Int)) < (nf2 : Int) := by omega
          have HR8 := Lib.hid (Row.of_own hown8)
          have HB8 : Hid (Below w6.heap.size w6 (w7.setCell ⟨g, 2 + jq, none⟩ (.int .u8 (bits .xor .u8 (u.toNat : Int) (x.toNat : Int))))) := hb7.setCell hg0 _
          clear hg7 hat7 hown7 hown8 hb7
          go_wp2_with (rw [HKJ.out])
          generalize w7.setCell ⟨g, 2 + jq, none⟩ (.int .u8 (bits .xor .u8 (u.toNat : Int) (x.toNat : Int))) = w8 at *
          obtain ⟨kk, m, gg, hun, qb, hq1, hq2⟩ := HUB.out
          have HR8' : Hid (Row w8 w8.heap.size (some ⟨g, 0, none⟩) nf2 (bv (bend F (2 + jq) x))) := by have := HR8.out; rwa [Nat.zero_add] at this
          have hc7' : nf2 ≤ c7 ∧ c7 ≤ 9223372036854775807 := by omega
          have HC7 := Lib.hid hc7'
          have HUNB := Lib.hid hun
          have HQ1' := Lib.hid hq1
          have HQ2' := Lib.hid hq2
          clear HR8 hc7 hc7' hun hcell7 hfr HUB HKJ HWR HUN hq1 hq2
          refine (unwrap_any w8.heap.size nf2 c7 (some ⟨g, 0, none⟩) (bend F (2 + jq) x) kk m gg w8 HR8'.out HC7.out.1 HC7.out.2 (Nat.le_refl _) HUNB.out).mono ?_
          rintro e w9 ⟨A9, n9, c9, rfl, _, hb9⟩
          have hB68 : Below w6.heap.size w6 w9 := HB8.out.trans (hb9.out.mono HB8.out.size)
          have HB9 : Hid (Below w1.heap.size w1 w9) := HB6.out.trans (hB68.mono hs6)
          have HOB9 := Lib.hid (own_below HOB6.out hB68)
          have HLW9 := Lib.hid (HLW6.out.below hB68)
          clear hb9 hB68 HB8 HOB6 HLW6 HB6 HR8'
          have hq1 := HQ1'.out
          have hq2 := HQ2'.out
          cases qb
          all_goals
            go_wp2_with fail
            go_roundw
            case rel => exact ⟨k + 1, nb + nf2 + nq, c6, c4, A6, A4, _, by omega, by go_num, rfl, rfl, by omega, HNB6, HOB9, HLW9, HSEP6, HMAP, h291', HB9⟩
            case measure => simp [intOf]; omega
        · obtain rfl : n = k := by omega
          have HSC := Lib.hid (scan_all ls q HND.out n h291.out)
          have HLQ : Hid (q.length = nq) := HQ1.out.blen
          have hcb := Lib.hid (own_cap hob.out)
          have HRB := Lib.hid (Row.of_own hob.out)
          clear hob hsep HLS HND h291
          go_wp2_with fail
          refine (all_any wr.heap.size nb cb Ab (cat ls q n) wr HRB.out hcb.out.1 hcb.out.2 (Nat.le_refl _) (by omega)).mono ?_
          rintro e w2 ⟨Ap, np, cp, ep, cc, rfl, hsp, hlp, hbp⟩
          obtain ⟨he, hcc⟩ := hsp.out.uniq HSC.out
          rw [HLQ.out] at hcc
          have HP1 := Lib.hid hlp.out.rows'
          have HF1 := Lib.hid ((hlw.out.below hbp.out).rows')
          have hnn : np = n := by
            have h1 := HP1.out.1.1
            have h3 := congrArg List.length he
            simp [frs] at h1 h3
            omega
          subst hnn
          have HE : Hid (ep.map (·.l) = fs.map (·.l)) := he.trans hfs.out.symm
          have HCC : Hid (cc = q.length * np) := by show _ = _; rw [HLQ.out]; exact hcc
          have hw : IntKind.i64.wrap ((nq : Int) * (np : Int)) = (cc : Int) := by
            rw [← Int.natCast_mul, ← hcc]
            refine IntWalk.i64_in _ ?_
            have : nq * np ≤ 100 * 20 := Nat.mul_le_mul (by omega) (by omega)
            omega
          have hfn : np ≤ 20 := by omega
          have HSZ : Hid (wr.heap.size ≤ w2.heap.size) := hbp.out.size
          have HB2 : Hid (Below w.heap.size w w2) := HBW.out.trans (hbp.out.mono HBW.out.size)
          have hcc2 : cc ≤ 2000 := by rw [hcc]; exact Nat.mul_le_mul (by omega : nq ≤ 100) hfn
          clear hcc he hsp hlp hbp hlw HRB HSC
          go_wp2_with fail
          clear hw
          go_loopw [156] (fun i wx => ∃ k : Nat, k ≤ np ∧ i = .int .i64 k ∧ Hid (Below w2.heap.size w2 wx)) (fun i _ => np - (intOf i).toNat)
          case atStart => exact ⟨0, by omega, rfl, Below.refl _ _⟩
          case round =>
            obtain ⟨k, hk, rfl, hbx⟩ := hrel
            by_cases hlt2 : k < np
            · obtain ⟨b1, o1, rfl, r, hr, hcell, hrow⟩ := (HP1.out.below hbx.out).at_ hlt2
              obtain ⟨b2, o2, rfl, r', hr', hcell', hrow'⟩ := ((HF1.out.below hbx.out)).at_ hlt2
              have heq : r'.l = r.l := by
                have h1 : (ep.map (·.l))[k]? = some r.l := by rw [List.getElem?_map, hr]; rfl
                have h2 : (fs.map (·.l))[k]? = some r'.l := by rw [List.getElem?_map, hr']; rfl
                rw [HE.out, h2] at h1
                injection h1
              rw [heq] at hrow'
              have hk1 := run_string_row (P := Try.prog) (hrow.drew) r.c 22 9 5 Try.underlying22 Try.underlying5 Try.underlying9
              have hk2 := run_string_row (P := Try.prog) (hrow'.drew) r'.c 22 9 5 Try.underlying22 Try.underlying5 Try.underlying9
              clear hrow hrow' hr hr' heq
              generalize r.l = rl at *
              have hnp : (np : Int) ≤ 9223372036854775807 := by omega
              go_wp2_with fail
              go_region
              all_goals
                go_wp2_with fail
                go_roundw
                case rel => exact ⟨k + 1, by omega, by go_num, hbx.out.drew⟩
                case measure => simp [intOf]; omega
            · have hbw := Lib.hid (HB2.out.trans (hbx.out.mono HB2.out.size))
              have hfl := flat_len hfs.out hnbl.out HCC.out
              have HFL := Lib.hid hfl
              have HFX := Lib.hid (HF1.out.below hbx.out)
              have hsx := hbx.out.size
              clear hfl hbx
              go_wp2_with fail
              refine (join_any w2.heap.size np _ Af fs _ HFX.out (by omega) (by have := HFL.out; omega) hsx).mono ?_
              rintro e w3 ⟨Aj, nj, cj, rfl, hnj, _, hbj⟩
              have hq3 : ((nj : Int) + (cc : Int) == (nb : Int)) = true := by
                have h1 := hnj.out
                have h2 := HFL.out
                rw [show (nj : Int) + (cc : Int) = (nb : Int) by omega]
                exact beq_self_eq_true _
              have hnj2 : nj ≤ 8000 := by have h1 := hnj.out; have h2 := HFL.out; omega
              have HBJ : Hid (Below w.heap.size w w3) := hbw.out.trans (hbj.mono hbw.out.size)
              clear hnj hbj
              go_wp2_with fail
              refine (awake13_any _).mono ?_
              rintro e w4 ⟨rfl, hb4⟩
              go_wp2_with fail
              go_ret
              exact ⟨rfl, HBJ.out.trans (hb4.mono HBJ.out.size)⟩

set_option maxRecDepth 100000 in
theorem frameFound_lifted (os : Os) (started : os.Started) (H : Type) (enc : TypeId × Value → H) :
    ReturnsInHanded {} Try.checked os 5 .any (Rows.frameFoundSpec.pre6 enc Try.prog Try.f5 Rows.frameFoundRow.domain false) (Rows.frameFoundSpec.post enc Try.prog Try.f5 false true false false) := by
  refine law_lift (C := Try.checked) (tb := 4) Try.own started (by kernel_rfl) Try.func5
    (ChangeSpec.witness6 (enc := enc) (C := Try.checked) false ⟨#[], #[.slice none 0 0, .slice none 0 0, .int .i64 0, .int .u8 0], []⟩ 8 (by kernel_rfl) (by kernel_rfl) (by kernel_rfl) (by kernel_rfl)) Try.laidOut (by kernel_rfl) rfl rfl Try.underlying4 ?_ ?_
  · intro ds hds
    match ds, hds with
    | [_, _, _, _], _ => rfl
  intro W base args ds p hval0 hA0 _ _ hsz0
  have hval : ∀ (j : Nat) t v, Try.f5.params[j]? = some t → args[j]? = some v → Value.okWide Try.prog W .any base t v := hval0
  have hA : DataW.TrodAll enc Try.prog W 0 (fun _ => true) true Try.f5.params.toList args.toList ds p := hA0
  rw [Try.params5] at hA hval
  obtain ⟨v0, vs0, d0, ds0, p0, q0, hargs0, hds0, hps0, h0, r0⟩ := trodAll_cons hA
  obtain ⟨v1, vs1, d1, ds1, p1, q1, hargs1, hds1, hps1, h1, r1⟩ := trodAll_cons r0
  obtain ⟨v2, vs2, d2, ds2, p2, q2, hargs2, hds2, hps2, h2, r2⟩ := trodAll_cons r1
  obtain ⟨v3, vs3, d3, ds3, p3, q3, hargs3, hds3, hps3, h3, r3⟩ := trodAll_cons r2
  obtain ⟨e1, _, _⟩ := trodAll_nil r3
  obtain rfl : args = #[v0, v1, v2, v3] := by cases args; simp_all
  obtain ⟨A0, n0, cap0, l0, rfl, hrow0, hnc0, hcm0, hbg0⟩ := open_rows Try.underlying32 Try.underlying22 Try.underlying5 (by kernel_rfl) Try.cells5 (hval 0 32 v0 rfl rfl) h0
  obtain ⟨A1, n1, cap1, l1, rfl, hrow1, hnc1, hcm1⟩ := open_bytes Try.underlying22 Try.underlying5 Try.cells5 (hval 1 22 v1 rfl rfl) h1
  obtain ⟨x2, rfl, hx2, hy2⟩ := open_i64 Try.underlying3 (hval 2 3 v2 rfl rfl) h2
  obtain ⟨x3, rfl⟩ := open_byte Try.underlying5 (hval 3 5 v3 rfl rfl) h3
  exact found_walk A0 n0 cap0 l0 A1 n1 cap1 l1 x2 x3 W hrow0 hrow1

theorem frameFound_holds : Rows.FrameFoundSaid :=
  OpenClaim.holds_of_wide 5 Try.f5 rfl rfl rfl rfl rfl rfl rfl ⟨rfl, rfl, rfl, rfl, rfl⟩ rfl rfl rfl rfl rfl (by kernel_rfl) Try.func5 (by kernel_rfl)
    (of_decide_eq_true (by kernel_rfl)) (by unfold Func.isWrapper; rw [if_neg (of_decide_eq_false (by kernel_rfl))]; exact ⟨rfl, rfl⟩)
    (fun os started H enc _ => frameFound_lifted os started H enc)
end Go.Proofs.Ytghadeingmccfaa
