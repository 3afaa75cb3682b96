/- The reference's copyOf: by contract. -/
import Derived.Test.YtmlmpjokmbgmcaaCellRW
import Derived.Test.YtmlmpjokmbgmcaaRFl
import Derived.Test.YtmlmpjokmbgmcaaR1Right
import Derived.Test.YtmlmpjokmbgmcaaNumR
namespace Go.Proofs.Ytmlmpjokmbgmcaa
open Go.RowKit
theorem plen_num (L : List UInt8) (h : L.length = 256) : CrcM.number ((L.drop 4).take 2) = plen L := by
  match L, h with
  | x0 :: x1 :: x2 :: x3 :: x4 :: x5 :: t, _ => simp [CrcM.number, plen]
theorem partN_take (L : List UInt8) (n : Nat) (h : 4 ≤ n) : CrcM.number ((L.take n).take 4) = partN L := by
  unfold partN; rw [List.take_take, Nat.min_eq_left h]
theorem rsameC {P : Program} {f : FuncId} {args : Array Value} {w : World} {v : Value} (h : Calls P f args w fun e w' => e = .returned v ∧ w = w') : Calls P f args w fun e w' => e = .returned v ∧ w' = w := h.mono fun _ _ ⟨h1, h2⟩ => ⟨h1, h2.symm⟩
def RCopyOk (L : List UInt8) (w : World) (e : Ending) (w' : World) : Prop :=
  ∃ wh num A n c, e = .returned (.tuple #[.int .u32 (num : Nat), .slice A n c, .bool wh]) ∧ Hid (PartIs L w.heap.size w' wh num A n c) ∧ Hid (Below w.heap.size w w')
set_option maxRecDepth 100000 in
set_option maxHeartbeats 3200000 in
theorem rcopy_0 (gB : Nat) (f : Fl) (w : World) (hf : RBody w gB f) :
    Calls Try.prog 74 #[.slice (some ⟨gB, 0, none⟩) 3584 3584, .int .i64 0] w (RCopyOk (f.sub 0 256) w) := by
  have hrow : Row w w.heap.size (some ⟨gB, 0, none⟩) 256 (bv (f.sub 0 256)) := hf.row (by omega)
  have hll : (f.sub 0 256).length = 256 := Fl.sub_length _ _ _
  generalize f.sub 0 256 = L at *
  obtain ⟨pl, hpl⟩ : ∃ pl, plen L = pl := ⟨_, rfl⟩
  have h2 : Row w w.heap.size (some ⟨gB, 0 + 4, none⟩) 2 (bv ((L.drop 4).take 2)) := by
    have := hrow.cut (k := 4) (m := 2) (by omega)
    rwa [bv_drop, bv_take] at this
  have HN2 := Lib.hid (fun cap => rnum_any 2 w.heap.size cap _ _ w h2 (by omega))
  rw [plen_num L hll, hpl] at HN2
  have hpb : pl ≤ 65535 := by
    have := CrcM.b_lt (L.getD 4 0); have := CrcM.b_lt (L.getD 5 0); rw [← hpl]; unfold plen; omega
  by_cases hbig : 245 < pl
  · have HNO : Hid (¬ partOk L) := by rintro ⟨h1, _⟩; omega
    clear hf hrow h2
    go_enter Try.func74, Try.ntmps74
    go_wp2_with fail
    refine (HN2.out _).mono ?_
    rintro e w1 ⟨rfl, rfl⟩
    go_wp2_with fail
    go_ret3
    exact ⟨false, 0, none, 0, 0, rfl, .inr ⟨HNO.out, rfl, rfl, rfl, rfl, rfl⟩, Below.refl _ _⟩
  · have h3 : Row w w.heap.size (some ⟨gB, 0, none⟩) (10 + pl) (bv (L.take (10 + pl))) := by rw [← bv_take]; exact hrow.head (by omega)
    have HLT : Hid ((L.take (10 + pl)).length = 10 + pl) := by show _ = _; rw [List.length_take, hll]; omega
    have hmk : ∀ W, Below w.heap.size w W → W.cell? ⟨gB, 10 + pl, none⟩ = some (.int .u8 ((L.getD (10 + pl) 0).toNat : Int)) := by
      intro W hW
      obtain ⟨b, o, e, _, hkl, hc⟩ := (hrow.below hW).byteAt (k := 10 + pl) (by omega)
      injection e with e
      injection e with e1 e2
      subst e1 e2
      rw [Nat.zero_add] at hc; rw [hc]; simp [List.getD, hkl]
    have HMK := Lib.hid hmk
    by_cases hR : isRight (L.take (10 + pl))
    · have HRT := Lib.hid (fun cap hc hc2 => r1right_yes w.heap.size (10 + pl) cap _ _ w h3 hc hc2 (by omega) (Nat.le_refl _) hR)
      have HPL := Lib.hid hpl
      have HR := Lib.hid hR
      have hq := CrcM.b_lt (L.getD (10 + pl) 0)
      by_cases h0 : L.getD (10 + pl) 0 = 0
      · have HP : Hid (partOk L) := ⟨by omega, by rw [hpl]; exact h0, by rw [hpl]; exact hR⟩
        have hz : (((L.getD (10 + pl) 0).toNat : Int) != 0) = false := by rw [h0]; rfl
        clear hf hrow h2 h3 hmk hR h0
        generalize ((L.getD (10 + pl) 0).toNat : Int) = mk at *
        go_enter Try.func74, Try.ntmps74
        go_wp2_with fail
        refine (HN2.out _).mono ?_
        rintro e w1 ⟨rfl, rfl⟩
        go_wp2_with fail
        refine (HRT.out _ (by omega) (by omega)).mono ?_
        rintro e w2 ⟨A1, n1, c1, rfl, hn1, hown, hb⟩
        have hn2 : n1 = 6 + pl := by have := hn1.out; rw [List.length_take, HLT.out] at this; omega
        subst hn2
        rw [HLT.out, List.take_take, show min (10 + pl - 4) (10 + pl) = 6 + pl by omega] at hown
        have hy := HMK.out w2 hb
        have HB := Lib.hid hb
        have hcap := own_cap hown
        obtain ⟨G, cG, hv, hG1, hG2⟩ := hown.form (by omega)
        injection hv with e1 e2 e3
        subst e1 e3
        have hrw := Row.of_own hown
        have h4r : Row w2 w2.heap.size (some ⟨G, 0, none⟩) 4 (bv (L.take 4)) := by
          have := hrw.head (k := 4) (by omega)
          rwa [bv_take, List.take_take, show min 4 (6 + pl) = 4 by omega] at this
        have h6r : Row w2 w2.heap.size (if c1 = 6 then (some ⟨G, 0, none⟩) else (some (⟨G, 0, none⟩ : Addr)).map fun x => x.add 6) pl (bv (partD L)) := by
          have := hrw.tail (k := 6) (cap := c1) (by omega) hcap.1
          rwa [bv_drop, show 6 + pl - 6 = pl by omega, show (L.take (6 + pl)).drop 6 = partD L by unfold partD; rw [HPL.out]] at this
        have HN4 := Lib.hid (fun q cap => rnum_any 4 w2.heap.size cap _ _ (w2.drewN q) (h4r.drewN q) (by omega))
        have H6R := Lib.hid h6r
        have HG1 : Hid (w.heap.size ≤ G) := hG1
        have HCAP := Lib.hid hcap
        have h4c : (4 : Int) ≤ c1 := by omega
        have h6c : (6 : Int) ≤ c1 := by omega
        have h6p : (6 : Int) ≤ 6 + (pl : Int) := by omega
        clear h4r h6r hb hown hrw hcap hG1 hG2
        by_cases h6 : c1 = 6
        · obtain rfl : pl = 0 := by have := HCAP.out; omega
          subst h6
          go_wp2_with fail
          go_quiet ((go_at_call 64; with_reducible exact Calls.quiet_of_same (rsameC (HN4.out _ _))))
          go_wp2_with fail
          go_ret3
          exact ⟨true, partN L, some ⟨G, 0, none⟩, 0, 0, rfl, .inl ⟨HP.out, rfl, rfl, HPL.out.symm, by omega, by omega, (show Row w2 w2.heap.size (some ⟨G, 0, none⟩) 0 (bv (partD L)) from H6R.out).drewN _, fun g o e h => absurd h (by omega)⟩, below_drewN HB.out _⟩
        · go_wp2_with fail
          go_quiet ((go_at_call 64; with_reducible exact Calls.quiet_of_same (rsameC (HN4.out _ _))))
          go_wp2_with fail
          go_ret3
          have h6q := H6R.out
          rw [if_neg h6, Option.map_some, plain_add] at h6q
          exact ⟨true, partN L, some ⟨G, 6, none⟩, pl, c1 - 6, rfl, .inl ⟨HP.out, rfl, rfl, HPL.out.symm, by have := HCAP.out; omega, by have := HCAP.out; omega, h6q.drewN _, fun g o e _ => by injection e with e; injection e with e; have := HG1.out; omega⟩, below_drewN HB.out _⟩
      · have HNO : Hid (¬ partOk L) := by
          rintro ⟨_, h1, _⟩; rw [HPL.out] at h1; exact h0 h1
        have hz : (((L.getD (10 + pl) 0).toNat : Int) != 0) = true := bne_iff_ne.2 fun e => h0 (UInt8.toNat.inj (by rw [Int.ofNat.inj e]; rfl))
        clear hf hrow h2 h3 hmk hR h0
        generalize ((L.getD (10 + pl) 0).toNat : Int) = mk at *
        go_enter Try.func74, Try.ntmps74
        go_wp2_with fail
        refine (HN2.out _).mono ?_
        rintro e w1 ⟨rfl, rfl⟩
        go_wp2_with fail
        refine (HRT.out _ (by omega) (by omega)).mono ?_
        rintro e w2 ⟨A1, n1, c1, rfl, hn1, hown, hb⟩
        have hy := HMK.out w2 hb
        have HB := Lib.hid hb
        clear hb hown hn1
        go_wp2_with fail
        go_ret3
        exact ⟨false, 0, none, 0, 0, rfl, .inr ⟨HNO.out, rfl, rfl, rfl, rfl, rfl⟩, HB.out⟩
    · have HRT := Lib.hid (fun cap hc hc2 => r1right_no w.heap.size (10 + pl) cap _ _ w h3 hc hc2 (by omega) (Nat.le_refl _) hR)
      have HNO : Hid (¬ partOk L) := by
        rintro ⟨_, _, h1⟩; rw [hpl] at h1; exact hR h1
      clear hf hrow h2 h3 hmk hR
      go_enter Try.func74, Try.ntmps74
      go_wp2_with fail
      refine (HN2.out _).mono ?_
      rintro e w1 ⟨rfl, rfl⟩
      go_wp2_with fail
      refine (HRT.out _ (by omega) (by omega)).mono ?_
      rintro e w2 ⟨rfl, hb⟩
      have HB := Lib.hid hb
      clear hb
      go_wp2_with fail
      go_ret3
      exact ⟨false, 0, none, 0, 0, rfl, .inr ⟨HNO.out, rfl, rfl, rfl, rfl, rfl⟩, HB.out⟩
set_option maxRecDepth 100000 in
set_option maxHeartbeats 3200000 in
theorem rcopy_1 (gB : Nat) (f : Fl) (w : World) (hf : RBody w gB f) :
    Calls Try.prog 74 #[.slice (some ⟨gB, 0, none⟩) 3584 3584, .int .i64 1] w (RCopyOk (f.sub 256 256) w) := by
  have hrow : Row w w.heap.size (some ⟨gB, 256, none⟩) 256 (bv (f.sub 256 256)) := hf.row (by omega)
  have hll : (f.sub 256 256).length = 256 := Fl.sub_length _ _ _
  generalize f.sub 256 256 = L at *
  obtain ⟨pl, hpl⟩ : ∃ pl, plen L = pl := ⟨_, rfl⟩
  have h2 : Row w w.heap.size (some ⟨gB, 256 + 4, none⟩) 2 (bv ((L.drop 4).take 2)) := by
    have := hrow.cut (k := 4) (m := 2) (by omega)
    rwa [bv_drop, bv_take] at this
  have HN2 := Lib.hid (fun cap => rnum_any 2 w.heap.size cap _ _ w h2 (by omega))
  rw [plen_num L hll, hpl] at HN2
  have hpb : pl ≤ 65535 := by
    have := CrcM.b_lt (L.getD 4 0); have := CrcM.b_lt (L.getD 5 0); rw [← hpl]; unfold plen; omega
  by_cases hbig : 245 < pl
  · have HNO : Hid (¬ partOk L) := by rintro ⟨h1, _⟩; omega
    clear hf hrow h2
    go_enter Try.func74, Try.ntmps74
    go_wp2_with fail
    refine (HN2.out _).mono ?_
    rintro e w1 ⟨rfl, rfl⟩
    go_wp2_with fail
    go_ret3
    exact ⟨false, 0, none, 0, 0, rfl, .inr ⟨HNO.out, rfl, rfl, rfl, rfl, rfl⟩, Below.refl _ _⟩
  · have h3 : Row w w.heap.size (some ⟨gB, 256, none⟩) (10 + pl) (bv (L.take (10 + pl))) := by rw [← bv_take]; exact hrow.head (by omega)
    have HLT : Hid ((L.take (10 + pl)).length = 10 + pl) := by show _ = _; rw [List.length_take, hll]; omega
    have hmk : ∀ W, Below w.heap.size w W → W.cell? ⟨gB, 256 + (10 + pl), none⟩ = some (.int .u8 ((L.getD (10 + pl) 0).toNat : Int)) := by
      intro W hW
      obtain ⟨b, o, e, _, hkl, hc⟩ := (hrow.below hW).byteAt (k := 10 + pl) (by omega)
      injection e with e
      injection e with e1 e2
      subst e1 e2
      rw [hc]; simp [List.getD, hkl]
    have HMK := Lib.hid hmk
    by_cases hR : isRight (L.take (10 + pl))
    · have HRT := Lib.hid (fun cap hc hc2 => r1right_yes w.heap.size (10 + pl) cap _ _ w h3 hc hc2 (by omega) (Nat.le_refl _) hR)
      have HPL := Lib.hid hpl
      have HR := Lib.hid hR
      have hq := CrcM.b_lt (L.getD (10 + pl) 0)
      by_cases h0 : L.getD (10 + pl) 0 = 0
      · have HP : Hid (partOk L) := ⟨by omega, by rw [hpl]; exact h0, by rw [hpl]; exact hR⟩
        have hz : (((L.getD (10 + pl) 0).toNat : Int) != 0) = false := by rw [h0]; rfl
        clear hf hrow h2 h3 hmk hR h0
        generalize ((L.getD (10 + pl) 0).toNat : Int) = mk at *
        go_enter Try.func74, Try.ntmps74
        go_wp2_with fail
        refine (HN2.out _).mono ?_
        rintro e w1 ⟨rfl, rfl⟩
        go_wp2_with fail
        refine (HRT.out _ (by omega) (by omega)).mono ?_
        rintro e w2 ⟨A1, n1, c1, rfl, hn1, hown, hb⟩
        have hn2 : n1 = 6 + pl := by have := hn1.out; rw [List.length_take, HLT.out] at this; omega
        subst hn2
        rw [HLT.out, List.take_take, show min (10 + pl - 4) (10 + pl) = 6 + pl by omega] at hown
        have hy := HMK.out w2 hb
        have HB := Lib.hid hb
        have hcap := own_cap hown
        obtain ⟨G, cG, hv, hG1, hG2⟩ := hown.form (by omega)
        injection hv with e1 e2 e3
        subst e1 e3
        have hrw := Row.of_own hown
        have h4r : Row w2 w2.heap.size (some ⟨G, 0, none⟩) 4 (bv (L.take 4)) := by
          have := hrw.head (k := 4) (by omega)
          rwa [bv_take, List.take_take, show min 4 (6 + pl) = 4 by omega] at this
        have h6r : Row w2 w2.heap.size (if c1 = 6 then (some ⟨G, 0, none⟩) else (some (⟨G, 0, none⟩ : Addr)).map fun x => x.add 6) pl (bv (partD L)) := by
          have := hrw.tail (k := 6) (cap := c1) (by omega) hcap.1
          rwa [bv_drop, show 6 + pl - 6 = pl by omega, show (L.take (6 + pl)).drop 6 = partD L by unfold partD; rw [HPL.out]] at this
        have HN4 := Lib.hid (fun q cap => rnum_any 4 w2.heap.size cap _ _ (w2.drewN q) (h4r.drewN q) (by omega))
        have H6R := Lib.hid h6r
        have HG1 : Hid (w.heap.size ≤ G) := hG1
        have HCAP := Lib.hid hcap
        have h4c : (4 : Int) ≤ c1 := by omega
        have h6c : (6 : Int) ≤ c1 := by omega
        have h6p : (6 : Int) ≤ 6 + (pl : Int) := by omega
        clear h4r h6r hb hown hrw hcap hG1 hG2
        by_cases h6 : c1 = 6
        · obtain rfl : pl = 0 := by have := HCAP.out; omega
          subst h6
          go_wp2_with fail
          go_quiet ((go_at_call 64; with_reducible exact Calls.quiet_of_same (rsameC (HN4.out _ _))))
          go_wp2_with fail
          go_ret3
          exact ⟨true, partN L, some ⟨G, 0, none⟩, 0, 0, rfl, .inl ⟨HP.out, rfl, rfl, HPL.out.symm, by omega, by omega, (show Row w2 w2.heap.size (some ⟨G, 0, none⟩) 0 (bv (partD L)) from H6R.out).drewN _, fun g o e h => absurd h (by omega)⟩, below_drewN HB.out _⟩
        · go_wp2_with fail
          go_quiet ((go_at_call 64; with_reducible exact Calls.quiet_of_same (rsameC (HN4.out _ _))))
          go_wp2_with fail
          go_ret3
          have h6q := H6R.out
          rw [if_neg h6, Option.map_some, plain_add] at h6q
          exact ⟨true, partN L, some ⟨G, 6, none⟩, pl, c1 - 6, rfl, .inl ⟨HP.out, rfl, rfl, HPL.out.symm, by have := HCAP.out; omega, by have := HCAP.out; omega, h6q.drewN _, fun g o e _ => by injection e with e; injection e with e; have := HG1.out; omega⟩, below_drewN HB.out _⟩
      · have HNO : Hid (¬ partOk L) := by
          rintro ⟨_, h1, _⟩; rw [HPL.out] at h1; exact h0 h1
        have hz : (((L.getD (10 + pl) 0).toNat : Int) != 0) = true := bne_iff_ne.2 fun e => h0 (UInt8.toNat.inj (by rw [Int.ofNat.inj e]; rfl))
        clear hf hrow h2 h3 hmk hR h0
        generalize ((L.getD (10 + pl) 0).toNat : Int) = mk at *
        go_enter Try.func74, Try.ntmps74
        go_wp2_with fail
        refine (HN2.out _).mono ?_
        rintro e w1 ⟨rfl, rfl⟩
        go_wp2_with fail
        refine (HRT.out _ (by omega) (by omega)).mono ?_
        rintro e w2 ⟨A1, n1, c1, rfl, hn1, hown, hb⟩
        have hy := HMK.out w2 hb
        have HB := Lib.hid hb
        clear hb hown hn1
        go_wp2_with fail
        go_ret3
        exact ⟨false, 0, none, 0, 0, rfl, .inr ⟨HNO.out, rfl, rfl, rfl, rfl, rfl⟩, HB.out⟩
    · have HRT := Lib.hid (fun cap hc hc2 => r1right_no w.heap.size (10 + pl) cap _ _ w h3 hc hc2 (by omega) (Nat.le_refl _) hR)
      have HNO : Hid (¬ partOk L) := by
        rintro ⟨_, _, h1⟩; rw [hpl] at h1; exact hR h1
      clear hf hrow h2 h3 hmk hR
      go_enter Try.func74, Try.ntmps74
      go_wp2_with fail
      refine (HN2.out _).mono ?_
      rintro e w1 ⟨rfl, rfl⟩
      go_wp2_with fail
      refine (HRT.out _ (by omega) (by omega)).mono ?_
      rintro e w2 ⟨rfl, hb⟩
      have HB := Lib.hid hb
      clear hb
      go_wp2_with fail
      go_ret3
      exact ⟨false, 0, none, 0, 0, rfl, .inr ⟨HNO.out, rfl, rfl, rfl, rfl, rfl⟩, HB.out⟩
end Go.Proofs.Ytmlmpjokmbgmcaa
