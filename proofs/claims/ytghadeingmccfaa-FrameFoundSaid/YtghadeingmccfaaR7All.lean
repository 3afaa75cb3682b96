/- The reference's All: by contract. -/
import Derived.Test.YtghadeingmccfaaR7Frame
namespace Go.Proofs.Ytghadeingmccfaa
open Go.RowKit
open FrM (flen inner frame)
theorem r7unwrap_frame (B m cap : Nat) (A : Option Addr) (rest : List UInt8) (w : World) (F : Nat) (hF : flen rest = F) (hlen : F ≤ rest.length) (hl : Row w B A F (bv (rest.take F))) (h9 : 9 ≤ F) (hn : F ≤ cap) (hcap : cap ≤ 9223372036854775807) (hB : B ≤ w.heap.size) (hv : frameAt rest) :
    Calls Try.prog 10 #[.slice A F cap] w (UnOk ((rest.take F).getD 2 0).toNat (FrM.load (rest.take F)) w) := by
  subst hF
  exact r7unwrap_ok B _ cap A _ w hl h9 hv.2.2.1 hn hcap hB hv.2.2.2.1 hv.2.2.2.2
theorem r7unwrap_none (B cap : Nat) (A : Option Addr) (rest : List UInt8) (w : World) (F : Nat) (hF : flen rest = F) (hlen : F ≤ rest.length) (hl : Row w B A F (bv (rest.take F))) (h9 : 9 ≤ F) (hn : F ≤ cap) (hcap : cap ≤ 9223372036854775807) (hB : B ≤ w.heap.size) (hv : ¬ frameAt rest) :
    ∃ r : Int, r ≠ 0 ∧ Calls Try.prog 10 #[.slice A F cap] w (UnErr r w) := by
  subst hF
  by_cases h3 : 300 < flen rest
  · exact ⟨3, by omega, r7unwrap_long _ _ _ _ h3⟩
  by_cases hh : headOk (rest.take (flen rest))
  · exact ⟨4, by omega, r7unwrap_check B _ cap A _ w hl h9 (by omega) hn hcap hB hh fun hr => hv ⟨by omega, hlen, by omega, hh, hr⟩⟩
  · exact ⟨3, by omega, r7unwrap_head B _ cap A _ w hl h9 (by omega) hn hcap hh⟩
set_option maxHeartbeats 1600000 in
theorem r7all_any (B n cap : Nat) (A : Option Addr) (l : List UInt8) (w : World) (hl : Row w B A n (bv l)) (hn : n ≤ cap) (hcap : cap ≤ 9223372036854775807) (hB : B ≤ w.heap.size) (h2 : n ≤ 20000) :
    Calls Try.prog 12 #[.slice A n cap] w (AllOk l w) := by
  obtain ⟨i0, hi, hz0, hz1, hz2⟩ := info_parts Try.info22
  have HBL := Lib.hid hl.blen
  go_enter Try.func12, Try.ntmps12
  go_wp2_with fail
  go_loopw [4, 5, 6] (fun v c i wr => ∃ (k nv cv : Nat) (Av : Option Addr) (es : List BRow) (nc : Nat), v = .slice Av nv cv ∧ c = .int .i64 nc ∧ i = .int .i64 k ∧ k ≤ n ∧ Hid (Below w.heap.size w wr) ∧ Hid (LW w.heap.size wr (.slice Av nv cv) nv es) ∧ Hid (∀ fs' k', Scan (l.drop k) fs' k' → Scan l (es.map (·.l) ++ fs') (nc + k')) ∧ nc + nv ≤ k) (fun _ _ i _ => n - (intOf i).toNat)
  case atStart => exact ⟨0, 0, 0, none, [], 0, rfl, rfl, rfl, by omega, Below.refl _ _, ⟨World.ownsRow_nil _ _ _ _, fun r hr => by cases hr⟩, fun fs k h => by simpa using h, by omega⟩
  case round =>
    obtain ⟨k, nv, cv, Av, es, nc, rfl, rfl, rfl, hk, hb, hLW, hsc, hle⟩ := hrel
    have hrl : (l.drop k).length = n - k := by rw [List.length_drop, HBL.out]
    by_cases hkn : k = n
    · subst hkn
      have HSC : Hid (Scan l (es.map (·.l)) nc) := by
        have := hsc.out [] 0 (by rw [List.eq_nil_of_length_eq_zero (by omega : (l.drop k).length = 0)]; exact Scan.done)
        simpa [Hid] using this
      clear hsc hrl
      go_wp2_with fail
      go_ret2
      exact ⟨Av, nv, cv, es, nc, rfl, HSC.out, hLW.out, hb.out⟩
    have hsz := hb.out.size
    have hki : (k : Int) < (n : Int) := by omega
    have hni : (n : Int) ≤ 20000 := by omega
    have HNO : Hid (beg (l.drop k) = 0 → ∀ fs' k', Scan (l.drop (k + 1)) fs' k' → Scan l (es.map (·.l) ++ fs') (nc + 1 + k')) := fun hF fs k' h => by
      have := hsc.out fs (k' + 1) (Scan.none (by omega) hF (by rw [List.drop_drop]; exact h))
      rwa [show nc + (k' + 1) = nc + 1 + k' by omega] at this
    by_cases h9 : n < k + 9
    · have h9i : ¬ (k : Int) + 9 ≤ (n : Int) := by omega
      have HSC := Lib.hid (HNO.out (beg_no fun h => by have := h.1; omega))
      clear hsc HNO hrl
      go_wp2_with fail
      go_roundw
      case rel => exact ⟨k + 1, nv, cv, Av, es, nc + 1, rfl, by go_num, by go_num, by omega, hb, hLW, HSC.out, by omega⟩
      case measure => simp [intOf]; omega
    have h9i : (k : Int) + 9 ≤ (n : Int) := by omega
    obtain ⟨b, o, rfl, _⟩ := hl.byteAt (k := 0) (by omega)
    have hlw : Row wr B (some ⟨b, o, none⟩) n (bv l) := hl.below (hb.out.mono hB)
    have hrow3 : Row wr B (some ⟨b, o + (k + 3), none⟩) 2 (bv (((l.drop k).drop 3).take 2)) := by
      rw [List.drop_drop, ← bv_take, ← bv_drop]
      exact hlw.sub (k := k + 3) (m := 2) (by omega) (fun b' o' e _ => by injection e with e; injection e with e1 e2; subst e1 e2; rfl)
    have hnum := number_two (l.drop k) (by omega)
    obtain ⟨q, hq⟩ : ∃ q, CrcM.number (((l.drop k).drop 3).take 2) = q := ⟨_, rfl⟩
    have hq3 : q ≤ 65535 := by
      have h1 := CrcM.b_lt ((l.drop k).getD 3 0)
      have h2 := CrcM.b_lt ((l.drop k).getD 4 0)
      unfold flen at hnum
      omega
    obtain ⟨F, hF⟩ : ∃ F, flen (l.drop k) = F := ⟨_, rfl⟩
    have hqF : q + 9 = F := by omega
    have HN := Lib.hid (fun c => r1number2 B c _ _ wr hrow3)
    rw [hq] at HN
    have hqi : (q : Int) + 9 = (F : Int) := by omega
    by_cases hFl : n < k + F
    · have hFi : ¬ (k : Int) + (F : Int) ≤ (n : Int) := by omega
      have HSC := Lib.hid (HNO.out (beg_no fun h => by have := h.2.1; omega))
      clear hsc HNO hrl hnum hq hF hrow3 hqF
      go_wp2_with fail
      refine (HN.out _).mono ?_
      rintro e w' ⟨rfl, rfl⟩
      go_wp2_with fail
      go_roundw
      case rel => exact ⟨k + 1, nv, cv, Av, es, nc + 1, rfl, by go_num, by go_num, by omega, hb, hLW, HSC.out, by omega⟩
      case measure => simp [intOf]; omega
    have hFi : (k : Int) + (F : Int) ≤ (n : Int) := by omega
    have hrowF : Row wr B (some ⟨b, o + k, none⟩) F (bv ((l.drop k).take F)) := by
      rw [← bv_take, ← bv_drop]
      exact hlw.sub (k := k) (m := F) (by omega) (fun b' o' e _ => by injection e with e; injection e with e1 e2; subst e1 e2; rfl)
    have hBw : B ≤ wr.heap.size := by omega
    have hlenF : F ≤ (l.drop k).length := by omega
    have h9F : 9 ≤ F := by omega
    have hcF : F ≤ cap - k := by omega
    have HRF := Lib.hid hrowF
    by_cases hv : frameAt (l.drop k)
    · have HU := Lib.hid (r7unwrap_frame B n (cap - k) _ (l.drop k) wr F hF hlenF hrowF h9F hcF (by omega) hBw hv)
      have hbe : beg (l.drop k) = F := by rw [beg_yes hv, hF]
      have hF300 : F ≤ 300 := by have := hv.2.2.1; omega
      have HSC : Hid (∀ fs' k', Scan (l.drop (k + F)) fs' k' → Scan l ((es.map (·.l) ++ [(l.drop k).take F]) ++ fs') (nc + k')) := fun fs k' h => by
        have := Scan.some (l := l.drop k) (by omega) (by rw [hbe, List.drop_drop]; exact h)
        rw [hbe] at this
        have := hsc.out _ _ this
        simpa using this
      have HFL : Hid (((l.drop k).take F).length = F) := by show _ = _; rw [List.length_take]; omega
      clear hsc HNO hrl hnum hq hF hrow3 hqF hrowF hv hbe hlw hlenF
      generalize (l.drop k).take F = fr at *
      go_wp2_with fail
      refine (HN.out _).mono ?_
      rintro e w' ⟨rfl, rfl⟩
      go_wp2_with fail
      refine HU.out.mono ?_
      rintro e w2 ⟨A2, n2, c2, rfl, _, _, _, hb2⟩
      have HB2 : Hid (Below w.heap.size w w2) := hb.out.trans (hb2.mono hsz)
      have HLW2 := Lib.hid (hLW.out.below hb2)
      have HR2 : Hid (Row w2 w2.heap.size (some ⟨b, o + k, none⟩) F (bv fr)) := (HRF.out.below (hb2.mono hBw)).more (Nat.le_trans hBw hb2.size)
      clear hb2 HU HN
      go_wp2_with fail
      refine (join1 F (cap - k) (some ⟨b, o + k, none⟩) fr w2 HR2.out (by omega) w2.heap.size rfl).mono ?_
      rintro e w3 ⟨A3, n3, c3, rfl, hn3, hown3, hb3⟩
      have hbA3 : Below w2.heap.size w2 w3 := ((Below.refl _ _).alloc (Nat.le_refl _) _).trans (hb3.mono (by simp))
      obtain rfl : n3 = F := hn3.out.trans HFL.out
      obtain ⟨G, cG, hv, hG1, hG2⟩ := hown3.form (by omega)
      injection hv with e1 e2 e3
      subst e1 e3
      have hG1' : w2.heap.size ≤ G := by simp at hG1; omega
      have HLW3 := Lib.hid (HLW2.out.below hbA3)
      have HC3 := Lib.hid (own_cap hown3)
      have HG3 : Hid (Row w3 w3.heap.size (some ⟨G, 0, none⟩) n3 (bv fr)) := Row.of_own hown3
      have HNE : Hid ((Value.slice Av nv cv).ownBlock ≠ some G) := fun e => by have := (HLW2.out.1.lt G e).2; omega
      have HB3 : Hid (Below w.heap.size w w3) := HB2.out.trans (hbA3.mono HB2.out.size)
      have hw3 : w.heap.size ≤ w3.heap.size := HB3.out.size
      have HG12 : Hid (w.heap.size ≤ G ∧ G < w3.heap.size) := ⟨by have := HB2.out.size; omega, hG2⟩
      clear hown3 hn3 HR2 HLW2 hb3 hbA3 HB2 hG1 hG2 hG1'
      go_wp2_with (at_builtin; refine wpList_app rfl (.tmp 51) (.tmp 60) 32 rfl w.heap.size 22 i0 (.slice none 0 0) 24 Try.underlying32 hi hz0 hz1 hz2 rfl _ nv _ rfl (own_below HLW3.out.1 ((Below.refl _ _).alloc (Nat.le_refl _) _)) _ _ 1 1 _ rfl (row_new w3 _ _ _) (by intro u hu; simp at hu; subst hu; rfl) (by unfold maxLen; omega) (by omega) (by simp; omega) ?_; intro v4 w4 hown4 hg4 hat4)
      obtain ⟨A4, c4, rfl, _⟩ := own_slice hown4
      have hg5 : (w3.alloc (.cells #[.slice (some ⟨G, 0, none⟩) n3 c3] 22)).grownBy w4 (Value.slice Av nv cv).ownBlock := hg4
      have hat5 : (Value.slice A4 (nv + 1) c4).ownBlock = (Value.slice Av nv cv).ownBlock ∨ (Value.slice A4 (nv + 1) c4).ownBlock = some (w3.alloc (.cells #[.slice (some ⟨G, 0, none⟩) n3 c3] 22)).heap.size := hat4
      have hbA : Below w3.heap.size w3 (w3.alloc (.cells #[.slice (some ⟨G, 0, none⟩) n3 c3] 22)) := (Below.refl _ _).alloc (Nat.le_refl _) _
      have HLWA := HLW3.out.below hbA
      have HLW4 : Hid (LW w.heap.size w4 (.slice A4 (nv + 1) c4) (nv + 1) (es ++ [⟨some ⟨G, 0, none⟩, n3, c3, fr⟩])) :=
        HLWA.next ((HG3.out.below hbA).more hbA.size) HG12.out.1 (Nat.lt_of_lt_of_le HG12.out.2 hbA.size) HNE.out HC3.out.1 HC3.out.2 hown4 hg5 hat5
      have hsA : w.heap.size ≤ (w3.alloc (.cells #[.slice (some ⟨G, 0, none⟩) n3 c3] 22)).heap.size := Nat.le_trans hw3 hbA.size
      have HB4 : Hid (Below w.heap.size w w4) := below_app (HB3.out.trans (hbA.mono hw3)) hsA HLWA.1 (Nat.le_refl _) hg5
      have HSC4 : Hid (∀ fs' k', Scan (l.drop (k + n3)) fs' k' → Scan l ((es ++ [(⟨some ⟨G, 0, none⟩, n3, c3, fr⟩ : BRow)]).map (·.l) ++ fs') (nc + k')) := by
        intro fs k' h
        rw [List.map_append]
        exact HSC.out fs k' h
      clear hown4 hg4 hat4 hg5 hat5 HSC
      go_roundw
      case rel => exact ⟨k + n3, nv + 1, c4, A4, _, nc, rfl, rfl, by go_num, by omega, HB4, HLW4, HSC4, by omega⟩
      case measure => simp [intOf]; omega
    · obtain ⟨r, hr0, hcall⟩ := r7unwrap_none B (cap - k) _ (l.drop k) wr F hF hlenF hrowF h9F hcF (by omega) hBw hv
      have HU := Lib.hid hcall
      have hri : (r == 0) = false := by simp [hr0]
      have HSC := Lib.hid (HNO.out (beg_no hv))
      clear hsc HNO hrl hnum hq hF hrow3 hqF hrowF hv hlw hlenF hcall hr0
      go_wp2_with fail
      refine (HN.out _).mono ?_
      rintro e w' ⟨rfl, rfl⟩
      go_wp2_with fail
      refine HU.out.mono ?_
      rintro e w2 ⟨rfl, hb2⟩
      have HB2 : Hid (Below w.heap.size w w2) := hb.out.trans (hb2.mono hsz)
      have HLW2 := Lib.hid (hLW.out.below hb2)
      clear hb2 HU HN
      go_wp2_with fail
      go_roundw
      case rel => exact ⟨k + 1, nv, cv, Av, es, nc + 1, rfl, by go_num, by go_num, by omega, HB2, HLW2, HSC.out, by omega⟩
      case measure => simp [intOf]; omega
end Go.Proofs.Ytghadeingmccfaa
