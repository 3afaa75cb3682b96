/- frame.begins: by contract, whatever the bytes. -/
import Derived.Test.YtghadeingmccfaaFrameAll
namespace Go.Proofs.Ytghadeingmccfaa
open Go.RowKit
open FrM (flen inner frame)
/-- l begins with a frame -/
def frameAt (l : List UInt8) : Prop := 9 ≤ l.length ∧ flen l ≤ l.length ∧ flen l ≤ 300 ∧ headOk (l.take (flen l)) ∧ isRight ((l.take (flen l)).drop 2)
open Classical in
/-- how long the frame is that l begins with -/
noncomputable def beg (l : List UInt8) : Nat := if frameAt l then flen l else 0
theorem beg_no {l : List UInt8} (h : ¬ frameAt l) : beg l = 0 := by unfold beg; rw [if_neg h]
theorem beg_yes {l : List UInt8} (h : frameAt l) : beg l = flen l := by unfold beg; rw [if_pos h]
theorem beg_le (l : List UInt8) : beg l ≤ l.length := by
  by_cases h : frameAt l
  · rw [beg_yes h]; exact h.2.1
  · rw [beg_no h]; omega
set_option maxHeartbeats 800000 in
theorem begins_any (B n cap : Nat) (A : Option Addr) (l : List UInt8) (w : World) (hl : Row w B A n (bv l)) (hn : n ≤ cap) (hcap : cap ≤ 9223372036854775807) (hB : B ≤ w.heap.size) :
    Calls Try.prog 21 #[.slice A n cap] w (IntBelow (beg l : Nat) w) := by
  have hbl := hl.blen
  by_cases h9 : n < 9
  · have hb : beg l = 0 := beg_no fun h => by have := h.1; omega
    rw [hb]
    clear hb hbl
    go_enter Try.func21, Try.ntmps21
    go_wp2_with fail
    go_ret
    exact ⟨rfl, Below.refl _ _⟩
  have hfl : flen l ≤ 65544 := by unfold flen; have := CrcM.b_lt (l.getD 3 0); have := CrcM.b_lt (l.getD 4 0); omega
  have hf9 : 9 ≤ flen l := by unfold flen; omega
  have HLA := Lib.hid (fun w' (h : Row w' B A n (bv l)) => length_any B n cap A l w' h (by omega) hn hcap)
  by_cases hg : n < flen l
  · have hb : beg l = 0 := beg_no fun h => by have := h.2.1; omega
    rw [hb]
    generalize hF : flen l = F at *
    clear hF hb hbl
    go_enter Try.func21, Try.ntmps21
    go_wp2_with fail
    refine (HLA.out _ hl).mono ?_
    rintro e w' ⟨rfl, q, rfl⟩
    go_wp2_with fail
    go_ret
    exact ⟨rfl, below_drewN (Below.refl _ _) q⟩
  have hFc : flen l ≤ cap := by omega
  have hlt : (l.take (flen l)).length = flen l := by rw [List.length_take]; omega
  by_cases hv : frameAt l
  · have hcall : ∀ q, Calls Try.prog 9 #[.slice A (flen l) cap] (w.drewN q) (UnOk ((l.take (flen l)).getD 2 0).toNat (FrM.load (l.take (flen l))) (w.drewN q)) := fun q =>
      unwrap_ok B (flen l) cap A (l.take (flen l)) _ (by rw [← bv_take]; exact (hl.head (by omega)).drewN q) hf9 hv.2.2.1 hFc hcap hB hv.2.2.2.1 hv.2.2.2.2
    have HC := Lib.hid hcall
    rw [beg_yes hv]
    generalize hF : flen l = F at *
    have hF300 : F ≤ 300 := by have := hv.2.2.1; omega
    clear hcall hv hF hbl hlt
    go_enter Try.func21, Try.ntmps21
    go_wp2_with fail
    refine (HLA.out _ hl).mono ?_
    rintro e w' ⟨rfl, q, rfl⟩
    go_wp2_with fail
    refine (HLA.out _ (hl.drewN q)).mono ?_
    rintro e w' ⟨rfl, q', rfl⟩
    go_wp2_with fail
    refine (HC.out (q + q')).mono ?_
    rintro e w2 ⟨A2, n2, c2, rfl, _, _, _, hb2⟩
    go_wp2_with fail
    go_ret
    exact ⟨rfl, (below_drewN (Below.refl _ _) (q + q')).trans hb2⟩
  · have hcall : ∀ q, ∃ r : Int, r ≠ 0 ∧ Calls Try.prog 9 #[.slice A (flen l) cap] (w.drewN q) (UnErr r (w.drewN q)) := by
      intro q
      by_cases h3 : 300 < flen l
      · exact ⟨3, by omega, unwrap_long _ _ _ _ h3⟩
      have hrow : Row (w.drewN q) B A (flen l) (bv (l.take (flen l))) := by rw [← bv_take]; exact (hl.head (by omega)).drewN q
      by_cases hh : headOk (l.take (flen l))
      · refine ⟨_, ?_, unwrap_check B (flen l) cap A (l.take (flen l)) _ hrow hf9 (by omega) hFc hcap hB hh ?_⟩
        · decide
        · exact fun hr => hv ⟨by omega, by omega, by omega, hh, hr⟩
      · exact ⟨3, by omega, unwrap_head B (flen l) cap A (l.take (flen l)) _ hrow hf9 (by omega) hFc hcap hh⟩
    have HC := Lib.hid hcall
    rw [beg_no hv]
    generalize hF : flen l = F at *
    clear hcall hv hF hbl hlt
    go_enter Try.func21, Try.ntmps21
    go_wp2_with fail
    refine (HLA.out _ hl).mono ?_
    rintro e w' ⟨rfl, q, rfl⟩
    go_wp2_with fail
    refine (HLA.out _ (hl.drewN q)).mono ?_
    rintro e w' ⟨rfl, q', rfl⟩
    go_wp2_with fail
    obtain ⟨r, hr0, hcall⟩ := HC.out (q + q')
    have hri : (r == 0) = false := by simp [hr0]
    refine hcall.mono ?_
    rintro e w2 ⟨rfl, hb2⟩
    go_wp2_with fail
    go_ret
    exact ⟨rfl, (below_drewN (Below.refl _ _) (q + q')).trans hb2⟩
end Go.Proofs.Ytghadeingmccfaa
