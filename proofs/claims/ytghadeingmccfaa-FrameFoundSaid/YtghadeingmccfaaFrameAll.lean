/- frame.begins and frame.All where there is no D. -/
import Derived.Test.YtghadeingmccfaaFrameAwake
namespace Go.Proofs.Ytghadeingmccfaa
open Go.RowKit
open FrM (flen inner frame)

def IntBelow (k : Int) (w : World) (e : Ending) (w' : World) : Prop := e = .returned (.int .i64 k) ∧ Below w.heap.size w w'
set_option maxHeartbeats 400000 in
theorem begins_none (B n cap : Nat) (A : Option Addr) (l : List UInt8) (w : World) (hl : Row w B A n (bv l)) (hn : n ≤ cap) (hcap : cap ≤ 9223372036854775807) (hB : B ≤ w.heap.size) (hh : l.getD 0 0 ≠ 68) :
    Calls Try.prog 21 #[.slice A n cap] w (IntBelow 0 w) := by
  have HH := Lib.hid hh
  clear hh
  by_cases h9 : n < 9
  · go_enter Try.func21, Try.ntmps21
    go_wp2_with fail
    go_ret
    exact ⟨rfl, Below.refl _ _⟩
  · have hfl : flen l ≤ 65544 := by unfold flen; have := CrcM.b_lt (l.getD 3 0); have := CrcM.b_lt (l.getD 4 0); omega
    have hf9 : 9 ≤ flen l := by unfold flen; omega
    have HLA := Lib.hid (fun w' (h : Row w' B A n (bv l)) => length_any B n cap A l w' h (by omega) hn hcap)
    generalize hF : flen l = F at *
    have HF := Lib.hid hF
    clear hF
    by_cases hg : n < F
    · go_enter Try.func21, Try.ntmps21
      go_wp2_with fail
      refine (HLA.out _ hl).mono ?_
      rintro e w' ⟨rfl, q, rfl⟩
      go_wp2_with fail
      go_ret
      exact ⟨rfl, below_drewN (Below.refl _ _) q⟩
    · have hcall : ∀ q, Calls Try.prog 9 #[.slice A F cap] (w.drewN q) (UnErr 3 (w.drewN q)) := by
        intro q
        by_cases h3 : 300 < F
        · exact unwrap_long _ _ _ _ h3
        · refine unwrap_head B F cap A (l.take F) _ (by rw [← bv_take]; exact (hl.head (by omega)).drewN q) hf9 (by omega) (by omega) hcap ?_
          rintro ⟨h0, _⟩
          refine HH.out ?_
          rw [← h0]
          simp [List.getD, List.getElem?_take]
          rw [if_pos (by omega)]
      have HC := Lib.hid hcall
      clear hcall
      have hFc : F ≤ cap := by omega
      go_enter Try.func21, Try.ntmps21
      go_wp2_with fail
      refine (HLA.out _ hl).mono ?_
      rintro e w' ⟨rfl, q, rfl⟩
      go_wp2_with fail
      refine (HLA.out _ (hl.drewN q)).mono ?_
      rintro e w' ⟨rfl, q', rfl⟩
      go_wp2_with fail
      refine (HC.out (q + q')).mono ?_
      rintro e w2 ⟨rfl, hb2⟩
      go_wp2_with fail
      go_ret
      exact ⟨rfl, (below_drewN (Below.refl _ _) (q + q')).trans hb2⟩

def NoFrames (n : Nat) (w : World) (e : Ending) (w' : World) : Prop := e = .returned (.tuple #[.slice none 0 0, .int .i64 (n : Int)]) ∧ Below w.heap.size w w'
set_option maxHeartbeats 400000 in
theorem all_none (B n cap : Nat) (A : Option Addr) (l : List UInt8) (w : World) (hl : Row w B A n (bv l)) (hn : n ≤ cap) (hcap : cap ≤ 9223372036854775807) (hB : B ≤ w.heap.size) (h2 : n ≤ 20000) (hh : ∀ x ∈ l, x ≠ 68) :
    Calls Try.prog 11 #[.slice A n cap] w (NoFrames n w) := by
  have HH := Lib.hid hh
  have HB := Lib.hid hl.blen
  clear hh
  go_enter Try.func11, Try.ntmps11
  go_wp2_with fail
  go_loopw [0, 4, 5] (fun s v c wr => ∃ (k m cp : Nat) (A' : Option Addr), k + m = n ∧ s = .slice A' m cp ∧ v = .slice none 0 0 ∧ c = .int .i64 k ∧ Row wr B A' m (bv (l.drop k)) ∧ (m ≤ cp ∧ cp ≤ 9223372036854775807) ∧ Below w.heap.size w wr) (fun s _ _ _ => match s with | .slice _ m _ => m | _ => 0)
  case atStart => exact ⟨0, n, cap, A, by omega, rfl, rfl, rfl, hl, ⟨hn, hcap⟩, Below.refl _ _⟩
  case round =>
    obtain ⟨k, m, cp, A', hkm, rfl, rfl, rfl, hrow, hcp, hbk⟩ := hrel
    by_cases hm : m = 0
    · subst hm
      go_wp2_with fail
      have hkn : k = n := by omega
      subst hkn
      go_ret2
      exact ⟨rfl, hbk⟩
    · obtain ⟨m', rfl⟩ : ∃ m', m = m' + 1 := ⟨m - 1, by omega⟩
      obtain ⟨cp', rfl⟩ : ∃ cp', cp = cp' + 1 := ⟨cp - 1, by omega⟩
      go_wp2_with fail
      refine (begins_none B (m' + 1) (cp' + 1) A' (l.drop k) wr hrow hcp.1 hcp.2 (by have := hbk.size; omega) ?_).mono ?_
      · have hkl : k < l.length := by rw [HB.out]; omega
        rw [show (l.drop k).getD 0 0 = l[k] by simp [List.getD, hkl]]
        exact HH.out _ (List.getElem_mem hkl)
      rintro e w2 ⟨rfl, hb2⟩
      go_wp2_with fail
      have hrow2 := (hrow.below (hb2.mono (by have := hbk.size; omega))).next (c := cp') (by omega)
      rw [bv_drop, List.drop_drop] at hrow2
      have hbk2 := hbk.trans (hb2.mono hbk.size)
      clear hrow hb2 hbk
      go_roundw
      case rel => exact ⟨k + 1, m', cp', _, by omega, rfl, rfl, by go_num, hrow2, ⟨by omega, by omega⟩, hbk2⟩
      case measure => simp
end Go.Proofs.Ytghadeingmccfaa
