/- CellTurns: its walk. -/
import Derived.Test.YtmlmpjokmbgmcaaCellAw
import Derived.Test.YtmlmpjokmbgmcaaLaw
namespace Go.Proofs.Ytmlmpjokmbgmcaa
open Go.ChangeShapes Go.WideShapes Go.ChangeAt Go.RowKit
/-- behind k writes of b -/
structure Turn (f : Fl) (k : Nat) (b : List UInt8) : Prop where
  down : f.down = false
  there : f.there = false
  wear : f.wear = 100
  er0 : f.er 0 = ((k + 1) / 2 : Nat)
  er1 : f.er 1 = (k / 2 : Nat)
  er2 : f.er 2 = 0
  ok : f.Ok (300 * k)
  st : k = 0 ∧ Void f ∨ 0 < k ∧ Cur f ((k + 1) % 2) k b
theorem turn_step {g B m cap k : Nat} {A : Option Addr} {b : List UInt8} {f : Fl} {w : World} (hf : FlAt w g f) (hl : Row w B A m (bv b)) (hA : 0 < m → ∀ b o, A = some ⟨b, o, none⟩ → b ≠ g) (hB : B ≤ w.heap.size) (hm : m ≤ 245)
    (hk : k < 40) (ht : Turn f k b) :
    Calls Try.prog 19 #[.pointer (some ⟨g, 0, none⟩), .slice A m cap] w fun e w' => ∃ f', e = .returned (.int .i64 0) ∧ Hid (Done g f' w w') ∧ Hid (Turn f' (k + 1) b) ∧ Hid (f'.steps = f.steps + 1 + m + 11) := by
  have hbl := hl.blen
  rcases ht.st with ⟨rfl, hv⟩ | ⟨h0, hc⟩
  · refine (cwrite_void hf hl hA hB hm ht.down ht.ok (by omega) hv (by rw [ht.er0, ht.wear]; decide) ht.there).mono ?_
    rintro e w' ⟨f', rfl, hd, hw, hok⟩
    obtain ⟨h1, h2, h3, h4⟩ := hw.out.yes rfl
    refine ⟨f', rfl, hd, ⟨h2.trans ht.down, h4 ht.there, hw.out.wear.trans ht.wear, ?_, ?_, ?_, hok.out.more (by omega), .inr ⟨by omega, h1⟩⟩, by show _ = _; rw [h3, hbl]⟩
    · rw [hw.out.er]; unfold erUp; rw [if_pos rfl, ht.er0]; rfl
    · rw [hw.out.er]; unfold erUp; rw [if_neg (by omega), ht.er1]
    · rw [hw.out.er]; unfold erUp; rw [if_neg (by omega), ht.er2]
  · have her : f.er (1 - (k + 1) % 2) < f.wear := by
      rw [ht.wear]
      have e0 := ht.er0
      have e1 := ht.er1
      rcases (show (k + 1) % 2 = 0 ∨ (k + 1) % 2 = 1 by omega) with h | h
      · rw [h]; show f.er 1 < 100; omega
      · rw [h]; show f.er 0 < 100; omega
    refine (cwrite_free hf hl hA hB hm ht.down ht.ok (by omega) hc her (by omega) ht.there).mono ?_
    rintro e w' ⟨f', rfl, hd, hw, hok⟩
    obtain ⟨h1, h2, h3, h4⟩ := hw.out.yes rfl
    refine ⟨f', rfl, hd, ⟨h2.trans ht.down, h4 ht.there, hw.out.wear.trans ht.wear, ?_, ?_, ?_, hok.out.more (by push_cast; omega), .inr ⟨by omega, ?_⟩⟩, by show _ = _; rw [h3, hbl]⟩
    · rw [hw.out.er]; unfold erUp
      have e0 := ht.er0
      split
      · rename_i h; rw [← h, e0]; omega
      · rw [e0]; omega
    · rw [hw.out.er]; unfold erUp
      have e1 := ht.er1
      split
      · rename_i h; rw [← h, e1]; omega
      · rw [e1]; omega
    · rw [hw.out.er]; unfold erUp; rw [if_neg (by omega), ht.er2]
    · rw [show (k + 1 + 1) % 2 = 1 - (k + 1) % 2 by omega]; exact h1
theorem turn_zero (b : List UInt8) : Turn ((flNew 100).fill 0 3584) 0 b := ⟨rfl, rfl, rfl, rfl, rfl, rfl, new_ok 100 (by decide), .inl ⟨rfl, new_void 100⟩⟩
set_option maxRecDepth 100000 in
set_option maxHeartbeats 3200000 in
theorem turns_walk (x : Int) (_ : -9223372036854775808 ≤ x) (_ : x ≤ 9223372036854775807) (A : Option Addr) (m cap : Nat) (b : List UInt8) (w : World) (hl : Row w w.heap.size A m (bv b)) (hmc : m ≤ cap) :
    Calls Try.prog 5 #[.int .i64 x, .slice A m cap] w fun e w' => e = .returned (.bool true) ∧ Below w.heap.size w w' := by
  by_cases hbig : 245 < m
  · go_enter Try.func5, Try.ntmps5
    go_wp2_with fail
    refine (awake17_any _).mono ?_
    rintro e w4 ⟨rfl, hb4⟩
    go_wp2_with fail
    go_ret
    exact ⟨rfl, hb4⟩
  · obtain ⟨i0, hi, hz0, hz1, hz2⟩ := info_parts Try.info5
    obtain ⟨n, hn, hK⟩ := pick_in x 40 (by omega) (by omega)
    have HK := Lib.hid hK
    have hm : m ≤ 245 := by omega
    have HL := Lib.hid hl
    clear hK hbig hl
    go_enter Try.func5, Try.ntmps5
    go_wp2_with (rw [HK.out])
    refine (new_any 100 w ⟨by omega, by omega⟩).mono ?_
    rintro e w1 ⟨g, rfl, hg, hf, hb1⟩
    have HT : Hid (Turn ((flNew 100).fill 0 3584) 0 b) := turn_zero b
    generalize (flNew 100).fill 0 3584 = f0 at *
    have HA : Hid (0 < m → ∀ b o, A = some ⟨b, o, none⟩ → b ≠ g) := by
      intro h0 b' o' e
      obtain ⟨b2, o2, e2, hb2, _⟩ := HL.out.2 h0
      have e3 := e2.symm.trans e
      injection e3 with e3
      injection e3 with e3
      omega
    go_wp2_with fail
    go_loopw [18] (fun i wr => ∃ (k : Nat) (f : Fl), k ≤ n ∧ i = .int .i64 k ∧ Hid (FlAt wr g f) ∧ Hid (Turn f k b) ∧ Hid (Below w.heap.size w wr)) (fun i _ => n - (intOf i).toNat)
    case atStart => exact ⟨0, f0, by omega, rfl, hf, HT, hb1⟩
    case round =>
      clear hf HT hb1
      obtain ⟨k, f, hk, rfl, hf, ht, hb⟩ := hrel
      by_cases hlt : k < n
      · have hs0 := ht.out.ok.1
        have hs1 := ht.out.ok.2.1
        have HST := Lib.hid (steps_any g f wr hf.out)
        obtain ⟨S, hS⟩ : ∃ S, f.steps = S := ⟨_, rfl⟩
        have HW := Lib.hid (turn_step (cap := cap) hf.out (HL.out.below hb.out) HA.out hb.out.size hm (by omega) ht.out)
        rw [hS] at HST hs0 hs1 HW
        go_wp2_with fail
        refine HST.out.mono ?_
        rintro e w2 ⟨rfl, rfl⟩
        go_wp2_with fail
        refine HW.out.mono ?_
        rintro e w3 ⟨f', rfl, hd, ht', hst⟩
        have HS2 := Lib.hid (steps_any g f' w3 hd.out.1)
        rw [hst.out] at HS2
        have HE0 := Lib.hid (erases_any g 0 f' w3 hd.out.1 (by omega))
        have HE1 := Lib.hid (erases_any g 1 f' w3 hd.out.1 (by omega))
        have HE2 := Lib.hid (erases_any g 2 f' w3 hd.out.1 (by omega))
        rw [ht'.out.er0] at HE0
        rw [ht'.out.er1] at HE1
        rw [ht'.out.er2] at HE2
        have HB3 : Hid (Below w.heap.size w w3) := below_done hb.out hd.out hb.out.size hg
        have HF3 := Lib.hid hd.out.1
        have HT3 : Hid (Turn f' (k + 1) b) := ht'
        clear HST HW hd ht' hst hS hf ht hb
        have hq0 : (((k + 1 + 1) / 2 : Nat) : Int) = ((k : Int) + 2) / 2 := by omega
        have hq1 : (((k + 1) / 2 : Nat) : Int) = ((k : Int) + 1) / 2 := by omega
        rw [hq0] at HE0
        rw [hq1] at HE1
        clear hq0 hq1
        go_wp2_with fail
        refine HS2.out.mono ?_
        rintro e w4 ⟨rfl, rfl⟩
        go_wp2_with fail
        refine HE0.out.mono ?_
        rintro e w4 ⟨rfl, rfl⟩
        go_wp2_with fail
        refine HE1.out.mono ?_
        rintro e w4 ⟨rfl, rfl⟩
        go_wp2_with fail
        refine HE2.out.mono ?_
        rintro e w4 ⟨rfl, rfl⟩
        go_wp2_with fail
        go_roundw
        case rel => exact ⟨k + 1, f', by omega, by go_num, HF3, HT3, HB3⟩
        case measure => simp [intOf]; omega
      · obtain rfl : n = k := by omega
        have HB1 : Hid (Below w.heap.size w wr) := hb
        clear hf ht hb
        go_wp2_with (at_make; refine wpList_make_full wr rfl _ _ 27 rfl wr.heap.size 5 i0 (.int .u8 0) 1 Try.underlying27 hi hz0 hz1 .i64 .i64 _ _ 246 rfl rfl rfl rfl (by rw [hz2]; omega) (by unfold maxLen; omega) (Nat.le_refl _) ?_; intro w2 hown2 hg2)
        have HB2 : Hid (Below w.heap.size w w2) := HB1.out.grown hg2 HB1.out.size (by intro q h; cases h)
        clear hown2 hg2
        refine (cwrite_arg _ _ 246 _ _ (by omega)).mono ?_
        rintro e w3 ⟨rfl, rfl⟩
        go_wp2_with fail
        refine (awake17_any _).mono ?_
        rintro e w4 ⟨rfl, hb4⟩
        go_wp2_with fail
        go_ret
        exact ⟨rfl, HB2.out.trans (hb4.mono HB2.out.size)⟩
end Go.Proofs.Ytmlmpjokmbgmcaa
