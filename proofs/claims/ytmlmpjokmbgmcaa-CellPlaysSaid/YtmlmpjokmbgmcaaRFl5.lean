/- The reference's Flash: Read, Blank: by contracts. -/
import Derived.Test.YtmlmpjokmbgmcaaRFl4
import Derived.Test.YtmlmpjokmbgmcaaR1Join
namespace Go.Proofs.Ytmlmpjokmbgmcaa
open Go.RowKit
theorem mayE_bad {f : Fl} {a n : Int} (hd : f.down = false) (hk : mayE f a n ≠ 0) : mayE f a n = 1 ∧ ¬ (0 ≤ n ∧ n ≤ 3584 ∧ 0 ≤ a ∧ a ≤ 3584 - n) := by
  unfold mayE at hk ⊢
  rw [hd] at hk ⊢
  simp only [Bool.false_eq_true, if_false] at hk ⊢
  by_cases h : n < 0 ∨ a < 0 ∨ 3584 - n < a
  · rw [if_pos h]; exact ⟨rfl, by omega⟩
  · rw [if_neg h] at hk; exact absurd rfl hk
set_option maxRecDepth 100000 in
set_option maxHeartbeats 800000 in
theorem rread_bad (gm gB : Nat) (a n k : Int) (f : Fl) (w : World) (hf : RfAt w gm gB f) (hn : -9223372036854775808 ≤ n ∧ n ≤ 9223372036854775807) (hk : mayE f a n = k) (hk0 : k ≠ 0) :
    Calls Try.prog 81 #[.pointer (some ⟨gm, 0, none⟩), .int .i64 a, .int .i64 n] w fun e w' => e = .returned (.tuple #[.slice none 0 0, .int .i64 k]) ∧ w = w' := by
  have hoff := hf.off
  cases hd : f.down with
  | true =>
    have hk2 : k = 11 := by rw [← hk]; unfold mayE; rw [hd]; rfl
    subst hk2
    rw [hd] at hoff
    clear hk hd hf hk0
    go_enter Try.func81, Try.ntmps81
    go_wp2_with fail
    go_ret2
    exact ⟨rfl, rfl⟩
  | false =>
    obtain ⟨q1, q2⟩ := mayE_bad hd (by rw [hk]; exact hk0)
    obtain rfl : k = 1 := hk.symm.trans q1
    have HM := Lib.hid (rthere_no a n w hn q2)
    rw [hd] at hoff
    clear hk hd hf hk0 q1 q2
    go_enter Try.func81, Try.ntmps81
    go_wp2_with fail
    refine HM.out.mono ?_
    rintro e w' ⟨rfl, rfl⟩
    go_wp2_with fail
    go_ret2
    exact ⟨rfl, rfl⟩
set_option maxRecDepth 100000 in
set_option maxHeartbeats 1600000 in
theorem rread_ok (gm gB a n : Nat) (f : Fl) (w : World) (hf : RfAt w gm gB f) (hd : f.down = false) (h : a + n ≤ 3584) :
    Calls Try.prog 81 #[.pointer (some ⟨gm, 0, none⟩), .int .i64 (a : Int), .int .i64 (n : Int)] w (ReadOk (f.sub a n) w) := by
  have hoff := hf.off
  rw [hd] at hoff
  have hc0 := hf.slot0
  have HM := Lib.hid (rthere_yes (a : Int) (n : Int) w ⟨by omega, by omega, by omega, by omega⟩)
  have HR := Lib.hid (hf.2.1.row (a := a) (n := n) h)
  have HSL := Lib.hid (f.sub_length a n)
  have h0 : (0 : Int) ≤ (a : Int) := by omega
  have h1 : (a : Int) + n ≤ 3584 := by omega
  have h2 : (a : Int) ≤ (a : Int) + n := by omega
  have key : ∀ A cap, Row w w.heap.size A n (bv (f.sub a n)) → Calls Try.prog 50 #[.slice (some ⟨w.heap.size, 0, none⟩) 1 1] (w.alloc (.cells #[.slice A n cap] 27)) (FreshBytes (w.heap.size + 1) (f.sub a n) (w.alloc (.cells #[.slice A n cap] 27))) := by
    intro A cap hr
    have hj := join_any (w.heap.size + 1) 1 1 (some ⟨w.heap.size, 0, none⟩) [⟨A, n, cap, f.sub a n⟩] (w.alloc (.cells #[.slice A n cap] 27)) ⟨row_new w #[.slice A n cap] 27 (0, 0), fun r hr' => by
      simp only [List.mem_singleton] at hr'
      subst hr'
      exact (hr.alloc (Nat.le_refl _) _).more (by omega)⟩ (by omega) (by simp [flat, Fl.sub_length]; omega) (by simp)
    have e : flat [(⟨A, n, cap, f.sub a n⟩ : BRow)] = f.sub a n := by simp [flat]
    rw [e] at hj
    simpa using hj
  have HK := Lib.hid key
  have HBA : Hid (∀ o, Below w.heap.size w (w.alloc o)) := Lib.hid fun o => (Below.refl _ _).alloc (Nat.le_refl _) _
  clear key hd hf
  by_cases ha : 3584 = a
  · have hn0 : n = 0 := by omega
    subst hn0
    have e0 : f.sub a 0 = [] := rfl
    rw [e0] at HK ⊢
    clear HSL HR e0
    go_enter Try.func81, Try.ntmps81
    go_wp2_with fail
    refine HM.out.mono ?_
    rintro e w' ⟨rfl, rfl⟩
    go_wp2_with fail
    refine (HK.out _ _ (Row.nil _ _ _)).mono ?_
    rintro e w1 ⟨A1, n1, c1, rfl, hn1, hown1, hb1⟩
    have HO := Lib.hid (own_base hown1 (Nat.le_succ _))
    have HB := Lib.hid ((HBA.out _).trans (hb1.mono (Nat.le_succ _)))
    clear hown1 hb1
    go_wp2_with fail
    go_ret2
    exact ⟨A1, n1, c1, rfl, hn1, HO, HB⟩
  · go_enter Try.func81, Try.ntmps81
    go_wp2_with fail
    refine HM.out.mono ?_
    rintro e w' ⟨rfl, rfl⟩
    go_wp2_with fail
    refine (HK.out _ _ HR.out).mono ?_
    rintro e w1 ⟨A1, n1, c1, rfl, hn1, hown1, hb1⟩
    have HO := Lib.hid (own_base hown1 (Nat.le_succ _))
    have HB := Lib.hid ((HBA.out _).trans (hb1.mono (Nat.le_succ _)))
    clear hown1 hb1
    go_wp2_with fail
    go_ret2
    exact ⟨A1, n1, c1, rfl, hn1, HO, HB⟩
set_option maxRecDepth 100000 in
set_option maxHeartbeats 800000 in
theorem rblank_bad (gm gB : Nat) (a n k : Int) (f : Fl) (w : World) (hf : RfAt w gm gB f) (hn : -9223372036854775808 ≤ n ∧ n ≤ 9223372036854775807) (hk : mayE f a n = k) (hk0 : k ≠ 0) :
    Calls Try.prog 65 #[.pointer (some ⟨gm, 0, none⟩), .int .i64 a, .int .i64 n] w fun e w' => e = .returned (.bool false) ∧ w = w' := by
  have HR := Lib.hid (rread_bad gm gB a n k f w hf hn hk hk0)
  have hk' : (k == 0) = false := by simpa using hk0
  clear hf hk hk0 hn
  go_enter Try.func65, Try.ntmps65
  go_wp2_with fail
  refine HR.out.mono ?_
  rintro e w' ⟨rfl, rfl⟩
  go_wp2_with fail
  go_loop [20] (fun i => i = .int .i64 0) (fun _ => 0)
  case atStart => rfl
  case round =>
    obtain rfl := hrel
    go_wp2_with fail
    go_ret
    exact ⟨rfl, rfl⟩
set_option maxRecDepth 100000 in
set_option maxHeartbeats 800000 in
theorem rblank_ok (gm gB a n : Nat) (f : Fl) (w : World) (hf : RfAt w gm gB f) (hd : f.down = false) (h : a + n ≤ 3584) :
    Calls Try.prog 65 #[.pointer (some ⟨gm, 0, none⟩), .int .i64 (a : Int), .int .i64 (n : Int)] w fun e w' => e = .returned (.bool (allFF (f.sub a n))) ∧ Hid (Below w.heap.size w w') := by
  have HR := Lib.hid (rread_ok gm gB a n f w hf hd h)
  have hsl := f.sub_length a n
  clear hf hd
  generalize f.sub a n = L at *
  have HSL := Lib.hid hsl
  clear hsl
  go_enter Try.func65, Try.ntmps65
  go_wp2_with fail
  refine HR.out.mono ?_
  rintro e w1 ⟨A1, n1, c1, rfl, hn1, hown, hb⟩
  obtain rfl : n1 = n := hn1.out.trans HSL.out
  have HRW := Lib.hid (Row.of_own hown.out)
  clear hown hn1
  go_wp2_with fail
  go_loop [20] (fun i => ∃ k : Nat, k ≤ n1 ∧ i = .int .i64 k ∧ Hid (∀ j (hj : j < L.length), j < k → L[j] = 255)) (fun i => n1 - (intOf i).toNat)
  case atStart => exact ⟨0, by omega, rfl, (show ∀ j (hj : j < L.length), j < 0 → L[j] = 255 from fun j _ hj => absurd hj (by omega))⟩
  case round =>
    obtain ⟨k, hk, rfl, hall⟩ := hrel
    by_cases hlt : k < n1
    · obtain ⟨b, o, rfl, _, hkl, hcell⟩ := HRW.out.byteAt hlt
      by_cases hx : L[k] = 255
      · have e6 : ((L[k].toNat : Int) != 255) = false := by rw [hx]; rfl
        have hall2 : Hid (∀ j (hj : j < L.length), j < k + 1 → L[j] = 255) := by
          intro j hj hjk
          by_cases e : j < k
          · exact hall.out j hj e
          · obtain rfl : j = k := by omega
            exact hx
        clear hx hall
        go_wp2_with fail
        go_round
        case rel => exact ⟨k + 1, by omega, by go_num, hall2⟩
        case measure => simp [intOf]; omega
      · have e6 : ((L[k].toNat : Int) != 255) = true := bne_iff_ne.2 fun e => hx (UInt8.toNat.inj (by rw [show L[k].toNat = 255 by omega]; rfl))
        have HNO := Lib.hid (allFF_no hkl hx)
        clear hx hall
        go_wp2_with fail
        go_ret
        exact ⟨by rw [HNO.out]; rfl, hb⟩
    · obtain rfl : n1 = k := by omega
      have HY : Hid (allFF L = true) := by
        show allFF L = true
        unfold allFF
        rw [List.all_eq_true]
        intro x hx
        obtain ⟨j, hj, rfl⟩ := List.getElem_of_mem hx
        have := hall.out j hj (by have := HSL.out; omega)
        simpa using this
      clear hall
      go_wp2_with fail
      go_ret
      exact ⟨by rw [HY.out]; rfl, hb⟩
end Go.Proofs.Ytmlmpjokmbgmcaa
