/- CellSpoilt: its walk. -/
import Derived.Test.YtmlmpjokmbgmcaaCellAw
import Derived.Test.YtmlmpjokmbgmcaaLaw
namespace Go.Proofs.Ytmlmpjokmbgmcaa
open Go.ChangeShapes Go.WideShapes Go.ChangeAt Go.RowKit
structure Erased (f : Fl) (s : Nat) (f' : Fl) : Prop where
  oth : others f f' s
  dead : Dead (f'.sec s)
  er : f'.er = erUp f.er s
  wear : f'.wear = f.wear
  down : f'.down = f.down
  there : f.there = false → f'.there = false
theorem erase_free {g s : Nat} {f : Fl} {w : World} {k si : Int} (hf : FlAt w g f) (hsi : si = (s : Int)) (hs : s < 14) (hd : f.down = false) (ht : f.there = false) (hw : f.er s < f.wear) (hok : f.Ok k) (hk : k ≤ 1000000) :
    Calls Try.prog 30 #[.pointer (some ⟨g, 0, none⟩), .int .i64 si] w fun e w' => ∃ f', e = .returned (.int .i64 0) ∧ Hid (Done g f' w w') ∧ Hid (Erased f s f') ∧ Hid (f'.Ok (k + 1)) := by
  subst hsi
  refine (erase_ok g s f w hf hd hs (hok.2.2.2.1 s) (by have := hok.2.2.2.2; omega) (by have := hok.1; omega) (by have := hok.2.1; omega) hok.2.2.1.2).mono ?_
  rintro e w' ⟨rfl, hdn⟩
  rcases erase_cases f s hw with ⟨f', e, q1, q2, q3, q4, q5, q6⟩ | ⟨q0, _⟩
  · have hok' := hok.erase s
    rw [e] at hdn hok'
    refine ⟨f', by rw [e], hdn, ⟨fun i hi => ?_, ?_, q2, q3, q5, q6⟩, hok'⟩
    · rw [q1]; exact if_neg (by omega)
    · refine dead_blank fun i hi => ?_
      unfold Fl.sec
      rw [if_pos hi, q1]; exact if_pos (by omega)
  · rw [ht] at q0; cases q0
set_option maxRecDepth 100000 in
set_option maxHeartbeats 3200000 in
theorem spoilt_walk (A : Option Addr) (n cap : Nat) (a : List UInt8) (A2 : Option Addr) (n2 cap2 : Nat) (b : List UInt8) (x : Int) (_ : -9223372036854775808 ≤ x) (_ : x ≤ 9223372036854775807) (w : World) (hl : Row w w.heap.size A n (bv a)) (hl2 : Row w w.heap.size A2 n2 (bv b)) :
    Calls Try.prog 6 #[.slice A n cap, .slice A2 n2 cap2, .int .i64 x] w fun e w' => e = .returned (.bool true) ∧ Below w.heap.size w w' := by
  by_cases hbig : 245 < n
  · go_enter Try.func6, Try.ntmps6
    go_wp2_with fail
    refine (awake17_any _).mono ?_
    rintro e w4 ⟨rfl, hb4⟩
    go_wp2_with fail
    go_ret
    exact ⟨rfl, hb4⟩
  by_cases hbig2 : 245 < n2
  · have hn : n ≤ 245 := by omega
    go_enter Try.func6, Try.ntmps6
    go_wp2_with fail
    refine (awake17_any _).mono ?_
    rintro e w4 ⟨rfl, hb4⟩
    go_wp2_with fail
    go_ret
    exact ⟨rfl, hb4⟩
  have hn : n ≤ 245 := by omega
  have hn2 : n2 ≤ 245 := by omega
  have HL := Lib.hid hl
  have HL2 := Lib.hid hl2
  obtain ⟨q, hq, hK⟩ := pick_in x 2 (by omega) (by omega)
  have HK := Lib.hid hK
  clear hl hl2 hbig hbig2 hK
  go_enter Try.func6, Try.ntmps6
  go_wp2_with fail
  refine (new_any 9 w ⟨by omega, by omega⟩).mono ?_
  rintro e w1 ⟨g, rfl, hg, hf, hb⟩
  have HV := Lib.hid (new_void 9)
  have HOK := Lib.hid (new_ok 9 (by decide))
  have HQ : Hid (((flNew 9).fill 0 3584).down = false ∧ ((flNew 9).fill 0 3584).there = false ∧ ((flNew 9).fill 0 3584).wear = 9 ∧ ∀ s, ((flNew 9).fill 0 3584).er s = 0) := ⟨rfl, rfl, rfl, fun _ => rfl⟩
  generalize (flNew 9).fill 0 3584 = f0 at *
  have HB1 : Hid (Below w.heap.size w w1) := hb
  have HF1 : Hid (FlAt w1 g f0) := hf
  have HA : ∀ (A : Option Addr) (n : Nat) (l : List UInt8), Row w w.heap.size A n (bv l) → 0 < n → ∀ b o, A = some ⟨b, o, none⟩ → b ≠ g := by
    intro A n l hr h0 b' o' e
    obtain ⟨b2, o2, e2, hb2, _⟩ := hr.2 h0
    have e3 := e2.symm.trans e
    injection e3 with e3
    injection e3 with e3
    omega
  have HA1 := Lib.hid (HA _ _ _ HL.out)
  have HA2 := Lib.hid (HA _ _ _ HL2.out)
  clear hb hf HA
  go_wp2_with fail
  refine (cwrite_void (c := a) HF1.out (HL.out.below HB1.out) HA1.out HB1.out.size hn HQ.out.1 HOK.out (by omega) HV.out (by rw [HQ.out.2.2.1, HQ.out.2.2.2]; decide) HQ.out.2.1).mono ?_
  rintro e w3 ⟨f1, rfl, hd, hw, hok⟩
  obtain ⟨hc, q1, q2, q3⟩ := hw.out.yes rfl
  have HC1 := Lib.hid hc
  have HQ1 : Hid (f1.down = false ∧ f1.there = false ∧ f1.er 1 = 0 ∧ f1.er 0 = 1 ∧ f1.wear = 9) := ⟨q1.trans HQ.out.1, q3 HQ.out.2.1, by rw [hw.out.er]; unfold erUp; rw [if_neg (by omega), HQ.out.2.2.2], by rw [hw.out.er]; unfold erUp; rw [if_pos rfl, HQ.out.2.2.2]; rfl, hw.out.wear.trans HQ.out.2.2.1⟩
  have HB2 : Hid (Below w.heap.size w w3) := below_done HB1.out hd.out HB1.out.size hg
  have HF2 : Hid (FlAt w3 g f1) := hd.out.1
  have HOK1 : Hid (f1.Ok (0 + 300)) := hok
  clear hc q1 q2 q3 hd hw hok HF1 HB1 HQ HV HOK
  go_wp2_with fail
  refine (cwrite_free (c := b) HF2.out (HL2.out.below HB2.out) HA2.out HB2.out.size hn2 HQ1.out.1 HOK1.out (by omega) HC1.out (by rw [HQ1.out.2.2.1, HQ1.out.2.2.2.2]; decide) (by omega) HQ1.out.2.1).mono ?_
  rintro e w4 ⟨f2, rfl, hd, hw, hok⟩
  obtain ⟨hc, q1, q2, q3⟩ := hw.out.yes rfl
  have HSA : Hid (SecOk (f2.sec 0) 1 a) := by
    show SecOk _ _ _
    rw [hw.out.oth.sec 0 (by omega)]; exact HC1.out.2.1
  have HSB : Hid (SecOk (f2.sec 1) 2 b) := hc.2.1
  have HQ2 : Hid (f2.down = false ∧ f2.there = false ∧ f2.er 1 = 1 ∧ f2.er 0 = 1 ∧ f2.wear = 9) := by
    refine ⟨q1.trans HQ1.out.1, q3 HQ1.out.2.1, ?_, ?_, hw.out.wear.trans HQ1.out.2.2.2.2⟩
    · rw [hw.out.er]; unfold erUp; rw [if_pos rfl, HQ1.out.2.2.1]; rfl
    · rw [hw.out.er]; unfold erUp; rw [if_neg (by omega), HQ1.out.2.2.2.1]
  have HB3 : Hid (Below w.heap.size w w4) := below_done HB2.out hd.out HB2.out.size hg
  have HF3 : Hid (FlAt w4 g f2) := hd.out.1
  have HOK2 : Hid (f2.Ok (0 + 300 + 300)) := hok
  clear hc q1 q2 q3 hd hw hok HF2 HB2 HC1 HQ1 HOK1
  have hqq : q = 0 ∨ q = 1 := by omega
  have fin : ∀ (A3 : Option Addr) (n3 : Nat) (l3 : List UInt8), True := fun _ _ _ => trivial
  clear fin
  rcases hqq with rfl | rfl
  · clear hq
    have HK0 : Hid (wrap64 ((IntKind.u64.wrap x).tmod 2) = 0) := HK.out
    have HER := Lib.hid (erase_free (s := 0) (si := 0) HF3.out rfl (by omega) HQ2.out.1 HQ2.out.2.1 (by rw [HQ2.out.2.2.2.1, HQ2.out.2.2.2.2]; decide) HOK2.out (by omega))
    clear HK
    go_wp2_with (rw [HK0.out])
    refine HER.out.mono ?_
    rintro e w5 ⟨f3, rfl, hd, he, hok⟩
    have HSC : Hid (SecOk (f3.sec 1) 2 b) := by show SecOk _ _ _; rw [he.out.oth.sec 1 (by omega)]; exact HSB.out
    have HCU : Hid (Cur f3 1 2 b) := ⟨by omega, HSC.out, .inl he.out.dead⟩
    have HD0 := Lib.hid he.out.dead
    have HQ3 : Hid (f3.down = false ∧ f3.there = false ∧ f3.er 1 < f3.wear) := ⟨he.out.down.trans HQ2.out.1, he.out.there HQ2.out.2.1, by rw [he.out.er, he.out.wear, HQ2.out.2.2.2.2]; unfold erUp; rw [if_neg (by omega), HQ2.out.2.2.1]; decide⟩
    have HB4 : Hid (Below w.heap.size w w5) := below_done HB3.out hd.out HB3.out.size hg
    have HF4 : Hid (FlAt w5 g f3) := hd.out.1
    have HOK3 : Hid (f3.Ok (0 + 300 + 300 + 1)) := hok
    have HCR := Lib.hid (cread_any g f3 b w5 HF4.out HQ3.out.1 HCU.out.has)
    clear hd he hok HER HB3 HF3 HQ2 HSA HSB HOK2
    go_wp2_with fail
    refine HCR.out.mono ?_
    rintro e w6 ⟨A3, n3, c3, rfl, hn3, hnc, hr, hA3, hb⟩
    have HB5 : Hid (Below w.heap.size w w6) := HB4.out.trans (hb.out.mono HB4.out.size)
    have HF5 : Hid (FlAt w6 g f3) := HF4.out.below hb.out
    have hgl := HF4.out.lt
    have HER := Lib.hid (erase_free (s := 1) (si := 1) HF5.out rfl (by omega) HQ3.out.1 HQ3.out.2.1 HQ3.out.2.2 HOK3.out (by omega))
    clear hb HF4 HB4 HCR
    go_wp2_with fail
    refine HER.out.mono ?_
    rintro e w7 ⟨f4, rfl, hd, he, hok⟩
    have HVO : Hid (Void f4) := ⟨.inl (by rw [he.out.oth.sec 0 (by omega)]; exact HD0.out), .inl he.out.dead⟩
    have HR7 : Hid (Row w7 w6.heap.size A3 n3 (bv b)) := hr.out.apart (fun h0 b o e => by have := hA3.out b o e h0; omega) hd.out.2 (Nat.le_refl _)
    have HB6 : Hid (Below w.heap.size w w7) := below_done HB5.out hd.out HB5.out.size hg
    have HCN := Lib.hid (cread_none g f4 w7 hd.out.1 (he.out.down.trans HQ3.out.1) HVO.out.no.1 HVO.out.no.2)
    have HS6 : Hid (w6.heap.size ≤ w7.heap.size) := hd.out.2.size
    clear hd he hok HER HB5 HF5 HQ3 HOK3 hr hA3 HVO HD0 HCU HSC
    go_wp2_with fail
    refine HCN.out.mono ?_
    rintro e w8 ⟨rfl, hb8⟩
    have HB7 : Hid (Below w.heap.size w w8) := HB6.out.trans (hb8.out.mono HB6.out.size)
    have hk1 := run_string_row (P := Try.prog) (HR7.out.below (hb8.out.mono HS6.out)) c3 27 9 5 Try.underlying27 Try.underlying5 Try.underlying9
    have hk2 := run_string_row (P := Try.prog) (HL2.out.below HB7.out) cap2 27 9 5 Try.underlying27 Try.underlying5 Try.underlying9
    clear HR7 hb8 HCN HB6 HS6 hnc hn3
    go_wp2_with fail
    refine (awake17_any _).mono ?_
    rintro e w9 ⟨rfl, hb9⟩
    go_wp2_with fail
    go_ret
    exact ⟨rfl, HB7.out.trans (hb9.mono HB7.out.size)⟩
  · clear hq
    have HK0 : Hid (wrap64 ((IntKind.u64.wrap x).tmod 2) = 1) := HK.out
    have HER := Lib.hid (erase_free (s := 1) (si := 1) HF3.out rfl (by omega) HQ2.out.1 HQ2.out.2.1 (by rw [HQ2.out.2.2.1, HQ2.out.2.2.2.2]; decide) HOK2.out (by omega))
    clear HK
    go_wp2_with (rw [HK0.out])
    refine HER.out.mono ?_
    rintro e w5 ⟨f3, rfl, hd, he, hok⟩
    have HSC : Hid (SecOk (f3.sec 0) 1 a) := by show SecOk _ _ _; rw [he.out.oth.sec 0 (by omega)]; exact HSA.out
    have HCU : Hid (Cur f3 0 1 a) := ⟨by omega, HSC.out, .inl he.out.dead⟩
    have HD0 := Lib.hid he.out.dead
    have HQ3 : Hid (f3.down = false ∧ f3.there = false ∧ f3.er 0 < f3.wear) := ⟨he.out.down.trans HQ2.out.1, he.out.there HQ2.out.2.1, by rw [he.out.er, he.out.wear, HQ2.out.2.2.2.2]; unfold erUp; rw [if_neg (by omega), HQ2.out.2.2.2.1]; decide⟩
    have HB4 : Hid (Below w.heap.size w w5) := below_done HB3.out hd.out HB3.out.size hg
    have HF4 : Hid (FlAt w5 g f3) := hd.out.1
    have HOK3 : Hid (f3.Ok (0 + 300 + 300 + 1)) := hok
    have HCR := Lib.hid (cread_any g f3 a w5 HF4.out HQ3.out.1 HCU.out.has)
    clear hd he hok HER HB3 HF3 HQ2 HSA HSB HOK2
    go_wp2_with fail
    refine HCR.out.mono ?_
    rintro e w6 ⟨A3, n3, c3, rfl, hn3, hnc, hr, hA3, hb⟩
    have HB5 : Hid (Below w.heap.size w w6) := HB4.out.trans (hb.out.mono HB4.out.size)
    have HF5 : Hid (FlAt w6 g f3) := HF4.out.below hb.out
    have hgl := HF4.out.lt
    have HER := Lib.hid (erase_free (s := 0) (si := 0) HF5.out rfl (by omega) HQ3.out.1 HQ3.out.2.1 HQ3.out.2.2 HOK3.out (by omega))
    clear hb HF4 HB4 HCR
    go_wp2_with fail
    refine HER.out.mono ?_
    rintro e w7 ⟨f4, rfl, hd, he, hok⟩
    have HVO : Hid (Void f4) := ⟨.inl he.out.dead, .inl (by rw [he.out.oth.sec 1 (by omega)]; exact HD0.out)⟩
    have HR7 : Hid (Row w7 w6.heap.size A3 n3 (bv a)) := hr.out.apart (fun h0 b o e => by have := hA3.out b o e h0; omega) hd.out.2 (Nat.le_refl _)
    have HB6 : Hid (Below w.heap.size w w7) := below_done HB5.out hd.out HB5.out.size hg
    have HCN := Lib.hid (cread_none g f4 w7 hd.out.1 (he.out.down.trans HQ3.out.1) HVO.out.no.1 HVO.out.no.2)
    have HS6 : Hid (w6.heap.size ≤ w7.heap.size) := hd.out.2.size
    clear hd he hok HER HB5 HF5 HQ3 HOK3 hr hA3 HVO HD0 HCU HSC
    go_wp2_with fail
    refine HCN.out.mono ?_
    rintro e w8 ⟨rfl, hb8⟩
    have HB7 : Hid (Below w.heap.size w w8) := HB6.out.trans (hb8.out.mono HB6.out.size)
    have hk1 := run_string_row (P := Try.prog) (HR7.out.below (hb8.out.mono HS6.out)) c3 27 9 5 Try.underlying27 Try.underlying5 Try.underlying9
    have hk2 := run_string_row (P := Try.prog) (HL.out.below HB7.out) cap 27 9 5 Try.underlying27 Try.underlying5 Try.underlying9
    clear HR7 hb8 HCN HB6 HS6 hnc hn3
    go_wp2_with fail
    refine (awake17_any _).mono ?_
    rintro e w9 ⟨rfl, hb9⟩
    go_wp2_with fail
    go_ret
    exact ⟨rfl, HB7.out.trans (hb9.mono HB7.out.size)⟩
end Go.Proofs.Ytmlmpjokmbgmcaa
