/- slot.Write by cases; awake of layer 20. -/
import Derived.Test.YtgfdpondnkcogaaDoorSl2
namespace Go.Proofs.YtgfdpondnkcogaaDoor
open Go.RowKit Sh
theorem below_done2 {w w1 w2 : World} {g B : Nat} {f : Fl} (h : Below B w w1) (hd : Done g f w1 w2) (hB : B ≤ w1.heap.size) (hg : B ≤ g) : Below B w w2 :=
  h.grown hd.2 hB (by intro q e; injection e with e; omega)
section
variable {g s a B n cap : Nat} {A : Option Addr} {l : List UInt8} {f : Fl} {w : World} {K : Int}
theorem swrite_cs (hf : FlAt w g f) (hl : Row w B A n (bv l)) (hA : 0 < n → ∀ b o, A = some ⟨b, o, none⟩ → b ≠ g) (hB : B ≤ w.heap.size) (hd : f.down = false) (hs : s = 0 ∨ s = 1) (ha : a = 2 + 2 * s) (hn1 : 1 ≤ n) (hn : n ≤ 512) (hok : f.Ok K) (hK : K ≤ 1000000) (hw : f.er a < f.wear) (hw2 : f.er (a + 1) < f.wear) :
    Calls Tryd.prog 13 #[.pointer (some ⟨g, 0, none⟩), .int .i64 (s : Int), .slice A n cap] w fun e w' => ∃ r f', e = .returned (.int .i64 r) ∧ Hid (Done g f' w w') ∧ Hid (SWrote f a l r f') ∧ Hid (f'.Ok (K + 514)) := by
  have hbl := hl.blen
  refine (swrite_any g s a B n cap A l f w K hf hl hA hB hd hs ha hn1 hn hok hK).mono ?_
  rintro e w' ⟨rfl, hdn⟩
  exact ⟨_, _, rfl, hdn, swrite_cases f a l (by omega) hw hw2, hok.swrite a l (by omega)⟩
theorem swrite_free (hf : FlAt w g f) (hl : Row w B A n (bv l)) (hA : 0 < n → ∀ b o, A = some ⟨b, o, none⟩ → b ≠ g) (hB : B ≤ w.heap.size) (hd : f.down = false) (hs : s = 0 ∨ s = 1) (ha : a = 2 + 2 * s) (hn1 : 1 ≤ n) (hn : n ≤ 512) (hok : f.Ok K) (hK : K ≤ 1000000) (hw : f.er a < f.wear) (hw2 : f.er (a + 1) < f.wear) (ht : f.there = false) :
    Calls Tryd.prog 13 #[.pointer (some ⟨g, 0, none⟩), .int .i64 (s : Int), .slice A n cap] w fun e w' => ∃ f', e = .returned (.int .i64 0) ∧ Hid (Done g f' w w') ∧ Hid (SWrote f a l 0 f') ∧ Hid (f'.Ok (K + 514)) := by
  refine (swrite_cs hf hl hA hB hd hs ha hn1 hn hok hK hw hw2).mono ?_
  rintro e w' ⟨r, f', rfl, hdn, hsw, hok'⟩
  by_cases h0 : r = 0
  · subst h0; exact ⟨f', rfl, hdn, hsw, hok'⟩
  · have := (hsw.out.no h0).2.1
    rw [ht] at this; cases this
end
theorem new_ok2 (x : Int) (h : x ≤ 10000) : ((flNew x).fill 0 3584).Ok 0 := ⟨Int.le_refl 0, Int.le_refl 0, by show _ ≤ (0 : Int) ∧ (0 : Int) ≤ _; decide, fun s => Int.le_refl 0, h⟩
theorem new_ff (x : Int) (i : Nat) (h : i < 3584) : ((flNew x).fill 0 3584).bs i = 255 := by
  show (if 0 ≤ i ∧ i < 0 + 3584 then 255 else _) = _
  exact if_pos (by omega)
theorem outside_sub {f f' : Fl} {b n : Nat} (h : outside f f' b n) (c m : Nat) (hc : c + m ≤ b ∨ b + n ≤ c) : f'.sub c m = f.sub c m := by
  unfold Fl.sub
  apply List.map_congr_left
  intro i hi
  have : i < m := by simpa using hi
  exact h _ (by omega)
theorem aw20 : (Sha.D [255, 255, 255] == Sha.D [97, 98, 99]) = false := by decide +kernel
set_option maxRecDepth 100000 in
set_option maxHeartbeats 3200000 in
theorem awake20_any (w : World) (ht : Tab w) : Calls Tryd.prog 10 #[] w fun e w' => e = .returned (.bool true) ∧ Below w.heap.size w w' := by
  have kc := fun (w : World) (C : Array Value) (n c : Nat) => Lib.run_convert_bytes_const (P := Tryd.prog) w 28 5 C n c Tryd.underlying28 Tryd.underlying5
  have HT := Lib.hid ht
  clear ht
  go_enter Tryd.func10, Tryd.ntmps10
  go_wp2_with fail
  refine (new_any 10 w ⟨by omega, by omega⟩).mono ?_
  rintro e w1 ⟨g, rfl, hg, hf, hb⟩
  have HOK := Lib.hid (new_ok2 10 (by decide))
  have HQ : Hid (((flNew 10).fill 0 3584).down = false ∧ ((flNew 10).fill 0 3584).there = false ∧ ((flNew 10).fill 0 3584).wear = 10 ∧ (∀ s, ((flNew 10).fill 0 3584).er s = 0) ∧ ((flNew 10).fill 0 3584).sub 512 3 = [255, 255, 255]) := ⟨rfl, rfl, rfl, fun _ => rfl, by decide⟩
  generalize (flNew 10).fill 0 3584 = f0 at *
  have hgl1 := hf.out.lt
  have HB2 : Hid (Below w.heap.size w (w1.alloc (.cells #[.int .u8 97, .int .u8 98, .int .u8 99] 5 (3, 4)))) := hb.out.alloc hb.out.size _
  have HF2 : Hid (FlAt (w1.alloc (.cells #[.int .u8 97, .int .u8 98, .int .u8 99] 5 (3, 4))) g f0) := hf.out.below ((Below.refl _ _).alloc (Nat.le_refl _) _)
  have HSO := Lib.hid (sof_yes 3 3 (w1.heap.size + 1) 3 (some ⟨w1.heap.size, 0, none⟩) [97, 98, 99] (w1.alloc (.cells #[.int .u8 97, .int .u8 98, .int .u8 99] 5 (3, 4))) (HT.out.below HB2.out HT.out.1) (row_new w1 #[.int .u8 97, .int .u8 98, .int .u8 99] 5 (3, 4)) (by simp) (by omega) (by omega))
  clear hf hb
  go_wp2_with fail
  refine HSO.out.mono ?_
  rintro e w3 ⟨AH, cH, rfl, hrh, hah, _, hb3⟩
  have HB3 : Hid (Below w.heap.size w w3) := HB2.out.trans (hb3.out.mono HB2.out.size)
  have HF3 := Lib.hid (HF2.out.below hb3.out)
  -- the box of s
  obtain ⟨W3, hW3⟩ : ∃ W3, w3.alloc (.cells #[.int .u32 3, .int .i64 3, .slice AH 32 cH] 33) = W3 := ⟨_, rfl⟩
  have hbw : Below w3.heap.size w3 W3 := by rw [← hW3]; exact (Below.refl _ _).alloc (Nat.le_refl _) _
  have HZ3 : Hid (W3.heap[w3.heap.size]? = some (.cells #[.int .u32 3, .int .i64 3, .slice AH 32 cH] 33 (0, 0))) := by rw [← hW3]; exact heap_alloc_new _ _
  have hsz3 : W3.heap.size = w3.heap.size + 1 := by rw [← hW3]; simp
  have HB4 : Hid (Below w.heap.size w W3) := HB3.out.trans (hbw.mono HB3.out.size)
  have HF4 := Lib.hid (HF3.out.below hbw)
  have HRH : Hid (Row W3 W3.heap.size AH 32 (bv (Sha.D [97, 98, 99]))) := (hrh.out.below hbw).more hbw.size
  have hgl3 := HF4.out.lt
  have hg1 : g < w3.heap.size := HF3.out.lt
  have HG1 : Hid (∀ b o, AH = some ⟨b, o, none⟩ → b ≠ g) := by
    intro b o e
    have := hah.out b o e
    simp at this
    omega
  have HW3 := Lib.hid hW3
  clear hW3 hbw hrh hah hb3 HB2 HF2 HSO HB3 HF3
  go_upto_region 3 with fail
  rw [HW3.out]
  obtain ⟨gb, hgb⟩ : ∃ gb, w3.heap.size = gb := ⟨_, rfl⟩
  rw [hgb] at HZ3 hsz3 hg1
  try rw [hgb]
  have HSZ3 := Lib.hid hsz3
  clear HW3 hgb hsz3
  have HB5 : Hid (Below w.heap.size w (W3.alloc (.cells #[.int .u8 97, .int .u8 98, .int .u8 99] 5 (3, 4)))) := HB4.out.alloc HB4.out.size _
  have HF5 : Hid (FlAt (W3.alloc (.cells #[.int .u8 97, .int .u8 98, .int .u8 99] 5 (3, 4))) g f0) := HF4.out.below ((Below.refl _ _).alloc (Nat.le_refl _) _)
  have HZ5 : Hid ((W3.alloc (.cells #[.int .u8 97, .int .u8 98, .int .u8 99] 5 (3, 4))).heap[gb]? = _) := (heap_alloc_old W3 _ (show gb < W3.heap.size by have := HSZ3.out; omega)).trans HZ3.out
  have HRH5 : Hid (Row (W3.alloc (.cells #[.int .u8 97, .int .u8 98, .int .u8 99] 5 (3, 4))) W3.heap.size AH 32 (bv (Sha.D [97, 98, 99]))) := HRH.out.alloc (Nat.le_refl _) _
  have hs5 : W3.heap.size ≤ (W3.alloc (.cells #[.int .u8 97, .int .u8 98, .int .u8 99] 5 (3, 4))).heap.size := by simp
  have HW := Lib.hid (swrite_free (s := 1) (a := 4) (cap := 3) (l := [97, 98, 99]) HF5.out (row_new W3 #[.int .u8 97, .int .u8 98, .int .u8 99] 5 (3, 4)) (by intro _ b o h; injection h with h; injection h with h; omega) (by simp) HQ.out.1 (.inr rfl) rfl (by decide) (by decide) HOK.out (by omega) (by rw [HQ.out.2.2.1, HQ.out.2.2.2.1]; decide) (by rw [HQ.out.2.2.1, HQ.out.2.2.2.1]; decide) HQ.out.2.1)
  clear HB4 HF4 HZ3 HRH
  go_wp2_with fail
  refine HW.out.mono ?_
  rintro e w6 ⟨f1, rfl, hd, hsw, hok⟩
  obtain ⟨q1, _, _, q4, _⟩ := hsw.out.yes rfl
  have HB6 : Hid (Below w.heap.size w w6) := below_done2 HB5.out hd.out HB5.out.size hg
  have HF6 : Hid (FlAt w6 g f1) := hd.out.1
  have HZ6 := Lib.hid ((hd.out.2.block gb (by have := HSZ3.out; simp; omega) (by intro e; injection e with e; omega)).trans HZ5.out)
  have HRH6 : Hid (Row w6 w6.heap.size AH 32 (bv (Sha.D [97, 98, 99]))) := (HRH5.out.apart (fun _ => HG1.out) hd.out.2 hs5).more (Nat.le_trans hs5 hd.out.2.size)
  have HQ1 : Hid (f1.down = false ∧ f1.sub 1024 3 = [97, 98, 99] ∧ f1.sub 512 3 = [255, 255, 255]) := ⟨q4.trans HQ.out.1, q1, (outside_sub hsw.out.out 512 3 (by omega)).trans HQ.out.2.2.2.2⟩
  have HRD := Lib.hid (sread_any g 1 4 3 f1 w6 HF6.out HQ1.out.1 (.inr rfl) rfl (by omega))
  rw [show 256 * 4 = 1024 from rfl, HQ1.out.2.1] at HRD
  clear q1 q4 hd hsw hok HB5 HF5 HZ5 HRH5 hs5 HW HQ HOK
  go_wp2_with fail
  refine HRD.out.mono ?_
  rintro e w7 ⟨A7, n7, c7, rfl, hn7, hown7, hb7⟩
  obtain rfl : n7 = 3 := hn7.out
  have hk := run_string_row (P := Tryd.prog) (Row.of_own hown7.out) c7 28 9 5 Tryd.underlying28 Tryd.underlying5 Tryd.underlying9
  have HB7 : Hid (Below w.heap.size w w7) := HB6.out.trans (hb7.out.mono HB6.out.size)
  have hgb6 : gb < w6.heap.size := (Array.getElem?_eq_some_iff.1 HZ6.out).1
  have HZ7 := Lib.hid ((hb7.out.block gb hgb6).trans HZ6.out)
  have HRT := Lib.hid (right_any g 1 4 3 32 3 cH AH (Sha.D [97, 98, 99]) f1 w7 (HT.out.below HB7.out HT.out.1) (HF6.out.below hb7.out) HQ1.out.1 (.inr rfl) rfl (by omega) (by omega) ((HRH6.out.below hb7.out).more hb7.out.size))
  rw [show 256 * 4 = 1024 from rfl, HQ1.out.2.1, beq_self_eq_true] at HRT
  have HRF := Lib.hid (fun W (hW : Below w7.heap.size w7 W) => right_any g 0 2 3 32 3 cH AH (Sha.D [97, 98, 99]) f1 W (HT.out.below (HB7.out.trans (hW.mono HB7.out.size)) HT.out.1) ((HF6.out.below hb7.out).below hW) HQ1.out.1 (.inl rfl) rfl (by omega) (by omega) ((((HRH6.out.below hb7.out).more hb7.out.size).below hW).more hW.size))
  rw [show 256 * 2 = 512 from rfl, HQ1.out.2.2, aw20] at HRF
  obtain ⟨y0, y1, y2⟩ := c3 HZ7.out
  have hgb7 : gb < w7.heap.size := (Array.getElem?_eq_some_iff.1 HZ7.out).1
  clear hn7 hown7 hb7 HRD HB6 HF6 HZ6 HRH6 HQ1
  go_wp2_with fail
  refine HRT.out.mono ?_
  rintro e w8 ⟨rfl, hb8⟩
  obtain ⟨x0, x1, x2⟩ := c3 ((hb8.out.block gb hgb7).trans HZ7.out)
  have HB8 : Hid (Below w.heap.size w w8) := HB7.out.trans (hb8.out.mono HB7.out.size)
  clear y0 y1 y2 hk HRT
  go_wp2_with fail
  refine (HRF.out w8 hb8.out).mono ?_
  rintro e w9 ⟨rfl, hb9⟩
  go_wp2_with fail
  go_ret
  exact ⟨rfl, HB8.out.trans (hb9.out.mono HB8.out.size)⟩
end Go.Proofs.YtgfdpondnkcogaaDoor
