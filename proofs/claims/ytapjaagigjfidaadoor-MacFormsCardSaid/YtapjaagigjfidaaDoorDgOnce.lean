/- digest's laws: what their helpers do; DigestOnce. -/
import Derived.Test.YtapjaagigjfidaaDoorShaSum
import Derived.Test.YtapjaagigjfidaaDoorLawLaid
namespace Go.Proofs.YtapjaagigjfidaaDoor.Sh
open Go.RowKit Go.ChangeShapes Go.WideShapes Go.ChangeAt
set_option maxRecDepth 100000 in
theorem d_abc : Sha.D [97, 98, 99] = [0xba, 0x78, 0x16, 0xbf, 0x8f, 0x01, 0xcf, 0xea, 0x41, 0x41, 0x40, 0xde, 0x5d, 0xae, 0x22, 0x23, 0xb0, 0x03, 0x61, 0xa3, 0x96, 0x17, 0x7a, 0x9c, 0xb4, 0x10, 0xff, 0x61, 0xf2, 0x00, 0x15, 0xad] := by decide +kernel
theorem own_cell {w : World} {B n c : Nat} {A : Option Addr} {l : List UInt8} (h : w.ownsRow B 5 1 (.slice A n c) n (bv l)) (hn : 0 < n) : ∃ g, A = some ⟨g, 0, none⟩ ∧ B ≤ g ∧ ∀ k, k < n → w.cell? ⟨g, k, none⟩ = some (.int .u8 ((l.getD k 0).toNat : Int)) := by
  obtain ⟨g, c2, hv, hg, _⟩ := h.form hn
  injection hv with e1 e2 e3
  refine ⟨g, e1, hg, fun k hk => ?_⟩
  obtain ⟨b, o, e, _, hl, hc⟩ := (Row.of_own h).byteAt hk
  rw [e1] at e
  injection e with e
  injection e with e e'
  subst e e'
  rw [Nat.zero_add] at hc
  rw [hc, List.getD_eq_getElem?_getD, List.getElem?_eq_getElem hl]; rfl
set_option maxRecDepth 100000 in
set_option maxHeartbeats 400000 in
theorem awake2_any (w : World) (ht : Tab w) : Calls Tryd.prog 13 #[] w fun e w' => e = .returned (.bool true) ∧ Below w.heap.size w w' := by
  have HT := Lib.hid ht
  have HR : Hid (Row (w.alloc (.cells #[.int .u8 97, .int .u8 98, .int .u8 99] 5 (3, 4))) (w.heap.size + 1) (some ⟨w.heap.size, 0, none⟩) 3 (bv [97, 98, 99])) := row_new w #[.int .u8 97, .int .u8 98, .int .u8 99] _ (3, 4)
  have HT1 : Hid (Tab (w.alloc (.cells #[.int .u8 97, .int .u8 98, .int .u8 99] 5 (3, 4)))) := HT.out.below ((Below.refl _ _).alloc (Nat.le_refl _) _) HT.out.1
  have kc := fun (w : World) (C : Array Value) (n c : Nat) => Lib.run_convert_bytes_const (P := Tryd.prog) w 23 5 C n c Tryd.underlying23 Tryd.underlying5
  clear ht
  go_enter Tryd.func13, Tryd.ntmps13
  go_wp2_with fail
  refine (sum_any (w.heap.size + 1) 3 3 _ [97, 98, 99] _ HT1.out HR.out (by simp) (by omega)).mono ?_
  rintro e w1 ⟨A, c, rfl, hown, hb⟩
  have hB : Hid (Below w.heap.size w w1) := ((Below.refl _ _).alloc (Nat.le_refl _) _).trans (hb.out.mono (by simp))
  have ho := hown.out
  rw [d_abc] at ho
  obtain ⟨g, rfl, _, hc⟩ := own_cell ho (by omega)
  have c0 := hc 0 (by omega)
  have c1 := hc 1 (by omega)
  have c31 := hc 31 (by omega)
  simp at c0 c1 c31
  clear hc ho hown hb
  go_wp2_with fail
  go_ret
  exact ⟨rfl, hB.out⟩
set_option maxHeartbeats 400000 in
theorem alike_yes (B1 B2 c1 c2 : Nat) (A1 A2 : Option Addr) (l : List UInt8) (w : World) (h1 : Row w B1 A1 32 (bv l)) (h2 : Row w B2 A2 32 (bv l)) :
    Calls Tryd.prog 14 #[.slice A1 32 c1, .slice A2 32 c2] w fun e w' => e = .returned (.bool true) ∧ w = w' := by
  have s1 := run_string_row h1 c1 23 9 5 Tryd.underlying23 Tryd.underlying5 Tryd.underlying9
  have s2 := run_string_row h2 c2 23 9 5 Tryd.underlying23 Tryd.underlying5 Tryd.underlying9
  clear h1 h2
  go_enter Tryd.func14, Tryd.ntmps14
  go_wp2_with fail
  go_ret
  exact ⟨rfl, rfl⟩
theorem rows2_two (w : World) (r1 r2 : BRow) (t : TypeId) (h1 : Row w w.heap.size r1.A r1.n (bv r1.l)) (h2 : Row w w.heap.size r2.A r2.n (bv r2.l)) :
    Rows2 (w.alloc (.cells #[r1.val, r2.val] t)) (w.heap.size + 1) (some ⟨w.heap.size, 0, none⟩) 2 [r1, r2] := by
  refine ⟨row_new w #[r1.val, r2.val] t (0, 0), fun r hr => ?_⟩
  simp at hr
  rcases hr with rfl | rfl
  · exact (h1.alloc (Nat.le_refl _) _).more (by omega)
  · exact (h2.alloc (Nat.le_refl _) _).more (by omega)
set_option maxRecDepth 100000 in
set_option maxHeartbeats 1600000 in
theorem once_walk (A1 : Option Addr) (n1 c1 : Nat) (l1 : List UInt8) (A2 : Option Addr) (n2 c2 : Nat) (l2 : List UInt8) (w : World) (ht : Tab w) (h1 : Row w w.heap.size A1 n1 (bv l1)) (_ : n1 ≤ c1) (_ : c1 ≤ 9223372036854775807) (hr1 : n1 ≤ 140737488351232) (h2 : Row w w.heap.size A2 n2 (bv l2)) (_ : n2 ≤ c2) (_ : c2 ≤ 9223372036854775807) (hr2 : n2 ≤ 140737488351232) :
    Calls Tryd.prog 6 #[.slice A1 n1 c1, .slice A2 n2 c2] w fun e w' => e = .returned (.bool true) ∧ Below w.heap.size w w' := by
  obtain ⟨i0, hi, hz0, hz1, hz2⟩ := info_parts Tryd.info5
  have HT := Lib.hid ht
  by_cases hbig : 2000 < n1 + n2
  · have hbig' : (2000 : Int) < (n1 : Int) + (n2 : Int) := by omega
    clear ht
    go_enter Tryd.func6, Tryd.ntmps6
    go_wp2_with fail
    refine (awake2_any _ HT.out).mono ?_
    rintro e w1 ⟨rfl, hb⟩
    go_wp2_with fail
    go_ret
    exact ⟨rfl, hb⟩
  · have hbig' : ¬ (2000 : Int) < (n1 : Int) + (n2 : Int) := by omega
    have H1 := Lib.hid h1
    have H2 := Lib.hid h2
    clear ht h1 h2
    have hown0 : (w.alloc (.cells #[] 5)).ownsRow w.heap.size 5 1 (.slice (some ⟨w.heap.size, 0, none⟩) 0 0) 0 [] := own_lit (cs := #[]) rfl (Nat.le_refl _) rfl (by unfold maxLen; omega)
    go_enter Tryd.func6, Tryd.ntmps6
    go_wp2_with (at_builtin; refine wpList_app rfl (.tmp 15) (.tmp 16) 23 rfl w.heap.size 5 i0 (.int .u8 0) 1 Tryd.underlying23 hi hz0 hz1 hz2 rfl _ 0 [] rfl hown0 w.heap.size A1 n1 c1 (bv l1) rfl (H1.out.alloc (Nat.le_refl _) _) (bv_one l1) (by unfold maxLen; omega) (by omega) (by simp) ?_; intro v3 w3 hown3 hg3 hat3)
    obtain ⟨A3, c3, rfl, _⟩ := own_slice hown3
    rw [List.nil_append, Nat.zero_add] at hown3
    have hb3 := Lib.hid (below_new hg3)
    have O3 := Lib.hid hown3
    clear hown0 hown3 hg3 hat3
    simp only [Nat.zero_add]
    go_wp2_with fail
    refine (sum_any w.heap.size n1 c1 A1 l1 _ (HT.out.below hb3.out HT.out.1) (H1.out.below hb3.out) hb3.out.size (by omega)).mono ?_
    rintro e w4 ⟨A4, c4, rfl, O4, hb4⟩
    have hB4 := Lib.hid (hb3.out.trans (hb4.out.mono hb3.out.size))
    go_wp2_with fail
    refine (sum_any w.heap.size n2 c2 A2 l2 _ (HT.out.below hB4.out HT.out.1) (H2.out.below hB4.out) hB4.out.size (by omega)).mono ?_
    rintro e w5 ⟨A5, c5, rfl, O5, hb5⟩
    have hB5 := Lib.hid (hB4.out.trans (hb5.out.mono hB4.out.size))
    have O3' := Lib.hid (own_below (own_below O3.out hb4.out) hb5.out)
    have O4' := Lib.hid (own_below O4.out hb5.out)
    have RR : Hid (Rows2 (w5.alloc (.cells #[.slice A3 n1 c3, .slice none 0 0] 23)) (w5.heap.size + 1) (some ⟨w5.heap.size, 0, none⟩) 2 [⟨A3, n1, c3, l1⟩, ⟨none, 0, 0, []⟩]) := rows2_two w5 ⟨A3, n1, c3, l1⟩ ⟨none, 0, 0, []⟩ _ (Row.of_own O3'.out) (Row.nil _ _ _)
    have hB6 : Hid (Below w.heap.size w (w5.alloc (.cells #[.slice A3 n1 c3, .slice none 0 0] 23))) := hB5.out.alloc hB5.out.size _
    have hl1 := Lib.hid H1.out.blen
    go_wp2_with fail
    refine (rows_any (w5.heap.size + 1) 2 2 _ _ _ (HT.out.below hB6.out HT.out.1) RR.out (by simp) (by have := hl1.out; simp [flat]; omega) (by omega)).mono ?_
    rintro e w7 ⟨A7, c7, rfl, O7, hb7⟩
    have hfl : flat [⟨A3, n1, c3, l1⟩, ⟨none, 0, 0, []⟩] = l1 := by simp [flat]
    rw [hfl] at O7
    have hb57 : Below w5.heap.size w5 w7 := ((Below.refl _ _).alloc (Nat.le_refl _) _).trans (hb7.out.mono (by simp))
    have hB7 := Lib.hid (hB5.out.trans (hb57.mono hB5.out.size))
    have O3'' := Lib.hid (own_below O3'.out hb57)
    have O4'' := Lib.hid (own_below O4'.out hb57)
    clear O3 O3' O4 O4' O5 hb3 hb4 hb5 hB4 hB5 hB6 RR hfl hb57 hb7
    go_wp2_with fail
    refine (alike_yes _ _ c4 c7 A4 A7 _ w7 (Row.of_own O4''.out) (Row.of_own O7.out)).mono ?_
    rintro e w' ⟨rfl, rfl⟩
    go_wp2_with fail
    refine (sum_any w7.heap.size n1 c3 A3 l1 _ (HT.out.below hB7.out HT.out.1) (Row.of_own O3''.out) (Nat.le_refl _) (by omega)).mono ?_
    rintro e w8 ⟨A8, c8, rfl, O8, hb8⟩
    have hB8 := Lib.hid (hB7.out.trans (hb8.out.mono hB7.out.size))
    have O3' := Lib.hid (own_below O3''.out hb8.out)
    have O4' := Lib.hid (own_below O4''.out hb8.out)
    clear O3'' O4'' O7 hb8 hB7
    go_wp2_with fail
    refine (alike_yes _ _ c8 c4 A8 A4 _ w8 (Row.of_own O8.out) (Row.of_own O4'.out)).mono ?_
    rintro e w' ⟨rfl, rfl⟩
    have s1 := run_string_row (H1.out.below hB8.out) c1 23 9 5 Tryd.underlying23 Tryd.underlying5 Tryd.underlying9
    have s2 := run_string_row (Row.of_own O3'.out) c3 23 9 5 Tryd.underlying23 Tryd.underlying5 Tryd.underlying9
    go_wp2_with fail
    refine (awake2_any _ (HT.out.below hB8.out HT.out.1)).mono ?_
    rintro e w9 ⟨rfl, hb9⟩
    have hB9 := Lib.hid (hB8.out.trans (hb9.mono hB8.out.size))
    clear hb9 s1 s2
    go_wp2_with fail
    go_ret
    exact ⟨rfl, hB9.out⟩
end Go.Proofs.YtapjaagigjfidaaDoor.Sh
