/- PacketBack: what is written is read as it was; what is read, of whatever bytes, is written as these. For every input, no condition. -/
import Derived.Test.YtknealemooaneadParse
import Derived.Test.YtknealemooaneadLawSym
import Derived.Deep.RegionHeld3
import Derived.Deep.QuietTactic
namespace Go.Proofs.Ytknealemooanead
open Go.ChangeShapes Go.WideShapes Go.ChangeAt Go.RowKit
theorem four_number4 {l : List UInt8} (h : l.length = 4) : CrcM.four (CrcM.number l) = l := by
  match l, h with
  | [a, b, c, d], _ =>
    have := CrcM.b_lt a; have := CrcM.b_lt b; have := CrcM.b_lt c; have := CrcM.b_lt d
    simp only [CrcM.number, CrcM.four, List.foldl_cons, List.foldl_nil, List.cons.injEq, and_true]
    refine ⟨?_, ?_, ?_, ?_⟩ <;> apply UInt8.toNat.inj <;> simp <;> omega
theorem number_lt4 {l : List UInt8} (h : l.length = 4) : CrcM.number l < 4294967296 := by
  match l, h with
  | [a, b, c, d], _ =>
    have := CrcM.b_lt a; have := CrcM.b_lt b; have := CrcM.b_lt c; have := CrcM.b_lt d
    simp only [CrcM.number, List.foldl_cons, List.foldl_nil]
    omega
theorem sym_length (s i : Nat) (l : List UInt8) : (symB s i l).length = 8 + l.length := by simp [symB, CrcM.four]; omega
theorem sym_take (s i : Nat) (l : List UInt8) (h : s < 4294967296) : CrcM.number ((symB s i l).take 4) = s := by
  unfold symB
  rw [List.append_assoc, List.take_append_of_le_length (by simp [CrcM.four]), List.take_of_length_le (by simp [CrcM.four])]
  exact CrcM.number_four _ h
theorem sym_take2 (s i : Nat) (l : List UInt8) (h : i < 4294967296) : CrcM.number (((symB s i l).drop 4).take 4) = i := by
  unfold symB
  rw [List.append_assoc, List.drop_append_of_le_length (by simp [CrcM.four]), List.drop_of_length_le (by simp [CrcM.four]), List.nil_append, List.take_append_of_le_length (by simp [CrcM.four]), List.take_of_length_le (by simp [CrcM.four])]
  exact CrcM.number_four _ h
theorem sym_drop (s i : Nat) (l : List UInt8) : (symB s i l).drop 8 = l := by
  unfold symB
  exact List.drop_left' (by simp [CrcM.four])
theorem sym_raw (r : List UInt8) (h : 8 < r.length) : symB (CrcM.number (r.take 4)) (CrcM.number ((r.drop 4).take 4)) (r.drop 8) = r := by
  unfold symB
  rw [four_number4 (by simp; omega), four_number4 (by simp; omega)]
  have e : (r.drop 4).take 4 ++ r.drop 8 = r.drop 4 := by
    have := List.take_append_drop 4 (r.drop 4)
    rwa [List.drop_drop] at this
  rw [List.append_assoc, e, List.take_append_drop]
theorem box_new1 (w : World) (o : Obj) : (w.alloc o).heap[w.heap.size]? = some o := heap_alloc_new w o
def ParseSym (s i : Nat) (l : List UInt8) (w : World) (e : Ending) (w' : World) : Prop :=
  ∃ A n cap, e = .returned (.tuple #[.agg #[.int .u32 (s : Int), .int .u32 (i : Int), .slice A n cap], .int .i64 0]) ∧ Hid (n = l.length) ∧ w'.ownsRow w.heap.size 5 1 (.slice A n cap) n (bv l) ∧ Below w.heap.size w w'
theorem parse_sym (s i B n cap : Nat) (A : Option Addr) (l : List UInt8) (w : World) (hs : s < 4294967296) (hi : i < 4294967296) (hl : Row w B A (8 + n) (bv (symB s i l))) (h1 : 1 ≤ n) (h16 : n ≤ 16) (hn : 8 + n ≤ cap) (hcap : cap ≤ 9223372036854775807) (hB : B ≤ w.heap.size) :
    Calls Try.prog 17 #[.slice A (8 + n) cap] w (ParseSym s i l w) := by
  refine (parse_ok B (8 + n) cap A (symB s i l) w hl (by omega) (by omega) hn hcap hB).mono ?_
  rintro e w' ⟨A4, n4, c4, rfl, hn4, hown4, hb⟩
  rw [sym_take _ _ _ hs, sym_take2 _ _ _ hi]
  rw [sym_drop] at hown4
  refine ⟨A4, n4, c4, rfl, ?_, hown4, hb⟩
  have := hn4.out
  rw [sym_length] at this
  show n4 = l.length
  omega
theorem same_ll (s i B n c n' c' : Nat) (A A' : Option Addr) (l : List UInt8) (w : World) (hl : Row w B A n (bv l)) (hl' : Row w B A' n' (bv l)) (hB : B ≤ w.heap.size) :
    Calls Try.prog 20 #[.agg #[.int .u32 (s : Int), .int .u32 (i : Int), .slice A n c], .agg #[.int .u32 (s : Int), .int .u32 (i : Int), .slice A' n' c']] w (fun e w' => e = .returned (.bool true) ∧ Below w.heap.size w w') := by
  refine (same_any s i B n c s i n' c' A A' l l w hl hl' hB).mono ?_
  rintro e w' ⟨b, rfl, hb, hbel⟩
  refine ⟨?_, hbel⟩
  rw [hb.out]
  simp
abbrev SB (a W : World) : Prop := Below a.heap.size a W
theorem SB.next {a W W' : World} (h : SB a W) (hb : Below W.heap.size W W') : SB a W' := Below.trans h (hb.mono (Below.size h))
theorem SB.drew' {a W : World} (h : SB a W) : SB a W.drew := Below.drew h
abbrev SConv (a : World) (A A' : Option Addr) (n c n' c' : Nat) (r : List UInt8) (W : World) : Prop :=
  SB a W ∧ (convert 23 9 (.slice A n c)).run Try.prog W = .ok (.string ⟨r.toArray⟩) W ∧ (convert 23 9 (.slice A' n' c')).run Try.prog W = .ok (.string ⟨r.toArray⟩) W
theorem conv_keep {a : World} {A A' : Option Addr} {n n' : Nat} {r : List UInt8} (h : Row a a.heap.size A n (bv r)) (h' : Row a a.heap.size A' n' (bv r)) (c c' : Nat) (W : World) (hW : SB a W) : SConv a A A' n c n' c' r W :=
  ⟨hW, run_string_row (h.below hW) _ _ _ 5 Try.underlying23 Try.underlying5 Try.underlying9, run_string_row (h'.below hW) _ _ _ 5 Try.underlying23 Try.underlying5 Try.underlying9⟩
theorem conv_next {a W W' : World} {A A' : Option Addr} {n c n' c' : Nat} {r : List UInt8} (h : SConv a A A' n c n' c' r W) (hb : Below W.heap.size W W') : SB a W' := h.1.next hb
theorem conv_drew {a W : World} {A A' : Option Addr} {n c n' c' : Nat} {r : List UInt8} (h : SConv a A A' n c n' c' r W) : SB a W.drew := h.1.drew'
theorem conv_below {a W : World} {A A' : Option Addr} {n c n' c' : Nat} {r : List UInt8} (h : SConv a A A' n c n' c' r W) : SB a W := h.1
set_option maxHeartbeats 800000 in
theorem back_walk (s1 i1 : Nat) (A1 : Option Addr) (n1 c1 : Nat) (l1 : List UInt8) (A2 : Option Addr) (n2 c2 : Nat) (l2 : List UInt8) (w : World) (hs1 : s1 < 4294967296) (hi1 : i1 < 4294967296) (h1 : Row w w.heap.size A1 n1 (bv l1)) (_ : n1 ≤ c1) (_ : c1 ≤ 9223372036854775807)
    (h2 : Row w w.heap.size A2 n2 (bv l2)) (hn2 : n2 ≤ c2) (hc2 : c2 ≤ 9223372036854775807) :
    Calls Try.prog 7 #[.agg #[.int .u32 (s1 : Int), .int .u32 (i1 : Int), .slice A1 n1 c1], .slice A2 n2 c2] w fun e w' => e = .returned (.bool true) ∧ Below w.heap.size w w' := by
  have HS1 := Lib.hid hs1
  have HI1 := Lib.hid hi1
  clear hs1 hi1
  have HL1 := Lib.hid h1.blen
  have HL2 := Lib.hid h2.blen
  by_cases ha : 100 < n1
  · go_enter Try.func7, Try.ntmps7
    go_wp2_with fail
    refine (awake15_any _).mono ?_
    rintro e w' ⟨rfl, hb⟩
    go_wp2
    go_ret
    exact ⟨rfl, ((Below.refl _ _).alloc (Nat.le_refl _) _).trans (hb.mono (by simp))⟩
  by_cases hc : 100 < n2
  · go_enter Try.func7, Try.ntmps7
    go_wp2_with fail
    refine (awake15_any _).mono ?_
    rintro e w' ⟨rfl, hb⟩
    go_wp2
    go_ret
    exact ⟨rfl, ((Below.refl _ _).alloc (Nat.le_refl _) _).trans (hb.mono (by simp))⟩
  go_enter Try.func7, Try.ntmps7
  go_wp2_with fail
  have hb0 : Below w.heap.size w (w.alloc (.cells #[.int .u32 (s1 : Int), .int .u32 (i1 : Int), .slice A1 n1 c1] 39)) := (Below.refl _ w).alloc (Nat.le_refl _) _
  have hx1 := heap_alloc_new w (.cells #[.int .u32 (s1 : Int), .int .u32 (i1 : Int), .slice A1 n1 c1] 39)
  have hz0 : (w.alloc (.cells #[.int .u32 (s1 : Int), .int .u32 (i1 : Int), .slice A1 n1 c1] 39)).heap.size = w.heap.size + 1 := by simp
  generalize (w.alloc (.cells #[.int .u32 (s1 : Int), .int .u32 (i1 : Int), .slice A1 n1 c1] 39)) = w0 at *
  by_cases hgood : 1 ≤ n1 ∧ n1 ≤ 16
  · refine (bytes_ok s1 i1 w.heap.size n1 c1 A1 l1 w0 HS1.out HI1.out (h1.below hb0) hgood.1 hgood.2 (by omega)).mono ?_
    rintro e w1 ⟨A3, n3, c3, rfl, hn3, hown3, hb1⟩
    have hn3' : n3 = 8 + n1 := by rw [hn3.out, sym_length, HL1.out]
    subst hn3'
    have hs1 := hb1.size
    have hc3 := own_cap hown3
    have hB1 := hb0.trans (hb1.mono (by omega))
    have HX1 := Lib.hid ((hb1.block w.heap.size (by omega)).trans hx1)
    clear hx1
    go_wp2_with fail
    refine (parse_sym s1 i1 w1.heap.size n1 c3 A3 l1 w1 HS1.out HI1.out (Row.of_own hown3) hgood.1 hgood.2 hc3.1 hc3.2 (Nat.le_refl _)).mono ?_
    rintro e w2 ⟨A4, n4, c4, rfl, hn4, hown4, hb2⟩
    have hs2 := hb2.size
    have hB2 := hB1.trans (hb2.mono (by omega))
    have HX2 := Lib.hid ((hb2.block w.heap.size (by omega)).trans HX1.out)
    clear HX1
    obtain ⟨y0, y1, y2⟩ := box3 ((((Below.refl (w.heap.size + 1) w2).alloc (by omega) (.cells #[.int .u32 (s1 : Int), .int .u32 (i1 : Int), .slice A4 n4 c4] 39)).block w.heap.size (by omega)).trans HX2.out)
    go_wp2_with fail
    refine (same_ll s1 i1 w2.heap.size n4 c4 n1 c1 A4 A1 l1 _ ((Row.of_own hown4).alloc (Nat.le_refl _) _) (((h1.below hB2).more hB2.size).alloc (Nat.le_refl _) _) (by simp)).mono ?_
    rintro e w3 ⟨rfl, hb3⟩
    have hB3 := (hB2.alloc hB2.size (.cells #[.int .u32 (s1 : Int), .int .u32 (i1 : Int), .slice A4 n4 c4] 39)).trans (hb3.mono (by simp; omega))
    have hs3 := hB3.size
    clear y0 y1 y2
    obtain ⟨y0, y1, y2⟩ := box3 ((hb3.block w.heap.size (by simp; omega)).trans ((((Below.refl (w.heap.size + 1) w2).alloc (by omega) (.cells #[.int .u32 (s1 : Int), .int .u32 (i1 : Int), .slice A4 n4 c4] 39)).block w.heap.size (by omega)).trans HX2.out))
    clear HX2 hown3 hown4
    go_wp2_with fail
    by_cases hq8 : n2 ≤ 8
    · refine (parse_short n2 c2 A2 w3 hq8).mono ?_
      rintro e w5 ⟨rfl, hb5⟩
      have hB5 := hB3.trans (hb5.mono hB3.size)
      have hB5' := hB5.alloc hB5.size (.cells #[.int .u32 0, .int .u32 0, .slice none 0 0] 39)
      go_wp2_with fail
      refine (awake15_any _).mono ?_
      rintro e w' ⟨rfl, hb⟩
      go_wp2
      go_ret
      exact ⟨by show Ending.returned (.bool _) = _; congr 2; simp; omega, hB5'.trans (hb.mono hB5'.size)⟩
    by_cases hq24 : 24 < n2
    · refine (parse_long n2 c2 A2 w3 hq24).mono ?_
      rintro e w5 ⟨rfl, hb5⟩
      have hB5 := hB3.trans (hb5.mono hB3.size)
      have hB5' := hB5.alloc hB5.size (.cells #[.int .u32 0, .int .u32 0, .slice none 0 0] 39)
      go_wp2_with fail
      refine (awake15_any _).mono ?_
      rintro e w' ⟨rfl, hb⟩
      go_wp2
      go_ret
      exact ⟨by show Ending.returned (.bool _) = _; congr 2; simp; omega, hB5'.trans (hb.mono hB5'.size)⟩
    refine (parse_ok w.heap.size n2 c2 A2 l2 w3 (h2.below hB3) (by omega) (by omega) hn2 hc2 hB3.size).mono ?_
    rintro e w5 ⟨A5, n5, c5, rfl, hn5, hown5, hb5⟩
    have hn5' := hn5.out
    rw [HL2.out] at hn5'
    have hB5 := hB3.trans (hb5.mono hB3.size)
    have hl2 := HL2.out
    have hN1 := number_lt4 (l := l2.take 4) (by simp; omega)
    have hN2 := number_lt4 (l := (l2.drop 4).take 4) (by simp; omega)
    have hraw := sym_raw l2 (by omega)
    generalize CrcM.number (l2.take 4) = N1 at *
    generalize CrcM.number ((l2.drop 4).take 4) = N2 at *
    have HN1 := Lib.hid hN1
    have HN2 := Lib.hid hN2
    have HRAW := Lib.hid hraw
    clear hN1 hN2 hraw hn5 hl2
    go_wp2_with fail
    have hB5' := hB5.alloc hB5.size (.cells #[.int .u32 (N1 : Int), .int .u32 (N2 : Int), .slice A5 n5 c5] 39)
    refine (bytes_ok N1 N2 w5.heap.size n5 c5 A5 (l2.drop 8) _ HN1.out HN2.out ((Row.of_own hown5).alloc (Nat.le_refl _) _) (by omega) (by omega) (by simp)).mono ?_
    rintro e w6 ⟨A6, n6, c6, rfl, hn6, hown6, hb6⟩
    rw [HRAW.out] at hown6
    have hB6 := hB5'.trans (hb6.mono hB5'.size)
    obtain ⟨_, k1, k2⟩ := conv_keep (Row.of_own hown6) ((h2.below hB6).more hB6.size) c6 c2 w6 (Below.refl _ _)
    clear hn6
    go_wp2_with fail
    refine (awake15_any _).mono ?_
    rintro e w' ⟨rfl, hb⟩
    go_wp2
    go_ret
    exact ⟨rfl, hB6.trans (hb.mono hB6.size)⟩
  · rcases (show n1 < 1 ∨ 16 < n1 by omega) with hbad | hbad
    · refine (bytes_bad s1 i1 n1 c1 A1 w0 (by omega)).mono ?_
      rintro e w1 ⟨rfl, hb1⟩
      have hB1 := hb0.trans (hb1.mono (by omega))
      have hs1 := hB1.size
      obtain ⟨y0, y1, y2⟩ := box3 ((hb1.block w.heap.size (by omega)).trans hx1)
      clear hx1
      go_wp2_with fail
      by_cases hq8 : n2 ≤ 8
      · refine (parse_short n2 c2 A2 w1 hq8).mono ?_
        rintro e w5 ⟨rfl, hb5⟩
        have hB5 := hB1.trans (hb5.mono hB1.size)
        have hB5' := hB5.alloc hB5.size (.cells #[.int .u32 0, .int .u32 0, .slice none 0 0] 39)
        go_wp2_with fail
        refine (awake15_any _).mono ?_
        rintro e w' ⟨rfl, hb⟩
        go_wp2
        go_ret
        exact ⟨by show Ending.returned (.bool _) = _; congr 2; simp; omega, hB5'.trans (hb.mono hB5'.size)⟩
      by_cases hq24 : 24 < n2
      · refine (parse_long n2 c2 A2 w1 hq24).mono ?_
        rintro e w5 ⟨rfl, hb5⟩
        have hB5 := hB1.trans (hb5.mono hB1.size)
        have hB5' := hB5.alloc hB5.size (.cells #[.int .u32 0, .int .u32 0, .slice none 0 0] 39)
        go_wp2_with fail
        refine (awake15_any _).mono ?_
        rintro e w' ⟨rfl, hb⟩
        go_wp2
        go_ret
        exact ⟨by show Ending.returned (.bool _) = _; congr 2; simp; omega, hB5'.trans (hb.mono hB5'.size)⟩
      refine (parse_ok w.heap.size n2 c2 A2 l2 w1 (h2.below hB1) (by omega) (by omega) hn2 hc2 hB1.size).mono ?_
      rintro e w5 ⟨A5, n5, c5, rfl, hn5, hown5, hb5⟩
      have hn5' := hn5.out
      rw [HL2.out] at hn5'
      have hB5 := hB1.trans (hb5.mono hB1.size)
      have hl2 := HL2.out
      have hN1 := number_lt4 (l := l2.take 4) (by simp; omega)
      have hN2 := number_lt4 (l := (l2.drop 4).take 4) (by simp; omega)
      have hraw := sym_raw l2 (by omega)
      generalize CrcM.number (l2.take 4) = N1 at *
      generalize CrcM.number ((l2.drop 4).take 4) = N2 at *
      have HN1 := Lib.hid hN1
      have HN2 := Lib.hid hN2
      have HRAW := Lib.hid hraw
      clear hN1 hN2 hraw hn5 hl2
      go_wp2_with fail
      have hB5' := hB5.alloc hB5.size (.cells #[.int .u32 (N1 : Int), .int .u32 (N2 : Int), .slice A5 n5 c5] 39)
      refine (bytes_ok N1 N2 w5.heap.size n5 c5 A5 (l2.drop 8) _ HN1.out HN2.out ((Row.of_own hown5).alloc (Nat.le_refl _) _) (by omega) (by omega) (by simp)).mono ?_
      rintro e w6 ⟨A6, n6, c6, rfl, hn6, hown6, hb6⟩
      rw [HRAW.out] at hown6
      have hB6 := hB5'.trans (hb6.mono hB5'.size)
      obtain ⟨_, k1, k2⟩ := conv_keep (Row.of_own hown6) ((h2.below hB6).more hB6.size) c6 c2 w6 (Below.refl _ _)
      clear hn6
      go_wp2_with fail
      refine (awake15_any _).mono ?_
      rintro e w' ⟨rfl, hb⟩
      go_wp2
      go_ret
      exact ⟨rfl, hB6.trans (hb.mono hB6.size)⟩
    · refine (bytes_bad s1 i1 n1 c1 A1 w0 (by omega)).mono ?_
      rintro e w1 ⟨rfl, hb1⟩
      have hB1 := hb0.trans (hb1.mono (by omega))
      have hs1 := hB1.size
      obtain ⟨y0, y1, y2⟩ := box3 ((hb1.block w.heap.size (by omega)).trans hx1)
      clear hx1
      go_wp2_with fail
      by_cases hq8 : n2 ≤ 8
      · refine (parse_short n2 c2 A2 w1 hq8).mono ?_
        rintro e w5 ⟨rfl, hb5⟩
        have hB5 := hB1.trans (hb5.mono hB1.size)
        have hB5' := hB5.alloc hB5.size (.cells #[.int .u32 0, .int .u32 0, .slice none 0 0] 39)
        go_wp2_with fail
        refine (awake15_any _).mono ?_
        rintro e w' ⟨rfl, hb⟩
        go_wp2
        go_ret
        exact ⟨by show Ending.returned (.bool _) = _; congr 2; simp; omega, hB5'.trans (hb.mono hB5'.size)⟩
      by_cases hq24 : 24 < n2
      · refine (parse_long n2 c2 A2 w1 hq24).mono ?_
        rintro e w5 ⟨rfl, hb5⟩
        have hB5 := hB1.trans (hb5.mono hB1.size)
        have hB5' := hB5.alloc hB5.size (.cells #[.int .u32 0, .int .u32 0, .slice none 0 0] 39)
        go_wp2_with fail
        refine (awake15_any _).mono ?_
        rintro e w' ⟨rfl, hb⟩
        go_wp2
        go_ret
        exact ⟨by show Ending.returned (.bool _) = _; congr 2; simp; omega, hB5'.trans (hb.mono hB5'.size)⟩
      refine (parse_ok w.heap.size n2 c2 A2 l2 w1 (h2.below hB1) (by omega) (by omega) hn2 hc2 hB1.size).mono ?_
      rintro e w5 ⟨A5, n5, c5, rfl, hn5, hown5, hb5⟩
      have hn5' := hn5.out
      rw [HL2.out] at hn5'
      have hB5 := hB1.trans (hb5.mono hB1.size)
      have hl2 := HL2.out
      have hN1 := number_lt4 (l := l2.take 4) (by simp; omega)
      have hN2 := number_lt4 (l := (l2.drop 4).take 4) (by simp; omega)
      have hraw := sym_raw l2 (by omega)
      generalize CrcM.number (l2.take 4) = N1 at *
      generalize CrcM.number ((l2.drop 4).take 4) = N2 at *
      have HN1 := Lib.hid hN1
      have HN2 := Lib.hid hN2
      have HRAW := Lib.hid hraw
      clear hN1 hN2 hraw hn5 hl2
      go_wp2_with fail
      have hB5' := hB5.alloc hB5.size (.cells #[.int .u32 (N1 : Int), .int .u32 (N2 : Int), .slice A5 n5 c5] 39)
      refine (bytes_ok N1 N2 w5.heap.size n5 c5 A5 (l2.drop 8) _ HN1.out HN2.out ((Row.of_own hown5).alloc (Nat.le_refl _) _) (by omega) (by omega) (by simp)).mono ?_
      rintro e w6 ⟨A6, n6, c6, rfl, hn6, hown6, hb6⟩
      rw [HRAW.out] at hown6
      have hB6 := hB5'.trans (hb6.mono hB5'.size)
      obtain ⟨_, k1, k2⟩ := conv_keep (Row.of_own hown6) ((h2.below hB6).more hB6.size) c6 c2 w6 (Below.refl _ _)
      clear hn6
      go_wp2_with fail
      refine (awake15_any _).mono ?_
      rintro e w' ⟨rfl, hb⟩
      go_wp2
      go_ret
      exact ⟨rfl, hB6.trans (hb.mono hB6.size)⟩
end Go.Proofs.Ytknealemooanead
