/- PacketForms: symbols as bytes, bytes as symbols, which are alike, which fit: all as the page has it. For every input, no condition. -/
import Derived.Test.YtiogkokcoedonaaRows
import Derived.Test.YtiogkokcoedonaaPacketSame
import Derived.Test.YtiogkokcoedonaaR7Parse
import Derived.Test.YtiogkokcoedonaaR7Fits
import Derived.Test.YtiogkokcoedonaaLawPar
import Derived.Test.YtiogkokcoedonaaGrow
namespace Go.Proofs.Ytiogkokcoedonaa
open Go.ChangeShapes Go.WideShapes Go.ChangeAt Go.RowKit
def bF (s id : Nat) (l : List UInt8) : List UInt8 := if l.length < 1 ∨ 16 < l.length then [] else symB s id l
def bK (l : List UInt8) : Int := if l.length < 1 ∨ 16 < l.length then 1 else 0
def BytesRes (l : List UInt8) (k : Int) (w : World) (e : Ending) (w' : World) : Prop :=
  ∃ A n c, e = .returned (.tuple #[.slice A n c, .int .i64 k]) ∧ Hid (Row w' w'.heap.size A n (bv l)) ∧ Below w.heap.size w w'
theorem bytes_res (s id B n cap : Nat) (A : Option Addr) (l : List UInt8) (w : World) (hs : s < 4294967296) (hid : id < 4294967296) (hl : Row w B A n (bv l)) (hB : B ≤ w.heap.size) :
    Calls Try.prog 21 #[.agg #[.int .u32 (s : Int), .int .u32 (id : Int), .slice A n cap]] w (BytesRes (bF s id l) (bK l) w) := by
  have hb := hl.blen
  by_cases h : n < 1 ∨ 16 < n
  · refine (bytes_bad s id n cap A w h).mono ?_
    rintro e w' ⟨rfl, hb'⟩
    refine ⟨none, 0, 0, ?_, ?_, hb'⟩
    · unfold bK; rw [if_pos (by rw [hb]; exact h)]
    · unfold bF; rw [if_pos (by rw [hb]; exact h)]; exact Row.nil _ _ _
  · refine (bytes_ok s id B n cap A l w hs hid hl (by omega) (by omega) hB).mono ?_
    rintro e w' ⟨A', m, c, rfl, _, hown, hb'⟩
    refine ⟨A', m, c, ?_, ?_, hb'⟩
    · unfold bK; rw [if_neg (by rw [hb]; exact h)]
    · unfold bF; rw [if_neg (by rw [hb]; exact h)]; exact Row.of_own hown
theorem r7bytes_res (s id B n cap : Nat) (A : Option Addr) (l : List UInt8) (w : World) (hs : s < 4294967296) (hid : id < 4294967296) (hl : Row w B A n (bv l)) (hB : B ≤ w.heap.size) :
    Calls Try.prog 22 #[.agg #[.int .u32 (s : Int), .int .u32 (id : Int), .slice A n cap]] w (BytesRes (bF s id l) (bK l) w) := by
  have hb := hl.blen
  by_cases h : n < 1 ∨ 16 < n
  · refine (r7bytes_bad s id n cap A w h).mono ?_
    rintro e w' ⟨rfl, hb'⟩
    refine ⟨none, 0, 0, ?_, ?_, hb'⟩
    · unfold bK; rw [if_pos (by rw [hb]; exact h)]
    · unfold bF; rw [if_pos (by rw [hb]; exact h)]; exact Row.nil _ _ _
  · refine (r7bytes_ok s id B n cap A l w hs hid hl (by omega) (by omega) hB).mono ?_
    rintro e w' ⟨A', m, c, rfl, hown, hb'⟩
    refine ⟨A', m, c, ?_, ?_, hb'⟩
    · unfold bK; rw [if_neg (by rw [hb]; exact h)]
    · unfold bF; rw [if_neg (by rw [hb]; exact h)]; exact Row.of_own hown
def pS (l : List UInt8) : Nat := if l.length ≤ 8 ∨ 24 < l.length then 0 else CrcM.number (l.take 4)
def pI (l : List UInt8) : Nat := if l.length ≤ 8 ∨ 24 < l.length then 0 else CrcM.number ((l.drop 4).take 4)
def pD (l : List UInt8) : List UInt8 := if l.length ≤ 8 ∨ 24 < l.length then [] else l.drop 8
def pK (l : List UInt8) : Int := if l.length ≤ 8 then 2 else if 24 < l.length then 3 else 0
def SymRes (l : List UInt8) (w : World) (e : Ending) (w' : World) : Prop :=
  ∃ A n c, e = .returned (.tuple #[.agg #[.int .u32 (pS l : Nat), .int .u32 (pI l : Nat), .slice A n c], .int .i64 (pK l)]) ∧ Hid (Row w' w'.heap.size A n (bv (pD l))) ∧ Below w.heap.size w w'
theorem parse_res (B n cap : Nat) (A : Option Addr) (l : List UInt8) (w : World) (hl : Row w B A n (bv l)) (hn : n ≤ cap) (hcap : cap ≤ 9223372036854775807) (hB : B ≤ w.heap.size) :
    Calls Try.prog 23 #[.slice A n cap] w (SymRes l w) := by
  have hb := hl.blen
  by_cases h1 : n ≤ 8
  · refine (parse_short n cap A w h1).mono ?_
    rintro e w' ⟨rfl, hb'⟩
    refine ⟨none, 0, 0, ?_, ?_, hb'⟩
    · simp [pS, pI, pK, hb, h1]
    · unfold pD; rw [if_pos (by omega)]; exact Row.nil _ _ _
  by_cases h2 : 24 < n
  · refine (parse_long n cap A w h2).mono ?_
    rintro e w' ⟨rfl, hb'⟩
    refine ⟨none, 0, 0, ?_, ?_, hb'⟩
    · simp [pS, pI, pK, hb, h1, h2]
    · unfold pD; rw [if_pos (by omega)]; exact Row.nil _ _ _
  · refine (parse_ok B n cap A l w hl (by omega) (by omega) hn hcap hB).mono ?_
    rintro e w' ⟨A', m, c, rfl, _, hown, hb'⟩
    refine ⟨A', m, c, ?_, ?_, hb'⟩
    · unfold pS pI pK; rw [if_neg (by omega), if_neg (by omega), if_neg (by omega), if_neg (by omega)]
    · unfold pD; rw [if_neg (by omega)]; exact Row.of_own hown
theorem r7parse_res (B n cap : Nat) (A : Option Addr) (l : List UInt8) (w : World) (hl : Row w B A n (bv l)) (hn : n ≤ cap) (hcap : cap ≤ 9223372036854775807) (hB : B ≤ w.heap.size) :
    Calls Try.prog 24 #[.slice A n cap] w (SymRes l w) := by
  have hb := hl.blen
  by_cases h1 : n ≤ 8
  · refine (r7parse_short n cap A w h1).mono ?_
    rintro e w' ⟨rfl, hb'⟩
    refine ⟨none, 0, 0, ?_, ?_, hb'⟩
    · simp [pS, pI, pK, hb, h1]
    · unfold pD; rw [if_pos (by omega)]; exact Row.nil _ _ _
  by_cases h2 : 24 < n
  · refine (r7parse_long n cap A w h2).mono ?_
    rintro e w' ⟨rfl, hb'⟩
    refine ⟨none, 0, 0, ?_, ?_, hb'⟩
    · simp [pS, pI, pK, hb, h1, h2]
    · unfold pD; rw [if_pos (by omega)]; exact Row.nil _ _ _
  · refine (r7parse_ok B n cap A l w hl (by omega) (by omega) hn hcap hB).mono ?_
    rintro e w' ⟨A', m, c, rfl, _, hown, hb'⟩
    refine ⟨A', m, c, ?_, ?_, hb'⟩
    · unfold pS pI pK; rw [if_neg (by omega), if_neg (by omega), if_neg (by omega), if_neg (by omega)]
    · unfold pD; rw [if_neg (by omega)]; exact Row.of_own hown
theorem cells3_of {w : World} {g : Nat} {x y z : Value} {t : TypeId} (h : w.heap[g]? = some (.cells #[x, y, z] t (0, 0))) : ∀ W, Below w.heap.size w W → (W.cell? ⟨g, 0, none⟩ = some x ∧ W.cell? ⟨g, 1, none⟩ = some y ∧ W.cell? ⟨g, 2, none⟩ = some z) := fun W hW =>
  box3 ((hW.block g (Array.getElem?_eq_some_iff.1 h).1).trans h)
theorem cells4_of {w : World} {g : Nat} {x y z u : Value} {t : TypeId} (h : w.heap[g]? = some (.cells #[x, y, z, u] t (0, 0))) : ∀ W, Below w.heap.size w W → (W.cell? ⟨g, 0, none⟩ = some x ∧ W.cell? ⟨g, 1, none⟩ = some y ∧ W.cell? ⟨g, 2, none⟩ = some z ∧ W.cell? ⟨g, 3, none⟩ = some u) := fun W hW =>
  box4 ((hW.block g (Array.getElem?_eq_some_iff.1 h).1).trans h)
theorem forms_big (v0 v1 : Value) (s1 i1 n1 c1 s2 i2 n2 c2 : Nat) (A1 A2 : Option Addr) (n cap : Nat) (A : Option Addr) (p0 : Nat) (Kp Lp Zp : Int) (w : World) (e0 : v0 = .agg #[.int .u32 (s1 : Int), .int .u32 (i1 : Int), .slice A1 n1 c1]) (e1 : v1 = .agg #[.int .u32 (s2 : Int), .int .u32 (i2 : Int), .slice A2 n2 c2]) (h : 100 < n1 ∨ 100 < n2 ∨ 100 < n) :
    Calls Try.prog 9 #[v0, v1, .slice A n cap, .agg #[.int .u32 (p0 : Int), .int .i64 Kp, .int .i64 Lp, .int .i64 Zp]] w fun e w' => e = .returned (.bool true) ∧ Below w.heap.size w w' := by
  subst e0 e1
  have hb0 : Below w.heap.size w (((w.alloc (.cells #[.int .u32 (s1 : Int), .int .u32 (i1 : Int), .slice A1 n1 c1] 39)).alloc (.cells #[.int .u32 (s2 : Int), .int .u32 (i2 : Int), .slice A2 n2 c2] 39)).alloc (.cells #[.int .u32 (p0 : Int), .int .i64 Kp, .int .i64 Lp, .int .i64 Zp] 41)) := (((Below.refl _ _).alloc (Nat.le_refl _) _).alloc (by simp) _).alloc (by simp; omega) _
  have HB := Lib.hid hb0
  clear hb0
  by_cases h1 : 100 < n1
  · clear h
    go_enter Try.func9, Try.ntmps9
    go_wp2_with fail
    refine (awake15_any _).mono ?_
    rintro e w' ⟨rfl, hb⟩
    go_wp2
    go_ret
    exact ⟨rfl, HB.out.trans (hb.mono HB.out.size)⟩
  by_cases h2 : 100 < n2
  · clear h
    go_enter Try.func9, Try.ntmps9
    go_wp2_with fail
    refine (awake15_any _).mono ?_
    rintro e w' ⟨rfl, hb⟩
    go_wp2
    go_ret
    exact ⟨rfl, HB.out.trans (hb.mono HB.out.size)⟩
  have h3 : 100 < n := by omega
  clear h
  go_enter Try.func9, Try.ntmps9
  go_wp2_with fail
  refine (awake15_any _).mono ?_
  rintro e w' ⟨rfl, hb⟩
  go_wp2
  go_ret
  exact ⟨rfl, HB.out.trans (hb.mono HB.out.size)⟩
set_option maxHeartbeats 3200000 in
theorem forms_walk (s1 i1 : Nat) (A1 : Option Addr) (n1 c1 : Nat) (l1 : List UInt8) (s2 i2 : Nat) (A2 : Option Addr) (n2 c2 : Nat) (l2 : List UInt8) (A : Option Addr) (n cap : Nat) (l : List UInt8) (p0 : Nat) (Kp Lp Zp : Int) (w : World) (hs1 : s1 < 4294967296) (hi1 : i1 < 4294967296) (hl1 : Row w w.heap.size A1 n1 (bv l1)) (_ : n1 ≤ c1) (_ : c1 ≤ 9223372036854775807)
    (hs2 : s2 < 4294967296) (hi2 : i2 < 4294967296) (hl2 : Row w w.heap.size A2 n2 (bv l2)) (_ : n2 ≤ c2) (_ : c2 ≤ 9223372036854775807) (hl : Row w w.heap.size A n (bv l)) (hn : n ≤ cap) (hcap : cap ≤ 9223372036854775807) :
    Calls Try.prog 9 #[.agg #[.int .u32 (s1 : Int), .int .u32 (i1 : Int), .slice A1 n1 c1], .agg #[.int .u32 (s2 : Int), .int .u32 (i2 : Int), .slice A2 n2 c2], .slice A n cap, .agg #[.int .u32 (p0 : Int), .int .i64 Kp, .int .i64 Lp, .int .i64 Zp]] w fun e w' => e = .returned (.bool true) ∧ Below w.heap.size w w' := by
  by_cases hbig : 100 < n1 ∨ 100 < n2 ∨ 100 < n
  · exact forms_big _ _ s1 i1 n1 c1 s2 i2 n2 c2 A1 A2 n cap A p0 Kp Lp Zp w rfl rfl hbig
  have hm1 : n1 ≤ 100 := by omega
  have hm2 : n2 ≤ 100 := by omega
  have hm3 : n ≤ 100 := by omega
  clear hbig
  have HS1 := Lib.hid hs1
  have HI1 := Lib.hid hi1
  clear hs1 hi1 hs2 hi2
  obtain ⟨w0, hw0⟩ : ∃ w0, w0 = (((w.alloc (.cells #[.int .u32 (s1 : Int), .int .u32 (i1 : Int), .slice A1 n1 c1] 39)).alloc (.cells #[.int .u32 (s2 : Int), .int .u32 (i2 : Int), .slice A2 n2 c2] 39)).alloc (.cells #[.int .u32 (p0 : Int), .int .i64 Kp, .int .i64 Lp, .int .i64 Zp] 41)) := ⟨_, rfl⟩
  have hb0 : Below w.heap.size w w0 := by rw [hw0]; exact (((Below.refl _ _).alloc (Nat.le_refl _) _).alloc (by simp) _).alloc (by simp; omega) _
  have hx1 : w0.heap[w.heap.size]? = some (.cells #[.int .u32 (s1 : Int), .int .u32 (i1 : Int), .slice A1 n1 c1] 39 (0, 0)) := by
    rw [hw0]; exact (((Below.refl (w.heap.size + 2) _).alloc (by simp) _).block w.heap.size (by omega)).trans (boxA w _ _)
  have hx2 : w0.heap[w.heap.size + 1]? = some (.cells #[.int .u32 (s2 : Int), .int .u32 (i2 : Int), .slice A2 n2 c2] 39 (0, 0)) := by
    rw [hw0]; exact (((Below.refl (w.heap.size + 2) _).alloc (by simp) _).block (w.heap.size + 1) (by omega)).trans (boxB w _ _)
  have hx3 : w0.heap[w.heap.size + 2]? = some (.cells #[.int .u32 (p0 : Int), .int .i64 Kp, .int .i64 Lp, .int .i64 Zp] 41 (0, 0)) := by
    rw [hw0]
    have := heap_alloc_new ((w.alloc (.cells #[.int .u32 (s1 : Int), .int .u32 (i1 : Int), .slice A1 n1 c1] 39)).alloc (.cells #[.int .u32 (s2 : Int), .int .u32 (i2 : Int), .slice A2 n2 c2] 39)) (.cells #[.int .u32 (p0 : Int), .int .i64 Kp, .int .i64 Lp, .int .i64 Zp] 41)
    simpa using this
  have hz0 : w.heap.size + 3 ≤ w0.heap.size := by rw [hw0]; simp
  have HW0 := Lib.hid hw0
  have HX1 := Lib.hid hx1
  have HX2 := Lib.hid hx2
  have HX3 := Lib.hid hx3
  have HZ0 := Lib.hid hz0
  have HB0 := Lib.hid hb0
  clear hw0 hx1 hx2 hx3 hz0 hb0
  go_enter Try.func9, Try.ntmps9
  go_wp2_with fail
  rw [← HW0.out]
  refine (bytes_res s1 i1 w.heap.size n1 c1 A1 l1 w0 HS1.out HI1.out (hl1.below HB0.out) HB0.out.size).mono ?_
  rintro e w1 ⟨A3, n3, c3, rfl, hr3, hb1⟩
  have HB1 := Lib.hid (HB0.out.trans (hb1.mono HB0.out.size))
  have hbw1 := Lib.hid hb1
  obtain ⟨y0, y1, y2⟩ := cells3_of HX1.out w1 hb1
  clear hb1
  go_wp2_with fail
  refine (r7bytes_res s1 i1 w.heap.size n1 c1 A1 l1 w1 HS1.out HI1.out (hl1.below HB1.out) HB1.out.size).mono ?_
  rintro e w2 ⟨A4, n4, c4, rfl, hr4, hb2⟩
  have HB2 := Lib.hid (HB1.out.trans (hb2.mono HB1.out.size))
  have HR3 := Lib.hid ((hr3.out.below hb2).more hb2.size)
  have hbw2 := Lib.hid (hbw1.out.trans (hb2.mono hbw1.out.size))
  clear hb2 y0 y1 y2 hr3 hbw1 HB1
  go_wp2_with fail
  refine (parse_res w.heap.size n cap A l w2 (hl.below HB2.out) hn hcap HB2.out.size).mono ?_
  rintro e w3 ⟨A5, n5, c5, rfl, hr5, hb3⟩
  have HB3 := Lib.hid (HB2.out.trans (hb3.mono HB2.out.size))
  have hbw3 := Lib.hid (hbw2.out.trans (hb3.mono hbw2.out.size))
  have HR3b := Lib.hid ((HR3.out.below hb3).more hb3.size)
  have HR4 := Lib.hid ((hr4.out.below hb3).more hb3.size)
  clear hb3 hr4 HR3 hbw2 HB2
  go_wp2_with fail
  obtain ⟨w3a, hw3a⟩ : ∃ w3a, w3a = (w3.alloc (.cells #[.int .u32 (pS l : Nat), .int .u32 (pI l : Nat), .slice A5 n5 c5] 39)) := ⟨_, rfl⟩
  have hxs : w3a.heap[w3.heap.size]? = some (.cells #[.int .u32 (pS l : Nat), .int .u32 (pI l : Nat), .slice A5 n5 c5] 39 (0, 0)) := by rw [hw3a]; exact heap_alloc_new w3 _
  have hb3a : Below w3.heap.size w3 w3a := by rw [hw3a]; exact (Below.refl _ _).alloc (Nat.le_refl _) _
  have HB3a := Lib.hid (HB3.out.trans (hb3a.mono HB3.out.size))
  have hbw3a := Lib.hid (hbw3.out.trans (hb3a.mono hbw3.out.size))
  have HR3c := Lib.hid ((HR3b.out.below hb3a).more hb3a.size)
  have HR4c := Lib.hid ((HR4.out.below hb3a).more hb3a.size)
  have HR5c := Lib.hid ((hr5.out.below hb3a).more hb3a.size)
  have HXS := Lib.hid hxs
  rw [← hw3a]
  have HW3a := Lib.hid hw3a
  clear hxs hb3a hw3a HB3 hbw3 HR3b HR4 hr5
  refine (r7parse_res w.heap.size n cap A l w3a (hl.below HB3a.out) hn hcap HB3a.out.size).mono ?_
  rintro e w4 ⟨A6, n6, c6, rfl, hr6, hb4⟩
  have HB4 := Lib.hid (HB3a.out.trans (hb4.mono HB3a.out.size))
  have hbw4 := Lib.hid (hbw3a.out.trans (hb4.mono hbw3a.out.size))
  have HR3d := Lib.hid ((HR3c.out.below hb4).more hb4.size)
  have HR4d := Lib.hid ((HR4c.out.below hb4).more hb4.size)
  have HR5d := Lib.hid ((HR5c.out.below hb4).more hb4.size)
  have HXSd := Lib.hid ((hb4.block _ (Array.getElem?_eq_some_iff.1 HXS.out).1).trans HXS.out)
  clear hb4 HB3a hbw3a HR3c HR4c HR5c HXS
  go_wp2_with fail
  obtain ⟨w5, hw5⟩ : ∃ w5, w5 = (w4.alloc (.cells #[.int .u32 (pS l : Nat), .int .u32 (pI l : Nat), .slice A6 n6 c6] 39)) := ⟨_, rfl⟩
  have hxt : w5.heap[w4.heap.size]? = some (.cells #[.int .u32 (pS l : Nat), .int .u32 (pI l : Nat), .slice A6 n6 c6] 39 (0, 0)) := by rw [hw5]; exact heap_alloc_new w4 _
  have hb5 : Below w4.heap.size w4 w5 := by rw [hw5]; exact (Below.refl _ _).alloc (Nat.le_refl _) _
  have HB5 := Lib.hid (HB4.out.trans (hb5.mono HB4.out.size))
  have hbw5 := Lib.hid (hbw4.out.trans (hb5.mono hbw4.out.size))
  have hcx := Lib.hid (conv_row c3 ((HR3d.out.below hb5).more hb5.size) (Nat.le_refl _))
  have hcy := Lib.hid (conv_row c4 ((HR4d.out.below hb5).more hb5.size) (Nat.le_refl _))
  have HR5e := Lib.hid ((HR5d.out.below hb5).more hb5.size)
  have HR6e := Lib.hid ((hr6.out.below hb5).more hb5.size)
  have hks := Lib.hid (cells3_of ((hb5.block _ (Array.getElem?_eq_some_iff.1 HXSd.out).1).trans HXSd.out))
  have hkt := Lib.hid (cells3_of hxt)
  have hka := Lib.hid (cells3_of ((hbw5.out.block _ (Array.getElem?_eq_some_iff.1 HX1.out).1).trans HX1.out))
  have hkb := Lib.hid (cells3_of ((hbw5.out.block _ (Array.getElem?_eq_some_iff.1 HX2.out).1).trans HX2.out))
  have hkp := Lib.hid (cells4_of ((hbw5.out.block _ (Array.getElem?_eq_some_iff.1 HX3.out).1).trans HX3.out))
  rw [← hw5]
  clear hxt hb5 hw5 HB4 hbw4 HR3d HR4d HR5d HXSd hr6 HW3a
  generalize hgS : w3.heap.size = gS at *
  generalize hgT : w4.heap.size = gT at *
  clear hgS hgT
  have HL1 := Lib.hid ((hl1.below HB5.out).more HB5.out.size)
  have HL2 := Lib.hid ((hl2.below HB5.out).more HB5.out.size)
  obtain ⟨Q, hQ⟩ : ∃ Q : Bool, decide (s1 = s2 ∧ i1 = i2 ∧ l1 = l2) = Q := ⟨_, rfl⟩
  obtain ⟨F, hF⟩ : ∃ F : Int, fitsC s1 p0 n1 Kp Lp Zp = F := ⟨_, rfl⟩
  have HQ := Lib.hid hQ
  have HF := Lib.hid hF
  clear hQ hF
  generalize hps : pS l = ps at *
  generalize hpi : pI l = pi at *
  generalize hpk : pK l = pk at *
  generalize hbk : bK l1 = bk at *
  clear hps hpi hpk hbk
  refine wp_region_noPanic ?_
  refine wp_region_held_drew (S := (fun W => Below w5.heap.size w5 W)) (by kernel_rfl) (Below.refl _ _).drew (fun hH0 => ?_)
  have hH0 : Below w5.heap.size w5 w5.drew := hH0
  generalize w5.drew = wd at *
  refine wpAnyH_take (i := 0) (oi := { dst := some 53, op := Op.move (Operand.tmp 9), type := 22, pos := "law.go:25", after := #[], guard := none }) (v := ?tkv1) rfl (by kernel_rfl) (by kernel_rfl) (by kernel_rfl) (fun _ _ _ h => h) (Or.inl ⟨by rfl, ?tky1⟩) hH0 ?tkr1
  case tky1 => (intro w' hSw; clear hSw; go_simp; try with_reducible rfl)
  try simp only [Act.put, List.setIfInBounds_toArray, List.set_cons_zero, List.set_cons_succ]
  refine wpAnyH_take (i := 1) (oi := { dst := some 54, op := Op.convert 22 9 (Operand.tmp 53), type := 9, pos := "law.go:25", after := #[{ on := 0, ground := Ground.data }], guard := none }) (v := ?tkv2) rfl (by kernel_rfl) (by kernel_rfl) (by kernel_rfl) (fun _ _ _ h => h) (Or.inl ⟨by rfl, ?tky2⟩) hH0 ?tkr2
  case tky2 => (intro w' hSw; have z0 := hcx.out _ hSw; have z1 := hcy.out _ hSw; have z2 := hks.out _ hSw; have z3 := hkt.out _ hSw; have z4 := hka.out _ hSw; have z5 := hkb.out _ hSw; have z6 := hkp.out _ hSw; clear hSw; go_simp; try with_reducible rfl)
  try simp only [Act.put, List.setIfInBounds_toArray, List.set_cons_zero, List.set_cons_succ]
  refine wpAnyH_take (i := 2) (oi := { dst := some 55, op := Op.move (Operand.tmp 11), type := 22, pos := "law.go:25", after := #[], guard := none }) (v := ?tkv3) rfl (by kernel_rfl) (by kernel_rfl) (by kernel_rfl) (fun _ _ _ h => h) (Or.inl ⟨by rfl, ?tky3⟩) hH0 ?tkr3
  case tky3 => (intro w' hSw; clear hSw; go_simp; try with_reducible rfl)
  try simp only [Act.put, List.setIfInBounds_toArray, List.set_cons_zero, List.set_cons_succ]
  refine wpAnyH_take (i := 3) (oi := { dst := some 56, op := Op.convert 22 9 (Operand.tmp 55), type := 9, pos := "law.go:25", after := #[{ on := 2, ground := Ground.data }], guard := none }) (v := ?tkv4) rfl (by kernel_rfl) (by kernel_rfl) (by kernel_rfl) (fun _ _ _ h => h) (Or.inl ⟨by rfl, ?tky4⟩) hH0 ?tkr4
  case tky4 => (intro w' hSw; have z0 := hcx.out _ hSw; have z1 := hcy.out _ hSw; have z2 := hks.out _ hSw; have z3 := hkt.out _ hSw; have z4 := hka.out _ hSw; have z5 := hkb.out _ hSw; have z6 := hkp.out _ hSw; clear hSw; go_simp; try with_reducible rfl)
  try simp only [Act.put, List.setIfInBounds_toArray, List.set_cons_zero, List.set_cons_succ]
  refine wpAnyH_take (i := 4) (oi := { dst := some 57, op := Op.binOp BinOp.eql 9 (Operand.tmp 54) (Operand.tmp 56) 9, type := 4, pos := "law.go:25", after := #[{ on := 1, ground := Ground.data }, { on := 3, ground := Ground.data }], guard := none }) (v := ?tkv5) rfl (by kernel_rfl) (by kernel_rfl) (by kernel_rfl) (fun _ _ _ h => h) (Or.inl ⟨by rfl, ?tky5⟩) hH0 ?tkr5
  case tky5 => (intro w' hSw; clear hSw; go_simp; try with_reducible rfl)
  try simp only [Act.put, List.setIfInBounds_toArray, List.set_cons_zero, List.set_cons_succ]
  refine wpAnyH_take (i := 5) (oi := { dst := some 58, op := Op.move (Operand.tmp 57), type := 4, pos := "law.go:25", after := #[{ on := 4, ground := Ground.data }], guard := none }) (v := ?tkv6) rfl (by kernel_rfl) (by kernel_rfl) (by kernel_rfl) (fun _ _ _ h => h) (Or.inl ⟨by rfl, ?tky6⟩) hH0 ?tkr6
  case tky6 => (intro w' hSw; clear hSw; go_simp; try with_reducible rfl)
  try simp only [Act.put, List.setIfInBounds_toArray, List.set_cons_zero, List.set_cons_succ]
  refine wpAnyH_take (i := 6) (oi := { dst := some 59, op := Op.move (Operand.tmp 10), type := 42, pos := "law.go:25", after := #[{ on := 5, ground := Ground.guard }], guard := some (5, true) }) (v := ?tkv7) rfl (by kernel_rfl) (by kernel_rfl) (by kernel_rfl) (fun _ _ _ h => h) (Or.inl ⟨by rfl, ?tky7⟩) hH0 ?tkr7
  case tky7 => (intro w' hSw; clear hSw; go_simp; try with_reducible rfl)
  try simp only [Act.put, List.setIfInBounds_toArray, List.set_cons_zero, List.set_cons_succ]
  refine wpAnyH_take (i := 7) (oi := { dst := some 60, op := Op.move (Operand.tmp 12), type := 42, pos := "law.go:25", after := #[{ on := 5, ground := Ground.guard }], guard := some (5, true) }) (v := ?tkv8) rfl (by kernel_rfl) (by kernel_rfl) (by kernel_rfl) (fun _ _ _ h => h) (Or.inl ⟨by rfl, ?tky8⟩) hH0 ?tkr8
  case tky8 => (intro w' hSw; clear hSw; go_simp; try with_reducible rfl)
  try simp only [Act.put, List.setIfInBounds_toArray, List.set_cons_zero, List.set_cons_succ]
  refine wpAnyH_take (i := 8) (oi := { dst := some 61, op := Op.binOp BinOp.eql 42 (Operand.tmp 59) (Operand.tmp 60) 42, type := 4, pos := "law.go:25", after := #[{ on := 6, ground := Ground.data }, { on := 7, ground := Ground.data }, { on := 5, ground := Ground.guard }], guard := some (5, true) }) (v := ?tkv9) rfl (by kernel_rfl) (by kernel_rfl) (by kernel_rfl) (fun _ _ _ h => h) (Or.inl ⟨by rfl, ?tky9⟩) hH0 ?tkr9
  case tky9 => (intro w' hSw; clear hSw; go_simp; try with_reducible rfl)
  try simp only [Act.put, List.setIfInBounds_toArray, List.set_cons_zero, List.set_cons_succ]
  refine wpAnyH_take (i := 9) (oi := { dst := some 62, op := Op.pick (Operand.tmp 58) (Operand.tmp 61) (Operand.const (Value.bool false)), type := 4, pos := "law.go:25", after := #[{ on := 5, ground := Ground.data }, { on := 8, ground := Ground.data }], guard := none }) (v := ?tkv10) rfl (by kernel_rfl) (by kernel_rfl) (by kernel_rfl) (fun _ _ _ h => h) (Or.inl ⟨by rfl, ?tky10⟩) hH0 ?tkr10
  case tky10 => (intro w' hSw; clear hSw; go_simp; try with_reducible rfl)
  try simp only [Act.put, List.setIfInBounds_toArray, List.set_cons_zero, List.set_cons_succ]
  refine wpAnyH_take (i := 10) (oi := { dst := some 63, op := Op.move (Operand.tmp 62), type := 4, pos := "law.go:25", after := #[{ on := 9, ground := Ground.data }, { on := 5, ground := Ground.chain }], guard := none }) (v := ?tkv11) rfl (by kernel_rfl) (by kernel_rfl) (by kernel_rfl) (fun _ _ _ h => h) (Or.inl ⟨by rfl, ?tky11⟩) hH0 ?tkr11
  case tky11 => (intro w' hSw; clear hSw; go_simp; try with_reducible rfl)
  try simp only [Act.put, List.setIfInBounds_toArray, List.set_cons_zero, List.set_cons_succ]
  refine wpAnyH_take (i := 11) (oi := { dst := some 64, op := Op.load 39 (Operand.tmp 13), type := 39, pos := "law.go:25", after := #[{ on := 10, ground := Ground.guard }], guard := some (10, true) }) (v := ?tkv12) rfl (by kernel_rfl) (by kernel_rfl) (by kernel_rfl) (fun _ _ _ h => h) (Or.inl ⟨by rfl, ?tky12⟩) hH0 ?tkr12
  case tky12 => (intro w' hSw; have z0 := hcx.out _ hSw; have z1 := hcy.out _ hSw; have z2 := hks.out _ hSw; have z3 := hkt.out _ hSw; have z4 := hka.out _ hSw; have z5 := hkb.out _ hSw; have z6 := hkp.out _ hSw; clear hSw; go_simp; try with_reducible rfl)
  try simp only [Act.put, List.setIfInBounds_toArray, List.set_cons_zero, List.set_cons_succ]
  refine wpAnyH_take (i := 12) (oi := { dst := some 65, op := Op.load 39 (Operand.tmp 15), type := 39, pos := "law.go:25", after := #[{ on := 10, ground := Ground.guard }], guard := some (10, true) }) (v := ?tkv13) rfl (by kernel_rfl) (by kernel_rfl) (by kernel_rfl) (fun _ _ _ h => h) (Or.inl ⟨by rfl, ?tky13⟩) hH0 ?tkr13
  case tky13 => (intro w' hSw; have z0 := hcx.out _ hSw; have z1 := hcy.out _ hSw; have z2 := hks.out _ hSw; have z3 := hkt.out _ hSw; have z4 := hka.out _ hSw; have z5 := hkb.out _ hSw; have z6 := hkp.out _ hSw; clear hSw; go_simp; try with_reducible rfl)
  try simp only [Act.put, List.setIfInBounds_toArray, List.set_cons_zero, List.set_cons_succ]
  refine wpAnyH_ready (rs := [13]) (by kernel_rfl) (by simp) ?_
  refine AllReadyH.cons (o := { dst := some 66, op := Op.call { callee := Callee.value (Operand.func 25), args := #[Operand.tmp 64, Operand.tmp 65], argTypes := #[39, 39] }, type := 4, pos := "law.go:25", after := #[{ on := 11, ground := Ground.data }, { on := 12, ground := Ground.data }, { on := 10, ground := Ground.chain }, { on := 10, ground := Ground.guard }], guard := some (10, true) }) rfl (fun K hK => ?_) AllReadyH.nil
  go_simp
  refine (r7same_any ps pi w5.heap.size n5 c5 ps pi n6 c6 A5 A6 (pD l) (pD l) _ (HR5e.out.below hH0) (HR6e.out.below hH0) (hH0).size).mono ?_
  rintro e w6 ⟨b6, rfl, hq6, hb13⟩
  obtain rfl : b6 = true := by rw [hq6.out]; simp
  clear hq6
  go_wp2_with fail
  refine hK.out _ _ ((hH0).trans (hb13.mono (hH0).size)) (fun hH14 => ?_)
  clear hK K
  try simp only [Act.put, List.setIfInBounds_toArray, List.set_cons_zero, List.set_cons_succ]
  have hG14 : (fun W => Below w5.heap.size w5 W ∧ Below w6.heap.size w6 W) w6 := ⟨hH14, Below.refl _ _⟩
  refine wpAnyH_grow (S' := (fun W => Below w5.heap.size w5 W ∧ Below w6.heap.size w6 W)) (fun _ h => h.1) _ _ _ _ ?_
  refine wpAnyH_take (i := 14) (oi := { dst := some 67, op := Op.pick (Operand.tmp 63) (Operand.tmp 66) (Operand.const (Value.bool false)), type := 4, pos := "law.go:25", after := #[{ on := 10, ground := Ground.data }, { on := 13, ground := Ground.data }], guard := none }) (v := ?tkv15) rfl (by kernel_rfl) (by kernel_rfl) (by kernel_rfl) (fun _ _ _ h => h) (Or.inl ⟨by rfl, ?tky15⟩) hG14 ?tkr15
  case tky15 => (intro w' hSw; clear hSw; go_simp; try with_reducible rfl)
  try simp only [Act.put, List.setIfInBounds_toArray, List.set_cons_zero, List.set_cons_succ]
  refine wpAnyH_take (i := 15) (oi := { dst := some 68, op := Op.move (Operand.tmp 67), type := 4, pos := "law.go:25", after := #[{ on := 14, ground := Ground.data }, { on := 13, ground := Ground.chain }], guard := none }) (v := ?tkv16) rfl (by kernel_rfl) (by kernel_rfl) (by kernel_rfl) (fun _ _ _ h => h) (Or.inl ⟨by rfl, ?tky16⟩) hG14 ?tkr16
  case tky16 => (intro w' hSw; clear hSw; go_simp; try with_reducible rfl)
  try simp only [Act.put, List.setIfInBounds_toArray, List.set_cons_zero, List.set_cons_succ]
  refine wpAnyH_take (i := 16) (oi := { dst := some 69, op := Op.move (Operand.tmp 14), type := 42, pos := "law.go:25", after := #[{ on := 15, ground := Ground.guard }], guard := some (15, true) }) (v := ?tkv17) rfl (by kernel_rfl) (by kernel_rfl) (by kernel_rfl) (fun _ _ _ h => h) (Or.inl ⟨by rfl, ?tky17⟩) hG14 ?tkr17
  case tky17 => (intro w' hSw; clear hSw; go_simp; try with_reducible rfl)
  try simp only [Act.put, List.setIfInBounds_toArray, List.set_cons_zero, List.set_cons_succ]
  refine wpAnyH_take (i := 17) (oi := { dst := some 70, op := Op.move (Operand.tmp 16), type := 42, pos := "law.go:25", after := #[{ on := 15, ground := Ground.guard }], guard := some (15, true) }) (v := ?tkv18) rfl (by kernel_rfl) (by kernel_rfl) (by kernel_rfl) (fun _ _ _ h => h) (Or.inl ⟨by rfl, ?tky18⟩) hG14 ?tkr18
  case tky18 => (intro w' hSw; clear hSw; go_simp; try with_reducible rfl)
  try simp only [Act.put, List.setIfInBounds_toArray, List.set_cons_zero, List.set_cons_succ]
  refine wpAnyH_take (i := 18) (oi := { dst := some 71, op := Op.binOp BinOp.eql 42 (Operand.tmp 69) (Operand.tmp 70) 42, type := 4, pos := "law.go:25", after := #[{ on := 16, ground := Ground.data }, { on := 17, ground := Ground.data }, { on := 15, ground := Ground.guard }], guard := some (15, true) }) (v := ?tkv19) rfl (by kernel_rfl) (by kernel_rfl) (by kernel_rfl) (fun _ _ _ h => h) (Or.inl ⟨by rfl, ?tky19⟩) hG14 ?tkr19
  case tky19 => (intro w' hSw; clear hSw; go_simp; try with_reducible rfl)
  try simp only [Act.put, List.setIfInBounds_toArray, List.set_cons_zero, List.set_cons_succ]
  refine wpAnyH_take (i := 19) (oi := { dst := some 72, op := Op.pick (Operand.tmp 68) (Operand.tmp 71) (Operand.const (Value.bool false)), type := 4, pos := "law.go:25", after := #[{ on := 15, ground := Ground.data }, { on := 18, ground := Ground.data }], guard := none }) (v := ?tkv20) rfl (by kernel_rfl) (by kernel_rfl) (by kernel_rfl) (fun _ _ _ h => h) (Or.inl ⟨by rfl, ?tky20⟩) hG14 ?tkr20
  case tky20 => (intro w' hSw; clear hSw; go_simp; try with_reducible rfl)
  try simp only [Act.put, List.setIfInBounds_toArray, List.set_cons_zero, List.set_cons_succ]
  refine wpAnyH_take (i := 20) (oi := { dst := some 73, op := Op.move (Operand.tmp 72), type := 4, pos := "law.go:25", after := #[{ on := 19, ground := Ground.data }, { on := 15, ground := Ground.chain }], guard := none }) (v := ?tkv21) rfl (by kernel_rfl) (by kernel_rfl) (by kernel_rfl) (fun _ _ _ h => h) (Or.inl ⟨by rfl, ?tky21⟩) hG14 ?tkr21
  case tky21 => (intro w' hSw; clear hSw; go_simp; try with_reducible rfl)
  try simp only [Act.put, List.setIfInBounds_toArray, List.set_cons_zero, List.set_cons_succ]
  refine wpAnyH_take (i := 21) (oi := { dst := some 74, op := Op.load 39 (Operand.tmp 4), type := 39, pos := "law.go:25", after := #[{ on := 20, ground := Ground.guard }], guard := some (20, true) }) (v := ?tkv22) rfl (by kernel_rfl) (by kernel_rfl) (by kernel_rfl) (fun _ _ _ h => h) (Or.inl ⟨by rfl, ?tky22⟩) hG14 ?tkr22
  case tky22 => (intro w' hSw; have z0 := hcx.out _ hSw.1; have z1 := hcy.out _ hSw.1; have z2 := hks.out _ hSw.1; have z3 := hkt.out _ hSw.1; have z4 := hka.out _ hSw.1; have z5 := hkb.out _ hSw.1; have z6 := hkp.out _ hSw.1; clear hSw; go_simp; try with_reducible rfl)
  try simp only [Act.put, List.setIfInBounds_toArray, List.set_cons_zero, List.set_cons_succ]
  refine wpAnyH_take (i := 22) (oi := { dst := some 75, op := Op.load 39 (Operand.tmp 5), type := 39, pos := "law.go:25", after := #[{ on := 20, ground := Ground.guard }], guard := some (20, true) }) (v := ?tkv23) rfl (by kernel_rfl) (by kernel_rfl) (by kernel_rfl) (fun _ _ _ h => h) (Or.inl ⟨by rfl, ?tky23⟩) hG14 ?tkr23
  case tky23 => (intro w' hSw; have z0 := hcx.out _ hSw.1; have z1 := hcy.out _ hSw.1; have z2 := hks.out _ hSw.1; have z3 := hkt.out _ hSw.1; have z4 := hka.out _ hSw.1; have z5 := hkb.out _ hSw.1; have z6 := hkp.out _ hSw.1; clear hSw; go_simp; try with_reducible rfl)
  try simp only [Act.put, List.setIfInBounds_toArray, List.set_cons_zero, List.set_cons_succ]
  refine wpAnyH_take (i := 24) (oi := { dst := some 77, op := Op.load 39 (Operand.tmp 4), type := 39, pos := "law.go:25", after := #[{ on := 20, ground := Ground.guard }], guard := some (20, true) }) (v := ?tkv24) rfl (by kernel_rfl) (by kernel_rfl) (by kernel_rfl) (fun _ _ _ h => h) (Or.inl ⟨by rfl, ?tky24⟩) hG14 ?tkr24
  case tky24 => (intro w' hSw; have z0 := hcx.out _ hSw.1; have z1 := hcy.out _ hSw.1; have z2 := hks.out _ hSw.1; have z3 := hkt.out _ hSw.1; have z4 := hka.out _ hSw.1; have z5 := hkb.out _ hSw.1; have z6 := hkp.out _ hSw.1; clear hSw; go_simp; try with_reducible rfl)
  try simp only [Act.put, List.setIfInBounds_toArray, List.set_cons_zero, List.set_cons_succ]
  refine wpAnyH_take (i := 25) (oi := { dst := some 78, op := Op.load 39 (Operand.tmp 5), type := 39, pos := "law.go:25", after := #[{ on := 20, ground := Ground.guard }], guard := some (20, true) }) (v := ?tkv25) rfl (by kernel_rfl) (by kernel_rfl) (by kernel_rfl) (fun _ _ _ h => h) (Or.inl ⟨by rfl, ?tky25⟩) hG14 ?tkr25
  case tky25 => (intro w' hSw; have z0 := hcx.out _ hSw.1; have z1 := hcy.out _ hSw.1; have z2 := hks.out _ hSw.1; have z3 := hkt.out _ hSw.1; have z4 := hka.out _ hSw.1; have z5 := hkb.out _ hSw.1; have z6 := hkp.out _ hSw.1; clear hSw; go_simp; try with_reducible rfl)
  try simp only [Act.put, List.setIfInBounds_toArray, List.set_cons_zero, List.set_cons_succ]
  refine wpAnyH_ready (rs := [23]) (by kernel_rfl) (by simp) ?_
  refine AllReadyH.cons (o := { dst := some 76, op := Op.call { callee := Callee.value (Operand.func 26), args := #[Operand.tmp 74, Operand.tmp 75], argTypes := #[39, 39] }, type := 4, pos := "law.go:25", after := #[{ on := 21, ground := Ground.data }, { on := 22, ground := Ground.data }, { on := 20, ground := Ground.chain }, { on := 20, ground := Ground.guard }], guard := some (20, true) }) rfl (fun K hK => ?_) AllReadyH.nil
  go_simp
  refine (same_any s1 i1 w5.heap.size n1 c1 s2 i2 n2 c2 A1 A2 l1 l2 _ (HL1.out.below hG14.1) (HL2.out.below hG14.1) (hG14.1).size).mono ?_
  rintro e w7 ⟨b7, rfl, hq7, hb23⟩
  obtain rfl : Q = b7 := (hq7.out.trans HQ.out).symm
  clear hq7
  go_wp2_with fail
  refine hK.out _ _ (⟨(hG14.1).trans (hb23.mono (hG14.1).size), (hG14.2).trans (hb23.mono (hG14.2).size)⟩) (fun hH26 => ?_)
  clear hK K
  try simp only [Act.put, List.setIfInBounds_toArray, List.set_cons_zero, List.set_cons_succ]
  have hG26 : (fun W => Below w5.heap.size w5 W ∧ Below w6.heap.size w6 W ∧ Below w7.heap.size w7 W) w7 := ⟨hH26.1, hH26.2, Below.refl _ _⟩
  refine wpAnyH_grow (S' := (fun W => Below w5.heap.size w5 W ∧ Below w6.heap.size w6 W ∧ Below w7.heap.size w7 W)) (fun _ h => ⟨h.1, h.2.1⟩) _ _ _ _ ?_
  refine wpAnyH_ready (rs := [26]) (by kernel_rfl) (by simp) ?_
  refine AllReadyH.cons (o := { dst := some 79, op := Op.call { callee := Callee.value (Operand.func 25), args := #[Operand.tmp 77, Operand.tmp 78], argTypes := #[39, 39] }, type := 4, pos := "law.go:25", after := #[{ on := 24, ground := Ground.data }, { on := 25, ground := Ground.data }, { on := 23, ground := Ground.chain }, { on := 20, ground := Ground.guard }], guard := some (20, true) }) rfl (fun K hK => ?_) AllReadyH.nil
  go_simp
  refine (r7same_any s1 i1 w5.heap.size n1 c1 s2 i2 n2 c2 A1 A2 l1 l2 _ (HL1.out.below hG26.1) (HL2.out.below hG26.1) (hG26.1).size).mono ?_
  rintro e w8 ⟨b8, rfl, hq8, hb26⟩
  obtain rfl : Q = b8 := (hq8.out.trans HQ.out).symm
  clear hq8
  go_wp2_with fail
  refine hK.out _ _ (⟨(hG26.1).trans (hb26.mono (hG26.1).size), (hG26.2.1).trans (hb26.mono (hG26.2.1).size), (hG26.2.2).trans (hb26.mono (hG26.2.2).size)⟩) (fun hH27 => ?_)
  clear hK K
  try simp only [Act.put, List.setIfInBounds_toArray, List.set_cons_zero, List.set_cons_succ]
  have hG27 : (fun W => Below w5.heap.size w5 W ∧ Below w6.heap.size w6 W ∧ Below w7.heap.size w7 W ∧ Below w8.heap.size w8 W) w8 := ⟨hH27.1, hH27.2.1, hH27.2.2, Below.refl _ _⟩
  refine wpAnyH_grow (S' := (fun W => Below w5.heap.size w5 W ∧ Below w6.heap.size w6 W ∧ Below w7.heap.size w7 W ∧ Below w8.heap.size w8 W)) (fun _ h => ⟨h.1, h.2.1, h.2.2.1⟩) _ _ _ _ ?_
  refine wpAnyH_take (i := 27) (oi := { dst := some 80, op := Op.binOp BinOp.eql 4 (Operand.tmp 76) (Operand.tmp 79) 4, type := 4, pos := "law.go:25", after := #[{ on := 23, ground := Ground.data }, { on := 26, ground := Ground.data }, { on := 20, ground := Ground.guard }], guard := some (20, true) }) (v := ?tkv28) rfl (by kernel_rfl) (by kernel_rfl) (by kernel_rfl) (fun _ _ _ h => h) (Or.inl ⟨by rfl, ?tky28⟩) hG27 ?tkr28
  case tky28 => (intro w' hSw; clear hSw; go_simp; try with_reducible rfl)
  try simp only [Act.put, List.setIfInBounds_toArray, List.set_cons_zero, List.set_cons_succ]
  refine wpAnyH_take (i := 28) (oi := { dst := some 81, op := Op.pick (Operand.tmp 73) (Operand.tmp 80) (Operand.const (Value.bool false)), type := 4, pos := "law.go:25", after := #[{ on := 20, ground := Ground.data }, { on := 27, ground := Ground.data }], guard := none }) (v := ?tkv29) rfl (by kernel_rfl) (by kernel_rfl) (by kernel_rfl) (fun _ _ _ h => h) (Or.inl ⟨by rfl, ?tky29⟩) hG27 ?tkr29
  case tky29 => (intro w' hSw; clear hSw; go_simp; try with_reducible rfl)
  try simp only [Act.put, List.setIfInBounds_toArray, List.set_cons_zero, List.set_cons_succ]
  refine wpAnyH_take (i := 29) (oi := { dst := some 82, op := Op.move (Operand.tmp 81), type := 4, pos := "law.go:25", after := #[{ on := 28, ground := Ground.data }, { on := 26, ground := Ground.chain }], guard := none }) (v := ?tkv30) rfl (by kernel_rfl) (by kernel_rfl) (by kernel_rfl) (fun _ _ _ h => h) (Or.inl ⟨by rfl, ?tky30⟩) hG27 ?tkr30
  case tky30 => (intro w' hSw; clear hSw; go_simp; try with_reducible rfl)
  try simp only [Act.put, List.setIfInBounds_toArray, List.set_cons_zero, List.set_cons_succ]
  refine wpAnyH_take (i := 30) (oi := { dst := some 83, op := Op.load 39 (Operand.tmp 4), type := 39, pos := "law.go:25", after := #[{ on := 29, ground := Ground.guard }], guard := some (29, true) }) (v := ?tkv31) rfl (by kernel_rfl) (by kernel_rfl) (by kernel_rfl) (fun _ _ _ h => h) (Or.inl ⟨by rfl, ?tky31⟩) hG27 ?tkr31
  case tky31 => (intro w' hSw; have z0 := hcx.out _ hSw.1; have z1 := hcy.out _ hSw.1; have z2 := hks.out _ hSw.1; have z3 := hkt.out _ hSw.1; have z4 := hka.out _ hSw.1; have z5 := hkb.out _ hSw.1; have z6 := hkp.out _ hSw.1; clear hSw; go_simp; try with_reducible rfl)
  try simp only [Act.put, List.setIfInBounds_toArray, List.set_cons_zero, List.set_cons_succ]
  refine wpAnyH_take (i := 31) (oi := { dst := some 84, op := Op.load 41 (Operand.tmp 7), type := 41, pos := "law.go:25", after := #[{ on := 29, ground := Ground.guard }], guard := some (29, true) }) (v := ?tkv32) rfl (by kernel_rfl) (by kernel_rfl) (by kernel_rfl) (fun _ _ _ h => h) (Or.inl ⟨by rfl, ?tky32⟩) hG27 ?tkr32
  case tky32 => (intro w' hSw; have z0 := hcx.out _ hSw.1; have z1 := hcy.out _ hSw.1; have z2 := hks.out _ hSw.1; have z3 := hkt.out _ hSw.1; have z4 := hka.out _ hSw.1; have z5 := hkb.out _ hSw.1; have z6 := hkp.out _ hSw.1; clear hSw; go_simp; try with_reducible rfl)
  try simp only [Act.put, List.setIfInBounds_toArray, List.set_cons_zero, List.set_cons_succ]
  refine wpAnyH_take (i := 33) (oi := { dst := some 86, op := Op.load 39 (Operand.tmp 4), type := 39, pos := "law.go:25", after := #[{ on := 29, ground := Ground.guard }], guard := some (29, true) }) (v := ?tkv33) rfl (by kernel_rfl) (by kernel_rfl) (by kernel_rfl) (fun _ _ _ h => h) (Or.inl ⟨by rfl, ?tky33⟩) hG27 ?tkr33
  case tky33 => (intro w' hSw; have z0 := hcx.out _ hSw.1; have z1 := hcy.out _ hSw.1; have z2 := hks.out _ hSw.1; have z3 := hkt.out _ hSw.1; have z4 := hka.out _ hSw.1; have z5 := hkb.out _ hSw.1; have z6 := hkp.out _ hSw.1; clear hSw; go_simp; try with_reducible rfl)
  try simp only [Act.put, List.setIfInBounds_toArray, List.set_cons_zero, List.set_cons_succ]
  refine wpAnyH_take (i := 34) (oi := { dst := some 87, op := Op.load 41 (Operand.tmp 7), type := 41, pos := "law.go:25", after := #[{ on := 29, ground := Ground.guard }], guard := some (29, true) }) (v := ?tkv34) rfl (by kernel_rfl) (by kernel_rfl) (by kernel_rfl) (fun _ _ _ h => h) (Or.inl ⟨by rfl, ?tky34⟩) hG27 ?tkr34
  case tky34 => (intro w' hSw; have z0 := hcx.out _ hSw.1; have z1 := hcy.out _ hSw.1; have z2 := hks.out _ hSw.1; have z3 := hkt.out _ hSw.1; have z4 := hka.out _ hSw.1; have z5 := hkb.out _ hSw.1; have z6 := hkp.out _ hSw.1; clear hSw; go_simp; try with_reducible rfl)
  try simp only [Act.put, List.setIfInBounds_toArray, List.set_cons_zero, List.set_cons_succ]
  refine wpAnyH_ready (rs := [32]) (by kernel_rfl) (by simp) ?_
  refine AllReadyH.cons (o := { dst := some 85, op := Op.call { callee := Callee.value (Operand.func 27), args := #[Operand.tmp 83, Operand.tmp 84], argTypes := #[39, 41] }, type := 42, pos := "law.go:25", after := #[{ on := 30, ground := Ground.data }, { on := 31, ground := Ground.data }, { on := 29, ground := Ground.chain }, { on := 29, ground := Ground.guard }], guard := some (29, true) }) rfl (fun K hK => ?_) AllReadyH.nil
  go_simp
  refine (fits_any s1 i1 n1 c1 p0 A1 Kp Lp Zp _).mono ?_
  rintro e w9 ⟨x9, rfl, hq9, hb32⟩
  obtain rfl : F = x9 := (hq9.out.trans HF.out).symm
  clear hq9
  go_wp2_with fail
  refine hK.out _ _ (⟨(hG27.1).trans (hb32.mono (hG27.1).size), (hG27.2.1).trans (hb32.mono (hG27.2.1).size), (hG27.2.2.1).trans (hb32.mono (hG27.2.2.1).size), (hG27.2.2.2).trans (hb32.mono (hG27.2.2.2).size)⟩) (fun hH35 => ?_)
  clear hK K
  try simp only [Act.put, List.setIfInBounds_toArray, List.set_cons_zero, List.set_cons_succ]
  have hG35 : (fun W => Below w5.heap.size w5 W ∧ Below w6.heap.size w6 W ∧ Below w7.heap.size w7 W ∧ Below w8.heap.size w8 W ∧ Below w9.heap.size w9 W) w9 := ⟨hH35.1, hH35.2.1, hH35.2.2.1, hH35.2.2.2, Below.refl _ _⟩
  refine wpAnyH_grow (S' := (fun W => Below w5.heap.size w5 W ∧ Below w6.heap.size w6 W ∧ Below w7.heap.size w7 W ∧ Below w8.heap.size w8 W ∧ Below w9.heap.size w9 W)) (fun _ h => ⟨h.1, h.2.1, h.2.2.1, h.2.2.2.1⟩) _ _ _ _ ?_
  refine wpAnyH_ready (rs := [35]) (by kernel_rfl) (by simp) ?_
  refine AllReadyH.cons (o := { dst := some 88, op := Op.call { callee := Callee.value (Operand.func 28), args := #[Operand.tmp 86, Operand.tmp 87], argTypes := #[39, 41] }, type := 42, pos := "law.go:25", after := #[{ on := 33, ground := Ground.data }, { on := 34, ground := Ground.data }, { on := 32, ground := Ground.chain }, { on := 29, ground := Ground.guard }], guard := some (29, true) }) rfl (fun K hK => ?_) AllReadyH.nil
  go_simp
  refine (r7fits_any s1 i1 n1 c1 p0 A1 Kp Lp Zp _).mono ?_
  rintro e w10 ⟨x10, rfl, hq10, hb35⟩
  obtain rfl : F = x10 := (hq10.out.trans HF.out).symm
  clear hq10
  go_wp2_with fail
  refine hK.out _ _ (⟨(hG35.1).trans (hb35.mono (hG35.1).size), (hG35.2.1).trans (hb35.mono (hG35.2.1).size), (hG35.2.2.1).trans (hb35.mono (hG35.2.2.1).size), (hG35.2.2.2.1).trans (hb35.mono (hG35.2.2.2.1).size), (hG35.2.2.2.2).trans (hb35.mono (hG35.2.2.2.2).size)⟩) (fun hH36 => ?_)
  clear hK K
  try simp only [Act.put, List.setIfInBounds_toArray, List.set_cons_zero, List.set_cons_succ]
  have hG36 : (fun W => Below w5.heap.size w5 W ∧ Below w6.heap.size w6 W ∧ Below w7.heap.size w7 W ∧ Below w8.heap.size w8 W ∧ Below w9.heap.size w9 W ∧ Below w10.heap.size w10 W) w10 := ⟨hH36.1, hH36.2.1, hH36.2.2.1, hH36.2.2.2.1, hH36.2.2.2.2, Below.refl _ _⟩
  refine wpAnyH_grow (S' := (fun W => Below w5.heap.size w5 W ∧ Below w6.heap.size w6 W ∧ Below w7.heap.size w7 W ∧ Below w8.heap.size w8 W ∧ Below w9.heap.size w9 W ∧ Below w10.heap.size w10 W)) (fun _ h => ⟨h.1, h.2.1, h.2.2.1, h.2.2.2.1, h.2.2.2.2.1⟩) _ _ _ _ ?_
  refine wpAnyH_take (i := 36) (oi := { dst := some 89, op := Op.binOp BinOp.eql 42 (Operand.tmp 85) (Operand.tmp 88) 42, type := 4, pos := "law.go:25", after := #[{ on := 32, ground := Ground.data }, { on := 35, ground := Ground.data }, { on := 29, ground := Ground.guard }], guard := some (29, true) }) (v := ?tkv37) rfl (by kernel_rfl) (by kernel_rfl) (by kernel_rfl) (fun _ _ _ h => h) (Or.inl ⟨by rfl, ?tky37⟩) hG36 ?tkr37
  case tky37 => (intro w' hSw; clear hSw; go_simp; try with_reducible rfl)
  try simp only [Act.put, List.setIfInBounds_toArray, List.set_cons_zero, List.set_cons_succ]
  refine wpAnyH_take (i := 37) (oi := { dst := some 90, op := Op.pick (Operand.tmp 82) (Operand.tmp 89) (Operand.const (Value.bool false)), type := 4, pos := "law.go:25", after := #[{ on := 29, ground := Ground.data }, { on := 36, ground := Ground.data }], guard := none }) (v := ?tkv38) rfl (by kernel_rfl) (by kernel_rfl) (by kernel_rfl) (fun _ _ _ h => h) (Or.inl ⟨by rfl, ?tky38⟩) hG36 ?tkr38
  case tky38 => (intro w' hSw; clear hSw; go_simp; try with_reducible rfl)
  try simp only [Act.put, List.setIfInBounds_toArray, List.set_cons_zero, List.set_cons_succ]
  refine wpAnyH_take (i := 38) (oi := { dst := some 91, op := Op.move (Operand.tmp 90), type := 4, pos := "law.go:25", after := #[{ on := 37, ground := Ground.data }, { on := 35, ground := Ground.chain }], guard := none }) (v := ?tkv39) rfl (by kernel_rfl) (by kernel_rfl) (by kernel_rfl) (fun _ _ _ h => h) (Or.inl ⟨by rfl, ?tky39⟩) hG36 ?tkr39
  case tky39 => (intro w' hSw; clear hSw; go_simp; try with_reducible rfl)
  try simp only [Act.put, List.setIfInBounds_toArray, List.set_cons_zero, List.set_cons_succ]
  refine wpAnyH_ready (rs := [39]) (by kernel_rfl) (by simp) ?_
  refine AllReadyH.cons (o := { dst := some 92, op := Op.call { callee := Callee.value (Operand.func 20), args := #[], argTypes := #[] }, type := 4, pos := "law.go:25", after := #[{ on := 38, ground := Ground.chain }, { on := 38, ground := Ground.guard }], guard := some (38, true) }) rfl (fun K hK => ?_) AllReadyH.nil
  go_simp
  refine (awake15_any _).mono ?_
  rintro e w11 ⟨rfl, hb39⟩
  go_wp2_with fail
  refine hK.out _ _ (⟨(hG36.1).trans (hb39.mono (hG36.1).size), (hG36.2.1).trans (hb39.mono (hG36.2.1).size), (hG36.2.2.1).trans (hb39.mono (hG36.2.2.1).size), (hG36.2.2.2.1).trans (hb39.mono (hG36.2.2.2.1).size), (hG36.2.2.2.2.1).trans (hb39.mono (hG36.2.2.2.2.1).size), (hG36.2.2.2.2.2).trans (hb39.mono (hG36.2.2.2.2.2).size)⟩) (fun hH40 => ?_)
  clear hK K
  try simp only [Act.put, List.setIfInBounds_toArray, List.set_cons_zero, List.set_cons_succ]
  have hG40 : (fun W => Below w5.heap.size w5 W ∧ Below w6.heap.size w6 W ∧ Below w7.heap.size w7 W ∧ Below w8.heap.size w8 W ∧ Below w9.heap.size w9 W ∧ Below w10.heap.size w10 W ∧ Below w11.heap.size w11 W) w11 := ⟨hH40.1, hH40.2.1, hH40.2.2.1, hH40.2.2.2.1, hH40.2.2.2.2.1, hH40.2.2.2.2.2, Below.refl _ _⟩
  refine wpAnyH_grow (S' := (fun W => Below w5.heap.size w5 W ∧ Below w6.heap.size w6 W ∧ Below w7.heap.size w7 W ∧ Below w8.heap.size w8 W ∧ Below w9.heap.size w9 W ∧ Below w10.heap.size w10 W ∧ Below w11.heap.size w11 W)) (fun _ h => ⟨h.1, h.2.1, h.2.2.1, h.2.2.2.1, h.2.2.2.2.1, h.2.2.2.2.2.1⟩) _ _ _ _ ?_
  refine wpAnyH_take (i := 40) (oi := { dst := some 93, op := Op.pick (Operand.tmp 91) (Operand.tmp 92) (Operand.const (Value.bool false)), type := 4, pos := "law.go:25", after := #[{ on := 38, ground := Ground.data }, { on := 39, ground := Ground.data }], guard := none }) (v := ?tkv41) rfl (by kernel_rfl) (by kernel_rfl) (by kernel_rfl) (fun _ _ _ h => h) (Or.inl ⟨by rfl, ?tky41⟩) hG40 ?tkr41
  case tky41 => (intro w' hSw; clear hSw; go_simp; try with_reducible rfl)
  try simp only [Act.put, List.setIfInBounds_toArray, List.set_cons_zero, List.set_cons_succ]
  refine wpAnyH_take (i := 41) (oi := { dst := some 8, op := Op.assign (Operand.tmp 93), type := 4, pos := "law.go:25", after := #[{ on := 40, ground := Ground.data }, { on := 39, ground := Ground.chain }, { on := 0, ground := Ground.phase }, { on := 1, ground := Ground.phase }, { on := 2, ground := Ground.phase }, { on := 3, ground := Ground.phase }, { on := 4, ground := Ground.phase }, { on := 5, ground := Ground.phase }, { on := 6, ground := Ground.phase }, { on := 7, ground := Ground.phase }, { on := 8, ground := Ground.phase }, { on := 9, ground := Ground.phase }, { on := 10, ground := Ground.phase }, { on := 11, ground := Ground.phase }, { on := 12, ground := Ground.phase }, { on := 13, ground := Ground.phase }, { on := 14, ground := Ground.phase }, { on := 15, ground := Ground.phase }, { on := 16, ground := Ground.phase }, { on := 17, ground := Ground.phase }, { on := 18, ground := Ground.phase }, { on := 19, ground := Ground.phase }, { on := 20, ground := Ground.phase }, { on := 21, ground := Ground.phase }, { on := 22, ground := Ground.phase }, { on := 23, ground := Ground.phase }, { on := 24, ground := Ground.phase }, { on := 25, ground := Ground.phase }, { on := 26, ground := Ground.phase }, { on := 27, ground := Ground.phase }, { on := 28, ground := Ground.phase }, { on := 29, ground := Ground.phase }, { on := 30, ground := Ground.phase }, { on := 31, ground := Ground.phase }, { on := 32, ground := Ground.phase }, { on := 33, ground := Ground.phase }, { on := 34, ground := Ground.phase }, { on := 35, ground := Ground.phase }, { on := 36, ground := Ground.phase }, { on := 37, ground := Ground.phase }, { on := 38, ground := Ground.phase }, { on := 39, ground := Ground.phase }, { on := 40, ground := Ground.phase }], guard := none }) (v := ?tkv42) rfl (by kernel_rfl) (by kernel_rfl) (by kernel_rfl) (fun _ _ _ h => h) (Or.inl ⟨by rfl, ?tky42⟩) hG40 ?tkr42
  case tky42 => (intro w' hSw; clear hSw; go_simp; try with_reducible rfl)
  try simp only [Act.put, List.setIfInBounds_toArray, List.set_cons_zero, List.set_cons_succ]
  refine wpAnyH_done (by kernel_rfl) ?_ _
  refine NoPanic.normal ?_
  have hEnd : Below w5.heap.size w5 _ := hG40.1
  go_wp2_with fail
  go_ret
  exact ⟨rfl, HB5.out.trans (hEnd.mono HB5.out.size)⟩

set_option maxRecDepth 100000 in
theorem packetForms_lifted (os : Os) (started : os.Started) (H : Type) (enc : TypeId × Value → H) :
    ReturnsInHanded {} Try.checked os 9 .any (Rows.packetFormsSpec.pre6 enc Try.prog Try.f9 Rows.packetFormsRow.domain false) (Rows.packetFormsSpec.post enc Try.prog Try.f9 false true false false) := by
  refine law_lift (C := Try.checked) (tb := 4) Try.own started (by kernel_rfl) Try.func9
    (ChangeSpec.witness6 (enc := enc) (C := Try.checked) false ⟨#[], #[.agg #[.int .u32 0, .int .u32 0, .slice none 0 0], .agg #[.int .u32 0, .int .u32 0, .slice none 0 0], .slice none 0 0, .agg #[.int .u32 0, .int .i64 0, .int .i64 0, .int .i64 0]], []⟩ 8 (by kernel_rfl) (by kernel_rfl) (by kernel_rfl) (by kernel_rfl)) Try.laidOut (by kernel_rfl) rfl rfl Try.underlying4 ?_ ?_
  · intro ds hds
    match ds, hds with
    | [_, _, _, _], _ => rfl
  intro W base args ds p hval0 hA0 _ _ hsz0
  have hval : ∀ (j : Nat) t v, Try.f9.params[j]? = some t → args[j]? = some v → Value.okWide Try.prog W .any base t v := hval0
  have hA : DataW.TrodAll enc Try.prog W 0 (fun _ => true) true Try.f9.params.toList args.toList ds p := hA0
  rw [Try.params9] at hA hval
  obtain ⟨v0, vs0, d0, ds0, p0, q0, hargs0, hds0, hps0, h0, r0⟩ := trodAll_cons hA
  obtain ⟨v1, vs1, d1, ds1, p1, q1, hargs1, hds1, hps1, h1, r1⟩ := trodAll_cons r0
  obtain ⟨v2, vs2, d2, ds2, p2, q2, hargs2, hds2, hps2, h2, r2⟩ := trodAll_cons r1
  obtain ⟨v3, vs3, d3, ds3, p3, q3, hargs3, hds3, hps3, h3, r3⟩ := trodAll_cons r2
  obtain ⟨e1, _, _⟩ := trodAll_nil r3
  obtain rfl : args = #[v0, v1, v2, v3] := by cases args; simp_all
  obtain ⟨s0, i0, A0, n0, cap0, l0, rfl, hsl0, hil0, hrow0, hnc0, hcm0⟩ := open_sym Try.underlying39 ⟨rfl, rfl, rfl⟩ Try.underlying37 Try.underlying37 Try.underlying22 Try.underlying5 Try.cells5 ⟨by kernel_rfl, by kernel_rfl, by kernel_rfl⟩ (by kernel_rfl) (hval 0 39 v0 rfl rfl) h0
  obtain ⟨s1, i1, A1, n1, cap1, l1, rfl, hsl1, hil1, hrow1, hnc1, hcm1⟩ := open_sym Try.underlying39 ⟨rfl, rfl, rfl⟩ Try.underlying37 Try.underlying37 Try.underlying22 Try.underlying5 Try.cells5 ⟨by kernel_rfl, by kernel_rfl, by kernel_rfl⟩ (by kernel_rfl) (hval 1 39 v1 rfl rfl) h1
  obtain ⟨A2, n2, cap2, l2, rfl, hrow2, hnc2, hcm2⟩ := open_bytes Try.underlying22 Try.underlying5 Try.cells5 (hval 2 22 v2 rfl rfl) h2
  obtain ⟨s3, K3, L3, Z3, rfl, hps3, hpK3, hpL3, hpZ3⟩ := open_par Try.underlying41 ⟨rfl, rfl, rfl, rfl⟩ Try.underlying37 Try.underlying3 Try.underlying3 Try.underlying3 ⟨by kernel_rfl, by kernel_rfl, by kernel_rfl, by kernel_rfl⟩ (by kernel_rfl) (hval 3 41 v3 rfl rfl) h3
  exact forms_walk s0 i0 A0 n0 cap0 l0 s1 i1 A1 n1 cap1 l1 A2 n2 cap2 l2 s3 K3 L3 Z3 W hsl0 hil0 hrow0 hnc0 hcm0 hsl1 hil1 hrow1 hnc1 hcm1 hrow2 hnc2 hcm2

theorem packetForms_holds : Rows.PacketFormsSaid :=
  OpenClaim.holds_of_wide 9 Try.f9 rfl rfl rfl rfl rfl rfl rfl ⟨rfl, rfl, rfl, rfl, rfl⟩ rfl rfl rfl rfl rfl (by kernel_rfl) Try.func9 (by kernel_rfl)
    (of_decide_eq_true (by kernel_rfl)) (by unfold Func.isWrapper; rw [if_neg (of_decide_eq_false (by kernel_rfl))]; exact ⟨rfl, rfl⟩)
    (fun os started H enc _ => packetForms_lifted os started H enc)
end Go.Proofs.Ytiogkokcoedonaa
