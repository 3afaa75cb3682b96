/- PacketOne: two symbols are written alike just if they are the same. For every input, no condition. -/
import Derived.Test.YtknealemooaneaePacketSame
import Derived.Test.YtknealemooaneaeLawSym
import Derived.Deep.RegionHeld3
import Derived.Deep.QuietTactic
namespace Go.Proofs.Ytknealemooaneae
open Go.ChangeShapes Go.WideShapes Go.ChangeAt Go.RowKit
theorem four_inj {a b : Nat} (ha : a < 4294967296) (hb : b < 4294967296) (h : CrcM.four a = CrcM.four b) : a = b := by
  have := congrArg CrcM.number h
  rwa [CrcM.number_four _ ha, CrcM.number_four _ hb] at this
theorem sym_inj {a b a' b' : Nat} {l l' : List UInt8} (ha : a < 4294967296) (hb : b < 4294967296) (ha' : a' < 4294967296) (hb' : b' < 4294967296) : symB a b l = symB a' b' l' ↔ a = a' ∧ b = b' ∧ l = l' := by
  constructor
  · intro h
    unfold symB at h
    rw [List.append_assoc, List.append_assoc] at h
    obtain ⟨h1, h2⟩ := List.append_inj h rfl
    obtain ⟨h3, h4⟩ := List.append_inj h2 rfl
    exact ⟨four_inj ha ha' h1, four_inj hb hb' h3, h4⟩
  · rintro ⟨rfl, rfl, rfl⟩; rfl
theorem bytes_any (s id B n cap : Nat) (A : Option Addr) (l : List UInt8) (w : World) (hs : s < 4294967296) (hid : id < 4294967296) (hl : Row w B A n (bv l)) (hB : B ≤ w.heap.size) :
    Calls Try.prog 5 #[.agg #[.int .u32 (s : Int), .int .u32 (id : Int), .slice A n cap]] w (fun e w' => ∃ A' m c k, e = .returned (.tuple #[.slice A' m c, .int .i64 k]) ∧ (k = 1 ∨ k = 0 ∧ w'.ownsRow w.heap.size 5 1 (.slice A' m c) m (bv (symB s id l))) ∧ Below w.heap.size w w') := by
  by_cases h : n < 1 ∨ 16 < n
  · refine (bytes_bad s id n cap A w h).mono ?_
    rintro e w' ⟨rfl, hb⟩
    exact ⟨_, _, _, _, rfl, .inl rfl, hb⟩
  · refine (bytes_ok s id B n cap A l w hs hid hl (by omega) (by omega) hB).mono ?_
    rintro e w' ⟨A', m, c, rfl, _, hown, hb⟩
    exact ⟨_, _, _, _, rfl, .inr ⟨rfl, hown⟩, hb⟩
theorem box_new (w : World) (o o' : Obj) : ((w.alloc o).alloc o').heap[w.heap.size + 1]? = some o' := by
  have := heap_alloc_new (w.alloc o) o'
  simpa using this
theorem box_old (w : World) (o o' : Obj) : ((w.alloc o).alloc o').heap[w.heap.size]? = some o := by
  have h := ((Below.refl (w.heap.size + 1) (w.alloc o)).alloc (by simp) o').block w.heap.size (by omega)
  exact h.trans (heap_alloc_new w o)
theorem same_ab {s i B n c s' i' n' c' : Nat} {A A' : Option Addr} {l l' : List UInt8} (HS : symB s i l = symB s' i' l' ↔ s = s' ∧ i = i' ∧ l = l') (w : World) (hl : Row w B A n (bv l)) (hl' : Row w B A' n' (bv l')) (hB : B ≤ w.heap.size) :
    Calls Try.prog 6 #[.agg #[.int .u32 (s : Int), .int .u32 (i : Int), .slice A n c], .agg #[.int .u32 (s' : Int), .int .u32 (i' : Int), .slice A' n' c']] w (fun e w' => e = .returned (.bool (symB s i l == symB s' i' l')) ∧ Below w.heap.size w w') := by
  refine (same_any s i B n c s' i' n' c' A A' l l' w hl hl' hB).mono ?_
  rintro e w' ⟨b, rfl, hb, hbel⟩
  refine ⟨?_, hbel⟩
  rw [hb.out]
  congr 2
  rw [Bool.eq_iff_iff]
  simp [HS]
theorem same_aa (s i B n c : Nat) (A : Option Addr) (l : List UInt8) (w : World) (hl : Row w B A n (bv l)) (hB : B ≤ w.heap.size) :
    Calls Try.prog 6 #[.agg #[.int .u32 (s : Int), .int .u32 (i : Int), .slice A n c], .agg #[.int .u32 (s : Int), .int .u32 (i : Int), .slice A n c]] w (fun e w' => e = .returned (.bool true) ∧ Below w.heap.size w w') := by
  refine (same_any s i B n c s i n c A A l l w hl hl hB).mono ?_
  rintro e w' ⟨b, rfl, hb, hbel⟩
  refine ⟨?_, hbel⟩
  rw [hb.out]
  simp
/-- what stands in each world behind w2 -/
abbrev SOne (w2 w : World) (A1 A2 A3 A4 : Option Addr) (s1 i1 n1 c1 s2 i2 n2 c2 n3 c3 n4 c4 : Nat) (l1 l2 : List UInt8) (W : World) : Prop :=
  (Below w2.heap.size w2 W ∧ (w.heap.size ≤ W.heap.size ∧ Row W w.heap.size A1 n1 (bv l1) ∧ Row W w.heap.size A2 n2 (bv l2))) ∧
  (convert 23 9 (.slice A3 n3 c3)).run Try.prog W = .ok (.string ⟨(symB s1 i1 l1).toArray⟩) W ∧
  (convert 23 9 (.slice A4 n4 c4)).run Try.prog W = .ok (.string ⟨(symB s2 i2 l2).toArray⟩) W ∧
  W.cell? ⟨w.heap.size, 0, none⟩ = some (.int .u32 (s1 : Int)) ∧ W.cell? ⟨w.heap.size, 1, none⟩ = some (.int .u32 (i1 : Int)) ∧ W.cell? ⟨w.heap.size, 2, none⟩ = some (.slice A1 n1 c1) ∧
  W.cell? ⟨w.heap.size + 1, 0, none⟩ = some (.int .u32 (s2 : Int)) ∧ W.cell? ⟨w.heap.size + 1, 1, none⟩ = some (.int .u32 (i2 : Int)) ∧ W.cell? ⟨w.heap.size + 1, 2, none⟩ = some (.slice A2 n2 c2)
theorem one_keep {w w1 w2 : World} {B0 : Nat} {A1 A2 A3 A4 : Option Addr} {s1 i1 n1 s2 i2 n2 n3 c3 n4 c4 : Nat} {l1 l2 : List UInt8} (hB : Below w.heap.size w w2) (h1 : Row w w.heap.size A1 n1 (bv l1)) (h2 : Row w w.heap.size A2 n2 (bv l2))
    (hown3 : w2.ownsRow B0 5 1 (.slice A3 n3 c3) n3 (bv (symB s1 i1 l1))) (hown4 : w2.ownsRow w1.heap.size 5 1 (.slice A4 n4 c4) n4 (bv (symB s2 i2 l2)))
    {t1 t2 : TypeId} (c1 c2 : Nat) (hx1 : w2.heap[w.heap.size]? = some (.cells #[.int .u32 (s1 : Int), .int .u32 (i1 : Int), .slice A1 n1 c1] t1 (0, 0))) (hx2 : w2.heap[w.heap.size + 1]? = some (.cells #[.int .u32 (s2 : Int), .int .u32 (i2 : Int), .slice A2 n2 c2] t2 (0, 0))) :
    ∀ W, Below w2.heap.size w2 W → SOne w2 w A1 A2 A3 A4 s1 i1 n1 c1 s2 i2 n2 c2 n3 c3 n4 c4 l1 l2 W := by
  intro W hW
  have hB' := hB.trans (hW.mono hB.size)
  obtain ⟨b1, _⟩ := Array.getElem?_eq_some_iff.1 hx2
  obtain ⟨p0, p1, p2⟩ := box3 ((hW.block w.heap.size (by omega)).trans hx1)
  obtain ⟨q0, q1, q2⟩ := box3 ((hW.block (w.heap.size + 1) b1).trans hx2)
  refine ⟨⟨hW, hB'.size, h1.below hB', h2.below hB'⟩, ?_, ?_, p0, p1, p2, q0, q1, q2⟩
  · exact run_string_row (Row.of_own (own_below hown3 hW)) _ _ _ 5 Try.underlying23 Try.underlying5 Try.underlying9
  · exact run_string_row (Row.of_own (own_below hown4 hW)) _ _ _ 5 Try.underlying23 Try.underlying5 Try.underlying9
theorem one_next {w2 w W W' : World} {A1 A2 A3 A4 : Option Addr} {s1 i1 n1 c1 s2 i2 n2 c2 n3 c3 n4 c4 : Nat} {l1 l2 : List UInt8} (h : SOne w2 w A1 A2 A3 A4 s1 i1 n1 c1 s2 i2 n2 c2 n3 c3 n4 c4 l1 l2 W) (hb : Below W.heap.size W W') : Below w2.heap.size w2 W' := h.1.1.trans (hb.mono h.1.1.size)
theorem one_below {w2 w W : World} {A1 A2 A3 A4 : Option Addr} {s1 i1 n1 c1 s2 i2 n2 c2 n3 c3 n4 c4 : Nat} {l1 l2 : List UInt8} (h : SOne w2 w A1 A2 A3 A4 s1 i1 n1 c1 s2 i2 n2 c2 n3 c3 n4 c4 l1 l2 W) : Below w2.heap.size w2 W := h.1.1
theorem one_drew {w2 w W : World} {A1 A2 A3 A4 : Option Addr} {s1 i1 n1 c1 s2 i2 n2 c2 n3 c3 n4 c4 : Nat} {l1 l2 : List UInt8} (h : SOne w2 w A1 A2 A3 A4 s1 i1 n1 c1 s2 i2 n2 c2 n3 c3 n4 c4 l1 l2 W) : Below w2.heap.size w2 W.drew := h.1.1.drew
theorem one_rows {w2 w W : World} {A1 A2 A3 A4 : Option Addr} {s1 i1 n1 c1 s2 i2 n2 c2 n3 c3 n4 c4 : Nat} {l1 l2 : List UInt8} (h : SOne w2 w A1 A2 A3 A4 s1 i1 n1 c1 s2 i2 n2 c2 n3 c3 n4 c4 l1 l2 W) : w.heap.size ≤ W.heap.size ∧ Row W w.heap.size A1 n1 (bv l1) ∧ Row W w.heap.size A2 n2 (bv l2) := h.1.2
set_option maxHeartbeats 800000 in
theorem one_walk (s1 i1 : Nat) (A1 : Option Addr) (n1 c1 : Nat) (l1 : List UInt8) (s2 i2 : Nat) (A2 : Option Addr) (n2 c2 : Nat) (l2 : List UInt8) (w : World) (hs1 : s1 < 4294967296) (hi1 : i1 < 4294967296) (h1 : Row w w.heap.size A1 n1 (bv l1)) (_ : n1 ≤ c1) (_ : c1 ≤ 9223372036854775807)
    (hs2 : s2 < 4294967296) (hi2 : i2 < 4294967296) (h2 : Row w w.heap.size A2 n2 (bv l2)) (_ : n2 ≤ c2) (_ : c2 ≤ 9223372036854775807) :
    Calls Try.prog 3 #[.agg #[.int .u32 (s1 : Int), .int .u32 (i1 : Int), .slice A1 n1 c1], .agg #[.int .u32 (s2 : Int), .int .u32 (i2 : Int), .slice A2 n2 c2]] w fun e w' => e = .returned (.bool true) ∧ Below w.heap.size w w' := by
  have HS := Lib.hid (sym_inj (l := l1) (l' := l2) hs1 hi1 hs2 hi2)
  have HS1 := Lib.hid hs1
  have HS2 := Lib.hid hs2
  have HI1 := Lib.hid hi1
  have HI2 := Lib.hid hi2
  clear hs1 hs2 hi1 hi2
  by_cases ha : 100 < n1
  · go_enter Try.func3, Try.ntmps3
    go_wp2_with fail
    refine (awake15_any _).mono ?_
    rintro e w' ⟨rfl, hb⟩
    go_wp2
    go_ret
    exact ⟨rfl, (((Below.refl _ _).alloc (Nat.le_refl _) _).alloc (by simp) _).trans (hb.mono (by simp; omega))⟩
  by_cases hc : 100 < n2
  · go_enter Try.func3, Try.ntmps3
    go_wp2_with fail
    refine (awake15_any _).mono ?_
    rintro e w' ⟨rfl, hb⟩
    go_wp2
    go_ret
    exact ⟨rfl, (((Below.refl _ _).alloc (Nat.le_refl _) _).alloc (by simp) _).trans (hb.mono (by simp; omega))⟩
  go_enter Try.func3, Try.ntmps3
  go_wp2_with fail
  have hb0 : Below w.heap.size w _ := ((Below.refl _ w).alloc (Nat.le_refl _) (.cells #[.int .u32 (s1 : Int), .int .u32 (i1 : Int), .slice A1 n1 c1] 25)).alloc (by simp) (.cells #[.int .u32 (s2 : Int), .int .u32 (i2 : Int), .slice A2 n2 c2] 25)
  have hx1 := box_old w (.cells #[.int .u32 (s1 : Int), .int .u32 (i1 : Int), .slice A1 n1 c1] 25) (.cells #[.int .u32 (s2 : Int), .int .u32 (i2 : Int), .slice A2 n2 c2] 25)
  have hx2 := box_new w (.cells #[.int .u32 (s1 : Int), .int .u32 (i1 : Int), .slice A1 n1 c1] 25) (.cells #[.int .u32 (s2 : Int), .int .u32 (i2 : Int), .slice A2 n2 c2] 25)
  have hz0 : ((w.alloc (.cells #[.int .u32 (s1 : Int), .int .u32 (i1 : Int), .slice A1 n1 c1] 25)).alloc (.cells #[.int .u32 (s2 : Int), .int .u32 (i2 : Int), .slice A2 n2 c2] 25)).heap.size = w.heap.size + 2 := by simp
  generalize ((w.alloc (.cells #[.int .u32 (s1 : Int), .int .u32 (i1 : Int), .slice A1 n1 c1] 25)).alloc (.cells #[.int .u32 (s2 : Int), .int .u32 (i2 : Int), .slice A2 n2 c2] 25)) = w0 at *
  refine (bytes_any s1 i1 w.heap.size n1 c1 A1 l1 w0 HS1.out HI1.out (h1.below hb0) (by omega)).mono ?_
  rintro e w1 ⟨A3, n3, c3, k3, rfl, hk3, hb1⟩
  have hs1 := hb1.size
  have hB1 := hb0.trans (hb1.mono (by omega))
  have HX1 := Lib.hid ((hb1.block w.heap.size (by omega)).trans hx1)
  have HX2 := Lib.hid ((hb1.block (w.heap.size + 1) (by omega)).trans hx2)
  clear hx1 hx2
  obtain ⟨y0, y1, y2⟩ := box3 HX2.out
  go_wp2_with fail
  refine (bytes_any s2 i2 w.heap.size n2 c2 A2 l2 w1 HS2.out HI2.out (h2.below hB1) (by omega)).mono ?_
  rintro e w2 ⟨A4, n4, c4, k4, rfl, hk4, hb2⟩
  have hs2 := hb2.size
  have hB2 := hB1.trans (hb2.mono (by omega))
  clear y0 y1 y2
  rcases hk3 with rfl | ⟨rfl, hown3⟩
  · go_wp2_with fail
    refine (awake15_any _).mono ?_
    rintro e w' ⟨rfl, hb⟩
    go_wp2
    go_ret
    exact ⟨rfl, hB2.trans (hb.mono (by omega))⟩
  rcases hk4 with rfl | ⟨rfl, hown4⟩
  · go_wp2_with fail
    refine (awake15_any _).mono ?_
    rintro e w' ⟨rfl, hb⟩
    go_wp2
    go_ret
    exact ⟨rfl, hB2.trans (hb.mono (by omega))⟩
  have HX1' := Lib.hid ((hb2.block w.heap.size (by omega)).trans HX1.out)
  have HX2' := Lib.hid ((hb2.block (w.heap.size + 1) (by omega)).trans HX2.out)
  clear HX1 HX2
  have hkeep := Lib.hid (one_keep hB2 h1 h2 (own_below hown3 hb2) hown4 c1 c2 HX1'.out HX2'.out)
  clear hown3 hown4
  go_wp2_with fail
  go_region_held3 (SOne w2 w A1 A2 A3 A4 s1 i1 n1 c1 s2 i2 n2 c2 n3 c3 n4 c4 l1 l2)
    (first | exact hkeep.out _ (one_next (by assumption) (by assumption)) | exact hkeep.out _ (Below.refl _ _).drew | exact hkeep.out _ (Below.refl _ _) | exact hkeep.out _ (one_drew (by assumption)))
    (first
      | (go_at_call 6; have hq := one_rows (by assumption); with_reducible refine (same_ab (c := c1) (c' := c2) HS.out _ hq.2.1 hq.2.2 hq.1).mono ?_; rintro e w' ⟨rfl, hbel⟩; clear hq)
      | (go_at_call 6; have hq := one_rows (by assumption); refine (same_aa s1 i1 w.heap.size n1 c1 A1 l1 _ hq.2.1 hq.1).mono ?_; rintro e w' ⟨rfl, hbel⟩; clear hq)
      | (go_at_call 4; refine (awake15_any _).mono ?_; rintro e w' ⟨rfl, hbel⟩))
  go_wp2
  go_ret
  exact ⟨rfl, hB2.trans ((one_below (by assumption)).mono (by omega))⟩

set_option maxRecDepth 100000 in
theorem packetOne_lifted (os : Os) (started : os.Started) (H : Type) (enc : TypeId × Value → H) :
    ReturnsInHanded {} Try.checked os 3 .any (Rows.packetOneSpec.pre6 enc Try.prog Try.f3 Rows.packetOneRow.domain false) (Rows.packetOneSpec.post enc Try.prog Try.f3 false true false false) := by
  refine law_lift (C := Try.checked) (tb := 4) Try.own started (by kernel_rfl) Try.func3
    (ChangeSpec.witness6 (enc := enc) (C := Try.checked) false ⟨#[], #[.agg #[.int .u32 0, .int .u32 0, .slice none 0 0], .agg #[.int .u32 0, .int .u32 0, .slice none 0 0]], []⟩ 8 (by kernel_rfl) (by kernel_rfl) (by kernel_rfl) (by kernel_rfl)) Try.laidOut (by kernel_rfl) rfl rfl Try.underlying4 ?_ ?_
  · intro ds hds
    match ds, hds with
    | [_, _], _ => rfl
  intro W base args ds p hval0 hA0 _ _ hsz0
  have hval : ∀ (j : Nat) t v, Try.f3.params[j]? = some t → args[j]? = some v → Value.okWide Try.prog W .any base t v := hval0
  have hA : DataW.TrodAll enc Try.prog W 0 (fun _ => true) true Try.f3.params.toList args.toList ds p := hA0
  rw [Try.params3] at hA hval
  obtain ⟨v0, v1, d0, d1, p0, p1, rfl, rfl, rfl, h0, h1⟩ := trodAll_two hA
  obtain ⟨s0, i0, A0, n0, cap0, l0, rfl, hsl0, hil0, hrow0, hnc0, hcm0⟩ := open_sym Try.underlying25 ⟨rfl, rfl, rfl⟩ Try.underlying22 Try.underlying22 Try.underlying23 Try.underlying5 Try.cells5 ⟨by kernel_rfl, by kernel_rfl, by kernel_rfl⟩ (by kernel_rfl) (hval 0 25 v0 rfl rfl) h0
  obtain ⟨s1, i1, A1, n1, cap1, l1, rfl, hsl1, hil1, hrow1, hnc1, hcm1⟩ := open_sym Try.underlying25 ⟨rfl, rfl, rfl⟩ Try.underlying22 Try.underlying22 Try.underlying23 Try.underlying5 Try.cells5 ⟨by kernel_rfl, by kernel_rfl, by kernel_rfl⟩ (by kernel_rfl) (hval 1 25 v1 rfl rfl) h1
  exact one_walk s0 i0 A0 n0 cap0 l0 s1 i1 A1 n1 cap1 l1 W hsl0 hil0 hrow0 hnc0 hcm0 hsl1 hil1 hrow1 hnc1 hcm1

theorem packetOne_holds : Rows.PacketOneSaid :=
  OpenClaim.holds_of_wide 3 Try.f3 rfl rfl rfl rfl rfl rfl rfl ⟨rfl, rfl, rfl, rfl, rfl⟩ rfl rfl rfl rfl rfl (by kernel_rfl) Try.func3 (by kernel_rfl)
    (of_decide_eq_true (by kernel_rfl)) (by unfold Func.isWrapper; rw [if_neg (of_decide_eq_false (by kernel_rfl))]; exact ⟨rfl, rfl⟩)
    (fun os started H enc _ => packetOne_lifted os started H enc)
end Go.Proofs.Ytknealemooaneae
