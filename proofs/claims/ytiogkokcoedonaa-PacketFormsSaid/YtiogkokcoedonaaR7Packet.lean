/- The reference's packets: by contracts. -/
import Derived.Test.YtiogkokcoedonaaR1Join
import Derived.Test.YtiogkokcoedonaaParse
import Derived.Test.YtiogkokcoedonaaFits
import Derived.Deep.RegionHeld3
namespace Go.Proofs.Ytiogkokcoedonaa
open Go.RowKit
set_option maxHeartbeats 400000 in
theorem r7bytes_bad (s id n cap : Nat) (A : Option Addr) (w : World) (h : n < 1 ∨ 16 < n) :
    Calls Try.prog 22 #[.agg #[.int .u32 (s : Int), .int .u32 (id : Int), .slice A n cap]] w (fun e w' => e = .returned (.tuple #[.slice none 0 0, .int .i64 1]) ∧ Below w.heap.size w w') := by
  by_cases h1 : n < 1
  · clear h
    go_enter Try.func22, Try.ntmps22
    go_wp2
    go_ret2
    exact ⟨rfl, (Below.refl _ _).alloc (Nat.le_refl _) _⟩
  · have h16 : 16 < n := by omega
    clear h
    go_enter Try.func22, Try.ntmps22
    go_wp2
    go_ret2
    exact ⟨rfl, (Below.refl _ _).alloc (Nat.le_refl _) _⟩
set_option maxHeartbeats 400000 in
theorem r1number_any (B cap : Nat) (A : Option Addr) (l : List UInt8) (w : World) (hl : Row w B A 4 (bv l)) :
    Calls Try.prog 34 #[.slice A 4 cap] w fun e w' => e = .returned (.int .u32 (CrcM.number l : Nat)) ∧ w = w' := by
  have HS : Hid (isNum 0 0 l) := ⟨rfl, by decide⟩
  have HN := Lib.hid hl.blen
  go_enter Try.func34, Try.ntmps34
  go_wp2
  go_loop [3, 8] (fun v i => ∃ (k x : Nat), k ≤ 4 ∧ Hid (isNum k x l) ∧ i = .int .i64 k ∧ v = .int .u32 x) (fun _ i => 4 - (intOf i).toNat)
  case atStart => exact ⟨0, 0, by omega, HS, rfl, rfl⟩
  case round =>
    obtain ⟨k, x, hk, hx, rfl, rfl⟩ := hrel
    by_cases hlt : k < 4
    · obtain ⟨b, o, rfl, _, hkl, hcell⟩ := hl.byteAt hlt
      obtain ⟨y, hy, hr⟩ := isNum_next hx.out hkl hlt
      have HY := Lib.hid hy
      clear hy
      have hb : (l[k].toNat : Int) ≤ 255 := by have := CrcM.b_lt l[k]; omega
      go_wp2
      go_round
      case rel => exact ⟨k + 1, y, by omega, hr, by go_num, HY.out⟩
      case measure => simp [intOf]; omega
    · have : k = 4 := by omega
      subst this
      go_wp2
      go_ret
      refine ⟨?_, rfl⟩
      have e := hx.out.1
      rw [List.take_of_length_le (by rw [HN.out]; omega)] at e
      rw [e]; rfl
set_option maxHeartbeats 400000 in
theorem r7same_any (s id B n cap s' id' n' cap' : Nat) (A A' : Option Addr) (l l' : List UInt8) (w : World) (hl : Row w B A n (bv l)) (hl' : Row w B A' n' (bv l')) (hB : B ≤ w.heap.size) :
    Calls Try.prog 25 #[.agg #[.int .u32 (s : Int), .int .u32 (id : Int), .slice A n cap], .agg #[.int .u32 (s' : Int), .int .u32 (id' : Int), .slice A' n' cap']] w (fun e w' => ∃ b : Bool, e = .returned (.bool b) ∧ Hid (b = decide (s = s' ∧ id = id' ∧ l = l')) ∧ Below w.heap.size w w') := by
  have k1 : ∀ W, Below B w W → (convert 22 9 (.slice A n cap)).run Try.prog W = .ok (.string ⟨l.toArray⟩) W := fun W hW => run_string_row (hl.below hW) _ _ _ 5 Try.underlying22 Try.underlying5 Try.underlying9
  have k2 : ∀ W, Below B w W → (convert 22 9 (.slice A' n' cap')).run Try.prog W = .ok (.string ⟨l'.toArray⟩) W := fun W hW => run_string_row (hl'.below hW) _ _ _ 5 Try.underlying22 Try.underlying5 Try.underlying9
  have hb0 : Below w.heap.size w ((w.alloc (.cells #[.int .u32 (s : Int), .int .u32 (id : Int), .slice A n cap] 39)).alloc (.cells #[.int .u32 (s' : Int), .int .u32 (id' : Int), .slice A' n' cap'] 39)) := ((Below.refl _ _).alloc (Nat.le_refl _) _).alloc (by simp) _
  have q1 := k1 _ (hb0.mono hB)
  have q2 := k2 _ (hb0.mono hB)
  clear k1 k2
  by_cases h1 : s = s'
  · subst h1
    by_cases h2 : id = id'
    · subst h2
      go_enter Try.func25, Try.ntmps25
      go_wp2_with fail
      go_ret
      exact ⟨_, rfl, (by show (l == l') = decide _; rw [Bool.eq_iff_iff]; simp), hb0⟩
    · have h2' : ¬ (id : Int) = id' := by omega
      have HN := Lib.hid h2
      clear h2
      go_enter Try.func25, Try.ntmps25
      go_wp2_with fail
      go_ret
      exact ⟨_, rfl, (by simp [Hid, HN.out]), hb0⟩
  · have h1' : ¬ (s : Int) = s' := by omega
    have HN := Lib.hid h1
    clear h1
    go_enter Try.func25, Try.ntmps25
    go_wp2_with fail
    go_ret
    exact ⟨_, rfl, (by simp [Hid, HN.out]), hb0⟩
def R7Ok (l : List UInt8) (w : World) (e : Ending) (w' : World) : Prop :=
  ∃ A n cap, e = .returned (.tuple #[.slice A n cap, .int .i64 0]) ∧ w'.ownsRow w.heap.size 5 1 (.slice A n cap) n (bv l) ∧ Below w.heap.size w w'
abbrev SBox (w0 w : World) (s i : Nat) (A : Option Addr) (n c : Nat) (W : World) : Prop :=
  Below w0.heap.size w0 W ∧ W.cell? ⟨w.heap.size, 0, none⟩ = some (.int .u32 (s : Int)) ∧ W.cell? ⟨w.heap.size, 1, none⟩ = some (.int .u32 (i : Int)) ∧ W.cell? ⟨w.heap.size, 2, none⟩ = some (.slice A n c)
theorem sbx_keep {w0 w : World} {s i : Nat} {A : Option Addr} {n c : Nat} {t : TypeId} (hx : w0.heap[w.heap.size]? = some (.cells #[.int .u32 (s : Int), .int .u32 (i : Int), .slice A n c] t (0, 0))) (hs : w.heap.size < w0.heap.size) (W : World) (hW : Below w0.heap.size w0 W) : SBox w0 w s i A n c W :=
  ⟨hW, box3 ((hW.block _ hs).trans hx)⟩
theorem sbx_next {w0 w W W' : World} {s i : Nat} {A : Option Addr} {n c : Nat} (h : SBox w0 w s i A n c W) (hb : Below W.heap.size W W') : Below w0.heap.size w0 W' := h.1.trans (hb.mono h.1.size)
theorem sbx_below {w0 w W : World} {s i : Nat} {A : Option Addr} {n c : Nat} (h : SBox w0 w s i A n c W) : Below w0.heap.size w0 W := h.1
theorem sbx_drew {w0 w W : World} {s i : Nat} {A : Option Addr} {n c : Nat} (h : SBox w0 w s i A n c W) : Below w0.heap.size w0 W.drew := h.1.drew
theorem sbx_alloc {w0 w W : World} {s i : Nat} {A : Option Addr} {n c : Nat} (h : SBox w0 w s i A n c W) (o : Obj) : Below w0.heap.size w0 (W.alloc o) := h.1.alloc h.1.size o
theorem join3 (n1 c1 : Nat) (A1 : Option Addr) (l1 : List UInt8) (n2 c2 : Nat) (A2 : Option Addr) (l2 : List UInt8) (n3 c3 : Nat) (A3 : Option Addr) (l3 : List UInt8) (W : World) (h1 : Row W W.heap.size A1 n1 (bv l1)) (h2 : Row W W.heap.size A2 n2 (bv l2)) (h3 : Row W W.heap.size A3 n3 (bv l3)) (ha : n1 ≤ 1000 ∧ n2 ≤ 1000 ∧ n3 ≤ 1000) :
    Calls Try.prog 29 #[.slice (some ⟨W.heap.size, 0, none⟩) 3 3] (W.alloc (.cells #[.slice A1 n1 c1, .slice A2 n2 c2, .slice A3 n3 c3] 22)) (FreshBytes (W.alloc (.cells #[.slice A1 n1 c1, .slice A2 n2 c2, .slice A3 n3 c3] 22)).heap.size (l1 ++ l2 ++ l3) (W.alloc (.cells #[.slice A1 n1 c1, .slice A2 n2 c2, .slice A3 n3 c3] 22))) := by
  have hr := row_new W #[.slice A1 n1 c1, .slice A2 n2 c2, .slice A3 n3 c3] 22 (0, 0)
  have hf : flat [⟨A1, n1, c1, l1⟩, ⟨A2, n2, c2, l2⟩, ⟨A3, n3, c3, l3⟩] = l1 ++ l2 ++ l3 := by simp [flat]
  have := join_any (W.heap.size + 1) 3 3 (some ⟨W.heap.size, 0, none⟩) [⟨A1, n1, c1, l1⟩, ⟨A2, n2, c2, l2⟩, ⟨A3, n3, c3, l3⟩] (W.alloc (.cells #[.slice A1 n1 c1, .slice A2 n2 c2, .slice A3 n3 c3] 22))
    ⟨hr, by
      intro r hr
      simp at hr
      rcases hr with rfl | rfl | rfl
      · exact (h1.alloc (Nat.le_refl _) _).more (by omega)
      · exact (h2.alloc (Nat.le_refl _) _).more (by omega)
      · exact (h3.alloc (Nat.le_refl _) _).more (by omega)⟩ (by omega) (by rw [hf, List.length_append, List.length_append, h1.blen, h2.blen, h3.blen]; omega) (by simp)
  rwa [hf] at this
set_option maxHeartbeats 800000 in
theorem r7bytes_ok (s id B n cap : Nat) (A : Option Addr) (l : List UInt8) (w : World) (hs : s < 4294967296) (hid : id < 4294967296) (hl : Row w B A n (bv l)) (h1 : 1 ≤ n) (h16 : n ≤ 16) (hB : B ≤ w.heap.size) :
    Calls Try.prog 22 #[.agg #[.int .u32 (s : Int), .int .u32 (id : Int), .slice A n cap]] w (R7Ok (symB s id l) w) := by
  have HS := Lib.hid hs
  have HI := Lib.hid hid
  clear hs hid
  have hb0 : Below w.heap.size w (w.alloc (.cells #[.int .u32 (s : Int), .int .u32 (id : Int), .slice A n cap] 39)) := (Below.refl _ _).alloc (Nat.le_refl _) _
  have hx := heap_alloc_new w (.cells #[.int .u32 (s : Int), .int .u32 (id : Int), .slice A n cap] 39)
  have hz : (w.alloc (.cells #[.int .u32 (s : Int), .int .u32 (id : Int), .slice A n cap] 39)).heap.size = w.heap.size + 1 := by simp
  go_enter Try.func22, Try.ntmps22
  go_wp2_with fail
  generalize (w.alloc (.cells #[.int .u32 (s : Int), .int .u32 (id : Int), .slice A n cap] 39)) = w0 at *
  have hkeep := Lib.hid (sbx_keep hx (by omega))
  clear hx
  go_region_held3 (SBox w0 w s id A n cap)
    (first | exact hkeep.out _ (sbx_next (by assumption) (by assumption)) | exact hkeep.out _ (Below.refl _ _).drew | exact hkeep.out _ (Below.refl _ _) | exact hkeep.out _ (sbx_alloc (by assumption) _) | exact hkeep.out _ (sbx_drew (by assumption)))
    (first
      | (go_at_call 32; (with_reducible refine (four_any s HS.out _).mono ?_); rintro e w1 ⟨A5, n5, c5, rfl, hn5, hown5, hb5⟩)
      | (go_at_call 32; (with_reducible refine (four_any id HI.out _).mono ?_); rintro e w2 ⟨A6, n6, c6, rfl, hn6, hown6, hb6⟩)
      | (go_at_call 29; have hq5 : n5 = 4 := hn5.out; have hq6 : n6 = 4 := hn6.out; have hbw2 := hb0.trans ((sbx_below (w0 := w0) (w := w) (s := s) (i := id) (A := A) (n := n) (c := cap) (hkeep.out _ ((Below.refl w0.heap.size w0).drew.trans (hb5.trans (hb6.mono hb5.size))))).mono hb0.size); refine (join3 n5 c5 A5 (CrcM.four s) n6 c6 A6 (CrcM.four id) n cap A l w2 (((Row.of_own hown5).below hb6).more hb6.size) (Row.of_own hown6) ((hl.below (hbw2.mono hB)).more (Nat.le_trans hB hbw2.size)) ⟨by omega, by omega, by omega⟩).mono ?_; rintro e w7 ⟨A7, n7, c7, rfl, hn7, hown7, hb7⟩))
  have hend := hb0.trans ((sbx_below (by assumption : SBox w0 w s id A n cap w7)).mono hb0.size)
  go_wp2
  go_ret2
  exact ⟨A7, n7, c7, rfl, own_base hown7 (by have := hbw2.size; simp; omega), hend⟩
end Go.Proofs.Ytiogkokcoedonaa
