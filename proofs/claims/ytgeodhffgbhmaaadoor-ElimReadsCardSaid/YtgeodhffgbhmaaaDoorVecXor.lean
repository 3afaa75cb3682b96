/- slices.Clone at []uint64; vec's Copy, Xor: by contract. -/
import Derived.Test.YtgeodhffgbhmaaaDoorVecSame
namespace Go.Proofs.YtgeodhffgbhmaaaDoor.Vc
open Go.RowKit
open VecM
/-- the words of a row -/
def wv (X m : Nat) : List Value := (List.range m).map fun k => .int .u64 (word X k : Int)
theorem wv_length (X m : Nat) : (wv X m).length = m := by simp [wv]
theorem wv_get (X m k : Nat) (h : k < m) : (wv X m)[k]? = some (.int .u64 (word X k : Int)) := by simp [wv, h]
theorem wv_one (X m : Nat) : ∀ u ∈ wv X m, u.oneCell' = true := by
  intro u hu
  simp only [wv, List.mem_map] at hu
  obtain ⟨x, _, rfl⟩ := hu
  rfl
theorem VecAt.row {w : World} {g h n X : Nat} (v : VecAt w g h n X) : Row w w.heap.size (some ⟨h, 0, none⟩) (mw n) (wv X (mw n)) := by
  refine ⟨wv_length _ _, fun _ => ⟨h, 0, rfl, v.lt.2, fun j u hu => ?_⟩⟩
  have hj : j < mw n := by have := (List.getElem?_eq_some_iff.1 hu).1; rwa [wv_length] at this
  rw [wv_get _ _ _ hj] at hu
  rw [Nat.zero_add, v.at_ hj, ← hu]
def CloneOk (X m : Nat) (w : World) (e : Ending) (w' : World) : Prop :=
  ∃ h c, e = .returned (.slice (some ⟨h, 0, none⟩) m c) ∧ Hid (m ≤ c ∧ c ≤ 9223372036854775807) ∧ Hid (w'.ownsRow w.heap.size 52 1 (.slice (some ⟨h, 0, none⟩) m c) m (wv X m)) ∧ Hid (h < w'.heap.size ∧ w.heap.size ≤ h) ∧ Below w.heap.size w w'
set_option maxRecDepth 100000 in
set_option maxHeartbeats 800000 in
theorem cloneW_any (B m cap h0 X : Nat) (w : World) (hl : Row w B (some ⟨h0, 0, none⟩) m (wv X m)) (hm : m ≤ 4) (hB : B ≤ w.heap.size) :
    Calls Tryd.prog 61 #[.slice (some ⟨h0, 0, none⟩) m cap] w (CloneOk X m w) := by
  obtain ⟨i0, hi, hz0, hz1, hz2⟩ := info_parts infoU64
  have hq : ∀ (w : World) (a : Option Addr) (n c : Nat), (binOp .eql 99 (.slice a n c) (.slice none 0 0)).run Tryd.prog w = .ok (.bool a.isNone) w := fun w a n c => Lib.run_eql_slice_nil w _ _ a n c 0 0 Tryd.underlying99
  have HR := Lib.hid hl
  clear hl
  go_enter Tryd.func61, Tryd.ntmps61
  have hown0 : (w.alloc (.cells #[] 52)).ownsRow w.heap.size 52 1 (.slice (some ⟨w.heap.size, 0, none⟩) 0 0) 0 [] := own_lit (cs := #[]) rfl (Nat.le_refl _) rfl (by unfold maxLen; omega)
  have HO0 := Lib.hid hown0
  clear hown0
  go_wp2_with (at_builtin; refine wpList_app rfl (.tmp 5) (.tmp 6) 99 rfl w.heap.size 52 i0 (.int .u64 0) 8 Tryd.underlying99 hi hz0 hz1 hz2 rfl _ 0 [] rfl HO0.out B _ m cap (wv X m) rfl (HR.out.alloc hB _) (wv_one X m) (by unfold maxLen; omega) (by omega) (by simp) ?_; intro v2 w2 hown2 hg2 hat2)
  obtain ⟨A2, c2, rfl, hc2, hc3, hA2⟩ := own_slice hown2
  have hb := below_app ((Below.refl w.heap.size w).alloc (Nat.le_refl _) (.cells #[] 52)) (by simp) HO0.out (Nat.le_refl _) hg2
  rw [Nat.zero_add, List.nil_append] at hown2
  unfold maxLen at hc3
  go_ret
  cases A2 with
  | none =>
    exfalso
    rcases hat2 with h | h
    · have h' : (none : Option Nat) = some w.heap.size := h
      cases h'
    · have h' : (none : Option Nat) = some (w.alloc (.cells #[] 52)).heap.size := h
      cases h'
  | some a =>
    rcases hA2 with h2 | ⟨g2, h2, hg⟩
    · cases h2
    · injection h2 with h2
      subst h2
      have hlt : g2 < w2.heap.size := by
        rcases hown2.2 with ⟨h0, _⟩ | ⟨g3, _, _, hv, _, hg3, _⟩
        · cases h0
        · injection hv with e1 _ _
          injection e1 with e1
          injection e1 with e1
          subst e1
          exact (Array.getElem?_eq_some_iff.1 hg3).1
      exact ⟨g2, c2, by rw [Nat.zero_add]; rfl, ⟨by omega, by omega⟩, hown2, ⟨hlt, hg⟩, hb⟩
abbrev SCopy (w : World) (g h n cap : Nat) (W : World) : Prop :=
  Below w.heap.size w W ∧ W.cell? ⟨g, 0, none⟩ = some (.int .i64 (n : Int)) ∧ W.cell? ⟨g, 1, none⟩ = some (.slice (some ⟨h, 0, none⟩) (mw n) cap)
theorem copy_keep {w : World} {g h n cap : Nat} (hg : g < w.heap.size) (c0 : w.cell? ⟨g, 0, none⟩ = some (.int .i64 (n : Int))) (c1 : w.cell? ⟨g, 1, none⟩ = some (.slice (some ⟨h, 0, none⟩) (mw n) cap)) (W : World) (hW : Below w.heap.size w W) : SCopy w g h n cap W :=
  ⟨hW, by rw [hW.cell (p := ⟨g, 0, none⟩) hg]; exact c0, by rw [hW.cell (p := ⟨g, 1, none⟩) hg]; exact c1⟩
theorem copy_next {w W W' : World} {g h n cap : Nat} (hs : SCopy w g h n cap W) (hb : Below W.heap.size W W') : Below w.heap.size w W' := hs.1.trans (hb.mono hs.1.size)
theorem copy_below {w W : World} {g h n cap : Nat} (hs : SCopy w g h n cap W) : Below w.heap.size w W := hs.1
theorem copy_drew {w W : World} {g h n cap : Nat} (hs : SCopy w g h n cap W) : Below w.heap.size w W.drew := hs.1.drew
theorem copy_alloc {w W : World} {g h n cap : Nat} (hs : SCopy w g h n cap W) (o : Obj) : Below w.heap.size w (W.alloc o) := hs.1.alloc hs.1.size o
set_option maxRecDepth 100000 in
theorem copy_nil (w : World) : Calls Tryd.prog 60 #[.pointer none] w fun e w' => e = .returned (.pointer none) ∧ w = w' := by
  go_enter Tryd.func60, Tryd.ntmps60
  go_wp2_with fail
  go_ret
  exact ⟨rfl, rfl⟩
theorem vec_of_own {w : World} {h n X c B : Nat} (hn : n ≤ 256) (hX : X < 2 ^ n) (ho : w.ownsRow B 52 1 (.slice (some ⟨h, 0, none⟩) (mw n) c) (mw n) (wv X (mw n))) (hc : mw n ≤ c ∧ c ≤ 9223372036854775807) (hh : h < w.heap.size) :
    VecAt (w.alloc (.cells #[.int .i64 (n : Int), .slice (some ⟨h, 0, none⟩) (mw n) c] 101)) w.heap.size h n X := by
  have hb : Below w.heap.size w (w.alloc (.cells #[.int .i64 (n : Int), .slice (some ⟨h, 0, none⟩) (mw n) c] 101)) := (Below.refl _ _).alloc (Nat.le_refl _) _
  rcases ho.2 with ⟨h0, _⟩ | ⟨g, cap, cur, hv, _, hg, h1, h2, h3, h4⟩
  · cases h0
  · injection hv with e1 e2 e3
    injection e1 with e1
    injection e1 with e1
    subst e1 e3
    rw [Nat.mul_one] at h3 h4
    refine ⟨hn, hX, by omega, c, cur, heap_alloc_new _ _, (hb.block h hh).trans hg, hc.1, hc.2, by omega, fun k hk => ?_⟩
    have := wv_get X (mw n) k hk
    rw [← h4, List.getElem?_take_of_lt hk] at this
    simpa using this
set_option maxRecDepth 100000 in
set_option maxHeartbeats 1600000 in
theorem copy_any (g h n X : Nat) (w : World) (v : VecAt w g h n X) : Calls Tryd.prog 60 #[.pointer (some ⟨g, 0, none⟩)] w (OfOk n X w) := by
  obtain ⟨cap, _, _, c0, c1⟩ := v.cells
  have hkeep := Lib.hid (copy_keep v.lt.1 c0 c1)
  have HC := Lib.hid (fun (W : World) (hW : Below w.heap.size w W) => cloneW_any w.heap.size (mw n) cap h X W (v.row.below hW) (mw_le v.1) hW.size)
  have HV := Lib.hid v
  clear v
  go_enter Tryd.func60, Tryd.ntmps60
  go_wp2_with fail
  go_region_held3 (SCopy w g h n cap)
    (first | exact hkeep.out _ (copy_next (by assumption) (by assumption)) | exact hkeep.out _ (Below.refl _ _).drew | exact hkeep.out _ (Below.refl _ _) | exact hkeep.out _ (copy_alloc (by assumption) _) | exact hkeep.out _ (copy_drew (by assumption)))
    (first
      | (go_at_call 61; refine (HC.out _ (copy_below (by assumption))).mono ?_; rintro e w' ⟨h2, c2, rfl, hcc, hown, hsz, hbel⟩))
  have HF := Lib.hid (vec_of_own HV.out.1 HV.out.2.1 hown.out hcc.out hsz.out.1)
  have hall := copy_below (by assumption : SCopy w g h n cap (w'.alloc (.cells #[.int .i64 (n : Int), .slice (some ⟨h2, 0, none⟩) (mw n) c2] 101)))
  have hw' : w.heap.size ≤ w'.heap.size := by have := hbel.size; exact this
  clear hkeep HC c0 c1 hown hcc
  go_wp2_with fail
  go_ret
  exact ⟨w'.heap.size, h2, rfl, hw', hsz.out.2, HF, hall⟩
theorem word_mod (Y k j : Nat) : word (Y % 2 ^ (64 * k)) j = if j < k then word Y j else 0 := by
  apply Nat.eq_of_testBit_eq; intro i
  rw [word_bit, Nat.testBit_mod_two_pow]
  by_cases h : j < k
  · rw [if_pos h, word_bit]
    by_cases hi : i < 64
    · have : 64 * j + i < 64 * k := by omega
      simp [hi, this]
    · simp [hi]
  · rw [if_neg h]
    by_cases hi : i < 64
    · have : ¬ 64 * j + i < 64 * k := by omega
      simp [this]
    · simp [hi]
def mixX (X Y k : Nat) : Nat := X ^^^ (Y % 2 ^ (64 * k))
theorem mixX_zero (X Y : Nat) : mixX X Y 0 = X := by simp [mixX, Nat.mod_one]
theorem mixX_all {X Y n m : Nat} (hY : Y < 2 ^ n) (hm : n ≤ 64 * m) : mixX X Y m = X ^^^ Y := by
  unfold mixX; rw [Nat.mod_eq_of_lt (Nat.lt_of_lt_of_le hY (Nat.pow_le_pow_right (by decide) hm))]
theorem mixX_lt {X Y n k : Nat} (hX : X < 2 ^ n) (hY : Y < 2 ^ n) : mixX X Y k < 2 ^ n :=
  Nat.xor_lt_two_pow hX (Nat.lt_of_le_of_lt (Nat.mod_le _ _) hY)
theorem mixX_word (X Y k j : Nat) : word (mixX X Y k) j = if j < k then word X j ^^^ word Y j else word X j := by
  unfold mixX; rw [word_xor, word_mod]
  by_cases h : j < k
  · rw [if_pos h, if_pos h]
  · rw [if_neg h, if_neg h]; simp
def XorOk (g h n Z : Nat) (w : World) (e : Ending) (w' : World) : Prop := e = .returned (.bool true) ∧ Hid (VecAt w' g h n Z) ∧ Hid (w.grownBy w' (some h))
theorem grown_drewN (w : World) (q : Nat) (r : Option Nat) : w.grownBy (w.drewN q) r := ⟨rfl, rfl, rfl, Nat.le_refl _, fun _ _ _ => rfl⟩
set_option maxRecDepth 100000 in
theorem xor_nil (p : Option Addr) (w : World) : Calls Tryd.prog 55 #[.pointer none, .pointer p] w (QB false w) := by
  go_enter Tryd.func55, Tryd.ntmps55
  go_wp2_with fail
  go_quiet (fail)
  go_wp2_with fail
  go_ret
  exact ⟨rfl, _, rfl⟩
set_option maxRecDepth 100000 in
theorem xor_vn (a : Addr) (w : World) : Calls Tryd.prog 55 #[.pointer (some a), .pointer none] w (QB false w) := by
  go_enter Tryd.func55, Tryd.ntmps55
  go_wp2_with fail
  go_quiet (fail)
  go_wp2_with fail
  go_ret
  exact ⟨rfl, _, rfl⟩
set_option maxRecDepth 100000 in
theorem xor_ne (g h n X g' h' n' Y : Nat) (w : World) (v : VecAt w g h n X) (u : VecAt w g' h' n' Y) (hn : n ≠ n') : Calls Tryd.prog 55 #[.pointer (some ⟨g, 0, none⟩), .pointer (some ⟨g', 0, none⟩)] w (QB false w) := by
  obtain ⟨cap, _, _, c0, c1⟩ := v.cells
  obtain ⟨cap2, _, _, d0, d1⟩ := u.cells
  have hne : ((n : Int) != (n' : Int)) = true := by simp; omega
  clear v u hn
  go_enter Tryd.func55, Tryd.ntmps55
  go_wp2_with fail
  go_quiet (fail)
  go_wp2_with fail
  go_ret
  exact ⟨rfl, _, rfl⟩
set_option maxRecDepth 100000 in
set_option maxHeartbeats 1600000 in
theorem xor_any (g h n X g' h' Y : Nat) (w : World) (v : VecAt w g h n X) (u : VecAt w g' h' n Y) (hh : h ≠ h') (hg : h ≠ g') : Calls Tryd.prog 55 #[.pointer (some ⟨g, 0, none⟩), .pointer (some ⟨g', 0, none⟩)] w (XorOk g h n (X ^^^ Y) w) := by
  obtain ⟨cap, _, _, c0, c1⟩ := v.cells
  obtain ⟨cap2, _, _, d0, d1⟩ := u.cells
  have hm := mw_le v.1
  have HV := Lib.hid v
  have HU := Lib.hid u
  have HH := Lib.hid (And.intro hh hg)
  clear v u hh hg
  go_enter Tryd.func55, Tryd.ntmps55
  go_wp2_with fail
  go_quiet (fail)
  go_wp2_with fail
  clear c0 c1 d0 d1
  go_loopw [29] (fun i wr => ∃ k : Nat, k ≤ mw n ∧ i = .int .i64 k ∧ Hid (VecAt wr g h n (mixX X Y k)) ∧ Hid (VecAt wr g' h' n Y) ∧ Hid (w.grownBy wr (some h))) (fun i _ => mw n - (intOf i).toNat)
  case atStart => exact ⟨0, by omega, rfl, by rw [mixX_zero]; exact HV.out.drewN _, HU.out.drewN _, grown_drewN _ _ _⟩
  case round =>
    obtain ⟨k, hk, rfl, hv, hu, hgr⟩ := hrel
    by_cases hlt : k < mw n
    · obtain ⟨cap3, _, _, c0, c1⟩ := hv.out.cells
      have e1 := hv.out.at_ hlt
      have e2 := hu.out.at_ hlt
      have hf := hv.out.frozen k
      rw [mixX_word, if_neg (by omega)] at e1
      have hx := word_lt X k
      have hy := word_lt Y k
      have HS : Hid (∀ u, u = ((word X k ^^^ word Y k : Nat) : Int) → VecAt (wr.setCell ⟨h, k, none⟩ (.int .u64 u)) g h n (mixX X Y (k + 1))) := fun u hu2 => hv.out.store hlt (mixX_lt HV.out.2.1 HU.out.2.1) (by rw [hu2, mixX_word, if_pos (by omega)]) fun j _ hj => by
        rw [mixX_word, mixX_word]
        by_cases h1 : j < k
        · rw [if_pos h1, if_pos (by omega)]
        · rw [if_neg h1, if_neg (by omega)]
      have HU2 : Hid (∀ u, VecAt (wr.setCell ⟨h, k, none⟩ u) g' h' n Y) := fun u => hu.out.grown (grown_set1 _ _ _ _) HH.out.2 HH.out.1
      have HG2 : Hid (∀ u, w.grownBy (wr.setCell ⟨h, k, none⟩ u) (some h)) := fun u => hgr.out.trans (grown_set1 _ _ _ _)
      have HX : Hid (bits BinOp.xor IntKind.u64 (word X k : Int) (word Y k : Int) = ((word X k ^^^ word Y k : Nat) : Int)) := u64_xor_nat _ _ hx hy
      generalize word X k = x at *
      generalize word Y k = y at *
      clear hv hu hgr
      go_wp2_with fail
      go_roundw
      case rel => exact ⟨k + 1, by omega, by go_num, HS.out _ HX.out, HU2.out _, HG2.out _⟩
      case measure => simp [intOf]; omega
    · obtain rfl : mw n = k := by omega
      have HF : Hid (VecAt wr g h n (X ^^^ Y)) := by
        show VecAt _ _ _ _ _
        rw [← mixX_all (m := mw n) HU.out.2.1 (by unfold mw; omega)]; exact hv.out
      clear hv
      go_wp2_with fail
      go_ret
      exact ⟨rfl, HF, hgr⟩
end Go.Proofs.YtgeodhffgbhmaaaDoor.Vc
