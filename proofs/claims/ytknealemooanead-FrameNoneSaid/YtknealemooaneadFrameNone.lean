/- FrameNone: bytes without a D have no frames; all of them are of none. For every input, no condition. -/
import Derived.Test.YtknealemooaneadRows
import Derived.Test.YtknealemooaneadFrameAll
import Derived.Test.YtknealemooaneadLaw
namespace Go.Proofs.Ytknealemooanead
open Go.ChangeShapes Go.WideShapes Go.ChangeAt Go.RowKit

/-- those of the first 3000 of the first k bytes that are no D -/
def quiet (l : List UInt8) (k : Nat) : List UInt8 := ((l.take k).take 3000).filter fun x => x ≠ 68
theorem quiet_le (l : List UInt8) (k : Nat) : (quiet l k).length ≤ 3000 := by
  unfold quiet
  exact Nat.le_trans (List.length_filter_le _ _) (by simp; omega)
theorem quiet_next (l : List UInt8) (k : Nat) (h : k < l.length) : quiet l (k + 1) = quiet l k ++ if l[k] ≠ 68 ∧ k < 3000 then [l[k]] else [] := by
  unfold quiet
  rw [List.take_succ_eq_append_getElem h, List.take_append, List.filter_append]
  congr 1
  rw [List.length_take, Nat.min_eq_left (by omega)]
  by_cases h3 : k < 3000
  · rw [List.take_of_length_le (by simp; omega)]
    by_cases h6 : l[k] = 68
    · simp [h6]
    · simp [h6, h3]
  · rw [show 3000 - k = 0 by omega]
    simp [h3]
theorem quiet_none (l : List UInt8) (k : Nat) : ∀ x ∈ quiet l k, x ≠ 68 := by
  intro x hx
  unfold quiet at hx
  simpa using (List.mem_filter.1 hx).2

set_option maxRecDepth 100000 in
set_option maxHeartbeats 800000 in
theorem none_walk (A : Option Addr) (n cap : Nat) (l : List UInt8) (w : World) (hl : Row w w.heap.size A n (bv l)) (hn : n ≤ cap) (hcap : cap ≤ 9223372036854775807) :
    Calls Try.prog 5 #[.slice A n cap] w fun e w' => e = .returned (.bool true) ∧ Below w.heap.size w w' := by
  obtain ⟨i0, hi, hz0, hz1, hz2⟩ := info_parts Try.info5
  have HB := Lib.hid hl.blen
  go_enter Try.func5, Try.ntmps5
  go_wp2_with fail
  go_loopw [3, 10] (fun v i wr => ∃ k : Nat, k ≤ n ∧ i = .int .i64 k ∧ wr.ownsRow w.heap.size 5 1 v (quiet l k).length (bv (quiet l k)) ∧ Below w.heap.size w wr) (fun _ i _ => n - (intOf i).toNat)
  case atStart => exact ⟨0, by omega, rfl, World.ownsRow_nil _ _ _ _, Below.refl _ _⟩
  case round =>
    obtain ⟨k, hk, rfl, hown, hbk⟩ := hrel
    by_cases hlt : k < n
    · obtain ⟨b, o, rfl, _, hkl, hcell⟩ := (hl.below hbk).byteAt hlt
      have hq := quiet_le l k
      have hnx := Lib.hid (quiet_next l k hkl)
      generalize hx : l[k] = x at *
      have HX := Lib.hid hx
      clear hx
      generalize hQ : quiet l k = Q at *
      have HQ := Lib.hid hQ
      clear hQ
      by_cases h6 : x = 68
      · have e6 : ((x.toNat : Int) != 68) = false := by rw [h6]; rfl
        have hs : Hid (quiet l (k + 1) = Q) := by have := hnx.out; simp [h6] at this; exact this
        clear h6
        go_wp2_with fail
        go_roundw
        case rel => exact ⟨k + 1, by omega, by go_num, by rw [hs.out]; exact hown, hbk⟩
        case measure => simp [intOf]; omega
      · have e6 : ((x.toNat : Int) != 68) = true := bne_iff_ne.2 fun e => h6 (UInt8.toNat.inj (by rw [show x.toNat = 68 by omega]; rfl))
        by_cases h3 : k < 3000
        · have hs : Hid (quiet l (k + 1) = Q ++ [x]) := by have := hnx.out; rw [if_pos ⟨h6, h3⟩] at this; exact this
          clear h6
          go_wp2_with (at_builtin; refine wpList_app rfl (.tmp 21) (.tmp 23) 23 rfl w.heap.size 5 i0 (.int .u8 0) 1 Try.underlying23 hi hz0 hz1 hz2 rfl _ _ _ rfl (hown.alloc _) _ _ 1 1 _ rfl (row_new wr _ _ _) (by intro u hu; simp at hu; subst hu; rfl) (by unfold maxLen; omega) (by omega) (by have := hbk.size; simp; omega) ?_; intro v2 w2 hown2 hg2 hat2)
          have hb2 := below_app (hbk.alloc hbk.size _) (by have := hbk.size; simp; omega) (hown.alloc _) (Nat.le_refl _) hg2
          have hown3 : w2.ownsRow w.heap.size 5 1 v2 (Q ++ [x]).length (bv (Q ++ [x])) := by
            rw [bv_append, List.length_append]
            exact hown2
          clear hown hown2 hg2 hat2
          go_roundw
          case rel => exact ⟨k + 1, by omega, by go_num, by rw [hs.out]; exact hown3, hb2⟩
          case measure => simp [intOf]; omega
        · have hs : Hid (quiet l (k + 1) = Q) := by
            have := hnx.out
            rw [if_neg (by omega), List.append_nil] at this
            exact this
          clear h6
          go_wp2_with fail
          go_roundw
          case rel => exact ⟨k + 1, by omega, by go_num, by rw [hs.out]; exact hown, hbk⟩
          case measure => simp [intOf]; omega
    · have hkn : k = n := by omega
      subst hkn
      have hq := quiet_le l k
      have hqn := quiet_none l k
      generalize quiet l k = Q at *
      have HQN := Lib.hid hqn
      clear hqn
      generalize hQL : Q.length = q at *
      have HQL := Lib.hid hQL
      clear hQL
      obtain ⟨A2, c2, rfl, _⟩ := own_slice hown
      have hc2 := own_cap hown
      go_wp2_with fail
      refine (all_none wr.heap.size q c2 A2 Q wr (Row.of_own hown) hc2.1 hc2.2 (Nat.le_refl _) (by omega) HQN.out).mono ?_
      rintro e w3 ⟨rfl, hb3⟩
      have hb3' := hbk.trans (hb3.mono hbk.size)
      clear hown hb3 hbk
      go_wp2_with fail
      refine (awake13_any _).mono ?_
      rintro e w' ⟨rfl, hb⟩
      go_wp2
      go_ret
      exact ⟨rfl, hb3'.trans (hb.mono hb3'.size)⟩

set_option maxRecDepth 100000 in
theorem frameNone_lifted (os : Os) (started : os.Started) (H : Type) (enc : TypeId × Value → H) :
    ReturnsInHanded {} Try.checked os 5 .any (Rows.frameNoneSpec.pre6 enc Try.prog Try.f5 Rows.frameNoneRow.domain false) (Rows.frameNoneSpec.post enc Try.prog Try.f5 false true false false) := by
  refine law_lift (C := Try.checked) (tb := 4) Try.own started (by kernel_rfl) Try.func5
    (ChangeSpec.witness6 (enc := enc) (C := Try.checked) false ⟨#[], #[.slice none 0 0], []⟩ 8 (by kernel_rfl) (by kernel_rfl) (by kernel_rfl) (by kernel_rfl)) Try.laidOut (by kernel_rfl) rfl rfl Try.underlying4 ?_ ?_
  · intro ds hds
    match ds, hds with
    | [_], _ => rfl
  intro W base args ds p hval0 hA0 _ _ hsz0
  have hval : ∀ (j : Nat) t v, Try.f5.params[j]? = some t → args[j]? = some v → Value.okWide Try.prog W .any base t v := hval0
  have hA : DataW.TrodAll enc Try.prog W 0 (fun _ => true) true Try.f5.params.toList args.toList ds p := hA0
  rw [Try.params5] at hA hval
  obtain ⟨v0, d0, rfl, rfl, h0⟩ := trodAll_one hA
  obtain ⟨A0, n0, cap0, l0, rfl, hrow0, hnc0, hcm0⟩ := open_bytes Try.underlying23 Try.underlying5 Try.cells5 (hval 0 23 v0 rfl rfl) h0
  exact none_walk A0 n0 cap0 l0 W hrow0 hnc0 hcm0

theorem frameNone_holds : Rows.FrameNoneSaid :=
  OpenClaim.holds_of_wide 5 Try.f5 rfl rfl rfl rfl rfl rfl rfl ⟨rfl, rfl, rfl, rfl, rfl⟩ rfl rfl rfl rfl rfl (by kernel_rfl) Try.func5 (by kernel_rfl)
    (of_decide_eq_true (by kernel_rfl)) (by unfold Func.isWrapper; rw [if_neg (of_decide_eq_false (by kernel_rfl))]; exact ⟨rfl, rfl⟩)
    (fun os started H enc _ => frameNone_lifted os started H enc)
end Go.Proofs.Ytknealemooanead
