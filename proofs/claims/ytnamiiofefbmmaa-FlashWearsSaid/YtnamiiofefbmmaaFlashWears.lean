/- FlashWears: a sector can be erased so often, and no more; others still can. For every input, no condition. -/
import Derived.Test.YtnamiiofefbmmaaFlAwake
import Derived.Test.YtnamiiofefbmmaaLaw
namespace Go.Proofs.Ytnamiiofefbmmaa
open Go.ChangeShapes Go.WideShapes Go.ChangeAt Go.RowKit
/-- sector s was erased j times, no other one; there is no fuse -/
def Wst (f : Fl) (m : Int) (s j : Nat) : Prop :=
  f.er s = j ∧ (∀ i, i ≠ s → f.er i = 0) ∧ f.there = false ∧ f.down = false ∧ f.wear = m ∧ f.steps = j ∧ f.left = 0
theorem Wst.first (m : Int) (s : Nat) : Wst ((flNew m).fill 0 3584) m s 0 := ⟨rfl, fun _ _ => rfl, rfl, rfl, rfl, rfl, rfl⟩
theorem erase_free {f : Fl} (s : Nat) (hw : f.er s < f.wear) (ht : f.there = false) : f.erase s = ((f.wearUp s).tick.fill (256 * s) 256, 0) := by
  have h1 : (f.wearUp s).stepB = true := by unfold Fl.stepB Fl.wearUp; rw [ht]; rfl
  have h2 : (f.wearUp s).stepF = (f.wearUp s).tick := by
    unfold Fl.stepF
    rw [if_neg (by show ¬ f.there = true; rw [ht]; decide)]
  unfold Fl.erase
  rw [if_neg (by omega), if_pos h1, h2]
theorem Wst.next {f : Fl} {m : Int} {s j : Nat} (h : Wst f m s j) (hj : (j : Int) < m) : ∃ f', f.erase s = (f', 0) ∧ Wst f' m s (j + 1) := by
  obtain ⟨h1, h2, h3, h4, h5, h6, h7⟩ := h
  refine ⟨_, erase_free s (by rw [h1, h5]; exact hj) h3, ?_, ?_, h3, h4, h5, ?_, h7⟩
  · show (if s = s then f.er s + 1 else f.er s) = _
    rw [if_pos rfl, h1]; omega
  · intro i hi
    show (if i = s then f.er s + 1 else f.er i) = 0
    rw [if_neg hi]; exact h2 i hi
  · show f.steps + 1 = _
    rw [h6]; omega
theorem Wst.end_ {f : Fl} {m : Int} {s j : Nat} (h : Wst f m s j) (hj : m ≤ (j : Int)) : f.erase s = (f, 10) := by
  obtain ⟨h1, h2, h3, h4, h5, h6, h7⟩ := h
  unfold Fl.erase
  rw [if_pos (by rw [h1, h5]; exact hj)]
theorem Wst.other {f : Fl} {m : Int} {s j s' : Nat} (h : Wst f m s j) (hm : 1 ≤ m) (hs : s' ≠ s) : ∃ f', f.erase s' = (f', 0) ∧ f'.steps = j + 1 := by
  obtain ⟨h1, h2, h3, h4, h5, h6, h7⟩ := h
  refine ⟨_, erase_free s' (by rw [h2 s' hs, h5]; omega) h3, ?_⟩
  show f.steps + 1 = _
  rw [h6]
theorem Wst.call {f : Fl} {m : Int} {s j s' g : Nat} (h : Wst f m s j) (hm : m ≤ 100) (hj : j ≤ 1000) (hs : s' < 14) (w : World) (hf : FlAt w g f) (si : Int) (hsi : si = (s' : Int)) :
    Calls Try.prog 18 #[.pointer (some ⟨g, 0, none⟩), .int .i64 si] w (ProgOk g (f.erase s') w) := by
  obtain ⟨h1, h2, h3, h4, h5, h6, h7⟩ := h
  subst hsi
  refine erase_ok g s' f w hf h4 hs ?_ (by rw [h5]; omega) (by rw [h6]; omega) (by rw [h6]; omega) (by rw [h7]; omega)
  by_cases e : s' = s
  · rw [e, h1]; omega
  · rw [h2 s' e]; omega
set_option maxHeartbeats 3200000 in
theorem wears_walk (x : Int) (_ : -9223372036854775808 ≤ x) (_ : x ≤ 9223372036854775807) (y : Int) (_ : -9223372036854775808 ≤ y) (_ : y ≤ 9223372036854775807) (w : World) :
    Calls Try.prog 7 #[.int .i64 x, .int .i64 y] w fun e w' => e = .returned (.bool true) ∧ Below w.heap.size w w' := by
  obtain ⟨k, hk, hK⟩ := pick_in x 50 (by omega) (by omega)
  obtain ⟨s, hs, hS⟩ := pick_in y 14 (by omega) (by omega)
  have HK := Lib.hid hK
  have HS := Lib.hid hS
  clear hK hS
  rename_i q1 q2 q3 q4
  clear q1 q2 q3 q4
  go_enter Try.func7, Try.ntmps7
  go_wp2_with (first | rw [HK.out] | rw [HS.out])
  refine (new_any (1 + (k : Int)) w ⟨by omega, by omega⟩).mono ?_
  rintro e w1 ⟨g, rfl, hg, hf, hb⟩
  have hW := Lib.hid (Wst.first (1 + (k : Int)) s)
  generalize (flNew (1 + (k : Int))).fill 0 3584 = f0 at *
  go_wp2_with fail
  go_loopw [18] (fun i wr => ∃ (j : Nat) (fj : Fl), (j : Int) ≤ 1 + k ∧ i = .int .i64 j ∧ Hid (FlAt wr g fj) ∧ Hid (Wst fj (1 + (k : Int)) s j) ∧ Hid (Below w.heap.size w wr)) (fun i _ => (1 + (k : Int)).toNat - (intOf i).toNat)
  case atStart => exact ⟨0, f0, by omega, rfl, hf, hW, hb⟩
  case round =>
    clear hf hW hb
    obtain ⟨j, fj, hj, rfl, hf, hW, hb⟩ := hrel
    by_cases hlt : (j : Int) < 1 + k
    · obtain ⟨f2, hE, hW2⟩ := hW.out.next hlt
      have hcall := hW.out.call (s' := s) (by omega) (by omega) (by omega) wr hf.out (s : Int) rfl
      rw [hE] at hcall
      have HC := Lib.hid hcall
      have HW2 := Lib.hid hW2
      clear hcall hW2 hE hW
      go_wp2_with fail
      refine HC.out.mono ?_
      rintro e w2 ⟨rfl, hd⟩
      have HF := Lib.hid hd.out.1
      have HB := Lib.hid (hb.out.grown hd.out.2 hb.out.size (by intro k h; injection h with h; omega))
      clear hd hf hb HC
      go_wp2_with fail
      go_roundw
      case rel => exact ⟨j + 1, f2, by omega, by go_num, HF, HW2, HB⟩
      case measure => simp [intOf]; omega
    · have hjk : (j : Int) = 1 + k := by omega
      have hE1 := hW.out.end_ (by omega)
      have hs' : (s + 1) % 14 < 14 := by omega
      have hne : (s + 1) % 14 ≠ s := by omega
      obtain ⟨f3, hE2, hst⟩ := hW.out.other (by omega) hne
      have hcall1 := hW.out.call (s' := s) (by omega) (by omega) (by omega) wr hf.out (s : Int) rfl
      have her := hW.out.1
      rw [hE1] at hcall1
      have HC1 := Lib.hid hcall1
      have HC2 := Lib.hid (fun w' (hw : FlAt w' g fj) => hW.out.call (s' := (s + 1) % 14) (by omega) (by omega) hs' w' hw (((s : Int) + 1) % 14) (by omega))
      rw [hE2] at HC2
      have HER := Lib.hid (fun w' (hw : FlAt w' g fj) => erases_any g s fj w' hw (by omega))
      rw [her, hjk] at HER
      rw [hjk] at hst
      have HST := Lib.hid hst
      clear hcall1 hE1 hE2 hst her hjk hW
      go_wp2_with fail
      refine HC1.out.mono ?_
      rintro e w2 ⟨rfl, hd⟩
      have HF2 := Lib.hid hd.out.1
      have HB2 := Lib.hid (hb.out.grown hd.out.2 hb.out.size (by intro k h; injection h with h; omega))
      clear hd hf hb HC1
      go_wp2_with fail
      refine (HER.out w2 HF2.out).mono ?_
      rintro e w' ⟨rfl, rfl⟩
      go_wp2_with fail
      refine (HC2.out w2 HF2.out).mono ?_
      rintro e w3 ⟨rfl, hd⟩
      have HF3 := Lib.hid hd.out.1
      have HB3 := Lib.hid (HB2.out.grown hd.out.2 HB2.out.size (by intro k h; injection h with h; omega))
      clear hd HF2 HB2 HC2 HER
      go_wp2_with fail
      refine (steps_any g f3 w3 HF3.out).mono ?_
      rw [HST.out]
      rintro e w' ⟨rfl, rfl⟩
      go_wp2_with fail
      refine (awake16_any _).mono ?_
      rintro e w4 ⟨rfl, hb4⟩
      go_wp2_with fail
      go_ret
      exact ⟨rfl, HB3.out.trans (hb4.mono HB3.out.size)⟩

set_option maxRecDepth 100000 in
theorem flashWears_lifted (os : Os) (started : os.Started) (H : Type) (enc : TypeId × Value → H) :
    ReturnsInHanded {} Try.checked os 7 .any (Rows.flashWearsSpec.pre6 enc Try.prog Try.f7 Rows.flashWearsRow.domain false) (Rows.flashWearsSpec.post enc Try.prog Try.f7 false true false false) := by
  refine law_lift (C := Try.checked) (tb := 4) Try.own started (by kernel_rfl) Try.func7
    (ChangeSpec.witness6 (enc := enc) (C := Try.checked) false ⟨#[], #[.int .i64 0, .int .i64 0], []⟩ 8 (by kernel_rfl) (by kernel_rfl) (by kernel_rfl) (by kernel_rfl)) Try.laidOut (by kernel_rfl) rfl rfl Try.underlying4 ?_ ?_
  · intro ds hds
    match ds, hds with
    | [_, _], _ => rfl
  intro W base args ds p hval0 hA0 _ _ hsz0
  have hval : ∀ (j : Nat) t v, Try.f7.params[j]? = some t → args[j]? = some v → Value.okWide Try.prog W .any base t v := hval0
  have hA : DataW.TrodAll enc Try.prog W 0 (fun _ => true) true Try.f7.params.toList args.toList ds p := hA0
  rw [Try.params7] at hA hval
  obtain ⟨v0, v1, d0, d1, p0, p1, rfl, rfl, rfl, h0, h1⟩ := trodAll_two hA
  obtain ⟨x0, rfl, hx0, hy0⟩ := open_i64 Try.underlying3 (hval 0 3 v0 rfl rfl) h0
  obtain ⟨x1, rfl, hx1, hy1⟩ := open_i64 Try.underlying3 (hval 1 3 v1 rfl rfl) h1
  exact wears_walk x0 hx0 hy0 x1 hx1 hy1 W 

theorem flashWears_holds : Rows.FlashWearsSaid :=
  OpenClaim.holds_of_wide 7 Try.f7 rfl rfl rfl rfl rfl rfl rfl ⟨rfl, rfl, rfl, rfl, rfl⟩ rfl rfl rfl rfl rfl (by kernel_rfl) Try.func7 (by kernel_rfl)
    (of_decide_eq_true (by kernel_rfl)) (by unfold Func.isWrapper; rw [if_neg (of_decide_eq_false (by kernel_rfl))]; exact ⟨rfl, rfl⟩)
    (fun os started H enc _ => flashWears_lifted os started H enc)
end Go.Proofs.Ytnamiiofefbmmaa
