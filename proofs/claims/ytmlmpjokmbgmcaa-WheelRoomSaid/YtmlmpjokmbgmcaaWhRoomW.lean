/- WheelRoom: the walk. -/
import Derived.Test.YtmlmpjokmbgmcaaWhFew
namespace Go.Proofs.Ytmlmpjokmbgmcaa
open Go.RowKit
/-- flash where generation g has filled all places from 0 to i -/
structure RmF (f : Fl) (g size i : Nat) : Prop where
  down : f.down = false
  there : f.there = false
  wear : f.wear = 100
  er : ∀ s, s < 8 → f.er (6 + s) = if s * (256 / (size + 13)) < i then (g : Int) else ((g - 1 : Nat) : Int)
  full : ∀ s, s < 8 → s * (256 / (size + 13)) < i → cntB f g size s = true
  rest : ∀ s, s < 8 → i ≤ s * (256 / (size + 13)) → if g = 0 then allFF (secB f s) = true else cntB f (g - 1) size s = true
theorem cnt_gen {f : Fl} {g g' size s : Nat} (h : cntB f g size s = true) (hg : g ≠ g') : cntB f g' size s = false := by
  have := (plB_yes h).2.2
  apply decide_eq_false
  rintro ⟨_, _, h3⟩
  exact hg (this.symm.trans h3)
theorem cnt_nb {f : Fl} {g size s : Nat} (h : cntB f g size s = true) (hs : size + 13 ≤ 256) : allFF (secB f s) = false := by
  cases e : allFF (secB f s) with
  | false => rfl
  | true =>
    have e2 : allFF (plAt (secB f s) (size + 13) 0) = true := by
      rw [plAt_sub f s _ 0 (by omega)]
      refine allFF_of fun q hq => ?_
      rw [f.sub_length] at hq
      rw [sub_get _ _ _ _ hq]
      have := sub_ff2 e q (by omega)
      rwa [show 256 * (6 + s) + 0 * (size + 13) + q = 256 * (6 + s) + q by omega]
    rw [show cntB f g size s = false from blank_no e2 (by rw [plAt_length (by rw [secB_length]; omega)]; omega)] at h
    cases h
theorem RmF.opened {f : Fl} {g size : Nat} (h : RmF f g size 0) (h1 : 1 ≤ size) (h2 : size ≤ 16) : opW f g size 8 = ⟨g, size, [], -1, 0⟩ :=
  opW_skip 8 (Nat.zero_le _) fun s _ hs => by
    have hr := h.rest s hs (Nat.zero_le _)
    by_cases hg : g = 0
    · rw [if_pos hg] at hr
      unfold cntB
      rw [plAt_sub f s _ 0 (by omega)]
      refine blank_no (allFF_of fun q hq => ?_) (by rw [f.sub_length]; omega)
      rw [f.sub_length] at hq
      rw [sub_get _ _ _ _ hq]
      have := sub_ff2 hr q (by omega)
      rwa [show 256 * (6 + s) + 0 * (size + 13) + q = 256 * (6 + s) + q by omega]
    · rw [if_neg hg] at hr
      exact cnt_gen hr (by omega)
theorem RmF.turn {f : Fl} {g size : Nat} (h : RmF f g size (8 * (256 / (size + 13)))) (h1 : 1 ≤ size) (h2 : size ≤ 16) : RmF f (g + 1) size 0 := by
  have hp := per_bounds h1 h2
  have hlt : ∀ s, s < 8 → s * (256 / (size + 13)) < 8 * (256 / (size + 13)) := fun s hs => Nat.mul_lt_mul_of_pos_right hs (by omega)
  refine ⟨h.down, h.there, h.wear, fun s hs => ?_, fun s _ hi => by omega, fun s hs _ => ?_⟩
  · rw [h.er s hs, if_pos (hlt s hs), if_neg (by omega)]; simp
  · rw [if_neg (by omega), show g + 1 - 1 = g by omega]; exact h.full s hs (hlt s hs)
theorem RmF.add {f : Fl} {g size i id : Nat} {d : List UInt8} (h : RmF f g size i) (h1 : 1 ≤ size) (h2 : size ≤ 16) (hd : d.length = size) (hg : g < 90) (hid : id < 4294967296) (hn : (opW f g size 8).next = i) (hi : i < 8 * (256 / (size + 13))) :
    ∃ f2, (opW f g size 8).add f id d = (opW f2 g size 8, f2, 0) ∧ RmF f2 g size (i + 1) ∧ (opW f2 g size 8).next = i + 1 ∧ (opW f2 g size 8).L.length = (opW f g size 8).L.length + 1 := by
  have hp := per_bounds h1 h2
  obtain ⟨S, hS⟩ : ∃ S, i / (256 / (size + 13)) = S := ⟨_, rfl⟩
  obtain ⟨j, hj⟩ : ∃ j, i % (256 / (size + 13)) = j := ⟨_, rfl⟩
  have hS8 : S < 8 := by rw [← hS]; exact Nat.div_lt_of_lt_mul (by rw [Nat.mul_comm]; exact hi)
  have hdm := Nat.div_add_mod i (256 / (size + 13))
  rw [hS, hj, Nat.mul_comm] at hdm
  have hjl : j < 256 / (size + 13) := by rw [← hj]; exact Nat.mod_lt _ (by omega)
  have hrd : (opW f g size 8).ready = (S : Int) ∨ ((opW f g size 8).ready ≠ (S : Int) ∧ j = 0) := by
    by_cases e : (opW f g size 8).ready = (S : Int)
    · exact .inl e
    · rcases begin_zero (S := S) (j := j) h1 h2 (by rw [hn]; exact hS) (by rw [hn]; exact hj) e with ⟨q, _⟩ | q
      · exact .inr ⟨e, q⟩
      · omega
  have hcase := add_cases (f := f) (gen := g) (size := size) (S := S) (j := j) (id := id) (d := d) h1 h2 hd (by omega) hid h.down (by rw [hn]; exact hi) (by rw [hn]; exact hS) (by rw [hn]; exact hj)
  have hmono : ∀ s, s < S → s * (256 / (size + 13)) < S * (256 / (size + 13)) := fun s hs => Nat.mul_lt_mul_of_pos_right hs (by omega)
  have hmono2 : ∀ s, S < s → S * (256 / (size + 13)) + 256 / (size + 13) ≤ s * (256 / (size + 13)) := fun s hs => by
    have := Nat.mul_le_mul_right (256 / (size + 13)) hs
    rwa [Nat.succ_mul] at this
  rcases hcase with ⟨f2, a1, a2, a3, a4, a5⟩ | ⟨a0, _⟩ | ⟨_, b2, b3, b4⟩
  · refine ⟨f2, a1, ⟨a4, a5 h.there, a3.wear.trans h.wear, fun s hs => ?_, fun s hs hsi => ?_, fun s hs hsi => ?_⟩, by rw [a2]; show (opW f g size 8).next + 1 = _; rw [hn], by rw [a2]; simp⟩
    · rw [a3.er]
      unfold erW
      rcases hrd with e | ⟨e, hj0⟩
      · rw [if_pos (.inl e.symm), h.er s hs]
        by_cases q : s * (256 / (size + 13)) < i
        · rw [if_pos q, if_pos (by omega)]
        · rw [if_neg q]
          by_cases q2 : s * (256 / (size + 13)) < i + 1
          · exfalso
            have hst := opW_state f g size h1 h2
            rcases hst with ⟨c1, _⟩ | ⟨r, i0, c1, c2, c3, c4, c5, c6, c7, c8⟩
            · rw [c1] at e
              have : (-1 : Int) = (S : Int) := e
              omega
            · rw [c6] at e
              have hrS : r = S := Int.ofNat.inj e
              rw [hn, hrS] at c7
              have hsS : s = S := by
                rcases Nat.lt_trichotomy s S with q3 | q3 | q3
                · have := hmono s q3; omega
                · exact q3
                · have := hmono2 s q3; omega
              rw [hsS] at q
              omega
          · rw [if_neg q2]
      · by_cases hg0 : g = 0
        · have hbl := h.rest S hS8 (by omega)
          rw [if_pos hg0] at hbl
          rw [if_pos (.inr hbl), h.er s hs, hg0]
          split <;> split <;> simp
        · have hnbl := h.rest S hS8 (by omega)
          rw [if_neg hg0] at hnbl
          have hff := cnt_nb hnbl (by omega)
          rw [if_neg (by rw [hff]; simp; exact fun q => e q.symm)]
          unfold erUp
          by_cases hsS : s = S
          · rw [if_pos (by omega), hsS, h.er S hS8, if_neg (by omega), if_pos (by omega)]
            omega
          · rw [if_neg (by omega), h.er s hs]
            rcases Nat.lt_or_gt_of_ne hsS with q | q
            · have := hmono s q
              rw [if_pos (by omega), if_pos (by omega)]
            · have := hmono2 s q
              rw [if_neg (by omega), if_neg (by omega)]
    · by_cases hsS : s = S
      · rcases opW_state f2 g size h1 h2 with ⟨c1, _⟩ | ⟨r, i0, c1, c2, c3, c4, c5, c6, c7, c8⟩
        · rw [c1] at a2
          have : (-1 : Int) = (S : Int) := congrArg Wh.ready a2
          omega
        · rw [a2] at c6
          have hrS : r = S := (Int.ofNat.inj (show (S : Int) = (r : Int) from c6)).symm
          rw [hsS, ← hrS]; exact c3
      · have hlt : s < S := by
          rcases Nat.lt_or_gt_of_ne hsS with q | q
          · exact q
          · have := hmono2 s q; omega
        have := h.full s hs (by have := hmono s hlt; omega)
        unfold cntB at this ⊢
        rw [a3.out.sec hsS]; exact this
    · have hsS : s ≠ S := fun q => by rw [q] at hsi; omega
      have := h.rest s hs (by omega)
      unfold cntB at this ⊢
      rw [a3.out.sec hsS]; exact this
  · rw [h.there] at a0; cases a0
  · exfalso
    rw [h.wear, h.er S hS8] at b2
    split at b2 <;> omega
set_option maxRecDepth 100000 in
set_option maxHeartbeats 12800000 in
theorem wroom_walk (x0 : Int) (_ : -9223372036854775808 ≤ x0) (_ : x0 ≤ 9223372036854775807) (x1 : Int) (_ : -9223372036854775808 ≤ x1) (_ : x1 ≤ 9223372036854775807) (w : World) :
    Calls Try.prog 11 #[.int .i64 x0, .int .i64 x1] w fun e w' => e = .returned (.bool true) ∧ Below w.heap.size w w' := by
  obtain ⟨i0, hi, hz0, hz1, hz2⟩ := info_parts Try.info5
  obtain ⟨p, hp, hnp⟩ := pick_in x0 16 (by omega) (by omega)
  obtain ⟨size, hn⟩ : ∃ n : Nat, n = p + 1 := ⟨_, rfl⟩
  have hs1 : 1 ≤ size := by omega
  have hs2 : size ≤ 16 := by omega
  obtain ⟨q, hq, hdq⟩ := pick_in x1 3 (by omega) (by omega)
  obtain ⟨gens, hd⟩ : ∃ d : Nat, d = q + 1 := ⟨_, rfl⟩
  have hg3 : gens ≤ 3 := by omega
  have HW1 : Hid (wrap64 (1 + (p : Int)) = (size : Int)) := by show _ = _; rw [IntWalk.wrap64_in _ ⟨by omega, by omega⟩]; omega
  have HW2 : Hid (wrap64 (1 + (q : Int)) = (gens : Int)) := by show _ = _; rw [IntWalk.wrap64_in _ ⟨by omega, by omega⟩]; omega
  have HNP := Lib.hid hnp
  have HDQ := Lib.hid hdq
  have hpb := per_bounds hs1 hs2
  obtain ⟨pr, hpr⟩ : ∃ pr, 256 / (size + 13) = pr := ⟨_, rfl⟩
  have HPR := Lib.hid hpr
  rw [hpr] at hpb
  obtain ⟨wd, hwd⟩ : ∃ wd, wd = size + 13 := ⟨_, rfl⟩
  have HWDI : Hid ((size : Int) + 13 = (wd : Int)) := by show _ = _; omega
  have HQ : Hid ((256 : Int) / (wd : Int) = (pr : Int)) := by
    show _ = _
    rw [hwd, ← hpr]; rfl
  have hwn0 : ¬ (wd : Int) = 0 := by omega
  clear hnp hdq hp hq hn hd hpr hwd
  go_enter Try.func11, Try.ntmps11
  go_upto_region 2 with (first | rw [HNP.out] | rw [HW1.out] | rw [HDQ.out] | rw [HW2.out])
  clear HNP HW1 HDQ HW2
  go_wp2_with fail
  refine (new_any 100 w (by omega)).mono ?_
  rintro e w1 ⟨gf, rfl, hgf, hf, hb⟩
  have HOK0 := Lib.hid (new_ok 100 (by decide))
  have HRM0 : Hid (RmF ((flNew 100).fill 0 3584) 0 size 0) := ⟨rfl, rfl, rfl, (fun s _ => by split <;> rfl), (fun s _ h => by omega), fun s hs _ => by
    rw [if_pos rfl]
    refine allFF_of fun q hq => ?_
    rw [secB_length] at hq
    unfold secB
    rw [sub_get _ _ _ _ hq]
    show (if _ then (255 : UInt8) else _) = 255
    rw [if_pos (by omega)]⟩
  generalize (flNew 100).fill 0 3584 = f0 at *
  have HF0 := Lib.hid hf.out
  have HB0 := Lib.hid hb.out
  have HGF := Lib.hid hgf
  obtain ⟨al, hal⟩ : ∃ al, 8 * pr = al := ⟨_, rfl⟩
  have HAL : Hid ((pr : Int) * 8 = (al : Int)) := by show _ = _; omega
  have hal144 : al ≤ 144 := by omega
  have HALN := Lib.hid hal
  have hpri : (pr : Int) ≤ 18 := by omega
  have hszi : (size : Int) ≤ 16 := by omega
  clear hf hb hal hgf
  go_upto_region 4 with (first | rw [HWDI.out] | rw [HQ.out] | rw [HAL.out])
  clear HWDI HQ hwn0
  go_wp2_with (rw [HAL.out])
  go_loopw [28] (fun i wr => ∃ (g : Nat) (f : Fl), g ≤ gens ∧ i = .int .i64 g ∧ Hid (FlAt wr gf f) ∧ Hid (f.Ok (60000 * g)) ∧ Hid (RmF f g size 0) ∧ Hid (Below w.heap.size w wr)) (fun i _ => gens - (intOf i).toNat)
  case atStart => exact ⟨0, f0, by omega, rfl, HF0, HOK0, HRM0, HB0⟩
  case round =>
    clear HF0 HOK0 HRM0 HB0
    obtain ⟨g, f, hg, rfl, hf, hok, hrm, hb⟩ := hrel
    by_cases hlt : g < gens
    · have hgi : (g : Int) < (gens : Int) := by omega
      have hg2 : (g : Int) ≤ 2 := by omega
      have hu : IntKind.u32.wrap (g : Int) = (g : Int) := by rw [IntKind.wrap_u32]; omega
      obtain ⟨wq, rfl⟩ : ∃ wq : World, wq = wr := ⟨_, rfl⟩
      have HOP := Lib.hid (open_wo w gf g size (size : Int) rfl f _ wq hf.out hok.out hrm.out.down hs1 hs2 hb.out HGF.out)
      have hop := hrm.out.opened hs1 hs2
      have HOPE := Lib.hid hop
      clear hf hok hb
      go_wp2_with fail
      refine HOP.out.mono ?_
      rintro e w2 ⟨gw, rfl, hw2, hb2⟩
      have HOKX := Lib.hid (opW_ok f g size (by omega) hs1 hs2)
      have hr0 : (opW f g size 8).room = al := by
        rw [hop]
        show 8 * (256 / (size + 13)) - 0 = al
        rw [HPR.out, HALN.out]; rfl
      have HRO := Lib.hid (wroom_any hw2.out.wh HOKX.out)
      rw [hr0] at HRO
      have hL0 : (opW f g size 8).L = [] := by rw [hop]
      have HRC := Lib.hid (fun q => recs_any _ gw gf (opW f g size 8) (w2.drewN q) (hw2.out.wh.below (drewN_below w2 q)) (fun p hp => by rw [hL0] at hp; cases hp) (by rw [hL0]; exact Nat.zero_le _))
      rw [hL0] at HRC
      have hnn : ((al : Int) != (al : Int)) = false := bne_self_eq_false _
      have HN0 : Hid ((opW f g size 8).next = 0 ∧ (opW f g size 8).L.length = 0) := by
        rw [hop]; exact ⟨rfl, rfl⟩
      clear HOP hop hb2 hr0 hL0
      go_wp2_with fail
      refine HRO.out.mono ?_
      rintro e w3 ⟨rfl, q3, rfl⟩
      go_wp2_with fail
      refine (HRC.out q3).mono ?_
      rintro e w4 ⟨A4, n4, c4, es4, rfl, hr4, hm4, hb4⟩
      have hn4 : n4 = 0 := by
        rw [← hr4.out.2.2.1]
        have := hm4.out
        simpa using congrArg List.length this
      subst hn4
      have HW4 := Lib.hid (hw2.out.below ((drewN_below w2 q3).trans hb4.out))
      clear hr4 hm4 HRO HRC hw2
      go_wp2_with fail
      go_loopw [54] (fun i wr => ∃ (k : Nat) (f : Fl) (P : Nat → Prop), k ≤ al ∧ i = .int .i64 k ∧ Hid (WO w P gw gf (opW f g size 8) f (60000 * g + 400 * k) wr) ∧ Hid (RmF f g size k) ∧ Hid ((opW f g size 8).next = k ∧ (opW f g size 8).L.length = k)) (fun i _ => al - (intOf i).toNat)
      case atStart => exact ⟨0, f, _, by omega, rfl, by simpa using HW4, hrm, HN0⟩
      case round =>
        clear HW4 hrm HN0 HOKX HOPE hb4
        obtain ⟨k, f, P, hk, rfl, hwo, hrm, hnn2⟩ := hrel
        by_cases hlt2 : k < al
        · have hki : (k : Int) < (al : Int) := by omega
          have hk144 : (k : Int) ≤ 143 := by omega
          have hu2 : IntKind.u32.wrap (k : Int) = (k : Int) := by rw [IntKind.wrap_u32]; omega
          obtain ⟨wp, rfl⟩ : ∃ wp : World, wp = wr := ⟨_, rfl⟩
          obtain ⟨f2, e1, e2, e3, e4⟩ := hrm.out.add (id := k) (d := List.replicate size 0) hs1 hs2 (by simp) (by omega) (by omega) hnn2.out.1 (by have := HPR.out; have := HALN.out; rw [HPR.out]; omega)
          have HE1 := Lib.hid e1
          have HRM2 := Lib.hid e2
          have HN2 : Hid ((opW f2 g size 8).next = k + 1 ∧ (opW f2 g size 8).L.length = k + 1) := ⟨e3, by rw [e4, hnn2.out.2]⟩
          have HOKA := Lib.hid (opW_ok f g size (by omega) hs1 hs2)
          have HOKB := Lib.hid (opW_ok f2 g size (by omega) hs1 hs2)
          have hr2 : (opW f2 g size 8).room = al - 1 - k := by
            unfold Wh.room Wh.per
            rw [opW_size, HPR.out, HN2.out.1, HALN.out]
            omega
          have HR2 : Hid (((opW f2 g size 8).room : Int) = (al : Int) - 1 - (k : Int)) := by show _ = _; rw [hr2]; omega
          have hnb : (((al : Int) - 1 - (k : Int)) != ((al : Int) - 1 - (k : Int))) = false := bne_self_eq_false _
          clear e1 e2 e3 e4 hrm hnn2 hr2
          go_wp2_with (at_make; refine wpList_make_full wp rfl _ _ 27 rfl wp.heap.size 5 i0 (.int .u8 0) 1 Try.underlying27 hi hz0 hz1 .i64 .i64 _ _ size rfl rfl rfl rfl (by rw [hz2]; omega) (by unfold maxLen; omega) (Nat.le_refl _) ?_; intro w5 hown5 hg5)
          have hb5 : Below wp.heap.size wp w5 := (Below.refl _ _).grown hg5 (Nat.le_refl _) (by intro g h; cases h)
          rw [made_zero] at hown5
          have HAD := Lib.hid (wadd_w w P gw gf k w5.heap.size size size _ (opW f g size 8) _ f _ w5 (hwo.out.below hb5) HOKA.out (by omega) (Row.of_own hown5) (by omega) (fun b o e _ => by
            injection e with e
            injection e with e
            have h1 := hwo.out.fl.lt
            exact ⟨by omega, fun h => by have := (hwo.out.P b h).2; omega⟩) (Nat.le_refl _) (by omega))
          rw [HE1.out] at HAD
          clear hown5 hg5 hb5 hwo HOKA
          refine HAD.out.mono ?_
          rintro e w6 ⟨rfl, hw6, hfr6⟩
          dsimp only at hw6 ⊢
          have HRO := Lib.hid (wroom_any (h := opW f2 g size 8) hw6.out.wh HOKB.out)
          rw [HR2.out] at HRO
          clear HAD hfr6
          go_wp2_with fail
          refine HRO.out.mono ?_
          rintro e w7 ⟨rfl, q7, rfl⟩
          have HW7 := Lib.hid (hw6.out.below (drewN_below w6 q7))
          clear hw6 HRO HR2
          go_wp2_with fail
          go_roundw
          case rel => exact ⟨k + 1, f2, _, by omega, by go_num, by have := HW7.out; rwa [show (60000 : Int) * g + 400 * k + 400 = 60000 * g + 400 * ((k + 1 : Nat) : Int) by push_cast; omega] at this, HRM2, HN2⟩
          case measure => simp [intOf]; omega
        · obtain rfl : k = al := by omega
          obtain ⟨wp, rfl⟩ : ∃ wp : World, wp = wr := ⟨_, rfl⟩
          have HOKA := Lib.hid (opW_ok f g size (by omega) hs1 hs2)
          have hfull : (opW f g size 8).add f 1 (List.replicate size 0) = (opW f g size 8, f, 9) := by
            unfold Wh.add Wh.per
            rw [opW_size, if_pos (by simp), if_pos (by rw [hnn2.out.1, HPR.out, HALN.out])]
          have HFUL := Lib.hid hfull
          have hk88 : k = 8 * (256 / (size + 13)) := by rw [HPR.out, HALN.out]
          have hrm3 := hrm.out
          rw [hk88] at hrm3
          have HRM3 := Lib.hid (hrm3.turn hs1 hs2)
          have HERS : Hid (∀ s, s < 8 → f.er (6 + s) = (g : Int)) := fun s hs => by
            rw [hrm3.er s hs, if_pos (Nat.mul_lt_mul_of_pos_right hs (by rw [HPR.out]; omega))]
          have HLK := Lib.hid hnn2.out.2
          have hlen := opW_reclen f g size hs1 hs2 8 (by omega)
          have HRCB := Lib.hid (fun (P' : Nat → Prop) (W : World) (hW : WhAt P' gw gf (opW f g size 8) W) => recs_any P' gw gf (opW f g size 8) W hW (fun p hp => by have := hlen p hp; omega) (by have := HLK.out; omega))
          clear hfull hrm3 hlen hrm hnn2 hk88
          go_wp2_with (at_make; refine wpList_make_full wp rfl _ _ 27 rfl wp.heap.size 5 i0 (.int .u8 0) 1 Try.underlying27 hi hz0 hz1 .i64 .i64 _ _ size rfl rfl rfl rfl (by rw [hz2]; omega) (by unfold maxLen; omega) (Nat.le_refl _) ?_; intro w5 hown5 hg5)
          have hb5 : Below wp.heap.size wp w5 := (Below.refl _ _).grown hg5 (Nat.le_refl _) (by intro g h; cases h)
          rw [made_zero] at hown5
          have HAD := Lib.hid (wadd_w w P gw gf 1 w5.heap.size size size _ (opW f g size 8) _ f _ w5 (hwo.out.below hb5) HOKA.out (by omega) (Row.of_own hown5) (by omega) (fun b o e _ => by
            injection e with e
            injection e with e
            have h1 := hwo.out.fl.lt
            exact ⟨by omega, fun h => by have := (hwo.out.P b h).2; omega⟩) (Nat.le_refl _) (by omega))
          rw [HFUL.out] at HAD
          clear hown5 hg5 hb5 hwo HOKA HFUL
          refine HAD.out.mono ?_
          rintro e w6 ⟨rfl, hw6, hfr6⟩
          dsimp only at hw6 ⊢
          have HRC := Lib.hid (HRCB.out _ w6 hw6.out.wh)
          clear HAD hfr6 HRCB
          go_wp2_with fail
          refine HRC.out.mono ?_
          rintro e w7 ⟨A7, n7, c7, es7, rfl, hr7, hm7, hb7⟩
          obtain rfl : n7 = k := by
            rw [← hr7.out.2.2.1, ← HLK.out, ← hm7.out]; simp
          have hkk : ((n7 : Int) != (n7 : Int)) = false := bne_self_eq_false _
          have HW7 := Lib.hid (hw6.out.below hb7.out)
          clear hr7 hm7 HRC hw6 hb7 HLK
          go_wp2_with fail
          go_loopw [86] (fun i wr => ∃ s : Nat, s ≤ 8 ∧ i = .int .i64 s ∧ w7 = wr) (fun i _ => 8 - (intOf i).toNat)
          case atStart => exact ⟨0, by omega, rfl, rfl⟩
          case round =>
            obtain ⟨s, hs, rfl, rfl⟩ := hrel
            by_cases hlt3 : s < 8
            · have hse := HERS.out s hlt3
              have HER := Lib.hid (erases_any gf (6 + s) f w7 HW7.out.fl (by omega))
              rw [hse] at HER
              have hsi : (s : Int) ≤ 7 := by omega
              have HSI : Hid ((6 : Int) + (s : Int) = ((6 + s : Nat) : Int)) := by show _ = _; omega
              have hgg : ((g : Int) != (g : Int)) = false := bne_self_eq_false _
              clear hse
              go_wp2_with (rw [HSI.out])
              refine HER.out.mono ?_
              rintro e w' ⟨rfl, rfl⟩
              go_wp2_with fail
              go_roundw
              case rel => exact ⟨s + 1, by omega, by go_num, by trivial⟩
              case measure => simp [intOf]; omega
            · obtain rfl : s = 8 := by omega
              have HK : Hid (f.Ok (60000 * ((g + 1 : Nat) : Int))) := HW7.out.ok.more (by push_cast; omega)
              have HF7 := Lib.hid HW7.out.fl
              have HB7 := Lib.hid HW7.out.b
              clear HW7 HERS
              go_wp2_with fail
              go_roundw
              case rel => exact ⟨g + 1, f, by omega, by go_num, HF7, HK, HRM3, HB7⟩
              case measure => simp [intOf]; omega
    · obtain rfl : gens = g := by omega
      go_wp2_with fail
      refine (awake18_any wr).mono ?_
      rintro e w3 ⟨rfl, hb3⟩
      go_wp2_with fail
      go_ret
      exact ⟨rfl, hb.out.trans (hb3.out.mono hb.out.size)⟩
end Go.Proofs.Ytmlmpjokmbgmcaa
