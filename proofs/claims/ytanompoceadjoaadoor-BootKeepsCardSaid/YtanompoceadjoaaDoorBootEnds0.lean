/- BootEnds' walk. -/
import Derived.Test.YtanompoceadjoaaDoorBootConf
namespace Go.Proofs.YtanompoceadjoaaDoor
open Go.RowKit Sh
theorem start_may {L : LSt} (h : L.may = true) : L.start.may = true := by
  unfold LSt.start
  by_cases t0 : L.trial = 0
  · rw [if_pos t0]; exact h
  rw [if_neg t0]
  unfold LSt.may mayB2 at h ⊢
  simp only [Bool.and_eq_true, decide_eq_true_eq] at h ⊢
  obtain ⟨⟨⟨h1, h2, h3⟩, hm⟩, hs⟩ := h
  have hf : filledB L.l0 L.h0.length = true ∧ filledB L.l1 L.h1.length = true := by
    split at hs <;> simp only [Bool.and_eq_true, Bool.or_eq_true, decide_eq_true_eq] at hs
    · exact ⟨hs.1, hs.2.resolve_right fun h => t0 h.1⟩
    · exact ⟨hs.2.resolve_right fun h => t0 h.1, hs.1⟩
  refine ⟨⟨⟨by split <;> omega, by omega, by omega⟩, hm⟩, ?_⟩
  rw [hf.1, hf.2]
  simp
def LSt.starts (L : LSt) : Nat → LSt
  | 0 => L
  | n + 1 => (L.starts n).start
theorem starts_may {L : LSt} (h : L.may = true) : ∀ n, (L.starts n).may = true
  | 0 => h
  | n + 1 => start_may (starts_may h n)
theorem starts_is {L : LSt} (h0 : 0 ≤ L.trial) : ∀ n : Nat, (L.starts n).flo = L.flo ∧ (L.starts n).trial = (if L.trial ≤ (n : Int) then 0 else L.trial - n) ∧ (L.starts n).act = (if 0 < L.trial ∧ L.trial ≤ (n : Int) then 1 - L.act else L.act)
  | 0 => by
    refine ⟨rfl, ?_, ?_⟩
    · show L.trial = _
      split <;> omega
    · show L.act = _
      rw [if_neg (by omega)]
  | n + 1 => by
    obtain ⟨hf, ht, ha⟩ := starts_is h0 n
    have e : L.starts (n + 1) = (L.starts n).start := rfl
    by_cases c : (L.starts n).trial = 0
    · rw [e, LSt.start, if_pos c]
      rw [c] at ht
      have hle : L.trial ≤ (n : Int) := by
        by_cases q : L.trial ≤ (n : Int)
        · exact q
        · rw [if_neg q] at ht; omega
      refine ⟨hf, ?_, ?_⟩
      · rw [c, if_pos (by omega)]
      · rw [ha]
        by_cases q : 0 < L.trial
        · rw [if_pos ⟨q, hle⟩, if_pos ⟨q, by omega⟩]
        · rw [if_neg (fun h => q h.1), if_neg (fun h => q h.1)]
    · rw [e, LSt.start, if_neg c]
      have hgt : ¬ L.trial ≤ (n : Int) := fun q => c (by rw [ht, if_pos q])
      rw [if_neg hgt] at ht
      rw [if_neg (fun h => hgt h.2)] at ha
      refine ⟨hf, ?_, ?_⟩
      · show (L.starts n).trial - 1 = _
        rw [ht]; split <;> omega
      · show (if (L.starts n).trial = 1 then 1 - (L.starts n).act else (L.starts n).act) = _
        rw [ht, ha]
        by_cases q : L.trial - n = 1
        · rw [if_pos q, if_pos (by omega)]
        · rw [if_neg q, if_neg (by omega)]
/-- between two starts: in box g9 the state after j of them -/
structure EI (w : World) (g9 : Nat) (cs : Array Value) (L : LSt) (j : Nat) (W : World) : Prop where
  b : Below w.heap.size w W
  xs : W.heap[w.heap.size]? = some (.cells cs 30 (0, 0))
  z : ∃ c, W.heap[g9]? = some (.cells c 30 (0, 0)) ∧ IsSt W (fun b => b ≠ g9) c (L.starts j)
set_option maxRecDepth 100000 in
set_option maxHeartbeats 3200000 in
theorem bends_walk (cs : Array Value) (k : Int) (L : LSt) (w : World) (ht : Tab w) (hs : IsSt w (fun _ => True) cs L) :
    Calls Tryd.prog 6 #[.agg cs, .int .i64 k] w fun e w' => e = .returned (.bool true) ∧ Below w.heap.size w w' := by
  have HT := Lib.hid ht
  have e0 := ((Env.start w).addSt hs).alloc cs 30
  have E0 := Lib.hid e0
  have IN := Lib.hid hs.inf
  have ONE := Lib.hid hs.one
  have SZ : Hid (17 = cs.size) := Lib.hid hs.size.symm
  have CA := Lib.hid hs.c0
  have CT := Lib.hid hs.c1
  have CF := Lib.hid hs.c2
  clear e0 hs ht
  go_enter Tryd.func6, Tryd.ntmps6
  go_wp2_with ((with_reducible show wpList _ _ _ _ _ _); refine wpList_load_row (o := ⟨some 13, _, _, _, _, _⟩) rfl _ (.tmp 2) rfl (w.heap.size) rfl _ _ _ _ (E0.out.bx _ _ _ (.head _)) Tryd.underlying30 rfl IN.out ?_)
  generalize w.alloc (.cells cs 30) = w0 at *
  by_cases hl : L.light
  case neg =>
    have HMF : Hid (L.may = false) := Lib.hid (by cases h : L.may with | false => rfl | true => exact absurd (light_of_may h) hl)
    refine (heavyS_yes (E0.out.st _ _ (.head _)) hl).mono ?_
    rintro e w1 ⟨rfl, hb1⟩
    have E1 := Lib.hid (E0.out.below hb1)
    clear hb1 E0
    go_wp2_with ((with_reducible show wpList _ _ _ _ _ _); refine wpList_load_row (o := ⟨some 22, _, _, _, _, _⟩) rfl _ (.tmp 2) rfl (w.heap.size) rfl _ _ _ _ (E1.out.bx _ _ _ (.head _)) Tryd.underlying30 rfl IN.out ?_)
    refine (start_no (E1.out.st _ _ (.head _)) HMF.out).mono ?_
    rintro e w3 ⟨rfl, hb3⟩
    have E3 := Lib.hid ((E1.out.below hb3).alloc zState 30)
    clear hb3 E1
    go_wp2_with (first
      | ((with_reducible show wpList _ _ _ _ _ _); refine wpList_store_new rfl rfl _ (.tmp 5) (.tmp 24) rfl _ _ zState _ rfl rfl (by kernel_rfl) (by rfl) (by kernel_rfl) ?_)
      | ((with_reducible show wpList _ _ _ _ _ _); refine wpList_load_row (o := ⟨some 27, _, _, _, _, _⟩) rfl _ (.tmp 2) rfl (w.heap.size) rfl _ _ _ _ (E3.out.bx _ _ _ (.tail _ (.head _))) Tryd.underlying30 rfl IN.out ?_))
    refine (confirm_no (E3.out.st _ _ (.head _)) HMF.out).mono ?_
    rintro e w4 ⟨rfl, hb4⟩
    have E4 := Lib.hid ((E3.out.below hb4).alloc zState 30)
    clear hb4 E3
    go_wp2_with (first
      | ((with_reducible show wpList _ _ _ _ _ _); refine wpList_store_new rfl rfl _ (.tmp 7) (.tmp 29) rfl _ _ zState _ rfl rfl (by kernel_rfl) (by rfl) (by kernel_rfl) ?_)
      | ((with_reducible show wpList _ _ _ _ _ _); refine wpList_load_row (o := ⟨some 31, _, _, _, _, _⟩) rfl _ (.tmp 2) rfl (w.heap.size) rfl _ _ _ _ (E4.out.bx _ _ _ (.tail _ (.tail _ (.head _)))) Tryd.underlying30 rfl IN.out ?_))
    refine (mayS (E4.out.st _ _ (.head _))).mono ?_
    rintro e w5 ⟨rfl, hb5⟩
    rw [HMF.out]
    have E5 := Lib.hid (E4.out.below hb5)
    clear hb5 E4
    go_wp2_with ((with_reducible show wpList _ _ _ _ _ _); refine wpList_load_rowG (o := ⟨some 41, _, _, _, _, _⟩) (by rfl) _ (.tmp 5) rfl (w3.heap.size) rfl _ _ _ _ (E5.out.bx _ _ _ (.tail _ (.head _))) Tryd.underlying30 rfl (by kernel_rfl) ?_)
    refine (sameS (zero_is _ (fun _ => True)) (zero_is _ (fun _ => True))).mono ?_
    rintro e w6 ⟨rfl, hb6⟩
    have E6 := Lib.hid (E5.out.below hb6)
    clear hb6 E5
    rw [eqb_refl]
    go_wp2_with ((with_reducible show wpList _ _ _ _ _ _); refine wpList_load_rowG (o := ⟨some 46, _, _, _, _, _⟩) (by rfl) _ (.tmp 7) rfl (w4.heap.size) rfl _ _ _ _ (E6.out.bx _ _ _ (.head _)) Tryd.underlying30 rfl (by kernel_rfl) ?_)
    refine (sameS (zero_is _ (fun _ => True)) (zero_is _ (fun _ => True))).mono ?_
    rintro e w7 ⟨rfl, hb7⟩
    have E7 := Lib.hid (E6.out.below hb7)
    clear hb7 E6
    rw [eqb_refl]
    go_wp2_with fail
    refine (awake21_any _ (HT.out.below E7.out.b HT.out.1)).mono ?_
    rintro e w9 ⟨rfl, hb9⟩
    have hb := (E7.out.below hb9).b
    go_wp2_with fail
    go_ret
    exact ⟨rfl, hb⟩
  refine (heavyS_no (E0.out.st _ _ (.head _)) hl).mono ?_
  rintro e w1 ⟨rfl, hb1⟩
  have E1 := Lib.hid (E0.out.below hb1)
  clear hb1 E0
  go_wp2_with ((with_reducible show wpList _ _ _ _ _ _); refine wpList_load_rowG (o := ⟨some 17, _, _, _, _, _⟩) (by rfl) _ (.tmp 2) rfl (w.heap.size) rfl _ _ _ _ (E1.out.bx _ _ _ (.head _)) Tryd.underlying30 rfl IN.out ?_)
  refine (mayS (E1.out.st _ _ (.head _))).mono ?_
  rintro e w2 ⟨rfl, hb2⟩
  have E2 := Lib.hid (E1.out.below hb2)
  clear hb2 E1
  cases hm : L.may with
  | false =>
    have HMF := Lib.hid hm
    go_wp2_with ((with_reducible show wpList _ _ _ _ _ _); refine wpList_load_row (o := ⟨some 22, _, _, _, _, _⟩) rfl _ (.tmp 2) rfl (w.heap.size) rfl _ _ _ _ (E2.out.bx _ _ _ (.head _)) Tryd.underlying30 rfl IN.out ?_)
    refine (start_no (E2.out.st _ _ (.head _)) HMF.out).mono ?_
    rintro e w3 ⟨rfl, hb3⟩
    have E3 := Lib.hid ((E2.out.below hb3).alloc zState 30)
    clear hb3 E2
    go_wp2_with (first
      | ((with_reducible show wpList _ _ _ _ _ _); refine wpList_store_new rfl rfl _ (.tmp 5) (.tmp 24) rfl _ _ zState _ rfl rfl (by kernel_rfl) (by rfl) (by kernel_rfl) ?_)
      | ((with_reducible show wpList _ _ _ _ _ _); refine wpList_load_row (o := ⟨some 27, _, _, _, _, _⟩) rfl _ (.tmp 2) rfl (w.heap.size) rfl _ _ _ _ (E3.out.bx _ _ _ (.tail _ (.head _))) Tryd.underlying30 rfl IN.out ?_))
    refine (confirm_no (E3.out.st _ _ (.head _)) HMF.out).mono ?_
    rintro e w4 ⟨rfl, hb4⟩
    have E4 := Lib.hid ((E3.out.below hb4).alloc zState 30)
    clear hb4 E3
    go_wp2_with (first
      | ((with_reducible show wpList _ _ _ _ _ _); refine wpList_store_new rfl rfl _ (.tmp 7) (.tmp 29) rfl _ _ zState _ rfl rfl (by kernel_rfl) (by rfl) (by kernel_rfl) ?_)
      | ((with_reducible show wpList _ _ _ _ _ _); refine wpList_load_row (o := ⟨some 31, _, _, _, _, _⟩) rfl _ (.tmp 2) rfl (w.heap.size) rfl _ _ _ _ (E4.out.bx _ _ _ (.tail _ (.tail _ (.head _)))) Tryd.underlying30 rfl IN.out ?_))
    refine (mayS (E4.out.st _ _ (.head _))).mono ?_
    rintro e w5 ⟨rfl, hb5⟩
    rw [HMF.out]
    have E5 := Lib.hid (E4.out.below hb5)
    clear hb5 E4
    go_wp2_with ((with_reducible show wpList _ _ _ _ _ _); refine wpList_load_rowG (o := ⟨some 41, _, _, _, _, _⟩) (by rfl) _ (.tmp 5) rfl (w3.heap.size) rfl _ _ _ _ (E5.out.bx _ _ _ (.tail _ (.head _))) Tryd.underlying30 rfl (by kernel_rfl) ?_)
    refine (sameS (zero_is _ (fun _ => True)) (zero_is _ (fun _ => True))).mono ?_
    rintro e w6 ⟨rfl, hb6⟩
    have E6 := Lib.hid (E5.out.below hb6)
    clear hb6 E5
    rw [eqb_refl]
    go_wp2_with ((with_reducible show wpList _ _ _ _ _ _); refine wpList_load_rowG (o := ⟨some 46, _, _, _, _, _⟩) (by rfl) _ (.tmp 7) rfl (w4.heap.size) rfl _ _ _ _ (E6.out.bx _ _ _ (.head _)) Tryd.underlying30 rfl (by kernel_rfl) ?_)
    refine (sameS (zero_is _ (fun _ => True)) (zero_is _ (fun _ => True))).mono ?_
    rintro e w7 ⟨rfl, hb7⟩
    have E7 := Lib.hid (E6.out.below hb7)
    clear hb7 E6
    rw [eqb_refl]
    go_wp2_with fail
    refine (awake21_any _ (HT.out.below E7.out.b HT.out.1)).mono ?_
    rintro e w9 ⟨rfl, hb9⟩
    have hb := (E7.out.below hb9).b
    go_wp2_with fail
    go_ret
    exact ⟨rfl, hb⟩
  | true =>
  have HM := Lib.hid hm
  obtain ⟨hact, htr0, htr3⟩ := stMay_act hm
  have AC := Lib.hid hact
  have TR := Lib.hid (And.intro htr0 htr3)
  clear hm hact htr0 htr3
  have hg1 : w.heap.size < w2.heap.size := (Array.getElem?_eq_some_iff.1 (E2.out.bx _ _ _ (.head _))).1
  have bA : Below w2.heap.size w2 (w2.alloc (.cells cs 30)) := (Below.refl _ _).alloc (Nat.le_refl _) _
  have S2 : Hid (IsSt (w2.alloc (.cells cs 30)) (fun b => b ≠ w2.heap.size) cs L) := Lib.hid (((E2.out.st _ _ (.head _)).imp (P' := fun b => b ≠ w2.heap.size) fun b hlt _ => Nat.ne_of_lt hlt).below bA)
  have E3 := Lib.hid (E2.out.alloc cs 30)
  have HI : Hid (EI w w2.heap.size cs L 0 (w2.alloc (.cells cs 30))) := Lib.hid ⟨E3.out.b, E3.out.bx _ _ _ (.tail _ (.head _)), cs, E3.out.bx _ _ _ (.head _), S2.out⟩
  have HG := Lib.hid hg1
  clear bA S2 hg1 E3
  go_upto_region 6 with (first
    | ((with_reducible show wpList _ _ _ _ _ _); refine wpList_load_row (o := ⟨some 54, _, _, _, _, _⟩) rfl _ (.tmp 2) rfl (w.heap.size) rfl _ _ _ _ (E2.out.bx _ _ _ (.head _)) Tryd.underlying30 rfl IN.out ?_)
    | ((with_reducible show wpList _ _ _ _ _ _); refine wpList_store_new rfl rfl _ (.tmp 9) (.tmp 54) rfl _ _ cs _ rfl rfl IN.out SZ.out ONE.out ?_))
  generalize w2.alloc (.cells cs 30) = w3 at *
  generalize w2.heap.size = g9 at *
  clear E2
  have hk0 : 0 ≤ IntKind.u64.wrap k := by rw [IntKind.wrap_u64]; omega
  obtain ⟨u, hu⟩ : ∃ u : Nat, IntKind.u64.wrap k = (u : Int) := ⟨(IntKind.u64.wrap k).toNat, by omega⟩
  obtain ⟨N, hN⟩ : ∃ N : Nat, 3 + u % 5 = N := ⟨_, rfl⟩
  have hN3 : 3 ≤ N := by omega
  have hN7 : N ≤ 7 := by omega
  have hNi : (3 : Int) + (u : Int) % 5 = (N : Int) := by omega
  have q1 : (IntKind.u64.wrap k).tmod 5 = (u : Int) % 5 := by rw [hu, Int.tmod_eq_emod_of_nonneg (by omega)]
  have q1b : ((u : Int)).tmod 5 = (u : Int) % 5 := Int.tmod_eq_emod_of_nonneg (by omega)
  have q2 : IntKind.i64.wrap ((u : Int) % 5) = (u : Int) % 5 := by rw [IntKind.wrap_i64]; omega
  have q2u : IntKind.u64.wrap ((u : Int) % 5) = (u : Int) % 5 := by rw [IntKind.wrap_u64]; omega
  have q3 : IntKind.i64.wrap ((N : Int)) = (N : Int) := by rw [IntKind.wrap_i64]; omega
  go_upto_region 7 with fail
  clear hk0 hu hN q1 q1b q2 q2u q3
  try rw [hNi]
  clear hNi
  go_loopw [60] (fun i wr => ∃ j : Nat, j ≤ N ∧ i = .int .i64 j ∧ Hid (EI w g9 cs L j wr)) (fun i _ => N - (intOf i).toNat)
  case atStart => exact ⟨0, by omega, rfl, HI⟩
  case round =>
    obtain ⟨j, hj, rfl, hd⟩ := hrel
    obtain ⟨hb, hx, c9, hc9, hs9⟩ := hd.out
    have HB := Lib.hid hb
    have HX := Lib.hid hx
    have HC := Lib.hid hc9
    have HS := Lib.hid hs9
    have I9 := Lib.hid hs9.inf
    have SZ9 := Lib.hid hs9.size
    clear hb hx hc9 hs9 hd HI
    by_cases hjn : j < N
    · have hlt : ((j : Int) < (N : Int)) := by omega
      have hlt' : decide ((j : Int) < (N : Int)) = true := by rw [decide_eq_true_eq]; exact hlt
      go_wp2_with ((with_reducible show wpList _ _ _ _ _ _); refine wpList_load_row (o := ⟨some 63, _, _, _, _, _⟩) rfl _ (.tmp 9) rfl (g9) rfl _ _ _ _ (HC.out) Tryd.underlying30 rfl I9.out ?_)
      refine (start_yes HS.out (starts_may HM.out j)).mono ?_
      rintro e w5 ⟨c5, rfl, S5, hb5⟩
      have hg9 : g9 < wr.heap.size := (Array.getElem?_eq_some_iff.1 HC.out).1
      have x5 := (hb5.out.block g9 hg9).trans HC.out
      have X5 := Lib.hid x5
      have SZ5 := Lib.hid S5.out.size
      have I5 := Lib.hid S5.out.inf
      have O5 := Lib.hid S5.out.one
      have hI : Hid (EI w g9 cs L (j + 1) (w5.setRow g9 c5)) := by
        refine ⟨below_setRow2 (HB.out.trans (hb5.out.mono HB.out.size)) (Nat.le_of_lt HG.out) _, (setRow_other _ _ _ _ (Nat.ne_of_lt HG.out)).trans ((hb5.out.block _ (Array.getElem?_eq_some_iff.1 HX.out).1).trans HX.out), c5, setRow_heap _ _ _ _ _ _ x5, ?_⟩
        exact ((S5.out.imp (P' := fun b => b ≠ g9) fun b _ hb => Nat.ne_of_gt (Nat.lt_of_lt_of_le hg9 hb)).keep (by simp) fun b hb _ => setRow_other _ _ _ _ hb)
      have q6 : IntKind.i64.wrap ((j : Int) + 1) = ((j + 1 : Nat) : Int) := by rw [IntKind.wrap_i64]; omega
      clear hb5 x5 S5 HB HX HS
      go_wp2_with ((with_reducible show wpList _ _ _ _ _ _); refine wpList_store_row rfl _ (.tmp 9) (.tmp 65) rfl (g9) c5 rfl rfl _ _ X5.out I5.out (SZ9.out.trans SZ5.out.symm) O5.out ?_)
      go_roundw
      case rel => exact ⟨j + 1, by omega, by go_num, hI⟩
      case measure => simp [intOf]; omega
    · have hjN : j = N := by omega
      subst hjN
      have hnl : ¬ ((j : Int) < (j : Int)) := by omega
      have e9 : Env w wr [(g9, c9, 30), (w.heap.size, cs, 30)] [(c9, L.starts j)] [] := by
        refine ⟨HB.out, fun g c t hm => ?_, fun c K hm => ?_, fun c K hm => (by cases hm)⟩
        · rcases List.mem_cons.1 hm with e | hm
          · injection e with e1 e2; injection e2 with e2 e3; subst e1 e2 e3; exact HC.out
          rcases List.mem_cons.1 hm with e | hm
          · injection e with e1 e2; injection e2 with e2 e3; subst e1 e2 e3; exact HX.out
          cases hm
        · rcases List.mem_cons.1 hm with e | hm
          · injection e with e1 e2; subst e1 e2; exact HS.out.imp fun _ _ _ => trivial
          cases hm
      have E9 := Lib.hid e9
      obtain ⟨hf, htt, ha⟩ := starts_is TR.out.1 j
      have hle : L.trial ≤ (j : Int) := by have := TR.out.2; omega
      rw [if_pos hle] at htt
      have KA : Hid ((L.starts j).act = if 0 < L.trial then 1 - L.act else L.act) := Lib.hid (by
        rw [ha]
        by_cases q : 0 < L.trial
        · rw [if_pos ⟨q, hle⟩, if_pos q]
        · rw [if_neg (fun h => q h.1), if_neg q])
      have MK := Lib.hid (starts_may HM.out j)
      have CK0 := Lib.hid HS.out.c0
      have CK1 : Hid (c9[1]? = some (.int .i64 0)) := Lib.hid (by rw [HS.out.c1, htt])
      have CK2 : Hid (c9[2]? = some (.int .u32 (L.flo : Int))) := Lib.hid (by rw [HS.out.c2, hf])
      have KT := Lib.hid htt
      clear e9 hf ha htt hle HB HX HC HS
      generalize L.starts j = K at *
      go_wp2_with ((with_reducible show wpList _ _ _ _ _ _); refine wpList_load_row (o := ⟨some 69, _, _, _, _, _⟩) rfl _ (.tmp 9) rfl (g9) rfl _ _ _ _ (E9.out.bx _ _ _ (.head _)) Tryd.underlying30 rfl I9.out ?_)
      refine (start_yes (E9.out.st _ _ (.head _)) MK.out).mono ?_
      rintro e w5 ⟨c10, rfl, S10, hb5⟩
      have s10 := S10.out
      have hst : K.start = K := by unfold LSt.start; rw [if_pos KT.out]
      rw [hst] at s10
      have hd0 : decide (K.trial ≠ 0) = false := by rw [KT.out]; rfl
      rw [hd0]
      have E6 := Lib.hid (((E9.out.below hb5.out).addSt s10).alloc c10 30)
      have I10 := Lib.hid s10.inf
      have O10 := Lib.hid s10.one
      have Z10 : Hid (17 = c10.size) := Lib.hid s10.size.symm
      clear S10 s10 hb5 E9 hst hd0 MK
      by_cases tp : 0 < L.trial
      · have q12 : (0 < L.trial) := tp
        have ka : c9[0]? = some (.int .i64 (1 - L.act)) := by rw [CK0.out, KA.out, if_pos tp]
        have k0 := (E6.out.cell (.tail _ (.tail _ (.head _))) 0).trans CA.out
        have k1 := (E6.out.cell (.tail _ (.tail _ (.head _))) 1).trans CT.out
        have q8 : IntKind.i64.wrap (1 - L.act) = 1 - L.act := by rw [IntKind.wrap_i64]; have := AC.out; omega
        have kf := (E6.out.cell (.tail _ (.tail _ (.head _))) 2).trans CF.out
        have j0 := (E6.out.cell (.tail _ (.head _)) 0).trans ka
        have j1 := (E6.out.cell (.tail _ (.head _)) 1).trans CK1.out
        have j2 := (E6.out.cell (.tail _ (.head _)) 2).trans CK2.out
        go_wp2_with (first
          | ((with_reducible show wpList _ _ _ _ _ _); refine wpList_store_new rfl rfl _ (.tmp 10) (.tmp 71) rfl _ _ c10 _ rfl rfl I10.out Z10.out O10.out ?_)
          | ((with_reducible show wpList _ _ _ _ _ _); refine wpList_load_rowG (o := ⟨some 89, _, _, _, _, _⟩) (by rfl) _ (.tmp 9) rfl (g9) rfl _ _ _ _ (E6.out.bx _ _ _ (.tail _ (.head _))) Tryd.underlying30 rfl I9.out ?_)
          | ((with_reducible show wpList _ _ _ _ _ _); refine wpList_load_rowG (o := ⟨some 90, _, _, _, _, _⟩) (by rfl) _ (.tmp 10) rfl (w5.heap.size) rfl _ _ _ _ (E6.out.bx _ _ _ (.head _)) Tryd.underlying30 rfl I10.out ?_))
        refine (sameS (E6.out.st _ _ (.tail _ (.head _))) (E6.out.st _ _ (.head _))).mono ?_
        rintro e w7 ⟨rfl, hb7⟩
        have E7 := Lib.hid (E6.out.below hb7)
        have kf := (E7.out.cell (.tail _ (.tail _ (.head _))) 2).trans CF.out
        have j0 := (E7.out.cell (.tail _ (.head _)) 0).trans ka
        have j2 := (E7.out.cell (.tail _ (.head _)) 2).trans CK2.out
        clear hb7 E6 k0 k1 j1
        rw [eqb_refl]
        go_wp2_with fail
        refine (awake21_any _ (HT.out.below E7.out.b HT.out.1)).mono ?_
        rintro e w9 ⟨rfl, hb9⟩
        have hb := (E7.out.below hb9).b
        go_wp2_with fail
        go_ret
        exact ⟨rfl, hb⟩
      · have q12 : (L.trial = 0) := (by have := TR.out; omega)
        have ka : c9[0]? = some (.int .i64 (L.act)) := by rw [CK0.out, KA.out, if_neg tp]
        have k0 := (E6.out.cell (.tail _ (.tail _ (.head _))) 0).trans CA.out
        have k1 := (E6.out.cell (.tail _ (.tail _ (.head _))) 1).trans CT.out
        have q8 : IntKind.i64.wrap (1 - L.act) = 1 - L.act := by rw [IntKind.wrap_i64]; have := AC.out; omega
        have kf := (E6.out.cell (.tail _ (.tail _ (.head _))) 2).trans CF.out
        have j0 := (E6.out.cell (.tail _ (.head _)) 0).trans ka
        have j1 := (E6.out.cell (.tail _ (.head _)) 1).trans CK1.out
        have j2 := (E6.out.cell (.tail _ (.head _)) 2).trans CK2.out
        go_wp2_with (first
          | ((with_reducible show wpList _ _ _ _ _ _); refine wpList_store_new rfl rfl _ (.tmp 10) (.tmp 71) rfl _ _ c10 _ rfl rfl I10.out Z10.out O10.out ?_)
          | ((with_reducible show wpList _ _ _ _ _ _); refine wpList_load_rowG (o := ⟨some 89, _, _, _, _, _⟩) (by rfl) _ (.tmp 9) rfl (g9) rfl _ _ _ _ (E6.out.bx _ _ _ (.tail _ (.head _))) Tryd.underlying30 rfl I9.out ?_)
          | ((with_reducible show wpList _ _ _ _ _ _); refine wpList_load_rowG (o := ⟨some 90, _, _, _, _, _⟩) (by rfl) _ (.tmp 10) rfl (w5.heap.size) rfl _ _ _ _ (E6.out.bx _ _ _ (.head _)) Tryd.underlying30 rfl I10.out ?_))
        refine (sameS (E6.out.st _ _ (.tail _ (.head _))) (E6.out.st _ _ (.head _))).mono ?_
        rintro e w7 ⟨rfl, hb7⟩
        have E7 := Lib.hid (E6.out.below hb7)
        have kf := (E7.out.cell (.tail _ (.tail _ (.head _))) 2).trans CF.out
        have j0 := (E7.out.cell (.tail _ (.head _)) 0).trans ka
        have j2 := (E7.out.cell (.tail _ (.head _)) 2).trans CK2.out
        clear hb7 E6 k0 k1 j1
        rw [eqb_refl]
        go_wp2_with fail
        refine (awake21_any _ (HT.out.below E7.out.b HT.out.1)).mono ?_
        rintro e w9 ⟨rfl, hb9⟩
        have hb := (E7.out.below hb9).b
        go_wp2_with fail
        go_ret
        exact ⟨rfl, hb⟩
end Go.Proofs.YtanompoceadjoaaDoor
