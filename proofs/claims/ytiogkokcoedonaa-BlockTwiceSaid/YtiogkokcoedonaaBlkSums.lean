/- BlockSums: the sum of pieces is their exclusive or, byte by byte; of pieces of unlike lengths there is none. For every input, no condition. -/
import Derived.Test.YtiogkokcoedonaaRows
import Derived.Test.YtiogkokcoedonaaR1Xor
import Derived.Test.YtiogkokcoedonaaLawRows
import Derived.Test.YtiogkokcoedonaaGrow
namespace Go.Proofs.Ytiogkokcoedonaa
open Go.ChangeShapes Go.WideShapes Go.ChangeAt Go.RowKit
theorem sum_any (B n cap : Nat) (A : Option Addr) (es : List BRow) (w : World) (hl : Rows2 w B A n es) (hc : n ≤ cap) (hcap : cap ≤ 9223372036854775807) (hB : B ≤ w.heap.size) (hm : ∀ r ∈ es, r.n ≤ 1000000000) :
    Calls Try.prog 18 #[.slice A n cap] w (FreshBytes w.heap.size (sumF (es.map (·.l))) w) := by
  have hlen := hl.len
  cases es with
  | nil =>
    obtain rfl : n = 0 := by simpa using hlen.symm
    exact sum_none cap A w
  | cons r es =>
    obtain ⟨m, rfl⟩ : ∃ m, n = m + 1 := ⟨n - 1, by simp at hlen; omega⟩
    exact sum_some B m cap A r es w hl hc hcap hB (hm r (by simp))
/-- the bytes of the first k rows -/
def tot (es : List BRow) (k : Nat) : Nat := ((es.take k).map (·.n)).sum
theorem tot_next (es : List BRow) (k : Nat) (r : BRow) (h : es[k]? = some r) : tot es (k + 1) = tot es k + r.n := by
  have hlk := (List.getElem?_eq_some_iff.1 h).1
  rw [List.getElem?_eq_getElem hlk] at h
  injection h with h
  unfold tot
  rw [List.take_succ_eq_append_getElem hlk, h]
  simp
theorem tot_le (es : List BRow) (k : Nat) : ∀ r ∈ es.take k, r.n ≤ tot es k := by
  intro r hr
  unfold tot
  generalize es.take k = l at hr
  induction l with
  | nil => cases hr
  | cons x t ih =>
    rcases List.mem_cons.1 hr with rfl | h
    · simp
    · have := ih h
      simp at this ⊢
      omega
theorem xorL_zero (m : Nat) (l : List UInt8) (h : l.length = m) : xorL (List.replicate m 0) l = l := by
  apply List.ext_getElem?
  intro j
  by_cases hj : j < m
  · rw [xorL, xl_get _ _ _ j (by simpa using hj)]
    simp [hj, List.getD, show j < l.length by omega]
  · rw [List.getElem?_eq_none (by rw [xorL_length]; simp; omega), List.getElem?_eq_none (by omega)]
set_option maxHeartbeats 3200000 in
theorem sums_walk (A : Option Addr) (n cap : Nat) (es : List BRow) (w : World) (hl : Rows2 w w.heap.size A n es) (hn : n ≤ cap) (hcap : cap ≤ 9223372036854775807) (hbig : ∀ r ∈ es, r.n ≤ r.c ∧ r.c ≤ 9223372036854775807) (hreach : ∀ r ∈ es, r.n ≤ 140737488351232) :
    Calls Try.prog 4 #[.slice A n cap] w fun e w' => e = .returned (.bool true) ∧ Below w.heap.size w w' := by
  have HR := Lib.hid hreach
  have HLEN := Lib.hid hl.len
  clear hbig hreach
  go_enter Try.func4, Try.ntmps4
  go_wp2_with fail
  go_loopw [3, 12] (fun x i wr => ∃ k : Nat, k ≤ n ∧ k ≤ 100 ∧ i = .int .i64 k ∧ x = .int .i64 (tot es k : Nat) ∧ tot es k ≤ 3000 ∧ wr = w) (fun _ i _ => n - (intOf i).toNat)
  case atStart => exact ⟨0, by omega, by omega, rfl, rfl, by simp [tot], rfl⟩
  case round =>
    obtain ⟨k, hk, hk1, rfl, rfl, htk, rfl⟩ := hrel
    by_cases hlt : k < n
    · obtain ⟨b, o, rfl, r, hr, hcell, hrow⟩ := hl.at_ hlt
      have hrn := HR.out r (List.mem_of_getElem? hr)
      have HT := Lib.hid (tot_next es k r hr)
      clear hr
      generalize hT : tot es k = T at *
      have HTT := Lib.hid hT
      clear hT
      by_cases h100 : k = 100
      · subst h100
        go_wp2_with fail
        refine (awake10_any _).mono ?_
        rintro e w4 ⟨rfl, hb4⟩
        go_wp2_with fail
        go_ret
        exact ⟨rfl, hb4⟩
      · have h100' : (k : Int) < 100 := by omega
        by_cases h3 : 3000 < T + r.n
        · have h3' : (3000 : Int) < (T : Int) + (r.n : Int) := by omega
          go_wp2_with fail
          refine (awake10_any _).mono ?_
          rintro e w4 ⟨rfl, hb4⟩
          go_wp2_with fail
          go_ret
          exact ⟨rfl, hb4⟩
        · have h3' : (T : Int) + (r.n : Int) ≤ 3000 := by omega
          go_wp2_with fail
          go_roundw
          case rel => exact ⟨k + 1, by omega, by omega, by go_num, by rw [HT.out]; go_num, by rw [HT.out]; omega, trivial⟩
          case measure => simp [intOf]; omega
    · obtain rfl : n = k := by omega
      have hlens : ∀ r ∈ es, r.n ≤ 1000000000 := fun r hr => by
        have := tot_le es n r (by rw [List.take_of_length_le (by rw [HLEN.out]; omega)]; exact hr)
        omega
      have HLENS := Lib.hid hlens
      clear hlens htk
      obtain ⟨wo, rfl⟩ : ∃ wo : World, wo = wr := ⟨_, rfl⟩
      go_wp2_with fail
      refine (sum_any wo.heap.size n cap A es wo hl hn hcap (Nat.le_refl _) HLENS.out).mono ?_
      rintro e w1 ⟨As, ns, cs, rfl, hns, howns, hb1⟩
      cases es with
      | nil =>
        have hn0 : n = 0 := by have := HLEN.out; simpa using this.symm
        subst hn0
        have hs0 : ns = 0 := by simpa [sumF] using hns.out
        subst hs0
        go_wp2_with fail
        refine (awake10_any _).mono ?_
        rintro e w4 ⟨rfl, hb4⟩
        go_wp2_with fail
        go_ret
        exact ⟨rfl, hb1.trans (hb4.mono hb1.size)⟩
      | cons r0 es =>
        obtain ⟨n', rfl⟩ : ∃ m, n = m + 1 := ⟨n - 1, by have := HLEN.out; simp at this; omega⟩
        obtain ⟨b, o, rfl, r, hr, hcell, hrow⟩ := (hl.below hb1).at_ (k := 0) (by omega)
        simp at hr
        subst hr
        rw [Nat.add_zero] at hcell
        have hm := HLENS.out r0 (by simp)
        have hmk := mk_bytes r0.n hm w1
        have hne : ((n' : Int) + 1 == 0) = false := by simp; omega
        have HROW := Lib.hid hrow.blen
        have HNS := Lib.hid hns
        clear hns
        go_wp2_with fail
        clear hmk hcell
        have hwant0 : (w1.alloc (.cells (Array.replicate r0.n (.int .u8 0)) 5)).ownsRow wo.heap.size 5 1 (.slice (some ⟨w1.heap.size, 0, none⟩) r0.n r0.n) r0.n (bv (sumTo (List.replicate r0.n 0) [])) := by
          have := own_lit (w := w1) (base := wo.heap.size) (g := w1.heap.size) (n := r0.n) (e := 5) (Array.replicate r0.n (.int .u8 0)) rfl hb1.size (by simp) (by unfold maxLen; omega)
          simpa [bv, sumTo] using this
        have hb1a : Below w1.heap.size w1 (w1.alloc (.cells (Array.replicate r0.n (.int .u8 0)) 5)) := (Below.refl _ _).alloc (Nat.le_refl _) _
        generalize hm0 : r0.n = m at *
        have HM := Lib.hid hm0
        clear hm0 hrow
        go_loopw [7, 47] (fun v i wr => ∃ k : Nat, k ≤ n' + 1 ∧ i = .int .i64 k ∧ ∃ Aw cw, v = .slice Aw m cw ∧ Hid (wr.ownsRow wo.heap.size 5 1 (.slice Aw m cw) m (bv (sumTo (List.replicate m 0) (((r0 :: es).take k).map (·.l))))) ∧ Hid (∀ r ∈ (r0 :: es).take k, r.l.length = m) ∧ Below w1.heap.size w1 wr) (fun _ i _ => n' + 1 - (intOf i).toNat)
        case atStart => exact ⟨0, by omega, rfl, _, _, rfl, hwant0, fun r hr => by simp at hr, hb1a⟩
        case round =>
          obtain ⟨k, hk, rfl, Aw, cw, rfl, hownw, hall, hbx⟩ := hrel
          clear hwant0 hb1a
          have hbxw := hb1.trans (hbx.mono hb1.size)
          by_cases hlt : k < n' + 1
          · obtain ⟨b', o', e', r, hr, hcellk, hrowk⟩ := (hl.below hbxw).at_ hlt
            injection e' with e'
            injection e' with e1 e2
            subst e1 e2
            have hki : (k : Int) < (n' : Int) + 1 := by omega
            have hlk := (List.getElem?_eq_some_iff.1 hr).1
            have htk : (r0 :: es).take (k + 1) = (r0 :: es).take k ++ [r] := by
              rw [List.take_succ_eq_append_getElem hlk]
              rw [List.getElem?_eq_getElem hlk] at hr
              injection hr with hr
              rw [hr]
            have HTK := Lib.hid htk
            have hmem : Hid (r ∈ (r0 :: es)) := List.mem_of_getElem? hr
            have HRL := Lib.hid hrowk.blen
            clear htk hr
            by_cases hrm : r.n = m
            · have hne2 : ((r.n : Int) != (m : Int)) = false := by rw [hrm]; simp
              have HRM := Lib.hid hrm
              obtain ⟨rA, rn, rc, rl⟩ := r
              simp only at hrm hcellk hrowk hne2
              subst hrm
              go_wp2_with fail
              refine (xorBytes_any wr.heap.size rn cw rc Aw rA _ rl wr (Row.of_own hownw.out) ((hrowk).more hbxw.size) hm (Nat.le_refl _)).mono ?_
              rintro e w5 ⟨A5, n5, c5, rfl, hn5, hown5, hb5⟩
              have hn5' : n5 = rn := by
                have := hn5.out
                rw [xorL_length, sumTo_length, List.length_replicate] at this
                exact this
              subst hn5'
              have HOWN := Lib.hid hown5
              clear hn5 hown5
              go_wp2_with fail
              go_roundw
              case rel =>
                refine ⟨k + 1, by omega, by go_num, A5, c5, rfl, ?_, ?_, hbx.trans (hb5.mono hbx.size)⟩
                · show World.ownsRow _ _ _ _ _ _ _
                  rw [HTK.out, List.map_append, List.map_cons, List.map_nil, sumTo_snoc]
                  exact own_base HOWN.out hbxw.size
                · intro q hq
                  rw [HTK.out] at hq
                  rcases List.mem_append.1 hq with h | h
                  · exact hall.out q h
                  · simp at h
                    subst h
                    exact HRL.out
              case measure => simp [intOf]; omega
            · have hne2 : ((r.n : Int) != (m : Int)) = true := by simp; omega
              have hs0 : ns = 0 := by
                have := HNS.out
                simp only [List.map_cons, sumF] at this
                rw [if_neg] at this
                · exact this
                · intro h
                  have hr1 : r.l.length = r0.l.length := by
                    rcases List.mem_cons.1 hmem.out with e | e
                    · rw [e]
                    · exact h r.l (List.mem_map.2 ⟨r, e, rfl⟩)
                  rw [HRL.out, HROW.out] at hr1
                  exact hrm hr1
              subst hs0
              clear hrm
              go_wp2_with fail
              refine (awake10_any _).mono ?_
              rintro e w4 ⟨rfl, hb4⟩
              go_wp2_with fail
              go_ret
              exact ⟨rfl, hbxw.trans (hb4.mono hbxw.size)⟩
          · obtain rfl : k = n' + 1 := by omega
            have hki : ¬ ((n' : Int) + 1 < (n' : Int) + 1) := by omega
            have htake : (r0 :: es).take (n' + 1) = r0 :: es := List.take_of_length_le (by rw [HLEN.out]; exact Nat.le_refl _)
            have hF : sumTo (List.replicate m 0) (((r0 :: es).take (n' + 1)).map (·.l)) = sumF ((r0 :: es).map (·.l)) := by
              rw [htake]
              have hallr := hall.out
              rw [htake] at hallr
              simp only [List.map_cons, sumF]
              rw [if_pos]
              · show sumTo (xorL (List.replicate m 0) r0.l) _ = _
                rw [xorL_zero _ _ (hallr r0 (by simp))]
              · intro x hx
                obtain ⟨r, hr, rfl⟩ := List.mem_map.1 hx
                rw [hallr r (by simp [hr]), hallr r0 (by simp)]
            have hcv1 := conv_own cs howns wr hbx
            have hcv2 := conv_own cw hownw.out wr (Below.refl _ _)
            rw [hF] at hcv2
            clear htake hF
            go_wp2_with fail
            refine (awake10_any _).mono ?_
            rintro e w4 ⟨rfl, hb4⟩
            go_wp2_with fail
            go_ret
            exact ⟨rfl, hbxw.trans (hb4.mono hbxw.size)⟩

set_option maxRecDepth 100000 in
theorem blockSums_lifted (os : Os) (started : os.Started) (H : Type) (enc : TypeId × Value → H) :
    ReturnsInHanded {} Try.checked os 4 .any (Rows.blockSumsSpec.pre6 enc Try.prog Try.f4 Rows.blockSumsRow.domain false) (Rows.blockSumsSpec.post enc Try.prog Try.f4 false true false false) := by
  refine law_lift (C := Try.checked) (tb := 4) Try.own started (by kernel_rfl) Try.func4
    (ChangeSpec.witness6 (enc := enc) (C := Try.checked) false ⟨#[], #[.slice none 0 0], []⟩ 8 (by kernel_rfl) (by kernel_rfl) (by kernel_rfl) (by kernel_rfl)) Try.laidOut (by kernel_rfl) rfl rfl Try.underlying4 ?_ ?_
  · intro ds hds
    match ds, hds with
    | [_], _ => rfl
  intro W base args ds p hval0 hA0 _ _ hsz0
  have hval : ∀ (j : Nat) t v, Try.f4.params[j]? = some t → args[j]? = some v → Value.okWide Try.prog W .any base t v := hval0
  have hA : DataW.TrodAll enc Try.prog W 0 (fun _ => true) true Try.f4.params.toList args.toList ds p := hA0
  rw [Try.params4] at hA hval
  obtain ⟨v0, d0, rfl, rfl, h0⟩ := trodAll_one hA
  have hsz : (DataW.weightsEach Try.prog Try.f4.params.toList _).all (· ≤ reachBytes) = true := hsz0
  rw [Try.params4] at hsz
  obtain ⟨hz0, hy0⟩ := weights_cons hsz
  obtain ⟨A0, n0, cap0, l0, rfl, hrow0, hnc0, hcm0, hbg0, hrc0⟩ := open_rows Try.underlying23 Try.underlying22 Try.underlying5 (by kernel_rfl) Try.cells5 (hval 0 23 v0 rfl rfl) h0
  exact sums_walk A0 n0 cap0 l0 W hrow0 hnc0 hcm0 hbg0 (hrc0 (by kernel_rfl) hz0)

theorem blockSums_holds : Rows.BlockSumsSaid :=
  OpenClaim.holds_of_wide 4 Try.f4 rfl rfl rfl rfl rfl rfl rfl ⟨rfl, rfl, rfl, rfl, rfl⟩ rfl rfl rfl rfl rfl (by kernel_rfl) Try.func4 (by kernel_rfl)
    (of_decide_eq_true (by kernel_rfl)) (by unfold Func.isWrapper; rw [if_neg (of_decide_eq_false (by kernel_rfl))]; exact ⟨rfl, rfl⟩)
    (fun os started H enc _ => blockSums_lifted os started H enc)
end Go.Proofs.Ytiogkokcoedonaa
