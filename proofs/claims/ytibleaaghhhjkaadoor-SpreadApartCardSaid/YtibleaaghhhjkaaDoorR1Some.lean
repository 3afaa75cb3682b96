/- The reference's Below and Some: by contracts. -/
import Derived.Test.YtibleaaghhhjkaaDoorRandSome
import Derived.Test.YtibleaaghhhjkaaDoorR1Next
import Derived.Test.YtibleaaghhhjkaaDoorR1BitsX
import Derived.Test.YtibleaaghhhjkaaDoorVecMore
import Derived.Test.YtibleaaghhhjkaaDoorSpMath
namespace Go.Proofs.YtibleaaghhhjkaaDoor
open Go.RowKit
open RdM VecM Vc
theorem r1below_any (g : Nat) (x n : Int) (w : World) (hs : r1Src w g x) (h0 : 0 ≤ x) (hx : x ≤ 4294967295) (h1 : 1 ≤ n) (h2 : n ≤ 2147483648) : Calls Tryd.prog 66 #[.pointer (some ⟨g, 0, none⟩), .int .i64 n] w fun e w' => e = .returned (.int .i64 (RdM.bl x n)) ∧ w' = w.setCell ⟨g, 0, none⟩ (.int .u32 (sh x)) := by
  obtain ⟨hy0, hy1⟩ := mx_bounds (sh x)
  obtain ⟨a0, a1, a2, a3⟩ := mul_bounds _ n hy0 hy1 h1 h2
  have HB : Hid (mx (sh x) * n / 4294967296 = RdM.bl x n) := Lib.hid rfl
  have hn := Lib.hid (r1nx_any g x w hs h0 hx)
  clear hs
  go_enter Tryd.func66, Tryd.ntmps66
  go_wp2_with fail
  refine hn.out.mono ?_
  rintro e w' ⟨rfl, rfl⟩
  generalize mx (sh x) = y at *
  go_wp2_with fail
  go_ret
  refine ⟨?_, rfl⟩
  rw [← HB.out]
  rfl
theorem swap_take {p : List Int} {i j : Nat} (hij : i ≤ j) (hi : i < p.length) : (swapL p i j).take (i + 1) = p.take i ++ [(swapL p i j).getD i 0] := by
  have hl : i < (swapL p i j).length := by rw [swapL_length]; exact hi
  rw [List.take_succ_eq_append_getElem hl, List.getD_eq_getElem?_getD, List.getElem?_eq_getElem hl]
  congr 1
  unfold swapL
  apply List.ext_getElem?
  intro k
  rw [List.getElem?_take, List.getElem?_take]
  by_cases h : k < i
  · rw [if_pos h, if_pos h, List.getElem?_set_ne (by omega), List.getElem?_set_ne (by omega)]
  · rw [if_neg h, if_neg h]
theorem go_mem {n : Nat} (hn : n ≤ 256) {x : Int} {i : Nat} (hi : i ≤ n) {z : Int} (h : z ∈ go n x i) : 0 ≤ z ∧ z < (n : Int) := by
  have hg := (go_perm n (by omega) x i hi).mem_iff.1 h
  simp only [ids, List.mem_map, List.mem_range] at hg
  obtain ⟨j, hj, rfl⟩ := hg
  omega
/-- what is chosen at step i -/
def pk (n : Nat) (x : Int) (i : Nat) : Int := (go n x (i + 1)).getD i 0
theorem pk_bound {n : Nat} (hn : n ≤ 256) {x : Int} {i : Nat} (hi : i < n) : 0 ≤ pk n x i ∧ pk n x i < (n : Int) := by
  refine go_mem (x := x) hn (i := i + 1) hi ?_
  unfold pk
  rw [List.getD_eq_getElem?_getD, List.getElem?_eq_getElem (by rw [go_length]; exact hi)]
  exact List.getElem_mem _
theorem go_take {n : Nat} (hn : n ≤ 256) {x : Int} {i : Nat} (hi : i < n) : (go n x (i + 1)).take (i + 1) = (go n x i).take i ++ [pk n x i] := by
  have hb := bl_bounds (shk x i) ((n : Int) - i) (by omega) (by omega)
  exact swap_take (p := go n x i) (by omega) (by rw [go_length]; exact hi)
/-- the bits of what is chosen in the first i steps -/
def inX (n : Nat) (x : Int) : Nat → Nat
  | 0 => 0
  | i + 1 => put (inX n x i) (pk n x i).toNat true
theorem put_bit (X k i : Nat) : (put X k true).testBit i = (decide (i = k) || X.testBit i) := by
  rw [put_true, Nat.testBit_or, Nat.testBit_two_pow, Bool.or_comm]
  congr 1
  by_cases h : k = i
  · rw [decide_eq_true h, decide_eq_true h.symm]
  · rw [decide_eq_false h, decide_eq_false (fun e => h e.symm)]
theorem inX_bit {n : Nat} (hn : n ≤ 256) (x : Int) (j : Nat) : ∀ i, i ≤ n → (inX n x i).testBit j = decide ((j : Int) ∈ (go n x i).take i)
  | 0, _ => by simp [inX]
  | i + 1, hi => by
    have hb := pk_bound (x := x) hn hi
    unfold inX
    rw [put_bit, inX_bit hn x j i (by omega), go_take hn hi]
    by_cases h : (j : Int) ∈ (go n x i).take i
    · rw [decide_eq_true h, decide_eq_true (List.mem_append_left _ h), Bool.or_true]
    · rw [decide_eq_false h, Bool.or_false]
      by_cases e : j = (pk n x i).toNat
      · rw [decide_eq_true e, decide_eq_true (List.mem_append_right _ (List.mem_singleton.2 (by omega)))]
      · rw [decide_eq_false e, decide_eq_false]
        intro hm
        rcases List.mem_append.1 hm with hm | hm
        · exact h hm
        · have := List.mem_singleton.1 hm
          omega
theorem inX_eq {n : Nat} (hn : n ≤ 256) (x : Int) {K : Nat} (hK : K ≤ n) : inX n x K = ofL n (some_ n x K) := by
  apply Nat.eq_of_testBit_eq
  intro j
  rw [inX_bit hn x j K hK, ofL_bit]
  have hp : ∀ z, z ∈ some_ n x K ↔ z ∈ (go n x K).take K := fun z => (List.mergeSort_perm _ _).mem_iff
  by_cases h : (j : Int) ∈ (go n x K).take K
  · have hb := go_mem hn hK (List.mem_of_mem_take h)
    have hj : j < n := by omega
    rw [decide_eq_true h, decide_eq_true hj, decide_eq_true ((hp _).2 h)]; rfl
  · rw [decide_eq_false h, decide_eq_false (fun e => h ((hp _).1 e)), Bool.and_false]
theorem inX_lt {n : Nat} (hn : n ≤ 256) (x : Int) {K : Nat} (hK : K ≤ n) : inX n x K < 2 ^ n := by rw [inX_eq hn x hK]; exact ofL_lt _
theorem ofL_L {n X : Nat} (hX : X < 2 ^ n) : ofL n ((L X n).map fun i : Nat => (i : Int)) = X := by
  apply Nat.eq_of_testBit_eq
  intro j
  rw [ofL_bit]
  by_cases hj : j < n
  · rw [decide_eq_true hj, Bool.true_and]
    cases hb : X.testBit j with
    | true => exact decide_eq_true (List.mem_map.2 ⟨j, (mem_L X n j).2 ⟨hj, hb⟩, rfl⟩)
    | false =>
      refine decide_eq_false fun h => ?_
      obtain ⟨i, hi, e⟩ := List.mem_map.1 h
      have e2 : i = j := by omega
      subst e2
      have := ((mem_L X n i).1 hi).2
      rw [hb] at this; cases this
  · rw [decide_eq_false hj, Bool.false_and, Nat.testBit_lt_two_pow (Nat.lt_of_lt_of_le hX (Nat.pow_le_pow_right (by decide) (by omega)))]
theorem own_at {W W' : World} {base g n c : Nat} {e : TypeId} {xs : List Value} (h : W.ownsRow base e 1 (.slice (some ⟨g, 0, none⟩) n c) n xs) (hk : W'.heap[g]? = W.heap[g]?) : W'.ownsRow base e 1 (.slice (some ⟨g, 0, none⟩) n c) n xs := by
  refine ⟨h.1, ?_⟩
  rcases h.2 with h0 | ⟨g', cap, cur, hv, hb, hg, r⟩
  · exact .inl h0
  · have e1 := hv
    injection e1 with e1
    injection e1 with e1
    injection e1 with e1
    subst e1
    exact .inr ⟨_, cap, cur, hv, hb, hk.trans hg, r⟩
/-- between two steps of Some: the numbers, what is chosen, the source -/
structure SI (w : World) (g G Gi n : Nat) (x : Int) (i : Nat) (wr : World) : Prop where
  l : wr.ownsRow G 3 1 (.slice (some ⟨G, 0, none⟩) n n) n (iv (go n x i))
  y : wr.ownsRow G 4 1 (.slice (some ⟨Gi, 0, none⟩) n n) n (vb (inX n x i) n)
  s : r1Src wr g (shk x i)
  b : But G g w wr
theorem SI.glt {w : World} {g G Gi n : Nat} {x : Int} {i : Nat} {wr : World} (h : SI w g G Gi n x i wr) : g < wr.heap.size := (Array.getElem?_eq_some_iff.1 h.s).1
theorem SI.draw {w : World} {g G Gi n : Nat} {x : Int} {i : Nat} {wr : World} (h : SI w g G Gi n x i wr) (hg : g < G) (hi : G < Gi) :
    (wr.setCell ⟨g, 0, none⟩ (.int .u32 (sh (shk x i)))).ownsRow G 3 1 (.slice (some ⟨G, 0, none⟩) n n) n (iv (go n x i)) ∧ (wr.setCell ⟨g, 0, none⟩ (.int .u32 (sh (shk x i)))).ownsRow G 4 1 (.slice (some ⟨Gi, 0, none⟩) n n) n (vb (inX n x i) n) ∧ r1Src (wr.setCell ⟨g, 0, none⟩ (.int .u32 (sh (shk x i)))) g (shk x (i + 1)) ∧ But G g w (wr.setCell ⟨g, 0, none⟩ (.int .u32 (sh (shk x i)))) :=
  ⟨own_at h.l (Below.heap_setCell _ _ _ _ (by show G ≠ g; omega)), own_at h.y (Below.heap_setCell _ _ _ _ (by show Gi ≠ g; omega)), by unfold r1Src; rw [heap_setCell_same wr g 0 _ _ _ h.s]; rfl, h.b.setSelf 0 _⟩
def RSomeOk (g n : Nat) (x : Int) (K : Nat) (w : World) (e : Ending) (w' : World) : Prop :=
  ∃ A m c zs, e = .returned (.slice A m c) ∧ Hid (Row w' w'.heap.size A m (nv zs)) ∧ Hid (m ≤ 256 ∧ ofL n zs = ofL n (some_ n x K)) ∧ Hid (But w.heap.size g w w')
set_option maxRecDepth 100000 in
set_option maxHeartbeats 6400000 in
theorem r1some_any (g n K : Nat) (x : Int) (w : World) (hs : r1Src w g x) (h0 : 0 ≤ x) (hx : x ≤ 4294967295) (h1 : 1 ≤ n) (h2 : n ≤ 256) (hKn : K ≤ n) : Calls Tryd.prog 43 #[.pointer (some ⟨g, 0, none⟩), .int .i64 (n : Int), .int .i64 (K : Int)] w (RSomeOk g n x K w) := by
  obtain ⟨i0, hi, hz0, hz1, hz2⟩ := info_parts infoI64
  have hmk := mk_ints n (by omega) w
  have hmb := madeBool n (by omega)
  have HOW := Lib.hid (fun W => vb_own W n (by omega))
  have HS := Lib.hid hs
  have hglt : g < w.heap.size := (Array.getElem?_eq_some_iff.1 hs).1
  have hni : (n : Int) ≤ 256 := by omega
  have hni1 : (1 : Int) ≤ (n : Int) := by omega
  have hki : (K : Int) ≤ (n : Int) := by omega
  have hk0 : (0 : Int) ≤ (K : Int) := by omega
  have HX := Lib.hid (And.intro h0 hx)
  have HKM : Hid (max 0 (min (K : Int) (n : Int)) = (K : Int)) := Lib.hid (by omega)
  clear hs h0 hx
  go_enter Tryd.func43, Tryd.ntmps43
  go_upto_region 4 with fail
  rw [HKM.out]
  go_wp2_with fail
  clear hmk
  obtain ⟨G, hG⟩ : ∃ G, w.heap.size = G := ⟨_, rfl⟩
  have HG := Lib.hid hG
  have hst0 : (w.alloc (.cells (Array.replicate n (.int .i64 0)) 3)).ownsRow w.heap.size 3 1 (.slice (some ⟨w.heap.size, 0, none⟩) n n) n (iv (idl n 0)) := by
    rw [idl_zero]
    have := own_lit (w := w) (base := w.heap.size) (g := w.heap.size) (n := n) (e := 3) (Array.replicate n (.int .i64 0)) rfl (Nat.le_refl _) (by simp) (by unfold maxLen; omega)
    simpa [iv] using this
  have hba : Below w.heap.size w (w.alloc (.cells (Array.replicate n (.int .i64 0)) 3)) := (Below.refl _ _).alloc (Nat.le_refl _) _
  rw [hG] at hst0 hba hglt ⊢
  have HST0 := Lib.hid hst0
  have HBA := Lib.hid hba
  clear hst0 hba hG
  generalize (w.alloc (.cells (Array.replicate n (.int .i64 0)) 3)) = wA at *
  go_loopw [29] (fun z wr => ∃ i : Nat, i ≤ n ∧ z = .int .i64 i ∧ Hid (wr.ownsRow G 3 1 (.slice (some ⟨G, 0, none⟩) n n) n (iv (idl n i))) ∧ Hid (Below G w wr)) (fun z _ => n - (intOf z).toNat)
  case atStart => exact ⟨0, by omega, rfl, HST0, HBA⟩
  case round =>
    obtain ⟨i, hi2, rfl, hown, hbl⟩ := hrel
    clear HST0 HBA
    by_cases hlt : i < n
    · have hfz := hown.out.frozenAt i
      have hcs := (hown.out.cellAt i (by omega)).trans (iv_get _ i (by rw [idl_length]; exact hlt))
      have hst := Lib.hid ((hown.out.stored i (.int .i64 (i : Int))).1)
      have hset := Lib.hid (iv_set (idl n i) i (i : Int))
      have hids := Lib.hid (idl_set n i hlt)
      have hii : (i : Int) < (n : Int) := by omega
      generalize (idl n i).getD i 0 = u at *
      go_wp2_with fail
      go_roundw
      case rel => exact ⟨i + 1, by omega, by go_num, by show World.ownsRow _ _ _ _ _ _ _; rw [← hids.out, ← hset.out]; exact hst.out, hbl.out.setCell (Nat.le_refl _) _⟩
      case measure => simp [intOf]; omega
    · obtain rfl : n = i := by omega
      have hgo0 := hown.out
      rw [idl_all] at hgo0
      have hGl : G < wr.heap.size := (hgo0.lt G rfl).2
      obtain ⟨wo, rfl⟩ : ∃ wo : World, wo = wr := ⟨_, rfl⟩
      obtain ⟨Gi, hGi⟩ : ∃ Gi, wo.heap.size = Gi := ⟨_, rfl⟩
      have HOB := HOW.out wo
      have hbo : Below G w (wo.alloc (.cells (Array.replicate n (.bool false)) 4)) := hbl.out.alloc (by have := hbl.out.size; omega) _
      have hal : Below wo.heap.size wo (wo.alloc (.cells (Array.replicate n (.bool false)) 4)) := (Below.refl _ _).alloc (Nat.le_refl _) _
      have HSI0 : Hid (SI w g G Gi n x 0 (wo.alloc (.cells (Array.replicate n (.bool false)) 4))) := Lib.hid ⟨own_below hgo0 hal, by rw [← hGi]; exact own_base HOB (by omega), (hbo.block g hglt).trans HS.out, But.of_below hbo⟩
      have HGi : Hid (G < Gi) := Lib.hid (by omega)
      have hm := hmb wo
      rw [hGi] at hm
      clear hmb hown hgo0 hbl HOB hbo hal hGl hlt
      go_wp2_with fail
      clear hm
      rw [hGi] at *
      clear hGi
      generalize (wo.alloc (.cells (Array.replicate n (.bool false)) 4)) = wB at *
      go_loopw [40] (fun z wr => ∃ i : Nat, i ≤ K ∧ z = .int .i64 i ∧ Hid (SI w g G Gi n x i wr)) (fun z _ => K - (intOf z).toNat)
      case atStart => exact ⟨0, by omega, rfl, HSI0⟩
      case round =>
        obtain ⟨i, hi3, rfl, HSI⟩ := hrel
        clear HSI0
        by_cases hlt : i < K
        · have hni3 : (1 : Int) ≤ (n : Int) - (i : Int) := by omega
          have hni4 : (n : Int) - (i : Int) ≤ 2147483648 := by omega
          have hsb : 0 ≤ shk x i ∧ shk x i ≤ 4294967295 := by
            cases i with
            | zero => exact HX.out
            | succ i => exact sh_bounds _
          have HBE := Lib.hid (r1below_any g (shk x i) ((n : Int) - (i : Int)) wr HSI.out.s hsb.1 hsb.2 hni3 hni4)
          obtain ⟨d1, d2, d3, d4⟩ := HSI.out.draw hglt HGi.out
          obtain ⟨hq0, hq1⟩ := bl_bounds (shk x i) ((n : Int) - (i : Int)) hni3 hni4
          have hgo : Hid (go n x (i + 1) = swapL (go n x i) i (i + (RdM.bl (shk x i) ((n : Int) - i)).toNat)) := Lib.hid rfl
          generalize hq : RdM.bl (shk x i) ((n : Int) - (i : Int)) = q at *
          have hij0 : (i : Int) < (n : Int) := by omega
          clear hsb HSI hq
          go_wp2_with fail
          refine HBE.out.mono ?_
          rintro e w1 ⟨rfl, rfl⟩
          clear HBE
          have HD3 := Lib.hid d3
          have HD4 := Lib.hid d4
          have hown1 := d1
          have hy1 := d2
          clear d1 d2 d3 d4
          generalize wr.setCell ⟨g, 0, none⟩ (.int .u32 (sh (shk x i))) = w1 at *
          obtain ⟨j, rfl⟩ : ∃ j : Nat, q = j := ⟨q.toNat, by omega⟩
          have hp := go_length n x i
          have hcI := (hown1.cellAt i (by omega)).trans (iv_get _ i (by rw [hp]; omega))
          have hcJ := (hown1.cellAt (i + j) (by omega)).trans (iv_get _ (i + j) (by rw [hp]; omega))
          have hfI := hown1.frozenAt i
          have hfJ := hown1.frozenAt (i + j)
          have hst := ((hown1.stored i (.int .i64 ((go n x i).getD (i + j) 0))).1).stored (i + j) (.int .i64 ((go n x i).getD i 0))
          have hsw : ((iv (go n x i)).set i (.int .i64 ((go n x i).getD (i + j) 0))).set (i + j) (.int .i64 ((go n x i).getD i 0)) = iv (go n x (i + 1)) := by
            rw [hgo.out, iv_set, iv_set, Int.toNat_natCast]; rfl
          have hL2 := hst.1
          rw [hsw] at hL2
          have hmid : ∃ u, (w1.setCell ⟨G, i, none⟩ (.int .i64 ((go n x i).getD (i + j) 0))).cell? ⟨G, i + j, none⟩ = some u := by
            rw [((hown1.stored i (.int .i64 ((go n x i).getD (i + j) 0))).1).cellAt (i + j) (by omega)]
            exact ⟨_, List.getElem?_eq_getElem (by rw [List.length_set, iv_length, hp]; omega)⟩
          obtain ⟨um, hmid⟩ := hmid
          clear hp hgo hsw hst hown1
          generalize (go n x i).getD (i + j) 0 = vj at *
          generalize (go n x i).getD i 0 = vi at *
          have HL2 : Hid (((w1.setCell ⟨G, i, none⟩ (.int .i64 vj)).setCell ⟨G, i + j, none⟩ (.int .i64 vi)).drew.ownsRow G 3 1 (.slice (some ⟨G, 0, none⟩) n n) n (iv (go n x (i + 1)))) := Lib.hid hL2
          have HY2 : Hid (((w1.setCell ⟨G, i, none⟩ (.int .i64 vj)).setCell ⟨G, i + j, none⟩ (.int .i64 vi)).drew.ownsRow G 4 1 (.slice (some ⟨Gi, 0, none⟩) n n) n (vb (inX n x i) n)) := Lib.hid (own_at hy1 (by
            show ((w1.setCell ⟨G, i, none⟩ (.int .i64 vj)).setCell ⟨G, i + j, none⟩ (.int .i64 vi)).heap[Gi]? = _
            have := HGi.out
            rw [Below.heap_setCell _ _ _ _ (by show Gi ≠ G; omega), Below.heap_setCell _ _ _ _ (by show Gi ≠ G; omega)]))
          have HS2 : Hid (r1Src (((w1.setCell ⟨G, i, none⟩ (.int .i64 vj)).setCell ⟨G, i + j, none⟩ (.int .i64 vi)).drew) g (shk x (i + 1))) := Lib.hid (by
            show ((w1.setCell ⟨G, i, none⟩ (.int .i64 vj)).setCell ⟨G, i + j, none⟩ (.int .i64 vi)).heap[g]? = _
            rw [Below.heap_setCell _ _ _ _ (by show g ≠ G; omega), Below.heap_setCell _ _ _ _ (by show g ≠ G; omega)]
            exact HD3.out)
          have HB2 : Hid (But G g w (((w1.setCell ⟨G, i, none⟩ (.int .i64 vj)).setCell ⟨G, i + j, none⟩ (.int .i64 vi)).drew)) := Lib.hid (HD4.out.trans (But.of_below (((Below.refl G w1).setCell (Nat.le_refl _) _).setCell (Nat.le_refl _) _).drew))
          have hij : (i : Int) + (j : Int) < (n : Int) := by omega
          clear hL2 hy1 HD3 HD4
          go_wp2_with fail
          go_region
          all_goals
            clear hcI hcJ hfI hfJ hmid
            generalize ((w1.setCell ⟨G, i, none⟩ (.int .i64 vj)).setCell ⟨G, i + j, none⟩ (.int .i64 vi)).drew = w2 at *
            obtain ⟨p, hp⟩ : ∃ p : Nat, pk n x i = p := ⟨(pk n x i).toNat, by have := pk_bound (x := x) h2 (show i < n by omega); omega⟩
            have hpb := pk_bound (x := x) h2 (show i < n by omega)
            rw [hp] at hpb
            have hpi : (p : Int) < (n : Int) := hpb.2
            have hpl : p < n := by omega
            have hc16 := (HL2.out.cellAt i (by omega)).trans (iv_get _ i (by rw [go_length]; omega))
            have e16 : (go n x (i + 1)).getD i 0 = (p : Int) := hp
            rw [e16] at hc16
            have hfy := HY2.out.frozenAt p
            have hcy := (HY2.out.cellAt p (by omega)).trans (vb_get _ n p hpl)
            have hst3 := (HY2.out.stored p (.bool true)).1
            rw [vb_put _ n p true hpl] at hst3
            have e17 : put (inX n x i) p true = inX n x (i + 1) := by
              show _ = put (inX n x i) (pk n x i).toNat true
              rw [hp]; rfl
            rw [e17] at hst3
            have HSI3 : Hid (SI w g G Gi n x (i + 1) (w2.setCell ⟨Gi, p, none⟩ (.bool true))) := Lib.hid ⟨own_at HL2.out (Below.heap_setCell _ _ _ _ (by show G ≠ Gi; have := HGi.out; omega)), hst3, (Below.heap_setCell _ _ _ _ (by show g ≠ Gi; have := HGi.out; omega)).trans HS2.out, HB2.out.trans (But.of_below ((Below.refl G w2).setCell (by show G ≤ Gi; have := HGi.out; omega) _))⟩
            clear hp hpb e16 e17 hst3 HL2 HY2 HS2 HB2
            go_wp2_with fail
            go_roundw
            case rel => exact ⟨i + 1, by omega, by go_num, HSI3⟩
            case measure => simp [intOf]; omega
        · obtain rfl : K = i := by omega
          clear hlt
          obtain ⟨wE, rfl⟩ : ∃ W : World, W = wr := ⟨_, rfl⟩
          obtain ⟨X, hX⟩ : ∃ X, inX n x K = X := ⟨_, rfl⟩
          have HR := Lib.hid (Row.of_own HSI.out.y)
          rw [hX] at HR
          have HXE : Hid (ofL n ((L X n).map fun i : Nat => (i : Int)) = ofL n (some_ n x K)) := Lib.hid (by
            rw [ofL_L (by rw [← hX]; exact inX_lt h2 x hKn), ← hX]
            exact inX_eq h2 x hKn)
          have HBW := Lib.hid HSI.out.b
          clear hX HSI
          go_wp2_with fail
          go_loopw [12, 73] (fun q i wr => ∃ k s : Nat, k ≤ n ∧ i = .int .i64 k ∧ s ≤ k ∧ Hid ((L X k).length = s) ∧ Hid (wr.ownsRow wE.heap.size 3 1 q s (ni (L X k))) ∧ Hid (Below wE.heap.size wE wr)) (fun _ i _ => n - (intOf i).toNat)
          case atStart => exact ⟨0, 0, by omega, rfl, by omega, Lib.hid rfl, Lib.hid (World.ownsRow_nil _ _ _ _), Lib.hid (Below.refl _ _)⟩
          case round =>
            obtain ⟨k, s, hk, rfl, hs, hL, hown, hb⟩ := hrel
            have hbs := hb.out.size
            by_cases hlt : k < n
            · have hkn : (k : Int) < (n : Int) := by omega
              obtain ⟨b, o, e, _, hc⟩ := (HR.out.below hb.out).cellAt hlt (vb_get X n k hlt)
              injection e with e
              injection e with e1 e2
              subst e1 e2
              rw [Nat.zero_add] at hc
              cases hbit : X.testBit k with
              | true =>
                rw [hbit] at hc
                have HN : Hid (L X (k + 1) = L X k ++ [k]) := Lib.hid (by rw [L_snoc', hbit]; rfl)
                have hsum : Hid ([Value.int .i64 (k : Int)] = ni [k]) := Lib.hid rfl
                clear hbit
                go_wp2_with (at_builtin; refine wpList_app rfl (.tmp 79) (.tmp 81) 34 rfl wE.heap.size 3 i0 (.int .i64 0) 8 Tryd.underlying34 hi hz0 hz1 hz2 rfl _ s (ni (L X k)) rfl (own_below hown.out ((Below.refl _ _).alloc (Nat.le_refl _) _)) _ _ 1 1 _ rfl (row_new _ _ _ _) (by rw [hsum.out]; exact ni_one _) (by unfold maxLen; omega) (by omega) (by simp; omega) ?_; intro v2 w2 hown2 hg2 hat2)
                have hal : Below wr.heap.size wr (wr.alloc (.cells #[.int .i64 (k : Int)] 3)) := (Below.refl _ _).alloc (Nat.le_refl _) _
                have HB2 : Hid (Below wE.heap.size wE w2) := Lib.hid (below_app (hb.out.trans (hal.mono hbs)) (by simp; omega) (own_below hown.out hal) (Nat.le_refl _) hg2)
                have HO2 : Hid (w2.ownsRow wE.heap.size 3 1 v2 (s + 1) (ni (L X (k + 1)))) := Lib.hid (by
                  rw [HN.out, ni_append, ← hsum.out]; exact hown2)
                have HL2 : Hid ((L X (k + 1)).length = s + 1) := Lib.hid (by rw [HN.out, List.length_append, hL.out]; rfl)
                clear hg2 hat2 hown2 hal hown hL HN
                go_wp2_with fail
                go_roundw
                case rel => exact ⟨k + 1, s + 1, by omega, by go_num, by omega, HL2, HO2, HB2⟩
                case measure => simp [intOf]; omega
              | false =>
                rw [hbit] at hc
                have HN : L X (k + 1) = L X k := by rw [L_snoc', hbit]; simp
                rw [← HN] at hL hown
                clear hbit HN
                go_wp2_with fail
                go_roundw
                case rel => exact ⟨k + 1, s, by omega, by go_num, by omega, hL, hown, hb⟩
                case measure => simp [intOf]; omega
            · obtain rfl : n = k := by omega
              obtain ⟨A2, c2, rfl, _⟩ := own_slice hown.out
              have HBF : Hid (But w.heap.size g w wr) := Lib.hid (by rw [HG.out]; exact HBW.out.trans (But.of_below (hb.out.mono (Nat.le_trans (by have := HG.out; omega) HBW.out.size))))
              have HSL : Hid (s ≤ 256) := Lib.hid (by omega)
              clear hlt
              go_wp2_with fail
              go_ret
              exact ⟨A2, s, c2, _, rfl, Lib.hid (Row.of_own hown.out), Lib.hid ⟨HSL.out, HXE.out⟩, HBF⟩
end Go.Proofs.YtibleaaghhhjkaaDoor
