/- BlockTwice: a piece that is there twice makes no difference; in whatever order the sum is the same. For every input, no condition. -/
import Derived.Test.YtiogkokcoedonaaSumX
namespace Go.Proofs.Ytiogkokcoedonaa
open Go.ChangeShapes Go.WideShapes Go.ChangeAt Go.RowKit
set_option maxHeartbeats 3200000 in
theorem twice_walk (A0 : Option Addr) (n0 c0 : Nat) (l0 : List UInt8) (s t : Int) (x : Nat) (w : World) (hl0 : Row w w.heap.size A0 n0 (bv l0)) (hn0 : n0 ≤ c0) (hc0 : c0 ≤ 9223372036854775807) (ht1 : -9223372036854775808 ≤ t) (ht2 : t ≤ 9223372036854775807) (hx : x < 256) :
    Calls Try.prog 6 #[.slice A0 n0 c0, .int .i64 s, .int .i64 t, .int .u8 (x : Int)] w fun e w' => e = .returned (.bool true) ∧ Below w.heap.size w w' := by
  obtain ⟨c, hcN⟩ : ∃ c, BlkM.count n0 s = c := ⟨_, rfl⟩
  rcases Nat.eq_zero_or_pos c with h0 | h0
  · subst h0
    have HCN := Lib.hid hcN
    clear hcN ht1 ht2 hx
    go_enter Try.func6, Try.ntmps6
    go_wp2_with fail
    refine (split_no n0 c0 A0 s w HCN.out).mono ?_
    rintro e w1 ⟨rfl, hb1⟩
    go_wp2_with fail
    refine (sum_none 0 _ w1).mono ?_
    rintro e w2 ⟨A2, n2, c2, rfl, hn2, _, hb2⟩
    obtain rfl : n2 = 0 := hn2.out
    have HB2 : Hid (Below w.heap.size w w2) := hb1.trans (hb2.mono hb1.size)
    clear hn2 hb1 hb2
    go_wp2_with fail
    refine (awake10_any _).mono ?_
    rintro e w4 ⟨rfl, hb4⟩
    go_wp2_with fail
    go_ret
    exact ⟨rfl, HB2.out.trans (hb4.mono HB2.out.size)⟩
  obtain ⟨q1, q2, q3, q4, q5, q6, q7⟩ := count_facts n0 s c hcN h0
  obtain ⟨z, rfl⟩ : ∃ z : Nat, s = z := ⟨s.toNat, by omega⟩
  have hz1 : 1 ≤ z := by omega
  have hz2 : z ≤ 16 := by omega
  obtain ⟨k, hk, hkq⟩ := pick_in t (c : Int) (by omega) (by omega)
  have hwu : IntKind.u64.wrap (c : Int) = (c : Int) := by simp only [IntKind.wrap, IntKind.bits, IntKind.signed]; simp; omega
  have HKQ := Lib.hid hkq
  have HCN := Lib.hid hcN
  have hcc : ((c : Int) == 0) = false := by simp; omega
  have hcn0 : ¬ (c : Int) = 0 := by omega
  clear hcN hkq q1 q2 q3 q4 q6 q7
  go_enter Try.func6, Try.ntmps6
  go_wp2_with fail
  refine (split_ok w.heap.size n0 c0 z c A0 l0 w hl0 hn0 hc0 HCN.out h0 (Nat.le_refl _)).mono ?_
  rintro e w1 ⟨rfl, hS⟩
  have HS := Lib.hid hS
  have hcell : w1.cell? ⟨w.heap.size, 0, none⟩ = some (.slice (some ⟨w.heap.size + 1, 0, none⟩) z z) := by
    rw [cell_of_row _ _ 0 _ _ _ hS.2.1]; simp [pcs_get _ _ _ _ _ h0, h0]
  have hb1 := Lib.hid hS.2.2.2
  have hmk := mk_bytes z (by omega) w1
  clear hS
  go_upto_region 5 with fail
  rw [HKQ.out]
  clear HKQ hwu
  go_wp2_with fail
  clear hmk hcell
  go_loopw [42] (fun i wr => ∃ j : Nat, j ≤ z ∧ i = .int .i64 j ∧ ∃ q : List UInt8, Hid (wr.ownsRow w1.heap.size 5 1 (.slice (some ⟨w1.heap.size, 0, none⟩) z z) z (bv q)) ∧ Hid (Below w1.heap.size w1 wr)) (fun i _ => z - (intOf i).toNat)
  case atStart =>
    refine ⟨0, by omega, rfl, List.replicate z 0, ?_, (Below.refl _ _).alloc (Nat.le_refl _) _⟩
    have := own_lit (w := w1) (base := w1.heap.size) (g := w1.heap.size) (n := z) (e := 5) (Array.replicate z (.int .u8 0)) rfl (Nat.le_refl _) (by simp) (by unfold maxLen; omega)
    simpa [bv, Hid] using this
  case round =>
    obtain ⟨j, hj, rfl, q, hown, hbl⟩ := hrel
    have hql : q.length = z := by have := hown.out.1; simpa [bv] using this
    by_cases hlj : j < z
    · have hfz := hown.out.frozenAt j
      obtain ⟨u, hu⟩ : ∃ u : Nat, (bv q)[j]? = some (.int .u8 (u : Int)) := ⟨(q[j]'(by omega)).toNat, by simp [bv, hql, hlj]⟩
      have hcs := (hown.out.cellAt j (by omega)).trans hu
      have HST := Lib.hid (fun E => (hown.out.stored j (.int .u8 E)).1)
      have HPUT := Lib.hid (bv_put q j)
      have hji : (j : Int) < (z : Int) := by omega
      have hj16 : (j : Int) ≤ 16 := by omega
      clear hql hu
      go_wp2_with fail
      go_roundw
      case rel => exact ⟨j + 1, by omega, by go_num, q.set j _, by show World.ownsRow _ _ _ _ _ _ _; rw [← HPUT.out (((x : Int) + j) % 256) (by omega) (by omega)]; exact HST.out _, hbl.out.setCell (Nat.le_refl _) _⟩
      case measure => simp [intOf]; omega
    · obtain rfl : z = j := by omega
      obtain ⟨W0, rfl⟩ : ∃ W0 : World, W0 = wr := ⟨_, rfl⟩
      have HB0 : Hid (Below w.heap.size w W0) := hb1.out.trans (hbl.out.mono hb1.out.size)
      have HMR : Hid (Row W0 W0.heap.size (some ⟨w1.heap.size, 0, none⟩) z (bv q)) := Row.of_own hown.out
      obtain ⟨es, hes⟩ : ∃ es, splitRows l0 z c w.heap.size = es := ⟨_, rfl⟩
      have hrows := HS.out.rows
      rw [hes] at hrows
      have HRW : Hid (Rows2 W0 W0.heap.size (some ⟨w.heap.size, 0, none⟩) c es) := rows2_more (hrows.below hbl.out) hbl.out.size
      have HES : Hid (∀ r ∈ es, r.l.length = z ∧ r.n = z) := by
        intro r hr
        rw [← hes] at hr
        simp only [splitRows, List.mem_map, List.mem_range] at hr
        obtain ⟨i, _, rfl⟩ := hr
        exact ⟨BlkM.piece_length .., rfl⟩
      have HEL : Hid (es.length = c) := hrows.len
      have HQL : Hid (q.length = z) := hql
      have hkc : (k : Int) ≤ (c : Int) := by omega
      have hck : ¬ c = k := by omega
      clear hes hrows hown hbl HS hb1 hql
      obtain ⟨i0, hi, hy0, hy1, hy2⟩ := info_parts Try.info22
      go_upto_region 11 with fail
      have hone : ∀ u ∈ es.map BRow.val, u.oneCell' = true := by
        intro u hu
        obtain ⟨r, _, rfl⟩ := List.mem_map.1 hu
        rfl
      have HONE := Lib.hid hone
      have HRK : Hid (Row W0 W0.heap.size (some ⟨w.heap.size, k, none⟩) (c - k) ((es.map BRow.val).drop k)) := by
        have h1 := HRW.out.1.sub (k := k) (m := c - k) (A' := some ⟨w.heap.size, k, none⟩) (by omega) (fun b' o' e _ => by injection e with e; injection e with e1 e2; subst e1 e2; simp)
        rw [List.take_of_length_le (by rw [List.length_drop, List.length_map, HEL.out]; exact Nat.le_refl _)] at h1
        exact h1
      have HRT : Hid (Row W0 W0.heap.size (some ⟨w.heap.size, 0, none⟩) k ((es.map BRow.val).take k)) := by
        have h1 := HRW.out.1.sub (k := 0) (m := k) (A' := some ⟨w.heap.size, 0, none⟩) (by omega) (fun b' o' e _ => by injection e with e; injection e with e1 e2; subst e1 e2; simp)
        show Row _ _ _ _ _
        simpa using h1
      clear hone
      refine wp_region_noPanic ?_
      refine wp_region_held_drew (S := (fun W => Below W0.heap.size W0 W)) (by kernel_rfl) (Below.refl _ _).drew (fun hH0 => ?_)
      have hH0 : (fun W => Below W0.heap.size W0 W) W0.drew := hH0
      generalize W0.drew = wd at *
      refine wpAnyH_take (i := 1) (oi := { dst := some 54, op := Op.move (Operand.tmp 9), type := 23, pos := "law.go:94", after := #[], guard := none }) (v := ?tkv501) rfl (by kernel_rfl) (by kernel_rfl) (by kernel_rfl) (fun _ _ _ h => h) (Or.inl ⟨by rfl, ?tky501⟩) hH0 ?tkr501
      case tky501 => (intro w' hSw; clear hSw; go_simp; try with_reducible rfl)
      try simp only [Act.put, List.setIfInBounds_toArray, List.set_cons_zero, List.set_cons_succ]
      refine wpAnyH_take (i := 2) (oi := { dst := some 55, op := Op.move (Operand.tmp 10), type := 3, pos := "law.go:94", after := #[], guard := none }) (v := ?tkv502) rfl (by kernel_rfl) (by kernel_rfl) (by kernel_rfl) (fun _ _ _ h => h) (Or.inl ⟨by rfl, ?tky502⟩) hH0 ?tkr502
      case tky502 => (intro w' hSw; clear hSw; go_simp; try with_reducible rfl)
      try simp only [Act.put, List.setIfInBounds_toArray, List.set_cons_zero, List.set_cons_succ]
      refine wpAnyH_take (i := 3) (oi := { dst := some 56, op := Op.slice 23 (Operand.tmp 54) (some (Operand.tmp 55)) none none, type := 23, pos := "law.go:94", after := #[{ on := 1, ground := Ground.data }, { on := 2, ground := Ground.data }], guard := none }) (v := ?tkv503) rfl (by kernel_rfl) (by kernel_rfl) (by kernel_rfl) (fun _ _ _ h => h) (Or.inl ⟨by rfl, ?tky503⟩) hH0 ?tkr503
      case tky503 => (intro w' hSw; clear hSw; go_simp; try with_reducible rfl)
      try simp only [Act.put, List.setIfInBounds_toArray, List.set_cons_zero, List.set_cons_succ]
      refine wpAnyH_take (i := 5) (oi := { dst := some 58, op := Op.move (Operand.tmp 9), type := 23, pos := "law.go:94", after := #[], guard := none }) (v := ?tkv504) rfl (by kernel_rfl) (by kernel_rfl) (by kernel_rfl) (fun _ _ _ h => h) (Or.inl ⟨by rfl, ?tky504⟩) hH0 ?tkr504
      case tky504 => (intro w' hSw; clear hSw; go_simp; try with_reducible rfl)
      try simp only [Act.put, List.setIfInBounds_toArray, List.set_cons_zero, List.set_cons_succ]
      refine wpAnyH_take (i := 6) (oi := { dst := some 59, op := Op.move (Operand.tmp 10), type := 3, pos := "law.go:94", after := #[], guard := none }) (v := ?tkv505) rfl (by kernel_rfl) (by kernel_rfl) (by kernel_rfl) (fun _ _ _ h => h) (Or.inl ⟨by rfl, ?tky505⟩) hH0 ?tkr505
      case tky505 => (intro w' hSw; clear hSw; go_simp; try with_reducible rfl)
      try simp only [Act.put, List.setIfInBounds_toArray, List.set_cons_zero, List.set_cons_succ]
      refine wpAnyH_take (i := 7) (oi := { dst := some 60, op := Op.slice 23 (Operand.tmp 58) none (some (Operand.tmp 59)) none, type := 23, pos := "law.go:94", after := #[{ on := 5, ground := Ground.data }, { on := 6, ground := Ground.data }], guard := none }) (v := ?tkv506) rfl (by kernel_rfl) (by kernel_rfl) (by kernel_rfl) (fun _ _ _ h => h) (Or.inl ⟨by rfl, ?tky506⟩) hH0 ?tkr506
      case tky506 => (intro w' hSw; clear hSw; go_simp; try with_reducible rfl)
      try simp only [Act.put, List.setIfInBounds_toArray, List.set_cons_zero, List.set_cons_succ]
      refine wpAnyH_ready (rs := [0]) (by kernel_rfl) (by simp) ?_
      refine AllReadyH.cons (o := { dst := some 53, op := Op.buildSlice 23 0 #[], type := 23, pos := "law.go:94", after := #[], guard := none }) rfl (fun K hK => ?_) AllReadyH.nil
      go_simp
      obtain ⟨wa, hwa⟩ : ∃ wa, wa = wd.alloc (.cells #[] 22) := ⟨_, rfl⟩
      have hTa : wa.ownsRow W0.heap.size 22 1 (.slice (some ⟨wd.heap.size, 0, none⟩) 0 0) 0 [] := by
        rw [hwa]
        have := own_lit (w := wd) (base := W0.heap.size) (g := wd.heap.size) (n := 0) (e := 22) #[] rfl (hH0).size rfl (by unfold maxLen; omega)
        simpa using this
      have hSa : Below W0.heap.size W0 wa := by rw [hwa]; exact (hH0).alloc (hH0).size _
      rw [← hwa]
      clear hwa
      have hS507 : (fun W => Below W0.heap.size W0 W) wa := hSa
      refine hK.out _ _ hS507 (fun hH507 => ?_)
      clear hK K
      try simp only [Act.put, List.setIfInBounds_toArray, List.set_cons_zero, List.set_cons_succ]
      refine wpAnyH_ready (rs := [4]) (by kernel_rfl) (by simp) ?_
      refine AllReadyH.cons (o := { dst := some 57, op := Op.call { callee := Callee.builtin Builtin.append, args := #[Operand.tmp 53, Operand.tmp 56], argTypes := #[23, 23] }, type := 23, pos := "law.go:94", after := #[{ on := 0, ground := Ground.data }, { on := 3, ground := Ground.data }], guard := none }) rfl (fun K hK => ?_) AllReadyH.nil
      rw [if_pos (by rfl)]
      refine wp_app (.tmp 53) (.tmp 56) 23 rfl W0.heap.size 22 i0 (.slice none 0 0) 24 Try.underlying23 hi hy0 hy1 hy2 rfl _ (0) ([]) rfl hTa W0.heap.size (some ⟨w.heap.size, k, none⟩) (c - k) (c - k) ((es.map BRow.val).drop k) rfl (HRK.out.below hH507) (fun u hu => HONE.out u (List.mem_of_mem_drop hu)) (by unfold maxLen; omega) (by omega) (hH507).size ?_
      intro v4 w4 hT4 hg4 hat4
      have hS4 : Below W0.heap.size W0 w4 := below_app (hH507) (hH507).size hTa (Nat.le_refl _) hg4
      rw [Nat.zero_add, List.nil_append] at hT4
      obtain ⟨A4, c4, rfl, _⟩ := own_slice hT4
      clear hTa hat4 hg4
      have hS508 : (fun W => Below W0.heap.size W0 W) w4 := hS4
      refine hK.out _ _ hS508 (fun hH508 => ?_)
      clear hK K
      try simp only [Act.put, List.setIfInBounds_toArray, List.set_cons_zero, List.set_cons_succ]
      refine wpAnyH_ready (rs := [8]) (by kernel_rfl) (by simp) ?_
      refine AllReadyH.cons (o := { dst := some 61, op := Op.call { callee := Callee.builtin Builtin.append, args := #[Operand.tmp 57, Operand.tmp 60], argTypes := #[23, 23] }, type := 23, pos := "law.go:94", after := #[{ on := 4, ground := Ground.data }, { on := 7, ground := Ground.data }, { on := 4, ground := Ground.chain }], guard := none }) rfl (fun K hK => ?_) AllReadyH.nil
      rw [if_pos (by rfl)]
      refine wp_app (.tmp 57) (.tmp 60) 23 rfl W0.heap.size 22 i0 (.slice none 0 0) 24 Try.underlying23 hi hy0 hy1 hy2 rfl _ (c - k) ((es.map BRow.val).drop k) rfl hT4 W0.heap.size (some ⟨w.heap.size, 0, none⟩) k c ((es.map BRow.val).take k) rfl (HRT.out.below hH508) (fun u hu => HONE.out u (List.mem_of_mem_take hu)) (by unfold maxLen; omega) (by omega) (hH508).size ?_
      intro v8 w8 hT8 hg8 hat8
      have hS8 : Below W0.heap.size W0 w8 := below_app (hH508) (hH508).size hT4 (Nat.le_refl _) hg8
      rw [show c - k + k = c by omega] at hT8
      obtain ⟨A8, c8, rfl, _⟩ := own_slice hT8
      clear hT4 hat8 hg8
      have hS509 : (fun W => Below W0.heap.size W0 W) w8 := hS8
      refine hK.out _ _ hS509 (fun hH509 => ?_)
      clear hK K
      try simp only [Act.put, List.setIfInBounds_toArray, List.set_cons_zero, List.set_cons_succ]
      refine wpAnyH_take (i := 9) (oi := { dst := some 13, op := Op.assign (Operand.tmp 61), type := 23, pos := "law.go:94", after := #[{ on := 8, ground := Ground.data }, { on := 8, ground := Ground.chain }, { on := 0, ground := Ground.phase }, { on := 1, ground := Ground.phase }, { on := 2, ground := Ground.phase }, { on := 3, ground := Ground.phase }, { on := 4, ground := Ground.phase }, { on := 5, ground := Ground.phase }, { on := 6, ground := Ground.phase }, { on := 7, ground := Ground.phase }, { on := 8, ground := Ground.phase }], guard := none }) (v := ?tkv510) rfl (by kernel_rfl) (by kernel_rfl) (by kernel_rfl) (fun _ _ _ h => h) (Or.inl ⟨by rfl, ?tky510⟩) hH509 ?tkr510
      case tky510 => (intro w' hSw; clear hSw; go_simp; try with_reducible rfl)
      try simp only [Act.put, List.setIfInBounds_toArray, List.set_cons_zero, List.set_cons_succ]
      refine wpAnyH_done (by kernel_rfl) ?_ _
      refine NoPanic.normal ?_
      have HS8 : Hid (Below W0.heap.size W0 w8) := hH509
      have HT8 := Lib.hid hT8
      clear hT8 hck hkc
      go_wp2_with fail
      obtain ⟨ls, hls⟩ : ∃ ls, sumF (es.map (·.l)) = ls := ⟨_, rfl⟩
      have hne : es ≠ [] := fun e => by have := HEL.out; rw [e] at this; simp at this; omega
      have hlz : ∀ x ∈ es.map (·.l), x.length = z := fun x hx => by
        obtain ⟨r, hr, rfl⟩ := List.mem_map.1 hx
        exact (HES.out r hr).1
      have hlsz : ls.length = z := by rw [← hls]; exact sumF_length z _ (by simpa using hne) hlz
      have HLS := Lib.hid hls
      have HLSZ := Lib.hid hlsz
      have HTURN : Hid (sumF ((es.drop k ++ es.take k).map (·.l)) = ls) := by
        show _ = _
        rw [← hls, List.map_append, List.map_drop, List.map_take]
        exact sum_turn z k _ (by simpa using hne) hlz
      have HTWICE : Hid (∀ g' : Nat, sumF ((es.drop k ++ es.take k ++ [(⟨some ⟨g', 0, none⟩, z, z, q⟩ : BRow)] ++ [(⟨some ⟨g', 0, none⟩, z, z, q⟩ : BRow)]).map (·.l)) = ls) := by
        intro g'
        rw [← HTURN.out, List.map_append, List.map_append]
        refine sum_twice z _ q ?_ ?_ HQL.out
        · intro e
          have := congrArg List.length e
          simp only [List.length_map, List.length_append, List.length_drop, List.length_take, List.length_nil] at this
          have h2 := HEL.out
          omega
        · intro x hx
          obtain ⟨r, hr, rfl⟩ := List.mem_map.1 hx
          rcases List.mem_append.1 hr with hr | hr
          · exact (HES.out r (List.mem_of_mem_drop hr)).1
          · exact (HES.out r (List.mem_of_mem_take hr)).1
      have HLEN : Hid (∀ r ∈ es, r.n ≤ 1000000000) := fun r hr => by rw [(HES.out r hr).2]; omega
      clear hls hne hlz hlsz
      refine (sum_fresh W0.heap.size c c z _ es ls w8 (HRW.out.below HS8.out) (Nat.le_refl _) (by omega) HS8.out.size HLEN.out HLS.out HLSZ.out hz1).mono ?_
      rintro e w9 ⟨gs, cs, rfl, hrs, hgs, hb9⟩
      have HT9 : Hid (w9.ownsRow W0.heap.size 22 1 (.slice A8 c c8) c ((es.drop k ++ es.take k).map BRow.val)) := by
        have h1 := own_below HT8.out hb9
        show World.ownsRow _ _ _ _ _ _ _
        rw [List.map_append, List.map_drop, List.map_take]
        exact h1
      have HS9 : Hid (Below W0.heap.size W0 w9) := HS8.out.trans (hb9.mono HS8.out.size)
      have HNS : Hid ((Value.slice A8 c c8).ownBlock ≠ some gs) := own_ne HT8.out hgs.out.1
      have HGS : Hid (gs < w9.heap.size) := hgs.out.2
      have HKS := Lib.hid (Al.conv (c := cs) hrs.out)
      clear hrs hgs hb9 HT8 HS8
      go_upto_region 13 with fail
      refine wp_region_noPanic ?_
      refine wp_region_held_drew (S := (fun W => Below W0.heap.size W0 W ∧ Al gs w9 W)) (by kernel_rfl) ⟨HS9.out.drew, ⟨rfl, Nat.le_refl _⟩⟩ (fun hH0 => ?_)
      have hH0 : (fun W => Below W0.heap.size W0 W ∧ Al gs w9 W) w9.drew := hH0
      have HTD : w9.drew.ownsRow W0.heap.size 22 1 (.slice A8 c c8) c ((es.drop k ++ es.take k).map BRow.val) := HT9.out
      generalize w9.drew = wd2 at *
      refine wpAnyH_take (i := 0) (oi := { dst := some 64, op := Op.move (Operand.tmp 14), type := 22, pos := "law.go:96", after := #[], guard := none }) (v := ?tkv701) rfl (by kernel_rfl) (by kernel_rfl) (by kernel_rfl) (fun _ _ _ h => h) (Or.inl ⟨by rfl, ?tky701⟩) hH0 ?tkr701
      case tky701 => (intro w' hSw; clear hSw; go_simp; try with_reducible rfl)
      try simp only [Act.put, List.setIfInBounds_toArray, List.set_cons_zero, List.set_cons_succ]
      refine wpAnyH_take (i := 1) (oi := { dst := some 65, op := Op.call { callee := Callee.builtin Builtin.len, args := #[Operand.tmp 64], argTypes := #[22] }, type := 3, pos := "law.go:96", after := #[{ on := 0, ground := Ground.data }], guard := none }) (v := ?tkv702) rfl (by kernel_rfl) (by kernel_rfl) (by kernel_rfl) (fun _ _ _ h => h) (Or.inl ⟨by rfl, ?tky702⟩) hH0 ?tkr702
      case tky702 => (intro w' hSw; clear hSw; go_simp; try with_reducible rfl)
      try simp only [Act.put, List.setIfInBounds_toArray, List.set_cons_zero, List.set_cons_succ]
      refine wpAnyH_take (i := 2) (oi := { dst := some 66, op := Op.move (Operand.tmp 11), type := 22, pos := "law.go:96", after := #[], guard := none }) (v := ?tkv703) rfl (by kernel_rfl) (by kernel_rfl) (by kernel_rfl) (fun _ _ _ h => h) (Or.inl ⟨by rfl, ?tky703⟩) hH0 ?tkr703
      case tky703 => (intro w' hSw; clear hSw; go_simp; try with_reducible rfl)
      try simp only [Act.put, List.setIfInBounds_toArray, List.set_cons_zero, List.set_cons_succ]
      refine wpAnyH_take (i := 3) (oi := { dst := some 67, op := Op.call { callee := Callee.builtin Builtin.len, args := #[Operand.tmp 66], argTypes := #[22] }, type := 3, pos := "law.go:96", after := #[{ on := 2, ground := Ground.data }], guard := none }) (v := ?tkv704) rfl (by kernel_rfl) (by kernel_rfl) (by kernel_rfl) (fun _ _ _ h => h) (Or.inl ⟨by rfl, ?tky704⟩) hH0 ?tkr704
      case tky704 => (intro w' hSw; clear hSw; go_simp; try with_reducible rfl)
      try simp only [Act.put, List.setIfInBounds_toArray, List.set_cons_zero, List.set_cons_succ]
      refine wpAnyH_take (i := 4) (oi := { dst := some 68, op := Op.binOp BinOp.eql 3 (Operand.tmp 65) (Operand.tmp 67) 3, type := 4, pos := "law.go:96", after := #[{ on := 1, ground := Ground.data }, { on := 3, ground := Ground.data }], guard := none }) (v := ?tkv705) rfl (by kernel_rfl) (by kernel_rfl) (by kernel_rfl) (fun _ _ _ h => h) (Or.inl ⟨by rfl, ?tky705⟩) hH0 ?tkr705
      case tky705 => (intro w' hSw; clear hSw; go_simp; try with_reducible rfl)
      try simp only [Act.put, List.setIfInBounds_toArray, List.set_cons_zero, List.set_cons_succ]
      refine wpAnyH_take (i := 5) (oi := { dst := some 69, op := Op.move (Operand.tmp 68), type := 4, pos := "law.go:96", after := #[{ on := 4, ground := Ground.data }], guard := none }) (v := ?tkv706) rfl (by kernel_rfl) (by kernel_rfl) (by kernel_rfl) (fun _ _ _ h => h) (Or.inl ⟨by rfl, ?tky706⟩) hH0 ?tkr706
      case tky706 => (intro w' hSw; clear hSw; go_simp; try with_reducible rfl)
      try simp only [Act.put, List.setIfInBounds_toArray, List.set_cons_zero, List.set_cons_succ]
      refine wpAnyH_take (i := 6) (oi := { dst := some 70, op := Op.move (Operand.tmp 13), type := 23, pos := "law.go:96", after := #[{ on := 5, ground := Ground.guard }], guard := some (5, true) }) (v := ?tkv707) rfl (by kernel_rfl) (by kernel_rfl) (by kernel_rfl) (fun _ _ _ h => h) (Or.inl ⟨by rfl, ?tky707⟩) hH0 ?tkr707
      case tky707 => (intro w' hSw; clear hSw; go_simp; try with_reducible rfl)
      try simp only [Act.put, List.setIfInBounds_toArray, List.set_cons_zero, List.set_cons_succ]
      refine wpAnyH_take (i := 9) (oi := { dst := some 73, op := Op.move (Operand.tmp 14), type := 22, pos := "law.go:96", after := #[{ on := 5, ground := Ground.guard }], guard := some (5, true) }) (v := ?tkv708) rfl (by kernel_rfl) (by kernel_rfl) (by kernel_rfl) (fun _ _ _ h => h) (Or.inl ⟨by rfl, ?tky708⟩) hH0 ?tkr708
      case tky708 => (intro w' hSw; clear hSw; go_simp; try with_reducible rfl)
      try simp only [Act.put, List.setIfInBounds_toArray, List.set_cons_zero, List.set_cons_succ]
      refine wpAnyH_take (i := 10) (oi := { dst := some 74, op := Op.convert 22 9 (Operand.tmp 73), type := 9, pos := "law.go:96", after := #[{ on := 9, ground := Ground.data }, { on := 5, ground := Ground.guard }], guard := some (5, true) }) (v := ?tkv709) rfl (by kernel_rfl) (by kernel_rfl) (by kernel_rfl) (fun _ _ _ h => h) (Or.inl ⟨by rfl, ?tky709⟩) hH0 ?tkr709
      case tky709 => (intro w' hSw; have z0 := HKS.out _ hSw.2; clear hSw; go_simp; try with_reducible rfl)
      try simp only [Act.put, List.setIfInBounds_toArray, List.set_cons_zero, List.set_cons_succ]
      refine wpAnyH_ready (rs := [7]) (by kernel_rfl) (by simp) ?_
      refine AllReadyH.cons (o := { dst := some 71, op := Op.call { callee := Callee.value (Operand.func 18), args := #[Operand.tmp 70], argTypes := #[23] }, type := 22, pos := "law.go:96", after := #[{ on := 6, ground := Ground.data }, { on := 5, ground := Ground.chain }, { on := 5, ground := Ground.guard }], guard := some (5, true) }) rfl (fun K hK => ?_) AllReadyH.nil
      go_simp
      have hrw710 : Rows2 wd2 wd2.heap.size A8 (c) ((es.drop k ++ es.take k)) := by
        refine ⟨by have := Row.of_own HTD; simpa [BRow.val] using this, fun r hr => ?_⟩
        have hin : r ∈ es ∨ r = ⟨some ⟨w1.heap.size, 0, none⟩, z, z, q⟩ := by
          simp only [List.mem_append, List.mem_singleton] at hr
          rcases hr with hr | hr
          · exact .inl (List.mem_of_mem_drop hr)
          · exact .inl (List.mem_of_mem_take hr)
        rcases hin with hr | rfl
        · exact ((HRW.out.2 r hr).below (hH0.1)).more (hH0.1).size
        · exact (HMR.out.below (hH0.1)).more (hH0.1).size
      have hln710 : ∀ r ∈ ((es.drop k ++ es.take k)), r.n ≤ 1000000000 := by
        intro r hr
        have hin : r ∈ es ∨ r = ⟨some ⟨w1.heap.size, 0, none⟩, z, z, q⟩ := by
          simp only [List.mem_append, List.mem_singleton] at hr
          rcases hr with hr | hr
          · exact .inl (List.mem_of_mem_drop hr)
          · exact .inl (List.mem_of_mem_take hr)
        rcases hin with hr | rfl
        · exact HLEN.out r hr
        · show z ≤ _; omega
      refine (sum_fresh wd2.heap.size (c) c8 z A8 ((es.drop k ++ es.take k)) ls _ hrw710 (own_cap HTD).1 (own_cap HTD).2 (Nat.le_refl _) hln710 HTURN.out HLSZ.out hz1).mono ?_
      rintro e wp710 ⟨gp710, cp710, rfl, hr710, hg710, hb710⟩
      have hk710 := Lib.hid (Al.conv (c := cp710) hr710.out)
      have hT710 := own_below HTD hb710
      have hN710 := own_ne HTD hg710.out.1
      clear hrw710 hln710
      go_wp2_with fail
      have hS710 : (fun W => Below W0.heap.size W0 W ∧ Al gs w9 W) wp710 := ⟨(hH0.1).trans (hb710.mono (hH0.1).size), (hH0.2).below hb710 HGS.out⟩
      refine hK.out _ _ hS710 (fun hH710 => ?_)
      clear hK K
      try simp only [Act.put, List.setIfInBounds_toArray, List.set_cons_zero, List.set_cons_succ]
      have hG710 : (fun W => Below W0.heap.size W0 W ∧ Al gs w9 W ∧ Al gp710 wp710 W) wp710 := ⟨hS710.1, hS710.2, Al.refl _ _⟩
      refine wpAnyH_grow (S' := (fun W => Below W0.heap.size W0 W ∧ Al gs w9 W ∧ Al gp710 wp710 W)) (fun _ h => ⟨h.1, h.2.1⟩) _ _ _ _ ?_
      refine wpAnyH_take (i := 8) (oi := { dst := some 72, op := Op.convert 22 9 (Operand.tmp 71), type := 9, pos := "law.go:96", after := #[{ on := 7, ground := Ground.data }, { on := 5, ground := Ground.guard }], guard := some (5, true) }) (v := ?tkv711) rfl (by kernel_rfl) (by kernel_rfl) (by kernel_rfl) (fun _ _ _ h => h) (Or.inl ⟨by rfl, ?tky711⟩) hG710 ?tkr711
      case tky711 => (intro w' hSw; have z0 := HKS.out _ hSw.2.1; have z1 := hk710.out _ hSw.2.2; clear hSw; go_simp; try with_reducible rfl)
      try simp only [Act.put, List.setIfInBounds_toArray, List.set_cons_zero, List.set_cons_succ]
      refine wpAnyH_take (i := 11) (oi := { dst := some 75, op := Op.binOp BinOp.eql 9 (Operand.tmp 72) (Operand.tmp 74) 9, type := 4, pos := "law.go:96", after := #[{ on := 8, ground := Ground.data }, { on := 10, ground := Ground.data }, { on := 5, ground := Ground.guard }], guard := some (5, true) }) (v := ?tkv712) rfl (by kernel_rfl) (by kernel_rfl) (by kernel_rfl) (fun _ _ _ h => h) (Or.inl ⟨by rfl, ?tky712⟩) hG710 ?tkr712
      case tky712 => (intro w' hSw; clear hSw; go_simp; try with_reducible rfl)
      try simp only [Act.put, List.setIfInBounds_toArray, List.set_cons_zero, List.set_cons_succ]
      refine wpAnyH_take (i := 12) (oi := { dst := some 76, op := Op.pick (Operand.tmp 69) (Operand.tmp 75) (Operand.const (Value.bool false)), type := 4, pos := "law.go:96", after := #[{ on := 5, ground := Ground.data }, { on := 11, ground := Ground.data }], guard := none }) (v := ?tkv713) rfl (by kernel_rfl) (by kernel_rfl) (by kernel_rfl) (fun _ _ _ h => h) (Or.inl ⟨by rfl, ?tky713⟩) hG710 ?tkr713
      case tky713 => (intro w' hSw; clear hSw; go_simp; try with_reducible rfl)
      try simp only [Act.put, List.setIfInBounds_toArray, List.set_cons_zero, List.set_cons_succ]
      refine wpAnyH_take (i := 13) (oi := { dst := some 77, op := Op.move (Operand.tmp 76), type := 4, pos := "law.go:96", after := #[{ on := 12, ground := Ground.data }, { on := 7, ground := Ground.chain }], guard := none }) (v := ?tkv714) rfl (by kernel_rfl) (by kernel_rfl) (by kernel_rfl) (fun _ _ _ h => h) (Or.inl ⟨by rfl, ?tky714⟩) hG710 ?tkr714
      case tky714 => (intro w' hSw; clear hSw; go_simp; try with_reducible rfl)
      try simp only [Act.put, List.setIfInBounds_toArray, List.set_cons_zero, List.set_cons_succ]
      refine wpAnyH_take (i := 14) (oi := { dst := some 78, op := Op.move (Operand.tmp 13), type := 23, pos := "law.go:96", after := #[{ on := 13, ground := Ground.guard }], guard := some (13, true) }) (v := ?tkv715) rfl (by kernel_rfl) (by kernel_rfl) (by kernel_rfl) (fun _ _ _ h => h) (Or.inl ⟨by rfl, ?tky715⟩) hG710 ?tkr715
      case tky715 => (intro w' hSw; clear hSw; go_simp; try with_reducible rfl)
      try simp only [Act.put, List.setIfInBounds_toArray, List.set_cons_zero, List.set_cons_succ]
      refine wpAnyH_take (i := 15) (oi := { dst := some 79, op := Op.move (Operand.tmp 11), type := 22, pos := "law.go:96", after := #[{ on := 13, ground := Ground.guard }], guard := some (13, true) }) (v := ?tkv716) rfl (by kernel_rfl) (by kernel_rfl) (by kernel_rfl) (fun _ _ _ h => h) (Or.inl ⟨by rfl, ?tky716⟩) hG710 ?tkr716
      case tky716 => (intro w' hSw; clear hSw; go_simp; try with_reducible rfl)
      try simp only [Act.put, List.setIfInBounds_toArray, List.set_cons_zero, List.set_cons_succ]
      refine wpAnyH_take (i := 18) (oi := { dst := some 82, op := Op.move (Operand.tmp 11), type := 22, pos := "law.go:96", after := #[{ on := 13, ground := Ground.guard }], guard := some (13, true) }) (v := ?tkv717) rfl (by kernel_rfl) (by kernel_rfl) (by kernel_rfl) (fun _ _ _ h => h) (Or.inl ⟨by rfl, ?tky717⟩) hG710 ?tkr717
      case tky717 => (intro w' hSw; clear hSw; go_simp; try with_reducible rfl)
      try simp only [Act.put, List.setIfInBounds_toArray, List.set_cons_zero, List.set_cons_succ]
      refine wpAnyH_take (i := 23) (oi := { dst := some 87, op := Op.move (Operand.tmp 14), type := 22, pos := "law.go:96", after := #[{ on := 13, ground := Ground.guard }], guard := some (13, true) }) (v := ?tkv718) rfl (by kernel_rfl) (by kernel_rfl) (by kernel_rfl) (fun _ _ _ h => h) (Or.inl ⟨by rfl, ?tky718⟩) hG710 ?tkr718
      case tky718 => (intro w' hSw; clear hSw; go_simp; try with_reducible rfl)
      try simp only [Act.put, List.setIfInBounds_toArray, List.set_cons_zero, List.set_cons_succ]
      refine wpAnyH_take (i := 24) (oi := { dst := some 88, op := Op.convert 22 9 (Operand.tmp 87), type := 9, pos := "law.go:96", after := #[{ on := 23, ground := Ground.data }, { on := 13, ground := Ground.guard }], guard := some (13, true) }) (v := ?tkv719) rfl (by kernel_rfl) (by kernel_rfl) (by kernel_rfl) (fun _ _ _ h => h) (Or.inl ⟨by rfl, ?tky719⟩) hG710 ?tkr719
      case tky719 => (intro w' hSw; have z0 := HKS.out _ hSw.2.1; have z1 := hk710.out _ hSw.2.2; clear hSw; go_simp; try with_reducible rfl)
      try simp only [Act.put, List.setIfInBounds_toArray, List.set_cons_zero, List.set_cons_succ]
      refine wpAnyH_ready (rs := [16, 19]) (by kernel_rfl) (by simp) ?_
      refine AllReadyH.cons (o := { dst := some 80, op := Op.buildSlice 23 1 #[(0, Operand.tmp 79)], type := 23, pos := "law.go:96", after := #[{ on := 15, ground := Ground.data }, { on := 13, ground := Ground.guard }], guard := some (13, true) }) rfl (fun K hK => ?_) (AllReadyH.cons (o := { dst := some 83, op := Op.buildSlice 23 1 #[(0, Operand.tmp 82)], type := 23, pos := "law.go:96", after := #[{ on := 18, ground := Ground.data }, { on := 13, ground := Ground.guard }], guard := some (13, true) }) rfl (fun K hK => ?_) AllReadyH.nil)
      · go_simp
        obtain ⟨wb720, hw720⟩ : ∃ w', w' = wp710.alloc (.cells #[(Value.slice (some (⟨w1.heap.size, 0, none⟩ : Addr)) z z)] 22) := ⟨_, rfl⟩
        have hb720 : Below wp710.heap.size wp710 wb720 := by rw [hw720]; exact (Below.refl _ _).alloc (Nat.le_refl _) _
        have hx720 : wb720.heap[wp710.heap.size]? = some (.cells #[(Value.slice (some (⟨w1.heap.size, 0, none⟩ : Addr)) z z)] 22 (0, 0)) := by rw [hw720]; exact heap_alloc_new _ _
        have hT720 := own_below hT710 hb720
        have hN720 := own_ne hT710 (Nat.le_refl _)
        rw [← hw720]
        clear hw720
        have hS720 : (fun W => Below W0.heap.size W0 W ∧ Al gs w9 W ∧ Al gp710 wp710 W) wb720 := ⟨(hG710.1).trans (hb720.mono (hG710.1).size), (hG710.2.1).below hb720 HGS.out, (hG710.2.2).below hb720 hg710.out.2⟩
        refine hK.out _ _ hS720 (fun hH720 => ?_)
        clear hK K
        try simp only [Act.put, List.setIfInBounds_toArray, List.set_cons_zero, List.set_cons_succ]
        refine wpAnyH_ready (rs := [17, 19]) (by kernel_rfl) (by simp) ?_
        refine AllReadyH.cons (o := { dst := some 81, op := Op.call { callee := Callee.builtin Builtin.append, args := #[Operand.tmp 78, Operand.tmp 80], argTypes := #[23, 23] }, type := 23, pos := "law.go:96", after := #[{ on := 14, ground := Ground.data }, { on := 16, ground := Ground.data }, { on := 13, ground := Ground.chain }, { on := 13, ground := Ground.guard }], guard := some (13, true) }) rfl (fun K hK => ?_) (AllReadyH.cons (o := { dst := some 83, op := Op.buildSlice 23 1 #[(0, Operand.tmp 82)], type := 23, pos := "law.go:96", after := #[{ on := 18, ground := Ground.data }, { on := 13, ground := Ground.guard }], guard := some (13, true) }) rfl (fun K hK => ?_) AllReadyH.nil)
        · rw [if_pos (by rfl)]
          refine wp_app (.tmp 78) (.tmp 80) 23 rfl W0.heap.size 22 i0 (.slice none 0 0) 24 Try.underlying23 hi hy0 hy1 hy2 rfl _ (c) ((es.drop k ++ es.take k).map BRow.val) rfl hT720 _ (some ⟨wp710.heap.size, 0, none⟩) 1 1 ([(Value.slice (some (⟨w1.heap.size, 0, none⟩ : Addr)) z z)]) rfl (news_row hx720) (by intro u hu; rw [List.mem_singleton.1 hu]; rfl) (by unfold maxLen; omega) (by omega) (hH720.1).size ?_
          intro v721 wa721 hT721 hq721 hat721
          have hbl721 : Below W0.heap.size W0 wa721 := below_app (hH720.1) (hH720.1).size hT720 (Nat.le_refl _) hq721
          have hm721_0 := app_ne (v' := v721) HNS.out (Nat.lt_of_lt_of_le HGS.out (hH720.2.1).2) hat721
          have hm721_1 := app_ne (v' := v721) hN710 (Nat.lt_of_lt_of_le hg710.out.2 (hH720.2.2).2) hat721
          obtain ⟨A721, c721, rfl, _⟩ := own_slice hT721
          have hS721 : (fun W => Below W0.heap.size W0 W ∧ Al gs w9 W ∧ Al gp710 wp710 W) wa721 := ⟨hbl721, (hH720.2.1).grown hq721 HGS.out HNS.out, (hH720.2.2).grown hq721 hg710.out.2 hN710⟩
          refine hK.out _ _ hS721 (fun hH721 => ?_)
          clear hK K
          try simp only [Act.put, List.setIfInBounds_toArray, List.set_cons_zero, List.set_cons_succ]
          refine wpAnyH_ready (rs := [19]) (by kernel_rfl) (by simp) ?_
          refine AllReadyH.cons (o := { dst := some 83, op := Op.buildSlice 23 1 #[(0, Operand.tmp 82)], type := 23, pos := "law.go:96", after := #[{ on := 18, ground := Ground.data }, { on := 13, ground := Ground.guard }], guard := some (13, true) }) rfl (fun K hK => ?_) AllReadyH.nil
          go_simp
          obtain ⟨wb722, hw722⟩ : ∃ w', w' = wa721.alloc (.cells #[(Value.slice (some (⟨w1.heap.size, 0, none⟩ : Addr)) z z)] 22) := ⟨_, rfl⟩
          have hb722 : Below wa721.heap.size wa721 wb722 := by rw [hw722]; exact (Below.refl _ _).alloc (Nat.le_refl _) _
          have hx722 : wb722.heap[wa721.heap.size]? = some (.cells #[(Value.slice (some (⟨w1.heap.size, 0, none⟩ : Addr)) z z)] 22 (0, 0)) := by rw [hw722]; exact heap_alloc_new _ _
          have hT722 := own_below hT721 hb722
          have hN722 := own_ne hT721 (Nat.le_refl _)
          rw [← hw722]
          clear hw722
          have hS722 : (fun W => Below W0.heap.size W0 W ∧ Al gs w9 W ∧ Al gp710 wp710 W) wb722 := ⟨(hH721.1).trans (hb722.mono (hH721.1).size), (hH721.2.1).below hb722 HGS.out, (hH721.2.2).below hb722 hg710.out.2⟩
          refine hK.out _ _ hS722 (fun hH722 => ?_)
          clear hK K
          try simp only [Act.put, List.setIfInBounds_toArray, List.set_cons_zero, List.set_cons_succ]
          refine wpAnyH_ready (rs := [20]) (by kernel_rfl) (by simp) ?_
          refine AllReadyH.cons (o := { dst := some 84, op := Op.call { callee := Callee.builtin Builtin.append, args := #[Operand.tmp 81, Operand.tmp 83], argTypes := #[23, 23] }, type := 23, pos := "law.go:96", after := #[{ on := 17, ground := Ground.data }, { on := 19, ground := Ground.data }, { on := 17, ground := Ground.chain }, { on := 13, ground := Ground.guard }], guard := some (13, true) }) rfl (fun K hK => ?_) AllReadyH.nil
          rw [if_pos (by rfl)]
          refine wp_app (.tmp 81) (.tmp 83) 23 rfl W0.heap.size 22 i0 (.slice none 0 0) 24 Try.underlying23 hi hy0 hy1 hy2 rfl _ (c + 1) ((es.drop k ++ es.take k).map BRow.val ++ [(Value.slice (some (⟨w1.heap.size, 0, none⟩ : Addr)) z z)]) rfl hT722 _ (some ⟨wa721.heap.size, 0, none⟩) 1 1 ([(Value.slice (some (⟨w1.heap.size, 0, none⟩ : Addr)) z z)]) rfl (news_row hx722) (by intro u hu; rw [List.mem_singleton.1 hu]; rfl) (by unfold maxLen; omega) (by omega) (hH722.1).size ?_
          intro v723 wa723 hT723 hq723 hat723
          have hbl723 : Below W0.heap.size W0 wa723 := below_app (hH722.1) (hH722.1).size hT722 (Nat.le_refl _) hq723
          have hm723_0 := app_ne (v' := v723) hm721_0 (Nat.lt_of_lt_of_le HGS.out (hH722.2.1).2) hat723
          have hm723_1 := app_ne (v' := v723) hm721_1 (Nat.lt_of_lt_of_le hg710.out.2 (hH722.2.2).2) hat723
          obtain ⟨A723, c723, rfl, _⟩ := own_slice hT723
          have hS723 : (fun W => Below W0.heap.size W0 W ∧ Al gs w9 W ∧ Al gp710 wp710 W) wa723 := ⟨hbl723, (hH722.2.1).grown hq723 HGS.out hm721_0, (hH722.2.2).grown hq723 hg710.out.2 hm721_1⟩
          refine hK.out _ _ hS723 (fun hH723 => ?_)
          clear hK K
          try simp only [Act.put, List.setIfInBounds_toArray, List.set_cons_zero, List.set_cons_succ]
          refine wpAnyH_ready (rs := [21]) (by kernel_rfl) (by simp) ?_
          refine AllReadyH.cons (o := { dst := some 85, op := Op.call { callee := Callee.value (Operand.func 18), args := #[Operand.tmp 84], argTypes := #[23] }, type := 22, pos := "law.go:96", after := #[{ on := 20, ground := Ground.data }, { on := 20, ground := Ground.chain }, { on := 13, ground := Ground.guard }], guard := some (13, true) }) rfl (fun K hK => ?_) AllReadyH.nil
          go_simp
          have hrw724 : Rows2 wa723 wa723.heap.size A723 (c + 1 + 1) ((es.drop k ++ es.take k) ++ [(⟨some ⟨w1.heap.size, 0, none⟩, z, z, q⟩ : BRow)] ++ [(⟨some ⟨w1.heap.size, 0, none⟩, z, z, q⟩ : BRow)]) := by
            refine ⟨by have := Row.of_own hT723; simpa [BRow.val] using this, fun r hr => ?_⟩
            have hin : r ∈ es ∨ r = ⟨some ⟨w1.heap.size, 0, none⟩, z, z, q⟩ := by
              simp only [List.mem_append, List.mem_singleton] at hr
              rcases hr with ((hr | hr) | hr) | hr
              · exact .inl (List.mem_of_mem_drop hr)
              · exact .inl (List.mem_of_mem_take hr)
              · exact .inr hr
              · exact .inr hr
            rcases hin with hr | rfl
            · exact ((HRW.out.2 r hr).below (hH723.1)).more (hH723.1).size
            · exact (HMR.out.below (hH723.1)).more (hH723.1).size
          have hln724 : ∀ r ∈ ((es.drop k ++ es.take k) ++ [(⟨some ⟨w1.heap.size, 0, none⟩, z, z, q⟩ : BRow)] ++ [(⟨some ⟨w1.heap.size, 0, none⟩, z, z, q⟩ : BRow)]), r.n ≤ 1000000000 := by
            intro r hr
            have hin : r ∈ es ∨ r = ⟨some ⟨w1.heap.size, 0, none⟩, z, z, q⟩ := by
              simp only [List.mem_append, List.mem_singleton] at hr
              rcases hr with ((hr | hr) | hr) | hr
              · exact .inl (List.mem_of_mem_drop hr)
              · exact .inl (List.mem_of_mem_take hr)
              · exact .inr hr
              · exact .inr hr
            rcases hin with hr | rfl
            · exact HLEN.out r hr
            · show z ≤ _; omega
          refine (sum_fresh wa723.heap.size (c + 1 + 1) c723 z A723 ((es.drop k ++ es.take k) ++ [(⟨some ⟨w1.heap.size, 0, none⟩, z, z, q⟩ : BRow)] ++ [(⟨some ⟨w1.heap.size, 0, none⟩, z, z, q⟩ : BRow)]) ls _ hrw724 (own_cap hT723).1 (own_cap hT723).2 (Nat.le_refl _) hln724 (HTWICE.out _) HLSZ.out hz1).mono ?_
          rintro e wr724 ⟨gr724, cr724, rfl, hr724, hg724, hb724⟩
          have hk724 := Lib.hid (Al.conv (c := cr724) hr724.out)
          have hT724 := own_below hT723 hb724
          have hN724 := own_ne hT723 hg724.out.1
          clear hrw724 hln724
          go_wp2_with fail
          have hS724 : (fun W => Below W0.heap.size W0 W ∧ Al gs w9 W ∧ Al gp710 wp710 W) wr724 := ⟨(hH723.1).trans (hb724.mono (hH723.1).size), (hH723.2.1).below hb724 HGS.out, (hH723.2.2).below hb724 hg710.out.2⟩
          refine hK.out _ _ hS724 (fun hH724 => ?_)
          clear hK K
          try simp only [Act.put, List.setIfInBounds_toArray, List.set_cons_zero, List.set_cons_succ]
          have hG724 : (fun W => Below W0.heap.size W0 W ∧ Al gs w9 W ∧ Al gp710 wp710 W ∧ Al gr724 wr724 W) wr724 := ⟨hS724.1, hS724.2.1, hS724.2.2, Al.refl _ _⟩
          refine wpAnyH_grow (S' := (fun W => Below W0.heap.size W0 W ∧ Al gs w9 W ∧ Al gp710 wp710 W ∧ Al gr724 wr724 W)) (fun _ h => ⟨h.1, h.2.1, h.2.2.1⟩) _ _ _ _ ?_
          refine wpAnyH_take (i := 22) (oi := { dst := some 86, op := Op.convert 22 9 (Operand.tmp 85), type := 9, pos := "law.go:96", after := #[{ on := 21, ground := Ground.data }, { on := 13, ground := Ground.guard }], guard := some (13, true) }) (v := ?tkv725) rfl (by kernel_rfl) (by kernel_rfl) (by kernel_rfl) (fun _ _ _ h => h) (Or.inl ⟨by rfl, ?tky725⟩) hG724 ?tkr725
          case tky725 => (intro w' hSw; have z0 := HKS.out _ hSw.2.1; have z1 := hk710.out _ hSw.2.2.1; have z2 := hk724.out _ hSw.2.2.2; clear hSw; go_simp; try with_reducible rfl)
          try simp only [Act.put, List.setIfInBounds_toArray, List.set_cons_zero, List.set_cons_succ]
          refine wpAnyH_take (i := 25) (oi := { dst := some 89, op := Op.binOp BinOp.eql 9 (Operand.tmp 86) (Operand.tmp 88) 9, type := 4, pos := "law.go:96", after := #[{ on := 22, ground := Ground.data }, { on := 24, ground := Ground.data }, { on := 13, ground := Ground.guard }], guard := some (13, true) }) (v := ?tkv726) rfl (by kernel_rfl) (by kernel_rfl) (by kernel_rfl) (fun _ _ _ h => h) (Or.inl ⟨by rfl, ?tky726⟩) hG724 ?tkr726
          case tky726 => (intro w' hSw; clear hSw; go_simp; try with_reducible rfl)
          try simp only [Act.put, List.setIfInBounds_toArray, List.set_cons_zero, List.set_cons_succ]
          refine wpAnyH_take (i := 26) (oi := { dst := some 90, op := Op.pick (Operand.tmp 77) (Operand.tmp 89) (Operand.const (Value.bool false)), type := 4, pos := "law.go:96", after := #[{ on := 13, ground := Ground.data }, { on := 25, ground := Ground.data }], guard := none }) (v := ?tkv727) rfl (by kernel_rfl) (by kernel_rfl) (by kernel_rfl) (fun _ _ _ h => h) (Or.inl ⟨by rfl, ?tky727⟩) hG724 ?tkr727
          case tky727 => (intro w' hSw; clear hSw; go_simp; try with_reducible rfl)
          try simp only [Act.put, List.setIfInBounds_toArray, List.set_cons_zero, List.set_cons_succ]
          refine wpAnyH_take (i := 27) (oi := { dst := some 91, op := Op.move (Operand.tmp 90), type := 4, pos := "law.go:96", after := #[{ on := 26, ground := Ground.data }, { on := 21, ground := Ground.chain }], guard := none }) (v := ?tkv728) rfl (by kernel_rfl) (by kernel_rfl) (by kernel_rfl) (fun _ _ _ h => h) (Or.inl ⟨by rfl, ?tky728⟩) hG724 ?tkr728
          case tky728 => (intro w' hSw; clear hSw; go_simp; try with_reducible rfl)
          try simp only [Act.put, List.setIfInBounds_toArray, List.set_cons_zero, List.set_cons_succ]
          refine wpAnyH_ready (rs := [28]) (by kernel_rfl) (by simp) ?_
          refine AllReadyH.cons (o := { dst := some 92, op := Op.call { callee := Callee.value (Operand.func 10), args := #[], argTypes := #[] }, type := 4, pos := "law.go:96", after := #[{ on := 27, ground := Ground.chain }, { on := 27, ground := Ground.guard }], guard := some (27, true) }) rfl (fun K hK => ?_) AllReadyH.nil
          go_simp
          refine (awake10_any _).mono ?_
          rintro e we729 ⟨rfl, hb729⟩
          go_wp2_with fail
          have hS729 : (fun W => Below W0.heap.size W0 W ∧ Al gs w9 W ∧ Al gp710 wp710 W ∧ Al gr724 wr724 W) we729 := ⟨(hG724.1).trans (hb729.mono (hG724.1).size), (hG724.2.1).below hb729 HGS.out, (hG724.2.2.1).below hb729 hg710.out.2, (hG724.2.2.2).below hb729 hg724.out.2⟩
          refine hK.out _ _ hS729 (fun hH729 => ?_)
          clear hK K
          try simp only [Act.put, List.setIfInBounds_toArray, List.set_cons_zero, List.set_cons_succ]
          refine wpAnyH_take (i := 29) (oi := { dst := some 93, op := Op.pick (Operand.tmp 91) (Operand.tmp 92) (Operand.const (Value.bool false)), type := 4, pos := "law.go:96", after := #[{ on := 27, ground := Ground.data }, { on := 28, ground := Ground.data }], guard := none }) (v := ?tkv730) rfl (by kernel_rfl) (by kernel_rfl) (by kernel_rfl) (fun _ _ _ h => h) (Or.inl ⟨by rfl, ?tky730⟩) hH729 ?tkr730
          case tky730 => (intro w' hSw; clear hSw; go_simp; try with_reducible rfl)
          try simp only [Act.put, List.setIfInBounds_toArray, List.set_cons_zero, List.set_cons_succ]
          refine wpAnyH_take (i := 30) (oi := { dst := some 8, op := Op.assign (Operand.tmp 93), type := 4, pos := "law.go:96", after := #[{ on := 29, ground := Ground.data }, { on := 28, ground := Ground.chain }, { on := 0, ground := Ground.phase }, { on := 1, ground := Ground.phase }, { on := 2, ground := Ground.phase }, { on := 3, ground := Ground.phase }, { on := 4, ground := Ground.phase }, { on := 5, ground := Ground.phase }, { on := 6, ground := Ground.phase }, { on := 7, ground := Ground.phase }, { on := 8, ground := Ground.phase }, { on := 9, ground := Ground.phase }, { on := 10, ground := Ground.phase }, { on := 11, ground := Ground.phase }, { on := 12, ground := Ground.phase }, { on := 13, ground := Ground.phase }, { on := 14, ground := Ground.phase }, { on := 15, ground := Ground.phase }, { on := 16, ground := Ground.phase }, { on := 17, ground := Ground.phase }, { on := 18, ground := Ground.phase }, { on := 19, ground := Ground.phase }, { on := 20, ground := Ground.phase }, { on := 21, ground := Ground.phase }, { on := 22, ground := Ground.phase }, { on := 23, ground := Ground.phase }, { on := 24, ground := Ground.phase }, { on := 25, ground := Ground.phase }, { on := 26, ground := Ground.phase }, { on := 27, ground := Ground.phase }, { on := 28, ground := Ground.phase }, { on := 29, ground := Ground.phase }], guard := none }) (v := ?tkv731) rfl (by kernel_rfl) (by kernel_rfl) (by kernel_rfl) (fun _ _ _ h => h) (Or.inl ⟨by rfl, ?tky731⟩) hH729 ?tkr731
          case tky731 => (intro w' hSw; clear hSw; go_simp; try with_reducible rfl)
          try simp only [Act.put, List.setIfInBounds_toArray, List.set_cons_zero, List.set_cons_succ]
          refine wpAnyH_done (by kernel_rfl) ?_ _
          refine NoPanic.normal ?_
          have hEnd : Below w.heap.size w _ := HB0.out.trans ((hH729.1).mono HB0.out.size)
          go_wp2_with fail
          go_ret
          exact ⟨rfl, hEnd⟩
        · go_simp
          obtain ⟨wb732, hw732⟩ : ∃ w', w' = wb720.alloc (.cells #[(Value.slice (some (⟨w1.heap.size, 0, none⟩ : Addr)) z z)] 22) := ⟨_, rfl⟩
          have hb732 : Below wb720.heap.size wb720 wb732 := by rw [hw732]; exact (Below.refl _ _).alloc (Nat.le_refl _) _
          have hx732 : wb732.heap[wb720.heap.size]? = some (.cells #[(Value.slice (some (⟨w1.heap.size, 0, none⟩ : Addr)) z z)] 22 (0, 0)) := by rw [hw732]; exact heap_alloc_new _ _
          have hT732 := own_below hT720 hb732
          have hN732 := own_ne hT720 (Nat.le_refl _)
          have hx732m := (hb732.block _ (Array.getElem?_eq_some_iff.1 hx720).1).trans hx720
          rw [← hw732]
          clear hw732
          have hS732 : (fun W => Below W0.heap.size W0 W ∧ Al gs w9 W ∧ Al gp710 wp710 W) wb732 := ⟨(hH720.1).trans (hb732.mono (hH720.1).size), (hH720.2.1).below hb732 HGS.out, (hH720.2.2).below hb732 hg710.out.2⟩
          refine hK.out _ _ hS732 (fun hH732 => ?_)
          clear hK K
          try simp only [Act.put, List.setIfInBounds_toArray, List.set_cons_zero, List.set_cons_succ]
          refine wpAnyH_ready (rs := [17]) (by kernel_rfl) (by simp) ?_
          refine AllReadyH.cons (o := { dst := some 81, op := Op.call { callee := Callee.builtin Builtin.append, args := #[Operand.tmp 78, Operand.tmp 80], argTypes := #[23, 23] }, type := 23, pos := "law.go:96", after := #[{ on := 14, ground := Ground.data }, { on := 16, ground := Ground.data }, { on := 13, ground := Ground.chain }, { on := 13, ground := Ground.guard }], guard := some (13, true) }) rfl (fun K hK => ?_) AllReadyH.nil
          rw [if_pos (by rfl)]
          refine wp_app (.tmp 78) (.tmp 80) 23 rfl W0.heap.size 22 i0 (.slice none 0 0) 24 Try.underlying23 hi hy0 hy1 hy2 rfl _ (c) ((es.drop k ++ es.take k).map BRow.val) rfl hT732 _ (some ⟨wp710.heap.size, 0, none⟩) 1 1 ([(Value.slice (some (⟨w1.heap.size, 0, none⟩ : Addr)) z z)]) rfl (news_row hx732m) (by intro u hu; rw [List.mem_singleton.1 hu]; rfl) (by unfold maxLen; omega) (by omega) (hH732.1).size ?_
          intro v733 wa733 hT733 hq733 hat733
          have hbl733 : Below W0.heap.size W0 wa733 := below_app (hH732.1) (hH732.1).size hT732 (Nat.le_refl _) hq733
          have hm733_0 := app_ne (v' := v733) HNS.out (Nat.lt_of_lt_of_le HGS.out (hH732.2.1).2) hat733
          have hm733_1 := app_ne (v' := v733) hN710 (Nat.lt_of_lt_of_le hg710.out.2 (hH732.2.2).2) hat733
          have hx733n := (hq733.block _ (Array.getElem?_eq_some_iff.1 hx732).1 (fun e => hN732 e.symm)).trans hx732
          have hm733n := app_ne (v' := v733) hN732 (Array.getElem?_eq_some_iff.1 hx732).1 hat733
          obtain ⟨A733, c733, rfl, _⟩ := own_slice hT733
          have hS733 : (fun W => Below W0.heap.size W0 W ∧ Al gs w9 W ∧ Al gp710 wp710 W) wa733 := ⟨hbl733, (hH732.2.1).grown hq733 HGS.out HNS.out, (hH732.2.2).grown hq733 hg710.out.2 hN710⟩
          refine hK.out _ _ hS733 (fun hH733 => ?_)
          clear hK K
          try simp only [Act.put, List.setIfInBounds_toArray, List.set_cons_zero, List.set_cons_succ]
          refine wpAnyH_ready (rs := [20]) (by kernel_rfl) (by simp) ?_
          refine AllReadyH.cons (o := { dst := some 84, op := Op.call { callee := Callee.builtin Builtin.append, args := #[Operand.tmp 81, Operand.tmp 83], argTypes := #[23, 23] }, type := 23, pos := "law.go:96", after := #[{ on := 17, ground := Ground.data }, { on := 19, ground := Ground.data }, { on := 17, ground := Ground.chain }, { on := 13, ground := Ground.guard }], guard := some (13, true) }) rfl (fun K hK => ?_) AllReadyH.nil
          rw [if_pos (by rfl)]
          refine wp_app (.tmp 81) (.tmp 83) 23 rfl W0.heap.size 22 i0 (.slice none 0 0) 24 Try.underlying23 hi hy0 hy1 hy2 rfl _ (c + 1) ((es.drop k ++ es.take k).map BRow.val ++ [(Value.slice (some (⟨w1.heap.size, 0, none⟩ : Addr)) z z)]) rfl hT733 _ (some ⟨wb720.heap.size, 0, none⟩) 1 1 ([(Value.slice (some (⟨w1.heap.size, 0, none⟩ : Addr)) z z)]) rfl (news_row hx733n) (by intro u hu; rw [List.mem_singleton.1 hu]; rfl) (by unfold maxLen; omega) (by omega) (hH733.1).size ?_
          intro v734 wa734 hT734 hq734 hat734
          have hbl734 : Below W0.heap.size W0 wa734 := below_app (hH733.1) (hH733.1).size hT733 (Nat.le_refl _) hq734
          have hm734_0 := app_ne (v' := v734) hm733_0 (Nat.lt_of_lt_of_le HGS.out (hH733.2.1).2) hat734
          have hm734_1 := app_ne (v' := v734) hm733_1 (Nat.lt_of_lt_of_le hg710.out.2 (hH733.2.2).2) hat734
          obtain ⟨A734, c734, rfl, _⟩ := own_slice hT734
          have hS734 : (fun W => Below W0.heap.size W0 W ∧ Al gs w9 W ∧ Al gp710 wp710 W) wa734 := ⟨hbl734, (hH733.2.1).grown hq734 HGS.out hm733_0, (hH733.2.2).grown hq734 hg710.out.2 hm733_1⟩
          refine hK.out _ _ hS734 (fun hH734 => ?_)
          clear hK K
          try simp only [Act.put, List.setIfInBounds_toArray, List.set_cons_zero, List.set_cons_succ]
          refine wpAnyH_ready (rs := [21]) (by kernel_rfl) (by simp) ?_
          refine AllReadyH.cons (o := { dst := some 85, op := Op.call { callee := Callee.value (Operand.func 18), args := #[Operand.tmp 84], argTypes := #[23] }, type := 22, pos := "law.go:96", after := #[{ on := 20, ground := Ground.data }, { on := 20, ground := Ground.chain }, { on := 13, ground := Ground.guard }], guard := some (13, true) }) rfl (fun K hK => ?_) AllReadyH.nil
          go_simp
          have hrw735 : Rows2 wa734 wa734.heap.size A734 (c + 1 + 1) ((es.drop k ++ es.take k) ++ [(⟨some ⟨w1.heap.size, 0, none⟩, z, z, q⟩ : BRow)] ++ [(⟨some ⟨w1.heap.size, 0, none⟩, z, z, q⟩ : BRow)]) := by
            refine ⟨by have := Row.of_own hT734; simpa [BRow.val] using this, fun r hr => ?_⟩
            have hin : r ∈ es ∨ r = ⟨some ⟨w1.heap.size, 0, none⟩, z, z, q⟩ := by
              simp only [List.mem_append, List.mem_singleton] at hr
              rcases hr with ((hr | hr) | hr) | hr
              · exact .inl (List.mem_of_mem_drop hr)
              · exact .inl (List.mem_of_mem_take hr)
              · exact .inr hr
              · exact .inr hr
            rcases hin with hr | rfl
            · exact ((HRW.out.2 r hr).below (hH734.1)).more (hH734.1).size
            · exact (HMR.out.below (hH734.1)).more (hH734.1).size
          have hln735 : ∀ r ∈ ((es.drop k ++ es.take k) ++ [(⟨some ⟨w1.heap.size, 0, none⟩, z, z, q⟩ : BRow)] ++ [(⟨some ⟨w1.heap.size, 0, none⟩, z, z, q⟩ : BRow)]), r.n ≤ 1000000000 := by
            intro r hr
            have hin : r ∈ es ∨ r = ⟨some ⟨w1.heap.size, 0, none⟩, z, z, q⟩ := by
              simp only [List.mem_append, List.mem_singleton] at hr
              rcases hr with ((hr | hr) | hr) | hr
              · exact .inl (List.mem_of_mem_drop hr)
              · exact .inl (List.mem_of_mem_take hr)
              · exact .inr hr
              · exact .inr hr
            rcases hin with hr | rfl
            · exact HLEN.out r hr
            · show z ≤ _; omega
          refine (sum_fresh wa734.heap.size (c + 1 + 1) c734 z A734 ((es.drop k ++ es.take k) ++ [(⟨some ⟨w1.heap.size, 0, none⟩, z, z, q⟩ : BRow)] ++ [(⟨some ⟨w1.heap.size, 0, none⟩, z, z, q⟩ : BRow)]) ls _ hrw735 (own_cap hT734).1 (own_cap hT734).2 (Nat.le_refl _) hln735 (HTWICE.out _) HLSZ.out hz1).mono ?_
          rintro e wr735 ⟨gr735, cr735, rfl, hr735, hg735, hb735⟩
          have hk735 := Lib.hid (Al.conv (c := cr735) hr735.out)
          have hT735 := own_below hT734 hb735
          have hN735 := own_ne hT734 hg735.out.1
          clear hrw735 hln735
          go_wp2_with fail
          have hS735 : (fun W => Below W0.heap.size W0 W ∧ Al gs w9 W ∧ Al gp710 wp710 W) wr735 := ⟨(hH734.1).trans (hb735.mono (hH734.1).size), (hH734.2.1).below hb735 HGS.out, (hH734.2.2).below hb735 hg710.out.2⟩
          refine hK.out _ _ hS735 (fun hH735 => ?_)
          clear hK K
          try simp only [Act.put, List.setIfInBounds_toArray, List.set_cons_zero, List.set_cons_succ]
          have hG735 : (fun W => Below W0.heap.size W0 W ∧ Al gs w9 W ∧ Al gp710 wp710 W ∧ Al gr735 wr735 W) wr735 := ⟨hS735.1, hS735.2.1, hS735.2.2, Al.refl _ _⟩
          refine wpAnyH_grow (S' := (fun W => Below W0.heap.size W0 W ∧ Al gs w9 W ∧ Al gp710 wp710 W ∧ Al gr735 wr735 W)) (fun _ h => ⟨h.1, h.2.1, h.2.2.1⟩) _ _ _ _ ?_
          refine wpAnyH_take (i := 22) (oi := { dst := some 86, op := Op.convert 22 9 (Operand.tmp 85), type := 9, pos := "law.go:96", after := #[{ on := 21, ground := Ground.data }, { on := 13, ground := Ground.guard }], guard := some (13, true) }) (v := ?tkv736) rfl (by kernel_rfl) (by kernel_rfl) (by kernel_rfl) (fun _ _ _ h => h) (Or.inl ⟨by rfl, ?tky736⟩) hG735 ?tkr736
          case tky736 => (intro w' hSw; have z0 := HKS.out _ hSw.2.1; have z1 := hk710.out _ hSw.2.2.1; have z2 := hk735.out _ hSw.2.2.2; clear hSw; go_simp; try with_reducible rfl)
          try simp only [Act.put, List.setIfInBounds_toArray, List.set_cons_zero, List.set_cons_succ]
          refine wpAnyH_take (i := 25) (oi := { dst := some 89, op := Op.binOp BinOp.eql 9 (Operand.tmp 86) (Operand.tmp 88) 9, type := 4, pos := "law.go:96", after := #[{ on := 22, ground := Ground.data }, { on := 24, ground := Ground.data }, { on := 13, ground := Ground.guard }], guard := some (13, true) }) (v := ?tkv737) rfl (by kernel_rfl) (by kernel_rfl) (by kernel_rfl) (fun _ _ _ h => h) (Or.inl ⟨by rfl, ?tky737⟩) hG735 ?tkr737
          case tky737 => (intro w' hSw; clear hSw; go_simp; try with_reducible rfl)
          try simp only [Act.put, List.setIfInBounds_toArray, List.set_cons_zero, List.set_cons_succ]
          refine wpAnyH_take (i := 26) (oi := { dst := some 90, op := Op.pick (Operand.tmp 77) (Operand.tmp 89) (Operand.const (Value.bool false)), type := 4, pos := "law.go:96", after := #[{ on := 13, ground := Ground.data }, { on := 25, ground := Ground.data }], guard := none }) (v := ?tkv738) rfl (by kernel_rfl) (by kernel_rfl) (by kernel_rfl) (fun _ _ _ h => h) (Or.inl ⟨by rfl, ?tky738⟩) hG735 ?tkr738
          case tky738 => (intro w' hSw; clear hSw; go_simp; try with_reducible rfl)
          try simp only [Act.put, List.setIfInBounds_toArray, List.set_cons_zero, List.set_cons_succ]
          refine wpAnyH_take (i := 27) (oi := { dst := some 91, op := Op.move (Operand.tmp 90), type := 4, pos := "law.go:96", after := #[{ on := 26, ground := Ground.data }, { on := 21, ground := Ground.chain }], guard := none }) (v := ?tkv739) rfl (by kernel_rfl) (by kernel_rfl) (by kernel_rfl) (fun _ _ _ h => h) (Or.inl ⟨by rfl, ?tky739⟩) hG735 ?tkr739
          case tky739 => (intro w' hSw; clear hSw; go_simp; try with_reducible rfl)
          try simp only [Act.put, List.setIfInBounds_toArray, List.set_cons_zero, List.set_cons_succ]
          refine wpAnyH_ready (rs := [28]) (by kernel_rfl) (by simp) ?_
          refine AllReadyH.cons (o := { dst := some 92, op := Op.call { callee := Callee.value (Operand.func 10), args := #[], argTypes := #[] }, type := 4, pos := "law.go:96", after := #[{ on := 27, ground := Ground.chain }, { on := 27, ground := Ground.guard }], guard := some (27, true) }) rfl (fun K hK => ?_) AllReadyH.nil
          go_simp
          refine (awake10_any _).mono ?_
          rintro e we740 ⟨rfl, hb740⟩
          go_wp2_with fail
          have hS740 : (fun W => Below W0.heap.size W0 W ∧ Al gs w9 W ∧ Al gp710 wp710 W ∧ Al gr735 wr735 W) we740 := ⟨(hG735.1).trans (hb740.mono (hG735.1).size), (hG735.2.1).below hb740 HGS.out, (hG735.2.2.1).below hb740 hg710.out.2, (hG735.2.2.2).below hb740 hg735.out.2⟩
          refine hK.out _ _ hS740 (fun hH740 => ?_)
          clear hK K
          try simp only [Act.put, List.setIfInBounds_toArray, List.set_cons_zero, List.set_cons_succ]
          refine wpAnyH_take (i := 29) (oi := { dst := some 93, op := Op.pick (Operand.tmp 91) (Operand.tmp 92) (Operand.const (Value.bool false)), type := 4, pos := "law.go:96", after := #[{ on := 27, ground := Ground.data }, { on := 28, ground := Ground.data }], guard := none }) (v := ?tkv741) rfl (by kernel_rfl) (by kernel_rfl) (by kernel_rfl) (fun _ _ _ h => h) (Or.inl ⟨by rfl, ?tky741⟩) hH740 ?tkr741
          case tky741 => (intro w' hSw; clear hSw; go_simp; try with_reducible rfl)
          try simp only [Act.put, List.setIfInBounds_toArray, List.set_cons_zero, List.set_cons_succ]
          refine wpAnyH_take (i := 30) (oi := { dst := some 8, op := Op.assign (Operand.tmp 93), type := 4, pos := "law.go:96", after := #[{ on := 29, ground := Ground.data }, { on := 28, ground := Ground.chain }, { on := 0, ground := Ground.phase }, { on := 1, ground := Ground.phase }, { on := 2, ground := Ground.phase }, { on := 3, ground := Ground.phase }, { on := 4, ground := Ground.phase }, { on := 5, ground := Ground.phase }, { on := 6, ground := Ground.phase }, { on := 7, ground := Ground.phase }, { on := 8, ground := Ground.phase }, { on := 9, ground := Ground.phase }, { on := 10, ground := Ground.phase }, { on := 11, ground := Ground.phase }, { on := 12, ground := Ground.phase }, { on := 13, ground := Ground.phase }, { on := 14, ground := Ground.phase }, { on := 15, ground := Ground.phase }, { on := 16, ground := Ground.phase }, { on := 17, ground := Ground.phase }, { on := 18, ground := Ground.phase }, { on := 19, ground := Ground.phase }, { on := 20, ground := Ground.phase }, { on := 21, ground := Ground.phase }, { on := 22, ground := Ground.phase }, { on := 23, ground := Ground.phase }, { on := 24, ground := Ground.phase }, { on := 25, ground := Ground.phase }, { on := 26, ground := Ground.phase }, { on := 27, ground := Ground.phase }, { on := 28, ground := Ground.phase }, { on := 29, ground := Ground.phase }], guard := none }) (v := ?tkv742) rfl (by kernel_rfl) (by kernel_rfl) (by kernel_rfl) (fun _ _ _ h => h) (Or.inl ⟨by rfl, ?tky742⟩) hH740 ?tkr742
          case tky742 => (intro w' hSw; clear hSw; go_simp; try with_reducible rfl)
          try simp only [Act.put, List.setIfInBounds_toArray, List.set_cons_zero, List.set_cons_succ]
          refine wpAnyH_done (by kernel_rfl) ?_ _
          refine NoPanic.normal ?_
          have hEnd : Below w.heap.size w _ := HB0.out.trans ((hH740.1).mono HB0.out.size)
          go_wp2_with fail
          go_ret
          exact ⟨rfl, hEnd⟩
      · go_simp
        obtain ⟨wb743, hw743⟩ : ∃ w', w' = wp710.alloc (.cells #[(Value.slice (some (⟨w1.heap.size, 0, none⟩ : Addr)) z z)] 22) := ⟨_, rfl⟩
        have hb743 : Below wp710.heap.size wp710 wb743 := by rw [hw743]; exact (Below.refl _ _).alloc (Nat.le_refl _) _
        have hx743 : wb743.heap[wp710.heap.size]? = some (.cells #[(Value.slice (some (⟨w1.heap.size, 0, none⟩ : Addr)) z z)] 22 (0, 0)) := by rw [hw743]; exact heap_alloc_new _ _
        have hT743 := own_below hT710 hb743
        have hN743 := own_ne hT710 (Nat.le_refl _)
        rw [← hw743]
        clear hw743
        have hS743 : (fun W => Below W0.heap.size W0 W ∧ Al gs w9 W ∧ Al gp710 wp710 W) wb743 := ⟨(hG710.1).trans (hb743.mono (hG710.1).size), (hG710.2.1).below hb743 HGS.out, (hG710.2.2).below hb743 hg710.out.2⟩
        refine hK.out _ _ hS743 (fun hH743 => ?_)
        clear hK K
        try simp only [Act.put, List.setIfInBounds_toArray, List.set_cons_zero, List.set_cons_succ]
        refine wpAnyH_ready (rs := [16]) (by kernel_rfl) (by simp) ?_
        refine AllReadyH.cons (o := { dst := some 80, op := Op.buildSlice 23 1 #[(0, Operand.tmp 79)], type := 23, pos := "law.go:96", after := #[{ on := 15, ground := Ground.data }, { on := 13, ground := Ground.guard }], guard := some (13, true) }) rfl (fun K hK => ?_) AllReadyH.nil
        go_simp
        obtain ⟨wb744, hw744⟩ : ∃ w', w' = wb743.alloc (.cells #[(Value.slice (some (⟨w1.heap.size, 0, none⟩ : Addr)) z z)] 22) := ⟨_, rfl⟩
        have hb744 : Below wb743.heap.size wb743 wb744 := by rw [hw744]; exact (Below.refl _ _).alloc (Nat.le_refl _) _
        have hx744 : wb744.heap[wb743.heap.size]? = some (.cells #[(Value.slice (some (⟨w1.heap.size, 0, none⟩ : Addr)) z z)] 22 (0, 0)) := by rw [hw744]; exact heap_alloc_new _ _
        have hT744 := own_below hT743 hb744
        have hN744 := own_ne hT743 (Nat.le_refl _)
        have hx744n := (hb744.block _ (Array.getElem?_eq_some_iff.1 hx743).1).trans hx743
        rw [← hw744]
        clear hw744
        have hS744 : (fun W => Below W0.heap.size W0 W ∧ Al gs w9 W ∧ Al gp710 wp710 W) wb744 := ⟨(hH743.1).trans (hb744.mono (hH743.1).size), (hH743.2.1).below hb744 HGS.out, (hH743.2.2).below hb744 hg710.out.2⟩
        refine hK.out _ _ hS744 (fun hH744 => ?_)
        clear hK K
        try simp only [Act.put, List.setIfInBounds_toArray, List.set_cons_zero, List.set_cons_succ]
        refine wpAnyH_ready (rs := [17]) (by kernel_rfl) (by simp) ?_
        refine AllReadyH.cons (o := { dst := some 81, op := Op.call { callee := Callee.builtin Builtin.append, args := #[Operand.tmp 78, Operand.tmp 80], argTypes := #[23, 23] }, type := 23, pos := "law.go:96", after := #[{ on := 14, ground := Ground.data }, { on := 16, ground := Ground.data }, { on := 13, ground := Ground.chain }, { on := 13, ground := Ground.guard }], guard := some (13, true) }) rfl (fun K hK => ?_) AllReadyH.nil
        rw [if_pos (by rfl)]
        refine wp_app (.tmp 78) (.tmp 80) 23 rfl W0.heap.size 22 i0 (.slice none 0 0) 24 Try.underlying23 hi hy0 hy1 hy2 rfl _ (c) ((es.drop k ++ es.take k).map BRow.val) rfl hT744 _ (some ⟨wb743.heap.size, 0, none⟩) 1 1 ([(Value.slice (some (⟨w1.heap.size, 0, none⟩ : Addr)) z z)]) rfl (news_row hx744) (by intro u hu; rw [List.mem_singleton.1 hu]; rfl) (by unfold maxLen; omega) (by omega) (hH744.1).size ?_
        intro v745 wa745 hT745 hq745 hat745
        have hbl745 : Below W0.heap.size W0 wa745 := below_app (hH744.1) (hH744.1).size hT744 (Nat.le_refl _) hq745
        have hm745_0 := app_ne (v' := v745) HNS.out (Nat.lt_of_lt_of_le HGS.out (hH744.2.1).2) hat745
        have hm745_1 := app_ne (v' := v745) hN710 (Nat.lt_of_lt_of_le hg710.out.2 (hH744.2.2).2) hat745
        have hx745n := (hq745.block _ (Array.getElem?_eq_some_iff.1 hx744n).1 (fun e => hN743 e.symm)).trans hx744n
        have hm745n := app_ne (v' := v745) hN743 (Array.getElem?_eq_some_iff.1 hx744n).1 hat745
        obtain ⟨A745, c745, rfl, _⟩ := own_slice hT745
        have hS745 : (fun W => Below W0.heap.size W0 W ∧ Al gs w9 W ∧ Al gp710 wp710 W) wa745 := ⟨hbl745, (hH744.2.1).grown hq745 HGS.out HNS.out, (hH744.2.2).grown hq745 hg710.out.2 hN710⟩
        refine hK.out _ _ hS745 (fun hH745 => ?_)
        clear hK K
        try simp only [Act.put, List.setIfInBounds_toArray, List.set_cons_zero, List.set_cons_succ]
        refine wpAnyH_ready (rs := [20]) (by kernel_rfl) (by simp) ?_
        refine AllReadyH.cons (o := { dst := some 84, op := Op.call { callee := Callee.builtin Builtin.append, args := #[Operand.tmp 81, Operand.tmp 83], argTypes := #[23, 23] }, type := 23, pos := "law.go:96", after := #[{ on := 17, ground := Ground.data }, { on := 19, ground := Ground.data }, { on := 17, ground := Ground.chain }, { on := 13, ground := Ground.guard }], guard := some (13, true) }) rfl (fun K hK => ?_) AllReadyH.nil
        rw [if_pos (by rfl)]
        refine wp_app (.tmp 81) (.tmp 83) 23 rfl W0.heap.size 22 i0 (.slice none 0 0) 24 Try.underlying23 hi hy0 hy1 hy2 rfl _ (c + 1) ((es.drop k ++ es.take k).map BRow.val ++ [(Value.slice (some (⟨w1.heap.size, 0, none⟩ : Addr)) z z)]) rfl hT745 _ (some ⟨wp710.heap.size, 0, none⟩) 1 1 ([(Value.slice (some (⟨w1.heap.size, 0, none⟩ : Addr)) z z)]) rfl (news_row hx745n) (by intro u hu; rw [List.mem_singleton.1 hu]; rfl) (by unfold maxLen; omega) (by omega) (hH745.1).size ?_
        intro v746 wa746 hT746 hq746 hat746
        have hbl746 : Below W0.heap.size W0 wa746 := below_app (hH745.1) (hH745.1).size hT745 (Nat.le_refl _) hq746
        have hm746_0 := app_ne (v' := v746) hm745_0 (Nat.lt_of_lt_of_le HGS.out (hH745.2.1).2) hat746
        have hm746_1 := app_ne (v' := v746) hm745_1 (Nat.lt_of_lt_of_le hg710.out.2 (hH745.2.2).2) hat746
        obtain ⟨A746, c746, rfl, _⟩ := own_slice hT746
        have hS746 : (fun W => Below W0.heap.size W0 W ∧ Al gs w9 W ∧ Al gp710 wp710 W) wa746 := ⟨hbl746, (hH745.2.1).grown hq746 HGS.out hm745_0, (hH745.2.2).grown hq746 hg710.out.2 hm745_1⟩
        refine hK.out _ _ hS746 (fun hH746 => ?_)
        clear hK K
        try simp only [Act.put, List.setIfInBounds_toArray, List.set_cons_zero, List.set_cons_succ]
        refine wpAnyH_ready (rs := [21]) (by kernel_rfl) (by simp) ?_
        refine AllReadyH.cons (o := { dst := some 85, op := Op.call { callee := Callee.value (Operand.func 18), args := #[Operand.tmp 84], argTypes := #[23] }, type := 22, pos := "law.go:96", after := #[{ on := 20, ground := Ground.data }, { on := 20, ground := Ground.chain }, { on := 13, ground := Ground.guard }], guard := some (13, true) }) rfl (fun K hK => ?_) AllReadyH.nil
        go_simp
        have hrw747 : Rows2 wa746 wa746.heap.size A746 (c + 1 + 1) ((es.drop k ++ es.take k) ++ [(⟨some ⟨w1.heap.size, 0, none⟩, z, z, q⟩ : BRow)] ++ [(⟨some ⟨w1.heap.size, 0, none⟩, z, z, q⟩ : BRow)]) := by
          refine ⟨by have := Row.of_own hT746; simpa [BRow.val] using this, fun r hr => ?_⟩
          have hin : r ∈ es ∨ r = ⟨some ⟨w1.heap.size, 0, none⟩, z, z, q⟩ := by
            simp only [List.mem_append, List.mem_singleton] at hr
            rcases hr with ((hr | hr) | hr) | hr
            · exact .inl (List.mem_of_mem_drop hr)
            · exact .inl (List.mem_of_mem_take hr)
            · exact .inr hr
            · exact .inr hr
          rcases hin with hr | rfl
          · exact ((HRW.out.2 r hr).below (hH746.1)).more (hH746.1).size
          · exact (HMR.out.below (hH746.1)).more (hH746.1).size
        have hln747 : ∀ r ∈ ((es.drop k ++ es.take k) ++ [(⟨some ⟨w1.heap.size, 0, none⟩, z, z, q⟩ : BRow)] ++ [(⟨some ⟨w1.heap.size, 0, none⟩, z, z, q⟩ : BRow)]), r.n ≤ 1000000000 := by
          intro r hr
          have hin : r ∈ es ∨ r = ⟨some ⟨w1.heap.size, 0, none⟩, z, z, q⟩ := by
            simp only [List.mem_append, List.mem_singleton] at hr
            rcases hr with ((hr | hr) | hr) | hr
            · exact .inl (List.mem_of_mem_drop hr)
            · exact .inl (List.mem_of_mem_take hr)
            · exact .inr hr
            · exact .inr hr
          rcases hin with hr | rfl
          · exact HLEN.out r hr
          · show z ≤ _; omega
        refine (sum_fresh wa746.heap.size (c + 1 + 1) c746 z A746 ((es.drop k ++ es.take k) ++ [(⟨some ⟨w1.heap.size, 0, none⟩, z, z, q⟩ : BRow)] ++ [(⟨some ⟨w1.heap.size, 0, none⟩, z, z, q⟩ : BRow)]) ls _ hrw747 (own_cap hT746).1 (own_cap hT746).2 (Nat.le_refl _) hln747 (HTWICE.out _) HLSZ.out hz1).mono ?_
        rintro e wr747 ⟨gr747, cr747, rfl, hr747, hg747, hb747⟩
        have hk747 := Lib.hid (Al.conv (c := cr747) hr747.out)
        have hT747 := own_below hT746 hb747
        have hN747 := own_ne hT746 hg747.out.1
        clear hrw747 hln747
        go_wp2_with fail
        have hS747 : (fun W => Below W0.heap.size W0 W ∧ Al gs w9 W ∧ Al gp710 wp710 W) wr747 := ⟨(hH746.1).trans (hb747.mono (hH746.1).size), (hH746.2.1).below hb747 HGS.out, (hH746.2.2).below hb747 hg710.out.2⟩
        refine hK.out _ _ hS747 (fun hH747 => ?_)
        clear hK K
        try simp only [Act.put, List.setIfInBounds_toArray, List.set_cons_zero, List.set_cons_succ]
        have hG747 : (fun W => Below W0.heap.size W0 W ∧ Al gs w9 W ∧ Al gp710 wp710 W ∧ Al gr747 wr747 W) wr747 := ⟨hS747.1, hS747.2.1, hS747.2.2, Al.refl _ _⟩
        refine wpAnyH_grow (S' := (fun W => Below W0.heap.size W0 W ∧ Al gs w9 W ∧ Al gp710 wp710 W ∧ Al gr747 wr747 W)) (fun _ h => ⟨h.1, h.2.1, h.2.2.1⟩) _ _ _ _ ?_
        refine wpAnyH_take (i := 22) (oi := { dst := some 86, op := Op.convert 22 9 (Operand.tmp 85), type := 9, pos := "law.go:96", after := #[{ on := 21, ground := Ground.data }, { on := 13, ground := Ground.guard }], guard := some (13, true) }) (v := ?tkv748) rfl (by kernel_rfl) (by kernel_rfl) (by kernel_rfl) (fun _ _ _ h => h) (Or.inl ⟨by rfl, ?tky748⟩) hG747 ?tkr748
        case tky748 => (intro w' hSw; have z0 := HKS.out _ hSw.2.1; have z1 := hk710.out _ hSw.2.2.1; have z2 := hk747.out _ hSw.2.2.2; clear hSw; go_simp; try with_reducible rfl)
        try simp only [Act.put, List.setIfInBounds_toArray, List.set_cons_zero, List.set_cons_succ]
        refine wpAnyH_take (i := 25) (oi := { dst := some 89, op := Op.binOp BinOp.eql 9 (Operand.tmp 86) (Operand.tmp 88) 9, type := 4, pos := "law.go:96", after := #[{ on := 22, ground := Ground.data }, { on := 24, ground := Ground.data }, { on := 13, ground := Ground.guard }], guard := some (13, true) }) (v := ?tkv749) rfl (by kernel_rfl) (by kernel_rfl) (by kernel_rfl) (fun _ _ _ h => h) (Or.inl ⟨by rfl, ?tky749⟩) hG747 ?tkr749
        case tky749 => (intro w' hSw; clear hSw; go_simp; try with_reducible rfl)
        try simp only [Act.put, List.setIfInBounds_toArray, List.set_cons_zero, List.set_cons_succ]
        refine wpAnyH_take (i := 26) (oi := { dst := some 90, op := Op.pick (Operand.tmp 77) (Operand.tmp 89) (Operand.const (Value.bool false)), type := 4, pos := "law.go:96", after := #[{ on := 13, ground := Ground.data }, { on := 25, ground := Ground.data }], guard := none }) (v := ?tkv750) rfl (by kernel_rfl) (by kernel_rfl) (by kernel_rfl) (fun _ _ _ h => h) (Or.inl ⟨by rfl, ?tky750⟩) hG747 ?tkr750
        case tky750 => (intro w' hSw; clear hSw; go_simp; try with_reducible rfl)
        try simp only [Act.put, List.setIfInBounds_toArray, List.set_cons_zero, List.set_cons_succ]
        refine wpAnyH_take (i := 27) (oi := { dst := some 91, op := Op.move (Operand.tmp 90), type := 4, pos := "law.go:96", after := #[{ on := 26, ground := Ground.data }, { on := 21, ground := Ground.chain }], guard := none }) (v := ?tkv751) rfl (by kernel_rfl) (by kernel_rfl) (by kernel_rfl) (fun _ _ _ h => h) (Or.inl ⟨by rfl, ?tky751⟩) hG747 ?tkr751
        case tky751 => (intro w' hSw; clear hSw; go_simp; try with_reducible rfl)
        try simp only [Act.put, List.setIfInBounds_toArray, List.set_cons_zero, List.set_cons_succ]
        refine wpAnyH_ready (rs := [28]) (by kernel_rfl) (by simp) ?_
        refine AllReadyH.cons (o := { dst := some 92, op := Op.call { callee := Callee.value (Operand.func 10), args := #[], argTypes := #[] }, type := 4, pos := "law.go:96", after := #[{ on := 27, ground := Ground.chain }, { on := 27, ground := Ground.guard }], guard := some (27, true) }) rfl (fun K hK => ?_) AllReadyH.nil
        go_simp
        refine (awake10_any _).mono ?_
        rintro e we752 ⟨rfl, hb752⟩
        go_wp2_with fail
        have hS752 : (fun W => Below W0.heap.size W0 W ∧ Al gs w9 W ∧ Al gp710 wp710 W ∧ Al gr747 wr747 W) we752 := ⟨(hG747.1).trans (hb752.mono (hG747.1).size), (hG747.2.1).below hb752 HGS.out, (hG747.2.2.1).below hb752 hg710.out.2, (hG747.2.2.2).below hb752 hg747.out.2⟩
        refine hK.out _ _ hS752 (fun hH752 => ?_)
        clear hK K
        try simp only [Act.put, List.setIfInBounds_toArray, List.set_cons_zero, List.set_cons_succ]
        refine wpAnyH_take (i := 29) (oi := { dst := some 93, op := Op.pick (Operand.tmp 91) (Operand.tmp 92) (Operand.const (Value.bool false)), type := 4, pos := "law.go:96", after := #[{ on := 27, ground := Ground.data }, { on := 28, ground := Ground.data }], guard := none }) (v := ?tkv753) rfl (by kernel_rfl) (by kernel_rfl) (by kernel_rfl) (fun _ _ _ h => h) (Or.inl ⟨by rfl, ?tky753⟩) hH752 ?tkr753
        case tky753 => (intro w' hSw; clear hSw; go_simp; try with_reducible rfl)
        try simp only [Act.put, List.setIfInBounds_toArray, List.set_cons_zero, List.set_cons_succ]
        refine wpAnyH_take (i := 30) (oi := { dst := some 8, op := Op.assign (Operand.tmp 93), type := 4, pos := "law.go:96", after := #[{ on := 29, ground := Ground.data }, { on := 28, ground := Ground.chain }, { on := 0, ground := Ground.phase }, { on := 1, ground := Ground.phase }, { on := 2, ground := Ground.phase }, { on := 3, ground := Ground.phase }, { on := 4, ground := Ground.phase }, { on := 5, ground := Ground.phase }, { on := 6, ground := Ground.phase }, { on := 7, ground := Ground.phase }, { on := 8, ground := Ground.phase }, { on := 9, ground := Ground.phase }, { on := 10, ground := Ground.phase }, { on := 11, ground := Ground.phase }, { on := 12, ground := Ground.phase }, { on := 13, ground := Ground.phase }, { on := 14, ground := Ground.phase }, { on := 15, ground := Ground.phase }, { on := 16, ground := Ground.phase }, { on := 17, ground := Ground.phase }, { on := 18, ground := Ground.phase }, { on := 19, ground := Ground.phase }, { on := 20, ground := Ground.phase }, { on := 21, ground := Ground.phase }, { on := 22, ground := Ground.phase }, { on := 23, ground := Ground.phase }, { on := 24, ground := Ground.phase }, { on := 25, ground := Ground.phase }, { on := 26, ground := Ground.phase }, { on := 27, ground := Ground.phase }, { on := 28, ground := Ground.phase }, { on := 29, ground := Ground.phase }], guard := none }) (v := ?tkv754) rfl (by kernel_rfl) (by kernel_rfl) (by kernel_rfl) (fun _ _ _ h => h) (Or.inl ⟨by rfl, ?tky754⟩) hH752 ?tkr754
        case tky754 => (intro w' hSw; clear hSw; go_simp; try with_reducible rfl)
        try simp only [Act.put, List.setIfInBounds_toArray, List.set_cons_zero, List.set_cons_succ]
        refine wpAnyH_done (by kernel_rfl) ?_ _
        refine NoPanic.normal ?_
        have hEnd : Below w.heap.size w _ := HB0.out.trans ((hH752.1).mono HB0.out.size)
        go_wp2_with fail
        go_ret
        exact ⟨rfl, hEnd⟩

set_option maxRecDepth 100000 in
theorem blockTwice_lifted (os : Os) (started : os.Started) (H : Type) (enc : TypeId × Value → H) :
    ReturnsInHanded {} Try.checked os 6 .any (Rows.blockTwiceSpec.pre6 enc Try.prog Try.f6 Rows.blockTwiceRow.domain false) (Rows.blockTwiceSpec.post enc Try.prog Try.f6 false true false false) := by
  refine law_lift (C := Try.checked) (tb := 4) Try.own started (by kernel_rfl) Try.func6
    (ChangeSpec.witness6 (enc := enc) (C := Try.checked) false ⟨#[], #[.slice none 0 0, .int .i64 0, .int .i64 0, .int .u8 0], []⟩ 8 (by kernel_rfl) (by kernel_rfl) (by kernel_rfl) (by kernel_rfl)) Try.laidOut (by kernel_rfl) rfl rfl Try.underlying4 ?_ ?_
  · intro ds hds
    match ds, hds with
    | [_, _, _, _], _ => rfl
  intro W base args ds p hval0 hA0 _ _ hsz0
  have hval : ∀ (j : Nat) t v, Try.f6.params[j]? = some t → args[j]? = some v → Value.okWide Try.prog W .any base t v := hval0
  have hA : DataW.TrodAll enc Try.prog W 0 (fun _ => true) true Try.f6.params.toList args.toList ds p := hA0
  rw [Try.params6] at hA hval
  obtain ⟨v0, vs0, d0, ds0, p0, q0, hargs0, hds0, hps0, h0, r0⟩ := trodAll_cons hA
  obtain ⟨v1, vs1, d1, ds1, p1, q1, hargs1, hds1, hps1, h1, r1⟩ := trodAll_cons r0
  obtain ⟨v2, vs2, d2, ds2, p2, q2, hargs2, hds2, hps2, h2, r2⟩ := trodAll_cons r1
  obtain ⟨v3, vs3, d3, ds3, p3, q3, hargs3, hds3, hps3, h3, r3⟩ := trodAll_cons r2
  obtain ⟨e1, _, _⟩ := trodAll_nil r3
  obtain rfl : args = #[v0, v1, v2, v3] := by cases args; simp_all
  obtain ⟨A0, n0, cap0, l0, rfl, hrow0, hnc0, hcm0⟩ := open_bytes Try.underlying22 Try.underlying5 Try.cells5 (hval 0 22 v0 rfl rfl) h0
  obtain ⟨x1, rfl, hx1, hy1⟩ := open_i64 Try.underlying3 (hval 1 3 v1 rfl rfl) h1
  obtain ⟨x2, rfl, hx2, hy2⟩ := open_i64 Try.underlying3 (hval 2 3 v2 rfl rfl) h2
  obtain ⟨x3, rfl⟩ := open_byte Try.underlying5 (hval 3 5 v3 rfl rfl) h3
  exact twice_walk A0 n0 cap0 l0 x1 x2 x3.toNat W hrow0 hnc0 hcm0 hx2 hy2 (by have := x3.toNat_lt; omega)

theorem blockTwice_holds : Rows.BlockTwiceSaid :=
  OpenClaim.holds_of_wide 6 Try.f6 rfl rfl rfl rfl rfl rfl rfl ⟨rfl, rfl, rfl, rfl, rfl⟩ rfl rfl rfl rfl rfl (by kernel_rfl) Try.func6 (by kernel_rfl)
    (of_decide_eq_true (by kernel_rfl)) (by unfold Func.isWrapper; rw [if_neg (of_decide_eq_false (by kernel_rfl))]; exact ⟨rfl, rfl⟩)
    (fun os started H enc _ => blockTwice_lifted os started H enc)
end Go.Proofs.Ytiogkokcoedonaa
