/- BlockForms: the count, the pieces, the joined image: all as the page has it. For every input, no condition. -/
import Derived.Test.YtiogkokcoedonaaBlkSums
import Derived.Test.YtiogkokcoedonaaR7Split
namespace Go.Proofs.Ytiogkokcoedonaa
open Go.ChangeShapes Go.WideShapes Go.ChangeAt Go.RowKit
theorem Rows2.more {w : World} {B B' n : Nat} {A : Option Addr} {es : List BRow} (h : Rows2 w B A n es) (hB : B ≤ B') : Rows2 w B' A n es :=
  ⟨h.1.more hB, fun r hr => (h.2 r hr).more hB⟩
theorem flat_len (w : World) (B : Nat) : ∀ (es : List BRow), (∀ r ∈ es, Row w B r.A r.n (bv r.l)) → (flat es).length = (es.map (·.n)).sum
  | [], _ => rfl
  | r :: es, h => by
    have h1 := (h r (by simp)).blen
    have h2 := flat_len w B es fun x hx => h x (by simp [hx])
    rw [show flat (r :: es) = r.l ++ flat es by simp [flat], List.length_append, h2, h1]
    simp
theorem split_res (B n cap c : Nat) (s : Int) (A : Option Addr) (l : List UInt8) (w : World) (hl : Row w B A n (bv l)) (hnc : n ≤ cap) (hcap : cap ≤ 9223372036854775807) (hcN : BlkM.count n s = c) (hB : B ≤ w.heap.size) :
    Calls Try.prog 14 #[.slice A n cap, .int .i64 s] w (R7SplitOk l s.toNat c w) := by
  rcases Nat.eq_zero_or_pos c with h | h
  · subst h
    refine (split_no n cap A s w hcN).mono ?_
    rintro e w' ⟨rfl, hb⟩
    exact ⟨_, 0, [], rfl, ⟨⟨rfl, fun h => absurd h (by omega)⟩, fun r hr => by cases hr⟩, rfl, hb⟩
  · obtain ⟨_, _, q3, _⟩ := count_facts n s c hcN h
    obtain ⟨z, rfl⟩ : ∃ z : Nat, s = z := ⟨s.toNat, by omega⟩
    rw [Int.toNat_natCast]
    refine (split_ok B n cap z c A l w hl hnc hcap hcN h hB).mono ?_
    rintro e w' ⟨rfl, hS⟩
    exact ⟨_, c, splitRows l z c w.heap.size, rfl, hS.rows, by simp [Hid, splitRows, Function.comp_def], hS.2.2.2⟩
theorem join_res (B n cap : Nat) (A : Option Addr) (es : List BRow) (L : Int) (w : World) (hl : Rows2 w B A n es) (hn : n ≤ 1000000000000000000) (hB : B ≤ w.heap.size) (hbig : ∀ r ∈ es, r.n ≤ r.c ∧ r.c ≤ 9223372036854775807) :
    Calls Try.prog 16 #[.slice A n cap, .int .i64 L] w (FreshRow w.heap.size (joinF es L) w) := by
  by_cases h : L < 1 ∨ 512 < L
  · rw [show joinF es L = [] by unfold joinF; rw [if_pos h]]
    refine (join_out n cap A L w h).mono ?_
    rintro e w' ⟨A', n', c', rfl, hn', hown, hb⟩
    exact ⟨A', n', c', rfl, hn', Row.of_own hown, hb⟩
  · obtain ⟨k, rfl⟩ : ∃ k : Nat, L = k := ⟨L.toNat, by omega⟩
    refine (join_in B n cap A es k w hl (by omega) (by omega) hn hB hbig).mono ?_
    rintro e w' ⟨A', n', c', rfl, hn', hown, hb⟩
    exact ⟨A', n', c', rfl, hn', Row.of_own hown, hb⟩
set_option maxHeartbeats 3200000 in
theorem bforms_walk (A0 : Option Addr) (n0 c0 : Nat) (l0 : List UInt8) (s : Int) (A : Option Addr) (n cap : Nat) (es : List BRow) (L : Int) (w : World) (hl0 : Row w w.heap.size A0 n0 (bv l0)) (hn0 : n0 ≤ c0) (hc0 : c0 ≤ 9223372036854775807)
    (hl : Rows2 w w.heap.size A n es) (hn : n ≤ cap) (hcap : cap ≤ 9223372036854775807) (hbig : ∀ r ∈ es, r.n ≤ r.c ∧ r.c ≤ 9223372036854775807) (hreach : ∀ r ∈ es, r.n ≤ 140737488351232) (hL1 : -9223372036854775808 ≤ L) (hL2 : L ≤ 9223372036854775807) :
    Calls Try.prog 3 #[.slice A0 n0 c0, .int .i64 s, .slice A n cap, .int .i64 L] w fun e w' => e = .returned (.bool true) ∧ Below w.heap.size w w' := by
  have HR := Lib.hid hreach
  have HLEN := Lib.hid hl.len
  have HBIG := Lib.hid hbig
  have HL1 := Lib.hid hL1
  have HL2 := Lib.hid hL2
  have HL0 := Lib.hid hl0
  clear hbig hreach hL1 hL2 hl0
  go_enter Try.func3, Try.ntmps3
  go_wp2_with fail
  go_loopw [9, 14] (fun x i wr => ∃ k : Nat, k ≤ n ∧ k ≤ 100 ∧ i = .int .i64 k ∧ x = .int .i64 (tot es k : Nat) ∧ tot es k ≤ 3000 ∧ wr = w) (fun _ i _ => n - (intOf i).toNat)
  case atStart => exact ⟨0, by omega, by omega, rfl, rfl, by simp [tot], rfl⟩
  case round =>
    obtain ⟨k, hk, hk1, rfl, rfl, htk, rfl⟩ := hrel
    by_cases hlt : k < n
    · obtain ⟨b, o, rfl, r, hr, hcell, hrow⟩ := hl.at_ hlt
      have hrn := HR.out r (List.mem_of_getElem? hr)
      have HT := Lib.hid (tot_next es k r hr)
      clear hr
      generalize hT : tot es k = T at *
      have HTT := Lib.hid hT
      clear hT
      by_cases h100 : k = 100
      · subst h100
        go_wp2_with fail
        refine (awake10_any _).mono ?_
        rintro e w4 ⟨rfl, hb4⟩
        go_wp2_with fail
        go_ret
        exact ⟨rfl, hb4⟩
      · have h100' : (k : Int) < 100 := by omega
        by_cases h3 : 3000 < T + r.n
        · have h3' : (3000 : Int) < (T : Int) + (r.n : Int) := by omega
          go_wp2_with fail
          refine (awake10_any _).mono ?_
          rintro e w4 ⟨rfl, hb4⟩
          go_wp2_with fail
          go_ret
          exact ⟨rfl, hb4⟩
        · have h3' : (T : Int) + (r.n : Int) ≤ 3000 := by omega
          go_wp2_with fail
          go_roundw
          case rel => exact ⟨k + 1, by omega, by omega, by go_num, by rw [HT.out]; go_num, by rw [HT.out]; omega, trivial⟩
          case measure => simp [intOf]; omega
    · obtain rfl : n = k := by omega
      obtain ⟨wo, rfl⟩ : ∃ wo : World, wo = wr := ⟨_, rfl⟩
      by_cases h2000 : 2000 < n0
      · have h2i : (2000 : Int) < (n0 : Int) := by omega
        go_wp2_with fail
        refine (awake10_any _).mono ?_
        rintro e w4 ⟨rfl, hb4⟩
        go_wp2_with fail
        go_ret
        exact ⟨rfl, hb4⟩
      have h2i : ¬ (2000 : Int) < (n0 : Int) := by omega
      have HFL : Hid ((flat es).length ≤ 1000000000) := by
        show _ ≤ _
        rw [flat_len wo wo.heap.size es hl.2]
        have : tot es n = (es.map (·.n)).sum := by unfold tot; rw [List.take_of_length_le (by rw [HLEN.out]; omega)]
        omega
      obtain ⟨C, hC⟩ : ∃ C, BlkM.count L s = C := ⟨_, rfl⟩
      obtain ⟨c, hcN⟩ : ∃ c, BlkM.count n0 s = c := ⟨_, rfl⟩
      have hc64 : c ≤ 64 := by
        rcases Nat.eq_zero_or_pos c with h | h
        · omega
        · obtain ⟨_, _, _, _, q5, _⟩ := count_facts n0 s c hcN h; exact q5
      have HC := Lib.hid hC
      have HCN := Lib.hid hcN
      have HL := Lib.hid hl
      clear hC hcN htk hl
      go_upto_region 11 with fail
      refine wp_region_noPanic ?_
      refine wp_region_held_drew (S := (fun W => Below wo.heap.size wo W)) (by kernel_rfl) (Below.refl _ _).drew (fun hH0 => ?_)
      have hH0 : Below wo.heap.size wo wo.drew := hH0
      generalize wo.drew = wd at *
      refine wpAnyH_take (i := 0) (oi := { dst := some 35, op := Op.move (Operand.tmp 3), type := 3, pos := "law.go:40", after := #[], guard := none }) (v := ?tkv1) rfl (by kernel_rfl) (by kernel_rfl) (by kernel_rfl) (fun _ _ _ h => h) (Or.inl ⟨by rfl, ?tky1⟩) hH0 ?tkr1
      case tky1 => (intro w' hSw; clear hSw; go_simp; try with_reducible rfl)
      try simp only [Act.put, List.setIfInBounds_toArray, List.set_cons_zero, List.set_cons_succ]
      refine wpAnyH_take (i := 1) (oi := { dst := some 36, op := Op.move (Operand.tmp 1), type := 3, pos := "law.go:40", after := #[], guard := none }) (v := ?tkv2) rfl (by kernel_rfl) (by kernel_rfl) (by kernel_rfl) (fun _ _ _ h => h) (Or.inl ⟨by rfl, ?tky2⟩) hH0 ?tkr2
      case tky2 => (intro w' hSw; clear hSw; go_simp; try with_reducible rfl)
      try simp only [Act.put, List.setIfInBounds_toArray, List.set_cons_zero, List.set_cons_succ]
      refine wpAnyH_take (i := 3) (oi := { dst := some 38, op := Op.move (Operand.tmp 3), type := 3, pos := "law.go:40", after := #[], guard := none }) (v := ?tkv3) rfl (by kernel_rfl) (by kernel_rfl) (by kernel_rfl) (fun _ _ _ h => h) (Or.inl ⟨by rfl, ?tky3⟩) hH0 ?tkr3
      case tky3 => (intro w' hSw; clear hSw; go_simp; try with_reducible rfl)
      try simp only [Act.put, List.setIfInBounds_toArray, List.set_cons_zero, List.set_cons_succ]
      refine wpAnyH_take (i := 4) (oi := { dst := some 39, op := Op.move (Operand.tmp 1), type := 3, pos := "law.go:40", after := #[], guard := none }) (v := ?tkv4) rfl (by kernel_rfl) (by kernel_rfl) (by kernel_rfl) (fun _ _ _ h => h) (Or.inl ⟨by rfl, ?tky4⟩) hH0 ?tkr4
      case tky4 => (intro w' hSw; clear hSw; go_simp; try with_reducible rfl)
      try simp only [Act.put, List.setIfInBounds_toArray, List.set_cons_zero, List.set_cons_succ]
      refine wpAnyH_ready (rs := [2]) (by kernel_rfl) (by simp) ?_
      refine AllReadyH.cons (o := { dst := some 37, op := Op.call { callee := Callee.value (Operand.func 11), args := #[Operand.tmp 35, Operand.tmp 36], argTypes := #[3, 3] }, type := 3, pos := "law.go:40", after := #[{ on := 0, ground := Ground.data }, { on := 1, ground := Ground.data }], guard := none }) rfl (fun K hK => ?_) AllReadyH.nil
      go_simp
      refine (count_any _ _ _).mono ?_
      rintro e w' ⟨rfl, rfl⟩
      rw [HC.out]
      go_wp2_with fail
      refine hK.out _ _ hH0 (fun hH5 => ?_)
      clear hK K
      try simp only [Act.put, List.setIfInBounds_toArray, List.set_cons_zero, List.set_cons_succ]
      refine wpAnyH_ready (rs := [5]) (by kernel_rfl) (by simp) ?_
      refine AllReadyH.cons (o := { dst := some 40, op := Op.call { callee := Callee.value (Operand.func 12), args := #[Operand.tmp 38, Operand.tmp 39], argTypes := #[3, 3] }, type := 3, pos := "law.go:40", after := #[{ on := 3, ground := Ground.data }, { on := 4, ground := Ground.data }, { on := 2, ground := Ground.chain }], guard := none }) rfl (fun K hK => ?_) AllReadyH.nil
      go_simp
      refine (r7count_any _ _ _).mono ?_
      rintro e w' ⟨rfl, rfl⟩
      rw [HC.out]
      go_wp2_with fail
      refine hK.out _ _ hH5 (fun hH6 => ?_)
      clear hK K
      try simp only [Act.put, List.setIfInBounds_toArray, List.set_cons_zero, List.set_cons_succ]
      refine wpAnyH_take (i := 6) (oi := { dst := some 41, op := Op.binOp BinOp.eql 3 (Operand.tmp 37) (Operand.tmp 40) 3, type := 4, pos := "law.go:40", after := #[{ on := 2, ground := Ground.data }, { on := 5, ground := Ground.data }], guard := none }) (v := ?tkv7) rfl (by kernel_rfl) (by kernel_rfl) (by kernel_rfl) (fun _ _ _ h => h) (Or.inl ⟨by rfl, ?tky7⟩) hH6 ?tkr7
      case tky7 => (intro w' hSw; clear hSw; go_simp; try with_reducible rfl)
      try simp only [Act.put, List.setIfInBounds_toArray, List.set_cons_zero, List.set_cons_succ]
      refine wpAnyH_take (i := 7) (oi := { dst := some 42, op := Op.move (Operand.tmp 41), type := 4, pos := "law.go:40", after := #[{ on := 6, ground := Ground.data }, { on := 5, ground := Ground.chain }], guard := none }) (v := ?tkv8) rfl (by kernel_rfl) (by kernel_rfl) (by kernel_rfl) (fun _ _ _ h => h) (Or.inl ⟨by rfl, ?tky8⟩) hH6 ?tkr8
      case tky8 => (intro w' hSw; clear hSw; go_simp; try with_reducible rfl)
      try simp only [Act.put, List.setIfInBounds_toArray, List.set_cons_zero, List.set_cons_succ]
      refine wpAnyH_take (i := 8) (oi := { dst := some 43, op := Op.move (Operand.tmp 0), type := 22, pos := "law.go:40", after := #[{ on := 7, ground := Ground.guard }], guard := some (7, true) }) (v := ?tkv9) rfl (by kernel_rfl) (by kernel_rfl) (by kernel_rfl) (fun _ _ _ h => h) (Or.inl ⟨by rfl, ?tky9⟩) hH6 ?tkr9
      case tky9 => (intro w' hSw; clear hSw; go_simp; try with_reducible rfl)
      try simp only [Act.put, List.setIfInBounds_toArray, List.set_cons_zero, List.set_cons_succ]
      refine wpAnyH_take (i := 9) (oi := { dst := some 44, op := Op.move (Operand.tmp 1), type := 3, pos := "law.go:40", after := #[{ on := 7, ground := Ground.guard }], guard := some (7, true) }) (v := ?tkv10) rfl (by kernel_rfl) (by kernel_rfl) (by kernel_rfl) (fun _ _ _ h => h) (Or.inl ⟨by rfl, ?tky10⟩) hH6 ?tkr10
      case tky10 => (intro w' hSw; clear hSw; go_simp; try with_reducible rfl)
      try simp only [Act.put, List.setIfInBounds_toArray, List.set_cons_zero, List.set_cons_succ]
      refine wpAnyH_take (i := 11) (oi := { dst := some 46, op := Op.move (Operand.tmp 0), type := 22, pos := "law.go:40", after := #[{ on := 7, ground := Ground.guard }], guard := some (7, true) }) (v := ?tkv11) rfl (by kernel_rfl) (by kernel_rfl) (by kernel_rfl) (fun _ _ _ h => h) (Or.inl ⟨by rfl, ?tky11⟩) hH6 ?tkr11
      case tky11 => (intro w' hSw; clear hSw; go_simp; try with_reducible rfl)
      try simp only [Act.put, List.setIfInBounds_toArray, List.set_cons_zero, List.set_cons_succ]
      refine wpAnyH_take (i := 12) (oi := { dst := some 47, op := Op.move (Operand.tmp 1), type := 3, pos := "law.go:40", after := #[{ on := 7, ground := Ground.guard }], guard := some (7, true) }) (v := ?tkv12) rfl (by kernel_rfl) (by kernel_rfl) (by kernel_rfl) (fun _ _ _ h => h) (Or.inl ⟨by rfl, ?tky12⟩) hH6 ?tkr12
      case tky12 => (intro w' hSw; clear hSw; go_simp; try with_reducible rfl)
      try simp only [Act.put, List.setIfInBounds_toArray, List.set_cons_zero, List.set_cons_succ]
      refine wpAnyH_ready (rs := [10]) (by kernel_rfl) (by simp) ?_
      refine AllReadyH.cons (o := { dst := some 45, op := Op.call { callee := Callee.value (Operand.func 14), args := #[Operand.tmp 43, Operand.tmp 44], argTypes := #[22, 3] }, type := 23, pos := "law.go:40", after := #[{ on := 8, ground := Ground.data }, { on := 9, ground := Ground.data }, { on := 7, ground := Ground.chain }, { on := 7, ground := Ground.guard }], guard := some (7, true) }) rfl (fun K hK => ?_) AllReadyH.nil
      go_simp
      refine (split_res wo.heap.size n0 c0 c s A0 l0 _ (HL0.out.below hH6) hn0 hc0 HCN.out (hH6).size).mono ?_
      rintro e w2 ⟨A2, c2, es2, rfl, hr2, he2, hb10'⟩
      have hb10 := hb10'.out
      go_wp2_with fail
      refine hK.out _ _ ((hH6).trans (hb10.mono (hH6).size)) (fun hH13 => ?_)
      clear hK K
      try simp only [Act.put, List.setIfInBounds_toArray, List.set_cons_zero, List.set_cons_succ]
      have hG13 : (fun W => Below wo.heap.size wo W ∧ Below w2.heap.size w2 W) w2 := ⟨hH13, Below.refl _ _⟩
      refine wpAnyH_grow (S' := (fun W => Below wo.heap.size wo W ∧ Below w2.heap.size w2 W)) (fun _ h => h.1) _ _ _ _ ?_
      refine wpAnyH_ready (rs := [13]) (by kernel_rfl) (by simp) ?_
      refine AllReadyH.cons (o := { dst := some 48, op := Op.call { callee := Callee.value (Operand.func 15), args := #[Operand.tmp 46, Operand.tmp 47], argTypes := #[22, 3] }, type := 23, pos := "law.go:40", after := #[{ on := 11, ground := Ground.data }, { on := 12, ground := Ground.data }, { on := 10, ground := Ground.chain }, { on := 7, ground := Ground.guard }], guard := some (7, true) }) rfl (fun K hK => ?_) AllReadyH.nil
      go_simp
      refine (r7split_any wo.heap.size n0 c0 c s A0 l0 _ (HL0.out.below hG13.1) hn0 hc0 HCN.out (hG13.1).size).mono ?_
      rintro e w3 ⟨A3, c3, es3, rfl, hr3, he3, hb13'⟩
      have hb13 := hb13'.out
      go_wp2_with fail
      refine hK.out _ _ (⟨(hG13.1).trans (hb13.mono (hG13.1).size), (hG13.2).trans (hb13.mono (hG13.2).size)⟩) (fun hH14 => ?_)
      clear hK K
      try simp only [Act.put, List.setIfInBounds_toArray, List.set_cons_zero, List.set_cons_succ]
      have hG14 : (fun W => Below wo.heap.size wo W ∧ Below w2.heap.size w2 W ∧ Below w3.heap.size w3 W) w3 := ⟨hH14.1, hH14.2, Below.refl _ _⟩
      refine wpAnyH_grow (S' := (fun W => Below wo.heap.size wo W ∧ Below w2.heap.size w2 W ∧ Below w3.heap.size w3 W)) (fun _ h => ⟨h.1, h.2.1⟩) _ _ _ _ ?_
      refine wpAnyH_ready (rs := [14]) (by kernel_rfl) (by simp) ?_
      refine AllReadyH.cons (o := { dst := some 49, op := Op.call { callee := Callee.value (Operand.func 13), args := #[Operand.tmp 45, Operand.tmp 48], argTypes := #[23, 23] }, type := 4, pos := "law.go:40", after := #[{ on := 10, ground := Ground.data }, { on := 13, ground := Ground.data }, { on := 13, ground := Ground.chain }, { on := 7, ground := Ground.guard }], guard := some (7, true) }) rfl (fun K hK => ?_) AllReadyH.nil
      go_simp
      refine (same_yes w3.heap.size c c2 c3 A2 A3 es2 es3 _ (Rows2.more (hr2.out.below hG14.2.1) (by have := hb13'.out.size; omega)) (hr3.out.below hG14.2.2) (he2.out.trans he3.out.symm) (by omega) (hG14.2.2).size).mono ?_
      rintro e w4 ⟨rfl, hb14⟩
      go_wp2_with fail
      refine hK.out _ _ (⟨(hG14.1).trans (hb14.mono (hG14.1).size), (hG14.2.1).trans (hb14.mono (hG14.2.1).size), (hG14.2.2).trans (hb14.mono (hG14.2.2).size)⟩) (fun hH15 => ?_)
      clear hK K
      try simp only [Act.put, List.setIfInBounds_toArray, List.set_cons_zero, List.set_cons_succ]
      have hG15 : (fun W => Below wo.heap.size wo W ∧ Below w2.heap.size w2 W ∧ Below w3.heap.size w3 W ∧ Below w4.heap.size w4 W) w4 := ⟨hH15.1, hH15.2.1, hH15.2.2, Below.refl _ _⟩
      refine wpAnyH_grow (S' := (fun W => Below wo.heap.size wo W ∧ Below w2.heap.size w2 W ∧ Below w3.heap.size w3 W ∧ Below w4.heap.size w4 W)) (fun _ h => ⟨h.1, h.2.1, h.2.2.1⟩) _ _ _ _ ?_
      refine wpAnyH_take (i := 15) (oi := { dst := some 50, op := Op.pick (Operand.tmp 42) (Operand.tmp 49) (Operand.const (Value.bool false)), type := 4, pos := "law.go:40", after := #[{ on := 7, ground := Ground.data }, { on := 14, ground := Ground.data }], guard := none }) (v := ?tkv16) rfl (by kernel_rfl) (by kernel_rfl) (by kernel_rfl) (fun _ _ _ h => h) (Or.inl ⟨by rfl, ?tky16⟩) hG15 ?tkr16
      case tky16 => (intro w' hSw; clear hSw; go_simp; try with_reducible rfl)
      try simp only [Act.put, List.setIfInBounds_toArray, List.set_cons_zero, List.set_cons_succ]
      refine wpAnyH_take (i := 16) (oi := { dst := some 51, op := Op.move (Operand.tmp 50), type := 4, pos := "law.go:40", after := #[{ on := 15, ground := Ground.data }, { on := 14, ground := Ground.chain }], guard := none }) (v := ?tkv17) rfl (by kernel_rfl) (by kernel_rfl) (by kernel_rfl) (fun _ _ _ h => h) (Or.inl ⟨by rfl, ?tky17⟩) hG15 ?tkr17
      case tky17 => (intro w' hSw; clear hSw; go_simp; try with_reducible rfl)
      try simp only [Act.put, List.setIfInBounds_toArray, List.set_cons_zero, List.set_cons_succ]
      refine wpAnyH_take (i := 17) (oi := { dst := some 52, op := Op.move (Operand.tmp 2), type := 23, pos := "law.go:40", after := #[{ on := 16, ground := Ground.guard }], guard := some (16, true) }) (v := ?tkv18) rfl (by kernel_rfl) (by kernel_rfl) (by kernel_rfl) (fun _ _ _ h => h) (Or.inl ⟨by rfl, ?tky18⟩) hG15 ?tkr18
      case tky18 => (intro w' hSw; clear hSw; go_simp; try with_reducible rfl)
      try simp only [Act.put, List.setIfInBounds_toArray, List.set_cons_zero, List.set_cons_succ]
      refine wpAnyH_take (i := 18) (oi := { dst := some 53, op := Op.move (Operand.tmp 3), type := 3, pos := "law.go:40", after := #[{ on := 16, ground := Ground.guard }], guard := some (16, true) }) (v := ?tkv19) rfl (by kernel_rfl) (by kernel_rfl) (by kernel_rfl) (fun _ _ _ h => h) (Or.inl ⟨by rfl, ?tky19⟩) hG15 ?tkr19
      case tky19 => (intro w' hSw; clear hSw; go_simp; try with_reducible rfl)
      try simp only [Act.put, List.setIfInBounds_toArray, List.set_cons_zero, List.set_cons_succ]
      refine wpAnyH_take (i := 21) (oi := { dst := some 56, op := Op.move (Operand.tmp 2), type := 23, pos := "law.go:40", after := #[{ on := 16, ground := Ground.guard }], guard := some (16, true) }) (v := ?tkv20) rfl (by kernel_rfl) (by kernel_rfl) (by kernel_rfl) (fun _ _ _ h => h) (Or.inl ⟨by rfl, ?tky20⟩) hG15 ?tkr20
      case tky20 => (intro w' hSw; clear hSw; go_simp; try with_reducible rfl)
      try simp only [Act.put, List.setIfInBounds_toArray, List.set_cons_zero, List.set_cons_succ]
      refine wpAnyH_take (i := 22) (oi := { dst := some 57, op := Op.move (Operand.tmp 3), type := 3, pos := "law.go:40", after := #[{ on := 16, ground := Ground.guard }], guard := some (16, true) }) (v := ?tkv21) rfl (by kernel_rfl) (by kernel_rfl) (by kernel_rfl) (fun _ _ _ h => h) (Or.inl ⟨by rfl, ?tky21⟩) hG15 ?tkr21
      case tky21 => (intro w' hSw; clear hSw; go_simp; try with_reducible rfl)
      try simp only [Act.put, List.setIfInBounds_toArray, List.set_cons_zero, List.set_cons_succ]
      refine wpAnyH_ready (rs := [19]) (by kernel_rfl) (by simp) ?_
      refine AllReadyH.cons (o := { dst := some 54, op := Op.call { callee := Callee.value (Operand.func 16), args := #[Operand.tmp 52, Operand.tmp 53], argTypes := #[23, 3] }, type := 22, pos := "law.go:40", after := #[{ on := 17, ground := Ground.data }, { on := 18, ground := Ground.data }, { on := 16, ground := Ground.chain }, { on := 16, ground := Ground.guard }], guard := some (16, true) }) rfl (fun K hK => ?_) AllReadyH.nil
      go_simp
      refine (join_res wo.heap.size n cap A es L _ (HL.out.below hG15.1) (by omega) (hG15.1).size HBIG.out).mono ?_
      rintro e w5 ⟨A5, n5, c5, rfl, hn5, hrow5, hb19⟩
      have hk5 := Lib.hid (conv_row c5 hrow5 (Nat.le_refl _))
      clear hn5 hrow5
      go_wp2_with fail
      refine hK.out _ _ (⟨(hG15.1).trans (hb19.mono (hG15.1).size), (hG15.2.1).trans (hb19.mono (hG15.2.1).size), (hG15.2.2.1).trans (hb19.mono (hG15.2.2.1).size), (hG15.2.2.2).trans (hb19.mono (hG15.2.2.2).size)⟩) (fun hH22 => ?_)
      clear hK K
      try simp only [Act.put, List.setIfInBounds_toArray, List.set_cons_zero, List.set_cons_succ]
      have hG22 : (fun W => Below wo.heap.size wo W ∧ Below w2.heap.size w2 W ∧ Below w3.heap.size w3 W ∧ Below w4.heap.size w4 W ∧ Below w5.heap.size w5 W) w5 := ⟨hH22.1, hH22.2.1, hH22.2.2.1, hH22.2.2.2, Below.refl _ _⟩
      refine wpAnyH_grow (S' := (fun W => Below wo.heap.size wo W ∧ Below w2.heap.size w2 W ∧ Below w3.heap.size w3 W ∧ Below w4.heap.size w4 W ∧ Below w5.heap.size w5 W)) (fun _ h => ⟨h.1, h.2.1, h.2.2.1, h.2.2.2.1⟩) _ _ _ _ ?_
      refine wpAnyH_take (i := 20) (oi := { dst := some 55, op := Op.convert 22 9 (Operand.tmp 54), type := 9, pos := "law.go:40", after := #[{ on := 19, ground := Ground.data }, { on := 16, ground := Ground.guard }], guard := some (16, true) }) (v := ?tkv23) rfl (by kernel_rfl) (by kernel_rfl) (by kernel_rfl) (fun _ _ _ h => h) (Or.inl ⟨by rfl, ?tky23⟩) hG22 ?tkr23
      case tky23 => (intro w' hSw; have z0 := hk5.out _ hSw.2.2.2.2; clear hSw; go_simp; try with_reducible rfl)
      try simp only [Act.put, List.setIfInBounds_toArray, List.set_cons_zero, List.set_cons_succ]
      refine wpAnyH_ready (rs := [23]) (by kernel_rfl) (by simp) ?_
      refine AllReadyH.cons (o := { dst := some 58, op := Op.call { callee := Callee.value (Operand.func 17), args := #[Operand.tmp 56, Operand.tmp 57], argTypes := #[23, 3] }, type := 22, pos := "law.go:40", after := #[{ on := 21, ground := Ground.data }, { on := 22, ground := Ground.data }, { on := 19, ground := Ground.chain }, { on := 16, ground := Ground.guard }], guard := some (16, true) }) rfl (fun K hK => ?_) AllReadyH.nil
      go_simp
      refine (r7join_any wo.heap.size n cap A es _ (HL.out.below hG22.1) (by omega) HFL.out (hG22.1).size L HL1.out HL2.out).mono ?_
      rintro e w6 ⟨A6, n6, c6, rfl, hn6, hrow6, hb23⟩
      have hk6 := Lib.hid (conv_row c6 hrow6 (Nat.le_refl _))
      clear hn6 hrow6
      go_wp2_with fail
      refine hK.out _ _ (⟨(hG22.1).trans (hb23.mono (hG22.1).size), (hG22.2.1).trans (hb23.mono (hG22.2.1).size), (hG22.2.2.1).trans (hb23.mono (hG22.2.2.1).size), (hG22.2.2.2.1).trans (hb23.mono (hG22.2.2.2.1).size), (hG22.2.2.2.2).trans (hb23.mono (hG22.2.2.2.2).size)⟩) (fun hH24 => ?_)
      clear hK K
      try simp only [Act.put, List.setIfInBounds_toArray, List.set_cons_zero, List.set_cons_succ]
      have hG24 : (fun W => Below wo.heap.size wo W ∧ Below w2.heap.size w2 W ∧ Below w3.heap.size w3 W ∧ Below w4.heap.size w4 W ∧ Below w5.heap.size w5 W ∧ Below w6.heap.size w6 W) w6 := ⟨hH24.1, hH24.2.1, hH24.2.2.1, hH24.2.2.2.1, hH24.2.2.2.2, Below.refl _ _⟩
      refine wpAnyH_grow (S' := (fun W => Below wo.heap.size wo W ∧ Below w2.heap.size w2 W ∧ Below w3.heap.size w3 W ∧ Below w4.heap.size w4 W ∧ Below w5.heap.size w5 W ∧ Below w6.heap.size w6 W)) (fun _ h => ⟨h.1, h.2.1, h.2.2.1, h.2.2.2.1, h.2.2.2.2.1⟩) _ _ _ _ ?_
      refine wpAnyH_take (i := 24) (oi := { dst := some 59, op := Op.convert 22 9 (Operand.tmp 58), type := 9, pos := "law.go:40", after := #[{ on := 23, ground := Ground.data }, { on := 16, ground := Ground.guard }], guard := some (16, true) }) (v := ?tkv25) rfl (by kernel_rfl) (by kernel_rfl) (by kernel_rfl) (fun _ _ _ h => h) (Or.inl ⟨by rfl, ?tky25⟩) hG24 ?tkr25
      case tky25 => (intro w' hSw; have z0 := hk5.out _ hSw.2.2.2.2.1; have z1 := hk6.out _ hSw.2.2.2.2.2; clear hSw; go_simp; try with_reducible rfl)
      try simp only [Act.put, List.setIfInBounds_toArray, List.set_cons_zero, List.set_cons_succ]
      refine wpAnyH_take (i := 25) (oi := { dst := some 60, op := Op.binOp BinOp.eql 9 (Operand.tmp 55) (Operand.tmp 59) 9, type := 4, pos := "law.go:40", after := #[{ on := 20, ground := Ground.data }, { on := 24, ground := Ground.data }, { on := 16, ground := Ground.guard }], guard := some (16, true) }) (v := ?tkv26) rfl (by kernel_rfl) (by kernel_rfl) (by kernel_rfl) (fun _ _ _ h => h) (Or.inl ⟨by rfl, ?tky26⟩) hG24 ?tkr26
      case tky26 => (intro w' hSw; clear hSw; go_simp; try with_reducible rfl)
      try simp only [Act.put, List.setIfInBounds_toArray, List.set_cons_zero, List.set_cons_succ]
      refine wpAnyH_take (i := 26) (oi := { dst := some 61, op := Op.pick (Operand.tmp 51) (Operand.tmp 60) (Operand.const (Value.bool false)), type := 4, pos := "law.go:40", after := #[{ on := 16, ground := Ground.data }, { on := 25, ground := Ground.data }], guard := none }) (v := ?tkv27) rfl (by kernel_rfl) (by kernel_rfl) (by kernel_rfl) (fun _ _ _ h => h) (Or.inl ⟨by rfl, ?tky27⟩) hG24 ?tkr27
      case tky27 => (intro w' hSw; clear hSw; go_simp; try with_reducible rfl)
      try simp only [Act.put, List.setIfInBounds_toArray, List.set_cons_zero, List.set_cons_succ]
      refine wpAnyH_take (i := 27) (oi := { dst := some 62, op := Op.move (Operand.tmp 61), type := 4, pos := "law.go:40", after := #[{ on := 26, ground := Ground.data }, { on := 23, ground := Ground.chain }], guard := none }) (v := ?tkv28) rfl (by kernel_rfl) (by kernel_rfl) (by kernel_rfl) (fun _ _ _ h => h) (Or.inl ⟨by rfl, ?tky28⟩) hG24 ?tkr28
      case tky28 => (intro w' hSw; clear hSw; go_simp; try with_reducible rfl)
      try simp only [Act.put, List.setIfInBounds_toArray, List.set_cons_zero, List.set_cons_succ]
      refine wpAnyH_ready (rs := [28]) (by kernel_rfl) (by simp) ?_
      refine AllReadyH.cons (o := { dst := some 63, op := Op.call { callee := Callee.value (Operand.func 10), args := #[], argTypes := #[] }, type := 4, pos := "law.go:40", after := #[{ on := 27, ground := Ground.chain }, { on := 27, ground := Ground.guard }], guard := some (27, true) }) rfl (fun K hK => ?_) AllReadyH.nil
      go_simp
      refine (awake10_any _).mono ?_
      rintro e w7 ⟨rfl, hb28⟩
      go_wp2_with fail
      refine hK.out _ _ (⟨(hG24.1).trans (hb28.mono (hG24.1).size), (hG24.2.1).trans (hb28.mono (hG24.2.1).size), (hG24.2.2.1).trans (hb28.mono (hG24.2.2.1).size), (hG24.2.2.2.1).trans (hb28.mono (hG24.2.2.2.1).size), (hG24.2.2.2.2.1).trans (hb28.mono (hG24.2.2.2.2.1).size), (hG24.2.2.2.2.2).trans (hb28.mono (hG24.2.2.2.2.2).size)⟩) (fun hH29 => ?_)
      clear hK K
      try simp only [Act.put, List.setIfInBounds_toArray, List.set_cons_zero, List.set_cons_succ]
      have hG29 : (fun W => Below wo.heap.size wo W ∧ Below w2.heap.size w2 W ∧ Below w3.heap.size w3 W ∧ Below w4.heap.size w4 W ∧ Below w5.heap.size w5 W ∧ Below w6.heap.size w6 W ∧ Below w7.heap.size w7 W) w7 := ⟨hH29.1, hH29.2.1, hH29.2.2.1, hH29.2.2.2.1, hH29.2.2.2.2.1, hH29.2.2.2.2.2, Below.refl _ _⟩
      refine wpAnyH_grow (S' := (fun W => Below wo.heap.size wo W ∧ Below w2.heap.size w2 W ∧ Below w3.heap.size w3 W ∧ Below w4.heap.size w4 W ∧ Below w5.heap.size w5 W ∧ Below w6.heap.size w6 W ∧ Below w7.heap.size w7 W)) (fun _ h => ⟨h.1, h.2.1, h.2.2.1, h.2.2.2.1, h.2.2.2.2.1, h.2.2.2.2.2.1⟩) _ _ _ _ ?_
      refine wpAnyH_take (i := 29) (oi := { dst := some 64, op := Op.pick (Operand.tmp 62) (Operand.tmp 63) (Operand.const (Value.bool false)), type := 4, pos := "law.go:40", after := #[{ on := 27, ground := Ground.data }, { on := 28, ground := Ground.data }], guard := none }) (v := ?tkv30) rfl (by kernel_rfl) (by kernel_rfl) (by kernel_rfl) (fun _ _ _ h => h) (Or.inl ⟨by rfl, ?tky30⟩) hG29 ?tkr30
      case tky30 => (intro w' hSw; clear hSw; go_simp; try with_reducible rfl)
      try simp only [Act.put, List.setIfInBounds_toArray, List.set_cons_zero, List.set_cons_succ]
      refine wpAnyH_take (i := 30) (oi := { dst := some 8, op := Op.assign (Operand.tmp 64), type := 4, pos := "law.go:40", after := #[{ on := 29, ground := Ground.data }, { on := 28, ground := Ground.chain }, { on := 0, ground := Ground.phase }, { on := 1, ground := Ground.phase }, { on := 2, ground := Ground.phase }, { on := 3, ground := Ground.phase }, { on := 4, ground := Ground.phase }, { on := 5, ground := Ground.phase }, { on := 6, ground := Ground.phase }, { on := 7, ground := Ground.phase }, { on := 8, ground := Ground.phase }, { on := 9, ground := Ground.phase }, { on := 10, ground := Ground.phase }, { on := 11, ground := Ground.phase }, { on := 12, ground := Ground.phase }, { on := 13, ground := Ground.phase }, { on := 14, ground := Ground.phase }, { on := 15, ground := Ground.phase }, { on := 16, ground := Ground.phase }, { on := 17, ground := Ground.phase }, { on := 18, ground := Ground.phase }, { on := 19, ground := Ground.phase }, { on := 20, ground := Ground.phase }, { on := 21, ground := Ground.phase }, { on := 22, ground := Ground.phase }, { on := 23, ground := Ground.phase }, { on := 24, ground := Ground.phase }, { on := 25, ground := Ground.phase }, { on := 26, ground := Ground.phase }, { on := 27, ground := Ground.phase }, { on := 28, ground := Ground.phase }, { on := 29, ground := Ground.phase }], guard := none }) (v := ?tkv31) rfl (by kernel_rfl) (by kernel_rfl) (by kernel_rfl) (fun _ _ _ h => h) (Or.inl ⟨by rfl, ?tky31⟩) hG29 ?tkr31
      case tky31 => (intro w' hSw; clear hSw; go_simp; try with_reducible rfl)
      try simp only [Act.put, List.setIfInBounds_toArray, List.set_cons_zero, List.set_cons_succ]
      refine wpAnyH_done (by kernel_rfl) ?_ _
      refine NoPanic.normal ?_
      have hEnd : Below wo.heap.size wo _ := hG29.1
      go_wp2_with fail
      go_ret
      exact ⟨rfl, hEnd⟩

set_option maxRecDepth 100000 in
theorem blockForms_lifted (os : Os) (started : os.Started) (H : Type) (enc : TypeId × Value → H) :
    ReturnsInHanded {} Try.checked os 3 .any (Rows.blockFormsSpec.pre6 enc Try.prog Try.f3 Rows.blockFormsRow.domain false) (Rows.blockFormsSpec.post enc Try.prog Try.f3 false true false false) := by
  refine law_lift (C := Try.checked) (tb := 4) Try.own started (by kernel_rfl) Try.func3
    (ChangeSpec.witness6 (enc := enc) (C := Try.checked) false ⟨#[], #[.slice none 0 0, .int .i64 0, .slice none 0 0, .int .i64 0], []⟩ 8 (by kernel_rfl) (by kernel_rfl) (by kernel_rfl) (by kernel_rfl)) Try.laidOut (by kernel_rfl) rfl rfl Try.underlying4 ?_ ?_
  · intro ds hds
    match ds, hds with
    | [_, _, _, _], _ => rfl
  intro W base args ds p hval0 hA0 _ _ hsz0
  have hval : ∀ (j : Nat) t v, Try.f3.params[j]? = some t → args[j]? = some v → Value.okWide Try.prog W .any base t v := hval0
  have hA : DataW.TrodAll enc Try.prog W 0 (fun _ => true) true Try.f3.params.toList args.toList ds p := hA0
  rw [Try.params3] at hA hval
  obtain ⟨v0, vs0, d0, ds0, p0, q0, hargs0, hds0, hps0, h0, r0⟩ := trodAll_cons hA
  obtain ⟨v1, vs1, d1, ds1, p1, q1, hargs1, hds1, hps1, h1, r1⟩ := trodAll_cons r0
  obtain ⟨v2, vs2, d2, ds2, p2, q2, hargs2, hds2, hps2, h2, r2⟩ := trodAll_cons r1
  obtain ⟨v3, vs3, d3, ds3, p3, q3, hargs3, hds3, hps3, h3, r3⟩ := trodAll_cons r2
  obtain ⟨e1, _, _⟩ := trodAll_nil r3
  obtain rfl : args = #[v0, v1, v2, v3] := by cases args; simp_all
  have hsz : (DataW.weightsEach Try.prog Try.f3.params.toList _).all (· ≤ reachBytes) = true := hsz0
  rw [Try.params3] at hsz
  subst hds3 hds2 hds1 hds0
  obtain ⟨_, hk0⟩ := weights_cons hsz
  obtain ⟨_, hk1⟩ := weights_cons hk0
  obtain ⟨hz2, _⟩ := weights_cons hk1
  obtain ⟨A0, n0, cap0, l0, rfl, hrow0, hnc0, hcm0⟩ := open_bytes Try.underlying22 Try.underlying5 Try.cells5 (hval 0 22 v0 rfl rfl) h0
  obtain ⟨x1, rfl, hx1, hy1⟩ := open_i64 Try.underlying3 (hval 1 3 v1 rfl rfl) h1
  obtain ⟨A2, n2, cap2, l2, rfl, hrow2, hnc2, hcm2, hbg2, hrc2⟩ := open_rows Try.underlying23 Try.underlying22 Try.underlying5 (by kernel_rfl) Try.cells5 (hval 2 23 v2 rfl rfl) h2
  obtain ⟨x3, rfl, hx3, hy3⟩ := open_i64 Try.underlying3 (hval 3 3 v3 rfl rfl) h3
  exact bforms_walk A0 n0 cap0 l0 x1 A2 n2 cap2 l2 x3 W hrow0 hnc0 hcm0 hrow2 hnc2 hcm2 hbg2 (hrc2 (by kernel_rfl) hz2) hx3 hy3

theorem blockForms_holds : Rows.BlockFormsSaid :=
  OpenClaim.holds_of_wide 3 Try.f3 rfl rfl rfl rfl rfl rfl rfl ⟨rfl, rfl, rfl, rfl, rfl⟩ rfl rfl rfl rfl rfl (by kernel_rfl) Try.func3 (by kernel_rfl)
    (of_decide_eq_true (by kernel_rfl)) (by unfold Func.isWrapper; rw [if_neg (of_decide_eq_false (by kernel_rfl))]; exact ⟨rfl, rfl⟩)
    (fun os started H enc _ => blockForms_lifted os started H enc)
end Go.Proofs.Ytiogkokcoedonaa
