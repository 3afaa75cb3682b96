/- MacInner's walk. -/
import Derived.Test.YtapjaagigjfidaaDoorMacTag
import Derived.Test.YtapjaagigjfidaaDoorGrow
namespace Go.Proofs.YtapjaagigjfidaaDoor.Sh
open Go.RowKit
theorem wpList_copy_grown {P : Program} {w : World} {ops : Array Oper} {rest : List Oper} {o : Oper} {a : Act} {Q : Exit → Act → World → Prop} (hgd : o.guard = none) (d s : Operand) (dT sT : TypeId)
    (ho : o.op = .call { callee := .builtin .copy, args := #[d, s], argTypes := #[dT, sT] }) (elem : TypeId) (hu : P.underlying dT = some (.slice elem)) (hsz : (P.info? elem).map (·.size) = some 1)
    (dp sp : Option Addr) (dLen dCap sLen sCap : Nat) (hd : a.eval d = .slice dp dLen dCap) (hs : a.eval s = .slice sp sLen sCap)
    (g off : Nat) (cur : List Value) (t : TypeId) (hg : w.heap[g]? = some (.cells cur.toArray t (0, 0))) (cs : List Value) (hn : cs.length = Nat.min sLen dLen)
    (hpos : 0 < cs.length → dp = some ⟨g, off, none⟩ ∧ ∃ ad, sp = some ad ∧ ∀ j v, cs[j]? = some v → w.cell? (ad.add j) = some v)
    (hfit : off + cs.length ≤ cur.length) (h1 : ∀ v ∈ cs, v.oneCell' = true)
    (h : ∀ w', Hid (w'.heap[g]? = some (.cells (splice cur off cs).toArray t (0, 0))) → Hid (w.grownBy w' (some g)) → wpList P ops Q rest (a.put o.dst (goInt cs.length)) w') :
    wpList P ops Q (o :: rest) a w := by
  by_cases h0 : cs.length = 0
  · obtain rfl : cs = [] := List.eq_nil_of_length_eq_zero h0
    refine wpList_copy_nothing hgd d s dT sT ho elem hu hsz dp sp dLen dCap sLen sCap hd hs (by simpa using hn.symm) ?_
    exact h w (show _ = _ by simpa [splice] using hg) ⟨rfl, rfl, rfl, Nat.le_refl _, fun _ _ _ => rfl⟩
  · obtain ⟨rfl, ad, rfl, hsrc⟩ := hpos (by omega)
    refine wpList_copy_own hgd d s dT sT ho elem hu hsz g off dLen dCap ad sLen sCap hd hs cur.toArray t hg cs hn hsrc (by simpa using hfit) h1 ?_
    exact h _ (show _ = _ by simpa [splice] using setRow_heap w g _ _ t _ hg) ⟨rfl, rfl, rfl, by simp, fun k _ hk => setRow_other w g k _ (fun e => hk (by rw [e]))⟩
def TwoZ (Z : List Value) (g1 g2 : Nat) (w wx : World) : Prop :=
  wx.heap[g1]? = some (.cells Z.toArray 5 (0, 0)) ∧ wx.heap[g2]? = some (.cells Z.toArray 5 (0, 0)) ∧ g1 ≠ g2 ∧ w.heap.size ≤ g1 ∧ w.heap.size ≤ g2 ∧ Below w.heap.size w wx
theorem two_new (Z : List Value) (w : World) : TwoZ Z w.heap.size (w.heap.size + 1) w ((w.alloc (.cells Z.toArray 5)).alloc (.cells Z.toArray 5)) :=
  ⟨heap_alloc2_old w _ _, heap_alloc2_new w _ _, by omega, Nat.le_refl _, by omega, ((Below.refl _ _).alloc (Nat.le_refl _) _).alloc (by simp) _⟩
theorem TwoZ.swap {Z : List Value} {g1 g2 : Nat} {w wx : World} (h : TwoZ Z g1 g2 w wx) : TwoZ Z g2 g1 w wx := ⟨h.2.1, h.1, h.2.2.1.symm, h.2.2.2.2.1, h.2.2.2.1, h.2.2.2.2.2⟩
theorem TwoZ.drew {Z : List Value} {g1 g2 : Nat} {w wx : World} (h : TwoZ Z g1 g2 w.drew wx) : TwoZ Z g1 g2 w wx := ⟨h.1, h.2.1, h.2.2.1, h.2.2.2.1, h.2.2.2.2.1, (Below.refl _ _).drew.trans h.2.2.2.2.2⟩
def TwoB (l : List UInt8) (k g1 g2 : Nat) (w wx : World) : Prop :=
  BAt wx g1 64 (xorTo l 0x36 k) ∧ BAt wx g2 64 (xorTo l 0x5c k) ∧ Below w.heap.size w wx
theorem xorTo_next (l : List UInt8) (x : UInt8) (k : Nat) (i : Nat) : xorTo l x (k + 1) i = if i = k then l.getD k 0 ^^^ x else xorTo l x k i := by
  unfold xorTo
  by_cases e : i = k
  · subst e; rw [if_pos rfl, if_pos (by omega)]
  · rw [if_neg e]
    by_cases h9 : i < k
    · rw [if_pos (by omega), if_pos h9]
    · rw [if_neg (by omega), if_neg h9]
set_option maxRecDepth 100000 in
set_option maxHeartbeats 3200000 in
theorem inner_walk (A1 : Option Addr) (n1 c1 : Nat) (key : List UInt8) (A2 : Option Addr) (n2 c2 : Nat) (b : List UInt8) (w : World) (ht : Tab w) (h1 : Row w w.heap.size A1 n1 (bv key)) (_ : n1 ≤ c1) (_ : c1 ≤ 9223372036854775807) (h2 : Row w w.heap.size A2 n2 (bv b)) (_ : n2 ≤ c2) (_ : c2 ≤ 9223372036854775807) :
    Calls Tryd.prog 12 #[.slice A1 n1 c1, .slice A2 n2 c2] w fun e w' => e = .returned (.bool true) ∧ Below w.heap.size w w' := by
  have HT := Lib.hid ht
  have H1 := Lib.hid h1
  have H2 := Lib.hid h2
  have HL1 := Lib.hid h1.blen
  have HL2 := Lib.hid h2.blen
  clear ht h1 h2
  by_cases hb1 : 64 < n1
  · go_enter Tryd.func12, Tryd.ntmps12
    go_wp2_with fail
    refine (awake3_any _ HT.out).mono ?_
    rintro e w1 ⟨rfl, hb⟩
    go_wp2_with fail
    go_ret
    exact ⟨rfl, hb⟩
  by_cases hb2 : 1000 < n2
  · go_enter Tryd.func12, Tryd.ntmps12
    go_wp2_with fail
    refine (awake3_any _ HT.out).mono ?_
    rintro e w1 ⟨rfl, hb⟩
    go_wp2_with fail
    go_ret
    exact ⟨rfl, hb⟩
  obtain ⟨Z, hZ⟩ : ∃ Z : List Value, List.replicate 64 (.int .u8 0) = Z := ⟨_, rfl⟩
  have hm : ∀ W, (Instr.makeSlice 23 (.int .i64 64) (.int .i64 64)).run Tryd.prog W = .ok (.slice (some ⟨W.heap.size, 0, none⟩) 64 64) (W.alloc (.cells Z.toArray 5)) := by
    intro W
    rw [← hZ]
    have := mk_bytes 64 (by omega) W
    rw [rep_list] at this
    exact this
  have HZ := Lib.hid hZ
  clear hZ
  go_enter Tryd.func12, Tryd.ntmps12
  go_upto_region 3 with fail
  go_cut [5, 6] (fun s5 s6 wx => ∃ g1 g2 : Nat, s5 = .slice (some ⟨g1, 0, none⟩) 64 64 ∧ s6 = .slice (some ⟨g2, 0, none⟩) 64 64 ∧ Hid (TwoZ Z g1 g2 w wx))
  case first =>
    go_region
    all_goals
      go_wp2_with fail
      go_meet
      first
        | exact ⟨_, _, rfl, rfl, (two_new Z w.drew).drew⟩
        | exact ⟨_, _, rfl, rfl, (two_new Z w.drew).swap.drew⟩
        | exact ⟨_, _, rfl, rfl, two_new Z w⟩
        | exact ⟨_, _, rfl, rfl, (two_new Z w).swap⟩
  case rest =>
    clear hm
    obtain ⟨g1, g2, rfl, rfl, hz⟩ := hcut
    obtain ⟨z1, z2, hne, hg1, hg2, hbx⟩ := hz.out
    have Z1 := Lib.hid z1
    have Z2 := Lib.hid z2
    have HBX := Lib.hid hbx
    clear z1 z2 hbx hz
    have L1 : g1 < wc.heap.size := (Array.getElem?_eq_some_iff.1 Z1.out).1
    have L2 : g2 < wc.heap.size := (Array.getElem?_eq_some_iff.1 Z2.out).1
    have hsrc : Hid (∀ W, Below w.heap.size w W → 0 < (bv key).length → ∃ ad, A1 = some ad ∧ ∀ j v, (bv key)[j]? = some v → W.cell? (ad.add j) = some v) := by
      intro W hW hp
      rw [bv_length, HL1.out] at hp
      obtain ⟨bb, o, e, _, hc⟩ := (H1.out.below hW).2 hp
      exact ⟨_, e, fun j v hv => by rw [plain_add]; exact hc j v hv⟩
    go_wp2_with (first
      | ((with_reducible show wpList _ _ _ _ _ _); refine wpList_copy_grown (o := ⟨some 21, _, _, _, _, _⟩) rfl (.tmp 19) (.tmp 20) 23 23 rfl 5 Tryd.underlying23 (by kernel_rfl) (some ⟨g1, 0, none⟩) A1 64 64 n1 c1 rfl rfl g1 0 Z 5 Z1.out (bv key) (by rw [bv_length, HL1.out]; exact (Nat.min_eq_left (by omega)).symm) (fun hp => ⟨rfl, hsrc.out _ HBX.out hp⟩) (by rw [bv_length, HL1.out, ← HZ.out, List.length_replicate]; omega) (bv_one _) ?_; intro w2 hcp1 hgr1; have Z2' := Lib.hid ((hgr1.out.block g2 L2 (by intro e; injection e with e; exact hne e.symm)).trans Z2.out); have HBX2 := Lib.hid (HBX.out.grown hgr1.out HBX.out.size (by intro g e; injection e with e; omega)))
      | ((with_reducible show wpList _ _ _ _ _ _); refine wpList_copy_grown (o := ⟨some 24, _, _, _, _, _⟩) rfl (.tmp 22) (.tmp 23) 23 23 rfl 5 Tryd.underlying23 (by kernel_rfl) (some ⟨g2, 0, none⟩) A1 64 64 n1 c1 rfl rfl g2 0 Z 5 Z2'.out (bv key) (by rw [bv_length, HL1.out]; exact (Nat.min_eq_left (by omega)).symm) (fun hp => ⟨rfl, hsrc.out _ HBX2.out hp⟩) (by rw [bv_length, HL1.out, ← HZ.out, List.length_replicate]; omega) (bv_one _) ?_; intro w3 hcp2 hgr2))
    have L1' : g1 < w2.heap.size := Nat.lt_of_lt_of_le L1 hgr1.out.size
    have hA0 : Hid (TwoB key 0 g1 g2 w w3) := by
      refine ⟨?_, ?_, HBX2.out.grown hgr2.out HBX2.out.size (by intro g e; injection e with e; omega)⟩
      · exact (splice_at HZ.out (by rw [HL1.out]; omega) ((hgr2.out.block g1 L1' (by intro e; injection e with e; exact hne e)).trans hcp1.out)).fun_ (fun i _ => by unfold xorTo; rw [if_neg (by omega)])
      · exact (splice_at HZ.out (by rw [HL1.out]; omega) hcp2.out).fun_ (fun i _ => by unfold xorTo; rw [if_neg (by omega)])
    clear hcp1 hgr1 hcp2 hgr2 Z1 Z2 Z2' HBX HBX2 hsrc L1 L2 L1'
    go_wp2_with fail
    go_loopw [27] (fun i wr => ∃ k : Nat, k ≤ 64 ∧ i = .int .i64 k ∧ Hid (TwoB key k g1 g2 w wr)) (fun i _ => 64 - (intOf i).toNat)
    case atStart => exact ⟨0, by omega, rfl, hA0⟩
    case round =>
      obtain ⟨k, hk, rfl, hd⟩ := hrel
      clear hA0
      by_cases hlt : k < 64
      · have hc1 := hd.out.1.at_ hlt
        have hf1 := hd.out.1.frozen k
        have hc2 := hd.out.2.1.at_ hlt
        have hf2 := hd.out.2.1.frozen k
        have e1 : xorTo key 0x36 k k = key.getD k 0 := by unfold xorTo; rw [if_neg (by omega)]
        have e2 : xorTo key 0x5c k k = key.getD k 0 := by unfold xorTo; rw [if_neg (by omega)]
        rw [e1] at hc1
        rw [e2] at hc2
        have hn1 : ¬ g1 = g2 := hne
        have hn2 : ¬ g2 = g1 := fun e => hne e.symm
        have HX1 : Hid (bits .xor .u8 ((key.getD k 0).toNat : Int) 54 = ((key.getD k 0 ^^^ 0x36).toNat : Int)) := xor_int (key.getD k 0) 0x36
        have HX2 : Hid (bits .xor .u8 ((key.getD k 0).toNat : Int) 92 = ((key.getD k 0 ^^^ 0x5c).toNat : Int)) := xor_int (key.getD k 0) 0x5c
        have hD : Hid (TwoB key (k + 1) g1 g2 w ((wr.setCell ⟨g1, k, none⟩ (.int .u8 ((key.getD k 0 ^^^ 0x36).toNat : Int))).setCell ⟨g2, k, none⟩ (.int .u8 ((key.getD k 0 ^^^ 0x5c).toNat : Int)))) := by
          obtain ⟨d1, d2, d3⟩ := hd.out
          refine ⟨?_, ?_, (d3.setCell hg1 _).setCell hg2 _⟩
          · have := d1.store (f' := xorTo key 0x36 (k + 1)) (x := key.getD k 0 ^^^ 0x36) hlt (fun i _ => xorTo_next key 0x36 k i)
            exact this.keep (heap_setCell_other _ _ _ _ hne)
          · have := (d2.keep (W' := wr.setCell ⟨g1, k, none⟩ (.int .u8 ((key.getD k 0 ^^^ 0x36).toNat : Int))) (heap_setCell_other _ _ _ _ (fun e => hne e.symm)))
            exact this.store hlt (fun i _ => xorTo_next key 0x5c k i)
        have k64 : (k : Int) < 64 := by omega
        clear hd e1 e2
        generalize key.getD k 0 = y at *
        go_wp2_with fail
        go_roundw
        case rel => exact ⟨k + 1, by omega, by go_num, by rw [HX1.out, HX2.out]; exact hD⟩
        case measure => simp [intOf]; omega
      · obtain rfl : 64 = k := by omega
        have O1 := Lib.hid (hd.out.1.own hg1 (by unfold maxLen; omega))
        have O2 := Lib.hid (hd.out.2.1.own hg2 (by unfold maxLen; omega))
        have HB := Lib.hid hd.out.2.2
        have hkey : Hid (keyOf key = key) := by show _ = _; unfold keyOf; rw [if_neg (by rw [HL1.out]; omega)]
        rw [show (List.range 64).map (xorTo key 0x36 64) = padB key 0x36 by unfold padB; apply List.map_congr_left; intro i hi; unfold xorTo; rw [if_pos (List.mem_range.1 hi)]] at O1
        rw [show (List.range 64).map (xorTo key 0x5c 64) = padB key 0x5c by unfold padB; apply List.map_congr_left; intro i hi; unfold xorTo; rw [if_pos (List.mem_range.1 hi)]] at O2
        clear hd
        go_upto_region 12 with fail
        -- REGION
        obtain ⟨p1, hp1⟩ : ∃ x, padB key 0x36 = x := ⟨_, rfl⟩
        obtain ⟨p2, hp2⟩ : ∃ x, padB key 0x5c = x := ⟨_, rfl⟩
        obtain ⟨d1, hd1⟩ : ∃ x, Sha.D (p1 ++ b) = x := ⟨_, rfl⟩
        obtain ⟨T, hT⟩ : ∃ x, tagOf key b = x := ⟨_, rfl⟩
        have HD1 := Lib.hid hd1
        have HP1 : Hid (p1.length = 64) := by rw [← hp1]; exact padB_length _ _
        have HP2 : Hid (p2.length = 64) := by rw [← hp2]; exact padB_length _ _
        have HLD : Hid (d1.length = 32) := by rw [← hd1]; exact Sha.D_length _
        have HTAG : Hid (Sha.D (p2 ++ d1) = T) := by
          show _ = _
          rw [← hT, tagOf_eq, hkey.out, hp1, hp2, hd1]
        rw [hp1] at O1
        rw [hp2] at O2
        have hf1 : Hid (flat [(⟨some ⟨g1, 0, none⟩, 64, 64, p1⟩ : BRow), ⟨A2, n2, c2, b⟩] = p1 ++ b) := by show _ = _; simp [flat]
        have CTAG : Hid (∀ W, Below w.heap.size w W → Calls Tryd.prog 20 #[.slice A1 n1 c1, .slice A2 n2 c2] W (TagOk T W)) := by
          intro W hW
          rw [← hT]
          exact tag_any w.heap.size n1 c1 A1 key w.heap.size n2 c2 A2 b W (HT.out.below hW HT.out.1) (H1.out.below hW) hW.size (H2.out.below hW) hW.size (by omega) (by omega)
        clear hp1 hp2 hd1 hT hkey
        refine wp_region_noPanic ?_
        refine wp_region_held_drew (S := (fun W => Below wr.heap.size wr W)) (by kernel_rfl) (Below.refl _ _).drew (fun hH0 => ?_)
        have hH0 : (fun W => Below wr.heap.size wr W) wr.drew := hH0
        generalize wr.drew = wd at *
        refine wpAnyH_take (i := 0) (oi := { dst := some 43, op := Op.move (Operand.tmp 0), type := 23, pos := "more.go:32", after := #[], guard := none }) (v := ?tkv601) rfl (by kernel_rfl) (by kernel_rfl) (by kernel_rfl) (fun _ _ _ h => h) (Or.inl ⟨by rfl, ?tky601⟩) hH0 ?tkr601
        case tky601 => (intro w' hSw; clear hSw; go_simp; try with_reducible rfl)
        try simp only [Act.put, List.setIfInBounds_toArray, List.set_cons_zero, List.set_cons_succ]
        refine wpAnyH_take (i := 1) (oi := { dst := some 44, op := Op.move (Operand.tmp 1), type := 23, pos := "more.go:32", after := #[], guard := none }) (v := ?tkv602) rfl (by kernel_rfl) (by kernel_rfl) (by kernel_rfl) (fun _ _ _ h => h) (Or.inl ⟨by rfl, ?tky602⟩) hH0 ?tkr602
        case tky602 => (intro w' hSw; clear hSw; go_simp; try with_reducible rfl)
        try simp only [Act.put, List.setIfInBounds_toArray, List.set_cons_zero, List.set_cons_succ]
        refine wpAnyH_take (i := 4) (oi := { dst := some 47, op := Op.move (Operand.tmp 6), type := 23, pos := "more.go:32", after := #[], guard := none }) (v := ?tkv603) rfl (by kernel_rfl) (by kernel_rfl) (by kernel_rfl) (fun _ _ _ h => h) (Or.inl ⟨by rfl, ?tky603⟩) hH0 ?tkr603
        case tky603 => (intro w' hSw; clear hSw; go_simp; try with_reducible rfl)
        try simp only [Act.put, List.setIfInBounds_toArray, List.set_cons_zero, List.set_cons_succ]
        refine wpAnyH_take (i := 5) (oi := { dst := some 48, op := Op.move (Operand.tmp 5), type := 23, pos := "more.go:32", after := #[], guard := none }) (v := ?tkv604) rfl (by kernel_rfl) (by kernel_rfl) (by kernel_rfl) (fun _ _ _ h => h) (Or.inl ⟨by rfl, ?tky604⟩) hH0 ?tkr604
        case tky604 => (intro w' hSw; clear hSw; go_simp; try with_reducible rfl)
        try simp only [Act.put, List.setIfInBounds_toArray, List.set_cons_zero, List.set_cons_succ]
        refine wpAnyH_take (i := 6) (oi := { dst := some 49, op := Op.move (Operand.tmp 1), type := 23, pos := "more.go:32", after := #[], guard := none }) (v := ?tkv605) rfl (by kernel_rfl) (by kernel_rfl) (by kernel_rfl) (fun _ _ _ h => h) (Or.inl ⟨by rfl, ?tky605⟩) hH0 ?tkr605
        case tky605 => (intro w' hSw; clear hSw; go_simp; try with_reducible rfl)
        try simp only [Act.put, List.setIfInBounds_toArray, List.set_cons_zero, List.set_cons_succ]
        refine wpAnyH_ready (rs := [2, 7]) (by kernel_rfl) (by simp) ?_
        refine AllReadyH.cons (o := { dst := some 45, op := Op.call { callee := Callee.value (Operand.func 20), args := #[Operand.tmp 43, Operand.tmp 44], argTypes := #[23, 23] }, type := 23, pos := "more.go:32", after := #[{ on := 0, ground := Ground.data }, { on := 1, ground := Ground.data }], guard := none }) rfl (fun K hK => ?_) (AllReadyH.cons (o := { dst := some 50, op := Op.buildSlice 22 2 #[(0, Operand.tmp 48), (1, Operand.tmp 49)], type := 22, pos := "more.go:32", after := #[{ on := 5, ground := Ground.data }, { on := 6, ground := Ground.data }], guard := none }) rfl (fun K hK => ?_) AllReadyH.nil)
        · go_simp
          have hBc := HB.out.trans ((hH0).mono HB.out.size)
          refine (CTAG.out _ hBc).mono ?_
          rintro e' wt606 ⟨At606, ct606, rfl, Ot606, hbt606⟩
          have hb606 := hbt606.out
          clear hbt606
          have hs606 : ∀ W, Below wt606.heap.size wt606 W → (convert 23 9 (.slice At606 32 ct606)).run Tryd.prog W = .ok (.string ⟨(T).toArray⟩) W := fun W hW => run_string_row (Row.of_own (own_below Ot606.out hW)) ct606 23 9 5 Tryd.underlying23 Tryd.underlying5 Tryd.underlying9
          clear hBc
          go_simp
          have hS606 : (fun W => Below wr.heap.size wr W) wt606 := (hH0).trans (hb606.mono (hH0).size)
          refine hK.out _ _ hS606 (fun hH606 => ?_)
          clear hK K
          try simp only [Act.put, List.setIfInBounds_toArray, List.set_cons_zero, List.set_cons_succ]
          have hG606 : (fun W => Below wr.heap.size wr W ∧ Below wt606.heap.size wt606 W) wt606 := ⟨hS606, Below.refl _ _⟩
          refine wpAnyH_grow (S' := (fun W => Below wr.heap.size wr W ∧ Below wt606.heap.size wt606 W)) (fun _ h => h.1) _ _ _ _ ?_
          refine wpAnyH_take (i := 3) (oi := { dst := some 46, op := Op.convert 23 9 (Operand.tmp 45), type := 9, pos := "more.go:32", after := #[{ on := 2, ground := Ground.data }], guard := none }) (v := ?tkv607) rfl (by kernel_rfl) (by kernel_rfl) (by kernel_rfl) (fun _ _ _ h => h) (Or.inl ⟨by rfl, ?tky607⟩) hG606 ?tkr607
          case tky607 => (intro w' hSw; have z0 := hs606 _ hSw.2; clear hSw; go_simp; try with_reducible rfl)
          try simp only [Act.put, List.setIfInBounds_toArray, List.set_cons_zero, List.set_cons_succ]
          refine wpAnyH_ready (rs := [7]) (by kernel_rfl) (by simp) ?_
          refine AllReadyH.cons (o := { dst := some 50, op := Op.buildSlice 22 2 #[(0, Operand.tmp 48), (1, Operand.tmp 49)], type := 22, pos := "more.go:32", after := #[{ on := 5, ground := Ground.data }, { on := 6, ground := Ground.data }], guard := none }) rfl (fun K hK => ?_) AllReadyH.nil
          go_simp
          have hBc := HB.out.trans ((hG606.1).mono HB.out.size)
          have hb608 : Below wt606.heap.size wt606 (wt606.alloc (.cells #[.slice (some ⟨g1, 0, none⟩) 64 64, .slice A2 n2 c2] 23)) := (Below.refl _ _).alloc (Nat.le_refl _) _
          have R608 : Rows2 (wt606.alloc (.cells #[.slice (some ⟨g1, 0, none⟩) 64 64, .slice A2 n2 c2] 23)) (wt606.heap.size + 1) (some ⟨wt606.heap.size, 0, none⟩) 2 [⟨some ⟨g1, 0, none⟩, 64, 64, p1⟩, ⟨A2, n2, c2, b⟩] := rows2_two wt606 ⟨some ⟨g1, 0, none⟩, 64, 64, p1⟩ ⟨A2, n2, c2, b⟩ _ (Row.of_own (own_below O1.out (hG606.1))) ((H2.out.below hBc).more hBc.size)
          have RH608 := Lib.hid R608
          clear R608 hBc
          have hS608 : (fun W => Below wr.heap.size wr W ∧ Below wt606.heap.size wt606 W) (wt606.alloc (.cells #[.slice (some ⟨g1, 0, none⟩) 64 64, .slice A2 n2 c2] 23)) := ⟨(hG606.1).trans (hb608.mono (hG606.1).size), (hG606.2).trans (hb608.mono (hG606.2).size)⟩
          refine hK.out _ _ hS608 (fun hH608 => ?_)
          clear hK K
          try simp only [Act.put, List.setIfInBounds_toArray, List.set_cons_zero, List.set_cons_succ]
          have hG608 : (fun W => Below wr.heap.size wr W ∧ Below wt606.heap.size wt606 W ∧ Below (wt606.alloc (.cells #[.slice (some ⟨g1, 0, none⟩) 64 64, .slice A2 n2 c2] 23)).heap.size (wt606.alloc (.cells #[.slice (some ⟨g1, 0, none⟩) 64 64, .slice A2 n2 c2] 23)) W) (wt606.alloc (.cells #[.slice (some ⟨g1, 0, none⟩) 64 64, .slice A2 n2 c2] 23)) := ⟨hS608.1, hS608.2, Below.refl _ _⟩
          refine wpAnyH_grow (S' := (fun W => Below wr.heap.size wr W ∧ Below wt606.heap.size wt606 W ∧ Below (wt606.alloc (.cells #[.slice (some ⟨g1, 0, none⟩) 64 64, .slice A2 n2 c2] 23)).heap.size (wt606.alloc (.cells #[.slice (some ⟨g1, 0, none⟩) 64 64, .slice A2 n2 c2] 23)) W)) (fun _ h => ⟨h.1, h.2.1⟩) _ _ _ _ ?_
          refine wpAnyH_ready (rs := [8]) (by kernel_rfl) (by simp) ?_
          refine AllReadyH.cons (o := { dst := some 51, op := Op.call { callee := Callee.value (Operand.func 17), args := #[Operand.tmp 50], argTypes := #[22] }, type := 23, pos := "more.go:32", after := #[{ on := 7, ground := Ground.data }, { on := 2, ground := Ground.chain }], guard := none }) rfl (fun K hK => ?_) AllReadyH.nil
          go_simp
          have hBc := HB.out.trans ((hG608.1).mono HB.out.size)
          have hq7 : wt606.heap.size + 1 ≤ (wt606.alloc (.cells #[.slice (some ⟨g1, 0, none⟩) 64 64, .slice A2 n2 c2] 23)).heap.size := Nat.le_trans (Nat.le_of_eq (World.size_alloc _ _).symm) (hG608.2.2).size
          refine (rows_any (wt606.heap.size + 1) 2 2 _ _ _ (HT.out.below hBc HT.out.1) (RH608.out.below ((hG608.2.2).mono (by simp))) hq7 (by rw [hf1.out, List.length_append, HP1.out, HL2.out]; omega) (by omega)).mono ?_
          rintro e' w8x609 ⟨A8x609, c8x609, rfl, O8x609, hb8x609⟩
          rw [hf1.out, HD1.out] at O8x609
          have hb609 := hb8x609.out
          clear hb8x609 hBc hq7
          go_simp
          have hS609 : (fun W => Below wr.heap.size wr W ∧ Below wt606.heap.size wt606 W ∧ Below (wt606.alloc (.cells #[.slice (some ⟨g1, 0, none⟩) 64 64, .slice A2 n2 c2] 23)).heap.size (wt606.alloc (.cells #[.slice (some ⟨g1, 0, none⟩) 64 64, .slice A2 n2 c2] 23)) W) w8x609 := ⟨(hG608.1).trans (hb609.mono (hG608.1).size), (hG608.2.1).trans (hb609.mono (hG608.2.1).size), (hG608.2.2).trans (hb609.mono (hG608.2.2).size)⟩
          refine hK.out _ _ hS609 (fun hH609 => ?_)
          clear hK K
          try simp only [Act.put, List.setIfInBounds_toArray, List.set_cons_zero, List.set_cons_succ]
          have hG609 : (fun W => Below wr.heap.size wr W ∧ Below wt606.heap.size wt606 W ∧ Below (wt606.alloc (.cells #[.slice (some ⟨g1, 0, none⟩) 64 64, .slice A2 n2 c2] 23)).heap.size (wt606.alloc (.cells #[.slice (some ⟨g1, 0, none⟩) 64 64, .slice A2 n2 c2] 23)) W ∧ Below w8x609.heap.size w8x609 W) w8x609 := ⟨hS609.1, hS609.2.1, hS609.2.2, Below.refl _ _⟩
          refine wpAnyH_grow (S' := (fun W => Below wr.heap.size wr W ∧ Below wt606.heap.size wt606 W ∧ Below (wt606.alloc (.cells #[.slice (some ⟨g1, 0, none⟩) 64 64, .slice A2 n2 c2] 23)).heap.size (wt606.alloc (.cells #[.slice (some ⟨g1, 0, none⟩) 64 64, .slice A2 n2 c2] 23)) W ∧ Below w8x609.heap.size w8x609 W)) (fun _ h => ⟨h.1, h.2.1, h.2.2.1⟩) _ _ _ _ ?_
          refine wpAnyH_ready (rs := [9]) (by kernel_rfl) (by simp) ?_
          refine AllReadyH.cons (o := { dst := some 52, op := Op.buildSlice 22 2 #[(0, Operand.tmp 47), (1, Operand.tmp 51)], type := 22, pos := "more.go:32", after := #[{ on := 4, ground := Ground.data }, { on := 8, ground := Ground.data }], guard := none }) rfl (fun K hK => ?_) AllReadyH.nil
          go_simp
          have hb610 : Below w8x609.heap.size w8x609 (w8x609.alloc (.cells #[.slice (some ⟨g2, 0, none⟩) 64 64, .slice A8x609 32 c8x609] 23)) := (Below.refl _ _).alloc (Nat.le_refl _) _
          have R610 : Rows2 (w8x609.alloc (.cells #[.slice (some ⟨g2, 0, none⟩) 64 64, .slice A8x609 32 c8x609] 23)) (w8x609.heap.size + 1) (some ⟨w8x609.heap.size, 0, none⟩) 2 [⟨some ⟨g2, 0, none⟩, 64, 64, p2⟩, ⟨A8x609, 32, c8x609, d1⟩] := rows2_two w8x609 ⟨some ⟨g2, 0, none⟩, 64, 64, p2⟩ ⟨A8x609, 32, c8x609, d1⟩ _ (Row.of_own (own_below O2.out (hG609.1))) (Row.of_own (own_below O8x609.out (hG609.2.2.2)))
          have RH610 := Lib.hid R610
          clear R610
          have hS610 : (fun W => Below wr.heap.size wr W ∧ Below wt606.heap.size wt606 W ∧ Below (wt606.alloc (.cells #[.slice (some ⟨g1, 0, none⟩) 64 64, .slice A2 n2 c2] 23)).heap.size (wt606.alloc (.cells #[.slice (some ⟨g1, 0, none⟩) 64 64, .slice A2 n2 c2] 23)) W ∧ Below w8x609.heap.size w8x609 W) (w8x609.alloc (.cells #[.slice (some ⟨g2, 0, none⟩) 64 64, .slice A8x609 32 c8x609] 23)) := ⟨(hG609.1).trans (hb610.mono (hG609.1).size), (hG609.2.1).trans (hb610.mono (hG609.2.1).size), (hG609.2.2.1).trans (hb610.mono (hG609.2.2.1).size), (hG609.2.2.2).trans (hb610.mono (hG609.2.2.2).size)⟩
          refine hK.out _ _ hS610 (fun hH610 => ?_)
          clear hK K
          try simp only [Act.put, List.setIfInBounds_toArray, List.set_cons_zero, List.set_cons_succ]
          have hG610 : (fun W => Below wr.heap.size wr W ∧ Below wt606.heap.size wt606 W ∧ Below (wt606.alloc (.cells #[.slice (some ⟨g1, 0, none⟩) 64 64, .slice A2 n2 c2] 23)).heap.size (wt606.alloc (.cells #[.slice (some ⟨g1, 0, none⟩) 64 64, .slice A2 n2 c2] 23)) W ∧ Below w8x609.heap.size w8x609 W ∧ Below (w8x609.alloc (.cells #[.slice (some ⟨g2, 0, none⟩) 64 64, .slice A8x609 32 c8x609] 23)).heap.size (w8x609.alloc (.cells #[.slice (some ⟨g2, 0, none⟩) 64 64, .slice A8x609 32 c8x609] 23)) W) (w8x609.alloc (.cells #[.slice (some ⟨g2, 0, none⟩) 64 64, .slice A8x609 32 c8x609] 23)) := ⟨hS610.1, hS610.2.1, hS610.2.2.1, hS610.2.2.2, Below.refl _ _⟩
          refine wpAnyH_grow (S' := (fun W => Below wr.heap.size wr W ∧ Below wt606.heap.size wt606 W ∧ Below (wt606.alloc (.cells #[.slice (some ⟨g1, 0, none⟩) 64 64, .slice A2 n2 c2] 23)).heap.size (wt606.alloc (.cells #[.slice (some ⟨g1, 0, none⟩) 64 64, .slice A2 n2 c2] 23)) W ∧ Below w8x609.heap.size w8x609 W ∧ Below (w8x609.alloc (.cells #[.slice (some ⟨g2, 0, none⟩) 64 64, .slice A8x609 32 c8x609] 23)).heap.size (w8x609.alloc (.cells #[.slice (some ⟨g2, 0, none⟩) 64 64, .slice A8x609 32 c8x609] 23)) W)) (fun _ h => ⟨h.1, h.2.1, h.2.2.1, h.2.2.2.1⟩) _ _ _ _ ?_
          refine wpAnyH_ready (rs := [10]) (by kernel_rfl) (by simp) ?_
          refine AllReadyH.cons (o := { dst := some 53, op := Op.call { callee := Callee.value (Operand.func 17), args := #[Operand.tmp 52], argTypes := #[22] }, type := 23, pos := "more.go:32", after := #[{ on := 9, ground := Ground.data }, { on := 8, ground := Ground.chain }], guard := none }) rfl (fun K hK => ?_) AllReadyH.nil
          go_simp
          have hBc := HB.out.trans ((hG610.1).mono HB.out.size)
          have hq9 : w8x609.heap.size + 1 ≤ (w8x609.alloc (.cells #[.slice (some ⟨g2, 0, none⟩) 64 64, .slice A8x609 32 c8x609] 23)).heap.size := Nat.le_trans (Nat.le_of_eq (World.size_alloc _ _).symm) (hG610.2.2.2.2).size
          have hf2 : flat [(⟨some ⟨g2, 0, none⟩, 64, 64, p2⟩ : BRow), ⟨A8x609, 32, c8x609, d1⟩] = p2 ++ d1 := by simp [flat]
          refine (rows_any (w8x609.heap.size + 1) 2 2 _ _ _ (HT.out.below hBc HT.out.1) (RH610.out.below ((hG610.2.2.2.2).mono (by simp))) hq9 (by rw [hf2, List.length_append, HP2.out, HLD.out]; omega) (by omega)).mono ?_
          rintro e' w10x611 ⟨A10x611, c10x611, rfl, O10x611, hb10x611⟩
          rw [hf2, HTAG.out] at O10x611
          have hb611 := hb10x611.out
          clear hb10x611 hBc hq9 hf2
          have hs611 : ∀ W, Below w10x611.heap.size w10x611 W → (convert 23 9 (.slice A10x611 32 c10x611)).run Tryd.prog W = .ok (.string ⟨(T).toArray⟩) W := fun W hW => run_string_row (Row.of_own (own_below O10x611.out hW)) c10x611 23 9 5 Tryd.underlying23 Tryd.underlying5 Tryd.underlying9
          go_simp
          have hS611 : (fun W => Below wr.heap.size wr W ∧ Below wt606.heap.size wt606 W ∧ Below (wt606.alloc (.cells #[.slice (some ⟨g1, 0, none⟩) 64 64, .slice A2 n2 c2] 23)).heap.size (wt606.alloc (.cells #[.slice (some ⟨g1, 0, none⟩) 64 64, .slice A2 n2 c2] 23)) W ∧ Below w8x609.heap.size w8x609 W ∧ Below (w8x609.alloc (.cells #[.slice (some ⟨g2, 0, none⟩) 64 64, .slice A8x609 32 c8x609] 23)).heap.size (w8x609.alloc (.cells #[.slice (some ⟨g2, 0, none⟩) 64 64, .slice A8x609 32 c8x609] 23)) W) w10x611 := ⟨(hG610.1).trans (hb611.mono (hG610.1).size), (hG610.2.1).trans (hb611.mono (hG610.2.1).size), (hG610.2.2.1).trans (hb611.mono (hG610.2.2.1).size), (hG610.2.2.2.1).trans (hb611.mono (hG610.2.2.2.1).size), (hG610.2.2.2.2).trans (hb611.mono (hG610.2.2.2.2).size)⟩
          refine hK.out _ _ hS611 (fun hH611 => ?_)
          clear hK K
          try simp only [Act.put, List.setIfInBounds_toArray, List.set_cons_zero, List.set_cons_succ]
          have hG611 : (fun W => Below wr.heap.size wr W ∧ Below wt606.heap.size wt606 W ∧ Below (wt606.alloc (.cells #[.slice (some ⟨g1, 0, none⟩) 64 64, .slice A2 n2 c2] 23)).heap.size (wt606.alloc (.cells #[.slice (some ⟨g1, 0, none⟩) 64 64, .slice A2 n2 c2] 23)) W ∧ Below w8x609.heap.size w8x609 W ∧ Below (w8x609.alloc (.cells #[.slice (some ⟨g2, 0, none⟩) 64 64, .slice A8x609 32 c8x609] 23)).heap.size (w8x609.alloc (.cells #[.slice (some ⟨g2, 0, none⟩) 64 64, .slice A8x609 32 c8x609] 23)) W ∧ Below w10x611.heap.size w10x611 W) w10x611 := ⟨hS611.1, hS611.2.1, hS611.2.2.1, hS611.2.2.2.1, hS611.2.2.2.2, Below.refl _ _⟩
          refine wpAnyH_grow (S' := (fun W => Below wr.heap.size wr W ∧ Below wt606.heap.size wt606 W ∧ Below (wt606.alloc (.cells #[.slice (some ⟨g1, 0, none⟩) 64 64, .slice A2 n2 c2] 23)).heap.size (wt606.alloc (.cells #[.slice (some ⟨g1, 0, none⟩) 64 64, .slice A2 n2 c2] 23)) W ∧ Below w8x609.heap.size w8x609 W ∧ Below (w8x609.alloc (.cells #[.slice (some ⟨g2, 0, none⟩) 64 64, .slice A8x609 32 c8x609] 23)).heap.size (w8x609.alloc (.cells #[.slice (some ⟨g2, 0, none⟩) 64 64, .slice A8x609 32 c8x609] 23)) W ∧ Below w10x611.heap.size w10x611 W)) (fun _ h => ⟨h.1, h.2.1, h.2.2.1, h.2.2.2.1, h.2.2.2.2.1⟩) _ _ _ _ ?_
          refine wpAnyH_take (i := 11) (oi := { dst := some 54, op := Op.convert 23 9 (Operand.tmp 53), type := 9, pos := "more.go:32", after := #[{ on := 10, ground := Ground.data }], guard := none }) (v := ?tkv612) rfl (by kernel_rfl) (by kernel_rfl) (by kernel_rfl) (fun _ _ _ h => h) (Or.inl ⟨by rfl, ?tky612⟩) hG611 ?tkr612
          case tky612 => (intro w' hSw; have z0 := hs606 _ hSw.2.1; have z1 := hs611 _ hSw.2.2.2.2.2; clear hSw; go_simp; try with_reducible rfl)
          try simp only [Act.put, List.setIfInBounds_toArray, List.set_cons_zero, List.set_cons_succ]
          refine wpAnyH_take (i := 12) (oi := { dst := some 55, op := Op.binOp BinOp.eql 9 (Operand.tmp 46) (Operand.tmp 54) 9, type := 4, pos := "more.go:32", after := #[{ on := 3, ground := Ground.data }, { on := 11, ground := Ground.data }], guard := none }) (v := ?tkv613) rfl (by kernel_rfl) (by kernel_rfl) (by kernel_rfl) (fun _ _ _ h => h) (Or.inl ⟨by rfl, ?tky613⟩) hG611 ?tkr613
          case tky613 => (intro w' hSw; clear hSw; go_simp; try with_reducible rfl)
          try simp only [Act.put, List.setIfInBounds_toArray, List.set_cons_zero, List.set_cons_succ]
          refine wpAnyH_take (i := 13) (oi := { dst := some 56, op := Op.move (Operand.tmp 55), type := 4, pos := "more.go:32", after := #[{ on := 12, ground := Ground.data }, { on := 10, ground := Ground.chain }], guard := none }) (v := ?tkv614) rfl (by kernel_rfl) (by kernel_rfl) (by kernel_rfl) (fun _ _ _ h => h) (Or.inl ⟨by rfl, ?tky614⟩) hG611 ?tkr614
          case tky614 => (intro w' hSw; clear hSw; go_simp; try with_reducible rfl)
          try simp only [Act.put, List.setIfInBounds_toArray, List.set_cons_zero, List.set_cons_succ]
          refine wpAnyH_take (i := 14) (oi := { dst := some 57, op := Op.move (Operand.tmp 0), type := 23, pos := "more.go:32", after := #[{ on := 13, ground := Ground.guard }], guard := some (13, true) }) (v := ?tkv615) rfl (by kernel_rfl) (by kernel_rfl) (by kernel_rfl) (fun _ _ _ h => h) (Or.inl ⟨by rfl, ?tky615⟩) hG611 ?tkr615
          case tky615 => (intro w' hSw; clear hSw; go_simp; try with_reducible rfl)
          try simp only [Act.put, List.setIfInBounds_toArray, List.set_cons_zero, List.set_cons_succ]
          refine wpAnyH_take (i := 15) (oi := { dst := some 58, op := Op.move (Operand.tmp 1), type := 23, pos := "more.go:32", after := #[{ on := 13, ground := Ground.guard }], guard := some (13, true) }) (v := ?tkv616) rfl (by kernel_rfl) (by kernel_rfl) (by kernel_rfl) (fun _ _ _ h => h) (Or.inl ⟨by rfl, ?tky616⟩) hG611 ?tkr616
          case tky616 => (intro w' hSw; clear hSw; go_simp; try with_reducible rfl)
          try simp only [Act.put, List.setIfInBounds_toArray, List.set_cons_zero, List.set_cons_succ]
          refine wpAnyH_ready (rs := [16]) (by kernel_rfl) (by simp) ?_
          refine AllReadyH.cons (o := { dst := some 59, op := Op.call { callee := Callee.value (Operand.func 20), args := #[Operand.tmp 57, Operand.tmp 58], argTypes := #[23, 23] }, type := 23, pos := "more.go:32", after := #[{ on := 14, ground := Ground.data }, { on := 15, ground := Ground.data }, { on := 13, ground := Ground.chain }, { on := 13, ground := Ground.guard }], guard := some (13, true) }) rfl (fun K hK => ?_) AllReadyH.nil
          go_simp
          have hBc := HB.out.trans ((hG611.1).mono HB.out.size)
          refine (CTAG.out _ hBc).mono ?_
          rintro e' wt617 ⟨At617, ct617, rfl, Ot617, hbt617⟩
          have hb617 := hbt617.out
          clear hbt617
          clear hBc
          go_simp
          have hS617 : (fun W => Below wr.heap.size wr W ∧ Below wt606.heap.size wt606 W ∧ Below (wt606.alloc (.cells #[.slice (some ⟨g1, 0, none⟩) 64 64, .slice A2 n2 c2] 23)).heap.size (wt606.alloc (.cells #[.slice (some ⟨g1, 0, none⟩) 64 64, .slice A2 n2 c2] 23)) W ∧ Below w8x609.heap.size w8x609 W ∧ Below (w8x609.alloc (.cells #[.slice (some ⟨g2, 0, none⟩) 64 64, .slice A8x609 32 c8x609] 23)).heap.size (w8x609.alloc (.cells #[.slice (some ⟨g2, 0, none⟩) 64 64, .slice A8x609 32 c8x609] 23)) W ∧ Below w10x611.heap.size w10x611 W) wt617 := ⟨(hG611.1).trans (hb617.mono (hG611.1).size), (hG611.2.1).trans (hb617.mono (hG611.2.1).size), (hG611.2.2.1).trans (hb617.mono (hG611.2.2.1).size), (hG611.2.2.2.1).trans (hb617.mono (hG611.2.2.2.1).size), (hG611.2.2.2.2.1).trans (hb617.mono (hG611.2.2.2.2.1).size), (hG611.2.2.2.2.2).trans (hb617.mono (hG611.2.2.2.2.2).size)⟩
          refine hK.out _ _ hS617 (fun hH617 => ?_)
          clear hK K
          try simp only [Act.put, List.setIfInBounds_toArray, List.set_cons_zero, List.set_cons_succ]
          have hG617 : (fun W => Below wr.heap.size wr W ∧ Below wt606.heap.size wt606 W ∧ Below (wt606.alloc (.cells #[.slice (some ⟨g1, 0, none⟩) 64 64, .slice A2 n2 c2] 23)).heap.size (wt606.alloc (.cells #[.slice (some ⟨g1, 0, none⟩) 64 64, .slice A2 n2 c2] 23)) W ∧ Below w8x609.heap.size w8x609 W ∧ Below (w8x609.alloc (.cells #[.slice (some ⟨g2, 0, none⟩) 64 64, .slice A8x609 32 c8x609] 23)).heap.size (w8x609.alloc (.cells #[.slice (some ⟨g2, 0, none⟩) 64 64, .slice A8x609 32 c8x609] 23)) W ∧ Below w10x611.heap.size w10x611 W ∧ Below wt617.heap.size wt617 W) wt617 := ⟨hS617.1, hS617.2.1, hS617.2.2.1, hS617.2.2.2.1, hS617.2.2.2.2.1, hS617.2.2.2.2.2, Below.refl _ _⟩
          refine wpAnyH_grow (S' := (fun W => Below wr.heap.size wr W ∧ Below wt606.heap.size wt606 W ∧ Below (wt606.alloc (.cells #[.slice (some ⟨g1, 0, none⟩) 64 64, .slice A2 n2 c2] 23)).heap.size (wt606.alloc (.cells #[.slice (some ⟨g1, 0, none⟩) 64 64, .slice A2 n2 c2] 23)) W ∧ Below w8x609.heap.size w8x609 W ∧ Below (w8x609.alloc (.cells #[.slice (some ⟨g2, 0, none⟩) 64 64, .slice A8x609 32 c8x609] 23)).heap.size (w8x609.alloc (.cells #[.slice (some ⟨g2, 0, none⟩) 64 64, .slice A8x609 32 c8x609] 23)) W ∧ Below w10x611.heap.size w10x611 W ∧ Below wt617.heap.size wt617 W)) (fun _ h => ⟨h.1, h.2.1, h.2.2.1, h.2.2.2.1, h.2.2.2.2.1, h.2.2.2.2.2.1⟩) _ _ _ _ ?_
          refine wpAnyH_take (i := 17) (oi := { dst := some 60, op := Op.call { callee := Callee.builtin Builtin.len, args := #[Operand.tmp 59], argTypes := #[23] }, type := 3, pos := "more.go:32", after := #[{ on := 16, ground := Ground.data }, { on := 13, ground := Ground.guard }], guard := some (13, true) }) (v := ?tkv618) rfl (by kernel_rfl) (by kernel_rfl) (by kernel_rfl) (fun _ _ _ h => h) (Or.inl ⟨by rfl, ?tky618⟩) hG617 ?tkr618
          case tky618 => (intro w' hSw; clear hSw; go_simp; try with_reducible rfl)
          try simp only [Act.put, List.setIfInBounds_toArray, List.set_cons_zero, List.set_cons_succ]
          refine wpAnyH_take (i := 18) (oi := { dst := some 61, op := Op.binOp BinOp.eql 3 (Operand.tmp 60) (Operand.const (Value.int IntKind.i64 32)) 3, type := 4, pos := "more.go:32", after := #[{ on := 17, ground := Ground.data }, { on := 13, ground := Ground.guard }], guard := some (13, true) }) (v := ?tkv619) rfl (by kernel_rfl) (by kernel_rfl) (by kernel_rfl) (fun _ _ _ h => h) (Or.inl ⟨by rfl, ?tky619⟩) hG617 ?tkr619
          case tky619 => (intro w' hSw; clear hSw; go_simp; try with_reducible rfl)
          try simp only [Act.put, List.setIfInBounds_toArray, List.set_cons_zero, List.set_cons_succ]
          refine wpAnyH_take (i := 19) (oi := { dst := some 62, op := Op.pick (Operand.tmp 56) (Operand.tmp 61) (Operand.const (Value.bool false)), type := 4, pos := "more.go:32", after := #[{ on := 13, ground := Ground.data }, { on := 18, ground := Ground.data }], guard := none }) (v := ?tkv620) rfl (by kernel_rfl) (by kernel_rfl) (by kernel_rfl) (fun _ _ _ h => h) (Or.inl ⟨by rfl, ?tky620⟩) hG617 ?tkr620
          case tky620 => (intro w' hSw; clear hSw; go_simp; try with_reducible rfl)
          try simp only [Act.put, List.setIfInBounds_toArray, List.set_cons_zero, List.set_cons_succ]
          refine wpAnyH_take (i := 20) (oi := { dst := some 63, op := Op.move (Operand.tmp 62), type := 4, pos := "more.go:32", after := #[{ on := 19, ground := Ground.data }, { on := 16, ground := Ground.chain }], guard := none }) (v := ?tkv621) rfl (by kernel_rfl) (by kernel_rfl) (by kernel_rfl) (fun _ _ _ h => h) (Or.inl ⟨by rfl, ?tky621⟩) hG617 ?tkr621
          case tky621 => (intro w' hSw; clear hSw; go_simp; try with_reducible rfl)
          try simp only [Act.put, List.setIfInBounds_toArray, List.set_cons_zero, List.set_cons_succ]
          refine wpAnyH_ready (rs := [21]) (by kernel_rfl) (by simp) ?_
          refine AllReadyH.cons (o := { dst := some 64, op := Op.call { callee := Callee.value (Operand.func 18), args := #[], argTypes := #[] }, type := 4, pos := "more.go:32", after := #[{ on := 20, ground := Ground.chain }, { on := 20, ground := Ground.guard }], guard := some (20, true) }) rfl (fun K hK => ?_) AllReadyH.nil
          go_simp
          have hBc := HB.out.trans ((hG617.1).mono HB.out.size)
          refine (awake3_any _ (HT.out.below hBc HT.out.1)).mono ?_
          rintro e' wa622 ⟨rfl, hb622⟩
          clear hBc
          go_simp
          have hS622 : (fun W => Below wr.heap.size wr W ∧ Below wt606.heap.size wt606 W ∧ Below (wt606.alloc (.cells #[.slice (some ⟨g1, 0, none⟩) 64 64, .slice A2 n2 c2] 23)).heap.size (wt606.alloc (.cells #[.slice (some ⟨g1, 0, none⟩) 64 64, .slice A2 n2 c2] 23)) W ∧ Below w8x609.heap.size w8x609 W ∧ Below (w8x609.alloc (.cells #[.slice (some ⟨g2, 0, none⟩) 64 64, .slice A8x609 32 c8x609] 23)).heap.size (w8x609.alloc (.cells #[.slice (some ⟨g2, 0, none⟩) 64 64, .slice A8x609 32 c8x609] 23)) W ∧ Below w10x611.heap.size w10x611 W ∧ Below wt617.heap.size wt617 W) wa622 := ⟨(hG617.1).trans (hb622.mono (hG617.1).size), (hG617.2.1).trans (hb622.mono (hG617.2.1).size), (hG617.2.2.1).trans (hb622.mono (hG617.2.2.1).size), (hG617.2.2.2.1).trans (hb622.mono (hG617.2.2.2.1).size), (hG617.2.2.2.2.1).trans (hb622.mono (hG617.2.2.2.2.1).size), (hG617.2.2.2.2.2.1).trans (hb622.mono (hG617.2.2.2.2.2.1).size), (hG617.2.2.2.2.2.2).trans (hb622.mono (hG617.2.2.2.2.2.2).size)⟩
          refine hK.out _ _ hS622 (fun hH622 => ?_)
          clear hK K
          try simp only [Act.put, List.setIfInBounds_toArray, List.set_cons_zero, List.set_cons_succ]
          refine wpAnyH_take (i := 22) (oi := { dst := some 65, op := Op.pick (Operand.tmp 63) (Operand.tmp 64) (Operand.const (Value.bool false)), type := 4, pos := "more.go:32", after := #[{ on := 20, ground := Ground.data }, { on := 21, ground := Ground.data }], guard := none }) (v := ?tkv623) rfl (by kernel_rfl) (by kernel_rfl) (by kernel_rfl) (fun _ _ _ h => h) (Or.inl ⟨by rfl, ?tky623⟩) hH622 ?tkr623
          case tky623 => (intro w' hSw; clear hSw; go_simp; try with_reducible rfl)
          try simp only [Act.put, List.setIfInBounds_toArray, List.set_cons_zero, List.set_cons_succ]
          refine wpAnyH_take (i := 23) (oi := { dst := some 4, op := Op.assign (Operand.tmp 65), type := 4, pos := "more.go:32", after := #[{ on := 22, ground := Ground.data }, { on := 21, ground := Ground.chain }, { on := 0, ground := Ground.phase }, { on := 1, ground := Ground.phase }, { on := 2, ground := Ground.phase }, { on := 3, ground := Ground.phase }, { on := 4, ground := Ground.phase }, { on := 5, ground := Ground.phase }, { on := 6, ground := Ground.phase }, { on := 7, ground := Ground.phase }, { on := 8, ground := Ground.phase }, { on := 9, ground := Ground.phase }, { on := 10, ground := Ground.phase }, { on := 11, ground := Ground.phase }, { on := 12, ground := Ground.phase }, { on := 13, ground := Ground.phase }, { on := 14, ground := Ground.phase }, { on := 15, ground := Ground.phase }, { on := 16, ground := Ground.phase }, { on := 17, ground := Ground.phase }, { on := 18, ground := Ground.phase }, { on := 19, ground := Ground.phase }, { on := 20, ground := Ground.phase }, { on := 21, ground := Ground.phase }, { on := 22, ground := Ground.phase }], guard := none }) (v := ?tkv624) rfl (by kernel_rfl) (by kernel_rfl) (by kernel_rfl) (fun _ _ _ h => h) (Or.inl ⟨by rfl, ?tky624⟩) hH622 ?tkr624
          case tky624 => (intro w' hSw; clear hSw; go_simp; try with_reducible rfl)
          try simp only [Act.put, List.setIfInBounds_toArray, List.set_cons_zero, List.set_cons_succ]
          refine wpAnyH_done (by kernel_rfl) ?_ _
          refine NoPanic.normal ?_
          have hEnd := HB.out.trans ((hH622.1).mono HB.out.size)
          go_wp2_with fail
          go_ret
          exact ⟨rfl, hEnd⟩
        · go_simp
          have hBc := HB.out.trans ((hH0).mono HB.out.size)
          have hb625 : Below wd.heap.size wd (wd.alloc (.cells #[.slice (some ⟨g1, 0, none⟩) 64 64, .slice A2 n2 c2] 23)) := (Below.refl _ _).alloc (Nat.le_refl _) _
          have R625 : Rows2 (wd.alloc (.cells #[.slice (some ⟨g1, 0, none⟩) 64 64, .slice A2 n2 c2] 23)) (wd.heap.size + 1) (some ⟨wd.heap.size, 0, none⟩) 2 [⟨some ⟨g1, 0, none⟩, 64, 64, p1⟩, ⟨A2, n2, c2, b⟩] := rows2_two wd ⟨some ⟨g1, 0, none⟩, 64, 64, p1⟩ ⟨A2, n2, c2, b⟩ _ (Row.of_own (own_below O1.out (hH0))) ((H2.out.below hBc).more hBc.size)
          have RH625 := Lib.hid R625
          clear R625 hBc
          have hS625 : (fun W => Below wr.heap.size wr W) (wd.alloc (.cells #[.slice (some ⟨g1, 0, none⟩) 64 64, .slice A2 n2 c2] 23)) := (hH0).trans (hb625.mono (hH0).size)
          refine hK.out _ _ hS625 (fun hH625 => ?_)
          clear hK K
          try simp only [Act.put, List.setIfInBounds_toArray, List.set_cons_zero, List.set_cons_succ]
          have hG625 : (fun W => Below wr.heap.size wr W ∧ Below (wd.alloc (.cells #[.slice (some ⟨g1, 0, none⟩) 64 64, .slice A2 n2 c2] 23)).heap.size (wd.alloc (.cells #[.slice (some ⟨g1, 0, none⟩) 64 64, .slice A2 n2 c2] 23)) W) (wd.alloc (.cells #[.slice (some ⟨g1, 0, none⟩) 64 64, .slice A2 n2 c2] 23)) := ⟨hS625, Below.refl _ _⟩
          refine wpAnyH_grow (S' := (fun W => Below wr.heap.size wr W ∧ Below (wd.alloc (.cells #[.slice (some ⟨g1, 0, none⟩) 64 64, .slice A2 n2 c2] 23)).heap.size (wd.alloc (.cells #[.slice (some ⟨g1, 0, none⟩) 64 64, .slice A2 n2 c2] 23)) W)) (fun _ h => h.1) _ _ _ _ ?_
          refine wpAnyH_ready (rs := [2]) (by kernel_rfl) (by simp) ?_
          refine AllReadyH.cons (o := { dst := some 45, op := Op.call { callee := Callee.value (Operand.func 20), args := #[Operand.tmp 43, Operand.tmp 44], argTypes := #[23, 23] }, type := 23, pos := "more.go:32", after := #[{ on := 0, ground := Ground.data }, { on := 1, ground := Ground.data }], guard := none }) rfl (fun K hK => ?_) AllReadyH.nil
          go_simp
          have hBc := HB.out.trans ((hG625.1).mono HB.out.size)
          refine (CTAG.out _ hBc).mono ?_
          rintro e' wt626 ⟨At626, ct626, rfl, Ot626, hbt626⟩
          have hb626 := hbt626.out
          clear hbt626
          have hs626 : ∀ W, Below wt626.heap.size wt626 W → (convert 23 9 (.slice At626 32 ct626)).run Tryd.prog W = .ok (.string ⟨(T).toArray⟩) W := fun W hW => run_string_row (Row.of_own (own_below Ot626.out hW)) ct626 23 9 5 Tryd.underlying23 Tryd.underlying5 Tryd.underlying9
          clear hBc
          go_simp
          have hS626 : (fun W => Below wr.heap.size wr W ∧ Below (wd.alloc (.cells #[.slice (some ⟨g1, 0, none⟩) 64 64, .slice A2 n2 c2] 23)).heap.size (wd.alloc (.cells #[.slice (some ⟨g1, 0, none⟩) 64 64, .slice A2 n2 c2] 23)) W) wt626 := ⟨(hG625.1).trans (hb626.mono (hG625.1).size), (hG625.2).trans (hb626.mono (hG625.2).size)⟩
          refine hK.out _ _ hS626 (fun hH626 => ?_)
          clear hK K
          try simp only [Act.put, List.setIfInBounds_toArray, List.set_cons_zero, List.set_cons_succ]
          have hG626 : (fun W => Below wr.heap.size wr W ∧ Below (wd.alloc (.cells #[.slice (some ⟨g1, 0, none⟩) 64 64, .slice A2 n2 c2] 23)).heap.size (wd.alloc (.cells #[.slice (some ⟨g1, 0, none⟩) 64 64, .slice A2 n2 c2] 23)) W ∧ Below wt626.heap.size wt626 W) wt626 := ⟨hS626.1, hS626.2, Below.refl _ _⟩
          refine wpAnyH_grow (S' := (fun W => Below wr.heap.size wr W ∧ Below (wd.alloc (.cells #[.slice (some ⟨g1, 0, none⟩) 64 64, .slice A2 n2 c2] 23)).heap.size (wd.alloc (.cells #[.slice (some ⟨g1, 0, none⟩) 64 64, .slice A2 n2 c2] 23)) W ∧ Below wt626.heap.size wt626 W)) (fun _ h => ⟨h.1, h.2.1⟩) _ _ _ _ ?_
          refine wpAnyH_take (i := 3) (oi := { dst := some 46, op := Op.convert 23 9 (Operand.tmp 45), type := 9, pos := "more.go:32", after := #[{ on := 2, ground := Ground.data }], guard := none }) (v := ?tkv627) rfl (by kernel_rfl) (by kernel_rfl) (by kernel_rfl) (fun _ _ _ h => h) (Or.inl ⟨by rfl, ?tky627⟩) hG626 ?tkr627
          case tky627 => (intro w' hSw; have z0 := hs626 _ hSw.2.2; clear hSw; go_simp; try with_reducible rfl)
          try simp only [Act.put, List.setIfInBounds_toArray, List.set_cons_zero, List.set_cons_succ]
          refine wpAnyH_ready (rs := [8]) (by kernel_rfl) (by simp) ?_
          refine AllReadyH.cons (o := { dst := some 51, op := Op.call { callee := Callee.value (Operand.func 17), args := #[Operand.tmp 50], argTypes := #[22] }, type := 23, pos := "more.go:32", after := #[{ on := 7, ground := Ground.data }, { on := 2, ground := Ground.chain }], guard := none }) rfl (fun K hK => ?_) AllReadyH.nil
          go_simp
          have hBc := HB.out.trans ((hG626.1).mono HB.out.size)
          have hq7 : wd.heap.size + 1 ≤ wt626.heap.size := Nat.le_trans (Nat.le_of_eq (World.size_alloc _ _).symm) (hG626.2.1).size
          refine (rows_any (wd.heap.size + 1) 2 2 _ _ _ (HT.out.below hBc HT.out.1) (RH625.out.below ((hG626.2.1).mono (by simp))) hq7 (by rw [hf1.out, List.length_append, HP1.out, HL2.out]; omega) (by omega)).mono ?_
          rintro e' w8x628 ⟨A8x628, c8x628, rfl, O8x628, hb8x628⟩
          rw [hf1.out, HD1.out] at O8x628
          have hb628 := hb8x628.out
          clear hb8x628 hBc hq7
          go_simp
          have hS628 : (fun W => Below wr.heap.size wr W ∧ Below (wd.alloc (.cells #[.slice (some ⟨g1, 0, none⟩) 64 64, .slice A2 n2 c2] 23)).heap.size (wd.alloc (.cells #[.slice (some ⟨g1, 0, none⟩) 64 64, .slice A2 n2 c2] 23)) W ∧ Below wt626.heap.size wt626 W) w8x628 := ⟨(hG626.1).trans (hb628.mono (hG626.1).size), (hG626.2.1).trans (hb628.mono (hG626.2.1).size), (hG626.2.2).trans (hb628.mono (hG626.2.2).size)⟩
          refine hK.out _ _ hS628 (fun hH628 => ?_)
          clear hK K
          try simp only [Act.put, List.setIfInBounds_toArray, List.set_cons_zero, List.set_cons_succ]
          have hG628 : (fun W => Below wr.heap.size wr W ∧ Below (wd.alloc (.cells #[.slice (some ⟨g1, 0, none⟩) 64 64, .slice A2 n2 c2] 23)).heap.size (wd.alloc (.cells #[.slice (some ⟨g1, 0, none⟩) 64 64, .slice A2 n2 c2] 23)) W ∧ Below wt626.heap.size wt626 W ∧ Below w8x628.heap.size w8x628 W) w8x628 := ⟨hS628.1, hS628.2.1, hS628.2.2, Below.refl _ _⟩
          refine wpAnyH_grow (S' := (fun W => Below wr.heap.size wr W ∧ Below (wd.alloc (.cells #[.slice (some ⟨g1, 0, none⟩) 64 64, .slice A2 n2 c2] 23)).heap.size (wd.alloc (.cells #[.slice (some ⟨g1, 0, none⟩) 64 64, .slice A2 n2 c2] 23)) W ∧ Below wt626.heap.size wt626 W ∧ Below w8x628.heap.size w8x628 W)) (fun _ h => ⟨h.1, h.2.1, h.2.2.1⟩) _ _ _ _ ?_
          refine wpAnyH_ready (rs := [9]) (by kernel_rfl) (by simp) ?_
          refine AllReadyH.cons (o := { dst := some 52, op := Op.buildSlice 22 2 #[(0, Operand.tmp 47), (1, Operand.tmp 51)], type := 22, pos := "more.go:32", after := #[{ on := 4, ground := Ground.data }, { on := 8, ground := Ground.data }], guard := none }) rfl (fun K hK => ?_) AllReadyH.nil
          go_simp
          have hb629 : Below w8x628.heap.size w8x628 (w8x628.alloc (.cells #[.slice (some ⟨g2, 0, none⟩) 64 64, .slice A8x628 32 c8x628] 23)) := (Below.refl _ _).alloc (Nat.le_refl _) _
          have R629 : Rows2 (w8x628.alloc (.cells #[.slice (some ⟨g2, 0, none⟩) 64 64, .slice A8x628 32 c8x628] 23)) (w8x628.heap.size + 1) (some ⟨w8x628.heap.size, 0, none⟩) 2 [⟨some ⟨g2, 0, none⟩, 64, 64, p2⟩, ⟨A8x628, 32, c8x628, d1⟩] := rows2_two w8x628 ⟨some ⟨g2, 0, none⟩, 64, 64, p2⟩ ⟨A8x628, 32, c8x628, d1⟩ _ (Row.of_own (own_below O2.out (hG628.1))) (Row.of_own (own_below O8x628.out (hG628.2.2.2)))
          have RH629 := Lib.hid R629
          clear R629
          have hS629 : (fun W => Below wr.heap.size wr W ∧ Below (wd.alloc (.cells #[.slice (some ⟨g1, 0, none⟩) 64 64, .slice A2 n2 c2] 23)).heap.size (wd.alloc (.cells #[.slice (some ⟨g1, 0, none⟩) 64 64, .slice A2 n2 c2] 23)) W ∧ Below wt626.heap.size wt626 W ∧ Below w8x628.heap.size w8x628 W) (w8x628.alloc (.cells #[.slice (some ⟨g2, 0, none⟩) 64 64, .slice A8x628 32 c8x628] 23)) := ⟨(hG628.1).trans (hb629.mono (hG628.1).size), (hG628.2.1).trans (hb629.mono (hG628.2.1).size), (hG628.2.2.1).trans (hb629.mono (hG628.2.2.1).size), (hG628.2.2.2).trans (hb629.mono (hG628.2.2.2).size)⟩
          refine hK.out _ _ hS629 (fun hH629 => ?_)
          clear hK K
          try simp only [Act.put, List.setIfInBounds_toArray, List.set_cons_zero, List.set_cons_succ]
          have hG629 : (fun W => Below wr.heap.size wr W ∧ Below (wd.alloc (.cells #[.slice (some ⟨g1, 0, none⟩) 64 64, .slice A2 n2 c2] 23)).heap.size (wd.alloc (.cells #[.slice (some ⟨g1, 0, none⟩) 64 64, .slice A2 n2 c2] 23)) W ∧ Below wt626.heap.size wt626 W ∧ Below w8x628.heap.size w8x628 W ∧ Below (w8x628.alloc (.cells #[.slice (some ⟨g2, 0, none⟩) 64 64, .slice A8x628 32 c8x628] 23)).heap.size (w8x628.alloc (.cells #[.slice (some ⟨g2, 0, none⟩) 64 64, .slice A8x628 32 c8x628] 23)) W) (w8x628.alloc (.cells #[.slice (some ⟨g2, 0, none⟩) 64 64, .slice A8x628 32 c8x628] 23)) := ⟨hS629.1, hS629.2.1, hS629.2.2.1, hS629.2.2.2, Below.refl _ _⟩
          refine wpAnyH_grow (S' := (fun W => Below wr.heap.size wr W ∧ Below (wd.alloc (.cells #[.slice (some ⟨g1, 0, none⟩) 64 64, .slice A2 n2 c2] 23)).heap.size (wd.alloc (.cells #[.slice (some ⟨g1, 0, none⟩) 64 64, .slice A2 n2 c2] 23)) W ∧ Below wt626.heap.size wt626 W ∧ Below w8x628.heap.size w8x628 W ∧ Below (w8x628.alloc (.cells #[.slice (some ⟨g2, 0, none⟩) 64 64, .slice A8x628 32 c8x628] 23)).heap.size (w8x628.alloc (.cells #[.slice (some ⟨g2, 0, none⟩) 64 64, .slice A8x628 32 c8x628] 23)) W)) (fun _ h => ⟨h.1, h.2.1, h.2.2.1, h.2.2.2.1⟩) _ _ _ _ ?_
          refine wpAnyH_ready (rs := [10]) (by kernel_rfl) (by simp) ?_
          refine AllReadyH.cons (o := { dst := some 53, op := Op.call { callee := Callee.value (Operand.func 17), args := #[Operand.tmp 52], argTypes := #[22] }, type := 23, pos := "more.go:32", after := #[{ on := 9, ground := Ground.data }, { on := 8, ground := Ground.chain }], guard := none }) rfl (fun K hK => ?_) AllReadyH.nil
          go_simp
          have hBc := HB.out.trans ((hG629.1).mono HB.out.size)
          have hq9 : w8x628.heap.size + 1 ≤ (w8x628.alloc (.cells #[.slice (some ⟨g2, 0, none⟩) 64 64, .slice A8x628 32 c8x628] 23)).heap.size := Nat.le_trans (Nat.le_of_eq (World.size_alloc _ _).symm) (hG629.2.2.2.2).size
          have hf2 : flat [(⟨some ⟨g2, 0, none⟩, 64, 64, p2⟩ : BRow), ⟨A8x628, 32, c8x628, d1⟩] = p2 ++ d1 := by simp [flat]
          refine (rows_any (w8x628.heap.size + 1) 2 2 _ _ _ (HT.out.below hBc HT.out.1) (RH629.out.below ((hG629.2.2.2.2).mono (by simp))) hq9 (by rw [hf2, List.length_append, HP2.out, HLD.out]; omega) (by omega)).mono ?_
          rintro e' w10x630 ⟨A10x630, c10x630, rfl, O10x630, hb10x630⟩
          rw [hf2, HTAG.out] at O10x630
          have hb630 := hb10x630.out
          clear hb10x630 hBc hq9 hf2
          have hs630 : ∀ W, Below w10x630.heap.size w10x630 W → (convert 23 9 (.slice A10x630 32 c10x630)).run Tryd.prog W = .ok (.string ⟨(T).toArray⟩) W := fun W hW => run_string_row (Row.of_own (own_below O10x630.out hW)) c10x630 23 9 5 Tryd.underlying23 Tryd.underlying5 Tryd.underlying9
          go_simp
          have hS630 : (fun W => Below wr.heap.size wr W ∧ Below (wd.alloc (.cells #[.slice (some ⟨g1, 0, none⟩) 64 64, .slice A2 n2 c2] 23)).heap.size (wd.alloc (.cells #[.slice (some ⟨g1, 0, none⟩) 64 64, .slice A2 n2 c2] 23)) W ∧ Below wt626.heap.size wt626 W ∧ Below w8x628.heap.size w8x628 W ∧ Below (w8x628.alloc (.cells #[.slice (some ⟨g2, 0, none⟩) 64 64, .slice A8x628 32 c8x628] 23)).heap.size (w8x628.alloc (.cells #[.slice (some ⟨g2, 0, none⟩) 64 64, .slice A8x628 32 c8x628] 23)) W) w10x630 := ⟨(hG629.1).trans (hb630.mono (hG629.1).size), (hG629.2.1).trans (hb630.mono (hG629.2.1).size), (hG629.2.2.1).trans (hb630.mono (hG629.2.2.1).size), (hG629.2.2.2.1).trans (hb630.mono (hG629.2.2.2.1).size), (hG629.2.2.2.2).trans (hb630.mono (hG629.2.2.2.2).size)⟩
          refine hK.out _ _ hS630 (fun hH630 => ?_)
          clear hK K
          try simp only [Act.put, List.setIfInBounds_toArray, List.set_cons_zero, List.set_cons_succ]
          have hG630 : (fun W => Below wr.heap.size wr W ∧ Below (wd.alloc (.cells #[.slice (some ⟨g1, 0, none⟩) 64 64, .slice A2 n2 c2] 23)).heap.size (wd.alloc (.cells #[.slice (some ⟨g1, 0, none⟩) 64 64, .slice A2 n2 c2] 23)) W ∧ Below wt626.heap.size wt626 W ∧ Below w8x628.heap.size w8x628 W ∧ Below (w8x628.alloc (.cells #[.slice (some ⟨g2, 0, none⟩) 64 64, .slice A8x628 32 c8x628] 23)).heap.size (w8x628.alloc (.cells #[.slice (some ⟨g2, 0, none⟩) 64 64, .slice A8x628 32 c8x628] 23)) W ∧ Below w10x630.heap.size w10x630 W) w10x630 := ⟨hS630.1, hS630.2.1, hS630.2.2.1, hS630.2.2.2.1, hS630.2.2.2.2, Below.refl _ _⟩
          refine wpAnyH_grow (S' := (fun W => Below wr.heap.size wr W ∧ Below (wd.alloc (.cells #[.slice (some ⟨g1, 0, none⟩) 64 64, .slice A2 n2 c2] 23)).heap.size (wd.alloc (.cells #[.slice (some ⟨g1, 0, none⟩) 64 64, .slice A2 n2 c2] 23)) W ∧ Below wt626.heap.size wt626 W ∧ Below w8x628.heap.size w8x628 W ∧ Below (w8x628.alloc (.cells #[.slice (some ⟨g2, 0, none⟩) 64 64, .slice A8x628 32 c8x628] 23)).heap.size (w8x628.alloc (.cells #[.slice (some ⟨g2, 0, none⟩) 64 64, .slice A8x628 32 c8x628] 23)) W ∧ Below w10x630.heap.size w10x630 W)) (fun _ h => ⟨h.1, h.2.1, h.2.2.1, h.2.2.2.1, h.2.2.2.2.1⟩) _ _ _ _ ?_
          refine wpAnyH_take (i := 11) (oi := { dst := some 54, op := Op.convert 23 9 (Operand.tmp 53), type := 9, pos := "more.go:32", after := #[{ on := 10, ground := Ground.data }], guard := none }) (v := ?tkv631) rfl (by kernel_rfl) (by kernel_rfl) (by kernel_rfl) (fun _ _ _ h => h) (Or.inl ⟨by rfl, ?tky631⟩) hG630 ?tkr631
          case tky631 => (intro w' hSw; have z0 := hs626 _ hSw.2.2.1; have z1 := hs630 _ hSw.2.2.2.2.2; clear hSw; go_simp; try with_reducible rfl)
          try simp only [Act.put, List.setIfInBounds_toArray, List.set_cons_zero, List.set_cons_succ]
          refine wpAnyH_take (i := 12) (oi := { dst := some 55, op := Op.binOp BinOp.eql 9 (Operand.tmp 46) (Operand.tmp 54) 9, type := 4, pos := "more.go:32", after := #[{ on := 3, ground := Ground.data }, { on := 11, ground := Ground.data }], guard := none }) (v := ?tkv632) rfl (by kernel_rfl) (by kernel_rfl) (by kernel_rfl) (fun _ _ _ h => h) (Or.inl ⟨by rfl, ?tky632⟩) hG630 ?tkr632
          case tky632 => (intro w' hSw; clear hSw; go_simp; try with_reducible rfl)
          try simp only [Act.put, List.setIfInBounds_toArray, List.set_cons_zero, List.set_cons_succ]
          refine wpAnyH_take (i := 13) (oi := { dst := some 56, op := Op.move (Operand.tmp 55), type := 4, pos := "more.go:32", after := #[{ on := 12, ground := Ground.data }, { on := 10, ground := Ground.chain }], guard := none }) (v := ?tkv633) rfl (by kernel_rfl) (by kernel_rfl) (by kernel_rfl) (fun _ _ _ h => h) (Or.inl ⟨by rfl, ?tky633⟩) hG630 ?tkr633
          case tky633 => (intro w' hSw; clear hSw; go_simp; try with_reducible rfl)
          try simp only [Act.put, List.setIfInBounds_toArray, List.set_cons_zero, List.set_cons_succ]
          refine wpAnyH_take (i := 14) (oi := { dst := some 57, op := Op.move (Operand.tmp 0), type := 23, pos := "more.go:32", after := #[{ on := 13, ground := Ground.guard }], guard := some (13, true) }) (v := ?tkv634) rfl (by kernel_rfl) (by kernel_rfl) (by kernel_rfl) (fun _ _ _ h => h) (Or.inl ⟨by rfl, ?tky634⟩) hG630 ?tkr634
          case tky634 => (intro w' hSw; clear hSw; go_simp; try with_reducible rfl)
          try simp only [Act.put, List.setIfInBounds_toArray, List.set_cons_zero, List.set_cons_succ]
          refine wpAnyH_take (i := 15) (oi := { dst := some 58, op := Op.move (Operand.tmp 1), type := 23, pos := "more.go:32", after := #[{ on := 13, ground := Ground.guard }], guard := some (13, true) }) (v := ?tkv635) rfl (by kernel_rfl) (by kernel_rfl) (by kernel_rfl) (fun _ _ _ h => h) (Or.inl ⟨by rfl, ?tky635⟩) hG630 ?tkr635
          case tky635 => (intro w' hSw; clear hSw; go_simp; try with_reducible rfl)
          try simp only [Act.put, List.setIfInBounds_toArray, List.set_cons_zero, List.set_cons_succ]
          refine wpAnyH_ready (rs := [16]) (by kernel_rfl) (by simp) ?_
          refine AllReadyH.cons (o := { dst := some 59, op := Op.call { callee := Callee.value (Operand.func 20), args := #[Operand.tmp 57, Operand.tmp 58], argTypes := #[23, 23] }, type := 23, pos := "more.go:32", after := #[{ on := 14, ground := Ground.data }, { on := 15, ground := Ground.data }, { on := 13, ground := Ground.chain }, { on := 13, ground := Ground.guard }], guard := some (13, true) }) rfl (fun K hK => ?_) AllReadyH.nil
          go_simp
          have hBc := HB.out.trans ((hG630.1).mono HB.out.size)
          refine (CTAG.out _ hBc).mono ?_
          rintro e' wt636 ⟨At636, ct636, rfl, Ot636, hbt636⟩
          have hb636 := hbt636.out
          clear hbt636
          clear hBc
          go_simp
          have hS636 : (fun W => Below wr.heap.size wr W ∧ Below (wd.alloc (.cells #[.slice (some ⟨g1, 0, none⟩) 64 64, .slice A2 n2 c2] 23)).heap.size (wd.alloc (.cells #[.slice (some ⟨g1, 0, none⟩) 64 64, .slice A2 n2 c2] 23)) W ∧ Below wt626.heap.size wt626 W ∧ Below w8x628.heap.size w8x628 W ∧ Below (w8x628.alloc (.cells #[.slice (some ⟨g2, 0, none⟩) 64 64, .slice A8x628 32 c8x628] 23)).heap.size (w8x628.alloc (.cells #[.slice (some ⟨g2, 0, none⟩) 64 64, .slice A8x628 32 c8x628] 23)) W ∧ Below w10x630.heap.size w10x630 W) wt636 := ⟨(hG630.1).trans (hb636.mono (hG630.1).size), (hG630.2.1).trans (hb636.mono (hG630.2.1).size), (hG630.2.2.1).trans (hb636.mono (hG630.2.2.1).size), (hG630.2.2.2.1).trans (hb636.mono (hG630.2.2.2.1).size), (hG630.2.2.2.2.1).trans (hb636.mono (hG630.2.2.2.2.1).size), (hG630.2.2.2.2.2).trans (hb636.mono (hG630.2.2.2.2.2).size)⟩
          refine hK.out _ _ hS636 (fun hH636 => ?_)
          clear hK K
          try simp only [Act.put, List.setIfInBounds_toArray, List.set_cons_zero, List.set_cons_succ]
          have hG636 : (fun W => Below wr.heap.size wr W ∧ Below (wd.alloc (.cells #[.slice (some ⟨g1, 0, none⟩) 64 64, .slice A2 n2 c2] 23)).heap.size (wd.alloc (.cells #[.slice (some ⟨g1, 0, none⟩) 64 64, .slice A2 n2 c2] 23)) W ∧ Below wt626.heap.size wt626 W ∧ Below w8x628.heap.size w8x628 W ∧ Below (w8x628.alloc (.cells #[.slice (some ⟨g2, 0, none⟩) 64 64, .slice A8x628 32 c8x628] 23)).heap.size (w8x628.alloc (.cells #[.slice (some ⟨g2, 0, none⟩) 64 64, .slice A8x628 32 c8x628] 23)) W ∧ Below w10x630.heap.size w10x630 W ∧ Below wt636.heap.size wt636 W) wt636 := ⟨hS636.1, hS636.2.1, hS636.2.2.1, hS636.2.2.2.1, hS636.2.2.2.2.1, hS636.2.2.2.2.2, Below.refl _ _⟩
          refine wpAnyH_grow (S' := (fun W => Below wr.heap.size wr W ∧ Below (wd.alloc (.cells #[.slice (some ⟨g1, 0, none⟩) 64 64, .slice A2 n2 c2] 23)).heap.size (wd.alloc (.cells #[.slice (some ⟨g1, 0, none⟩) 64 64, .slice A2 n2 c2] 23)) W ∧ Below wt626.heap.size wt626 W ∧ Below w8x628.heap.size w8x628 W ∧ Below (w8x628.alloc (.cells #[.slice (some ⟨g2, 0, none⟩) 64 64, .slice A8x628 32 c8x628] 23)).heap.size (w8x628.alloc (.cells #[.slice (some ⟨g2, 0, none⟩) 64 64, .slice A8x628 32 c8x628] 23)) W ∧ Below w10x630.heap.size w10x630 W ∧ Below wt636.heap.size wt636 W)) (fun _ h => ⟨h.1, h.2.1, h.2.2.1, h.2.2.2.1, h.2.2.2.2.1, h.2.2.2.2.2.1⟩) _ _ _ _ ?_
          refine wpAnyH_take (i := 17) (oi := { dst := some 60, op := Op.call { callee := Callee.builtin Builtin.len, args := #[Operand.tmp 59], argTypes := #[23] }, type := 3, pos := "more.go:32", after := #[{ on := 16, ground := Ground.data }, { on := 13, ground := Ground.guard }], guard := some (13, true) }) (v := ?tkv637) rfl (by kernel_rfl) (by kernel_rfl) (by kernel_rfl) (fun _ _ _ h => h) (Or.inl ⟨by rfl, ?tky637⟩) hG636 ?tkr637
          case tky637 => (intro w' hSw; clear hSw; go_simp; try with_reducible rfl)
          try simp only [Act.put, List.setIfInBounds_toArray, List.set_cons_zero, List.set_cons_succ]
          refine wpAnyH_take (i := 18) (oi := { dst := some 61, op := Op.binOp BinOp.eql 3 (Operand.tmp 60) (Operand.const (Value.int IntKind.i64 32)) 3, type := 4, pos := "more.go:32", after := #[{ on := 17, ground := Ground.data }, { on := 13, ground := Ground.guard }], guard := some (13, true) }) (v := ?tkv638) rfl (by kernel_rfl) (by kernel_rfl) (by kernel_rfl) (fun _ _ _ h => h) (Or.inl ⟨by rfl, ?tky638⟩) hG636 ?tkr638
          case tky638 => (intro w' hSw; clear hSw; go_simp; try with_reducible rfl)
          try simp only [Act.put, List.setIfInBounds_toArray, List.set_cons_zero, List.set_cons_succ]
          refine wpAnyH_take (i := 19) (oi := { dst := some 62, op := Op.pick (Operand.tmp 56) (Operand.tmp 61) (Operand.const (Value.bool false)), type := 4, pos := "more.go:32", after := #[{ on := 13, ground := Ground.data }, { on := 18, ground := Ground.data }], guard := none }) (v := ?tkv639) rfl (by kernel_rfl) (by kernel_rfl) (by kernel_rfl) (fun _ _ _ h => h) (Or.inl ⟨by rfl, ?tky639⟩) hG636 ?tkr639
          case tky639 => (intro w' hSw; clear hSw; go_simp; try with_reducible rfl)
          try simp only [Act.put, List.setIfInBounds_toArray, List.set_cons_zero, List.set_cons_succ]
          refine wpAnyH_take (i := 20) (oi := { dst := some 63, op := Op.move (Operand.tmp 62), type := 4, pos := "more.go:32", after := #[{ on := 19, ground := Ground.data }, { on := 16, ground := Ground.chain }], guard := none }) (v := ?tkv640) rfl (by kernel_rfl) (by kernel_rfl) (by kernel_rfl) (fun _ _ _ h => h) (Or.inl ⟨by rfl, ?tky640⟩) hG636 ?tkr640
          case tky640 => (intro w' hSw; clear hSw; go_simp; try with_reducible rfl)
          try simp only [Act.put, List.setIfInBounds_toArray, List.set_cons_zero, List.set_cons_succ]
          refine wpAnyH_ready (rs := [21]) (by kernel_rfl) (by simp) ?_
          refine AllReadyH.cons (o := { dst := some 64, op := Op.call { callee := Callee.value (Operand.func 18), args := #[], argTypes := #[] }, type := 4, pos := "more.go:32", after := #[{ on := 20, ground := Ground.chain }, { on := 20, ground := Ground.guard }], guard := some (20, true) }) rfl (fun K hK => ?_) AllReadyH.nil
          go_simp
          have hBc := HB.out.trans ((hG636.1).mono HB.out.size)
          refine (awake3_any _ (HT.out.below hBc HT.out.1)).mono ?_
          rintro e' wa641 ⟨rfl, hb641⟩
          clear hBc
          go_simp
          have hS641 : (fun W => Below wr.heap.size wr W ∧ Below (wd.alloc (.cells #[.slice (some ⟨g1, 0, none⟩) 64 64, .slice A2 n2 c2] 23)).heap.size (wd.alloc (.cells #[.slice (some ⟨g1, 0, none⟩) 64 64, .slice A2 n2 c2] 23)) W ∧ Below wt626.heap.size wt626 W ∧ Below w8x628.heap.size w8x628 W ∧ Below (w8x628.alloc (.cells #[.slice (some ⟨g2, 0, none⟩) 64 64, .slice A8x628 32 c8x628] 23)).heap.size (w8x628.alloc (.cells #[.slice (some ⟨g2, 0, none⟩) 64 64, .slice A8x628 32 c8x628] 23)) W ∧ Below w10x630.heap.size w10x630 W ∧ Below wt636.heap.size wt636 W) wa641 := ⟨(hG636.1).trans (hb641.mono (hG636.1).size), (hG636.2.1).trans (hb641.mono (hG636.2.1).size), (hG636.2.2.1).trans (hb641.mono (hG636.2.2.1).size), (hG636.2.2.2.1).trans (hb641.mono (hG636.2.2.2.1).size), (hG636.2.2.2.2.1).trans (hb641.mono (hG636.2.2.2.2.1).size), (hG636.2.2.2.2.2.1).trans (hb641.mono (hG636.2.2.2.2.2.1).size), (hG636.2.2.2.2.2.2).trans (hb641.mono (hG636.2.2.2.2.2.2).size)⟩
          refine hK.out _ _ hS641 (fun hH641 => ?_)
          clear hK K
          try simp only [Act.put, List.setIfInBounds_toArray, List.set_cons_zero, List.set_cons_succ]
          refine wpAnyH_take (i := 22) (oi := { dst := some 65, op := Op.pick (Operand.tmp 63) (Operand.tmp 64) (Operand.const (Value.bool false)), type := 4, pos := "more.go:32", after := #[{ on := 20, ground := Ground.data }, { on := 21, ground := Ground.data }], guard := none }) (v := ?tkv642) rfl (by kernel_rfl) (by kernel_rfl) (by kernel_rfl) (fun _ _ _ h => h) (Or.inl ⟨by rfl, ?tky642⟩) hH641 ?tkr642
          case tky642 => (intro w' hSw; clear hSw; go_simp; try with_reducible rfl)
          try simp only [Act.put, List.setIfInBounds_toArray, List.set_cons_zero, List.set_cons_succ]
          refine wpAnyH_take (i := 23) (oi := { dst := some 4, op := Op.assign (Operand.tmp 65), type := 4, pos := "more.go:32", after := #[{ on := 22, ground := Ground.data }, { on := 21, ground := Ground.chain }, { on := 0, ground := Ground.phase }, { on := 1, ground := Ground.phase }, { on := 2, ground := Ground.phase }, { on := 3, ground := Ground.phase }, { on := 4, ground := Ground.phase }, { on := 5, ground := Ground.phase }, { on := 6, ground := Ground.phase }, { on := 7, ground := Ground.phase }, { on := 8, ground := Ground.phase }, { on := 9, ground := Ground.phase }, { on := 10, ground := Ground.phase }, { on := 11, ground := Ground.phase }, { on := 12, ground := Ground.phase }, { on := 13, ground := Ground.phase }, { on := 14, ground := Ground.phase }, { on := 15, ground := Ground.phase }, { on := 16, ground := Ground.phase }, { on := 17, ground := Ground.phase }, { on := 18, ground := Ground.phase }, { on := 19, ground := Ground.phase }, { on := 20, ground := Ground.phase }, { on := 21, ground := Ground.phase }, { on := 22, ground := Ground.phase }], guard := none }) (v := ?tkv643) rfl (by kernel_rfl) (by kernel_rfl) (by kernel_rfl) (fun _ _ _ h => h) (Or.inl ⟨by rfl, ?tky643⟩) hH641 ?tkr643
          case tky643 => (intro w' hSw; clear hSw; go_simp; try with_reducible rfl)
          try simp only [Act.put, List.setIfInBounds_toArray, List.set_cons_zero, List.set_cons_succ]
          refine wpAnyH_done (by kernel_rfl) ?_ _
          refine NoPanic.normal ?_
          have hEnd := HB.out.trans ((hH641.1).mono HB.out.size)
          go_wp2_with fail
          go_ret
          exact ⟨rfl, hEnd⟩
end Go.Proofs.YtapjaagigjfidaaDoor.Sh
