/- state.add, addSlot: by contract, with what they leave as it was. -/
import Derived.Test.YtdipccjgpkedhaaRdSlot
namespace Go.Proofs.Ytdipccjgpkedhaa
open Go.RowKit
/-- bytes l are built in memory of one's own; nothing but v's block was written since w -/
structure BG (base : Nat) (v : Value) (n : Nat) (l : List UInt8) (A : Option Addr) (c : Nat) (w w' : World) : Prop where
  own : w'.ownsRow base 5 1 (.slice A n c) n (bv l)
  g : w.grownBy w' v.ownBlock
  k : ∀ k, (Value.slice A n c).ownBlock = some k → v.ownBlock = some k ∨ w.heap.size ≤ k
theorem BG.trans {base n n' : Nat} {v : Value} {l l' : List UInt8} {A A' : Option Addr} {c c' : Nat} {w w1 w2 : World} (h : BG base v n l A c w w1) (h2 : BG base (.slice A n c) n' l' A' c' w1 w2) : BG base v n' l' A' c' w w2 := by
  refine ⟨h2.own, ⟨h2.g.os.trans h.g.os, h2.g.tape.trans h.g.tape, h2.g.output.trans h.g.output, Nat.le_trans h.g.size h2.g.size, fun k hk hne => ?_⟩, fun k hk => ?_⟩
  · refine (h2.g.block k (Nat.lt_of_lt_of_le hk h.g.size) fun e => ?_).trans (h.g.block k hk hne)
    rcases h.k k e.symm with h3 | h3
    · exact hne h3.symm
    · omega
  · rcases h2.k k hk with h3 | h3
    · exact h.k k h3
    · exact .inr (Nat.le_trans h.g.size h3)
theorem BG.box {base n : Nat} {v : Value} {l : List UInt8} {A : Option Addr} {c g : Nat} {w w' : World} (h : BG base v n l A c w w') (hg : g < w.heap.size) (hv : v.ownBlock ≠ some g) : w'.heap[g]? = w.heap[g]? := h.g.block g hg (fun e => hv e.symm)
theorem BG.not {base n : Nat} {v : Value} {l : List UInt8} {A : Option Addr} {c g : Nat} {w w' : World} (h : BG base v n l A c w w') (hg : g < w.heap.size) (hv : v.ownBlock ≠ some g) : (Value.slice A n c).ownBlock ≠ some g := fun e => by
  rcases h.k g e with h3 | h3
  · exact hv h3
  · omega
theorem BG.below {base n m : Nat} {v : Value} {l : List UInt8} {xs : List Value} {A : Option Addr} {c : Nat} {w0 w w' : World} (h : BG base v n l A c w w') (hb : Below base w0 w) (hs : base ≤ w.heap.size) (ho : w.ownsRow base 5 1 v m xs) : Below base w0 w' := below_app hb hs ho (Nat.le_refl _) h.g
theorem bg_app {base n m : Nat} {v : Value} {l : List UInt8} {news : List UInt8} {A : Option Addr} {c : Nat} {w wa w' : World} {xs : List Value} (hb : Below w.heap.size w wa) (ho : wa.ownsRow base 5 1 v n xs) (hown : w'.ownsRow base 5 1 (.slice A m c) m (bv (l ++ news))) (hg : wa.grownBy w' v.ownBlock) (hat : (Value.slice A m c).ownBlock = v.ownBlock ∨ (Value.slice A m c).ownBlock = some wa.heap.size) : BG base v m (l ++ news) A c w w' := by
  have := ho.1
  refine ⟨hown, ⟨hg.os.trans hb.os, hg.tape.trans hb.tape, hg.output.trans hb.output, Nat.le_trans hb.size hg.size, fun k hk hne => (hg.block k (Nat.lt_of_lt_of_le hk hb.size) hne).trans (hb.block k hk)⟩, fun k hk => ?_⟩
  rcases hat with h | h
  · exact .inl (h ▸ hk)
  · rw [h] at hk; injection hk with hk; have := hb.size; omega
def AddG (base : Nat) (v : Value) (n : Nat) (l : List UInt8) (w : World) (e : Ending) (w' : World) : Prop := ∃ A c, e = .returned (.slice A n c) ∧ Hid (BG base v n l A c w w')
set_option maxRecDepth 100000 in
set_option maxHeartbeats 400000 in
theorem stAdd_bg (base n c : Nat) (A : Option Addr) (l : List UInt8) (x : Nat) (hx : x < 4294967296) (w : World) (hown : w.ownsRow base 5 1 (.slice A n c) n (bv l)) (hb : base ≤ w.heap.size) (hn : n ≤ 1000000000) :
    Calls Try.prog 21 #[.slice A n c, .int .u32 (x : Int)] w (AddG base (.slice A n c) (n + 4) (l ++ CrcM.four x) w) := by
  obtain ⟨i0, hi, hz0, hz1, hz2⟩ := info_parts Try.info5
  have HO := Lib.hid hown
  have HB := Lib.hid hb
  have HX := Lib.hid hx
  clear hown hb
  go_enter Try.func21, Try.ntmps21
  go_wp2_with (at_builtin; go_loud (refine wpList_app rfl (.tmp 5) (.tmp 17) 23 rfl base 5 i0 (.int .u8 0) 1 Try.underlying23 hi hz0 hz1 hz2 rfl _ n (bv l) rfl (HO.out.alloc _) _ _ 4 4 _ rfl (row_new w _ _ _) (by intro u hu; simp at hu; rcases hu with rfl | rfl | rfl | rfl <;> rfl) (by unfold maxLen; omega) (by omega) (by have := HB.out; simp; omega) ?_; intro v3 w3 hown3 hg3 hat3))
  go_ret
  obtain ⟨A3, c3, rfl, _⟩ := own_slice hown3
  have ev := four_cells x (by have := HX.out; omega)
  refine ⟨A3, c3, rfl, Lib.hid (bg_app ((Below.refl _ _).alloc (Nat.le_refl _) _) (HO.out.alloc _) ?_ hg3 hat3)⟩
  have hx2 := HX.out
  rw [bv_append, ← ev]
  exact hown3
theorem BG.first {base n m : Nat} {v : Value} {l : List UInt8} {xs : List Value} {A : Option Addr} {c : Nat} {w w1 w2 : World} (hb : Below w.heap.size w w1) (ho : w.ownsRow base 5 1 v m xs) (h : BG base v n l A c w1 w2) : BG base v n l A c w w2 := by
  refine ⟨h.own, ⟨h.g.os.trans hb.os, h.g.tape.trans hb.tape, h.g.output.trans hb.output, Nat.le_trans hb.size h.g.size, fun k hk hne => (h.g.block k (Nat.lt_of_lt_of_le hk hb.size) hne).trans (hb.block k hk)⟩, fun k hk => ?_⟩
  rcases h.k k hk with h3 | h3
  · exact .inl h3
  · exact .inr (Nat.le_trans hb.size h3)
def BoxS (g : Nat) (cs : Array Value) (t : TypeId) (W : World) : Prop := W.heap[g]? = some (.cells cs t (0, 0))
theorem BoxS.below {g : Nat} {cs : Array Value} {t : TypeId} {W W' : World} (h : BoxS g cs t W) (hb : Below W.heap.size W W') : BoxS g cs t W' := (hb.block g (Array.getElem?_eq_some_iff.1 h).1).trans h
theorem BoxS.bg {g : Nat} {cs : Array Value} {t : TypeId} {W W' : World} (h : BoxS g cs t W) {base n : Nat} {v : Value} {l : List UInt8} {A : Option Addr} {c : Nat} (hb : BG base v n l A c W W') (hv : v.ownBlock ≠ some g) : BoxS g cs t W' := (hb.box (Array.getElem?_eq_some_iff.1 h).1 hv).trans h
set_option maxRecDepth 100000 in
set_option maxHeartbeats 1600000 in
theorem addSlot_ex (base n c B c0 v L : Nat) (h SB : List UInt8) (hSB : Hid (SB = (⟨v, (L : Int), h⟩ : LSlot).bytes)) (A A0 : Option Addr) (l : List UInt8) (w : World) (hown : w.ownsRow base 5 1 (.slice A n c) n (bv l)) (hb : base ≤ w.heap.size) (hn : n ≤ 1000000) (hr : Row w B A0 h.length (bv h)) (hB : B ≤ base) (hok : (⟨v, (L : Int), h⟩ : LSlot).ok) :
    Calls Try.prog 22 #[.slice A n c, .agg #[.int .u32 (v : Int), .int .i64 (L : Int), .slice A0 h.length c0]] w (AddG base (.slice A n c) (n + SB.length) (l ++ SB) w) := by
  obtain ⟨i0, hi, hz0, hz1, hz2⟩ := info_parts Try.info5
  have hb0 : Below w.heap.size w (w.alloc (.cells #[.int .u32 (v : Int), .int .i64 (L : Int), .slice A0 h.length c0] 25)) := (Below.refl _ _).alloc (Nat.le_refl _) _
  have OWN0 := Lib.hid hown
  have HO0 := Lib.hid (own_below hown hb0)
  have HBS0 := Lib.hid hb
  have HR0 := Lib.hid (hr.below (hb0.mono (Nat.le_trans hB hb)))
  have BX0 := Lib.hid (heap_alloc_new w (.cells #[.int .u32 (v : Int), .int .i64 (L : Int), .slice A0 h.length c0] 25))
  have HBB := Lib.hid hB
  have B0 := Lib.hid hb0
  have OE : Hid ((Value.slice A n c).ownBlock ≠ some w.heap.size) := Lib.hid fun e => by have := (hown.lt _ e).2; omega
  have HOK := Lib.hid hok
  clear hown hb hr hB hb0 hok
  cases hnn : (⟨v, (L : Int), h⟩ : LSlot).none with
  | true =>
    have eb : SB = [0] := by rw [hSB.out]; unfold LSlot.bytes; rw [hnn]; rfl
    rw [eb]
    have HE : Hid (emptyB v (L : Int) h = true) := Lib.hid hnn
    clear eb hnn
    go_enter Try.func22, Try.ntmps22
    go_wp2_with fail
    refine (empty_any v (L : Int) B h.length c0 A0 h _ HR0.out (by have := HBB.out; have := HBS0.out; simp; omega)).mono ?_
    rintro e w1 ⟨rfl, hb1⟩
    rw [HE.out]
    have B1 := Lib.hid (B0.out.trans (hb1.mono B0.out.size))
    have O1 := Lib.hid (own_below HO0.out hb1)
    clear hb1 HO0 HR0 BX0 B0
    go_wp2_with (at_builtin; go_loud (refine wpList_app rfl (.tmp 7) (.tmp 8) 23 rfl base 5 i0 (.int .u8 0) 1 Try.underlying23 hi hz0 hz1 hz2 rfl _ n (bv l) rfl (O1.out.alloc _) _ _ 1 1 _ rfl (row_new w1 _ _ _) (by intro u hu; simp at hu; subst hu; rfl) (by unfold maxLen; omega) (by omega) (by have := HBS0.out; have := B1.out.size; simp; omega) ?_; intro v3 w3 hown3 hg3 hat3))
    go_ret
    obtain ⟨A3, c3, rfl, _⟩ := own_slice hown3
    refine ⟨A3, c3, rfl, Lib.hid (bg_app (B1.out.trans (((Below.refl _ _).alloc (Nat.le_refl _) _).mono B1.out.size)) (O1.out.alloc _) ?_ hg3 hat3)⟩
    rw [bv_append]
    exact hown3
  | false =>
    have hfull : (⟨v, (L : Int), h⟩ : LSlot).full := by
      rcases HOK.out with h' | h'
      · rw [(LSlot.none_iff _).2 h'] at hnn; cases hnn
      · exact h'
    have eb : SB = [1] ++ CrcM.four v ++ [UInt8.ofNat (L / 256), UInt8.ofNat L] ++ h := by rw [hSB.out]; unfold LSlot.bytes; rw [hnn]; simp
    have hSV : Hid (v < 4294967296) := Lib.hid hfull.1
    have q1 : L < 65536 := by have : (L : Int) < 65536 := hfull.2.2.1; omega
    have H32 := Lib.hid hfull.2.2.2
    have HE : Hid (emptyB v (L : Int) h = false) := Lib.hid hnn
    have EB := Lib.hid eb
    have EL2 : Hid (n + ([1] ++ CrcM.four v ++ [UInt8.ofNat (L / 256), UInt8.ofNat L] ++ h).length = n + 1 + 4 + 2 + h.length) := Lib.hid (by simp [CrcM.four]; omega)
    have HSV := hSV
    clear eb hnn hfull HOK hSV
    go_enter Try.func22, Try.ntmps22
    go_wp2_with fail
    refine (empty_any v (L : Int) B h.length c0 A0 h _ HR0.out (by have := HBB.out; have := HBS0.out; simp; omega)).mono ?_
    rintro e wb ⟨rfl, hb1⟩
    rw [HE.out]
    have B1 := Lib.hid (B0.out.trans (hb1.mono B0.out.size))
    have HO := Lib.hid (own_below HO0.out hb1)
    have HO0B := OWN0
    have HR := Lib.hid (HR0.out.below (hb1.mono (by have := HBB.out; have := HBS0.out; simp; omega)))
    have BOX : Hid (BoxS w.heap.size #[.int .u32 (v : Int), .int .i64 (L : Int), .slice A0 h.length c0] 25 wb) := Lib.hid ((hb1.block w.heap.size (by simp)).trans BX0.out)
    have HBW : Hid (w.heap.size < wb.heap.size) := Lib.hid (Array.getElem?_eq_some_iff.1 BOX.out).1
    have HBS : Hid (base ≤ w.heap.size) := HBS0
    have OWNE := OE
    have HC : Hid (∀ W, BoxS w.heap.size #[.int .u32 (v : Int), .int .i64 (L : Int), .slice A0 h.length c0] 25 W → W.cell? ⟨w.heap.size, 0, none⟩ = some (.int .u32 (v : Int))) := Lib.hid fun W hW => by rw [cell_of_row W _ 0 _ _ (0, 0) hW]; rfl
    clear hb1 HO0 HR0 BX0 B0 HE OE HBS0
    have B1B := Lib.hid ((Below.refl base wb))
    have DB := Lib.hid ((Below.refl wb.heap.size wb).drew)
    go_upto_region 3 with fail
    go_cut [0] (fun s0 wx => ∃ A' c', s0 = .slice A' (n + 1 + 4) c' ∧ Hid (BG base (.slice A n c) (n + 1 + 4) (l ++ [1] ++ CrcM.four v) A' c' wb wx))
    case first =>
      refine wp_region_noPanic ?_
      refine wp_region_held_drew (S := (fun W => BoxS w.heap.size #[.int .u32 (v : Int), .int .i64 (L : Int), .slice A0 h.length c0] 25 W)) (by kernel_rfl) (BOX.out : BoxS _ _ _ wb.drew) (fun hH0 => ?_)
      have hH0 : BoxS w.heap.size #[.int .u32 (v : Int), .int .i64 (L : Int), .slice A0 h.length c0] 25 wb.drew := hH0
      generalize wb.drew = wd3000 at *
      refine wpAnyH_take (i := 0) (oi := { dst := some 10, op := Op.move (Operand.tmp 0), type := 23, pos := "state.go:77", after := #[], guard := none }) (v := ?tkv3001) rfl (by kernel_rfl) (by kernel_rfl) (by kernel_rfl) (fun _ _ _ h => h) (Or.inl ⟨by rfl, ?tky3001⟩) hH0 ?tkr3001
      case tky3001 => (intro w' hSw; clear hSw; go_simp; try with_reducible rfl)
      try simp only [Act.put, List.setIfInBounds_toArray, List.set_cons_zero, List.set_cons_succ]
      refine wpAnyH_take (i := 3) (oi := { dst := some 13, op := Op.fieldAddr 25 (Operand.tmp 3) 0, type := 0, pos := "state.go:77", after := #[], guard := none }) (v := ?tkv3002) rfl (by kernel_rfl) (by kernel_rfl) (by kernel_rfl) (fun _ _ _ h => h) (Or.inl ⟨by rfl, ?tky3002⟩) hH0 ?tkr3002
      case tky3002 => (intro w' hSw; clear hSw; go_simp; try with_reducible rfl)
      try simp only [Act.put, List.setIfInBounds_toArray, List.set_cons_zero, List.set_cons_succ]
      refine wpAnyH_take (i := 4) (oi := { dst := some 14, op := Op.load 22 (Operand.tmp 13), type := 22, pos := "state.go:77", after := #[{ on := 3, ground := Ground.data }], guard := none }) (v := ?tkv3003) rfl (by kernel_rfl) (by kernel_rfl) (by kernel_rfl) (fun _ _ _ h => h) (Or.inl ⟨by rfl, ?tky3003⟩) hH0 ?tkr3003
      case tky3003 => (intro w' hSw; have z0 := HC.out _ hSw; clear hSw; go_simp; try with_reducible rfl)
      try simp only [Act.put, List.setIfInBounds_toArray, List.set_cons_zero, List.set_cons_succ]
      refine wpAnyH_ready (rs := [1]) (by kernel_rfl) (by simp) ?_
      refine AllReadyH.cons (o := { dst := some 11, op := Op.buildSlice 23 1 #[(0, Operand.const (Value.int IntKind.u8 1))], type := 23, pos := "state.go:77", after := #[], guard := none }) rfl (fun K hK => ?_) AllReadyH.nil
      have HBD : Hid (w.heap.size < wd3000.heap.size) := Lib.hid (by have h := hH0; exact (Array.getElem?_eq_some_iff.1 h).1)
      go_simp
      have hb3004 : Below wd3000.heap.size wd3000 (wd3000.alloc (.cells #[.int .u8 1] 5)) := (Below.refl _ _).alloc (Nat.le_refl _) _
      have OW3004 : Hid (World.ownsRow (wd3000.alloc (.cells #[.int .u8 1] 5)) base 5 1 (.slice A n c) n (bv l)) := Lib.hid (own_below (own_below HO.out DB.out) hb3004)
      have RW3004 : Hid (Row (wd3000.alloc (.cells #[.int .u8 1] 5)) ((wd3000.alloc (.cells #[.int .u8 1] 5)).heap.size) (some ⟨wd3000.heap.size, 0, none⟩) 1 [.int .u8 1]) := Lib.hid ((row_new wd3000 #[.int .u8 1] 5 (0, 0)).more (by simp))
      have SZ3004 : Hid (w.heap.size < (wd3000.alloc (.cells #[.int .u8 1] 5)).heap.size) := Lib.hid (by have := HBD.out; simp; omega)
      have hS3004 : BoxS w.heap.size #[.int .u32 (v : Int), .int .i64 (L : Int), .slice A0 h.length c0] 25 (wd3000.alloc (.cells #[.int .u8 1] 5)) := BoxS.below (hH0) hb3004
      refine hK.out _ _ hS3004 (fun hH3004 => ?_)
      have hH3004 : BoxS w.heap.size #[.int .u32 (v : Int), .int .i64 (L : Int), .slice A0 h.length c0] 25 (wd3000.alloc (.cells #[.int .u8 1] 5)) := hH3004
      clear hK K hS3004
      try simp only [Act.put, List.setIfInBounds_toArray, List.set_cons_zero, List.set_cons_succ]
      refine wpAnyH_ready (rs := [2]) (by kernel_rfl) (by simp) ?_
      refine AllReadyH.cons (o := { dst := some 12, op := Op.call { callee := Callee.builtin Builtin.append, args := #[Operand.tmp 10, Operand.tmp 11], argTypes := #[23, 23] }, type := 23, pos := "state.go:77", after := #[{ on := 0, ground := Ground.data }, { on := 1, ground := Ground.data }], guard := none }) rfl (fun K hK => ?_) AllReadyH.nil
      rw [if_pos (by rfl)]
      refine wp_app (.tmp 10) (.tmp 11) 23 rfl base 5 i0 (.int .u8 0) 1 Try.underlying23 hi hz0 hz1 hz2 rfl _ n (bv l) rfl OW3004.out _ _ 1 1 _ rfl RW3004.out (by intro u hu; simp at hu; subst hu; rfl) (by unfold maxLen; omega) (by omega) (by have := HBW.out; have := SZ3004.out; have := HBS.out; omega) ?_
      intro v3005 wn3005 hown3005 hg3005 hat3005
      obtain ⟨A3005, c3005, rfl, _⟩ := own_slice hown3005
      have BG3005 : Hid (BG base (.slice A n c) (n + 1) (l ++ [1]) A3005 c3005 wb wn3005) := Lib.hid (bg_app (DB.out.trans (hb3004.mono DB.out.size)) OW3004.out (by rw [bv_append]; exact hown3005) hg3005 hat3005)
      clear hown3005 hg3005 hat3005 OW3004 RW3004 SZ3004
      have hS3005 : BoxS w.heap.size #[.int .u32 (v : Int), .int .i64 (L : Int), .slice A0 h.length c0] 25 wn3005 := BoxS.bg BOX.out BG3005.out OWNE.out
      refine hK.out _ _ hS3005 (fun hH3005 => ?_)
      have hH3005 : BoxS w.heap.size #[.int .u32 (v : Int), .int .i64 (L : Int), .slice A0 h.length c0] 25 wn3005 := hH3005
      clear hK K hS3005
      try simp only [Act.put, List.setIfInBounds_toArray, List.set_cons_zero, List.set_cons_succ]
      refine wpAnyH_ready (rs := [5]) (by kernel_rfl) (by simp) ?_
      refine AllReadyH.cons (o := { dst := some 15, op := Op.call { callee := Callee.value (Operand.func 21), args := #[Operand.tmp 12, Operand.tmp 14], argTypes := #[23, 22] }, type := 23, pos := "state.go:77", after := #[{ on := 2, ground := Ground.data }, { on := 4, ground := Ground.data }, { on := 2, ground := Ground.chain }], guard := none }) rfl (fun K hK => ?_) AllReadyH.nil
      go_simp
      refine (stAdd_bg base (n + 1) c3005 A3005 _ v HSV.out wn3005 BG3005.out.own (by have := HBS.out; have := BG3005.out.g.size; have := HBW.out; omega) (by omega)).mono ?_
      rintro e' wn3006 ⟨Ak3006, ck3006, rfl, BH3006⟩
      have BI3006 := Lib.hid (BG3005.out.trans BH3006.out)
      clear BH3006
      go_simp
      have hS3006 : BoxS w.heap.size #[.int .u32 (v : Int), .int .i64 (L : Int), .slice A0 h.length c0] 25 wn3006 := BoxS.bg BOX.out BI3006.out OWNE.out
      refine hK.out _ _ hS3006 (fun hH3006 => ?_)
      have hH3006 : BoxS w.heap.size #[.int .u32 (v : Int), .int .i64 (L : Int), .slice A0 h.length c0] 25 wn3006 := hH3006
      clear hK K hS3006
      try simp only [Act.put, List.setIfInBounds_toArray, List.set_cons_zero, List.set_cons_succ]
      refine wpAnyH_take (i := 6) (oi := { dst := some 0, op := Op.assign (Operand.tmp 15), type := 23, pos := "state.go:77", after := #[{ on := 5, ground := Ground.data }, { on := 5, ground := Ground.chain }, { on := 0, ground := Ground.phase }, { on := 1, ground := Ground.phase }, { on := 2, ground := Ground.phase }, { on := 3, ground := Ground.phase }, { on := 4, ground := Ground.phase }, { on := 5, ground := Ground.phase }], guard := none }) (v := ?tkv3007) rfl (by kernel_rfl) (by kernel_rfl) (by kernel_rfl) (fun _ _ _ h => h) (Or.inl ⟨by rfl, ?tky3007⟩) hH3006 ?tkr3007
      case tky3007 => (intro w' hSw; clear hSw; go_simp; try with_reducible rfl)
      try simp only [Act.put, List.setIfInBounds_toArray, List.set_cons_zero, List.set_cons_succ]
      refine wpAnyH_done (by kernel_rfl) ?_ _
      refine NoPanic.normal ?_
      go_wp2_with fail
      go_meet
      exact ⟨_, _, rfl, BI3006⟩
    case rest =>
      obtain ⟨A1, c1, rfl, hbg⟩ := hcut
      have HW1 := Lib.hid (hbg.out.below B1B.out (Nat.le_trans HBS.out (Nat.le_of_lt HBW.out)) HO.out)
      have BX1 := Lib.hid (BOX.out.bg hbg.out OWNE.out)
      have k1 := cell_of_row wc w.heap.size 1 _ _ (0, 0) BX1.out
      have E1 := Lib.hid (hbg.out.not HBW.out OWNE.out)
      have S1 : Hid (w.heap.size < wc.heap.size) := Lib.hid (Array.getElem?_eq_some_iff.1 BX1.out).1
      have O1 := Lib.hid hbg.out.own
      obtain ⟨wD, rfl⟩ : ∃ x : World, x = wc := ⟨_, rfl⟩
      go_upto_region 5 with (at_builtin; go_loud (refine wpList_app rfl (.tmp 16) (.tmp 24) 23 rfl base 5 i0 (.int .u8 0) 1 Try.underlying23 hi hz0 hz1 hz2 rfl _ (n + 1 + 4) (bv _) rfl (O1.out.alloc _) _ _ 2 2 _ rfl (row_new wD _ _ _) (by intro u hu; simp at hu; rcases hu with rfl | rfl <;> rfl) (by unfold maxLen; omega) (by omega) (by have := HBS.out; have := S1.out; simp; omega) ?_; intro v5 w5 hown5 hg5 hat5))
      obtain ⟨A5, c5, rfl, _⟩ := own_slice hown5
      have e2 : bv [UInt8.ofNat (L / 256), UInt8.ofNat L] = [Value.int IntKind.u8 ((L : Int) / 256), Value.int IntKind.u8 ((L : Int) % 256)] := by
        simp [bv]
        omega
      have BG5 : Hid (BG base (.slice A1 (n + 1 + 4) c1) (n + 1 + 4 + 2) (l ++ [1] ++ CrcM.four v ++ [UInt8.ofNat (L / 256), UInt8.ofNat L]) A5 c5 wD w5) := Lib.hid (bg_app ((Below.refl _ _).alloc (Nat.le_refl _) _) (O1.out.alloc _) (by rw [bv_append, e2]; exact hown5) hg5 hat5)
      have BT5 := Lib.hid (hbg.out.trans BG5.out)
      have BX5 := Lib.hid (BX1.out.bg BG5.out E1.out)
      have k2 := cell_of_row w5 w.heap.size 2 _ _ (0, 0) BX5.out
      have O5 := Lib.hid BG5.out.own
      have HW5 := Lib.hid (BG5.out.below HW1.out (by have := HBS.out; have := S1.out; omega) O1.out)
      have S5 : Hid (w.heap.size < w5.heap.size) := Lib.hid (Array.getElem?_eq_some_iff.1 BX5.out).1
      have R5 := Lib.hid (HR.out.below (HW5.out.mono HBB.out))
      clear hown5 hg5 hat5 e2 k1 BX1 E1 S1 O1 BG5 hbg HW1
      go_wp2_with (at_builtin; go_loud (refine wpList_app rfl (.tmp 26) (.tmp 28) 23 rfl base 5 i0 (.int .u8 0) 1 Try.underlying23 hi hz0 hz1 hz2 rfl _ (n + 1 + 4 + 2) (bv _) rfl O5.out B A0 h.length c0 (bv h) rfl R5.out (bv_one _) (by have := H32.out; unfold maxLen; omega) (by have := H32.out; omega) (by have := HBS.out; have := S5.out; omega) ?_; intro v6 w6 hown6 hg6 hat6))
      go_ret
      obtain ⟨A6, c6, rfl, _⟩ := own_slice hown6
      have BG6 := bg_app (l := l ++ [1] ++ CrcM.four v ++ [UInt8.ofNat (L / 256), UInt8.ofNat L]) (news := h) (Below.refl _ _) O5.out (by rw [bv_append]; exact hown6) hg6 hat6
      have BT6 := BT5.out.trans BG6
      have fin := BG.first B1.out HO0B.out BT6
      rw [EB.out, EL2.out]
      simp only [List.append_assoc] at fin ⊢
      exact ⟨A6, c6, rfl, Lib.hid fin⟩
theorem addSlot_any {base n c B c0 : Nat} {A A0 : Option Addr} {l : List UInt8} {S : LSlot} {w : World} (hown : w.ownsRow base 5 1 (.slice A n c) n (bv l)) (hb : base ≤ w.heap.size) (hn : n ≤ 1000000) (hr : Row w B A0 S.h.length (bv S.h)) (hB : B ≤ base) (hok : S.ok) :
    Calls Try.prog 22 #[.slice A n c, .agg (S.cells A0 c0)] w (AddG base (.slice A n c) (n + S.bytes.length) (l ++ S.bytes) w) := by
  obtain ⟨v, sl, h⟩ := S
  obtain ⟨L, rfl⟩ : ∃ L : Nat, sl = (L : Int) := ⟨sl.toNat, by
    have h0 : 0 ≤ sl := by
      rcases hok with e | e
      · injection e with _ e _; omega
      · exact e.2.1
    omega⟩
  exact addSlot_ex base n c B c0 v L h _ (Lib.hid rfl) A A0 l w hown hb hn hr hB hok
end Go.Proofs.Ytdipccjgpkedhaa
