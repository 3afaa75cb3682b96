/- The tied card of downpourlaw12.DecodeCounts. -/
import Derived.Deep.Slices
import Derived.Laws.Append
import Derived.Test.YtpmmolamdlcmnaaGreatDoorZ17
namespace Go.Proofs.YtpmmolamdlcmnaaGreatDoor
open Go.ChangeShapes Go.WideShapes Go.ChangeAt Go.RowKit
theorem nums_at {w : World} {a : Addr} {c : Nat} {f : Nat → Value} (h : ∀ i, i < c → w.cell? (a.add i) = some (f i)) (hp : 0 < c) :
    ∃ b o, a = ⟨b, o, none⟩ ∧ ∀ i, i < c → w.cell? ⟨b, o + i, none⟩ = some (f i) := by
  obtain ⟨b, o, spot⟩ := a
  have hspot : spot = none := by simpa [Addr.add] using World.cell?_spot (h 0 hp)
  subst hspot
  exact ⟨b, o, rfl, fun i hi => by rw [← Go.WideShapes.add_plain]; exact h i hi⟩
theorem open_nums {H : Type} {enc : TypeId × Value → H} {P : Program} {W : World} {base : Nat} {t e : TypeId} {v : Value} {d : DataW H} {ps : List MemPlace}
    (ht : P.underlying t = some (.slice e)) (he : P.underlying e = some (.int .i64)) (hc : P.cellsOf e = 1) (hval : Value.okWide P W .any base t v) (h : DataW.Trod enc P W 0 (fun _ => true) true t v d ps) :
    ∃ (A : Option Addr) (n cap : Nat) (zs : List Int), v = .slice A n cap ∧ n ≤ cap ∧ cap ≤ 9223372036854775807 ∧
      (∀ i, i < n → ∃ b o, A = some ⟨b, o, none⟩ ∧ b < W.heap.size ∧ W.cell? ⟨b, o + i, none⟩ = some (.int .i64 (zs.getD i 0)) ∧ -9223372036854775808 ≤ zs.getD i 0 ∧ zs.getD i 0 ≤ 9223372036854775807) := by
  obtain ⟨a0, len, cap, rfl⟩ := okWide_slice ht hval
  obtain ⟨fuel, hf⟩ := h
  rcases open_ints ht he hc hf with ⟨hcs, hx⟩ | ⟨a, len', cap', zs, hcs, _, hl, hm, hz, hx, hcell, hwz⟩
  · simp [Value.cells] at hcs
    obtain ⟨rfl, rfl, rfl⟩ := hcs
    exact ⟨none, 0, 0, [], rfl, Nat.le_refl _, by omega, fun i hi => by omega⟩
  · simp [Value.cells] at hcs
    obtain ⟨rfl, rfl, rfl⟩ := hcs
    unfold maxLen at hm
    simp at hz
    refine ⟨_, _, _, zs, rfl, hl, by omega, fun i hi => ?_⟩
    obtain ⟨b, o, rfl, hc2⟩ := nums_at hcell (by omega)
    have hi2 : i < zs.length := by omega
    have hmem : zs.getD i 0 ∈ zs := by rw [List.getD_eq_getElem?_getD, List.getElem?_eq_getElem hi2]; exact List.getElem_mem hi2
    have hw := hwz _ hmem
    have hb : -9223372036854775808 ≤ zs.getD i 0 ∧ zs.getD i 0 ≤ 9223372036854775807 := by simpa [Lit.wf, IntKind.min, IntKind.max, IntKind.signed, IntKind.bits] using hw
    exact ⟨b, o, rfl, block_lt_of_cell (hc2 i hi2), hc2 i hi2, hb.1, hb.2⟩
end Go.Proofs.YtpmmolamdlcmnaaGreatDoor
namespace Go.Proofs.YtpmmolamdlcmnaaGreatDoor
open Go.ChangeShapes Go.WideShapes Go.ChangeAt Go.RowKit
theorem open_u32s {H : Type} {enc : TypeId × Value → H} {P : Program} {W : World} {base : Nat} {t e : TypeId} {v : Value} {d : DataW H} {ps : List MemPlace}
    (ht : P.underlying t = some (.slice e)) (he : P.underlying e = some (.int .u32)) (hc : P.cellsOf e = 1) (hval : Value.okWide P W .any base t v) (h : DataW.Trod enc P W 0 (fun _ => true) true t v d ps) :
    ∃ (A : Option Addr) (n cap : Nat) (us : List Nat), v = .slice A n cap ∧ n ≤ cap ∧ cap ≤ 9223372036854775807 ∧
      (∀ i, i < n → ∃ b o, A = some ⟨b, o, none⟩ ∧ b < W.heap.size ∧ W.cell? ⟨b, o + i, none⟩ = some (.int .u32 ((us.getD i 0 : Nat) : Int)) ∧ us.getD i 0 < 4294967296) := by
  obtain ⟨a0, len, cap, rfl⟩ := okWide_slice ht hval
  obtain ⟨fuel, hf⟩ := h
  rcases open_ints ht he hc hf with ⟨hcs, hx⟩ | ⟨a, len', cap', zs, hcs, _, hl, hm, hz, hx, hcell, hwz⟩
  · simp [Value.cells] at hcs
    obtain ⟨rfl, rfl, rfl⟩ := hcs
    exact ⟨none, 0, 0, [], rfl, Nat.le_refl _, by omega, fun i hi => by omega⟩
  · simp [Value.cells] at hcs
    obtain ⟨rfl, rfl, rfl⟩ := hcs
    unfold maxLen at hm
    simp at hz
    refine ⟨_, _, _, zs.map Int.toNat, rfl, hl, by omega, fun i hi => ?_⟩
    obtain ⟨b, o, rfl, hc2⟩ := nums_at hcell (by omega)
    have hi2 : i < zs.length := by omega
    have hmem : zs.getD i 0 ∈ zs := by rw [List.getD_eq_getElem?_getD, List.getElem?_eq_getElem hi2]; exact List.getElem_mem hi2
    have hw := hwz _ hmem
    have hb : 0 ≤ zs.getD i 0 ∧ zs.getD i 0 ≤ 4294967295 := by simpa [Lit.wf, IntKind.min, IntKind.max, IntKind.signed, IntKind.bits] using hw
    have e : (zs.map Int.toNat).getD i 0 = (zs.getD i 0).toNat := by
      rw [List.getD_eq_getElem?_getD, List.getD_eq_getElem?_getD, List.getElem?_map, List.getElem?_eq_getElem hi2]; rfl
    refine ⟨b, o, rfl, block_lt_of_cell (hc2 i hi2), ?_, ?_⟩
    · rw [e, Int.toNat_of_nonneg hb.1]; exact hc2 i hi2
    · rw [e]; omega
end Go.Proofs.YtpmmolamdlcmnaaGreatDoor
namespace Go.Proofs.YtpmmolamdlcmnaaGreatDoor
open Go.ChangeShapes Go.WideShapes Go.ChangeAt Go.RowKit
/-- one call -/
structure C2R where
  id : Nat
  A : Option Addr
  n : Nat
  c : Nat
  l : List UInt8
instance : Inhabited C2R := ⟨⟨0, none, 0, 0, []⟩⟩
/-- calls that lie in memory -/
def Calls2 (W : World) (A : Option Addr) (m : Nat) (C : Nat → C2R) : Prop := ∀ i, i < m → ∃ b o, A = some ⟨b, o, none⟩ ∧ b < W.heap.size ∧ W.cell? ⟨b, o + i * 2, none⟩ = some (.int .u32 ((C i).id : Int)) ∧ W.cell? ⟨b, o + i * 2 + 1, none⟩ = some (.slice (C i).A (C i).n (C i).c) ∧
  (C i).id < 4294967296 ∧ Row W W.heap.size (C i).A (C i).n (bv (C i).l) ∧ (C i).n ≤ (C i).c ∧ (C i).c ≤ 9223372036854775807
theorem open_c2s {H : Type} {enc : TypeId × Value → H} {P : Program} {W : World} {base : Nat} {t q e : TypeId} {v : Value} {d : DataW H} {ps : List MemPlace} {f0 f1 : Field}
    (htq : P.underlying t = some (.slice q)) (ht : P.underlying q = some (.struct #[f0, f1])) (ho : f0.offset = 0 ∧ f1.offset = 1) (h0 : P.underlying f0.type = some (.int .u32)) (h1 : P.underlying f1.type = some (.slice e))
    (he : P.underlying e = some (.int .u8)) (hc : P.cellsOf e = 1) (hcs : P.cellsOf f0.type = 1 ∧ P.cellsOf f1.type = 1) (hct : P.cellsOf q = 2)
    (hval : Value.okWide P W .any base t v) (h : DataW.Trod enc P W 0 (fun _ => true) true t v d ps) :
    ∃ (A : Option Addr) (m cap : Nat) (C : Nat → C2R), v = .slice A m cap ∧ m ≤ cap ∧ cap ≤ 9223372036854775807 ∧ Calls2 W A m C := by
  obtain ⟨a0, len, cap, rfl⟩ := okWide_slice htq hval
  obtain ⟨fuel, hf⟩ := h
  rcases Go.Deep.open_slice htq hf with ⟨hcs0, _⟩ | ⟨a, len', cap', m, n, D, Pl, hcs0, _, hl, hm, hmm, _, hx⟩
  · simp [Value.cells] at hcs0
    obtain ⟨rfl, rfl, rfl⟩ := hcs0
    exact ⟨none, 0, 0, fun _ => default, rfl, Nat.le_refl _, by omega, fun i hi => by omega⟩
  · simp [Value.cells] at hcs0
    obtain ⟨rfl, rfl, rfl⟩ := hcs0
    unfold maxLen at hm
    simp only [if_true] at hmm
    subst hmm
    obtain ⟨C, hC⟩ := Go.Deep.choose_lt (α := C2R) (p := fun i (c : C2R) => W.cell? (a.add (i * 2)) = some (.int .u32 (c.id : Int)) ∧ W.cell? ((a.add (i * 2)).add 1) = some (.slice c.A c.n c.c) ∧ c.id < 4294967296 ∧ Row W W.heap.size c.A c.n (bv c.l) ∧ c.n ≤ c.c ∧ c.c ≤ 9223372036854775807) (fun i hi => by
      obtain ⟨cs', h2, h3⟩ := hx i hi
      rw [hct] at h2
      obtain ⟨_, hlen, hcell⟩ := World.cells?_some h2
      obtain ⟨c0, c1, rfl⟩ : ∃ c0 c1, cs' = [c0, c1] := by
        match cs', hlen with
        | [c0, c1], _ => exact ⟨c0, c1, rfl⟩
      obtain ⟨xs, m2, _, _, _, hxl, hx2⟩ := DataW.trod_struct ht h3
      have hxl3 : xs.length = 2 := hxl
      have g0 := hx2 0 f0 rfl
      have g1 := hx2 1 f1 rfl
      rw [ho.1, hcs.1, List.getElem?_eq_getElem (by omega)] at g0
      rw [ho.2, hcs.2, List.getElem?_eq_getElem (by omega)] at g1
      obtain ⟨id, hi2, hil⟩ := open_cu32 h0 g0
      obtain ⟨A, n', c', l, hd, hrow, hn, hcap⟩ := open_cbytes h1 he hc g1
      simp at hi2 hd
      subst hi2 hd
      have k0 := hcell 0 (by omega)
      have k1 := hcell 1 (by omega)
      refine ⟨⟨id, A, n', c', l⟩, ?_, k1, hil, hrow, hn, hcap⟩
      have e0 : (a.add (i * 2)).add 0 = a.add (i * 2) := by rw [Go.Deep.add_add, Nat.add_zero]
      rw [← e0]
      exact k0)
    refine ⟨some a, len, _, C, rfl, hl, by omega, fun i hi => ?_⟩
    obtain ⟨b1, b2, b3, b4⟩ := hC i (by omega)
    obtain ⟨b, off, spot⟩ := a
    have hspot : spot = none := by simpa [Addr.add] using World.cell?_spot (hC 0 (by omega)).1
    subst hspot
    rw [Go.Deep.add_add, Go.WideShapes.add_plain] at b2
    rw [Go.WideShapes.add_plain] at b1
    exact ⟨b, off, rfl, block_lt_of_cell b1, b1, b2, b3, b4⟩
end Go.Proofs.YtpmmolamdlcmnaaGreatDoor
namespace Go.Proofs.YtpmmolamdlcmnaaGreatDoor.Dc
open Go.RowKit
open VecM RdM Vc Sp Pc El
theorem Calls2.keep {W W' : World} {A : Option Addr} {m : Nat} {C : Nat → C2R} (h : Calls2 W A m C) (hb : Below W.heap.size W W') : Calls2 W' A m C := fun i hi => by
  obtain ⟨b, o, e, hl, h1, h2, h3, h4, h5⟩ := h i hi
  exact ⟨b, o, e, Nat.lt_of_lt_of_le hl hb.size, (hb.cell (p := ⟨b, o + i * 2, none⟩) hl).trans h1, (hb.cell (p := ⟨b, o + i * 2 + 1, none⟩) hl).trans h2, h3, (h4.below hb).more hb.size, h5⟩
def LightOk (m : Nat) (C : Nat → C2R) (w : World) (e : Ending) (w' : World) : Prop :=
  ∃ r : Bool, e = .returned (.bool r) ∧ Hid (r = true → m ≤ 100 ∧ ∀ i, i < m → (C i).n ≤ 40) ∧ Hid (Below w.heap.size w w')
set_option maxRecDepth 100000 in
set_option maxHeartbeats 3200000 in
theorem light_any (m cu : Nat) (U : Option Addr) (C : Nat → C2R) (w : World) (hc : Calls2 w U m C) (hm : m ≤ cu ∧ cu ≤ 9223372036854775807) :
    Calls Tryz.prog 24 #[.slice U m cu] w (LightOk m C w) := by
  have HC := Lib.hid hc
  have hm1 : (m : Int) ≤ 9223372036854775807 := by omega
  clear hc hm
  go_enter Tryz.func24, Tryz.ntmps24
  go_wp2_with fail
  go_loopw [7] (fun i wr => ∃ k : Nat, k ≤ m ∧ k ≤ 100 ∧ i = .int .i64 k ∧ Hid (∀ j, j < k → (C j).n ≤ 40) ∧ Hid (Below w.heap.size w wr)) (fun i _ => m - (intOf i).toNat)
  case atStart => exact ⟨0, by omega, by omega, rfl, Lib.hid (fun j hj => absurd hj (by omega)), Lib.hid (Below.refl _ _)⟩
  case round =>
    obtain ⟨k, hk, hk1, rfl, HL, HB⟩ := hrel
    by_cases hlt : k < m
    · have hki : (k : Int) < (m : Int) := by omega
      obtain ⟨b, o, rfl, _, c0, c1, _, _, hnc, hcm⟩ := Calls2.keep HC.out HB.out k hlt
      have hn1 : ((C k).n : Int) ≤ 9223372036854775807 := by omega
      have HBN : Hid (Below w.heap.size w (wr.alloc (.cells #[.int .u32 ((C k).id : Int), .slice (C k).A (C k).n (C k).c] 25))) := Lib.hid (HB.out.trans (((Below.refl _ _).alloc (Nat.le_refl _) _).mono HB.out.size))
      by_cases hq : k < 100
      · have q1 : (k : Int) < 100 := by omega
        have q2 : ¬ (100 : Int) ≤ (k : Int) := by omega
        by_cases hz : (C k).n ≤ 40
        · have q3 : ((C k).n : Int) ≤ 40 := by omega
          have q4 : ¬ (40 : Int) < ((C k).n : Int) := by omega
          have HL2 : Hid (∀ j, j < k + 1 → (C j).n ≤ 40) := Lib.hid fun j hj => by
            by_cases e : j = k
            · rw [e]; exact hz
            · exact HL.out j (by omega)
          go_wp2_with fail
          go_roundw
          case rel => exact ⟨k + 1, by omega, by omega, by go_num, HL2, HBN⟩
          case measure => simp [intOf]; omega
        · have q3 : (40 : Int) < ((C k).n : Int) := by omega
          go_wp2_with fail
          go_ret
          exact ⟨false, rfl, Lib.hid (fun h => by cases h), HBN⟩
      · have q1 : (100 : Int) ≤ (k : Int) := by omega
        go_wp2_with fail
        go_ret
        exact ⟨false, rfl, Lib.hid (fun h => by cases h), HBN⟩
    · obtain rfl : m = k := by omega
      go_wp2_with fail
      go_ret
      exact ⟨true, rfl, Lib.hid fun _ => ⟨hk1, HL.out⟩, HB⟩
end Go.Proofs.YtpmmolamdlcmnaaGreatDoor.Dc
namespace Go.Proofs.YtpmmolamdlcmnaaGreatDoor
open Go.RowKit
theorem zeroCells_u8 (m : Nat) : Builtin.zeroCells #[Value.int .u8 0] m = (List.replicate m (Value.int .u8 0)).toArray := by
  apply Array.toList_inj.1
  simp [Builtin.zeroCells, Nat.mod_one, List.map_const']
theorem app_zero_run {P : Program} (w : World) (base : Nat) (t ti ty e : TypeId) (i : TypeInfo) (ht : P.underlying t = some (.slice e)) (hti : P.underlying ti = some (.int .i64)) (hi : P.info? e = some i) (hz : i.zero = some (.int .u8 0))
    (hsize : i.size = 1) (hby : i.bytes = 1)
    (v : Value) (n : Nat) (xs : List Value) (hown : w.ownsRow base e 1 v n xs) (m : Nat) (hn : n ≤ 1000000000) (hm : m ≤ 1000000000) (hbase : base ≤ w.heap.size) :
    ∃ v' w', (Builtin.append_ #[t, ti] ty #[v, .int .i64 (m : Int)]).run P w = .ok v' w' ∧ w'.ownsRow base e 1 v' (n + m) (xs ++ List.replicate m (.int .u8 0)) ∧ w.grownBy w' v.ownBlock := by
  have hwrap : IntKind.i64.wrap (m : Int) = (m : Int) := IntWalk.i64_in _ ⟨by omega, by omega⟩
  have h0 : ¬ ((m : Int) < 0) := by omega
  have h48 : ¬ (281474976710656 < (m : Int)) := by omega
  have hcells : (Value.int IntKind.u8 0).cells = #[Value.int .u8 0] := rfl
  have hlen : (xs ++ List.replicate m (Value.int .u8 0)).length = (n + m) * 1 := by rw [List.length_append, hown.1, List.length_replicate]; omega
  have grown : ∀ (old : Nat), ∀ (row : Option Nat),
      (w.drew.alloc (.cells (xs.toArray ++ Builtin.zeroCells #[Value.int .u8 0] m ++ Builtin.zeroCells #[Value.int .u8 0] (grownCap w (n + m) old e - (n + m))) e)).ownsRow base e 1
        (.slice (some ⟨w.heap.size, 0, none⟩) (n + m) (grownCap w (n + m) old e)) (n + m) (xs ++ List.replicate m (.int .u8 0)) ∧
      w.grownBy (w.drew.alloc (.cells (xs.toArray ++ Builtin.zeroCells #[Value.int .u8 0] m ++ Builtin.zeroCells #[Value.int .u8 0] (grownCap w (n + m) old e - (n + m))) e)) row := by
    intro old row
    have hge := grownCap_ge w (n + m) old e
    have hcm : grownCap w (n + m) old e ≤ maxLen := grownCap_le_maxLen w (n + m) old e (by unfold maxLen; omega)
    have hx1 := hown.1
    refine ⟨⟨hlen, .inr ⟨w.heap.size, _, _, rfl, hbase, heap_alloc_new w.drew _, hge, hcm, ?_, ?_⟩⟩, ⟨rfl, rfl, rfl, by simp, fun k hk _ => heap_alloc_old w.drew _ hk⟩⟩
    · simp only [Array.size_append, List.size_toArray, size_zeroCells, List.size_toArray, List.length_cons, List.length_nil]
      omega
    · simp only [zeroCells_u8, Array.toList_append, List.append_assoc]
      rw [← List.append_assoc, ← hlen]
      exact List.take_left
  have h48' : ∀ old, old < n + m → ¬ (281474976710656 < Builtin.nextslicecap (n + m) old) := by
    intro old ho
    have := growslice_fits (need := n + m) (old := old) (bytes := 1) ho (by omega)
    omega
  rcases hown.2 with ⟨rfl, rfl⟩ | ⟨g, cap, cur, rfl, hbg, hg, hnc, hcm, hcs, htake⟩
  · have hx : xs = [] := List.eq_nil_of_length_eq_zero (by simpa using hown.1)
    subst hx
    by_cases hm0 : m = 0
    · subst hm0
      refine ⟨.slice none 0 0, w, ?_, by simpa using World.ownsRow_nil w base e 1, ⟨rfl, rfl, rfl, Nat.le_refl _, fun _ _ _ => rfl⟩⟩
      simp [Builtin.append_, run_underlying ht, run_underlying hti, sizeOf, typeInfo, hi, hsize, hby, asInt, asIntOf, IntWalk.i64_in]
    · have h63' : ¬ (9223372036854775807 < (m : Int)) := by omega
      have h4 := h48' 0 (by omega)
      have hgr := grown 0 (Value.ownBlock (.slice none 0 0))
      simp only [Nat.zero_add, List.nil_append, Array.empty_append] at hgr h4 ⊢
      refine ⟨_, _, ?_, hgr.1, hgr.2⟩
      simp [Builtin.append_, run_underlying ht, run_underlying hti, sizeOf, typeInfo, hi, hz, hsize, hby, hcells, asInt, asIntOf, hwrap, h0, h48, hm0, h63', h4, zeroValue, Builtin.firstCells, Question.forced, newRow, grownCap]
  · by_cases hroom : n + m ≤ cap
    · have hst := run_storeCells_at P g (n * 1) e (List.replicate m (Value.int .u8 0)) 0 cur w hg (by rw [List.length_replicate]; omega) (by intro u hu; rw [List.eq_of_mem_replicate hu]; rfl)
      simp only [Nat.add_zero, Nat.mul_one] at hst
      refine ⟨.slice (some ⟨g, 0, none⟩) (n + m) cap, w.setRow g (cur.toList.take n ++ List.replicate m (Value.int .u8 0) ++ cur.toList.drop (n + (List.replicate m (Value.int .u8 0)).length)).toArray, ?_,
        ⟨hlen, .inr ⟨g, cap, _, rfl, hbg, setRow_heap w g cur _ e _ hg, hroom, hcm, ?_, ?_⟩⟩, ⟨rfl, rfl, rfl, by simp, fun k _ hk => setRow_other w g k _ (fun e => hk (by simp [Value.ownBlock, e]))⟩⟩
      · by_cases hm0 : m = 0
        · subst hm0
          simp only [List.replicate_zero] at hst
          simp [Builtin.append_, run_underlying ht, run_underlying hti, sizeOf, typeInfo, hi, hsize, hby, asInt, asIntOf, IntWalk.i64_in, hnc, Addr.add_lit, hst]
        · simp [Builtin.append_, run_underlying ht, run_underlying hti, sizeOf, typeInfo, hi, hz, hsize, hby, hcells, asInt, asIntOf, hwrap, h0, h48, hm0, hroom, zeroValue, zeroCells_u8, Addr.add_lit, hst]
      · simp only [List.size_toArray, List.length_append, List.length_take, List.length_drop, Array.length_toList, List.length_replicate]
        omega
      · rw [Nat.mul_one] at htake
        rw [htake, ← hlen]
        exact List.take_left
    · have holds : ∀ j u, xs[j]? = some u → w.cell? ((⟨g, 0, none⟩ : Addr).add j) = some u := hown.cells (g := g) rfl
      have hf := run_firstCells_some (P := P) w.drew 1 n ⟨g, 0, none⟩ n cap xs hown.1 (by simpa using holds)
      have h63' : ¬ (9223372036854775807 < ((n : Int) + (m : Int))) := by omega
      have h4 := h48' cap (by omega)
      have hm0 : ¬ m = 0 := by omega
      have hgr := grown cap (Value.ownBlock (.slice (some ⟨g, 0, none⟩) n cap))
      refine ⟨_, _, ?_, hgr.1, hgr.2⟩
      simp [Builtin.append_, run_underlying ht, run_underlying hti, sizeOf, typeInfo, hi, hz, hsize, hby, hcells, asInt, asIntOf, hwrap, h0, h48, hm0, hroom, h63', h4, zeroValue, hf, Question.forced, newRow, grownCap]
theorem wp_appZ {P : Program} {w : World} {o : Oper} {a : Act} {K : Act → World → Prop} {Q : Exit → Act → World → Prop} (s x : Operand) (t ti : TypeId)
    (ho : o.op = .call { callee := .builtin .append, args := #[s, x], argTypes := #[t, ti] })
    (base : Nat) (e : TypeId) (i : TypeInfo) (ht : P.underlying t = some (.slice e)) (hti : P.underlying ti = some (.int .i64)) (hi : P.info? e = some i) (hz : i.zero = some (.int .u8 0)) (hsize : i.size = 1) (hby : i.bytes = 1)
    (v : Value) (n : Nat) (l : List UInt8) (hs : a.eval s = v) (hown : w.ownsRow base e 1 v n (bv l)) (m : Nat) (hx : a.eval x = .int .i64 (m : Int)) (hn : n ≤ 1000000000) (hm : m ≤ 1000000000) (hbase : base ≤ w.heap.size)
    (h : ∀ v' w', w'.ownsRow base e 1 v' (n + m) (bv (l ++ List.replicate m 0)) → w.grownBy w' v.ownBlock → K (a.put o.dst v') w') : o.wp P a w K Q := by
  obtain ⟨v', w', hrun, h2, h3⟩ := app_zero_run (P := P) w base t ti o.type e i ht hti hi hz hsize hby v n (bv l) hown m hn hm hbase
  unfold Oper.wp execOp
  simp only [ho, resolve, invoke, builtin, Sem.run_bind, Sem.run_pure, Result.andThen_ok, List.map_toArray, List.map_cons, List.map_nil, hs, hx, hrun]
  refine h v' w' ?_ h3
  have e0 : bv (List.replicate m 0) = List.replicate m (Value.int .u8 0) := by simp [bv]
  rw [bv_append, e0]
  exact h2
theorem wpList_appZ {P : Program} {w : World} {ops : Array Oper} {rest : List Oper} {o : Oper} {a : Act} {Q : Exit → Act → World → Prop} (hgd : o.guard = none) (s x : Operand) (t ti : TypeId)
    (ho : o.op = .call { callee := .builtin .append, args := #[s, x], argTypes := #[t, ti] })
    (base : Nat) (e : TypeId) (i : TypeInfo) (ht : P.underlying t = some (.slice e)) (hti : P.underlying ti = some (.int .i64)) (hi : P.info? e = some i) (hz : i.zero = some (.int .u8 0)) (hsize : i.size = 1) (hby : i.bytes = 1)
    (v : Value) (n : Nat) (l : List UInt8) (hs : a.eval s = v) (hown : w.ownsRow base e 1 v n (bv l)) (m : Nat) (hx : a.eval x = .int .i64 (m : Int)) (hn : n ≤ 1000000000) (hm : m ≤ 1000000000) (hbase : base ≤ w.heap.size)
    (h : ∀ v' w', w'.ownsRow base e 1 v' (n + m) (bv (l ++ List.replicate m 0)) → w.grownBy w' v.ownBlock → wpList P ops Q rest (a.put o.dst v') w') : wpList P ops Q (o :: rest) a w :=
  wpList_plain hgd fun _ hK => wp_appZ s x t ti ho base e i ht hti hi hz hsize hby v n l hs hown m hx hn hm hbase fun v' w' h2 h3 => hK _ _ (h v' w' h2 h3)
end Go.Proofs.YtpmmolamdlcmnaaGreatDoor
namespace Go.Proofs.YtpmmolamdlcmnaaGreatDoor.Dc
open Go.RowKit
open VecM RdM Vc Sp Pc El Cd
set_option maxRecDepth 100000 in
set_option maxHeartbeats 12800000 in
theorem dccnt_walk (s m cu : Nat) (K0 P0 Z0 : Int) (U : Option Addr) (C : Nat → C2R) (w : World) (ht : DTab w) (hs : s < 4294967296) (hc : Calls2 w U m C) (hm : m ≤ cu ∧ cu ≤ 9223372036854775807) :
    Calls Tryz.prog 5 #[parV s K0 P0 Z0, .slice U m cu] w fun e w' => e = .returned (.bool true) ∧ Below w.heap.size w w' := by
  have hal : Below w.heap.size w (w.alloc (.cells #[.int .u32 (s : Int), .int .i64 K0, .int .i64 P0, .int .i64 Z0] 35)) := (Below.refl _ _).alloc (Nat.le_refl _) _
  have hx := heap_alloc_new w (.cells #[.int .u32 (s : Int), .int .i64 K0, .int .i64 P0, .int .i64 Z0] 35)
  have hz : (w.alloc (.cells #[.int .u32 (s : Int), .int .i64 K0, .int .i64 P0, .int .i64 Z0] 35)).heap.size = w.heap.size + 1 := by simp
  have HT := Lib.hid ht
  have HLI := Lib.hid (light_any m cu U C (w.alloc (.cells #[.int .u32 (s : Int), .int .i64 K0, .int .i64 P0, .int .i64 Z0] 35)) (Calls2.keep hc hal) hm)
  have HC := Lib.hid hc
  have HAL := Lib.hid hal
  have HX := Lib.hid hx
  have HZ := Lib.hid hz
  have HS := Lib.hid hs
  unfold parV
  clear hal hx hz ht hs hc hm
  go_enter Tryz.func5, Tryz.ntmps5
  go_upto_region 1 with fail
  generalize (w.alloc (.cells #[.int .u32 (s : Int), .int .i64 K0, .int .i64 P0, .int .i64 Z0] 35)) = w0 at *
  go_wp2_with fail
  refine HLI.out.mono ?_
  rintro e wl ⟨r, rfl, hrl, hbl⟩
  have HBL := Lib.hid (HAL.out.trans (hbl.out.mono HAL.out.size))
  have HXL := Lib.hid ((hbl.out.block w.heap.size (by have := HZ.out; omega)).trans HX.out)
  have HZL : Hid (w.heap.size < wl.heap.size) := Lib.hid (Array.getElem?_eq_some_iff.1 HXL.out).1
  have HRL := hrl
  clear hrl hbl HLI HX HZ HAL
  cases r with
  | false =>
    go_wp2_with fail
    refine (awake12_any wl (HT.out.grow HBL.out)).mono ?_
    rintro e w9 ⟨rfl, hb9⟩
    have HB9 := Lib.hid (HBL.out.trans (hb9.out.mono HBL.out.size))
    clear hb9
    go_wp2_with fail
    go_ret
    exact ⟨rfl, HB9.out⟩
  | true =>
    obtain ⟨hm100, hln⟩ := HRL.out rfl
    have HLN := Lib.hid hln
    have hmi : (m : Int) ≤ 100 := by omega
    clear HRL hln
    obtain ⟨a0, a1, a2, a3⟩ := box4 HXL.out
    have HSO := Lib.hid (sound12_any s 0 0 wl.heap.size K0 P0 Z0 none [] wl (Row.nil _ _ _) ⟨Nat.le_refl _, by omega⟩ (Nat.le_refl _))
    unfold parV at HSO
    go_wp2_with fail
    refine HSO.out.mono ?_
    rintro e w1 ⟨k0, P, Z, A1, c1, img, rfl, hf, ho, hb1⟩
    have hx1 := (hb1.out.block w.heap.size HZL.out).trans HXL.out
    obtain ⟨b0, b1, b2, b3⟩ := box4 hx1
    obtain ⟨f0, f1, f2, f3⟩ := frozenBox hx1
    have HX2 := Lib.hid (setBox hx1 (.int .u32 (s : Int)) (.int .i64 (k0 : Int)) (.int .i64 (P : Int)) (.int .i64 (Z : Int)))
    have HB2 := Lib.hid (below_set4 (b := w.heap.size) (HBL.out.trans (hb1.out.mono HBL.out.size)) (Nat.le_refl _) (.int .u32 (s : Int)) (.int .i64 (k0 : Int)) (.int .i64 (P : Int)) (.int .i64 (Z : Int)))
    clear a0 a1 a2 a3 hx1 HSO hb1 ho
    unfold parV
    go_upto_region 4 with fail
    clear b0 b1 b2 b3 f0 f1 f2 f3
    generalize ((((w1.setCell ⟨w.heap.size, 0, none⟩ (.int .u32 (s : Int))).setCell ⟨w.heap.size, 1, none⟩ (.int .i64 (k0 : Int))).setCell ⟨w.heap.size, 2, none⟩ (.int .i64 (P : Int))).setCell ⟨w.heap.size, 3, none⟩ (.int .i64 (Z : Int))) = w2 at *
    obtain ⟨HP, HZZ⟩ : Hid (P ≤ 16) ∧ Hid (1 ≤ Z ∧ Z ≤ 16) := ⟨Lib.hid hf.out.2.1, Lib.hid hf.out.2.2.1⟩
    clear hf
    obtain ⟨kk, hkk⟩ : ∃ kk : Nat, (1 : Int) + (m : Int) % 64 = (kk : Int) := ⟨1 + m % 64, by omega⟩
    have HKK := Lib.hid hkk
    have HK : Hid (1 ≤ kk ∧ kk ≤ 64) := Lib.hid (by omega)
    have HN80 : Hid (kk + P ≤ 80) := Lib.hid (by have := HK.out; have := HP.out; omega)
    obtain ⟨b0, b1, b2, b3⟩ := box4 HX2.out
    obtain ⟨f0, f1, f2, f3⟩ := frozenBox HX2.out
    clear hkk
    go_upto_region 5 with fail
    rw [HKK.out]
    have HX3 : Hid ((w2.setCell ⟨w.heap.size, 1, none⟩ (.int .i64 (kk : Int))).heap[w.heap.size]? = some (.cells #[.int .u32 (s : Int), .int .i64 (kk : Int), .int .i64 (P : Int), .int .i64 (Z : Int)] 35 (0, 0))) := Lib.hid (heap_setCell_same w2 w.heap.size 1 _ _ (.int .i64 (kk : Int)) HX2.out)
    have HB3 : Hid (Below w.heap.size w (w2.setCell ⟨w.heap.size, 1, none⟩ (.int .i64 (kk : Int)))) := Lib.hid (HB2.out.setCell (Nat.le_refl _) _)
    clear b0 b1 b2 b3 f0 f1 f2 f3
    generalize (w2.setCell ⟨w.heap.size, 1, none⟩ (.int .i64 (kk : Int))) = w3 at *
    have HLT3 : Hid (w.heap.size < w3.heap.size) := Lib.hid (Array.getElem?_eq_some_iff.1 HX3.out).1
    have HFX : Hid (∀ W, Below w3.heap.size w3 W → (W.cell? ⟨w.heap.size, 0, none⟩ = some (.int .u32 (s : Int)) ∧ W.cell? ⟨w.heap.size, 1, none⟩ = some (.int .i64 (kk : Int)) ∧ W.cell? ⟨w.heap.size, 2, none⟩ = some (.int .i64 (P : Int)) ∧ W.cell? ⟨w.heap.size, 3, none⟩ = some (.int .i64 (Z : Int))) ∧ True) := Lib.hid fun W hW => ⟨box4 ((hW.block w.heap.size HLT3.out).trans HX3.out), trivial⟩
    have HDT : Hid (∀ W, Below w3.heap.size w3 W → DTab W) := Lib.hid fun W hW => HT.out.grow (HB3.out.trans (hW.mono HB3.out.size))
    have HCW : Hid (∀ W, Below w3.heap.size w3 W → Calls2 W U m C) := Lib.hid fun W hW => Calls2.keep HC.out (HB3.out.trans (hW.mono HB3.out.size))
    clear HX2 HB2 HXL HZL HBL HT HC
    obtain ⟨x0, x1, x2, x3⟩ := box4 HX3.out
    go_wp2_with fail
    refine (newD s kk P Z w3 HS.out HK.out HP.out HZZ.out (HDT.out w3 (Below.refl _ _))).mono ?_
    rintro e w4 ⟨ga, rfl, hd4, hi4, hb4⟩
    have S4 : Hid (Sep3 (decO ga s kk P Z (matR s kk P Z P) 0) noObj noObj w3 w4) := Lib.hid ((Sep3.start w3).create (A' := decO ga s kk P Z (matR s kk P Z P) 0) keeps_no keeps_no hb4.out hd4.out)
    have HIV0 := hi4
    have HRM0 : Hid (rankM (matR s kk P Z P) = P + 0) := Lib.hid (matR_rank HN80.out P (Nat.le_refl _))
    clear hd4 hi4 hb4 x0 x1 x2 x3
    obtain ⟨F4, hd5, _, _⟩ := S4.out.first keeps_no keeps_no
    have HNE := needs_any F4 ga s kk P Z 0 _ w4 hd5 HIV0.out HK.out HP.out HZZ.out
    rw [show (kk : Int) + (P : Int) - (rankM (matR s kk P Z P) : Int) = (kk : Int) from by rw [HRM0.out]; omega] at HNE
    have HNE2 := Lib.hid HNE
    clear HNE hd5
    go_wp2_with fail
    refine HNE2.out.mono ?_
    rintro e w5 ⟨rfl, hb5⟩
    have S5 := Lib.hid (S4.out.below (keeps_dec _ _ _ _ _ _ _) keeps_no keeps_no hb5.out)
    clear HNE2 hb5 S4
    obtain ⟨⟨y0, y1, y2, y3⟩, _⟩ := HFX.out w5 S5.out.b
    have hnek : ((kk : Int) != (kk : Int)) = false := by simp
    go_wp2_with fail
    clear y0 y1 y2 y3
    go_loopw [6, 37] (fun v i wr => ∃ (j t nd : Nat) (M : Mx), j ≤ m ∧ i = .int .i64 j ∧ nd + t = kk ∧ v = .int .i64 nd ∧ Hid (Inv (kk + P) Z M) ∧ Hid (rankM M = P + t) ∧ Hid (Sep3 (decO ga s kk P Z M t) noObj noObj w3 wr)) (fun _ i _ => m - (intOf i).toNat)
    case atStart => exact ⟨0, 0, kk, _, by omega, rfl, by omega, rfl, HIV0, HRM0, S5⟩
    case round =>
      obtain ⟨i, t, nd, M, hi, rfl, hnd, rfl, HIV, HRM, SR⟩ := hrel
      clear S5 HIV0 HRM0
      by_cases hlt : i < m
      · have hii : (i : Int) < (m : Int) := by omega
        obtain ⟨b, o, rfl, _, c0, c1, hid, hrow, hnc, hcm⟩ := (HCW.out wr SR.out.b) i hlt
        have hn40 := HLN.out i hlt
        have hn41 : ((C i).n : Int) ≤ 40 := by omega
        have HID := Lib.hid hid
        have HXQ := Lib.hid (heap_alloc_new wr (.cells #[.int .u32 ((C i).id : Int), .slice (C i).A (C i).n (C i).c] 25))
        have HBQ : Hid (Below wr.heap.size wr (wr.alloc (.cells #[.int .u32 ((C i).id : Int), .slice (C i).A (C i).n (C i).c] 25))) := Lib.hid ((Below.refl _ _).alloc (Nat.le_refl _) _)
        have hzq : (wr.alloc (.cells #[.int .u32 ((C i).id : Int), .slice (C i).A (C i).n (C i).c] 25)).heap.size = wr.heap.size + 1 := by simp
        have HZQ := Lib.hid hzq
        have SQ := Lib.hid (SR.out.below (keeps_dec _ _ _ _ _ _ _) keeps_no keeps_no HBQ.out)
        have HRO := Lib.hid (hrow.below HBQ.out)
        have hllen : (C i).l.length = (C i).n := by simpa [bv] using hrow.blen
        clear hid hrow hzq SR
        go_upto_region 12 with fail
        generalize (wr.alloc (.cells #[.int .u32 ((C i).id : Int), .slice (C i).A (C i).n (C i).c] 25)) = wq at *
        clear c0 c1
        have HRW : Hid (∀ W, Below wq.heap.size wq W → Row W wr.heap.size (C i).A (C i).n (bv (C i).l)) := Lib.hid fun W hW => HRO.out.below (hW.mono (by have := HZQ.out; omega))
        have HFQ : Hid (∀ W, Below wq.heap.size wq W → W.cell? ⟨wr.heap.size, 1, none⟩ = some (.slice (C i).A (C i).n (C i).c) ∧ W.cell? ⟨wr.heap.size, 0, none⟩ = some (.int .u32 ((C i).id : Int)) ∧ W.cell? ⟨w.heap.size, 3, none⟩ = some (.int .i64 (Z : Int))) := Lib.hid fun W hW => by
          have hb := (hW.block wr.heap.size (by have := HZQ.out; omega)).trans HXQ.out
          exact ⟨dcell_at hb rfl, dcell_at hb rfl, (HFX.out W (SQ.out.b.trans (hW.mono SQ.out.b.size))).1.2.2.2⟩
        obtain ⟨iu, hui, huz, hus, hub⟩ := info_parts Tryz.info5
        have hz16 : (Z : Int) ≤ 16 := by have := HZZ.out; omega
        have hz16n : Z ≤ 16 := HZZ.out.2
        refine wp_region_noPanic ?_
        refine wp_region_held_drew (S := (fun W => Below (wq.heap.size) wq W)) (by kernel_rfl) (Below.refl _ _).drew (fun hH0 => ?_)
        have hH0 : Below (wq.heap.size) wq wq.drew := hH0
        generalize wq.drew = wd3000 at *
        refine wpAnyH_take (i := 1) (oi := { dst := some 42, op := Op.fieldAddr 25 (Operand.tmp 8) 1, type := 0, pos := "law.go:115", after := #[], guard := none }) (v := ?tkv3001) rfl (by kernel_rfl) (by kernel_rfl) (by kernel_rfl) (fun _ _ _ h => h) (Or.inl ⟨by rfl, ?tky3001⟩) hH0 ?tkr3001
        case tky3001 => (intro w' hSw; clear hSw; go_simp; try with_reducible rfl)
        try simp only [Act.put, List.setIfInBounds_toArray, List.set_cons_zero, List.set_cons_succ]
        refine wpAnyH_take (i := 2) (oi := { dst := some 43, op := Op.load 23 (Operand.tmp 42), type := 23, pos := "law.go:115", after := #[{ on := 1, ground := Ground.data }], guard := none }) (v := ?tkv3002) rfl (by kernel_rfl) (by kernel_rfl) (by kernel_rfl) (fun _ _ _ h => h) (Or.inl ⟨by rfl, ?tky3002⟩) hH0 ?tkr3002
        case tky3002 => (intro w' hSw; have z0 := HFQ.out _ hSw; clear hSw; go_simp; try with_reducible rfl)
        try simp only [Act.put, List.setIfInBounds_toArray, List.set_cons_zero, List.set_cons_succ]
        refine wpAnyH_take (i := 4) (oi := { dst := some 45, op := Op.fieldAddr 35 (Operand.tmp 2) 3, type := 0, pos := "law.go:115", after := #[], guard := none }) (v := ?tkv3003) rfl (by kernel_rfl) (by kernel_rfl) (by kernel_rfl) (fun _ _ _ h => h) (Or.inl ⟨by rfl, ?tky3003⟩) hH0 ?tkr3003
        case tky3003 => (intro w' hSw; clear hSw; go_simp; try with_reducible rfl)
        try simp only [Act.put, List.setIfInBounds_toArray, List.set_cons_zero, List.set_cons_succ]
        refine wpAnyH_take (i := 5) (oi := { dst := some 46, op := Op.load 3 (Operand.tmp 45), type := 3, pos := "law.go:115", after := #[{ on := 4, ground := Ground.data }], guard := none }) (v := ?tkv3004) rfl (by kernel_rfl) (by kernel_rfl) (by kernel_rfl) (fun _ _ _ h => h) (Or.inl ⟨by rfl, ?tky3004⟩) hH0 ?tkr3004
        case tky3004 => (intro w' hSw; have z0 := HFQ.out _ hSw; clear hSw; go_simp; try with_reducible rfl)
        try simp only [Act.put, List.setIfInBounds_toArray, List.set_cons_zero, List.set_cons_succ]
        refine wpAnyH_take (i := 7) (oi := { dst := some 48, op := Op.fieldAddr 35 (Operand.tmp 2) 3, type := 0, pos := "law.go:115", after := #[], guard := none }) (v := ?tkv3005) rfl (by kernel_rfl) (by kernel_rfl) (by kernel_rfl) (fun _ _ _ h => h) (Or.inl ⟨by rfl, ?tky3005⟩) hH0 ?tkr3005
        case tky3005 => (intro w' hSw; clear hSw; go_simp; try with_reducible rfl)
        try simp only [Act.put, List.setIfInBounds_toArray, List.set_cons_zero, List.set_cons_succ]
        refine wpAnyH_take (i := 8) (oi := { dst := some 49, op := Op.load 3 (Operand.tmp 48), type := 3, pos := "law.go:115", after := #[{ on := 7, ground := Ground.data }], guard := none }) (v := ?tkv3006) rfl (by kernel_rfl) (by kernel_rfl) (by kernel_rfl) (fun _ _ _ h => h) (Or.inl ⟨by rfl, ?tky3006⟩) hH0 ?tkr3006
        case tky3006 => (intro w' hSw; have z0 := HFQ.out _ hSw; clear hSw; go_simp; try with_reducible rfl)
        try simp only [Act.put, List.setIfInBounds_toArray, List.set_cons_zero, List.set_cons_succ]
        refine wpAnyH_ready (rs := [0]) (by kernel_rfl) (by simp) ?_
        refine AllReadyH.cons (o := { dst := some 41, op := Op.buildSlice 23 0 #[], type := 23, pos := "law.go:115", after := #[], guard := none }) rfl (fun K hK => ?_) AllReadyH.nil
        go_simp
        have hb3007 : Below wd3000.heap.size wd3000 (wd3000.alloc (.cells #[] 5)) := (Below.refl _ _).alloc (Nat.le_refl _) _
        have OW3007 := Lib.hid (own_lit (w := wd3000) (base := wq.heap.size) (g := wd3000.heap.size) (n := 0) (e := 5) #[] rfl (hH0).size rfl (by unfold maxLen; omega))
        have HBA3007 : Hid (Below wq.heap.size wq (wd3000.alloc (.cells #[] 5))) := Lib.hid ((hH0).trans (hb3007.mono (hH0).size))
        have hS3007 : Below (wq.heap.size) wq (wd3000.alloc (.cells #[] 5)) := HBA3007.out
        refine hK.out _ _ hS3007 (fun hH3007 => ?_)
        have hH3007 : Below (wq.heap.size) wq (wd3000.alloc (.cells #[] 5)) := hH3007
        clear hK K hS3007
        try simp only [Act.put, List.setIfInBounds_toArray, List.set_cons_zero, List.set_cons_succ]
        refine wpAnyH_ready (rs := [3]) (by kernel_rfl) (by simp) ?_
        refine AllReadyH.cons (o := { dst := some 44, op := Op.call { callee := Callee.builtin Builtin.append, args := #[Operand.tmp 41, Operand.tmp 43], argTypes := #[23, 23] }, type := 23, pos := "law.go:115", after := #[{ on := 0, ground := Ground.data }, { on := 2, ground := Ground.data }], guard := none }) rfl (fun K hK => ?_) AllReadyH.nil
        rw [if_pos (by rfl)]
        refine wp_app (.tmp 41) (.tmp 43) 23 rfl wq.heap.size 5 iu (.int .u8 0) 1 Tryz.underlying23 hui huz hus hub rfl _ 0 [] rfl OW3007.out _ (C i).A (C i).n (C i).c (bv (C i).l) rfl (HRW.out _ HBA3007.out) (bv_one _) (by unfold maxLen; omega) (by omega) HBA3007.out.size ?_
        intro v3008 wn3008 hown3008 hg3008 hat3008
        rw [Nat.zero_add, List.nil_append] at hown3008
        have O3008 := Lib.hid hown3008
        have HBA3008 := Lib.hid (below_app HBA3007.out HBA3007.out.size OW3007.out (Nat.le_refl _) hg3008)
        clear hown3008 hg3008 hat3008
        have hS3008 : Below (wq.heap.size) wq wn3008 := HBA3008.out
        refine hK.out _ _ hS3008 (fun hH3008 => ?_)
        have hH3008 : Below (wq.heap.size) wq wn3008 := hH3008
        clear hK K hS3008
        try simp only [Act.put, List.setIfInBounds_toArray, List.set_cons_zero, List.set_cons_succ]
        refine wpAnyH_ready (rs := [6]) (by kernel_rfl) (by simp) ?_
        refine AllReadyH.cons (o := { dst := some 47, op := Op.call { callee := Callee.builtin Builtin.append, args := #[Operand.tmp 44, Operand.tmp 46], argTypes := #[23, 3] }, type := 23, pos := "law.go:115", after := #[{ on := 3, ground := Ground.data }, { on := 5, ground := Ground.data }, { on := 3, ground := Ground.chain }], guard := none }) rfl (fun K hK => ?_) AllReadyH.nil
        rw [if_pos (by rfl)]
        refine wp_appZ (.tmp 44) (.tmp 46) 23 3 rfl wq.heap.size 5 iu Tryz.underlying23 Tryz.underlying3 hui huz hus hub _ (C i).n (C i).l rfl O3008.out Z rfl (by omega) (by omega) HBA3008.out.size ?_
        intro v3009 wn3009 hown3009 hg3009
        obtain ⟨A3009, c3009, rfl, hc3009, _⟩ := own_slice hown3009
        have O3009 := Lib.hid hown3009
        have HBA3009 := Lib.hid (below_app HBA3008.out HBA3008.out.size O3008.out (Nat.le_refl _) hg3009)
        have hzc3009 : (Z : Int) ≤ (c3009 : Int) := by omega
        clear hown3009 hg3009
        have hS3009 : Below (wq.heap.size) wq wn3009 := HBA3009.out
        refine hK.out _ _ hS3009 (fun hH3009 => ?_)
        have hH3009 : Below (wq.heap.size) wq wn3009 := hH3009
        clear hK K hS3009
        try simp only [Act.put, List.setIfInBounds_toArray, List.set_cons_zero, List.set_cons_succ]
        refine wpAnyH_take (i := 9) (oi := { dst := some 50, op := Op.slice 23 (Operand.tmp 47) none (some (Operand.tmp 49)) none, type := 23, pos := "law.go:115", after := #[{ on := 6, ground := Ground.data }, { on := 8, ground := Ground.data }], guard := none }) (v := ?tkv3010) rfl (by kernel_rfl) (by kernel_rfl) (by kernel_rfl) (fun _ _ _ h => h) (Or.inl ⟨by rfl, ?tky3010⟩) hH3009 ?tkr3010
        case tky3010 => (intro w' hSw; have z0 := HFQ.out _ hSw; clear hSw; go_simp; try with_reducible rfl)
        try simp only [Act.put, List.setIfInBounds_toArray, List.set_cons_zero, List.set_cons_succ]
        refine wpAnyH_take (i := 10) (oi := { dst := some 9, op := Op.assign (Operand.tmp 50), type := 23, pos := "law.go:115", after := #[{ on := 9, ground := Ground.data }, { on := 6, ground := Ground.chain }, { on := 0, ground := Ground.phase }, { on := 1, ground := Ground.phase }, { on := 2, ground := Ground.phase }, { on := 3, ground := Ground.phase }, { on := 4, ground := Ground.phase }, { on := 5, ground := Ground.phase }, { on := 6, ground := Ground.phase }, { on := 7, ground := Ground.phase }, { on := 8, ground := Ground.phase }, { on := 9, ground := Ground.phase }], guard := none }) (v := ?tkv3011) rfl (by kernel_rfl) (by kernel_rfl) (by kernel_rfl) (fun _ _ _ h => h) (Or.inl ⟨by rfl, ?tky3011⟩) hH3009 ?tkr3011
        case tky3011 => (intro w' hSw; clear hSw; go_simp; try with_reducible rfl)
        try simp only [Act.put, List.setIfInBounds_toArray, List.set_cons_zero, List.set_cons_succ]
        refine wpAnyH_done (by kernel_rfl) ?_ _
        refine NoPanic.normal ?_
        have RW := Lib.hid ((Row.of_own O3009.out).head (k := Z) (by omega))
        obtain ⟨wz, rfl⟩ : ∃ x : World, x = wn3009 := ⟨_, rfl⟩
        obtain ⟨Ad, rfl⟩ : ∃ x, x = A3009 := ⟨_, rfl⟩
        obtain ⟨cd, rfl⟩ : ∃ x, x = c3009 := ⟨_, rfl⟩
        have HBZ : Hid (Below wq.heap.size wq wz) := HBA3009
        have SZQ := Lib.hid (SQ.out.below (keeps_dec _ _ _ _ _ _ _) keeps_no keeps_no HBZ.out)
        obtain ⟨FT, hdt, _, nextt⟩ := SZQ.out.first keeps_no keeps_no
        obtain ⟨dl, hdl⟩ : ∃ dl : List UInt8, ((C i).l ++ List.replicate Z 0).take Z = dl := ⟨_, rfl⟩
        have hdll : dl.length = Z := by rw [← hdl, List.length_take, List.length_append, List.length_replicate]; omega
        have hrd : Row wz wz.heap.size Ad Z (bv dl) := by
          rw [← hdl, ← bv_take]
          exact RW.out
        obtain ⟨⟨M2, bt⟩, hR⟩ : ∃ R, addMx (kk + P) M (spX s kk P (C i).id) dl = R := ⟨_, rfl⟩
        have hi2 := addMx_inv HIV.out (by have := HN80.out; omega) (spX_lt (s := s) (K := kk) (P := P) (id := (C i).id)) hdll
        have hr2 := rank_add HIV.out (by have := HN80.out; omega) (spX_lt (s := s) (K := kk) (P := P) (id := (C i).id)) hdll
        rw [hR] at hi2 hr2
        have HI2 : Hid (Inv (kk + P) Z M2) := Lib.hid hi2
        have HTK := Lib.hid (take_any FT ga s kk P Z t (C i).id cd Ad dl M wz hdt HIV.out HS.out HID.out HK.out HP.out HZZ.out hdll hrd (HDT.out wz SZQ.out.b) (by have := HK.out; omega))
        rw [hR] at HTK
        have NX := Lib.hid nextt
        obtain ⟨d0, d1⟩ := HFQ.out wz HBZ.out
        clear hdt nextt hdl hdll hrd hR hi2
        go_wp2_with fail
        refine HTK.out.mono ?_
        rintro e wf ⟨rfl, hdf, hff⟩
        have S7 : Hid (Sep3 (decO ga s kk P Z M2 (t + if bt then 1 else 0)) noObj noObj w3 wf) := Lib.hid (NX.out wf (decO ga s kk P Z M2 (t + if bt then 1 else 0)) hdf.out hff.out)
        clear HTK NX hdf hff d0 d1 SZQ HBZ RW
        cases bt with
        | true =>
          obtain ⟨t2, ht2e⟩ : ∃ t2, t + 1 = t2 := ⟨_, rfl⟩
          have S8 : Hid (Sep3 (decO ga s kk P Z M2 t2) noObj noObj w3 wf) := Lib.hid (by rw [← ht2e]; exact S7.out)
          have HR2 : Hid (rankM M2 = P + t2) := Lib.hid (by rw [← ht2e]; have := HRM.out; simp at hr2; omega)
          have hrl2 := rank_le HI2.out
          have ht2 : t2 ≤ kk := by have := HR2.out; omega
          obtain ⟨nd2, hne⟩ : ∃ nd2 : Nat, (nd : Int) - 1 = (nd2 : Int) := ⟨nd - 1, by omega⟩
          have hnd2 : nd2 + t2 = kk := by omega
          have hwt : IntKind.i64.wrap ((nd : Int) - 1) = (nd2 : Int) := by rw [IntKind.wrap_i64]; have := HK.out; omega
          have HW64 : Hid (wrap64 (nd2 : Int) = (nd2 : Int)) := Lib.hid (by have := HK.out; unfold wrap64; omega)
          clear S7 hr2 hrl2
          obtain ⟨FD, hd2, _, _⟩ := S8.out.first keeps_no keeps_no
          have HNV : Hid ((kk : Int) + (P : Int) - (rankM M2 : Int) = (nd2 : Int)) := Lib.hid (by rw [HR2.out]; omega)
          have HFF : Hid (∀ W, Below wf.heap.size wf W → (W.cell? ⟨w.heap.size, 0, none⟩ = some (.int .u32 (s : Int)) ∧ W.cell? ⟨w.heap.size, 1, none⟩ = some (.int .i64 (kk : Int)) ∧ W.cell? ⟨w.heap.size, 2, none⟩ = some (.int .i64 (P : Int)) ∧ W.cell? ⟨w.heap.size, 3, none⟩ = some (.int .i64 (Z : Int))) ∧ True) := Lib.hid fun W hW => HFX.out W (S8.out.b.trans (hW.mono S8.out.b.size))
          have hw9 : IntKind.i64.wrap ((kk : Int) - (nd2 : Int)) = (kk : Int) - (nd2 : Int) := by rw [IntKind.wrap_i64]; have := HK.out; omega
          have HTE : Hid ((t2 : Int) = (kk : Int) - (nd2 : Int)) := Lib.hid (by omega)
          have hk64 : (kk : Int) ≤ 64 := by have := HK.out; omega
          have hnk : (nd2 : Int) ≤ (kk : Int) := by omega
          have hn9 : ((nd2 : Int) != (nd2 : Int)) = false := by simp
          have hn8 : (((kk : Int) - (nd2 : Int)) != ((kk : Int) - (nd2 : Int))) = false := by simp
          have hn7 : ¬ ((nd2 : Int) < 0) := by omega
          go_upto_region 16 with fail
          try rw [HW64.out]
          refine wp_region_noPanic ?_
          refine wp_region_held_drew (S := (fun W => Below (wf.heap.size) wf W)) (by kernel_rfl) (Below.refl _ _).drew (fun hH0 => ?_)
          have hH0 : Below (wf.heap.size) wf wf.drew := hH0
          generalize wf.drew = wd5000 at *
          refine wpAnyH_take (i := 0) (oi := { dst := some 59, op := Op.move (Operand.tmp 5), type := 26, pos := "law.go:120", after := #[], guard := none }) (v := ?tkv5001) rfl (by kernel_rfl) (by kernel_rfl) (by kernel_rfl) (fun _ _ _ h => h) (Or.inl ⟨by rfl, ?tky5001⟩) hH0 ?tkr5001
          case tky5001 => (intro w' hSw; clear hSw; go_simp; try with_reducible rfl)
          try simp only [Act.put, List.setIfInBounds_toArray, List.set_cons_zero, List.set_cons_succ]
          refine wpAnyH_take (i := 2) (oi := { dst := some 61, op := Op.move (Operand.tmp 6), type := 3, pos := "law.go:120", after := #[], guard := none }) (v := ?tkv5002) rfl (by kernel_rfl) (by kernel_rfl) (by kernel_rfl) (fun _ _ _ h => h) (Or.inl ⟨by rfl, ?tky5002⟩) hH0 ?tkr5002
          case tky5002 => (intro w' hSw; clear hSw; go_simp; try with_reducible rfl)
          try simp only [Act.put, List.setIfInBounds_toArray, List.set_cons_zero, List.set_cons_succ]
          refine wpAnyH_ready (rs := [1]) (by kernel_rfl) (by simp) ?_
          refine AllReadyH.cons (o := { dst := some 60, op := Op.call { callee := Callee.value (Operand.func 12), args := #[Operand.tmp 59], argTypes := #[26] }, type := 3, pos := "law.go:120", after := #[{ on := 0, ground := Ground.data }], guard := none }) rfl (fun K hK => ?_) AllReadyH.nil
          go_simp
          have hsy5003 := needs_any FD ga s kk P Z t2 M2 wd5000 (IsDec.below hd2 (hH0)) HI2.out HK.out HP.out HZZ.out
          rw [HNV.out] at hsy5003
          refine hsy5003.mono ?_
          clear hsy5003
          rintro e' wn5003 ⟨rfl, hb5003'⟩
          have hb5003 := hb5003'.out
          clear hb5003'
          go_simp
          have hS5003 : Below (wf.heap.size) wf wn5003 := (hH0).trans (hb5003.mono (hH0).size)
          refine hK.out _ _ hS5003 (fun hH5003 => ?_)
          have hH5003 : Below (wf.heap.size) wf wn5003 := hH5003
          clear hK K hS5003
          try simp only [Act.put, List.setIfInBounds_toArray, List.set_cons_zero, List.set_cons_succ]
          refine wpAnyH_take (i := 3) (oi := { dst := some 62, op := Op.binOp BinOp.neq 3 (Operand.tmp 60) (Operand.tmp 61) 3, type := 4, pos := "law.go:120", after := #[{ on := 1, ground := Ground.data }, { on := 2, ground := Ground.data }], guard := none }) (v := ?tkv5004) rfl (by kernel_rfl) (by kernel_rfl) (by kernel_rfl) (fun _ _ _ h => h) (Or.inl ⟨by rfl, ?tky5004⟩) hH5003 ?tkr5004
          case tky5004 => (intro w' hSw; clear hSw; go_simp; try with_reducible rfl)
          try simp only [Act.put, List.setIfInBounds_toArray, List.set_cons_zero, List.set_cons_succ]
          refine wpAnyH_take (i := 4) (oi := { dst := some 63, op := Op.move (Operand.tmp 62), type := 4, pos := "law.go:120", after := #[{ on := 3, ground := Ground.data }, { on := 1, ground := Ground.chain }], guard := none }) (v := ?tkv5005) rfl (by kernel_rfl) (by kernel_rfl) (by kernel_rfl) (fun _ _ _ h => h) (Or.inl ⟨by rfl, ?tky5005⟩) hH5003 ?tkr5005
          case tky5005 => (intro w' hSw; clear hSw; go_simp; try with_reducible rfl)
          try simp only [Act.put, List.setIfInBounds_toArray, List.set_cons_zero, List.set_cons_succ]
          refine wpAnyH_take (i := 5) (oi := { dst := some 64, op := Op.move (Operand.tmp 5), type := 26, pos := "law.go:120", after := #[{ on := 4, ground := Ground.guard }], guard := some (4, false) }) (v := ?tkv5006) rfl (by kernel_rfl) (by kernel_rfl) (by kernel_rfl) (fun _ _ _ h => h) (Or.inl ⟨by rfl, ?tky5006⟩) hH5003 ?tkr5006
          case tky5006 => (intro w' hSw; clear hSw; go_simp; try with_reducible rfl)
          try simp only [Act.put, List.setIfInBounds_toArray, List.set_cons_zero, List.set_cons_succ]
          refine wpAnyH_take (i := 7) (oi := { dst := some 66, op := Op.fieldAddr 35 (Operand.tmp 2) 1, type := 0, pos := "law.go:120", after := #[{ on := 4, ground := Ground.guard }], guard := some (4, false) }) (v := ?tkv5007) rfl (by kernel_rfl) (by kernel_rfl) (by kernel_rfl) (fun _ _ _ h => h) (Or.inl ⟨by rfl, ?tky5007⟩) hH5003 ?tkr5007
          case tky5007 => (intro w' hSw; clear hSw; go_simp; try with_reducible rfl)
          try simp only [Act.put, List.setIfInBounds_toArray, List.set_cons_zero, List.set_cons_succ]
          refine wpAnyH_take (i := 8) (oi := { dst := some 67, op := Op.load 3 (Operand.tmp 66), type := 3, pos := "law.go:120", after := #[{ on := 7, ground := Ground.data }, { on := 4, ground := Ground.guard }], guard := some (4, false) }) (v := ?tkv5008) rfl (by kernel_rfl) (by kernel_rfl) (by kernel_rfl) (fun _ _ _ h => h) (Or.inl ⟨by rfl, ?tky5008⟩) hH5003 ?tkr5008
          case tky5008 => (intro w' hSw; have z0 := HFF.out _ hSw; clear hSw; go_simp; try with_reducible rfl)
          try simp only [Act.put, List.setIfInBounds_toArray, List.set_cons_zero, List.set_cons_succ]
          refine wpAnyH_take (i := 9) (oi := { dst := some 68, op := Op.move (Operand.tmp 6), type := 3, pos := "law.go:120", after := #[{ on := 4, ground := Ground.guard }], guard := some (4, false) }) (v := ?tkv5009) rfl (by kernel_rfl) (by kernel_rfl) (by kernel_rfl) (fun _ _ _ h => h) (Or.inl ⟨by rfl, ?tky5009⟩) hH5003 ?tkr5009
          case tky5009 => (intro w' hSw; clear hSw; go_simp; try with_reducible rfl)
          try simp only [Act.put, List.setIfInBounds_toArray, List.set_cons_zero, List.set_cons_succ]
          refine wpAnyH_take (i := 10) (oi := { dst := some 69, op := Op.binOp BinOp.sub 3 (Operand.tmp 67) (Operand.tmp 68) 3, type := 3, pos := "law.go:120", after := #[{ on := 8, ground := Ground.data }, { on := 9, ground := Ground.data }, { on := 4, ground := Ground.guard }], guard := some (4, false) }) (v := ?tkv5010) rfl (by kernel_rfl) (by kernel_rfl) (by kernel_rfl) (fun _ _ _ h => h) (Or.inl ⟨by rfl, ?tky5010⟩) hH5003 ?tkr5010
          case tky5010 => (intro w' hSw; clear hSw; go_simp; try with_reducible rfl)
          try simp only [Act.put, List.setIfInBounds_toArray, List.set_cons_zero, List.set_cons_succ]
          refine wpAnyH_ready (rs := [6]) (by kernel_rfl) (by simp) ?_
          refine AllReadyH.cons (o := { dst := some 65, op := Op.call { callee := Callee.value (Operand.func 11), args := #[Operand.tmp 64], argTypes := #[26] }, type := 3, pos := "law.go:120", after := #[{ on := 5, ground := Ground.data }, { on := 4, ground := Ground.chain }, { on := 4, ground := Ground.guard }], guard := some (4, false) }) rfl (fun K hK => ?_) AllReadyH.nil
          go_simp
          have hsy5011 := taken_any FD ga s kk P Z t2 M2 wn5003 (IsDec.below hd2 (hH5003))
          rw [HTE.out] at hsy5011
          refine hsy5011.mono ?_
          clear hsy5011
          rintro e' wx5011 ⟨rfl, rfl⟩
          go_simp
          have hS5011 : Below (wf.heap.size) wf wn5003 := hH5003
          refine hK.out _ _ hS5011 (fun hH5011 => ?_)
          have hH5011 : Below (wf.heap.size) wf wn5003 := hH5011
          clear hK K hS5011
          try simp only [Act.put, List.setIfInBounds_toArray, List.set_cons_zero, List.set_cons_succ]
          refine wpAnyH_take (i := 11) (oi := { dst := some 70, op := Op.binOp BinOp.neq 3 (Operand.tmp 65) (Operand.tmp 69) 3, type := 4, pos := "law.go:120", after := #[{ on := 6, ground := Ground.data }, { on := 10, ground := Ground.data }, { on := 4, ground := Ground.guard }], guard := some (4, false) }) (v := ?tkv5012) rfl (by kernel_rfl) (by kernel_rfl) (by kernel_rfl) (fun _ _ _ h => h) (Or.inl ⟨by rfl, ?tky5012⟩) hH5011 ?tkr5012
          case tky5012 => (intro w' hSw; clear hSw; go_simp; try with_reducible rfl)
          try simp only [Act.put, List.setIfInBounds_toArray, List.set_cons_zero, List.set_cons_succ]
          refine wpAnyH_take (i := 12) (oi := { dst := some 71, op := Op.pick (Operand.tmp 63) (Operand.const (Value.bool true)) (Operand.tmp 70), type := 4, pos := "law.go:120", after := #[{ on := 4, ground := Ground.data }, { on := 11, ground := Ground.data }], guard := none }) (v := ?tkv5013) rfl (by kernel_rfl) (by kernel_rfl) (by kernel_rfl) (fun _ _ _ h => h) (Or.inl ⟨by rfl, ?tky5013⟩) hH5011 ?tkr5013
          case tky5013 => (intro w' hSw; clear hSw; go_simp; try with_reducible rfl)
          try simp only [Act.put, List.setIfInBounds_toArray, List.set_cons_zero, List.set_cons_succ]
          refine wpAnyH_take (i := 13) (oi := { dst := some 72, op := Op.move (Operand.tmp 71), type := 4, pos := "law.go:120", after := #[{ on := 12, ground := Ground.data }, { on := 6, ground := Ground.chain }], guard := none }) (v := ?tkv5014) rfl (by kernel_rfl) (by kernel_rfl) (by kernel_rfl) (fun _ _ _ h => h) (Or.inl ⟨by rfl, ?tky5014⟩) hH5011 ?tkr5014
          case tky5014 => (intro w' hSw; clear hSw; go_simp; try with_reducible rfl)
          try simp only [Act.put, List.setIfInBounds_toArray, List.set_cons_zero, List.set_cons_succ]
          refine wpAnyH_take (i := 14) (oi := { dst := some 73, op := Op.move (Operand.tmp 6), type := 3, pos := "law.go:120", after := #[{ on := 13, ground := Ground.guard }], guard := some (13, false) }) (v := ?tkv5015) rfl (by kernel_rfl) (by kernel_rfl) (by kernel_rfl) (fun _ _ _ h => h) (Or.inl ⟨by rfl, ?tky5015⟩) hH5011 ?tkr5015
          case tky5015 => (intro w' hSw; clear hSw; go_simp; try with_reducible rfl)
          try simp only [Act.put, List.setIfInBounds_toArray, List.set_cons_zero, List.set_cons_succ]
          refine wpAnyH_take (i := 15) (oi := { dst := some 74, op := Op.binOp BinOp.lss 3 (Operand.tmp 73) (Operand.const (Value.int IntKind.i64 0)) 3, type := 4, pos := "law.go:120", after := #[{ on := 14, ground := Ground.data }, { on := 13, ground := Ground.guard }], guard := some (13, false) }) (v := ?tkv5016) rfl (by kernel_rfl) (by kernel_rfl) (by kernel_rfl) (fun _ _ _ h => h) (Or.inl ⟨by rfl, ?tky5016⟩) hH5011 ?tkr5016
          case tky5016 => (intro w' hSw; clear hSw; go_simp; try with_reducible rfl)
          try simp only [Act.put, List.setIfInBounds_toArray, List.set_cons_zero, List.set_cons_succ]
          refine wpAnyH_take (i := 16) (oi := { dst := some 75, op := Op.pick (Operand.tmp 72) (Operand.const (Value.bool true)) (Operand.tmp 74), type := 4, pos := "law.go:120", after := #[{ on := 13, ground := Ground.data }, { on := 15, ground := Ground.data }], guard := none }) (v := ?tkv5017) rfl (by kernel_rfl) (by kernel_rfl) (by kernel_rfl) (fun _ _ _ h => h) (Or.inl ⟨by rfl, ?tky5017⟩) hH5011 ?tkr5017
          case tky5017 => (intro w' hSw; clear hSw; go_simp; try with_reducible rfl)
          try simp only [Act.put, List.setIfInBounds_toArray, List.set_cons_zero, List.set_cons_succ]
          refine wpAnyH_done (by kernel_rfl) ?_ _
          refine NoPanic.normal ?_
          have S9 := Lib.hid (S8.out.below (keeps_dec _ _ _ _ _ _ _) keeps_no keeps_no (hH5011))
          go_wp2_with fail
          go_roundw
          case rel => exact ⟨i + 1, t2, nd2, M2, by omega, by go_num, hnd2, by go_num, HI2, HR2, S9⟩
          case measure => simp [intOf]; omega
        | false =>
          obtain ⟨t2, ht2e⟩ : ∃ t2, t2 = t := ⟨_, rfl⟩
          obtain ⟨nd2, hnde⟩ : ∃ nd2, nd2 = nd := ⟨_, rfl⟩
          have S8 : Hid (Sep3 (decO ga s kk P Z M2 t2) noObj noObj w3 wf) := Lib.hid (by rw [ht2e]; exact S7.out)
          have HR2 : Hid (rankM M2 = P + t2) := Lib.hid (by rw [ht2e]; have := HRM.out; simp at hr2; omega)
          have hnd2 : nd2 + t2 = kk := by omega
          rw [← hnde]
          clear S7 hr2 hnde ht2e
          obtain ⟨FD, hd2, _, _⟩ := S8.out.first keeps_no keeps_no
          have HNV : Hid ((kk : Int) + (P : Int) - (rankM M2 : Int) = (nd2 : Int)) := Lib.hid (by rw [HR2.out]; omega)
          have HFF : Hid (∀ W, Below wf.heap.size wf W → (W.cell? ⟨w.heap.size, 0, none⟩ = some (.int .u32 (s : Int)) ∧ W.cell? ⟨w.heap.size, 1, none⟩ = some (.int .i64 (kk : Int)) ∧ W.cell? ⟨w.heap.size, 2, none⟩ = some (.int .i64 (P : Int)) ∧ W.cell? ⟨w.heap.size, 3, none⟩ = some (.int .i64 (Z : Int))) ∧ True) := Lib.hid fun W hW => HFX.out W (S8.out.b.trans (hW.mono S8.out.b.size))
          have hw9 : IntKind.i64.wrap ((kk : Int) - (nd2 : Int)) = (kk : Int) - (nd2 : Int) := by rw [IntKind.wrap_i64]; have := HK.out; omega
          have HTE : Hid ((t2 : Int) = (kk : Int) - (nd2 : Int)) := Lib.hid (by omega)
          have hk64 : (kk : Int) ≤ 64 := by have := HK.out; omega
          have hnk : (nd2 : Int) ≤ (kk : Int) := by omega
          have hn9 : ((nd2 : Int) != (nd2 : Int)) = false := by simp
          have hn8 : (((kk : Int) - (nd2 : Int)) != ((kk : Int) - (nd2 : Int))) = false := by simp
          have hn7 : ¬ ((nd2 : Int) < 0) := by omega
          go_upto_region 16 with fail
          refine wp_region_noPanic ?_
          refine wp_region_held_drew (S := (fun W => Below (wf.heap.size) wf W)) (by kernel_rfl) (Below.refl _ _).drew (fun hH0 => ?_)
          have hH0 : Below (wf.heap.size) wf wf.drew := hH0
          generalize wf.drew = wd6000 at *
          refine wpAnyH_take (i := 0) (oi := { dst := some 59, op := Op.move (Operand.tmp 5), type := 26, pos := "law.go:120", after := #[], guard := none }) (v := ?tkv6001) rfl (by kernel_rfl) (by kernel_rfl) (by kernel_rfl) (fun _ _ _ h => h) (Or.inl ⟨by rfl, ?tky6001⟩) hH0 ?tkr6001
          case tky6001 => (intro w' hSw; clear hSw; go_simp; try with_reducible rfl)
          try simp only [Act.put, List.setIfInBounds_toArray, List.set_cons_zero, List.set_cons_succ]
          refine wpAnyH_take (i := 2) (oi := { dst := some 61, op := Op.move (Operand.tmp 6), type := 3, pos := "law.go:120", after := #[], guard := none }) (v := ?tkv6002) rfl (by kernel_rfl) (by kernel_rfl) (by kernel_rfl) (fun _ _ _ h => h) (Or.inl ⟨by rfl, ?tky6002⟩) hH0 ?tkr6002
          case tky6002 => (intro w' hSw; clear hSw; go_simp; try with_reducible rfl)
          try simp only [Act.put, List.setIfInBounds_toArray, List.set_cons_zero, List.set_cons_succ]
          refine wpAnyH_ready (rs := [1]) (by kernel_rfl) (by simp) ?_
          refine AllReadyH.cons (o := { dst := some 60, op := Op.call { callee := Callee.value (Operand.func 12), args := #[Operand.tmp 59], argTypes := #[26] }, type := 3, pos := "law.go:120", after := #[{ on := 0, ground := Ground.data }], guard := none }) rfl (fun K hK => ?_) AllReadyH.nil
          go_simp
          have hsy6003 := needs_any FD ga s kk P Z t2 M2 wd6000 (IsDec.below hd2 (hH0)) HI2.out HK.out HP.out HZZ.out
          rw [HNV.out] at hsy6003
          refine hsy6003.mono ?_
          clear hsy6003
          rintro e' wn6003 ⟨rfl, hb6003'⟩
          have hb6003 := hb6003'.out
          clear hb6003'
          go_simp
          have hS6003 : Below (wf.heap.size) wf wn6003 := (hH0).trans (hb6003.mono (hH0).size)
          refine hK.out _ _ hS6003 (fun hH6003 => ?_)
          have hH6003 : Below (wf.heap.size) wf wn6003 := hH6003
          clear hK K hS6003
          try simp only [Act.put, List.setIfInBounds_toArray, List.set_cons_zero, List.set_cons_succ]
          refine wpAnyH_take (i := 3) (oi := { dst := some 62, op := Op.binOp BinOp.neq 3 (Operand.tmp 60) (Operand.tmp 61) 3, type := 4, pos := "law.go:120", after := #[{ on := 1, ground := Ground.data }, { on := 2, ground := Ground.data }], guard := none }) (v := ?tkv6004) rfl (by kernel_rfl) (by kernel_rfl) (by kernel_rfl) (fun _ _ _ h => h) (Or.inl ⟨by rfl, ?tky6004⟩) hH6003 ?tkr6004
          case tky6004 => (intro w' hSw; clear hSw; go_simp; try with_reducible rfl)
          try simp only [Act.put, List.setIfInBounds_toArray, List.set_cons_zero, List.set_cons_succ]
          refine wpAnyH_take (i := 4) (oi := { dst := some 63, op := Op.move (Operand.tmp 62), type := 4, pos := "law.go:120", after := #[{ on := 3, ground := Ground.data }, { on := 1, ground := Ground.chain }], guard := none }) (v := ?tkv6005) rfl (by kernel_rfl) (by kernel_rfl) (by kernel_rfl) (fun _ _ _ h => h) (Or.inl ⟨by rfl, ?tky6005⟩) hH6003 ?tkr6005
          case tky6005 => (intro w' hSw; clear hSw; go_simp; try with_reducible rfl)
          try simp only [Act.put, List.setIfInBounds_toArray, List.set_cons_zero, List.set_cons_succ]
          refine wpAnyH_take (i := 5) (oi := { dst := some 64, op := Op.move (Operand.tmp 5), type := 26, pos := "law.go:120", after := #[{ on := 4, ground := Ground.guard }], guard := some (4, false) }) (v := ?tkv6006) rfl (by kernel_rfl) (by kernel_rfl) (by kernel_rfl) (fun _ _ _ h => h) (Or.inl ⟨by rfl, ?tky6006⟩) hH6003 ?tkr6006
          case tky6006 => (intro w' hSw; clear hSw; go_simp; try with_reducible rfl)
          try simp only [Act.put, List.setIfInBounds_toArray, List.set_cons_zero, List.set_cons_succ]
          refine wpAnyH_take (i := 7) (oi := { dst := some 66, op := Op.fieldAddr 35 (Operand.tmp 2) 1, type := 0, pos := "law.go:120", after := #[{ on := 4, ground := Ground.guard }], guard := some (4, false) }) (v := ?tkv6007) rfl (by kernel_rfl) (by kernel_rfl) (by kernel_rfl) (fun _ _ _ h => h) (Or.inl ⟨by rfl, ?tky6007⟩) hH6003 ?tkr6007
          case tky6007 => (intro w' hSw; clear hSw; go_simp; try with_reducible rfl)
          try simp only [Act.put, List.setIfInBounds_toArray, List.set_cons_zero, List.set_cons_succ]
          refine wpAnyH_take (i := 8) (oi := { dst := some 67, op := Op.load 3 (Operand.tmp 66), type := 3, pos := "law.go:120", after := #[{ on := 7, ground := Ground.data }, { on := 4, ground := Ground.guard }], guard := some (4, false) }) (v := ?tkv6008) rfl (by kernel_rfl) (by kernel_rfl) (by kernel_rfl) (fun _ _ _ h => h) (Or.inl ⟨by rfl, ?tky6008⟩) hH6003 ?tkr6008
          case tky6008 => (intro w' hSw; have z0 := HFF.out _ hSw; clear hSw; go_simp; try with_reducible rfl)
          try simp only [Act.put, List.setIfInBounds_toArray, List.set_cons_zero, List.set_cons_succ]
          refine wpAnyH_take (i := 9) (oi := { dst := some 68, op := Op.move (Operand.tmp 6), type := 3, pos := "law.go:120", after := #[{ on := 4, ground := Ground.guard }], guard := some (4, false) }) (v := ?tkv6009) rfl (by kernel_rfl) (by kernel_rfl) (by kernel_rfl) (fun _ _ _ h => h) (Or.inl ⟨by rfl, ?tky6009⟩) hH6003 ?tkr6009
          case tky6009 => (intro w' hSw; clear hSw; go_simp; try with_reducible rfl)
          try simp only [Act.put, List.setIfInBounds_toArray, List.set_cons_zero, List.set_cons_succ]
          refine wpAnyH_take (i := 10) (oi := { dst := some 69, op := Op.binOp BinOp.sub 3 (Operand.tmp 67) (Operand.tmp 68) 3, type := 3, pos := "law.go:120", after := #[{ on := 8, ground := Ground.data }, { on := 9, ground := Ground.data }, { on := 4, ground := Ground.guard }], guard := some (4, false) }) (v := ?tkv6010) rfl (by kernel_rfl) (by kernel_rfl) (by kernel_rfl) (fun _ _ _ h => h) (Or.inl ⟨by rfl, ?tky6010⟩) hH6003 ?tkr6010
          case tky6010 => (intro w' hSw; clear hSw; go_simp; try with_reducible rfl)
          try simp only [Act.put, List.setIfInBounds_toArray, List.set_cons_zero, List.set_cons_succ]
          refine wpAnyH_ready (rs := [6]) (by kernel_rfl) (by simp) ?_
          refine AllReadyH.cons (o := { dst := some 65, op := Op.call { callee := Callee.value (Operand.func 11), args := #[Operand.tmp 64], argTypes := #[26] }, type := 3, pos := "law.go:120", after := #[{ on := 5, ground := Ground.data }, { on := 4, ground := Ground.chain }, { on := 4, ground := Ground.guard }], guard := some (4, false) }) rfl (fun K hK => ?_) AllReadyH.nil
          go_simp
          have hsy6011 := taken_any FD ga s kk P Z t2 M2 wn6003 (IsDec.below hd2 (hH6003))
          rw [HTE.out] at hsy6011
          refine hsy6011.mono ?_
          clear hsy6011
          rintro e' wx6011 ⟨rfl, rfl⟩
          go_simp
          have hS6011 : Below (wf.heap.size) wf wn6003 := hH6003
          refine hK.out _ _ hS6011 (fun hH6011 => ?_)
          have hH6011 : Below (wf.heap.size) wf wn6003 := hH6011
          clear hK K hS6011
          try simp only [Act.put, List.setIfInBounds_toArray, List.set_cons_zero, List.set_cons_succ]
          refine wpAnyH_take (i := 11) (oi := { dst := some 70, op := Op.binOp BinOp.neq 3 (Operand.tmp 65) (Operand.tmp 69) 3, type := 4, pos := "law.go:120", after := #[{ on := 6, ground := Ground.data }, { on := 10, ground := Ground.data }, { on := 4, ground := Ground.guard }], guard := some (4, false) }) (v := ?tkv6012) rfl (by kernel_rfl) (by kernel_rfl) (by kernel_rfl) (fun _ _ _ h => h) (Or.inl ⟨by rfl, ?tky6012⟩) hH6011 ?tkr6012
          case tky6012 => (intro w' hSw; clear hSw; go_simp; try with_reducible rfl)
          try simp only [Act.put, List.setIfInBounds_toArray, List.set_cons_zero, List.set_cons_succ]
          refine wpAnyH_take (i := 12) (oi := { dst := some 71, op := Op.pick (Operand.tmp 63) (Operand.const (Value.bool true)) (Operand.tmp 70), type := 4, pos := "law.go:120", after := #[{ on := 4, ground := Ground.data }, { on := 11, ground := Ground.data }], guard := none }) (v := ?tkv6013) rfl (by kernel_rfl) (by kernel_rfl) (by kernel_rfl) (fun _ _ _ h => h) (Or.inl ⟨by rfl, ?tky6013⟩) hH6011 ?tkr6013
          case tky6013 => (intro w' hSw; clear hSw; go_simp; try with_reducible rfl)
          try simp only [Act.put, List.setIfInBounds_toArray, List.set_cons_zero, List.set_cons_succ]
          refine wpAnyH_take (i := 13) (oi := { dst := some 72, op := Op.move (Operand.tmp 71), type := 4, pos := "law.go:120", after := #[{ on := 12, ground := Ground.data }, { on := 6, ground := Ground.chain }], guard := none }) (v := ?tkv6014) rfl (by kernel_rfl) (by kernel_rfl) (by kernel_rfl) (fun _ _ _ h => h) (Or.inl ⟨by rfl, ?tky6014⟩) hH6011 ?tkr6014
          case tky6014 => (intro w' hSw; clear hSw; go_simp; try with_reducible rfl)
          try simp only [Act.put, List.setIfInBounds_toArray, List.set_cons_zero, List.set_cons_succ]
          refine wpAnyH_take (i := 14) (oi := { dst := some 73, op := Op.move (Operand.tmp 6), type := 3, pos := "law.go:120", after := #[{ on := 13, ground := Ground.guard }], guard := some (13, false) }) (v := ?tkv6015) rfl (by kernel_rfl) (by kernel_rfl) (by kernel_rfl) (fun _ _ _ h => h) (Or.inl ⟨by rfl, ?tky6015⟩) hH6011 ?tkr6015
          case tky6015 => (intro w' hSw; clear hSw; go_simp; try with_reducible rfl)
          try simp only [Act.put, List.setIfInBounds_toArray, List.set_cons_zero, List.set_cons_succ]
          refine wpAnyH_take (i := 15) (oi := { dst := some 74, op := Op.binOp BinOp.lss 3 (Operand.tmp 73) (Operand.const (Value.int IntKind.i64 0)) 3, type := 4, pos := "law.go:120", after := #[{ on := 14, ground := Ground.data }, { on := 13, ground := Ground.guard }], guard := some (13, false) }) (v := ?tkv6016) rfl (by kernel_rfl) (by kernel_rfl) (by kernel_rfl) (fun _ _ _ h => h) (Or.inl ⟨by rfl, ?tky6016⟩) hH6011 ?tkr6016
          case tky6016 => (intro w' hSw; clear hSw; go_simp; try with_reducible rfl)
          try simp only [Act.put, List.setIfInBounds_toArray, List.set_cons_zero, List.set_cons_succ]
          refine wpAnyH_take (i := 16) (oi := { dst := some 75, op := Op.pick (Operand.tmp 72) (Operand.const (Value.bool true)) (Operand.tmp 74), type := 4, pos := "law.go:120", after := #[{ on := 13, ground := Ground.data }, { on := 15, ground := Ground.data }], guard := none }) (v := ?tkv6017) rfl (by kernel_rfl) (by kernel_rfl) (by kernel_rfl) (fun _ _ _ h => h) (Or.inl ⟨by rfl, ?tky6017⟩) hH6011 ?tkr6017
          case tky6017 => (intro w' hSw; clear hSw; go_simp; try with_reducible rfl)
          try simp only [Act.put, List.setIfInBounds_toArray, List.set_cons_zero, List.set_cons_succ]
          refine wpAnyH_done (by kernel_rfl) ?_ _
          refine NoPanic.normal ?_
          have S9 := Lib.hid (S8.out.below (keeps_dec _ _ _ _ _ _ _) keeps_no keeps_no (hH6011))
          go_wp2_with fail
          go_roundw
          case rel => exact ⟨i + 1, t2, nd2, M2, by omega, by go_num, hnd2, by go_num, HI2, HR2, S9⟩
          case measure => simp [intOf]; omega
      · obtain rfl : m = i := by omega
        go_wp2_with fail
        refine (awake12_any wr (HDT.out wr SR.out.b)).mono ?_
        rintro e w9 ⟨rfl, hb9⟩
        have HB9 := Lib.hid (HB3.out.trans ((SR.out.b.trans (hb9.out.mono SR.out.b.size)).mono HB3.out.size))
        clear hb9
        go_wp2_with fail
        go_ret
        exact ⟨rfl, HB9.out⟩
end Go.Proofs.YtpmmolamdlcmnaaGreatDoor.Dc
namespace Go.Proofs.YtpmmolamdlcmnaaGreatDoor
open Go.RowKit Go.ChangeShapes Go.WideShapes Go.ChangeAt Vc
set_option maxRecDepth 100000 in
theorem decodeCounts_lifted (os : Os) (started : os.Started) (H : Type) (enc : TypeId × Value → H) :
    ReturnsInHanded {} Tryz.checked os 5 .any (fun w args => (Rows.decodeCountsSpec.pre enc Tryz.prog Tryz.f5 [] false w args ∧ laidMetH Tryz.prog LB w) ∧ sizedMet enc Tryz.prog Tryz.f5 (OpenSpec.ofChange Rows.decodeCountsSpec) false w args) (Rows.decodeCountsSpec.post enc Tryz.prog Tryz.f5 false true false false) := by
  refine law_lift_laid (C := Tryz.checked) (tb := 4) (X := fun w _ => laidMetH Tryz.prog LB w) (fun _ _ _ hh h => h.of_heap hh) Tryz.own started (by kernel_rfl) Tryz.func5
    (ChangeSpec.witness_shaped (enc := enc) (C := Tryz.checked) (os := os) (X := fun w _ => laidMetH Tryz.prog LB w) false (World.doorLaid Tryz.prog 400 os) #[.agg #[.int .u32 0, .int .i64 0, .int .i64 0, .int .i64 0], .slice none 0 0] 8 rfl (World.shaped_of_RefB (by kernel_rfl) (by kernel_rfl)) (by kernel_rfl) (by kernel_rfl) (by kernel_rfl) (door_metB os _)) Tryz.laidOut (by kernel_rfl) rfl rfl Tryz.underlying4 ?_ ?_
  · intro ds hds
    match ds, hds with
    | [_, _], _ => rfl
  intro W base args ds p hval0 hA0 _ _ hsz0 hX0
  have hval : ∀ (j : Nat) t v, Tryz.f5.params[j]? = some t → args[j]? = some v → Value.okWide Tryz.prog W .any base t v := hval0
  have hA : DataW.TrodAll enc Tryz.prog W 0 (fun _ => true) true Tryz.f5.params.toList args.toList ds p := hA0
  rw [Tryz.params5] at hA hval
  obtain ⟨v0, v1, d0, d1, p0, p1, rfl, rfl, rfl, h0, h1⟩ := trodAll_two hA
  obtain ⟨s0, K0, L0, Z0, rfl, hps0, hpK0, hpL0, hpZ0⟩ := open_par Tryz.underlying35 ⟨rfl, rfl, rfl, rfl⟩ Tryz.underlying22 Tryz.underlying3 Tryz.underlying3 Tryz.underlying3 ⟨by kernel_rfl, by kernel_rfl, by kernel_rfl, by kernel_rfl⟩ (by kernel_rfl) (hval 0 35 v0 rfl rfl) h0
  obtain ⟨A1, n1, cap1, C1, rfl, hnc1, hcm1, hcs1⟩ := open_c2s Tryz.underlying51 Tryz.underlying25 ⟨rfl, rfl⟩ Tryz.underlying22 Tryz.underlying23 Tryz.underlying5 Tryz.cells5 ⟨by kernel_rfl, by kernel_rfl⟩ (by kernel_rfl) (hval 1 51 v1 rfl rfl) h1
  exact Dc.dccnt_walk s0 n1 cap1 K0 L0 Z0 A1 C1 W (dtab_of_laid hX0) hps0 hcs1 ⟨hnc1, hcm1⟩

theorem decodeCounts_holds : Rows.DecodeCountsSaid :=
  OpenClaim.holds_of_wide 5 Tryz.f5 rfl rfl rfl rfl rfl rfl rfl ⟨rfl, rfl, rfl, rfl, rfl⟩ rfl rfl rfl rfl rfl (by kernel_rfl) Tryz.func5 (by kernel_rfl)
    (of_decide_eq_true (by kernel_rfl)) (by unfold Func.isWrapper; rw [if_neg (of_decide_eq_false (by kernel_rfl))]; exact ⟨rfl, rfl⟩)
    (fun os started H enc _ => decodeCounts_lifted os started H enc)

theorem decodeCounts_card : Rows.DecodeCountsCardSaid :=
  Claim7.holds_tied_plain_at .later [] [.data] true _ false
    decodeCounts_holds (fun _ h => by cases h) (by kernel_rfl) (fun _ h => by cases h) decodeCounts_row_tie rfl ⟨rfl, rfl⟩ (by kernel_rfl) rfl
    (fun f fn hf hfn => by
      obtain rfl : f = 5 := Option.some.inj ((show Tryz.prog.funcNamed "downpour/downpourlaw12.DecodeCounts" = some 5 by kernel_rfl).symm.trans hf) |>.symm
      obtain rfl : fn = Tryz.f5 := (Option.some.inj (Tryz.func5.symm.trans hfn)).symm
      exact ⟨by kernel_rfl, fun j t ht => by
        rw [Tryz.params5] at ht
        have hm : t ∈ [35, 51] := by simpa using Array.mem_of_getElem? ht
        have hall : ([35, 51].all fun u => !Tryz.prog.wantsStandIn u) = true := by kernel_rfl
        exact (show Tryz.prog.wantsStandIn t = false by simpa using List.all_eq_true.1 hall t hm)⟩)
    (by kernel_rfl)
end Go.Proofs.YtpmmolamdlcmnaaGreatDoor
