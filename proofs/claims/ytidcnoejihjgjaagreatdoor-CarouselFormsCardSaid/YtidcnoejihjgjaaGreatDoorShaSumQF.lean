/- digest.Sum: by contract. -/
import Derived.Test.YtidcnoejihjgjaaGreatDoorZOQF
import Derived.Test.YtidcnoejihjgjaaGreatDoorZAQF
namespace Go.Proofs.YtidcnoejihjgjaaGreatDoor.Sh
open Go.RowKit
def hs0 : Array Value := ((List.range 74).map (hcell Sha.first.get (List.replicate 64 0) 0 0)).toArray
def hz0 : Array Value := ((List.range 74).map (hcell (fun _ => 0) (List.replicate 64 0) 0 0)).toArray
theorem hz0_zero (w : World) : (zeroValue 97).run Tryz.prog w = .ok (.agg hz0) w := by kernel_rfl
theorem hs0_size : hs0.size = 74 := by unfold hs0; rw [List.size_toArray, List.length_map, List.length_range]
theorem hz0_size : hz0.size = 74 := by unfold hz0; rw [List.size_toArray, List.length_map, List.length_range]
theorem hs0_get (i : Nat) (h : i < 74) : hs0[i]? = some (hcell Sha.first.get (List.replicate 64 0) 0 0 i) := by
  unfold hs0
  rw [List.getElem?_toArray, List.getElem?_map, List.getElem?_range h]; rfl
theorem hcell_one (f : Nat → Nat) (bl : List UInt8) (wt : Nat) (tot : Int) (i : Nat) : (hcell f bl wt tot i).oneCell' = true := by
  unfold hcell; split
  · rfl
  · split
    · rfl
    · split <;> rfl
theorem hs0_one : hs0.all (·.oneCell') = true := by
  rw [Array.all_eq_true]
  intro i hi
  have := hs0_get i (by rw [hs0_size] at hi; exact hi)
  rw [Array.getElem?_eq_getElem hi] at this
  injection this with this
  rw [this]; exact hcell_one _ _ _ _ _
theorem first_range {w : World} (h : Tab w) : w.rangeAt 0 0 (s8v Sha.first).toList := by
  intro j v hv
  rw [Nat.zero_add]
  have hj : j < 8 := by have := (List.getElem?_eq_some_iff.1 hv).1; simpa [s8v_size] using this
  rw [h.2.1 j hj, ← s8v_get _ j hj, ← hv, Array.getElem?_toList]
theorem start_is (w : World) : HIs (w.alloc (.cells hs0 97)) w.heap.size Sha.start 0 :=
  ⟨hs0, heap_alloc_new _ _, hs0_size, hs0_get⟩
def SumOk (l : List UInt8) (w : World) (e : Ending) (w' : World) : Prop :=
  ∃ A c, e = .returned (.slice A 32 c) ∧ Hid (w'.ownsRow w.heap.size 5 1 (.slice A 32 c) 32 (bv (Sha.D l))) ∧ Hid (Below w.heap.size w w')
theorem hs0_fold : Array.foldl (fun (cs : Array Value) (x : Value × Nat) => cs.setIfInBounds x.snd x.fst) hz0 (s8v Sha.first).zipIdx 0 8 = hs0 := by kernel_rfl
set_option maxRecDepth 100000 in
set_option maxHeartbeats 400000 in
theorem sum_walk (H0 Z0 F0 : Array Value) (B n cap : Nat) (A : Option Addr) (l : List UInt8) (w : World) (HT : Hid (Tab w)) (HR : Hid (w.rangeAt 0 0 F0.toList)) (HF : Hid (F0.toList.length = 8)) (hf8 : F0.size = 8) (hz74 : Z0.size = 74) (HL : Hid (Row w B A n (bv l))) (HN : Hid (l.length = n)) (HB : Hid (B ≤ w.heap.size)) (hn : n ≤ 100000000000000000)
    (HS0 : Hid (H0.size = 74)) (HZ0 : Hid (Z0.size = 74)) (HONE : Hid (H0.all (·.oneCell') = true)) (hfold : Array.foldl (fun (cs : Array Value) (x : Value × Nat) => cs.setIfInBounds x.snd x.fst) Z0 F0.zipIdx 0 8 = H0) (hsz : H0.size = 74)
    (hzero : ∀ w', (zeroValue 97).run Tryz.prog w' = .ok (.agg Z0) w') (HST : Hid (HIs (w.alloc (.cells H0 97)) w.heap.size Sha.start 0)) :
    Calls Tryz.prog 23 #[.slice A n cap] w (SumOk l w) := by
  have B1 := Lib.hid (heap_alloc_new w (.cells Z0 97))
  go_enter Tryz.func23, Tryz.ntmps23
  go_wp2_with (first
    | (with_reducible refine wpList_load_mid rfl _ (.global 0) rfl 0 0 rfl F0.toList _ HR.out Tryz.underlying63 rfl (by rw [HF.out]; kernel_rfl) ?_)
    | (with_reducible refine wpList_store_row rfl _ (.tmp 3) (.tmp 5) rfl w.heap.size H0 rfl rfl _ _ B1.out (by rw [HS0.out]; kernel_rfl) (by rw [HS0.out, HZ0.out]) HONE.out ?_; rw [World.setRow_alloc_new]))
  refine (take_any w.heap.size Sha.start 0 B n cap A l _ Sha.start_ok HST.out (HT.out.keep (by simp) (fun k hk => heap_alloc_old _ _ (by have := HT.out.1; omega))) HT.out.1 (HL.out.alloc HB.out _) HB.out (by omega)).mono ?_
  rintro e w1 ⟨rfl, hd⟩
  clear hfold hsz hf8 hz74
  have hb1 : Hid (Below w.heap.size w w1) := ((Below.refl _ _).alloc (Nat.le_refl _) _).grown hd.out.2 (by simp) (by intro g e; injection e with e; omega)
  rw [Nat.zero_add] at hd
  go_wp2_with fail
  refine (end_any w.heap.size n _ w1 (Sha.take_ok _ _ Sha.start_ok) hd.out.1 (HT.out.below hb1.out HT.out.1) HT.out.1 (by omega)).mono ?_
  rintro e w2 ⟨A2, c2, rfl, hown, hg2⟩
  have hD : Hid (Sha.D l = ((Sha.start.take l).done n).st.bytes) := by show Sha.D l = _; unfold Sha.D; rw [HN.out]
  have hb2 : Hid (Below w.heap.size w w2) := hb1.out.grown hg2.out hb1.out.size (by intro g e; injection e with e; omega)
  go_wp2_with fail
  go_ret
  refine ⟨A2, c2, rfl, ?_, hb2⟩
  rw [hD.out]
  exact own_base hown.out hb1.out.size
theorem sum_any (B n cap : Nat) (A : Option Addr) (l : List UInt8) (w : World) (ht : Tab w) (hl : Row w B A n (bv l)) (hB : B ≤ w.heap.size) (hn : n ≤ 100000000000000000) :
    Calls Tryz.prog 23 #[.slice A n cap] w (SumOk l w) :=
  sum_walk hs0 hz0 (s8v Sha.first) B n cap A l w ht (first_range ht) rfl rfl hz0_size hl hl.blen hB hn hs0_size hz0_size hs0_one hs0_fold hs0_size hz0_zero (start_is w)
theorem flat_take_le (es : List BRow) (k : Nat) : (flat (es.take k)).length ≤ (flat es).length := by
  have : flat es = flat (es.take k) ++ flat (es.drop k) := by simp only [flat, ← List.flatMap_append, List.take_append_drop]
  rw [this, List.length_append]; omega
theorem flat_step (es : List BRow) (k : Nat) (r : BRow) (h : es[k]? = some r) : flat (es.take (k + 1)) = flat (es.take k) ++ r.l := by
  obtain ⟨hl, e⟩ := List.getElem?_eq_some_iff.1 h
  rw [List.take_succ_eq_append_getElem hl, e, flat_snoc]
set_option maxRecDepth 100000 in
set_option maxHeartbeats 400000 in
theorem rows_walk (H0 Z0 F0 : Array Value) (B n cap : Nat) (A : Option Addr) (es : List BRow) (w : World) (HT : Hid (Tab w)) (HR : Hid (w.rangeAt 0 0 F0.toList)) (HF : Hid (F0.toList.length = 8)) (hf8 : F0.size = 8) (hz74 : Z0.size = 74) (HL : Hid (Rows2 w B A n es)) (HB : Hid (B ≤ w.heap.size)) (HM : Hid ((flat es).length ≤ 100000000000000000)) (hn : n ≤ 9223372036854775807)
    (HS0 : Hid (H0.size = 74)) (HZ0 : Hid (Z0.size = 74)) (HONE : Hid (H0.all (·.oneCell') = true)) (hfold : Array.foldl (fun (cs : Array Value) (x : Value × Nat) => cs.setIfInBounds x.snd x.fst) Z0 F0.zipIdx 0 8 = H0) (hsz : H0.size = 74)
    (hzero : ∀ w', (zeroValue 97).run Tryz.prog w' = .ok (.agg Z0) w') (HST : Hid (HIs (w.alloc (.cells H0 97)) w.heap.size Sha.start 0)) :
    Calls Tryz.prog 94 #[.slice A n cap] w (SumOk (flat es) w) := by
  have B1 := Lib.hid (heap_alloc_new w (.cells Z0 97))
  have HN : Hid (es.length = n) := by have := HL.out.1.1; rw [List.length_map] at this; exact this
  go_enter Tryz.func94, Tryz.ntmps94
  go_wp2_with (first
    | (with_reducible refine wpList_load_mid rfl _ (.global 0) rfl 0 0 rfl F0.toList _ HR.out Tryz.underlying63 rfl (by rw [HF.out]; kernel_rfl) ?_)
    | (with_reducible refine wpList_store_row rfl _ (.tmp 3) (.tmp 5) rfl w.heap.size H0 rfl rfl _ _ B1.out (by rw [HS0.out]; kernel_rfl) (by rw [HS0.out, HZ0.out]) HONE.out ?_; rw [World.setRow_alloc_new])
    | (with_reducible refine wpList_store_row rfl _ (.tmp 3) (.tmp 7) rfl w.heap.size H0 rfl rfl _ _ B1.out (by rw [HS0.out]; kernel_rfl) (by rw [HS0.out, HZ0.out]) HONE.out ?_; rw [World.setRow_alloc_new]))
  clear hfold hsz hf8 hz74
  have hA0 : Hid (HIs (w.alloc (.cells H0 97)) w.heap.size (Sha.start.take (flat (es.take 0))) (((flat (es.take 0)).length : Nat) : Int) ∧ Below w.heap.size w (w.alloc (.cells H0 97))) := ⟨HST.out, (Below.refl _ _).alloc (Nat.le_refl _) _⟩
  go_loopw [10] (fun i wr => ∃ k : Nat, k ≤ n ∧ i = .int .i64 k ∧ Hid (HIs wr w.heap.size (Sha.start.take (flat (es.take k))) (((flat (es.take k)).length : Nat) : Int) ∧ Below w.heap.size w wr)) (fun i _ => n - (intOf i).toNat)
  case atStart => exact ⟨0, by omega, rfl, hA0⟩
  case round =>
    obtain ⟨k, hk, rfl, hd⟩ := hrel
    clear hA0
    by_cases hlt : k < n
    · obtain ⟨b, o, rfl, r, hr, hcell, hrow⟩ := (HL.out.below (hd.out.2.mono HB.out)).at_ hlt
      have hst := Lib.hid (flat_step es k r hr)
      have hle := Lib.hid (flat_take_le es (k + 1))
      have hrl := Lib.hid hrow.blen
      have HRW := Lib.hid hrow
      clear hr hrow
      go_wp2_with fail
      refine (take_any w.heap.size _ _ B r.n r.c r.A r.l _ (Sha.take_ok _ _ Sha.start_ok) hd.out.1 (HT.out.below hd.out.2 HT.out.1) HT.out.1 HRW.out HB.out (by have h1 := hle.out; have h2 := HM.out; have h3 := hrl.out; rw [hst.out, List.length_append] at h1; omega)).mono ?_
      rintro e w2 ⟨rfl, hd2⟩
      have hD : Hid (HIs w2 w.heap.size (Sha.start.take (flat (es.take (k + 1)))) (((flat (es.take (k + 1))).length : Nat) : Int) ∧ Below w.heap.size w w2) := by
        refine ⟨?_, hd.out.2.grown hd2.out.2 hd.out.2.size (by intro g e; injection e with e; omega)⟩
        rw [hst.out, Sha.take_append, List.length_append, hrl.out]
        exact hd2.out.1
      clear hd hd2 hcell
      go_wp2_with fail
      go_roundw
      case rel => exact ⟨k + 1, by omega, by go_num, hD⟩
      case measure => simp [intOf]; omega
    · obtain rfl : n = k := by omega
      have hd1 := hd.out.1
      rw [List.take_of_length_le (by rw [HN.out]; omega)] at hd1
      have HD1 := Lib.hid hd1
      clear hd1
      go_wp2_with fail
      refine (end_any w.heap.size (flat es).length _ wr (Sha.take_ok _ _ Sha.start_ok) HD1.out (HT.out.below hd.out.2 HT.out.1) HT.out.1 (by have := HM.out; omega)).mono ?_
      rintro e w2 ⟨A2, c2, rfl, hown, hg2⟩
      have hb2 : Hid (Below w.heap.size w w2) := hd.out.2.grown hg2.out hd.out.2.size (by intro g e; injection e with e; omega)
      have hfin := Lib.hid (own_base hown.out hd.out.2.size)
      go_wp2_with fail
      go_ret
      exact ⟨A2, c2, rfl, hfin, hb2⟩
theorem rows_any (B n cap : Nat) (A : Option Addr) (es : List BRow) (w : World) (ht : Tab w) (hl : Rows2 w B A n es) (hB : B ≤ w.heap.size) (hm : (flat es).length ≤ 100000000000000000) (hn : n ≤ 9223372036854775807) :
    Calls Tryz.prog 94 #[.slice A n cap] w (SumOk (flat es) w) :=
  rows_walk hs0 hz0 (s8v Sha.first) B n cap A es w ht (first_range ht) rfl rfl hz0_size hl hB hm hn hs0_size hz0_size hs0_one hs0_fold hs0_size hz0_zero (start_is w)
end Go.Proofs.YtidcnoejihjgjaaGreatDoor.Sh
