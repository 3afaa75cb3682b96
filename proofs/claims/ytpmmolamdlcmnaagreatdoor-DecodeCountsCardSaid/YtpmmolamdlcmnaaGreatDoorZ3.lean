/- Contracts of the functions that the law calls, part 3. -/
import Derived.Lib.SliceRun
import Derived.Deep.RegionHeld3
import Derived.WalkKit
import Derived.OpenShut
import Derived.Test.YtpmmolamdlcmnaaGreatDoorZ2
namespace Go.Proofs.YtpmmolamdlcmnaaGreatDoor.Vc
open Go.RowKit
open VecM
/-- all places of a row -/
def Ls (X : Nat) : List Nat := L X 256
def firstI : List Nat → Int
  | [] => -1
  | c :: _ => (c : Int)
theorem Ls_words {X n : Nat} (hX : X < 2 ^ n) (hn : n ≤ 256) : L X (64 * mw n) = Ls X := by
  unfold Ls mw
  rw [L_more hX (by omega : n ≤ 64 * ((n + 63) / 64)), L_more hX hn]
theorem L_app (X a b : Nat) : ∃ r, L X (a + b) = L X a ++ r := by
  unfold L
  rw [List.range_add, List.filter_append]
  exact ⟨_, rfl⟩
theorem first_at {X k : Nat} (hk : k < 4) (h : L X (64 * k) = []) (h0 : word X k ≠ 0) : firstI (Ls X) = ((64 * k + Lib.ctz 64 (word X k) : Nat) : Int) := by
  obtain ⟨c, hc, hlt, h1, h2, h3⟩ := low_bits (word X k) h0 (word_lt X k)
  obtain ⟨r, hr⟩ := L_app X (64 * (k + 1)) (256 - 64 * (k + 1))
  rw [show 64 * (k + 1) + (256 - 64 * (k + 1)) = 256 by omega, L_step, h, L_low _ c 64 hlt h1 h2] at hr
  unfold Ls
  rw [hr, hc]; rfl
theorem step_nil {X k : Nat} (h : L X (64 * k) = []) (h0 : word X k = 0) : L X (64 * (k + 1)) = [] := by
  rw [L_step, h, h0, L_zero]; rfl
theorem L_none (X : Nat) : L X (64 * 0) = [] := rfl
set_option maxRecDepth 100000 in
theorem first_nil (w : World) : Calls Tryz.prog 40 #[.pointer none] w fun e w' => e = .returned (.int .i64 (-1)) ∧ w = w' := by
  go_enter Tryz.func40, Tryz.ntmps40
  go_wp2_with fail
  go_ret
  exact ⟨rfl, rfl⟩
set_option maxRecDepth 100000 in
set_option maxHeartbeats 1600000 in
theorem first_any (g h n X : Nat) (w : World) (v : VecAt w g h n X) (ht : DTab w) : Calls Tryz.prog 40 #[.pointer (some ⟨g, 0, none⟩)] w fun e w' => e = .returned (.int .i64 (firstI (Ls X))) ∧ w = w' := by
  obtain ⟨cap, h1, h2, c0, c1⟩ := v.cells
  have hm := mw_le v.1
  have HV := Lib.hid v
  have HT := Lib.hid ht
  clear v ht
  go_enter Tryz.func40, Tryz.ntmps40
  go_wp2_with fail
  go_loop [12] (fun i => ∃ k : Nat, k ≤ mw n ∧ i = .int .i64 k ∧ Hid (L X (64 * k) = [])) (fun i => mw n - (intOf i).toNat)
  case atStart => exact ⟨0, by omega, rfl, L_none X⟩
  case round =>
    obtain ⟨k, hk, rfl, hL⟩ := hrel
    by_cases hlt : k < mw n
    · have hc := HV.out.at_ hlt
      have hw := word_lt X k
      by_cases h0 : word X k = 0
      · have HN := Lib.hid (step_nil hL.out h0)
        rw [h0] at hc
        clear h0 hw hL
        go_wp2_with fail
        go_round
        case rel => exact ⟨k + 1, by omega, by go_num, HN⟩
        case measure => simp [intOf]; omega
      · have HF := Lib.hid (first_at (by omega) hL.out h0)
        have HZ := Lib.hid (tz_any (word X k) w HT.out hw h0)
        have hcz : Lib.ctz 64 (word X k) < 64 := (Lib.lowest_bit 64 _ h0 hw).2
        generalize Lib.ctz 64 (word X k) = z at *
        have hne : ((word X k : Int) != 0) = true := by simp; omega
        generalize word X k = x at *
        clear h0 hw hL
        go_wp2_with fail
        refine HZ.out.mono ?_
        rintro e w' ⟨rfl, rfl⟩
        go_wp2_with fail
        go_ret
        refine ⟨?_, rfl⟩
        rw [HF.out]
        show Ending.returned (.int .i64 _) = _
        congr 2
        push_cast
        omega
    · obtain rfl : mw n = k := by omega
      have HF : Hid (firstI (Ls X) = -1) := by
        show _ = _
        rw [← Ls_words HV.out.2.1 HV.out.1, hL.out]; rfl
      clear hL
      go_wp2_with fail
      go_ret
      exact ⟨by rw [HF.out]; rfl, rfl⟩
theorem L_le (X n : Nat) : (L X n).length ≤ n := by
  unfold L
  have := List.length_filter_le X.testBit (List.range n)
  rwa [List.length_range] at this
def ListOk (X : Nat) (w : World) (e : Ending) (w' : World) : Prop :=
  ∃ A c, e = .returned (.slice A (Ls X).length c) ∧ Hid (w'.ownsRow w.heap.size 3 1 (.slice A (Ls X).length c) (Ls X).length (nv ((Ls X).map fun i : Nat => (i : Int)))) ∧ Hid (Below w.heap.size w w')
theorem infoI64 : (Tryz.prog.info? 3).map (fun i => (i.zero, i.size, i.bytes)) = some (some (.int .i64 0), 1, 8) := by kernel_rfl
set_option maxRecDepth 100000 in
theorem list_nil (w : World) : Calls Tryz.prog 51 #[.pointer none] w fun e w' => e = .returned (.slice none 0 0) ∧ w = w' := by
  go_enter Tryz.func51, Tryz.ntmps51
  go_wp2_with fail
  go_ret
  exact ⟨rfl, rfl⟩
def ni (l : List Nat) : List Value := nv (l.map fun i : Nat => (i : Int))
theorem ni_append (l m : List Nat) : ni (l ++ m) = ni l ++ ni m := by simp [ni, nv]
theorem ni_length (l : List Nat) : (ni l).length = l.length := by simp [ni, nv]
theorem ni_one (l : List Nat) : ∀ u ∈ ni l, u.oneCell' = true := by
  intro u hu
  simp only [ni, nv, List.map_map, List.mem_map] at hu
  obtain ⟨x, _, rfl⟩ := hu
  rfl
set_option maxRecDepth 100000 in
set_option maxHeartbeats 3200000 in
theorem list_any (g h n X : Nat) (w : World) (v : VecAt w g h n X) (ht : DTab w) : Calls Tryz.prog 51 #[.pointer (some ⟨g, 0, none⟩)] w (ListOk X w) := by
  obtain ⟨i0, hi, hz0, hz1, hz2⟩ := info_parts infoI64
  obtain ⟨cap, h1, h2, c0, c1⟩ := v.cells
  have hm := mw_le v.1
  have HV := Lib.hid v
  have HT := Lib.hid ht
  clear v ht
  go_enter Tryz.func51, Tryz.ntmps51
  go_wp2_with fail
  go_loopw [3, 13] (fun q i wr => ∃ k s : Nat, k ≤ mw n ∧ s ≤ 256 ∧ i = .int .i64 k ∧ Hid ((L X (64 * k)).length = s) ∧ Hid (wr.ownsRow w.heap.size 3 1 q s (ni (L X (64 * k)))) ∧ Hid (Below w.heap.size w wr)) (fun _ i _ => mw n - (intOf i).toNat)
  case atStart => exact ⟨0, 0, by omega, by omega, rfl, rfl, World.ownsRow_nil _ _ _ _, Below.refl _ _⟩
  case round =>
    obtain ⟨k, s, hk, hs, rfl, hL, hown, hb⟩ := hrel
    by_cases hlt : k < mw n
    · have hVr := Lib.hid (HV.out.below hb.out)
      have hc := hVr.out.at_ hlt
      have hw := word_lt X k
      have HLs := Lib.hid (L_step X k)
      have hk4 : k < 4 := by omega
      have hLm : Hid ((L X (64 * (k + 1))).length ≤ 256) := Nat.le_trans (L_le _ _) (by omega)
      generalize hx : word X k = x at *
      obtain ⟨wo, rfl⟩ : ∃ wo : World, wo = wr := ⟨_, rfl⟩
      have HHS := Lib.hid hb.out.size
      go_wp2_with fail
      go_loopw [3, 5] (fun q y wr => ∃ y' s' : Nat, y = .int .u64 y' ∧ y' < 2 ^ 64 ∧ s' ≤ 256 ∧ Hid ((L X (64 * (k + 1))).length = s' + (L y' 64).length) ∧ Hid (∃ D, D ++ (L y' 64).map (64 * k + ·) = L X (64 * (k + 1)) ∧ D.length = s' ∧ wr.ownsRow w.heap.size 3 1 q s' (ni D)) ∧ Hid (Below w.heap.size w wr)) (fun _ y _ => (L (intOf y).toNat 64).length)
      case atStart => exact ⟨x, s, rfl, hw, hs, by show _ = _; rw [HLs.out, List.length_append, List.length_map, hL.out], ⟨_, HLs.out.symm, hL.out, hown.out⟩, hb⟩
      case round =>
        obtain ⟨y, s2, rfl, hy, hs2, hlen, hD, hb2⟩ := hrel
        by_cases h0 : y = 0
        · subst h0
          have HN : Hid ((L X (64 * (k + 1))).length = s2) := by
            show _ = _
            rw [hlen.out, L_zero]; rfl
          obtain ⟨D, hD1, hD2, hD3⟩ := hD.out
          rw [L_zero, List.map_nil, List.append_nil] at hD1
          rw [hD1] at hD3
          have HO := Lib.hid hD3
          clear hD1 hD2 hD3 hD hlen
          go_wp2_with fail
          go_roundw
          case rel => exact ⟨k + 1, s2, by omega, hs2, by go_num, HN, HO, hb2⟩
          case measure => simp [intOf]; omega
        · obtain ⟨c, hc1, hc2, hc3, hc4, hc5⟩ := low_bits y h0 hy
          have hLL := L_low y c 64 hc2 hc3 hc4
          obtain ⟨D, hD1, hD2, hD3⟩ := hD.out
          have HZ := Lib.hid (fun w' (h : DTab w') => tz_any y w' h hy h0)
          rw [hc1] at HZ
          have hTr := HT.out.below hb2.out (by have := HT.out.1; exact this)
          have hyn : ((y : Int) != 0) = true := by simp; omega
          have hyz : 1 ≤ (y : Int) := by omega
          have hlen2 : Hid ((L X (64 * (k + 1))).length = s2 + 1 + (L (clr y c) 64).length) := by
            show _ = _
            rw [hlen.out, hLL, List.length_cons]; omega
          have hs3 : s2 + 1 ≤ 256 := by have := hLm.out; rw [hlen2.out] at this; omega
          have hDD : Hid ((D ++ [64 * k + c]) ++ (L (clr y c) 64).map (64 * k + ·) = L X (64 * (k + 1))) := by
            show _ = _
            rw [← hD1, hLL]; simp
          have hclr : clr y c < 2 ^ 64 := clr_lt hy
          have HA : Hid (bits BinOp.and IntKind.u64 (y : Int) ((y : Int) - 1) = (clr y c : Int)) := by
            show _ = _
            rw [show (y : Int) - 1 = ((y - 1 : Nat) : Int) by omega, u64_and_nat _ _ hy (by omega), hc5]
          have hms : (L (clr y c) 64).length < (L y 64).length := by rw [hLL]; simp
          have HMS := Lib.hid hms
          have HDL := Lib.hid hD2
          have HO := Lib.hid hD3
          obtain ⟨Z, hZ⟩ : ∃ Z, clr y c = Z := ⟨_, rfl⟩
          rw [hZ] at hlen2 hDD hclr HA HMS
          have HTR := Lib.hid hTr
          have hb2s := hb2.out.size
          clear hlen hD hD1 hD2 hD3 hc1 hc3 hc4 hc5 hLL hms hZ hTr h0
          have hsum : Hid ([Value.int .i64 ((k : Int) * 64 + (c : Int))] = ni [64 * k + c]) := by
            show _ = _
            simp only [ni, nv, List.map_cons, List.map_nil]
            congr 2
            push_cast
            omega
          go_wp2_with fail
          refine (HZ.out _ HTR.out).mono ?_
          rintro e w' ⟨rfl, rfl⟩
          go_wp2_with (first | (rw [HA.out]) | (at_builtin; refine wpList_app rfl (.tmp 24) (.tmp 30) 96 rfl w.heap.size 3 i0 (.int .i64 0) 8 Tryz.underlying96 hi hz0 hz1 hz2 rfl _ s2 (ni D) rfl (own_below HO.out ((Below.refl _ _).alloc (Nat.le_refl _) _)) _ _ 1 1 _ rfl (row_new _ _ _ _) (by rw [hsum.out]; exact ni_one _) (by unfold maxLen; omega) (by omega) (by simp; omega) ?_; intro v2 w2 hown2 hg2 hat2))
          have hal : Below wr.heap.size wr (wr.alloc (.cells #[.int .i64 ((k : Int) * 64 + (c : Int))] 3)) := (Below.refl _ _).alloc (Nat.le_refl _) _
          have HB2 : Hid (Below w.heap.size w w2) := below_app (hb2.out.trans (hal.mono hb2s)) (by simp; omega) (own_below HO.out hal) (Nat.le_refl _) hg2
          have HO2 : Hid (w2.ownsRow w.heap.size 3 1 v2 (s2 + 1) (ni (D ++ [64 * k + c]))) := by
            show World.ownsRow _ _ _ _ _ _ _
            rw [ni_append, ← hsum.out]; exact hown2
          clear hg2 hat2 hown2 hal HO
          go_roundw
          case rel => exact ⟨Z, s2 + 1, rfl, hclr, hs3, hlen2, ⟨_, hDD.out, by rw [List.length_append, HDL.out]; rfl, HO2.out⟩, HB2⟩
          case measure => exact HMS.out
    · obtain rfl : mw n = k := by omega
      have e := Ls_words HV.out.2.1 HV.out.1
      rw [e] at hL hown
      have hLL := hL.out
      subst hLL
      obtain ⟨A2, c2, rfl, _⟩ := own_slice hown.out
      clear e
      go_wp2_with fail
      go_ret
      exact ⟨A2, c2, rfl, hown, hb⟩
end Go.Proofs.YtpmmolamdlcmnaaGreatDoor.Vc
namespace Go.Proofs.YtpmmolamdlcmnaaGreatDoor.Vc
open Go.RowKit
open VecM
def QB (B : Bool) (w : World) (e : Ending) (w' : World) : Prop := e = .returned (.bool B) ∧ ∃ q, w' = w.drewN q
theorem drewN_zero (w : World) : w.drewN 0 = w := rfl
theorem equalIn_nil_some {P : Program} (w : World) (d : Nat) (t : TypeId) (a : Addr) (h : P.underlying t = some (.pointer (P.pointee t))) : (Op.equalIn (d + 1) t (.pointer none) (.pointer (some a))).run P w = .ok false w := by
  simp [Op.equalIn, run_underlying h]
theorem eql_nil_some {P : Program} (w : World) (t : TypeId) (a : Addr) (h : P.underlying t = some (.pointer (P.pointee t))) : (binOp .eql t (.pointer none) (.pointer (some a))).run P w = .ok (.bool false) w := by
  have e : (Op.equal t (.pointer none) (.pointer (some a))).run P w = .ok false w := equalIn_nil_some w 9999 t a h
  simp only [binOp]
  simp [e]
theorem quiet_QB {P : Program} {f : FuncId} {args : Array Value} {w : World} {n : Nat} {B : Bool} (h : Calls P f args (w.drewN n) (QB B (w.drewN n))) : Calls P f args (w.drewN n) fun e w'' => e = .returned (.bool B) ∧ ∃ m, w'' = w.drewN m :=
  Calls.quiet_of (h.mono fun _ _ h => h)
end Go.Proofs.YtpmmolamdlcmnaaGreatDoor.Vc
namespace Go.Proofs.YtpmmolamdlcmnaaGreatDoor.Vc
open Go.RowKit
open VecM
/-- the words of a row -/
def wv (X m : Nat) : List Value := (List.range m).map fun k => .int .u64 (word X k : Int)
theorem wv_length (X m : Nat) : (wv X m).length = m := by simp [wv]
theorem wv_get (X m k : Nat) (h : k < m) : (wv X m)[k]? = some (.int .u64 (word X k : Int)) := by simp [wv, h]
theorem wv_one (X m : Nat) : ∀ u ∈ wv X m, u.oneCell' = true := by
  intro u hu
  simp only [wv, List.mem_map] at hu
  obtain ⟨x, _, rfl⟩ := hu
  rfl
theorem VecAt.row {w : World} {g h n X : Nat} (v : VecAt w g h n X) : Row w w.heap.size (some ⟨h, 0, none⟩) (mw n) (wv X (mw n)) := by
  refine ⟨wv_length _ _, fun _ => ⟨h, 0, rfl, v.lt.2, fun j u hu => ?_⟩⟩
  have hj : j < mw n := by have := (List.getElem?_eq_some_iff.1 hu).1; rwa [wv_length] at this
  rw [wv_get _ _ _ hj] at hu
  rw [Nat.zero_add, v.at_ hj, ← hu]
def CloneOk (X m : Nat) (w : World) (e : Ending) (w' : World) : Prop :=
  ∃ h c, e = .returned (.slice (some ⟨h, 0, none⟩) m c) ∧ Hid (m ≤ c ∧ c ≤ 9223372036854775807) ∧ Hid (w'.ownsRow w.heap.size 53 1 (.slice (some ⟨h, 0, none⟩) m c) m (wv X m)) ∧ Hid (h < w'.heap.size ∧ w.heap.size ≤ h) ∧ Below w.heap.size w w'
set_option maxRecDepth 100000 in
set_option maxHeartbeats 800000 in
theorem cloneW_any (B m cap h0 X : Nat) (w : World) (hl : Row w B (some ⟨h0, 0, none⟩) m (wv X m)) (hm : m ≤ 4) (hB : B ≤ w.heap.size) :
    Calls Tryz.prog 90 #[.slice (some ⟨h0, 0, none⟩) m cap] w (CloneOk X m w) := by
  obtain ⟨i0, hi, hz0, hz1, hz2⟩ := info_parts infoU64
  have hq : ∀ (w : World) (a : Option Addr) (n c : Nat), (binOp .eql 114 (.slice a n c) (.slice none 0 0)).run Tryz.prog w = .ok (.bool a.isNone) w := fun w a n c => Lib.run_eql_slice_nil w _ _ a n c 0 0 Tryz.underlying114
  have HR := Lib.hid hl
  clear hl
  go_enter Tryz.func90, Tryz.ntmps90
  have hown0 : (w.alloc (.cells #[] 53)).ownsRow w.heap.size 53 1 (.slice (some ⟨w.heap.size, 0, none⟩) 0 0) 0 [] := own_lit (cs := #[]) rfl (Nat.le_refl _) rfl (by unfold maxLen; omega)
  have HO0 := Lib.hid hown0
  clear hown0
  go_wp2_with (at_builtin; refine wpList_app rfl (.tmp 5) (.tmp 6) 114 rfl w.heap.size 53 i0 (.int .u64 0) 8 Tryz.underlying114 hi hz0 hz1 hz2 rfl _ 0 [] rfl HO0.out B _ m cap (wv X m) rfl (HR.out.alloc hB _) (wv_one X m) (by unfold maxLen; omega) (by omega) (by simp) ?_; intro v2 w2 hown2 hg2 hat2)
  obtain ⟨A2, c2, rfl, hc2, hc3, hA2⟩ := own_slice hown2
  have hb := below_app ((Below.refl w.heap.size w).alloc (Nat.le_refl _) (.cells #[] 53)) (by simp) HO0.out (Nat.le_refl _) hg2
  rw [Nat.zero_add, List.nil_append] at hown2
  unfold maxLen at hc3
  go_ret
  cases A2 with
  | none =>
    exfalso
    rcases hat2 with h | h
    · have h' : (none : Option Nat) = some w.heap.size := h
      cases h'
    · have h' : (none : Option Nat) = some (w.alloc (.cells #[] 53)).heap.size := h
      cases h'
  | some a =>
    rcases hA2 with h2 | ⟨g2, h2, hg⟩
    · cases h2
    · injection h2 with h2
      subst h2
      have hlt : g2 < w2.heap.size := by
        rcases hown2.2 with ⟨h0, _⟩ | ⟨g3, _, _, hv, _, hg3, _⟩
        · cases h0
        · injection hv with e1 _ _
          injection e1 with e1
          injection e1 with e1
          subst e1
          exact (Array.getElem?_eq_some_iff.1 hg3).1
      exact ⟨g2, c2, by rw [Nat.zero_add]; rfl, ⟨by omega, by omega⟩, hown2, ⟨hlt, hg⟩, hb⟩
abbrev SCopy (w : World) (g h n cap : Nat) (W : World) : Prop :=
  Below w.heap.size w W ∧ W.cell? ⟨g, 0, none⟩ = some (.int .i64 (n : Int)) ∧ W.cell? ⟨g, 1, none⟩ = some (.slice (some ⟨h, 0, none⟩) (mw n) cap)
theorem copy_keep {w : World} {g h n cap : Nat} (hg : g < w.heap.size) (c0 : w.cell? ⟨g, 0, none⟩ = some (.int .i64 (n : Int))) (c1 : w.cell? ⟨g, 1, none⟩ = some (.slice (some ⟨h, 0, none⟩) (mw n) cap)) (W : World) (hW : Below w.heap.size w W) : SCopy w g h n cap W :=
  ⟨hW, by rw [hW.cell (p := ⟨g, 0, none⟩) hg]; exact c0, by rw [hW.cell (p := ⟨g, 1, none⟩) hg]; exact c1⟩
theorem copy_next {w W W' : World} {g h n cap : Nat} (hs : SCopy w g h n cap W) (hb : Below W.heap.size W W') : Below w.heap.size w W' := hs.1.trans (hb.mono hs.1.size)
theorem copy_below {w W : World} {g h n cap : Nat} (hs : SCopy w g h n cap W) : Below w.heap.size w W := hs.1
theorem copy_drew {w W : World} {g h n cap : Nat} (hs : SCopy w g h n cap W) : Below w.heap.size w W.drew := hs.1.drew
theorem copy_alloc {w W : World} {g h n cap : Nat} (hs : SCopy w g h n cap W) (o : Obj) : Below w.heap.size w (W.alloc o) := hs.1.alloc hs.1.size o
set_option maxRecDepth 100000 in
theorem copy_nil (w : World) : Calls Tryz.prog 80 #[.pointer none] w fun e w' => e = .returned (.pointer none) ∧ w = w' := by
  go_enter Tryz.func80, Tryz.ntmps80
  go_wp2_with fail
  go_ret
  exact ⟨rfl, rfl⟩
theorem vec_of_own {w : World} {h n X c B : Nat} (hn : n ≤ 256) (hX : X < 2 ^ n) (ho : w.ownsRow B 53 1 (.slice (some ⟨h, 0, none⟩) (mw n) c) (mw n) (wv X (mw n))) (hc : mw n ≤ c ∧ c ≤ 9223372036854775807) (hh : h < w.heap.size) :
    VecAt (w.alloc (.cells #[.int .i64 (n : Int), .slice (some ⟨h, 0, none⟩) (mw n) c] 116)) w.heap.size h n X := by
  have hb : Below w.heap.size w (w.alloc (.cells #[.int .i64 (n : Int), .slice (some ⟨h, 0, none⟩) (mw n) c] 116)) := (Below.refl _ _).alloc (Nat.le_refl _) _
  rcases ho.2 with ⟨h0, _⟩ | ⟨g, cap, cur, hv, _, hg, h1, h2, h3, h4⟩
  · cases h0
  · injection hv with e1 e2 e3
    injection e1 with e1
    injection e1 with e1
    subst e1 e3
    rw [Nat.mul_one] at h3 h4
    refine ⟨hn, hX, by omega, c, cur, heap_alloc_new _ _, (hb.block h hh).trans hg, hc.1, hc.2, by omega, fun k hk => ?_⟩
    have := wv_get X (mw n) k hk
    rw [← h4, List.getElem?_take_of_lt hk] at this
    simpa using this
set_option maxRecDepth 100000 in
set_option maxHeartbeats 1600000 in
theorem copy_any (g h n X : Nat) (w : World) (v : VecAt w g h n X) : Calls Tryz.prog 80 #[.pointer (some ⟨g, 0, none⟩)] w (OfOk n X w) := by
  obtain ⟨cap, _, _, c0, c1⟩ := v.cells
  have hkeep := Lib.hid (copy_keep v.lt.1 c0 c1)
  have HC := Lib.hid (fun (W : World) (hW : Below w.heap.size w W) => cloneW_any w.heap.size (mw n) cap h X W (v.row.below hW) (mw_le v.1) hW.size)
  have HV := Lib.hid v
  clear v
  go_enter Tryz.func80, Tryz.ntmps80
  go_wp2_with fail
  go_region_held3 (SCopy w g h n cap)
    (first | exact hkeep.out _ (copy_next (by assumption) (by assumption)) | exact hkeep.out _ (Below.refl _ _).drew | exact hkeep.out _ (Below.refl _ _) | exact hkeep.out _ (copy_alloc (by assumption) _) | exact hkeep.out _ (copy_drew (by assumption)))
    (first
      | (go_at_call 90; refine (HC.out _ (copy_below (by assumption))).mono ?_; rintro e w' ⟨h2, c2, rfl, hcc, hown, hsz, hbel⟩))
  have HF := Lib.hid (vec_of_own HV.out.1 HV.out.2.1 hown.out hcc.out hsz.out.1)
  have hall := copy_below (by assumption : SCopy w g h n cap (w'.alloc (.cells #[.int .i64 (n : Int), .slice (some ⟨h2, 0, none⟩) (mw n) c2] 116)))
  have hw' : w.heap.size ≤ w'.heap.size := by have := hbel.size; exact this
  clear hkeep HC c0 c1 hown hcc
  go_wp2_with fail
  go_ret
  exact ⟨w'.heap.size, h2, rfl, hw', hsz.out.2, HF, hall⟩
theorem word_mod (Y k j : Nat) : word (Y % 2 ^ (64 * k)) j = if j < k then word Y j else 0 := by
  apply Nat.eq_of_testBit_eq; intro i
  rw [word_bit, Nat.testBit_mod_two_pow]
  by_cases h : j < k
  · rw [if_pos h, word_bit]
    by_cases hi : i < 64
    · have : 64 * j + i < 64 * k := by omega
      simp [hi, this]
    · simp [hi]
  · rw [if_neg h]
    by_cases hi : i < 64
    · have : ¬ 64 * j + i < 64 * k := by omega
      simp [this]
    · simp [hi]
def mixX (X Y k : Nat) : Nat := X ^^^ (Y % 2 ^ (64 * k))
theorem mixX_zero (X Y : Nat) : mixX X Y 0 = X := by simp [mixX, Nat.mod_one]
theorem mixX_all {X Y n m : Nat} (hY : Y < 2 ^ n) (hm : n ≤ 64 * m) : mixX X Y m = X ^^^ Y := by
  unfold mixX; rw [Nat.mod_eq_of_lt (Nat.lt_of_lt_of_le hY (Nat.pow_le_pow_right (by decide) hm))]
theorem mixX_lt {X Y n k : Nat} (hX : X < 2 ^ n) (hY : Y < 2 ^ n) : mixX X Y k < 2 ^ n :=
  Nat.xor_lt_two_pow hX (Nat.lt_of_le_of_lt (Nat.mod_le _ _) hY)
theorem mixX_word (X Y k j : Nat) : word (mixX X Y k) j = if j < k then word X j ^^^ word Y j else word X j := by
  unfold mixX; rw [word_xor, word_mod]
  by_cases h : j < k
  · rw [if_pos h, if_pos h]
  · rw [if_neg h, if_neg h]; simp
def XorOk (g h n Z : Nat) (w : World) (e : Ending) (w' : World) : Prop := e = .returned (.bool true) ∧ Hid (VecAt w' g h n Z) ∧ Hid (w.grownBy w' (some h))
theorem grown_drewN (w : World) (q : Nat) (r : Option Nat) : w.grownBy (w.drewN q) r := ⟨rfl, rfl, rfl, Nat.le_refl _, fun _ _ _ => rfl⟩
set_option maxRecDepth 100000 in
theorem xor_nil (p : Option Addr) (w : World) : Calls Tryz.prog 62 #[.pointer none, .pointer p] w (QB false w) := by
  go_enter Tryz.func62, Tryz.ntmps62
  go_wp2_with fail
  go_quiet (fail)
  go_wp2_with fail
  go_ret
  exact ⟨rfl, _, rfl⟩
set_option maxRecDepth 100000 in
theorem xor_vn (a : Addr) (w : World) : Calls Tryz.prog 62 #[.pointer (some a), .pointer none] w (QB false w) := by
  go_enter Tryz.func62, Tryz.ntmps62
  go_wp2_with fail
  go_quiet (fail)
  go_wp2_with fail
  go_ret
  exact ⟨rfl, _, rfl⟩
set_option maxRecDepth 100000 in
theorem xor_ne (g h n X g' h' n' Y : Nat) (w : World) (v : VecAt w g h n X) (u : VecAt w g' h' n' Y) (hn : n ≠ n') : Calls Tryz.prog 62 #[.pointer (some ⟨g, 0, none⟩), .pointer (some ⟨g', 0, none⟩)] w (QB false w) := by
  obtain ⟨cap, _, _, c0, c1⟩ := v.cells
  obtain ⟨cap2, _, _, d0, d1⟩ := u.cells
  have hne : ((n : Int) != (n' : Int)) = true := by simp; omega
  clear v u hn
  go_enter Tryz.func62, Tryz.ntmps62
  go_wp2_with fail
  go_quiet (fail)
  go_wp2_with fail
  go_ret
  exact ⟨rfl, _, rfl⟩
set_option maxRecDepth 100000 in
set_option maxHeartbeats 1600000 in
theorem xor_any (g h n X g' h' Y : Nat) (w : World) (v : VecAt w g h n X) (u : VecAt w g' h' n Y) (hh : h ≠ h') (hg : h ≠ g') : Calls Tryz.prog 62 #[.pointer (some ⟨g, 0, none⟩), .pointer (some ⟨g', 0, none⟩)] w (XorOk g h n (X ^^^ Y) w) := by
  obtain ⟨cap, _, _, c0, c1⟩ := v.cells
  obtain ⟨cap2, _, _, d0, d1⟩ := u.cells
  have hm := mw_le v.1
  have HV := Lib.hid v
  have HU := Lib.hid u
  have HH := Lib.hid (And.intro hh hg)
  clear v u hh hg
  go_enter Tryz.func62, Tryz.ntmps62
  go_wp2_with fail
  go_quiet (fail)
  go_wp2_with fail
  clear c0 c1 d0 d1
  go_loopw [29] (fun i wr => ∃ k : Nat, k ≤ mw n ∧ i = .int .i64 k ∧ Hid (VecAt wr g h n (mixX X Y k)) ∧ Hid (VecAt wr g' h' n Y) ∧ Hid (w.grownBy wr (some h))) (fun i _ => mw n - (intOf i).toNat)
  case atStart => exact ⟨0, by omega, rfl, by rw [mixX_zero]; exact HV.out.drewN _, HU.out.drewN _, grown_drewN _ _ _⟩
  case round =>
    obtain ⟨k, hk, rfl, hv, hu, hgr⟩ := hrel
    by_cases hlt : k < mw n
    · obtain ⟨cap3, _, _, c0, c1⟩ := hv.out.cells
      have e1 := hv.out.at_ hlt
      have e2 := hu.out.at_ hlt
      have hf := hv.out.frozen k
      rw [mixX_word, if_neg (by omega)] at e1
      have hx := word_lt X k
      have hy := word_lt Y k
      have HS : Hid (∀ u, u = ((word X k ^^^ word Y k : Nat) : Int) → VecAt (wr.setCell ⟨h, k, none⟩ (.int .u64 u)) g h n (mixX X Y (k + 1))) := fun u hu2 => hv.out.store hlt (mixX_lt HV.out.2.1 HU.out.2.1) (by rw [hu2, mixX_word, if_pos (by omega)]) fun j _ hj => by
        rw [mixX_word, mixX_word]
        by_cases h1 : j < k
        · rw [if_pos h1, if_pos (by omega)]
        · rw [if_neg h1, if_neg (by omega)]
      have HU2 : Hid (∀ u, VecAt (wr.setCell ⟨h, k, none⟩ u) g' h' n Y) := fun u => hu.out.grown (grown_set1 _ _ _ _) HH.out.2 HH.out.1
      have HG2 : Hid (∀ u, w.grownBy (wr.setCell ⟨h, k, none⟩ u) (some h)) := fun u => hgr.out.trans (grown_set1 _ _ _ _)
      have HX : Hid (bits BinOp.xor IntKind.u64 (word X k : Int) (word Y k : Int) = ((word X k ^^^ word Y k : Nat) : Int)) := u64_xor_nat _ _ hx hy
      generalize word X k = x at *
      generalize word Y k = y at *
      clear hv hu hgr
      go_wp2_with fail
      go_roundw
      case rel => exact ⟨k + 1, by omega, by go_num, HS.out _ HX.out, HU2.out _, HG2.out _⟩
      case measure => simp [intOf]; omega
    · obtain rfl : mw n = k := by omega
      have HF : Hid (VecAt wr g h n (X ^^^ Y)) := by
        show VecAt _ _ _ _ _
        rw [← mixX_all (m := mw n) HU.out.2.1 (by unfold mw; omega)]; exact hv.out
      clear hv
      go_wp2_with fail
      go_ret
      exact ⟨rfl, HF, hgr⟩
end Go.Proofs.YtpmmolamdlcmnaaGreatDoor.Vc
namespace Go.Proofs.YtpmmolamdlcmnaaGreatDoor
open Go.RowKit
/-- the first k places hold f, the rest is nought -/
def fill (n : Nat) (f : Nat → UInt8) (k : Nat) : List UInt8 := (List.range n).map fun j => if j < k then f j else 0
theorem fill_length (n : Nat) (f : Nat → UInt8) (k : Nat) : (fill n f k).length = n := by simp [fill]
theorem fill_zero (n : Nat) (f : Nat → UInt8) : fill n f 0 = List.replicate n 0 := by
  apply List.ext_getElem
  · simp [fill]
  · intro i h1 h2; simp [fill]
theorem fill_get (n : Nat) (f : Nat → UInt8) (k j : Nat) (h : j < n) : (fill n f k)[j]? = some (if j < k then f j else 0) := by
  simp [fill, h]
theorem fill_set (n : Nat) (f : Nat → UInt8) (k : Nat) (h : k < n) : (fill n f k).set k (f k) = fill n f (k + 1) := by
  apply List.ext_getElem?
  intro j
  rw [List.getElem?_set]
  by_cases hj : j < n
  · rw [fill_get n f k j hj, fill_get n f (k + 1) j hj]
    by_cases e : k = j
    · subst e; simp [fill_length, h]
    · rw [if_neg e]
      congr 1
      by_cases h1 : j < k
      · rw [if_pos h1, if_pos (by omega)]
      · rw [if_neg h1, if_neg (by omega)]
  · have h1 : (fill n f k)[j]? = none := List.getElem?_eq_none (by rw [fill_length]; omega)
    have h2 : (fill n f (k + 1))[j]? = none := List.getElem?_eq_none (by rw [fill_length]; omega)
    rw [h1, h2]
    split
    · split
      · rename_i h3; rw [fill_length] at h3; omega
      · rfl
    · rfl
theorem bv_fill_set (n : Nat) (f : Nat → UInt8) (k : Nat) (h : k < n) : (bv (fill n f k)).set k (.int .u8 ((f k).toNat : Int)) = bv (fill n f (k + 1)) := by
  rw [← fill_set n f k h]; simp [bv, List.map_set]
theorem bv_fill_get (n : Nat) (f : Nat → UInt8) (k j : Nat) (hj : j < k) (h : j < n) : (bv (fill n f k))[j]? = some (.int .u8 ((f j).toNat : Int)) := by
  rw [bv_get _ _ (by rw [fill_length]; exact h)]
  simp [fill, hj]
theorem bv_zeros (n : Nat) : List.replicate n (Value.int .u8 0) = bv (List.replicate n 0) := by simp [bv]
end Go.Proofs.YtpmmolamdlcmnaaGreatDoor
namespace Go.Proofs.YtpmmolamdlcmnaaGreatDoor.Vc
open Go.RowKit
open VecM
def byteN (X j : Nat) : Nat := X / 2 ^ (8 * j) % 2 ^ 8
theorem byteN_bit (X j i : Nat) : (byteN X j).testBit i = (decide (i < 8) && X.testBit (8 * j + i)) := by
  unfold byteN; rw [Nat.testBit_mod_two_pow, Nat.testBit_div_two_pow, Nat.add_comm]
theorem byteN_word (X j : Nat) : word X (j / 8) / 2 ^ (j % 8 * 8) % 2 ^ 8 = byteN X j := by
  apply Nat.eq_of_testBit_eq; intro i
  rw [byteN_bit, Nat.testBit_mod_two_pow, Nat.testBit_div_two_pow, word_bit]
  by_cases hi : i < 8
  · have h1 : i + j % 8 * 8 < 64 := by omega
    have h2 : 64 * (j / 8) + (i + j % 8 * 8) = 8 * j + i := by omega
    simp [hi, h1, h2]
  · simp [hi]
def byteU (X j : Nat) : UInt8 := UInt8.ofNat (byteN X j)
theorem byteU_toNat (X j : Nat) : (byteU X j).toNat = byteN X j := by
  unfold byteU byteN
  have : X / 2 ^ (8 * j) % 2 ^ 8 < 256 := Nat.mod_lt _ (by decide)
  simp
def bw (n : Nat) : Nat := (n + 7) / 8
/-- a row's bytes -/
def bl (X n : Nat) : List UInt8 := fill (bw n) (byteU X) (bw n)
theorem bl_length (X n : Nat) : (bl X n).length = bw n := fill_length _ _ _
theorem infoU8 : (Tryz.prog.info? 5).map (fun i => (i.zero, i.size, i.bytes)) = some (some (.int .u8 0), 1, 1) := by kernel_rfl
theorem madeU8 (m : Nat) (hm : m ≤ 1000000000) : ∀ w : World, (Instr.makeSlice 23 (.int .i64 (m : Int)) (.int .i64 (m : Int))).run Tryz.prog w = .ok (.slice (some ⟨w.heap.size, 0, none⟩) m m) (w.alloc (.cells (Array.replicate m (.int .u8 0)) 5)) := by
  obtain ⟨i0, hi, hz0, hz1, hz2⟩ := info_parts infoU8
  intro w
  have h := run_make (P := Tryz.prog) w 23 5 i0 (.int .u8 0) Tryz.underlying23 hi hz0 .i64 .i64 (m : Int) (m : Int) (by omega) (by omega) (by rw [hz2]; omega) (by omega)
  rw [hz1] at h
  have e : madeCells (Value.int .u8 0).cells m = Array.replicate m (.int .u8 0) := by
    apply Array.toList_inj.1
    rw [Array.toList_replicate]
    exact toList_madeCells_one (.int .u8 0) m
  simpa [e] using h
def BytesOk (l : List UInt8) (w : World) (e : Ending) (w' : World) : Prop :=
  ∃ g, e = .returned (.slice (some ⟨g, 0, none⟩) l.length l.length) ∧ Hid (w'.ownsRow w.heap.size 5 1 (.slice (some ⟨g, 0, none⟩) l.length l.length) l.length (bv l)) ∧ Hid (Below w.heap.size w w')
/-- a row out of its bytes, the first k of them -/
def frN (l : List UInt8) : Nat → Nat
  | 0 => 0
  | k + 1 => frN l k ||| ((l.getD k 0).toNat * 2 ^ (8 * k))
theorem byte_lt (b : UInt8) : b.toNat < 2 ^ 8 := b.toNat_lt
theorem frN_bit (l : List UInt8) (i : Nat) : ∀ k, (frN l k).testBit i = (decide (i / 8 < k) && (l.getD (i / 8) 0).toNat.testBit (i % 8))
  | 0 => by simp [frN]
  | k + 1 => by
    show (frN l k ||| _).testBit i = _
    rw [Nat.testBit_or, frN_bit l i k, Nat.testBit_mul_two_pow]
    by_cases h1 : i / 8 < k
    · have h2 : i / 8 < k + 1 := by omega
      have h3 : ¬ (8 * k ≤ i) := by omega
      simp [h1, h2, h3]
    · by_cases h2 : i / 8 = k
      · have h3 : 8 * k ≤ i := by omega
        have h4 : i - 8 * k = i % 8 := by omega
        subst h2
        simp [h3, h4]
      · have h3 : ¬ i / 8 < k + 1 := by omega
        have h4 : (l.getD k 0).toNat.testBit (i - 8 * k) = false := Nat.testBit_lt_two_pow (Nat.lt_of_lt_of_le (byte_lt _) (Nat.pow_le_pow_right (by decide) (by omega)))
        simp only [h1, h3, h4, decide_false, Bool.false_and, Bool.or_false, Bool.and_false]
theorem frN_word (l : List UInt8) (k j : Nat) : word (frN l (k + 1)) j = if j = k / 8 then word (frN l k) j ||| ((l.getD k 0).toNat * 2 ^ (k % 8 * 8)) else word (frN l k) j := by
  show word (frN l k ||| _) j = _
  rw [word_or]
  have hb := byte_lt (l.getD k 0)
  generalize (l.getD k 0).toNat = b at *
  have e : word (b * 2 ^ (8 * k)) j = if j = k / 8 then b * 2 ^ (k % 8 * 8) else 0 := by
    apply Nat.eq_of_testBit_eq; intro i
    rw [word_bit, Nat.testBit_mul_two_pow]
    by_cases h : j = k / 8
    · rw [if_pos h, Nat.testBit_mul_two_pow]
      by_cases hi : i < 64
      · have h1 : 64 * j + i - 8 * k = i - k % 8 * 8 := by omega
        have h2 : (8 * k ≤ 64 * j + i) = (k % 8 * 8 ≤ i) := by simp only [eq_iff_iff]; omega
        simp only [h1, h2, hi, decide_true, Bool.true_and]
      · have h3 : b.testBit (i - k % 8 * 8) = false := Nat.testBit_lt_two_pow (Nat.lt_of_lt_of_le hb (Nat.pow_le_pow_right (by decide) (by omega)))
        simp [hi, h3]
    · rw [if_neg h]
      by_cases hi : i < 64
      · by_cases h1 : 8 * k ≤ 64 * j + i
        · have h3 : b.testBit (64 * j + i - 8 * k) = false := Nat.testBit_lt_two_pow (Nat.lt_of_lt_of_le hb (Nat.pow_le_pow_right (by decide) (by omega)))
          simp [h3]
        · simp [h1]
      · simp [hi]
  rw [e]
  by_cases h : j = k / 8
  · rw [if_pos h, if_pos h]
  · rw [if_neg h, if_neg h]; simp
/-- the bytes are those of a row of n bits -/
def fits (n : Nat) (l : List UInt8) : Prop := l.length = bw n ∧ (n % 8 ≠ 0 → (l.getD (bw n - 1) 0).toNat < 2 ^ (n % 8))
theorem frN_lt {n : Nat} {l : List UInt8} (h : fits n l) (k : Nat) (hk : k ≤ bw n) : frN l k < 2 ^ n := by
  apply Nat.lt_pow_two_of_testBit
  intro i hi
  rw [frN_bit]
  by_cases h1 : i / 8 < k
  · unfold bw at hk
    have h2 : n % 8 ≠ 0 := by omega
    have h3 : i / 8 = bw n - 1 := by unfold bw; omega
    have h4 := h.2 h2
    rw [← h3] at h4
    rw [Nat.testBit_lt_two_pow (Nat.lt_of_lt_of_le h4 (Nat.pow_le_pow_right (by decide) (by omega)))]
    simp
  · simp [h1]
theorem or_shift (x b s : Nat) (hx : x < 2 ^ 64) (hb : b < 2 ^ 8) (hs : s ≤ 56) : bits .or .u64 (x : Int) (IntKind.u64.wrap ((b : Int) * 2 ^ s)) = ((x ||| (b * 2 ^ s) : Nat) : Int) := by
  have h1 : b * 2 ^ s < 2 ^ 64 := by
    have h2 : 2 ^ s ≤ 2 ^ 56 := Nat.pow_le_pow_right (by decide) hs
    have h3 : b * 2 ^ s ≤ 255 * 2 ^ 56 := Nat.mul_le_mul (by omega) h2
    omega
  have e : IntKind.u64.wrap ((b : Int) * 2 ^ s) = ((b * 2 ^ s : Nat) : Int) := by
    rw [IntKind.wrap_u64, show (b : Int) * 2 ^ s = ((b * 2 ^ s : Nat) : Int) by rw [Int.natCast_mul, Int.natCast_pow]; rfl]
    generalize b * 2 ^ s = q at *
    omega
  rw [e, u64_or_nat _ _ hx h1]
def FromOk (n X : Nat) (w : World) (e : Ending) (w' : World) : Prop :=
  ∃ g h, e = .returned (.tuple #[.pointer (some ⟨g, 0, none⟩), .bool true]) ∧ w.heap.size ≤ g ∧ w.heap.size ≤ h ∧ Hid (VecAt w' g h n X) ∧ Hid (Below w.heap.size w w')
def FromNo (w : World) (e : Ending) (w' : World) : Prop := e = .returned (.tuple #[.pointer none, .bool false]) ∧ Below w.heap.size w w'
end Go.Proofs.YtpmmolamdlcmnaaGreatDoor.Vc
namespace Go.Proofs.YtpmmolamdlcmnaaGreatDoor.Vc
open Go.RowKit
open VecM
structure VV where
  g : Nat
  h : Nat
  n : Nat
  X : Nat
/-- since world w0 the rows l were made, and nothing else that was there has changed -/
structure Bag (w0 w : World) (l : List VV) : Prop where
  below : Below w0.heap.size w0 w
  tab : DTab w0
  at_ : ∀ (i g h n X : Nat), l[i]? = some (⟨g, h, n, X⟩ : VV) → VecAt w g h n X ∧ w0.heap.size ≤ g ∧ w0.heap.size ≤ h
  apart : ∀ (i j : Nat) (a b : VV), i ≠ j → l[i]? = some a → l[j]? = some b → a.g ≠ b.h ∧ a.h ≠ b.h
section
variable {w0 w w' : World} {l : List VV} {g h n X i g' h' n' Y j : Nat}
theorem Bag.start (w0 : World) (ht : DTab w0) : Bag w0 w0 [] := ⟨Below.refl _ _, ht, fun i g h n X hi => (by cases i <;> cases hi), fun i j a b _ hi => (by cases i <;> cases hi)⟩
theorem Bag.dtab (b : Bag w0 w l) : DTab w := b.tab.grow b.below
theorem Bag.read (b : Bag w0 w l) (hb : Below w.heap.size w w') : Bag w0 w' l :=
  ⟨b.below.trans (hb.mono b.below.size), b.tab, fun i g h n X hi => ⟨(b.at_ i g h n X hi).1.below hb, (b.at_ i g h n X hi).2⟩, b.apart⟩
theorem Bag.add (b : Bag w0 w l) (hb : Below w.heap.size w w') (hg : w.heap.size ≤ g) (hh : w.heap.size ≤ h) (v : VecAt w' g h n X) : Bag w0 w' (l ++ [⟨g, h, n, X⟩]) := by
  have hs := b.below.size
  refine ⟨b.below.trans (hb.mono hs), b.tab, fun i g1 h1 n1 X1 hi => ?_, fun i j a c hij hi hj => ?_⟩
  · by_cases e : i < l.length
    · rw [List.getElem?_append_left e] at hi
      exact ⟨(b.at_ i g1 h1 n1 X1 hi).1.below hb, (b.at_ i g1 h1 n1 X1 hi).2⟩
    · rw [List.getElem?_append_right (by omega)] at hi
      have e2 : i - l.length = 0 := by
        rcases Nat.eq_zero_or_pos (i - l.length) with h0 | h0
        · exact h0
        · rw [List.getElem?_eq_none (by simp; omega)] at hi; cases hi
      rw [e2] at hi
      injection hi with hi
      injection hi with a1 a2 a3 a4
      subst a1 a2 a3 a4
      exact ⟨v, by omega, by omega⟩
  · have key : ∀ i a, (l ++ [(⟨g, h, n, X⟩ : VV)])[i]? = some a → (i < l.length ∧ l[i]? = some a ∧ a.g < w.heap.size ∧ a.h < w.heap.size) ∨ (i = l.length ∧ a = ⟨g, h, n, X⟩) := by
      intro i a hi
      by_cases e : i < l.length
      · rw [List.getElem?_append_left e] at hi
        obtain ⟨g1, h1, n1, X1⟩ := a
        have := (b.at_ i g1 h1 n1 X1 hi).1.lt
        exact .inl ⟨e, hi, this⟩
      · right
        rw [List.getElem?_append_right (by omega)] at hi
        have e2 : i - l.length = 0 := by
          rcases Nat.eq_zero_or_pos (i - l.length) with h0 | h0
          · exact h0
          · rw [List.getElem?_eq_none (by simp; omega)] at hi; cases hi
        rw [e2] at hi
        injection hi with hi
        exact ⟨by omega, hi.symm⟩
    rcases key i a hi with ⟨_, hi, h1, h2⟩ | ⟨rfl, rfl⟩ <;> rcases key j c hj with ⟨_, hj, h3, h4⟩ | ⟨rfl, rfl⟩
    · exact b.apart i j a c hij hi hj
    · exact ⟨by show a.g ≠ h; omega, by show a.h ≠ h; omega⟩
    · exact ⟨by show g ≠ c.h; omega, by show h ≠ c.h; omega⟩
    · exact absurd rfl hij
theorem set_get (l : List VV) (i j : Nat) (v u : VV) (hi : l[i]? = some v) : (l.set i u)[j]? = if i = j then some u else l[j]? := by
  rw [List.getElem?_set]
  by_cases e : i = j
  · subst e; rw [if_pos rfl, if_pos rfl, if_pos (List.getElem?_eq_some_iff.1 hi).1]
  · rw [if_neg e, if_neg e]
theorem Bag.write (b : Bag w0 w l) (hi : l[i]? = some ⟨g, h, n, X⟩) (hg : w.grownBy w' (some h)) (v : VecAt w' g h n Y) : Bag w0 w' (l.set i ⟨g, h, n, Y⟩) := by
  obtain ⟨_, hgl, hhl⟩ := b.at_ i g h n X hi
  refine ⟨b.below.grown hg b.below.size (by intro k hk; injection hk with hk; omega), b.tab, fun j g1 h1 n1 X1 hj => ?_, fun j k a c hjk hj hk => ?_⟩
  · rw [set_get l i j _ _ hi] at hj
    by_cases e : i = j
    · rw [if_pos e] at hj
      injection hj with hj
      injection hj with a1 a2 a3 a4
      subst a1 a2 a3 a4
      exact ⟨v, hgl, hhl⟩
    · rw [if_neg e] at hj
      have a1 := b.at_ j g1 h1 n1 X1 hj
      have a2 := b.apart j i _ _ (fun e' => e e'.symm) hj hi
      exact ⟨a1.1.grown hg (fun e => a2.1 e.symm) (fun e => a2.2 e.symm), a1.2⟩
  · rw [set_get l i j _ _ hi] at hj
    rw [set_get l i k _ _ hi] at hk
    have old : ∀ j a, (if i = j then some (⟨g, h, n, Y⟩ : VV) else l[j]?) = some a → ∃ a', l[j]? = some a' ∧ a'.g = a.g ∧ a'.h = a.h := by
      intro j a hj
      by_cases e : i = j
      · subst e
        rw [if_pos rfl] at hj
        injection hj with hj
        subst hj
        exact ⟨_, hi, rfl, rfl⟩
      · rw [if_neg e] at hj
        exact ⟨a, hj, rfl, rfl⟩
    obtain ⟨a', ha, e1, e2⟩ := old j a hj
    obtain ⟨c', hc, e3, e4⟩ := old k c hk
    have := b.apart j k a' c' hjk ha hc
    rw [← e1, ← e2, ← e4]
    exact this
theorem drew_below (w : World) (q : Nat) : Below w.heap.size w (w.drewN q) := ⟨rfl, rfl, rfl, Nat.le_refl _, fun _ _ => rfl⟩
/-- a call that told a boolean and drew -/
theorem bag_QB {f : FuncId} {args : Array Value} {B : Bool} (b : Bag w0 w l) (hc : Calls Tryz.prog f args w (QB B w)) : Calls Tryz.prog f args w fun e w' => e = .returned (.bool B) ∧ Hid (Bag w0 w' l) :=
  hc.mono fun e w' ⟨he, q, hq⟩ => ⟨he, by subst hq; exact b.read (drew_below w q)⟩
theorem bag_quiet {f : FuncId} {args : Array Value} {v : Value} (b : Bag w0 w l) (hc : Calls Tryz.prog f args w fun e w' => e = .returned v ∧ w = w') : Calls Tryz.prog f args w fun e w' => e = .returned v ∧ Hid (Bag w0 w' l) :=
  hc.mono fun e w' ⟨he, hq⟩ => ⟨he, by subst hq; exact b⟩
def OfBag (w0 : World) (l : List VV) (n X : Nat) (e : Ending) (w' : World) : Prop := ∃ g h, e = .returned (.pointer (some ⟨g, 0, none⟩)) ∧ Hid (Bag w0 w' (l ++ [⟨g, h, n, X⟩]))
theorem bag_Of {f : FuncId} {args : Array Value} (b : Bag w0 w l) (hc : Calls Tryz.prog f args w (OfOk n X w)) : Calls Tryz.prog f args w (OfBag w0 l n X) :=
  hc.mono fun e w' ⟨g, h, he, h1, h2, hv, hb⟩ => ⟨g, h, he, b.add hb.out h1 h2 hv.out⟩
theorem bag_new (b : Bag w0 w l) (hn : n ≤ 256) : Calls Tryz.prog 63 #[.int .i64 (n : Int)] w (OfBag w0 l n 0) :=
  (new_ok n w hn).mono fun e w' ⟨g, h, he, h1, h2, hv, hb⟩ => ⟨g, h, he, b.add hb.out h1 h2 hv.out⟩
theorem bag_of {A : Option Addr} {m c : Nat} {zs : List Int} (b : Bag w0 w l) (hr : Row w0 w0.heap.size A m (nv zs)) (hm : m ≤ 4611686018427387904) (hn : n ≤ 256) : Calls Tryz.prog 43 #[.int .i64 (n : Int), .slice A m c] w (OfBag w0 l n (ofL n zs)) :=
  bag_Of b (of_any n A m c w0.heap.size zs w (hr.below b.below) b.below.size hm hn)
theorem bag_ofw {A : Option Addr} {m c : Nat} {zs : List Int} (b : Bag w0 w l) (hr : Row w w.heap.size A m (nv zs)) (hm : m ≤ 4611686018427387904) (hn : n ≤ 256) : Calls Tryz.prog 43 #[.int .i64 (n : Int), .slice A m c] w (OfBag w0 l n (ofL n zs)) :=
  bag_Of b (of_any n A m c w.heap.size zs w hr (Nat.le_refl _) hm hn)
theorem bag_copy (i : Nat) (b : Bag w0 w l) (hi : l[i]? = some ⟨g, h, n, X⟩) : Calls Tryz.prog 80 #[.pointer (some ⟨g, 0, none⟩)] w (OfBag w0 l n X) :=
  bag_Of b (copy_any g h n X w (b.at_ i g h n X hi).1)
theorem bag_len (i : Nat) (b : Bag w0 w l) (hi : l[i]? = some ⟨g, h, n, X⟩) : Calls Tryz.prog 38 #[.pointer (some ⟨g, 0, none⟩)] w fun e w' => e = .returned (.int .i64 (n : Int)) ∧ Hid (Bag w0 w' l) :=
  bag_quiet b (len_any g h n X w (b.at_ i g h n X hi).1)
theorem bag_has (i : Nat) (b : Bag w0 w l) (hi : l[i]? = some ⟨g, h, n, X⟩) (hj : j < n) : Calls Tryz.prog 41 #[.pointer (some ⟨g, 0, none⟩), .int .i64 (j : Int)] w fun e w' => e = .returned (.bool (X.testBit j)) ∧ Hid (Bag w0 w' l) :=
  bag_quiet b (has_in g h n X j w (b.at_ i g h n X hi).1 hj)
theorem bag_has_out (i : Nat) (b : Bag w0 w l) (hi : l[i]? = some ⟨g, h, n, X⟩) {z : Int} (hz : z < 0 ∨ (n : Int) ≤ z) : Calls Tryz.prog 41 #[.pointer (some ⟨g, 0, none⟩), .int .i64 z] w fun e w' => e = .returned (.bool false) ∧ Hid (Bag w0 w' l) :=
  bag_quiet b (has_no _ z w (within_out g h n X z w (b.at_ i g h n X hi).1 hz))
theorem bag_set (i : Nat) (b : Bag w0 w l) (hi : l[i]? = some ⟨g, h, n, X⟩) (hj : j < n) (on : Bool) : Calls Tryz.prog 58 #[.pointer (some ⟨g, 0, none⟩), .int .i64 (j : Int), .bool on] w fun e w' => e = .returned (.bool true) ∧ Hid (Bag w0 w' (l.set i ⟨g, h, n, put X j on⟩)) :=
  (set_in g h n X j on w (b.at_ i g h n X hi).1 hj).mono fun e w' ⟨he, hv, hg⟩ => ⟨he, b.write hi hg.out hv.out⟩
theorem bag_set_out (i : Nat) (b : Bag w0 w l) (hi : l[i]? = some ⟨g, h, n, X⟩) (z : Int) (on : Bool) (hz : z < 0 ∨ (n : Int) ≤ z) : Calls Tryz.prog 58 #[.pointer (some ⟨g, 0, none⟩), .int .i64 z, .bool on] w fun e w' => e = .returned (.bool false) ∧ Hid (Bag w0 w' l) :=
  bag_quiet b (set_no _ z on w (within_out g h n X z w (b.at_ i g h n X hi).1 hz))
theorem bag_xor (i j : Nat) (b : Bag w0 w l) (hij : i ≠ j) (hi : l[i]? = some ⟨g, h, n, X⟩) (hj : l[j]? = some ⟨g', h', n, Y⟩) : Calls Tryz.prog 62 #[.pointer (some ⟨g, 0, none⟩), .pointer (some ⟨g', 0, none⟩)] w fun e w' => e = .returned (.bool true) ∧ Hid (Bag w0 w' (l.set i ⟨g, h, n, X ^^^ Y⟩)) :=
  (xor_any g h n X g' h' Y w (b.at_ i g h n X hi).1 (b.at_ j g' h' n Y hj).1 (b.apart i j _ _ hij hi hj).2 (fun e => (b.apart j i _ _ (fun e => hij e.symm) hj hi).1 e.symm)).mono fun e w' ⟨he, hv, hg⟩ => ⟨he, b.write hi hg.out hv.out⟩
theorem bag_xor_ne (i j : Nat) (b : Bag w0 w l) (hi : l[i]? = some ⟨g, h, n, X⟩) (hj : l[j]? = some ⟨g', h', n', Y⟩) (hn : n ≠ n') : Calls Tryz.prog 62 #[.pointer (some ⟨g, 0, none⟩), .pointer (some ⟨g', 0, none⟩)] w fun e w' => e = .returned (.bool false) ∧ Hid (Bag w0 w' l) :=
  bag_QB b (xor_ne g h n X g' h' n' Y w (b.at_ i g h n X hi).1 (b.at_ j g' h' n' Y hj).1 hn)
theorem bag_first (i : Nat) (b : Bag w0 w l) (hi : l[i]? = some ⟨g, h, n, X⟩) : Calls Tryz.prog 40 #[.pointer (some ⟨g, 0, none⟩)] w fun e w' => e = .returned (.int .i64 (firstI (Ls X))) ∧ Hid (Bag w0 w' l) :=
  bag_quiet b (first_any g h n X w (b.at_ i g h n X hi).1 b.dtab)
def ListBag (w0 : World) (l : List VV) (X : Nat) (e : Ending) (w' : World) : Prop := ∃ A c, e = .returned (.slice A (Ls X).length c) ∧ Hid (Row w' w'.heap.size A (Ls X).length (nv ((Ls X).map fun i : Nat => (i : Int)))) ∧ Hid (Bag w0 w' l)
theorem bag_list (i : Nat) (b : Bag w0 w l) (hi : l[i]? = some ⟨g, h, n, X⟩) : Calls Tryz.prog 51 #[.pointer (some ⟨g, 0, none⟩)] w (ListBag w0 l X) :=
  (list_any g h n X w (b.at_ i g h n X hi).1 b.dtab).mono fun e w' ⟨A, c, he, ho, hb⟩ => ⟨A, c, he, Row.of_own ho.out, b.read hb.out⟩
def BytesBag (w0 : World) (l : List VV) (bs : List UInt8) (e : Ending) (w' : World) : Prop := ∃ A n c, e = .returned (.slice A n c) ∧ Hid (n = bs.length) ∧ Hid (Row w' w'.heap.size A n (bv bs)) ∧ Hid (Bag w0 w' l)
def FromBag (w0 : World) (l : List VV) (n X : Nat) (e : Ending) (w' : World) : Prop := ∃ g h, e = .returned (.tuple #[.pointer (some ⟨g, 0, none⟩), .bool true]) ∧ Hid (Bag w0 w' (l ++ [⟨g, h, n, X⟩]))
/-- what is written is read as it was -/
theorem fits_bl {X n : Nat} (hX : X < 2 ^ n) : fits n (bl X n) := by
  refine ⟨bl_length X n, fun h => ?_⟩
  have hb : bw n - 1 < bw n := by unfold bw; omega
  have e : (bl X n).getD (bw n - 1) 0 = byteU X (bw n - 1) := by
    rw [List.getD_eq_getElem?_getD]; unfold bl; rw [fill_get _ _ _ _ hb, if_pos hb]; rfl
  rw [e, byteU_toNat]
  apply Nat.lt_pow_two_of_testBit
  intro i hi
  rw [byteN_bit]
  by_cases h8 : i < 8
  · rw [Nat.testBit_lt_two_pow (Nat.lt_of_lt_of_le hX (Nat.pow_le_pow_right (by decide) (by unfold bw; omega)))]; simp
  · simp [h8]
theorem frN_bl {X n : Nat} (hX : X < 2 ^ n) : frN (bl X n) (bw n) = X := by
  apply Nat.eq_of_testBit_eq; intro i
  rw [frN_bit]
  by_cases hi : i / 8 < bw n
  · have e : (bl X n).getD (i / 8) 0 = byteU X (i / 8) := by
      rw [List.getD_eq_getElem?_getD]; unfold bl; rw [fill_get _ _ _ _ hi, if_pos hi]; rfl
    rw [e, byteU_toNat, byteN_bit]
    have h8 : i % 8 < 8 := by omega
    simp [hi, h8, show 8 * (i / 8) + i % 8 = i by omega]
  · rw [Nat.testBit_lt_two_pow (Nat.lt_of_lt_of_le hX (Nat.pow_le_pow_right (by decide) (by unfold bw at hi; omega)))]
    simp [hi]
end
theorem ofL_lt {n : Nat} (l : List Int) : ofL n l < 2 ^ n := by
  have key : ∀ (l : List Int) (X : Nat), X < 2 ^ n → l.foldl (setOne n) X < 2 ^ n := by
    intro l
    induction l with
    | nil => exact fun X h => h
    | cons z t ih =>
      intro X h
      refine ih _ ?_
      unfold setOne; split
      · exact set_lt h (by omega)
      · exact h
  exact key l 0 (Nat.two_pow_pos n)
theorem ls_lt (X : Nat) : (Ls X).length ≤ 256 := L_le X 256
end Go.Proofs.YtpmmolamdlcmnaaGreatDoor.Vc
namespace Go.Proofs.YtpmmolamdlcmnaaGreatDoor.Vc
open Go.RowKit
open VecM
/-- numbers that came in -/
def NumsIn (w : World) (A : Option Addr) (n : Nat) (zs : List Int) : Prop :=
  ∀ i, i < n → ∃ b o, A = some ⟨b, o, none⟩ ∧ b < w.heap.size ∧ w.cell? ⟨b, o + i, none⟩ = some (.int .i64 (zs.getD i 0)) ∧ -9223372036854775808 ≤ zs.getD i 0 ∧ zs.getD i 0 ≤ 9223372036854775807
theorem row_of_nums {w : World} {A : Option Addr} {n : Nat} {zs : List Int} (h : NumsIn w A n zs) : Row w w.heap.size A n (nv ((List.range n).map fun i => zs.getD i 0)) := by
  refine ⟨by simp [nv], fun hn => ?_⟩
  obtain ⟨b, o, e, hb, _⟩ := h 0 hn
  refine ⟨b, o, e, hb, fun j u hu => ?_⟩
  have hj : j < n := by have := (List.getElem?_eq_some_iff.1 hu).1; simpa [nv] using this
  obtain ⟨b2, o2, e2, _, hc, _⟩ := h j hj
  rw [e] at e2
  injection e2 with e2
  injection e2 with e3 e4
  subst e3 e4
  rw [hc, ← hu]
  simp [nv, hj]
theorem xor_back (X Y : Nat) : X ^^^ Y ^^^ Y = X := by rw [Nat.xor_assoc, Nat.xor_self, Nat.xor_zero]
theorem xor_zero_iff (X Y : Nat) : X ^^^ Y = 0 ↔ X = Y := by
  constructor
  · intro h
    have := xor_back X Y
    rw [h, Nat.zero_xor] at this
    exact this.symm
  · rintro rfl; exact Nat.xor_self X
theorem ls_zero {X n : Nat} (hX : X < 2 ^ n) (hn : n ≤ 256) : (Ls X).length = 0 ↔ X = 0 := by
  constructor
  · intro h
    exact L_nil (n := 256) (Nat.lt_of_lt_of_le hX (Nat.pow_le_pow_right (by decide) hn)) (List.eq_nil_of_length_eq_zero h)
  · rintro rfl; unfold Ls; rw [L_zero]; rfl
theorem L_snoc (X n : Nat) : L X (n + 1) = L X n ++ (if X.testBit n then [n] else []) := by
  unfold L
  rw [List.range_succ, List.filter_append]
  congr 1
  cases h : X.testBit n <;> simp [h]
theorem set_bit (X i j : Nat) : (X ||| 2 ^ i).testBit j = (X.testBit j || decide (i = j)) := by rw [Nat.testBit_or, Nat.testBit_two_pow]
theorem L_set (X i : Nat) (h : X.testBit i = false) : ∀ n, (L (X ||| 2 ^ i) n).length = (L X n).length + if i < n then 1 else 0
  | 0 => rfl
  | n + 1 => by
    rw [L_snoc, L_snoc, List.length_append, List.length_append, L_set X i h n, set_bit]
    by_cases e : i = n
    · subst e
      simp [h]
    · by_cases h1 : i < n
      · have h2 : i < n + 1 := by omega
        simp only [e, h1, h2, decide_false, Bool.or_false, if_true]; omega
      · have h2 : ¬ i < n + 1 := by omega
        simp only [e, h1, h2, decide_false, Bool.or_false, if_false]; omega
theorem set_clr (X i : Nat) (h : X.testBit i = true) : clr X i ||| 2 ^ i = X := by
  apply Nat.eq_of_testBit_eq; intro j
  rw [set_bit, clr_bit]
  by_cases e : i = j
  · subst e; simp [h]
  · have e2 : j ≠ i := fun e' => e e'.symm
    simp [e, e2]
theorem clr_set (X i : Nat) (h : X.testBit i = false) : clr (X ||| 2 ^ i) i = X := by
  apply Nat.eq_of_testBit_eq; intro j
  rw [clr_bit, set_bit]
  by_cases e : i = j
  · subst e; simp [h]
  · have e2 : j ≠ i := fun e' => e e'.symm
    simp [e, e2]
/-- the other way round, and back -/
theorem put_facts (X i : Nat) (b : Bool) (h : X.testBit i = b) (hi : i < 256) : (put X i (!b)).testBit i = (!b) ∧ X ≠ put X i (!b) ∧ put (put X i (!b)) i b = X ∧ (if b then (Ls (put X i (!b))).length + 1 = (Ls X).length else (Ls (put X i (!b))).length = (Ls X).length + 1) := by
  cases b with
  | true =>
    have e : put X i (!true) = clr X i := rfl
    rw [e]
    have h1 : (clr X i).testBit i = false := by rw [clr_bit]; simp
    refine ⟨h1, fun e => ?_, set_clr X i h, ?_⟩
    · rw [← e, h] at h1; cases h1
    · have h2 := L_set (clr X i) i h1 256
      rw [set_clr X i h, if_pos hi] at h2
      exact h2.symm
  | false =>
    have e : put X i (!false) = X ||| 2 ^ i := rfl
    rw [e]
    have h1 : (X ||| 2 ^ i).testBit i = true := by rw [set_bit]; simp
    refine ⟨h1, fun e => ?_, clr_set X i h, ?_⟩
    · rw [← e, h] at h1; cases h1
    · have h2 := L_set X i h 256
      rw [if_pos hi] at h2
      exact h2
theorem foldl_bit (n j : Nat) : ∀ (l : List Int) (X : Nat), (l.foldl (setOne n) X).testBit j = (X.testBit j || (decide (j < n) && decide ((j : Int) ∈ l)))
  | [], X => by simp
  | z :: t, X => by
    rw [List.foldl_cons, foldl_bit n j t]
    unfold setOne
    by_cases hz : 0 ≤ z ∧ z < (n : Int)
    · rw [if_pos hz, Nat.testBit_or, Nat.testBit_two_pow]
      by_cases e : z.toNat = j
      · have h1 : (j : Int) = z := by omega
        have h2 : j < n := by omega
        simp [e, h1, h2]
      · have h1 : ¬ (j : Int) = z := by omega
        simp [e, h1]
    · rw [if_neg hz]
      by_cases h2 : j < n
      · have h1 : ¬ (j : Int) = z := by omega
        simp [h1]
      · simp [h2]
theorem ofL_bit (n j : Nat) (l : List Int) : (ofL n l).testBit j = (decide (j < n) && decide ((j : Int) ∈ l)) := by
  unfold ofL; rw [foldl_bit]; simp
theorem ofL_mem (n : Nat) (l m : List Int) (h : ∀ z, z ∈ l ↔ z ∈ m) : ofL n l = ofL n m := by
  apply Nat.eq_of_testBit_eq; intro j
  rw [ofL_bit, ofL_bit]
  simp [h]
theorem ofL_turn (n k : Nat) (l : List Int) : ofL n (l.drop k ++ l ++ l.take k) = ofL n l := by
  apply ofL_mem
  intro z
  simp only [List.mem_append]
  constructor
  · rintro ((h | h) | h)
    · exact List.mem_of_mem_drop h
    · exact h
    · exact List.mem_of_mem_take h
  · exact fun h => .inl (.inr h)
theorem ofL_Ls {X n : Nat} (hX : X < 2 ^ n) (hn : n ≤ 256) : ofL n ((Ls X).map fun i : Nat => (i : Int)) = X := by
  apply Nat.eq_of_testBit_eq; intro j
  rw [ofL_bit]
  by_cases h : j < n
  · have h1 : ((j : Int) ∈ (Ls X).map fun i : Nat => (i : Int)) ↔ X.testBit j = true := by
      simp only [List.mem_map]
      constructor
      · rintro ⟨i, hi, e⟩
        have : i = j := by omega
        subst this
        exact ((mem_L X 256 i).1 hi).2
      · exact fun h2 => ⟨j, (mem_L X 256 j).2 ⟨by omega, h2⟩, rfl⟩
    cases hb : X.testBit j with
    | true => simp only [h, decide_true, Bool.true_and, decide_eq_true_iff]; exact h1.2 hb
    | false => simp only [h, decide_true, Bool.true_and, decide_eq_false_iff_not]; exact fun h2 => by rw [h1.1 h2] at hb; cases hb
  · rw [Nat.testBit_lt_two_pow (Nat.lt_of_lt_of_le hX (Nat.pow_le_pow_right (by decide) (by omega)))]
    simp [h]
theorem nv_one (l : List Int) : ∀ u ∈ nv l, u.oneCell' = true := by
  intro u hu
  simp only [nv, List.mem_map] at hu
  obtain ⟨x, _, rfl⟩ := hu
  rfl
theorem nv_drop (l : List Int) (k : Nat) : (nv l).drop k = nv (l.drop k) := by simp [nv]
theorem nv_take (l : List Int) (k : Nat) : (nv l).take k = nv (l.take k) := by simp [nv]
end Go.Proofs.YtpmmolamdlcmnaaGreatDoor.Vc
namespace Go.Proofs.YtpmmolamdlcmnaaGreatDoor
open Go.RowKit
namespace RdM
def sh (x : Int) : Int :=
  let y := if x = 0 then 1 else x
  let a := bits .xor .u32 y (y * 8192 % 4294967296)
  let b := bits .xor .u32 a (a / 131072)
  bits .xor .u32 b (b * 32 % 4294967296)
def mx (x : Int) : Int :=
  let a := bits .xor .u32 x (x / 65536)
  let b := a * 2146121005 % 4294967296
  let c := bits .xor .u32 b (b / 32768)
  let d := c * 2221713035 % 4294967296
  bits .xor .u32 d (d / 65536)
theorem xor_bounds (a b : Int) : 0 ≤ bits .xor .u32 a b ∧ bits .xor .u32 a b ≤ 4294967295 := by
  have h := wf_bits .xor .u32 a b
  simpa [Lit.wf, IntKind.min, IntKind.max, IntKind.signed, IntKind.bits] using h
theorem sh_bounds (x : Int) : 0 ≤ sh x ∧ sh x ≤ 4294967295 := xor_bounds _ _
theorem mx_bounds (x : Int) : 0 ≤ mx x ∧ mx x ≤ 4294967295 := xor_bounds _ _
/-- the number below n that a source in state x tells -/
def bl (x n : Int) : Int := mx (sh x) * n / 4294967296
theorem mul_bounds (y n : Int) (h0 : 0 ≤ y) (h1 : y ≤ 4294967295) (h2 : 1 ≤ n) (h3 : n ≤ 2147483648) : 0 ≤ y * n ∧ y * n ≤ 9223372034707292160 ∧ 0 ≤ y * n / 4294967296 ∧ y * n / 4294967296 < n := by
  have a0 : 0 ≤ y * n := Int.mul_nonneg h0 (by omega)
  have a1 : y * n ≤ 4294967295 * n := Int.mul_le_mul_of_nonneg_right h1 (by omega)
  refine ⟨a0, by omega, by omega, by omega⟩
theorem bl_bounds (x n : Int) (h2 : 1 ≤ n) (h3 : n ≤ 2147483648) : 0 ≤ bl x n ∧ bl x n < n := by
  obtain ⟨h0, h1⟩ := mx_bounds (sh x)
  obtain ⟨_, _, h4, h5⟩ := mul_bounds _ n h0 h1 h2 h3
  exact ⟨h4, h5⟩
/-- the state behind k numbers -/
def shk (x : Int) : Nat → Int
  | 0 => x
  | k + 1 => sh (shk x k)
def swapL (p : List Int) (i j : Nat) : List Int := (p.set i (p.getD j 0)).set j (p.getD i 0)
theorem swapL_length (p : List Int) (i j : Nat) : (swapL p i j).length = p.length := by simp [swapL]
theorem swap_perm (p : List Int) (i j : Nat) (hi : i < p.length) (hj : j < p.length) : (swapL p i j).Perm p := by
  have e : swapL p i j = (p.set i p[j]).set j p[i] := by simp [swapL, List.getD, hi, hj]
  rw [e]
  exact List.set_set_perm hi hj
def ids (n : Nat) : List Int := (List.range n).map fun (j : Nat) => (j : Int)
theorem ids_length (n : Nat) : (ids n).length = n := by simp [ids]
/-- the list behind i exchanges, of n numbers, from state x -/
def go (n : Nat) (x : Int) : Nat → List Int
  | 0 => ids n
  | i + 1 => swapL (go n x i) i (i + (bl (shk x i) ((n : Int) - i)).toNat)
theorem go_length (n : Nat) (x : Int) (i : Nat) : (go n x i).length = n := by
  induction i with
  | zero => exact ids_length n
  | succ i ih => show (swapL _ _ _).length = n; rw [swapL_length, ih]
theorem go_perm (n : Nat) (hn : n ≤ 2147483648) (x : Int) (i : Nat) (hi : i ≤ n) : (go n x i).Perm (ids n) := by
  induction i with
  | zero => exact List.Perm.refl _
  | succ i ih =>
    have hb := bl_bounds (shk x i) ((n : Int) - i) (by omega) (by omega)
    exact (swap_perm _ _ _ (by rw [go_length]; omega) (by rw [go_length]; omega)).trans (ih (by omega))
/-- k of n numbers, rising -/
def some_ (n : Nat) (x : Int) (k : Nat) : List Int := ((go n x k).take k).mergeSort fun a b => decide (a ≤ b)
theorem some_length (n : Nat) (x : Int) (k : Nat) (h : k ≤ n) : (some_ n x k).length = k := by
  simp [some_, List.length_mergeSort, go_length]; omega
theorem nodup_ne {α : Type} {l : List α} : l.Nodup ↔ l.Pairwise fun a b => a ≠ b := Iff.rfl
theorem ids_nodup (n : Nat) : (ids n).Nodup := by
  unfold ids
  rw [nodup_ne, List.pairwise_map]
  exact (nodup_ne.1 List.nodup_range).imp (by intro a b h; omega)
theorem some_sub (n : Nat) (hn : n ≤ 2147483648) (x : Int) (k : Nat) (h : k ≤ n) : (some_ n x k).Nodup ∧ ∀ a ∈ some_ n x k, 0 ≤ a ∧ a < n := by
  have hp : (some_ n x k).Perm ((go n x k).take k) := List.mergeSort_perm _ _
  have hsub : ((go n x k).take k).Sublist (go n x k) := List.take_sublist _ _
  have hg := go_perm n hn x k h
  constructor
  · exact hp.nodup_iff.2 ((hg.nodup_iff.2 (ids_nodup n)).sublist hsub)
  · intro a ha
    have := hg.mem_iff.1 (hsub.mem (hp.mem_iff.1 ha))
    simp only [ids, List.mem_map, List.mem_range] at this
    obtain ⟨j, hj, rfl⟩ := this
    omega
theorem some_sorted (n : Nat) (x : Int) (k : Nat) : (some_ n x k).Pairwise fun a b => a ≤ b := by
  have := List.pairwise_mergeSort (le := fun (a b : Int) => decide (a ≤ b)) (by intro a b c h1 h2; simp at *; omega) (by intro a b; simp; omega) ((go n x k).take k)
  exact this.imp (by intro a b h; simpa using h)
theorem some_rises (n : Nat) (hn : n ≤ 2147483648) (x : Int) (k : Nat) (h : k ≤ n) (i : Nat) (hi : i + 1 < (some_ n x k).length) : (some_ n x k)[i] < (some_ n x k)[i + 1] := by
  have h1 := (List.pairwise_iff_getElem.1 (some_sorted n x k)) i (i + 1) (by omega) hi (by omega)
  have h2 := (List.pairwise_iff_getElem.1 (nodup_ne.1 (some_sub n hn x k h).1)) i (i + 1) (by omega) hi (by omega)
  omega
theorem some_all (n : Nat) (hn : n ≤ 2147483648) (x : Int) : some_ n x n = ids n := by
  have hp : (some_ n x n).Perm (ids n) := (List.mergeSort_perm _ _).trans (by rw [List.take_of_length_le (by rw [go_length]; exact Nat.le_refl _)]; exact go_perm n hn x n (Nat.le_refl _))
  refine List.Perm.eq_of_pairwise (le := fun (a b : Int) => a ≤ b) (fun a b _ _ h1 h2 => by omega) (some_sorted n x n) ?_ hp
  unfold ids
  rw [List.pairwise_map]
  exact List.pairwise_lt_range.imp (by intro a b h; omega)
end RdM
end Go.Proofs.YtpmmolamdlcmnaaGreatDoor
