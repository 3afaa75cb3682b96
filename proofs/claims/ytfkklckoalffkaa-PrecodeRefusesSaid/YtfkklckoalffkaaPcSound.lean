/- layer 9's laws: parameters that may be, and pieces of them. -/
import Derived.Test.YtfkklckoalffkaaPcAwake
import Derived.Laws.ResultCell
import Derived.Laws.Rows
namespace Go.Proofs.Ytfkklckoalffkaa.Pc
open Go.RowKit
open VecM RdM Vc Sp
theorem results_cell_row {P : Program} {fn : Func} {p u : Tmp} {ty : TypeId} (h : fn.results = #[.cell p ty, .tmp u]) (tmps : Array Value) (w : World) (g : Nat) (t : TypeId) (cs : Array Value) (fr : Nat × Nat) (d : TypeDesc)
    (hp : tmps.getD p undef = .pointer (some ⟨g, 0, none⟩)) (hg : w.heap[g]? = some (.cells cs t fr))
    (hu : P.underlying ty = some d) (hd : (match d with | .struct _ | .array _ _ => true | _ => false) = true) (hi : (P.info? ty).map (·.size) = some cs.size) :
    (results fn tmps).run P w = .ok (.tuple #[.agg cs, tmps.getD u undef]) w := by
  rw [results_cell_tmp h, hp]
  simp [asAddr, run_loadVar_row w g t ty cs fr d hg hu hd hi]
theorem setBox {w : World} {g : Nat} {t : TypeId} {z0 z1 z2 z3 : Value} (h : w.heap[g]? = some (.cells #[z0, z1, z2, z3] t (0, 0))) (v0 v1 v2 v3 : Value) :
    ((((w.setCell ⟨g, 0, none⟩ v0).setCell ⟨g, 1, none⟩ v1).setCell ⟨g, 2, none⟩ v2).setCell ⟨g, 3, none⟩ v3).heap[g]? = some (.cells #[v0, v1, v2, v3] t (0, 0)) := by
  have h0 : (w.setCell ⟨g, 0, none⟩ v0).heap[g]? = some (.cells #[v0, z1, z2, z3] t (0, 0)) := heap_setCell_same _ g 0 _ t v0 h
  have h1 : ((w.setCell ⟨g, 0, none⟩ v0).setCell ⟨g, 1, none⟩ v1).heap[g]? = some (.cells #[v0, v1, z2, z3] t (0, 0)) := heap_setCell_same _ g 1 _ t v1 h0
  have h2 : (((w.setCell ⟨g, 0, none⟩ v0).setCell ⟨g, 1, none⟩ v1).setCell ⟨g, 2, none⟩ v2).heap[g]? = some (.cells #[v0, v1, v2, z3] t (0, 0)) := heap_setCell_same _ g 2 _ t v2 h1
  exact heap_setCell_same _ g 3 _ t v3 h2
theorem frozenBox {w : World} {g : Nat} {x y z u : Value} {t : TypeId} (h : w.heap[g]? = some (.cells #[x, y, z, u] t (0, 0))) : w.frozen? ⟨g, 0, none⟩ = false ∧ w.frozen? ⟨g, 1, none⟩ = false ∧ w.frozen? ⟨g, 2, none⟩ = false ∧ w.frozen? ⟨g, 3, none⟩ = false :=
  ⟨frozen_of_row w g 0 _ _ h, frozen_of_row w g 1 _ _ h, frozen_of_row w g 2 _ _ h, frozen_of_row w g 3 _ _ h⟩
theorem PW.set {ls : List (List UInt8)} {base b i : Nat} {v u : Value} {w : World} (h : PW ls base v w) (hb : b < base) : PW ls base v (w.setCell ⟨b, i, none⟩ u) := by
  obtain ⟨es, h1, h2, h3⟩ := h
  refine ⟨es, h1, h2.kept (grown_set1 w b i u) (.inr (fun e => by have := (h2.lt b e).1; omega)), fun r hr => ?_⟩
  obtain ⟨g, a, q, c⟩ := h3 r hr
  exact ⟨g, a, q, c.kept (grown_set1 w b i u) (.inr (fun e => by have := (c.lt b e).1; omega))⟩
theorem store_byte {wx : World} {g Z base m : Nat} {X : Int} {a : List UInt8} (ha : a.length = Z) (ho : wx.ownsRow base 5 1 (.slice (some ⟨g, 0, none⟩) Z Z) Z (bv a)) (hX : 0 ≤ X ∧ X < 256) :
    Hid (∃ a' : List UInt8, a'.length = Z ∧ (wx.setCell ⟨g, m, none⟩ (.int .u8 X)).ownsRow base 5 1 (.slice (some ⟨g, 0, none⟩) Z Z) Z (bv a')) := by
  refine ⟨a.set m (UInt8.ofNat X.toNat), by simpa using ha, ?_⟩
  have h := (ho.stored m (.int .u8 X)).1
  have e : bv (a.set m (UInt8.ofNat X.toNat)) = (bv a).set m (.int .u8 X) := by
    unfold bv
    rw [List.map_set]
    congr 1
    have : (UInt8.ofNat X.toNat).toNat = X.toNat := by rw [UInt8.toNat_ofNat']; omega
    simp [this]
    omega
  rw [e]
  exact h
def SoundOk9 (s : Nat) (w : World) (e : Ending) (w' : World) : Prop := ∃ (K P Z : Nat) (ls : List (List UInt8)) (v : Value), e = .returned (.tuple #[parV s K P Z, v]) ∧ Hid ((1 ≤ K ∧ K ≤ 64) ∧ P ≤ 16 ∧ (1 ≤ Z ∧ Z ≤ 16)) ∧ Hid (PW ls w.heap.size v w' ∧ ls.length = K ∧ ∀ l ∈ ls, l.length = Z) ∧ Hid (Below w.heap.size w w')
set_option maxRecDepth 100000 in
set_option maxHeartbeats 1600000 in
theorem sound9_any (s sd : Nat) (K0 P0 Z0 : Int) (w : World) (hsd : sd < 256) : Calls Try.prog 5 #[parV s K0 P0 Z0, .int .u8 (sd : Int)] w (SoundOk9 s w) := by
  obtain ⟨i0, hi, hz0, hz1, hz2⟩ := info_parts Try.info28
  obtain ⟨k, hk, hkp⟩ := pick_in K0 64 (by omega) (by omega)
  obtain ⟨p, hp, hpp⟩ := pick_in P0 17 (by omega) (by omega)
  obtain ⟨z, hz, hzp⟩ := pick_in Z0 16 (by omega) (by omega)
  have HKP := Lib.hid hkp
  have HPP := Lib.hid hpp
  have HZP := Lib.hid hzp
  obtain ⟨K, hK1⟩ : ∃ K : Nat, 1 + (k : Int) = (K : Int) := ⟨k + 1, by omega⟩
  obtain ⟨Z, hZ1⟩ : ∃ Z : Nat, 1 + (z : Int) = (Z : Int) := ⟨z + 1, by omega⟩
  have HK1 := Lib.hid hK1
  have HZ1 := Lib.hid hZ1
  have hk64 : k ≤ 63 := by omega
  have hz16 : z ≤ 15 := by omega
  have HF : Hid ((1 ≤ K ∧ K ≤ 64) ∧ p ≤ 16 ∧ (1 ≤ Z ∧ Z ≤ 16)) := ⟨by omega, by omega, by omega⟩
  have hx1 := heap_alloc2_old w (.cells #[.int .u32 (s : Int), .int .i64 K0, .int .i64 P0, .int .i64 Z0] 24) (.cells #[.int .u32 0, .int .i64 0, .int .i64 0, .int .i64 0] 24)
  have hx2 := heap_alloc2_new w (.cells #[.int .u32 (s : Int), .int .i64 K0, .int .i64 P0, .int .i64 Z0] 24) (.cells #[.int .u32 0, .int .i64 0, .int .i64 0, .int .i64 0] 24)
  have hb0 : Below w.heap.size w ((w.alloc (.cells #[.int .u32 (s : Int), .int .i64 K0, .int .i64 P0, .int .i64 Z0] 24)).alloc (.cells #[.int .u32 0, .int .i64 0, .int .i64 0, .int .i64 0] 24)) := ((Below.refl _ _).alloc (Nat.le_refl _) _).alloc (by simp) _
  have hsz : ((w.alloc (.cells #[.int .u32 (s : Int), .int .i64 K0, .int .i64 P0, .int .i64 Z0] 24)).alloc (.cells #[.int .u32 0, .int .i64 0, .int .i64 0, .int .i64 0] 24)).heap.size = w.heap.size + 2 := by simp
  have HSZ := Lib.hid hsz
  have HX1 := Lib.hid hx1
  have HX2 := Lib.hid hx2
  have HB0 := Lib.hid hb0
  unfold parV
  clear hkp hpp hzp hk hp hz hK1 hZ1 hx1 hx2 hb0 hsz
  go_enter Try.func5, Try.ntmps5
  go_upto_region 1 with fail
  have hx1 := HX1.out
  have hx2 := HX2.out
  have hb0 := HB0.out
  have hsz := HSZ.out
  clear HX1 HX2 HB0 HSZ
  generalize ((w.alloc (.cells #[.int .u32 (s : Int), .int .i64 K0, .int .i64 P0, .int .i64 Z0] 24)).alloc (.cells #[.int .u32 0, .int .i64 0, .int .i64 0, .int .i64 0] 24)) = w0 at *
  obtain ⟨c0, c1, c2, c3⟩ := box4 hx1
  obtain ⟨f0, f1, f2, f3⟩ := frozenBox hx1
  have HX1 := Lib.hid hx1
  have HX2 := Lib.hid hx2
  have HB0 := Lib.hid hb0
  have HSZ := Lib.hid hsz
  clear hx1 hx2 hb0 hsz
  go_upto_region 2 with (first | rw [HKP.out] | rw [HK1.out] | rw [HPP.out] | rw [HZP.out] | rw [HZ1.out])
  have hst := setBox HX1.out (.int .u32 (s : Int)) (.int .i64 (K : Int)) (.int .i64 (p : Int)) (.int .i64 (Z : Int))
  have hbs : Below w.heap.size w ((((w0.setCell ⟨w.heap.size, 0, none⟩ (.int .u32 (s : Int))).setCell ⟨w.heap.size, 1, none⟩ (.int .i64 (K : Int))).setCell ⟨w.heap.size, 2, none⟩ (.int .i64 (p : Int))).setCell ⟨w.heap.size, 3, none⟩ (.int .i64 (Z : Int))) := (((HB0.out.setCell (Nat.le_refl _) _).setCell (Nat.le_refl _) _).setCell (Nat.le_refl _) _).setCell (Nat.le_refl _) _
  have hsz : ((((w0.setCell ⟨w.heap.size, 0, none⟩ (.int .u32 (s : Int))).setCell ⟨w.heap.size, 1, none⟩ (.int .i64 (K : Int))).setCell ⟨w.heap.size, 2, none⟩ (.int .i64 (p : Int))).setCell ⟨w.heap.size, 3, none⟩ (.int .i64 (Z : Int))).heap.size = w.heap.size + 2 := by simp [HSZ.out]
  have ho2 : ((((w0.setCell ⟨w.heap.size, 0, none⟩ (.int .u32 (s : Int))).setCell ⟨w.heap.size, 1, none⟩ (.int .i64 (K : Int))).setCell ⟨w.heap.size, 2, none⟩ (.int .i64 (p : Int))).setCell ⟨w.heap.size, 3, none⟩ (.int .i64 (Z : Int))).heap[w.heap.size + 1]? = some (.cells #[.int .u32 0, .int .i64 0, .int .i64 0, .int .i64 0] 24 (0, 0)) := by
    have hb : Below (w.heap.size + 1) w0 w0 := Below.refl _ _
    rw [Below.heap_setCell _ _ _ _ (by show w.heap.size + 1 ≠ w.heap.size; omega), Below.heap_setCell _ _ _ _ (by show w.heap.size + 1 ≠ w.heap.size; omega), Below.heap_setCell _ _ _ _ (by show w.heap.size + 1 ≠ w.heap.size; omega), Below.heap_setCell _ _ _ _ (by show w.heap.size + 1 ≠ w.heap.size; omega)]
    exact HX2.out
  generalize ((((w0.setCell ⟨w.heap.size, 0, none⟩ (.int .u32 (s : Int))).setCell ⟨w.heap.size, 1, none⟩ (.int .i64 (K : Int))).setCell ⟨w.heap.size, 2, none⟩ (.int .i64 (p : Int))).setCell ⟨w.heap.size, 3, none⟩ (.int .i64 (Z : Int))) = W1 at *
  obtain ⟨b0, b1, b2, b3⟩ := box4 hst
  have HST := Lib.hid hst
  have HBS := Lib.hid hbs
  have HSZ1 := Lib.hid hsz
  have HO2 := Lib.hid ho2
  clear c0 c1 c2 c3 f0 f1 f2 f3 hst hbs hsz ho2 HX1 HX2 HB0 HSZ HKP HPP HZP HK1 HZ1 hk64 hz16
  go_wp2_with fail
  clear b0 b1 b2 b3
  have hp16 : Z ≤ 16 := by have := HF.out; omega
  obtain ⟨G, hG⟩ : ∃ G, w.heap.size + 2 = G := ⟨_, rfl⟩
  have HG := Lib.hid hG
  rw [hG] at HSZ1
  clear hG
  go_loopw [6, 32] (fun v i wr => ∃ k : Nat, k ≤ K ∧ i = .int .i64 k ∧ Hid (∃ ls : List (List UInt8), ls.length = k ∧ (∀ l ∈ ls, l.length = Z) ∧ PW ls G v wr) ∧ Hid (Below G W1 wr)) (fun _ i _ => K - (intOf i).toNat)
  case atStart => exact ⟨0, by omega, rfl, Lib.hid ⟨[], rfl, fun l hl => by (cases hl), [], rfl, World.ownsRow_nil _ _ _ _, fun r hr => by (cases hr)⟩, Lib.hid (Below.refl _ _)⟩
  case round =>
    obtain ⟨k2, hk2, rfl, hls, hbk⟩ := hrel
    obtain ⟨wq, rfl⟩ : ∃ wq : World, wq = wr := ⟨_, rfl⟩
    have hG4 : G ≤ wq.heap.size := by have := hbk.out.size; have := HSZ1.out; omega
    by_cases hlt : k2 < K
    · obtain ⟨c0, c1, c2, c3⟩ := box4 ((hbk.out.block w.heap.size (by have := HG.out; omega)).trans HST.out)
      have hm2 := mk_bytes Z (by omega) wq
      have hki : (k2 : Int) < (K : Int) := by omega
      have hk64 : (K : Int) ≤ 64 := by have := HF.out; omega
      obtain ⟨ls, l1, l2, fs, f1, f2, f3⟩ := hls.out
      rw [l1] at f2
      obtain ⟨Av, cv, rfl, _⟩ := own_slice f2
      have HF2 := Lib.hid f2
      have HF1 := Lib.hid f1
      have HF3 := Lib.hid f3
      have HL1 := Lib.hid l1
      have HL2 := Lib.hid l2
      have HG4 := Lib.hid hG4
      clear hls f1 f2 f3 l1 l2 hG4
      go_wp2_with fail
      clear hm2 c0 c1 c2 c3
      have HOW : Hid ((wq.alloc (.cells (Array.replicate Z (.int .u8 0)) 5)).ownsRow wq.heap.size 5 1 (.slice (some ⟨wq.heap.size, 0, none⟩) Z Z) Z (bv (List.replicate Z 0))) := by
        show World.ownsRow _ _ _ _ _ _ _
        have := own_lit (w := wq) (base := wq.heap.size) (g := wq.heap.size) (n := Z) (e := 5) (Array.replicate Z (.int .u8 0)) rfl (Nat.le_refl _) (by simp) (by unfold maxLen; omega)
        simpa [bv] using this
      have HAL : Hid (Below wq.heap.size wq (wq.alloc (.cells (Array.replicate Z (.int .u8 0)) 5))) := (Below.refl _ _).alloc (Nat.le_refl _) _
      generalize (wq.alloc (.cells (Array.replicate Z (.int .u8 0)) 5)) = w4 at *
      obtain ⟨g, hg⟩ : ∃ g, wq.heap.size = g := ⟨_, rfl⟩
      have HGR := Lib.hid hg
      rw [hg] at HOW ⊢
      clear hg
      go_loopw [40] (fun i wx => ∃ m : Nat, m ≤ Z ∧ i = .int .i64 m ∧ Hid (∃ a : List UInt8, a.length = Z ∧ wx.ownsRow g 5 1 (.slice (some ⟨g, 0, none⟩) Z Z) Z (bv a)) ∧ Hid (Below g wq wx)) (fun i _ => Z - (intOf i).toNat)
      case atStart => exact ⟨0, by omega, rfl, Lib.hid ⟨_, by simp, HOW.out⟩, by rw [← HGR.out]; exact HAL⟩
      case round =>
        obtain ⟨m, hm, rfl, hoa, hbm⟩ := hrel
        by_cases hlt2 : m < Z
        · obtain ⟨a, ha, ho⟩ := hoa.out
          have hfz := ho.frozenAt m
          have hcs := (ho.cellAt m (by omega)).trans (bv_getD a m (by omega))
          have hmi : (m : Int) < (Z : Int) := by omega
          have hz16 : (Z : Int) ≤ 16 := by omega
          have HO := Lib.hid ho
          have HA := Lib.hid ha
          clear hoa ho ha HOW HAL
          generalize a.getD m 0 = u at *
          go_wp2_with fail
          go_roundw
          case rel => exact ⟨m + 1, by omega, by go_num, store_byte HA.out HO.out (by omega), Lib.hid (hbm.out.setCell (Nat.le_refl _) _)⟩
          case measure => simp [intOf]; omega
        · obtain rfl : Z = m := by omega
          clear hlt2 HOW HAL
          obtain ⟨a, ha, ho⟩ := hoa.out
          obtain ⟨w5, rfl⟩ : ∃ w5 : World, w5 = wr := ⟨_, rfl⟩
          have HB5 : Hid (Below wq.heap.size wq w5) := by rw [HGR.out]; exact hbm
          have HO5 : Hid (w5.ownsRow wq.heap.size 5 1 (.slice (some ⟨g, 0, none⟩) Z Z) Z (bv a)) := by rw [HGR.out]; exact Lib.hid ho
          have HA := Lib.hid ha
          clear hoa ho ha hbm
          go_wp2_with (at_builtin; refine wpList_app rfl (.tmp 58) (.tmp 60) 25 rfl G 28 i0 (.slice none 0 0) 24 Try.underlying25 hi hz0 hz1 hz2 rfl _ k2 _ rfl (own_below HF2.out (HB5.out.alloc HB5.out.size _)) _ _ 1 1 _ rfl (row_new w5 _ _ _) (by intro u hu; simp at hu; subst hu; rfl) (by unfold maxLen; omega) (by omega) (Nat.le_trans HG4.out (HB5.out.alloc HB5.out.size _).size) ?_; intro v6 w6 hown6 hg6 hat6)
          have hbW := HB5.out.alloc HB5.out.size (.cells #[.slice (some ⟨g, 0, none⟩) Z Z] 28)
          have hnext : Hid (∃ ls : List (List UInt8), ls.length = k2 + 1 ∧ (∀ l ∈ ls, l.length = Z) ∧ PW ls G v6 w6) := Lib.hid ⟨ls ++ [a], by simp [HL1.out], fun l hl => by
            rcases List.mem_append.1 hl with h | h
            · exact HL2.out l h
            · rw [List.mem_singleton.1 h]; exact HA.out,
            PW.app HL1.out HF1.out HF2.out HF3.out hbW (own_below HO5.out ((Below.refl _ _).alloc (Nat.le_refl _) _)) HG4.out hown6 hg6 hat6⟩
          have hbn : Hid (Below G W1 w6) := Lib.hid (below_app (hbk.out.trans (hbW.mono HG4.out)) (Nat.le_trans HG4.out hbW.size) (own_below HF2.out hbW) (Nat.le_refl _) hg6)
          clear hbW hown6 hg6 hat6 hbk HF1 HF2 HF3 HL1 HL2 HO5 HB5 HA
          go_wp2_with fail
          go_roundw
          case rel => exact ⟨k2 + 1, by omega, by go_num, hnext, hbn⟩
          case measure => simp [intOf]; omega
    · obtain rfl : K = k2 := by omega
      clear hlt
      obtain ⟨ls, l1, l2, hpw⟩ := hls.out
      have hbx2 := (hbk.out.block (w.heap.size + 1) (by have := HG.out; omega)).trans HO2.out
      obtain ⟨c0, c1, c2, c3⟩ := box4 ((hbk.out.block w.heap.size (by have := HG.out; omega)).trans HST.out)
      obtain ⟨d0, d1, d2, d3⟩ := box4 hbx2
      obtain ⟨f0, f1, f2, f3⟩ := frozenBox hbx2
      have HP4 := Lib.hid ((((hpw.set (b := w.heap.size + 1) (i := 0) (u := .int .u32 (s : Int)) (by have := HG.out; omega)).set (b := w.heap.size + 1) (i := 1) (u := .int .i64 (K : Int)) (by have := HG.out; omega)).set (b := w.heap.size + 1) (i := 2) (u := .int .i64 (p : Int)) (by have := HG.out; omega)).set (b := w.heap.size + 1) (i := 3) (u := .int .i64 (Z : Int)) (by have := HG.out; omega))
      have HB4 : Hid (Below w.heap.size w ((((wq.setCell ⟨w.heap.size + 1, 0, none⟩ (.int .u32 (s : Int))).setCell ⟨w.heap.size + 1, 1, none⟩ (.int .i64 (K : Int))).setCell ⟨w.heap.size + 1, 2, none⟩ (.int .i64 (p : Int))).setCell ⟨w.heap.size + 1, 3, none⟩ (.int .i64 (Z : Int)))) := Lib.hid (((((HBS.out.trans (hbk.out.mono (by have := HG.out; omega))).setCell (Nat.le_succ _) _).setCell (Nat.le_succ _) _).setCell (Nat.le_succ _) _).setCell (Nat.le_succ _) _)
      have HBX2 := Lib.hid hbx2
      have HL1 := Lib.hid l1
      have HL2 := Lib.hid l2
      clear hls hpw l1 l2 hbx2 hbk
      go_wp2_with fail
      have hrow := setBox HBX2.out (.int .u32 (s : Int)) (.int .i64 (K : Int)) (.int .i64 (p : Int)) (.int .i64 (Z : Int))
      refine bodyPost_ret (results_cell_row rfl _ _ (w.heap.size + 1) _ _ (0, 0) _ rfl hrow Try.underlying24 rfl (by kernel_rfl)) rfl ?_
      exact ⟨K, p, Z, ls, _, rfl, HF, Lib.hid ⟨HP4.out.mono (by have := HG.out; omega), HL1.out, HL2.out⟩, HB4⟩
end Go.Proofs.Ytfkklckoalffkaa.Pc
