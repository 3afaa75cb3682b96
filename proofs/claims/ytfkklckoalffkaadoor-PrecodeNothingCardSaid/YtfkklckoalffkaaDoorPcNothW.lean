/- PrecodeNothing's walk. -/
import Derived.Test.YtfkklckoalffkaaDoorPcNoth
import Derived.Test.YtfkklckoalffkaaDoorPcFewW
import Derived.Deep.QuietTactic
import Derived.BigQuiet
namespace Go.Proofs.YtfkklckoalffkaaDoor.Pc
open Go.RowKit
open VecM RdM Vc Sp
set_option maxRecDepth 100000 in
set_option maxHeartbeats 1600000 in
theorem same9_yes (B n cap cap' : Nat) (A A' : Option Addr) (es es' : List BRow) (w : World) (hl : Rows2 w B A n es) (hl' : Rows2 w B A' n es') (he : es.map (·.l) = es'.map (·.l)) (hn : n ≤ 1000000) (hB : B ≤ w.heap.size) :
    Calls Tryd.prog 31 #[.slice A n cap, .slice A' n cap'] w fun e w' => e = .returned (.bool true) ∧ Below w.heap.size w w' := by
  have HE := Lib.hid he
  clear he
  go_enter Tryd.func31, Tryd.ntmps31
  go_wp2_with fail
  go_loopw [13] (fun i wr => ∃ k : Nat, k ≤ n ∧ i = .int .i64 k ∧ Below w.heap.size w wr ∧ wr.heap.size = w.heap.size) (fun i _ => n - (intOf i).toNat)
  case atStart => exact ⟨0, by omega, rfl, Below.refl _ _, rfl⟩
  case round =>
    obtain ⟨k, hk, rfl, hb, hsz⟩ := hrel
    by_cases hlt : k < n
    · obtain ⟨b, o, rfl, r, hr, hcell, hrow⟩ := (hl.below (hb.mono hB)).at_ hlt
      obtain ⟨b', o', rfl, r', hr', hcell', hrow'⟩ := (hl'.below (hb.mono hB)).at_ hlt
      have heq : r'.l = r.l := by
        have h1 : (es.map (·.l))[k]? = some r.l := by rw [List.getElem?_map, hr]; rfl
        have h2 : (es'.map (·.l))[k]? = some r'.l := by rw [List.getElem?_map, hr']; rfl
        rw [HE.out] at h1
        rw [h2] at h1
        injection h1
      rw [heq] at hrow'
      have hk1 := run_string_row (P := Tryd.prog) (show Row wr.drew B r.A r.n (bv r.l) from hrow) r.c 58 9 5 Tryd.underlying58 Tryd.underlying5 Tryd.underlying9
      have hk2 := run_string_row (P := Tryd.prog) (show Row wr.drew B r'.A r'.n (bv r.l) from hrow') r'.c 58 9 5 Tryd.underlying58 Tryd.underlying5 Tryd.underlying9
      have hsz' : wr.heap.size = w.heap.size := hsz
      clear hrow hrow' hr hr' heq
      generalize r.l = l at *
      go_wp2_with fail
      go_region
      all_goals
        go_wp2_with fail
        go_roundw
        case rel => exact ⟨k + 1, by omega, by go_num, hb.drew, hsz'⟩
        case measure => simp [intOf]; omega
    · go_wp2_with fail
      go_ret
      exact ⟨rfl, hb⟩
theorem rows2_head {w : World} {B n k : Nat} {A : Option Addr} {es : List BRow} (h : Rows2 w B A n es) (hk : k ≤ n) : Rows2 w B A k (es.take k) := by
  refine ⟨?_, fun r hr => h.2 r (List.mem_of_mem_take hr)⟩
  have := h.1.head hk
  rwa [← List.map_take] at this
theorem rows2_more {w : World} {B B' n : Nat} {A : Option Addr} {es : List BRow} (h : Rows2 w B A n es) (hB : B ≤ B') : Rows2 w B' A n es := ⟨h.1.more hB, fun r hr => (h.2 r hr).more hB⟩
set_option maxRecDepth 100000 in
set_option maxHeartbeats 3200000 in
theorem nothing_walk (s : Nat) (K0 P0 Z0 : Int) (sd : Nat) (hsd : sd < 256) (w : World) (ht : DTab w) (hs : s < 4294967296) :
    Calls Tryd.prog 8 #[.agg #[.int .u32 (s : Int), .int .i64 K0, .int .i64 P0, .int .i64 Z0], .int .u8 (sd : Int)] w fun e w' => e = .returned (.bool true) ∧ Below w.heap.size w w' := by
  have hx := heap_alloc_new w (.cells #[.int .u32 (s : Int), .int .i64 K0, .int .i64 P0, .int .i64 Z0] 24)
  have hb0 : Below w.heap.size w (w.alloc (.cells #[.int .u32 (s : Int), .int .i64 K0, .int .i64 P0, .int .i64 Z0] 24)) := (Below.refl _ _).alloc (Nat.le_refl _) _
  have hz : (w.alloc (.cells #[.int .u32 (s : Int), .int .i64 K0, .int .i64 P0, .int .i64 Z0] 24)).heap.size = w.heap.size + 1 := by simp
  have HX := Lib.hid hx
  have HB0 := Lib.hid hb0
  have HZ := Lib.hid hz
  have HT := Lib.hid ht
  have HSO := Lib.hid (fun W => sound9_any s sd K0 P0 Z0 W hsd)
  unfold parV at HSO
  have HS := Lib.hid hs
  clear hx hb0 hz ht hs hsd
  go_enter Tryd.func8, Tryd.ntmps8
  go_wp2_with fail
  refine (HSO.out _).mono ?_
  rintro e w1 ⟨K, P, Z, ls, v, rfl, hF, hpw, hb1⟩
  have hbx := (hb1.out.block w.heap.size (by have := HZ.out; omega)).trans HX.out
  have HB1 := Lib.hid (HB0.out.trans (hb1.out.mono HB0.out.size))
  have hlt1 : w.heap.size < w1.heap.size := by have := hb1.out.size; have := HZ.out; omega
  obtain ⟨c0, c1, c2, c3⟩ := box4 hbx
  obtain ⟨f0, f1, f2, f3⟩ := frozenBox hbx
  have HBX := Lib.hid hbx
  obtain ⟨fs0, q1, q2, q3⟩ := hpw.out.1
  have hlK := hpw.out.2.1
  rw [hlK] at q2
  obtain ⟨Av, cv, rfl, _⟩ := own_slice q2
  have hpw1 : PW ls (w.heap.size + 1) (.slice Av K cv) w1 := by
    rw [← HZ.out]
    exact ⟨fs0, q1, by rw [hlK]; exact q2, q3⟩
  have HPW4 := Lib.hid ((((hpw1.set (b := w.heap.size) (i := 0) (u := .int .u32 (s : Int)) (by omega)).set (b := w.heap.size) (i := 1) (u := .int .i64 (K : Int)) (by omega)).set (b := w.heap.size) (i := 2) (u := .int .i64 (P : Int)) (by omega)).set (b := w.heap.size) (i := 3) (u := .int .i64 (Z : Int)) (by omega))
  have HLK := Lib.hid hlK
  have HLZ := Lib.hid hpw.out.2.2
  unfold parV
  clear hb1 hbx hpw q1 q2 q3 hpw1 hlK
  go_wp2_with fail
  have hst := setBox HBX.out (.int .u32 (s : Int)) (.int .i64 (K : Int)) (.int .i64 (P : Int)) (.int .i64 (Z : Int))
  have hbs : Below w.heap.size w ((((w1.setCell ⟨w.heap.size, 0, none⟩ (.int .u32 (s : Int))).setCell ⟨w.heap.size, 1, none⟩ (.int .i64 (K : Int))).setCell ⟨w.heap.size, 2, none⟩ (.int .i64 (P : Int))).setCell ⟨w.heap.size, 3, none⟩ (.int .i64 (Z : Int))) := (((HB1.out.setCell (Nat.le_refl _) _).setCell (Nat.le_refl _) _).setCell (Nat.le_refl _) _).setCell (Nat.le_refl _) _
  generalize ((((w1.setCell ⟨w.heap.size, 0, none⟩ (.int .u32 (s : Int))).setCell ⟨w.heap.size, 1, none⟩ (.int .i64 (K : Int))).setCell ⟨w.heap.size, 2, none⟩ (.int .i64 (P : Int))).setCell ⟨w.heap.size, 3, none⟩ (.int .i64 (Z : Int))) = W1 at *
  have HST := Lib.hid hst
  have HBA := Lib.hid hbs
  have hF1 := hF.out
  obtain ⟨A1, c1', es, hv1, he1, hrows1, _⟩ := HPW4.out.rows
  rw [HLK.out] at hv1 hrows1
  injection hv1 with e1 e2 e3
  subst e1 e3
  have hesZ : ∀ r ∈ es, r.n = Z := fun r hr => by
    have h1 := (hrows1.2 r hr).blen
    have h2 := HLZ.out r.l (by rw [← he1]; exact List.mem_map_of_mem hr)
    omega
  have hP1 := pieces_yes s K P Z cv W1.heap.size Av es W1 HS.out hF1.1 hF1.2.1 hF1.2.2 hrows1 hesZ (Nat.le_refl _)
  have hR1 := fun W => rows_any s K P Z W HS.out hF1.1 hF1.2.1 hF1.2.2
  rw [he1] at hP1
  unfold parV at hP1 hR1
  have HP1 := Lib.hid hP1
  have HR1 := Lib.hid hR1
  have HE1 := Lib.hid he1
  have HRO1 := Lib.hid hrows1
  clear hst hbs hlt1 c0 c1 c2 c3 f0 f1 f2 f3 HBX HB1 HX HB0 HZ HSO hF1 hP1 hR1 he1 hrows1 hesZ HPW4
  refine HP1.out.mono ?_
  rintro e w2 ⟨v2, rfl, hpw2, hb2⟩
  obtain ⟨A2, c2', fs, hv2, he2, hrows2, hc2⟩ := hpw2.out.rows
  rw [allP_length, HLK.out] at hv2 hrows2 hc2
  obtain ⟨n, hn⟩ : ∃ n, K + P = n := ⟨_, rfl⟩
  rw [hn] at hv2 hrows2 hc2
  subst hv2
  have HB2 := Lib.hid (HBA.out.trans (hb2.out.mono HBA.out.size))
  obtain ⟨c0, c1, c2, c3⟩ := box4 ((hb2.out.block w.heap.size (Array.getElem?_eq_some_iff.1 HST.out).1).trans HST.out)
  have HRO2 := Lib.hid hrows2
  have HE2 := Lib.hid he2
  have HC2 := Lib.hid hc2
  have HNN := Lib.hid hn
  have HHB2 := hb2
  clear hpw2 hb2 hrows2 he2 hc2 hn HP1
  go_wp2_with fail
  refine (HR1.out _).mono ?_
  rintro e w3 ⟨gA, gs, hs, rfl, hvr, hown, hb3⟩
  have HB3 := Lib.hid (HB2.out.trans (hb3.out.mono HB2.out.size))
  have HHB3 := Lib.hid (HHB2.out.trans (hb3.out.mono HHB2.out.size))
  have hKn : (K : Int) ≤ (c2' : Int) := by have := HC2.out; have := HNN.out; omega
  have hRa := rows2_head (HRO2.out.below hb3.out) (k := K) (by have := HNN.out; omega)
  have HSM := Lib.hid (same9_yes w3.heap.size K c2' cv A2 Av (fs.take K) es w3 (rows2_more hRa hb3.out.size) (rows2_more (HRO1.out.below HHB3.out) HHB3.out.size) (by
    rw [List.map_take, HE2.out, HE1.out]
    unfold allP
    rw [← HLK.out, List.take_left]) (by have := hF.out; omega) (Nat.le_refl _))
  have hkp : IntKind.i64.wrap ((K : Int) + (P : Int)) = (n : Int) := by rw [show (K : Int) + (P : Int) = (n : Int) by have := HNN.out; omega]; exact IntWalk.i64_in _ (by have := hF.out; have := HNN.out; omega)
  have hnn : ((n : Int) != (n : Int)) = false := by simp
  have hpp : ((P : Int) != (P : Int)) = false := by simp
  have hk64 : (K : Int) ≤ 64 := by have := hF.out; omega
  have hp16 : (P : Int) ≤ 16 := by have := hF.out; omega
  have hknn : (K : Int) ≤ (n : Int) := by have := HNN.out; omega
  clear c0 c1 c2 c3 hRa
  obtain ⟨c0, c1, c2, c3⟩ := box4 ((HHB3.out.block w.heap.size (Array.getElem?_eq_some_iff.1 HST.out).1).trans HST.out)
  go_wp2_with fail
  refine HSM.out.mono ?_
  rintro e w4 ⟨rfl, hb4⟩
  have HB4 := Lib.hid (HB3.out.trans (hb4.mono HB3.out.size))
  have HLW : Hid (w.heap.size < w4.heap.size) := Lib.hid (by have h1 := (Array.getElem?_eq_some_iff.1 HST.out).1; have h2 := HHB3.out.size; have h3 := hb4.size; omega)
  have HDT := Lib.hid (fun W (hW : Below w4.heap.size w4 W) => HT.out.grow (HB4.out.trans (hW.mono HB4.out.size)))
  have HBX := Lib.hid (fun W (hW : Below w4.heap.size w4 W) => box4 (((hW.mono hb4.size).block w.heap.size (by have h1 := (Array.getElem?_eq_some_iff.1 HST.out).1; have h2 := HHB3.out.size; omega)).trans ((hb4.block w.heap.size (by have h1 := (Array.getElem?_eq_some_iff.1 HST.out).1; have h2 := HHB3.out.size; omega)).trans ((HHB3.out.block w.heap.size (Array.getElem?_eq_some_iff.1 HST.out).1).trans HST.out))))
  have HAL := Lib.hid (fun W (hW : Below w4.heap.size w4 W) => (HRO2.out.below hb3.out).below ((hb4.mono hb3.out.size).trans (hW.mono (Nat.le_trans hb3.out.size hb4.size))))
  have HPT := Lib.hid (fun W (hW : Below w4.heap.size w4 W) j (hj : j < P) => ((by
    have hb := hb4.trans (hW.mono hb4.size)
    have hgA := (hown.out.lt gA rfl).2
    have h := (hown.out.cellAt j (by omega)).trans (pvk_get gs P P j hj)
    rw [if_pos hj] at h
    exact ⟨(hb.cell (p := ⟨gA, j, none⟩) hgA).trans h, (hvr.out.2 j hj).2.2.below hb⟩) : W.cell? ⟨gA, j, none⟩ = some (.pointer (some ⟨gs j, 0, none⟩)) ∧ VecAt W (gs j) (hs j) (K + P) (parJ s K j)))
  have HFZ : Hid (∀ r ∈ fs, r.n = Z) := Lib.hid (fun r hr => by
    have h1 := (HRO2.out.2 r hr).blen
    have h2 : r.l ∈ allP s K Z ls P := by rw [← HE2.out]; exact List.mem_map_of_mem hr
    unfold allP at h2
    rcases List.mem_append.1 h2 with h | h
    · have := HLZ.out r.l h; omega
    · obtain ⟨i, _, e⟩ := List.mem_map.1 h
      rw [← e, sumR_length] at h1; exact h1.symm)
  clear hb4 hb3 hown hvr HSM HR1 hnn hpp hkp hKn hknn c0 c1 c2 c3 HHB2 HHB3 HB2 HB3 HRO1 HRO2 HE1 HST HBA HC2
  go_wp2_with fail
  go_loopw [51] (fun i wr => ∃ j : Nat, j ≤ P ∧ i = .int .i64 j ∧ Hid (Below w4.heap.size w4 wr)) (fun i _ => P - (intOf i).toNat)
  case atStart => exact ⟨0, by omega, rfl, Lib.hid (Below.refl _ _)⟩
  case round =>
    obtain ⟨j, hj, rfl, hbk⟩ := hrel
    obtain ⟨wq, rfl⟩ : ∃ wq : World, wq = wr := ⟨_, rfl⟩
    by_cases hlt : j < P
    · obtain ⟨pc, vc⟩ := HPT.out wq hbk.out j hlt
      obtain ⟨c0, c1, c2, c3⟩ := HBX.out wq hbk.out
      have hm2 := mk_bytes Z (by have := hF.out; omega) wq
      have hji : (j : Int) < (P : Int) := by omega
      have HVC := Lib.hid vc
      clear vc
      go_wp2_with fail
      clear hm2 c0 c1 c2 c3 pc
      have HOW : Hid ((wq.alloc (.cells (Array.replicate Z (.int .u8 0)) 5)).ownsRow wq.heap.size 5 1 (.slice (some ⟨wq.heap.size, 0, none⟩) Z Z) Z (bv (List.replicate Z 0))) := by
        show World.ownsRow _ _ _ _ _ _ _
        have := own_lit (w := wq) (base := wq.heap.size) (g := wq.heap.size) (n := Z) (e := 5) (Array.replicate Z (.int .u8 0)) rfl (Nat.le_refl _) (by simp) (by have := hF.out; unfold maxLen; omega)
        simpa [bv] using this
      have hsz5 : (wq.alloc (.cells (Array.replicate Z (.int .u8 0)) 5)).heap.size = wq.heap.size + 1 := by simp
      have HAL5 : Hid (Below wq.heap.size wq (wq.alloc (.cells (Array.replicate Z (.int .u8 0)) 5))) := (Below.refl _ _).alloc (Nat.le_refl _) _
      generalize (wq.alloc (.cells (Array.replicate Z (.int .u8 0)) 5)) = w5 at *
      have HSZ5 := Lib.hid hsz5
      obtain ⟨X, hX⟩ : ∃ X, parJ s K j = X := ⟨_, rfl⟩
      have HLI := Lib.hid (list_any (gs j) (hs j) (K + P) X w5 (by rw [← hX]; exact HVC.out.below HAL5.out) (HDT.out w5 (hbk.out.trans (HAL5.out.mono hbk.out.size))))
      have HXX := Lib.hid hX
      obtain ⟨m, hm⟩ : ∃ m, (Ls X).length = m := ⟨_, rfl⟩
      unfold ListOk at HLI
      rw [hm] at HLI
      have hm256 : m ≤ 256 := by rw [← hm]; exact ls_lt X
      have HM := Lib.hid hm
      clear hX hm hsz5
      refine HLI.out.mono ?_
      rintro e w6 ⟨A6, c6, rfl, ho6, hb6⟩
      have HO6 := Lib.hid (own_below HOW.out hb6.out)
      have HB6 := Lib.hid (HAL5.out.trans (hb6.out.mono HAL5.out.size))
      obtain ⟨g, hg⟩ : ∃ g, wq.heap.size = g := ⟨_, rfl⟩
      have HGR := Lib.hid hg
      rw [hg] at HO6 ⊢
      have ho6' : Hid (w6.ownsRow (g + 1) 3 1 (.slice A6 m c6) m (nv ((Ls X).map fun i : Nat => (i : Int)))) := by rw [← hg, ← HSZ5.out]; exact ho6
      clear hg ho6 hb6 HOW HAL5 HLI HSZ5
      go_wp2_with fail
      go_loopw [62] (fun i wr => ∃ t : Nat, t ≤ m ∧ i = .int .i64 t ∧ Hid (wr.ownsRow g 5 1 (.slice (some ⟨g, 0, none⟩) Z Z) Z (bv (foldS Z (allP s K Z ls P) ((Ls X).take t)))) ∧ Hid (wr.ownsRow (g + 1) 3 1 (.slice A6 m c6) m (nv ((Ls X).map fun i : Nat => (i : Int)))) ∧ Hid (Below g wq wr)) (fun i _ => m - (intOf i).toNat)
      case atStart => exact ⟨0, by omega, rfl, by simpa [foldS] using HO6, ho6', by rw [← HGR.out]; exact HB6⟩
      case round =>
        obtain ⟨t, ht, rfl, hso, hlo, hbt⟩ := hrel
        obtain ⟨wz, rfl⟩ : ∃ wz : World, wz = wr := ⟨_, rfl⟩
        by_cases hlt2 : t < m
        · have htl : t < (Ls X).length := by rw [HM.out]; exact hlt2
          obtain ⟨x, hx⟩ : ∃ x, (Ls X)[t] = x := ⟨_, rfl⟩
          obtain ⟨bl, ol, rfl, _, hcl⟩ := (Row.of_own hlo.out).cellAt (k := t) hlt2 (u := .int .i64 (x : Int)) (by simp [nv, htl, hx])
          have hx2 : x < K ∨ x = K + j := by
            have hmem : x ∈ Ls X := by rw [← hx]; exact List.getElem_mem htl
            have h2 : Ls X = L X K ++ [K + j] := by rw [← HXX.out]; exact Ls_par s K j (by have := hF.out; omega)
            rw [h2] at hmem
            rcases List.mem_append.1 hmem with h | h
            · left; unfold L at h; simp at h; exact h.1
            · right; simpa using h
          have htk : (Ls X).take (t + 1) = (Ls X).take t ++ [x] := by
            rw [List.take_succ_eq_append_getElem htl, hx]
          have HTK := Lib.hid htk
          have hxn : x < n := by have := HNN.out; have := hF.out; omega
          obtain ⟨b2, o2, rfl, r, hr, hcell, hrow⟩ := (HAL.out wz (hbk.out.trans (hbt.out.mono (by rw [← HGR.out]; exact hbk.out.size)))).at_ (k := x) hxn
          have hrz := HFZ.out r (List.mem_of_getElem? hr)
          have hgd : (allP s K Z ls P).getD x [] = r.l := by rw [← HE2.out]; simp [List.getD, hr]
          obtain ⟨rA, rn, rc, rl⟩ := r
          simp only at hrz hgd hcell
          subst hrz
          have HR0 := Lib.hid hr
          have HGD := Lib.hid hgd
          obtain ⟨S, hS⟩ : ∃ S, foldS rn (allP s K rn ls P) ((Ls X).take t) = S := ⟨_, rfl⟩
          have hSL : S.length = rn := by rw [← hS]; exact foldS_length _ _ _
          have HSS := Lib.hid hS
          have HSL := Lib.hid hSL
          rw [hS] at hso
          have hzz : ((rn : Int) != (rn : Int)) = false := by simp
          have hxni : (x : Int) < (n : Int) := by omega
          have hz16 : (rn : Int) ≤ 16 := by have := hF.out; omega
          have hm256i : (m : Int) ≤ 256 := by omega
          have hti : (t : Int) < (m : Int) := by omega
          obtain ⟨c0, c1, c2, c3⟩ := HBX.out wz (hbk.out.trans (hbt.out.mono (by rw [← HGR.out]; exact hbk.out.size)))
          clear htl hx htk hr hrow hgd hS hSL
          rcases hx2 with hxK | hxK
          · have hxKi : (x : Int) < (K : Int) := by omega
            have hd0 : decide ((x : Int) < 0) = false := by simp
            have hdn : decide (n ≤ x) = false := by simp; omega
            have hdK : decide (K ≤ x) = false := by simp; omega
            go_wp2_with fail
            go_quiet (fail)
            go_wp2_with fail
            have hso2 : Hid (((wz.drewN nq)).ownsRow g 5 1 (.slice (some ⟨g, 0, none⟩) rn rn) rn (bv S)) := hso
            have hlo2 : Hid (((wz.drewN nq)).ownsRow (g + 1) 3 1 (.slice (some ⟨bl, ol, none⟩) m c6) m (nv ((Ls X).map fun i : Nat => (i : Int)))) := hlo
            have hbt2 : Hid (Below g wq ((wz.drewN nq))) := Lib.hid (hbt.out.trans ⟨rfl, rfl, rfl, Nat.le_refl _, fun _ _ => rfl⟩)
            clear hso hlo hbt hcl hcell
            generalize wz.drewN nq = wd at *
            go_loopw [100] (fun i wr => ∃ u : Nat, u ≤ rn ∧ i = .int .i64 u ∧ Hid (wr.ownsRow g 5 1 (.slice (some ⟨g, 0, none⟩) rn rn) rn (bv (xl S rl u))) ∧ Hid (wr.ownsRow (g + 1) 3 1 (.slice (some ⟨bl, ol, none⟩) m c6) m (nv ((Ls X).map fun i : Nat => (i : Int)))) ∧ Hid (Below g wq wr)) (fun i _ => rn - (intOf i).toNat)
            case atStart => exact ⟨0, by omega, rfl, by rw [xl_zero]; exact hso2, hlo2, hbt2⟩
            case round =>
              obtain ⟨u, hu, rfl, ho3, hl3, hb3⟩ := hrel
              clear hso2 hlo2 hbt2
              by_cases hlt3 : u < rn
              · obtain ⟨b3, o3, e3, r3, hr3, hcell3, hrow3⟩ := (HAL.out wr (hbk.out.trans (hb3.out.mono (by rw [← HGR.out]; exact hbk.out.size)))).at_ (k := x) hxn
                injection e3 with e3
                injection e3 with e4 e5
                subst e4 e5
                rw [HR0.out] at hr3
                injection hr3 with hr3
                subst hr3
                obtain ⟨bq, oq, eq1, _, hlq, hcq⟩ := hrow3.byteAt hlt3
                simp only at eq1 hcell3 hcq hlq
                subst eq1
                have hua : u < S.length := by rw [HSL.out]; exact hlt3
                have hfz := ho3.out.frozenAt u
                have hcs := (ho3.out.cellAt u (by omega)).trans (bv_getD _ u (by rw [xl_length]; exact hua))
                rw [xl_getD S rl u u hua, if_neg (by omega)] at hcs
                have hst := Lib.hid ((ho3.out.stored u (.int .u8 ((S.getD u 0 ^^^ rl.getD u 0).toNat : Int))).1)
                rw [bv_xl_set S rl u hua] at hst
                have hln := Lib.hid (hl3.out.kept (grown_set1 wr g u (.int .u8 ((S.getD u 0 ^^^ rl.getD u 0).toNat : Int))) (.inr (fun e => by have := (hl3.out.lt g e).1; omega)))
                have hyq : rl[u] = rl.getD u 0 := by simp [List.getD, hlq]
                rw [hyq] at hcq
                have hxor := xor_int (S.getD u 0) (rl.getD u 0)
                have hui : (u : Int) < (rn : Int) := by omega
                have hxni : (x : Int) < (n : Int) := by omega
                have hbn := Lib.hid (hb3.out.setCell (p := ⟨g, u, none⟩) (Nat.le_refl _) (.int .u8 ((S.getD u 0 ^^^ rl.getD u 0).toNat : Int)))
                clear ho3 hl3 hb3 hrow3 hyq
                generalize S.getD u 0 = X1 at *
                generalize rl.getD u 0 = X2 at *
                go_wp2_with fail
                go_region
                all_goals
                  go_wp2_with fail
                  go_roundw
                  case rel => exact ⟨u + 1, by omega, by go_num, by exact Lib.hid hst.out, by exact Lib.hid hln.out, by exact Lib.hid hbn.out.drew⟩
                  case measure => simp [intOf]; omega
              · obtain rfl : rn = u := by omega
                have hfin : Hid (wr.ownsRow g 5 1 (.slice (some ⟨g, 0, none⟩) rn rn) rn (bv (foldS rn (allP s K rn ls P) ((Ls X).take (t + 1))))) := by
                  rw [HTK.out, foldS_snoc, HSS.out, HGD.out]
                  have := ho3.out
                  unfold xorL
                  rw [HSL.out]
                  exact Lib.hid this
                clear hlt3 ho3
                go_wp2_with fail
                go_roundw
                case rel => exact ⟨t + 1, by omega, by go_num, hfin, hl3, hb3⟩
                case measure => simp [intOf]; omega
          · have hxKi : ¬ (x : Int) < (K : Int) := by omega
            have hd0 : decide ((x : Int) < 0) = false := by simp
            have hdn : decide (n ≤ x) = false := by simp; omega
            have hdK : decide (K ≤ x) = true := by simp; omega
            have hsum : IntKind.i64.wrap ((K : Int) + (j : Int)) = (x : Int) := by rw [show (K : Int) + (j : Int) = (x : Int) by omega]; exact IntWalk.i64_in _ (by have := HNN.out; omega)
            have hxx : ((x : Int) != (x : Int)) = false := by simp
            clear hxK
            go_wp2_with fail
            go_quiet (fail)
            go_wp2_with fail
            have hso2 : Hid (((wz.drewN nq)).ownsRow g 5 1 (.slice (some ⟨g, 0, none⟩) rn rn) rn (bv S)) := hso
            have hlo2 : Hid (((wz.drewN nq)).ownsRow (g + 1) 3 1 (.slice (some ⟨bl, ol, none⟩) m c6) m (nv ((Ls X).map fun i : Nat => (i : Int)))) := hlo
            have hbt2 : Hid (Below g wq ((wz.drewN nq))) := Lib.hid (hbt.out.trans ⟨rfl, rfl, rfl, Nat.le_refl _, fun _ _ => rfl⟩)
            clear hso hlo hbt hcl hcell
            generalize wz.drewN nq = wd at *
            go_loopw [100] (fun i wr => ∃ u : Nat, u ≤ rn ∧ i = .int .i64 u ∧ Hid (wr.ownsRow g 5 1 (.slice (some ⟨g, 0, none⟩) rn rn) rn (bv (xl S rl u))) ∧ Hid (wr.ownsRow (g + 1) 3 1 (.slice (some ⟨bl, ol, none⟩) m c6) m (nv ((Ls X).map fun i : Nat => (i : Int)))) ∧ Hid (Below g wq wr)) (fun i _ => rn - (intOf i).toNat)
            case atStart => exact ⟨0, by omega, rfl, by rw [xl_zero]; exact hso2, hlo2, hbt2⟩
            case round =>
              obtain ⟨u, hu, rfl, ho3, hl3, hb3⟩ := hrel
              clear hso2 hlo2 hbt2
              by_cases hlt3 : u < rn
              · obtain ⟨b3, o3, e3, r3, hr3, hcell3, hrow3⟩ := (HAL.out wr (hbk.out.trans (hb3.out.mono (by rw [← HGR.out]; exact hbk.out.size)))).at_ (k := x) hxn
                injection e3 with e3
                injection e3 with e4 e5
                subst e4 e5
                rw [HR0.out] at hr3
                injection hr3 with hr3
                subst hr3
                obtain ⟨bq, oq, eq1, _, hlq, hcq⟩ := hrow3.byteAt hlt3
                simp only at eq1 hcell3 hcq hlq
                subst eq1
                have hua : u < S.length := by rw [HSL.out]; exact hlt3
                have hfz := ho3.out.frozenAt u
                have hcs := (ho3.out.cellAt u (by omega)).trans (bv_getD _ u (by rw [xl_length]; exact hua))
                rw [xl_getD S rl u u hua, if_neg (by omega)] at hcs
                have hst := Lib.hid ((ho3.out.stored u (.int .u8 ((S.getD u 0 ^^^ rl.getD u 0).toNat : Int))).1)
                rw [bv_xl_set S rl u hua] at hst
                have hln := Lib.hid (hl3.out.kept (grown_set1 wr g u (.int .u8 ((S.getD u 0 ^^^ rl.getD u 0).toNat : Int))) (.inr (fun e => by have := (hl3.out.lt g e).1; omega)))
                have hyq : rl[u] = rl.getD u 0 := by simp [List.getD, hlq]
                rw [hyq] at hcq
                have hxor := xor_int (S.getD u 0) (rl.getD u 0)
                have hui : (u : Int) < (rn : Int) := by omega
                have hxni : (x : Int) < (n : Int) := by omega
                have hbn := Lib.hid (hb3.out.setCell (p := ⟨g, u, none⟩) (Nat.le_refl _) (.int .u8 ((S.getD u 0 ^^^ rl.getD u 0).toNat : Int)))
                clear ho3 hl3 hb3 hrow3 hyq
                generalize S.getD u 0 = X1 at *
                generalize rl.getD u 0 = X2 at *
                go_wp2_with fail
                go_region
                all_goals
                  go_wp2_with fail
                  go_roundw
                  case rel => exact ⟨u + 1, by omega, by go_num, by exact Lib.hid hst.out, by exact Lib.hid hln.out, by exact Lib.hid hbn.out.drew⟩
                  case measure => simp [intOf]; omega
              · obtain rfl : rn = u := by omega
                have hfin : Hid (wr.ownsRow g 5 1 (.slice (some ⟨g, 0, none⟩) rn rn) rn (bv (foldS rn (allP s K rn ls P) ((Ls X).take (t + 1))))) := by
                  rw [HTK.out, foldS_snoc, HSS.out, HGD.out]
                  have := ho3.out
                  unfold xorL
                  rw [HSL.out]
                  exact Lib.hid this
                clear hlt3 ho3
                go_wp2_with fail
                go_roundw
                case rel => exact ⟨t + 1, by omega, by go_num, hfin, hl3, hb3⟩
                case measure => simp [intOf]; omega
        · obtain rfl : m = t := by omega
          clear hlt2
          have hall : foldS Z (allP s K Z ls P) ((Ls X).take m) = List.replicate Z 0 := by
            rw [List.take_of_length_le (by rw [HM.out]; exact Nat.le_refl _), ← HXX.out]
            exact par_nothing s K P Z j ls HLK.out hlt (by have := hF.out; omega)
          rw [hall] at hso
          obtain ⟨y, hy⟩ : ∃ y, K + j = y := ⟨_, rfl⟩
          have hbit : X.testBit y = true := by
            rw [← HXX.out, ← hy]
            unfold parJ
            rw [parX_bit, if_neg (by omega)]
            simp
          have hBW := hbk.out.trans (hbt.out.mono (by rw [← HGR.out]; exact hbk.out.size))
          have hBQ : Below wq.heap.size wq wz := by rw [HGR.out]; exact hbt.out
          have hHA := fun W (hW : Below wz.heap.size wz W) => has_in (gs j) (hs j) (K + P) X y W (by rw [← HXX.out]; exact HVC.out.below (hBQ.trans (hW.mono hBQ.size))) (by omega)
          rw [hbit] at hHA
          have HHA := Lib.hid hHA
          have hsum : IntKind.i64.wrap ((K : Int) + (j : Int)) = (y : Int) := by rw [show (K : Int) + (j : Int) = (y : Int) by omega]; exact IntWalk.i64_in _ (by have := hF.out; omega)
          obtain ⟨c0, c1, c2, c3⟩ := HBX.out wz hBW
          have hlw : w.heap.size < wz.heap.size := by have h1 := HLW.out; have h2 := hBW.size; omega
          have hm2 := fun W => mk_bytes Z (by have := hF.out; omega) W
          have hr0 := Row.of_own hso.out
          have hr1 : Row (wz.alloc (.cells (Array.replicate Z (.int .u8 0)) 5)) (wz.alloc (.cells (Array.replicate Z (.int .u8 0)) 5)).heap.size (some ⟨g, 0, none⟩) Z (bv (List.replicate Z 0)) := Row.of_own (own_below hso.out ((Below.refl _ _).alloc (Nat.le_refl _) _))
          have hr2 : Row (wz.alloc (.cells (Array.replicate Z (.int .u8 0)) 5)) (wz.alloc (.cells (Array.replicate Z (.int .u8 0)) 5)).heap.size (some ⟨wz.heap.size, 0, none⟩) Z (bv (List.replicate Z 0)) := by
            have := Row.of_own (own_lit (w := wz) (base := wz.heap.size) (g := wz.heap.size) (n := Z) (e := 5) (Array.replicate Z (.int .u8 0)) rfl (Nat.le_refl _) (by simp) (by have := hF.out; unfold maxLen; omega))
            simpa [bv] using this
          have hk1 := run_string_row (P := Tryd.prog) (show Row wz.drew wz.heap.size (some ⟨g, 0, none⟩) Z (bv (List.replicate Z 0)) from hr0) Z 58 9 5 Tryd.underlying58 Tryd.underlying5 Tryd.underlying9
          have hk2 := run_string_row (P := Tryd.prog) (show Row wz wz.heap.size (some ⟨g, 0, none⟩) Z (bv (List.replicate Z 0)) from hr0) Z 58 9 5 Tryd.underlying58 Tryd.underlying5 Tryd.underlying9
          have hk3 := run_string_row (P := Tryd.prog) (show Row (wz.drew.alloc (.cells (Array.replicate Z (.int .u8 0)) 5)) (wz.alloc (.cells (Array.replicate Z (.int .u8 0)) 5)).heap.size (some ⟨g, 0, none⟩) Z (bv (List.replicate Z 0)) from hr1) Z 58 9 5 Tryd.underlying58 Tryd.underlying5 Tryd.underlying9
          have hk4 := run_string_row (P := Tryd.prog) (show Row (wz.alloc (.cells (Array.replicate Z (.int .u8 0)) 5)).drew (wz.alloc (.cells (Array.replicate Z (.int .u8 0)) 5)).heap.size (some ⟨g, 0, none⟩) Z (bv (List.replicate Z 0)) from hr1) Z 58 9 5 Tryd.underlying58 Tryd.underlying5 Tryd.underlying9
          have hk5 := run_string_row (P := Tryd.prog) (show Row (wz.alloc (.cells (Array.replicate Z (.int .u8 0)) 5)) (wz.alloc (.cells (Array.replicate Z (.int .u8 0)) 5)).heap.size (some ⟨g, 0, none⟩) Z (bv (List.replicate Z 0)) from hr1) Z 58 9 5 Tryd.underlying58 Tryd.underlying5 Tryd.underlying9
          have hk6 := run_string_row (P := Tryd.prog) (show Row (wz.drew.alloc (.cells (Array.replicate Z (.int .u8 0)) 5)) (wz.alloc (.cells (Array.replicate Z (.int .u8 0)) 5)).heap.size (some ⟨wz.heap.size, 0, none⟩) Z (bv (List.replicate Z 0)) from hr2) Z 58 9 5 Tryd.underlying58 Tryd.underlying5 Tryd.underlying9
          have hk7 := run_string_row (P := Tryd.prog) (show Row (wz.alloc (.cells (Array.replicate Z (.int .u8 0)) 5)).drew (wz.alloc (.cells (Array.replicate Z (.int .u8 0)) 5)).heap.size (some ⟨wz.heap.size, 0, none⟩) Z (bv (List.replicate Z 0)) from hr2) Z 58 9 5 Tryd.underlying58 Tryd.underlying5 Tryd.underlying9
          have hk8 := run_string_row (P := Tryd.prog) (show Row (wz.alloc (.cells (Array.replicate Z (.int .u8 0)) 5)) (wz.alloc (.cells (Array.replicate Z (.int .u8 0)) 5)).heap.size (some ⟨wz.heap.size, 0, none⟩) Z (bv (List.replicate Z 0)) from hr2) Z 58 9 5 Tryd.underlying58 Tryd.underlying5 Tryd.underlying9
          have HBW := Lib.hid hBW
          clear hall hbit hHA hr0 hr1 hr2 hBQ hso hlo hy hBW
          generalize List.replicate Z 0 = zs at *
          go_wp2_with fail
          go_region_with (go_at_call 17; refine (HHA.out _ (by first | exact (Below.refl _ _).drew | exact Below.refl _ _)).mono ?_; rintro e w' ⟨rfl, rfl⟩)
          all_goals
            go_wp2_with fail
            go_roundw
            case rel => exact ⟨j + 1, by omega, by go_num, (by first | exact Lib.hid (HBW.out.drew.alloc HBW.out.size _) | exact Lib.hid (HBW.out.alloc HBW.out.size _).drew | exact Lib.hid (HBW.out.alloc HBW.out.size _))⟩
            case measure => simp [intOf]; omega
    · obtain rfl : P = j := by omega
      have HAW := Lib.hid (awake9_any wq)
      have HB9 := Lib.hid (HB4.out.trans (hbk.out.mono HB4.out.size))
      clear hlt
      go_wp2_with fail
      refine HAW.out.mono ?_
      rintro e w9 ⟨rfl, hb9⟩
      have HBE := Lib.hid (HB9.out.trans (hb9.out.mono HB9.out.size))
      go_wp2_with fail
      go_ret
      exact ⟨rfl, HBE.out⟩
end Go.Proofs.YtfkklckoalffkaaDoor.Pc
