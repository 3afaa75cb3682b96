/- The reference's Bytes and Add; the program's Row: by contracts. like: a matrix is as the page has it: by contract. -/
import Derived.Test.YtgeodhffgbhmaaaDoorRMxB
import Derived.Test.YtgeodhffgbhmaaaDoorElBytes
import Derived.Test.YtgeodhffgbhmaaaDoorElRow
import Derived.Test.YtgeodhffgbhmaaaDoorLike
namespace Go.Proofs.YtgeodhffgbhmaaaDoor.El
open Go.RowKit
open VecM Vc
theorem raddI {P : Nat → Prop} {gm n z X c cd : Nat} {M : Mx} {AV AD : Option Addr} {l : List UInt8} {w : World} (hm : RMat w P gm n z (rowsTo M n)) (hi : Inv n z M) (hv : Row w w.heap.size AV n (vb X n)) (hd : Row w w.heap.size AD z (bv l)) (hX : X < 2 ^ n) :
    Calls Tryd.prog 15 #[.pointer (some ⟨gm, 0, none⟩), .slice AV n c, .slice AD z cd] w (RAddI P gm n z (addMx n M X l) w) := by
  by_cases hzz : (redM M X l n).1 = 0
  · refine (radd_no P gm n z X c cd M AV AD l w hm hv hX hzz).mono fun e w' ⟨he, hb⟩ => ?_
    unfold addMx
    rw [if_pos hzz]
    exact ⟨he, Lib.hid ((hm.below hb.out).more fun b hb => .inl hb), Lib.hid (Fr.of_below hb.out)⟩
  · have hlt := redM_ltI hi hX l n
    obtain ⟨f, hf, hb, hlow⟩ := low_ex hlt hzz
    have hn := hm.n1.2
    have hll := hd.blen
    have hc := fun (i : Nat) (r : Nat × List UInt8) (hr : M[i]? = some (some r)) => redM_clear hi X l n i r (by rw [← hi.len]; exact (List.getElem?_eq_some_iff.1 hr).1) hr
    have hzl := redM_len M X l n
    have hnone := (hi.add hlt (by rw [hzl]; exact hll) hf hb hlow hc).1
    have hno : M.getD f none = none := by rw [List.getD_eq_getElem?_getD, hnone]; rfl
    refine (radd_yes P gm n z X c cd f _ M AV AD l _ w hm hv hd hX rfl hf hb hlow hi.len hno (fun r hr => hc r.1 r.2 (rowsTo_mem hr).2)).mono fun e w' h => ?_
    unfold addMx
    rw [if_neg hzz, lowb_at (by omega) hb hlow]
    exact h
set_option maxRecDepth 100000 in
set_option maxHeartbeats 3200000 in
theorem rbytes_any (P : Nat → Prop) (gm n z : Nat) (ls : List Ln) (w : World) (hm : RMat w P gm n z ls) :
    Calls Tryd.prog 19 #[.pointer (some ⟨gm, 0, none⟩)] w (TellB (hdr n z ls.length ++ ls.flatMap (lnB n)) w) := by
  obtain ⟨hn, hz, _, hln, A, c, es, hh, hls, hes⟩ := hm
  have hlen : es.length = ls.length := by rw [← hes, List.length_map]
  have hc0 : w.cell? ⟨gm, 0, none⟩ = some (.int .i64 (n : Int)) := by rw [cell_of_row w gm 0 _ _ (0, 0) hh]; rfl
  have hc1 : w.cell? ⟨gm, 1, none⟩ = some (.int .i64 (z : Int)) := by rw [cell_of_row w gm 1 _ _ (0, 0) hh]; rfl
  have hc2 : w.cell? ⟨gm, 2, none⟩ = some (.slice A es.length c) := by rw [cell_of_row w gm 2 _ _ (0, 0) hh]; rfl
  obtain ⟨R, hR⟩ : ∃ R, ls.length = R := ⟨_, rfl⟩
  rw [hlen, hR] at hc2
  have HH := Lib.hid hh
  have HLS := Lib.hid hls
  have HES := Lib.hid hes
  have HRR := Lib.hid hR
  have HRE : Hid (es.length = R) := Lib.hid (by omega)
  have hRn : R ≤ 256 := by omega
  have hRi : (R : Int) ≤ 256 := by omega
  have hna : (1 : Int) ≤ (n : Int) := by omega
  have hnb : (n : Int) ≤ 256 := by omega
  have hzz : (z : Int) ≤ 16 := by omega
  have HN := Lib.hid hn
  have HZ := Lib.hid hz
  rw [hR]
  clear hh hls hes hlen hln hR hn hz
  go_enter Tryd.func19, Tryd.ntmps19
  go_upto_region 1 with fail
  go_region
  have hbw : Below w.heap.size w (w.alloc (.cells #[.int .u8 ((n : Int) - 1), .int .u8 (z : Int), .int .u8 ((R : Int) / 256), .int .u8 ((R : Int) % 256)] 5)).drew := ((Below.refl _ _).alloc (Nat.le_refl _) _).drew
  have HO : Hid (OwnAt w (hdr n z R ++ (ls.take 0).flatMap (lnB n)) (.slice (some ⟨w.heap.size, 0, none⟩) 4 4) (w.alloc (.cells #[.int .u8 ((n : Int) - 1), .int .u8 (z : Int), .int .u8 ((R : Int) / 256), .int .u8 ((R : Int) % 256)] 5)).drew) := Lib.hid (by
    rw [List.take_zero, List.flatMap_nil, List.append_nil]
    refine ⟨?_, hbw⟩
    have hown := own_lit (w := w) (cs := #[.int .u8 ((n : Int) - 1), .int .u8 (z : Int), .int .u8 ((R : Int) / 256), .int .u8 ((R : Int) % 256)]) (e := 5) (n := 4) rfl (Nat.le_refl _) rfl (by unfold maxLen; omega)
    have e : bv (hdr n z R) = [.int .u8 ((n : Int) - 1), .int .u8 (z : Int), .int .u8 ((R : Int) / 256), .int .u8 ((R : Int) % 256)] := by
      have h1 := HN.out
      have h2 := HZ.out
      unfold hdr bv
      simp only [List.map_cons, List.map_nil]
      rw [u8_of _ (by omega), u8_of _ (by omega), u8_of _ (by omega), u8_of _ (by omega)]
      congr 3 <;> omega
    rw [e]
    exact hown)
  have HL0 : Hid ((hdr n z R ++ (ls.take 0).flatMap (lnB n)).length ≤ 4 + 48 * 0) := Lib.hid (by simp [hdr])
  have HB1 := Lib.hid hbw
  generalize (w.alloc (.cells #[.int .u8 ((n : Int) - 1), .int .u8 (z : Int), .int .u8 ((R : Int) / 256), .int .u8 ((R : Int) % 256)] 5)).drew = wA at *
  clear hbw hc0 hc1 hc2 hna hnb hzz
  have hc2 : wA.cell? ⟨gm, 2, none⟩ = some (.slice A R c) := by
    rw [cell_of_row wA gm 2 _ _ (0, 0) ((HB1.out.block gm (Array.getElem?_eq_some_iff.1 HH.out).1).trans HH.out), HRE.out]; rfl
  go_wp2_with fail
  clear hc2
  go_loopw [3, 36] (fun v x wr => ∃ (k : Nat) (vv : Value), k ≤ R ∧ v = vv ∧ x = .int .i64 k ∧ Hid (OwnAt w (hdr n z R ++ (ls.take k).flatMap (lnB n)) vv wr) ∧ Hid ((hdr n z R ++ (ls.take k).flatMap (lnB n)).length ≤ 4 + 48 * k)) (fun _ x _ => R - (intOf x).toNat)
  case atStart => exact ⟨0, _, by omega, rfl, rfl, HO, HL0⟩
  case round =>
    obtain ⟨k, v, hk, hvv, rfl, ho, HLE⟩ := hrel
    have hvw := hvv.symm
    clear hvv
    subst hvw
    clear HO HL0
    by_cases hlt : k < R
    · have hki : (k : Int) < (R : Int) := by omega
      obtain ⟨r, hr⟩ : ∃ r, es[k]? = some r := ⟨_, List.getElem?_eq_getElem (by have := HRE.out; omega)⟩
      have hcap := (HLS.out.below ho.out.b).at_ hr
      obtain ⟨g, hAg, hgl, c1, c2, hat⟩ := hcap
      have hlr : ls[k]? = some r.ln := by rw [← HES.out, List.getElem?_map, hr]; rfl
      have hnx : hdr n z R ++ (ls.take (k + 1)).flatMap (lnB n) = (hdr n z R ++ (ls.take k).flatMap (lnB n)) ++ lnB n r.ln := by
        rw [take_snoc hlr, List.flatMap_append, List.append_assoc]
        simp
      obtain ⟨L, hL⟩ : ∃ L, hdr n z R ++ (ls.take k).flatMap (lnB n) = L := ⟨_, rfl⟩
      rw [hL] at hnx ho HLE
      have HNX := Lib.hid hnx
      obtain ⟨A', cL, hv0, _⟩ := own_slice ho.out.own
      subst hv0
      have hal : Below wr.heap.size wr (wr.alloc (.cells #[.slice (some ⟨r.gv, 0, none⟩) n r.cv, .slice (some ⟨r.gd, 0, none⟩) z r.cd] 49)) := (Below.refl _ _).alloc (Nat.le_refl _) _
      have HBX := Lib.hid (heap_alloc_new wr (.cells #[.slice (some ⟨r.gv, 0, none⟩) n r.cv, .slice (some ⟨r.gd, 0, none⟩) z r.cd] 49))
      have HBA := Lib.hid (ho.out.b.trans (hal.mono ho.out.b.size))
      have HLR := Lib.hid (show RowU A' L.length (bv L) (wr.alloc (.cells #[.slice (some ⟨r.gv, 0, none⟩) n r.cv, .slice (some ⟨r.gd, 0, none⟩) z r.cd] 49)) from RowU.below (Row.of_own ho.out.own) hal)
      have HDR := Lib.hid (show RowU (some ⟨r.gd, 0, none⟩) z (bv r.l) (wr.alloc (.cells #[.slice (some ⟨r.gv, 0, none⟩) n r.cv, .slice (some ⟨r.gd, 0, none⟩) z r.cd] 49)) from RowU.below hat.d hal)
      have HVR := Lib.hid (show RowU (some ⟨r.gv, 0, none⟩) n (vb r.X n) (wr.alloc (.cells #[.slice (some ⟨r.gv, 0, none⟩) n r.cv, .slice (some ⟨r.gd, 0, none⟩) z r.cd] 49)) from RowU.below hat.v hal)
      have HRX := Lib.hid hat.X
      have HRL : Hid (r.l.length ≤ 16) := Lib.hid (by rw [hat.d.blen]; exact HZ.out.2)
      have HBW : Hid (bw n ≤ 32 ∧ k ≤ 256) := Lib.hid ⟨by have := HN.out.2; unfold bw; omega, by omega⟩
      subst hAg
      clear hal hr hlr hnx hL ho hat
      go_upto_region 5 with fail
      clear c1 c2
      generalize (wr.alloc (.cells #[.slice (some ⟨r.gv, 0, none⟩) n r.cv, .slice (some ⟨r.gd, 0, none⟩) z r.cd] 49)) = wa at *
      have HCL : Hid (∀ W, Below wa.heap.size wa W → W.cell? ⟨wr.heap.size, 0, none⟩ = some (.slice (some ⟨r.gv, 0, none⟩) n r.cv) ∧ W.cell? ⟨wr.heap.size, 1, none⟩ = some (.slice (some ⟨r.gd, 0, none⟩) z r.cd)) := Lib.hid fun W hW => by
        have h := (hW.block _ (Array.getElem?_eq_some_iff.1 HBX.out).1).trans HBX.out
        constructor <;> (rw [cell_of_row W _ _ _ _ (0, 0) h]; rfl)
      have HPK := Lib.hid (fun W (hW : Below wa.heap.size wa W) => r1pack_any W.heap.size n r.cv r.X (some ⟨r.gv, 0, none⟩) W (HVR.out.below hW) HRX.out (by have := HN.out; omega) (Nat.le_refl _))
      refine wp_region_noPanic ?_
      refine wp_region_held_drew (S := (fun W => Below (wa.heap.size) wa W)) (by kernel_rfl) (Below.refl _ _).drew (fun hH0 => ?_)
      have hH0 : Below (wa.heap.size) wa wa.drew := hH0
      generalize wa.drew = wd6000 at *
      refine wpAnyH_take (i := 0) (oi := { dst := some 40, op := Op.move (Operand.tmp 3), type := 30, pos := "ref.go:324", after := #[], guard := none }) (v := ?tkv6001) rfl (by kernel_rfl) (by kernel_rfl) (by kernel_rfl) (fun _ _ _ h => h) (Or.inl ⟨by rfl, ?tky6001⟩) hH0 ?tkr6001
      case tky6001 => (intro w' hSw; clear hSw; go_simp; try with_reducible rfl)
      try simp only [Act.put, List.setIfInBounds_toArray, List.set_cons_zero, List.set_cons_succ]
      refine wpAnyH_take (i := 1) (oi := { dst := some 41, op := Op.fieldAddr 49 (Operand.tmp 5) 0, type := 0, pos := "ref.go:324", after := #[], guard := none }) (v := ?tkv6002) rfl (by kernel_rfl) (by kernel_rfl) (by kernel_rfl) (fun _ _ _ h => h) (Or.inl ⟨by rfl, ?tky6002⟩) hH0 ?tkr6002
      case tky6002 => (intro w' hSw; clear hSw; go_simp; try with_reducible rfl)
      try simp only [Act.put, List.setIfInBounds_toArray, List.set_cons_zero, List.set_cons_succ]
      refine wpAnyH_take (i := 2) (oi := { dst := some 42, op := Op.load 35 (Operand.tmp 41), type := 35, pos := "ref.go:324", after := #[{ on := 1, ground := Ground.data }], guard := none }) (v := ?tkv6003) rfl (by kernel_rfl) (by kernel_rfl) (by kernel_rfl) (fun _ _ _ h => h) (Or.inl ⟨by rfl, ?tky6003⟩) hH0 ?tkr6003
      case tky6003 => (intro w' hSw; have z0 := HCL.out _ hSw; clear hSw; go_simp; try with_reducible rfl)
      try simp only [Act.put, List.setIfInBounds_toArray, List.set_cons_zero, List.set_cons_succ]
      refine wpAnyH_take (i := 4) (oi := { dst := some 44, op := Op.fieldAddr 49 (Operand.tmp 5) 1, type := 0, pos := "ref.go:324", after := #[], guard := none }) (v := ?tkv6004) rfl (by kernel_rfl) (by kernel_rfl) (by kernel_rfl) (fun _ _ _ h => h) (Or.inl ⟨by rfl, ?tky6004⟩) hH0 ?tkr6004
      case tky6004 => (intro w' hSw; clear hSw; go_simp; try with_reducible rfl)
      try simp only [Act.put, List.setIfInBounds_toArray, List.set_cons_zero, List.set_cons_succ]
      refine wpAnyH_take (i := 5) (oi := { dst := some 45, op := Op.load 30 (Operand.tmp 44), type := 30, pos := "ref.go:324", after := #[{ on := 4, ground := Ground.data }], guard := none }) (v := ?tkv6005) rfl (by kernel_rfl) (by kernel_rfl) (by kernel_rfl) (fun _ _ _ h => h) (Or.inl ⟨by rfl, ?tky6005⟩) hH0 ?tkr6005
      case tky6005 => (intro w' hSw; have z0 := HCL.out _ hSw; clear hSw; go_simp; try with_reducible rfl)
      try simp only [Act.put, List.setIfInBounds_toArray, List.set_cons_zero, List.set_cons_succ]
      refine wpAnyH_ready (rs := [3]) (by kernel_rfl) (by simp) ?_
      refine AllReadyH.cons (o := { dst := some 43, op := Op.call { callee := Callee.value (Operand.func 44), args := #[Operand.tmp 42], argTypes := #[35] }, type := 30, pos := "ref.go:324", after := #[{ on := 2, ground := Ground.data }], guard := none }) rfl (fun K hK => ?_) AllReadyH.nil
      go_simp
      refine (HPK.out wd6000 (hH0)).mono ?_
      rintro e' wn6006 ⟨A6006, m6006, c6006, rfl, hm6006, hr6006, hb6006'⟩
      have hb6006 := hb6006'.out
      have RP6006_ : Hid (RowU A6006 m6006 (bv (bl r.X n)) wn6006) := Lib.hid hr6006.out
      clear hb6006' hr6006 hm6006
      go_simp
      have hS6006 : Below (wa.heap.size) wa wn6006 := (hH0).trans (hb6006.mono (hH0).size)
      refine hK.out _ _ hS6006 (fun hH6006 => ?_)
      have hH6006 : Below (wa.heap.size) wa wn6006 := hH6006
      clear hK K hS6006
      try simp only [Act.put, List.setIfInBounds_toArray, List.set_cons_zero, List.set_cons_succ]
      refine wpAnyH_ready (rs := [6]) (by kernel_rfl) (by simp) ?_
      refine AllReadyH.cons (o := { dst := some 46, op := Op.buildSlice 43 3 #[(0, Operand.tmp 40), (1, Operand.tmp 43), (2, Operand.tmp 45)], type := 43, pos := "ref.go:324", after := #[{ on := 0, ground := Ground.data }, { on := 3, ground := Ground.data }, { on := 5, ground := Ground.data }], guard := none }) rfl (fun K hK => ?_) AllReadyH.nil
      go_simp
      have hb6007 : Below wn6006.heap.size wn6006 (wn6006.alloc (.cells #[.slice A' L.length cL, .slice A6006 m6006 c6006, .slice (some ⟨r.gd, 0, none⟩) z r.cd] 30)) := (Below.refl _ _).alloc (Nat.le_refl _) _
      have hq6007 := hH6006
      have R26007 : Hid (Rows2 (wn6006.alloc (.cells #[.slice A' L.length cL, .slice A6006 m6006 c6006, .slice (some ⟨r.gd, 0, none⟩) z r.cd] 30)) (wn6006.alloc (.cells #[.slice A' L.length cL, .slice A6006 m6006 c6006, .slice (some ⟨r.gd, 0, none⟩) z r.cd] 30)).heap.size (some ⟨wn6006.heap.size, 0, none⟩) 3 [(⟨A', L.length, cL, L⟩ : BRow), ⟨A6006, m6006, c6006, bl r.X n⟩, ⟨some ⟨r.gd, 0, none⟩, z, r.cd, r.l⟩]) := Lib.hid ⟨(row_new wn6006 #[.slice A' L.length cL, .slice A6006 m6006 c6006, .slice (some ⟨r.gd, 0, none⟩) z r.cd] 30 (0, 0)).more (by simp), fun q hq => by
        have hqq := hq6007.trans (hb6007.mono hq6007.size)
        rcases List.mem_cons.1 hq with rfl | hq
        · exact RowU.below HLR.out hqq
        rcases List.mem_cons.1 hq with rfl | hq
        · exact RP6006_.out.below hb6007
        obtain rfl := List.mem_singleton.1 hq
        exact RowU.below HDR.out hqq⟩
      have SZ6007 : Hid ((wn6006.alloc (.cells #[.slice A' L.length cL, .slice A6006 m6006 c6006, .slice (some ⟨r.gd, 0, none⟩) z r.cd] 30)).heap.size = wn6006.heap.size + 1) := Lib.hid (by simp)
      have JN6007 := Lib.hid (join_any _ 3 3 (some ⟨wn6006.heap.size, 0, none⟩) [(⟨A', L.length, cL, L⟩ : BRow), ⟨A6006, m6006, c6006, bl r.X n⟩, ⟨some ⟨r.gd, 0, none⟩, z, r.cd, r.l⟩] (wn6006.alloc (.cells #[.slice A' L.length cL, .slice A6006 m6006 c6006, .slice (some ⟨r.gd, 0, none⟩) z r.cd] 30)) R26007.out (by omega) (by
        have h1 := HLE.out
        have h2 := HRL.out
        have h3 := bl_length r.X n
        have h4 := HBW.out
        simp [flat]; omega) (Nat.le_refl _))
      have FL6007 : flat [(⟨A', L.length, cL, L⟩ : BRow), ⟨A6006, m6006, c6006, bl r.X n⟩, ⟨some ⟨r.gd, 0, none⟩, z, r.cd, r.l⟩] = L ++ lnB n r.ln := by simp [flat, lnB, LR.ln]
      rw [FL6007] at JN6007
      clear R26007 FL6007 hq6007
      generalize (wn6006.alloc (.cells #[.slice A' L.length cL, .slice A6006 m6006 c6006, .slice (some ⟨r.gd, 0, none⟩) z r.cd] 30)) = wn6007 at *
      have RP6006_6007 := Lib.hid (RP6006_.out.below hb6007)
      have hS6007 : Below (wa.heap.size) wa wn6007 := (hH6006).trans (hb6007.mono (hH6006).size)
      refine hK.out _ _ hS6007 (fun hH6007 => ?_)
      have hH6007 : Below (wa.heap.size) wa wn6007 := hH6007
      clear hK K hS6007
      try simp only [Act.put, List.setIfInBounds_toArray, List.set_cons_zero, List.set_cons_succ]
      refine wpAnyH_ready (rs := [7]) (by kernel_rfl) (by simp) ?_
      refine AllReadyH.cons (o := { dst := some 47, op := Op.call { callee := Callee.value (Operand.func 37), args := #[Operand.tmp 46], argTypes := #[43] }, type := 30, pos := "ref.go:324", after := #[{ on := 6, ground := Ground.data }, { on := 3, ground := Ground.chain }], guard := none }) rfl (fun K hK => ?_) AllReadyH.nil
      go_simp
      refine JN6007.out.mono ?_
      rintro e' wn6008 ⟨A6008, m6008, c6008, rfl, hm6008, ho6008, hb6008⟩
      have hmm6008 := hm6008.out
      subst hmm6008
      have OW6008 := Lib.hid ho6008
      have QL6008 := Lib.hid (show wn6007.heap.size ≤ wn6007.heap.size from Nat.le_refl _)
      have QH6008 := Lib.hid (hH6007)
      clear hm6008 ho6008
      go_simp
      have RP6006_6008 := Lib.hid (RP6006_6007.out.below hb6008)
      have hS6008 : Below (wa.heap.size) wa wn6008 := (hH6007).trans (hb6008.mono (hH6007).size)
      refine hK.out _ _ hS6008 (fun hH6008 => ?_)
      have hH6008 : Below (wa.heap.size) wa wn6008 := hH6008
      clear hK K hS6008
      try simp only [Act.put, List.setIfInBounds_toArray, List.set_cons_zero, List.set_cons_succ]
      refine wpAnyH_take (i := 8) (oi := { dst := some 3, op := Op.assign (Operand.tmp 47), type := 30, pos := "ref.go:324", after := #[{ on := 7, ground := Ground.data }, { on := 7, ground := Ground.chain }, { on := 0, ground := Ground.phase }, { on := 1, ground := Ground.phase }, { on := 2, ground := Ground.phase }, { on := 3, ground := Ground.phase }, { on := 4, ground := Ground.phase }, { on := 5, ground := Ground.phase }, { on := 6, ground := Ground.phase }, { on := 7, ground := Ground.phase }], guard := none }) (v := ?tkv6009) rfl (by kernel_rfl) (by kernel_rfl) (by kernel_rfl) (fun _ _ _ h => h) (Or.inl ⟨by rfl, ?tky6009⟩) hH6008 ?tkr6009
      case tky6009 => (intro w' hSw; clear hSw; go_simp; try with_reducible rfl)
      try simp only [Act.put, List.setIfInBounds_toArray, List.set_cons_zero, List.set_cons_succ]
      refine wpAnyH_done (by kernel_rfl) ?_ _
      refine NoPanic.normal ?_
      have HON : Hid (OwnAt w (hdr n z R ++ (ls.take (k + 1)).flatMap (lnB n)) _ wn6008) := Lib.hid (by
        rw [HNX.out]
        exact ⟨own_base OW6008.out (Nat.le_trans HBA.out.size QH6008.out.size), HBA.out.trans ((hH6008).mono HBA.out.size)⟩)
      have HLN : Hid ((hdr n z R ++ (ls.take (k + 1)).flatMap (lnB n)).length ≤ 4 + 48 * (k + 1)) := Lib.hid (by
        rw [HNX.out, List.length_append]
        have h1 := HLE.out
        have h2 := HRL.out
        have h3 := bl_length r.X n
        have h4 := HBW.out
        simp [lnB, LR.ln]; omega)
      go_wp2_with fail
      go_roundw
      case rel => exact ⟨k + 1, _, by omega, by first | rfl | simp, by go_num, HON, HLN⟩
      case measure => simp [intOf]; omega
    · obtain rfl : R = k := by omega
      have hfull : hdr n z R ++ (ls.take R).flatMap (lnB n) = hdr n z R ++ ls.flatMap (lnB n) := by rw [← HRR.out, List.take_length]
      rw [hfull] at ho
      obtain ⟨A', cL, hv0, _⟩ := own_slice ho.out.own
      subst hv0
      have HOW := Lib.hid ho.out.own
      have HOB := Lib.hid ho.out.b
      clear ho hfull hlt HLE
      go_wp2_with fail
      go_ret
      exact ⟨A', cL, rfl, HOW, HOB⟩
/-- the program's Row: a row that is there -/
def MRowOk (n X : Nat) (l : List UInt8) (w : World) (e : Ending) (w' : World) : Prop :=
  ∃ g h A c, e = .returned (.tuple #[.pointer (some ⟨g, 0, none⟩), .slice A l.length c, .bool true]) ∧ Hid (VecAt w' g h n X) ∧ Hid (RowU A l.length (bv l) w') ∧ Hid (Below w.heap.size w w')
theorem mrow_out (F : Nat → Prop) (gm gr n z : Nat) (rs : List (Option ER)) (i : Int) (w : World) (m : MatAt w F gm gr n z rs) (hi : i < 0) :
    Calls Tryd.prog 45 #[.pointer (some ⟨gm, 0, none⟩), .int .i64 i] w fun e w' => e = .returned (.tuple #[.pointer none, .slice none 0 0, .bool false]) ∧ w = w' := by
  obtain ⟨c0, _, _, _⟩ := m.cells
  have HE := Lib.hid (empty_no F gm gr n z rs w m)
  clear m
  go_enter Tryd.func45, Tryd.ntmps45
  go_wp2_with fail
  refine HE.out.mono ?_
  rintro e w' ⟨rfl, rfl⟩
  go_wp2_with fail
  refine bodyPost_ret (v := .tuple #[.pointer none, .slice none 0 0, .bool false]) (by simp [results, Tryd.results45, go_sem]) rfl ⟨rfl, rfl⟩
theorem mrow_none (F : Nat → Prop) (gm gr n z i : Nat) (rs : List (Option ER)) (w : World) (m : MatAt w F gm gr n z rs) (hi : i < n) (hr : rs.getD i none = none) :
    Calls Tryd.prog 45 #[.pointer (some ⟨gm, 0, none⟩), .int .i64 (i : Int)] w fun e w' => e = .returned (.tuple #[.pointer none, .slice none 0 0, .bool false]) ∧ w = w' := by
  obtain ⟨c0, _, c2, _⟩ := m.cells
  obtain ⟨r1, r2⟩ := m.row hi
  rw [hr] at r1 r2
  unfold ptrOf at r1
  unfold slcOf at r2
  simp only at r1 r2
  have hni : (n : Int) ≤ 256 := by have := m.n2; omega
  have hii : (i : Int) < (n : Int) := by omega
  have HE := Lib.hid (empty_no F gm gr n z rs w m)
  clear m
  go_enter Tryd.func45, Tryd.ntmps45
  go_wp2_with fail
  refine HE.out.mono ?_
  rintro e w' ⟨rfl, rfl⟩
  go_wp2_with fail
  refine bodyPost_ret (v := .tuple #[.pointer none, .slice none 0 0, .bool false]) (by simp [results, Tryd.results45, go_sem]) rfl ⟨rfl, rfl⟩
set_option maxRecDepth 100000 in
set_option maxHeartbeats 1600000 in
theorem mrow_some (F : Nat → Prop) (gm gr n z i : Nat) (rs : List (Option ER)) (r : ER) (w : World) (m : MatAt w F gm gr n z rs) (hi : i < n) (hr : rs.getD i none = some r) :
    Calls Tryd.prog 45 #[.pointer (some ⟨gm, 0, none⟩), .int .i64 (i : Int)] w (MRowOk n r.X r.l w) := by
  obtain ⟨c0, _, c2, _⟩ := m.cells
  obtain ⟨r1, r2⟩ := m.row hi
  obtain ⟨e1, e2, e3, _⟩ := m.at_ i r (getD_get hr)
  rw [hr] at r1 r2
  unfold ptrOf at r1
  unfold slcOf at r2
  simp only at r1 r2
  have hz1 := m.z1
  have hz2 := m.z2
  have hni : (n : Int) ≤ 256 := by have := m.n2; omega
  have hii : (i : Int) < (n : Int) := by omega
  have HE := Lib.hid (empty_no F gm gr n z rs w m)
  have HOW := Lib.hid (ownR_any r.g r.h n r.X r.c (some ⟨r.d, 0, none⟩) r.l w e1 e2.row (by omega) (by omega))
  obtain ⟨lz, hlz⟩ : ∃ lz, r.l.length = lz := ⟨_, rfl⟩
  have HLZ := Lib.hid hlz
  rw [hlz] at r2 HOW
  clear m e1 e2 e3 hz1 hz2 hr hlz
  go_enter Tryd.func45, Tryd.ntmps45
  go_wp2_with fail
  refine HE.out.mono ?_
  rintro e w' ⟨rfl, rfl⟩
  go_wp2_with fail
  refine HOW.out.mono ?_
  rintro e w5 ⟨g, h, d, c5, rfl, _, _, _, hv5, hd5, hb5⟩
  rw [HLZ.out]
  have HV5 := Lib.hid hv5.out
  have HD5 := Lib.hid hd5.out.row
  have HB5 := Lib.hid hb5.out
  clear hv5 hd5 hb5 c0 c2 r1 r2
  go_upto_region 4 with fail
  have hal : Below w5.heap.size w5 (w5.alloc (.cells #[.pointer (some ⟨g, 0, none⟩), .slice (some ⟨d, 0, none⟩) lz c5] 73)) := (Below.refl _ _).alloc (Nat.le_refl _) _
  have hbx := heap_alloc_new w5 (.cells #[.pointer (some ⟨g, 0, none⟩), .slice (some ⟨d, 0, none⟩) lz c5] 73)
  have HVF := Lib.hid (HV5.out.below hal)
  have HDF := Lib.hid (show RowU (some ⟨d, 0, none⟩) r.l.length (bv r.l) _ from (HD5.out.below hal).more hal.size)
  have HBF := Lib.hid (HB5.out.trans (hal.mono HB5.out.size))
  generalize (w5.alloc (.cells #[.pointer (some ⟨g, 0, none⟩), .slice (some ⟨d, 0, none⟩) lz c5] 73)) = w6 at *
  have k0 : w6.cell? ⟨w5.heap.size, 0, none⟩ = some (.pointer (some ⟨g, 0, none⟩)) := by rw [cell_of_row w6 _ 0 _ _ (0, 0) hbx]; rfl
  have k1 : w6.cell? ⟨w5.heap.size, 1, none⟩ = some (.slice (some ⟨d, 0, none⟩) lz c5) := by rw [cell_of_row w6 _ 1 _ _ (0, 0) hbx]; rfl
  clear hal hbx
  go_quiet (fail)
  go_wp2_with fail
  have HVQ := Lib.hid (HVF.out.drewN nq)
  have HDQ : Hid (RowU (some ⟨d, 0, none⟩) r.l.length (bv r.l) (w6.drewN nq)) := Lib.hid (Row.drewN HDF.out nq)
  have HBQ := Lib.hid (HBF.out.trans ((drew_below w6 nq).mono HBF.out.size))
  refine bodyPost_ret (v := .tuple #[.pointer (some ⟨g, 0, none⟩), .slice (some ⟨d, 0, none⟩) lz c5, .bool true]) (by simp [results, Tryd.results45, go_sem]) rfl ?_
  exact ⟨g, h, some ⟨d, 0, none⟩, c5, by rw [HLZ.out], HVQ, HDQ, HBQ⟩
end Go.Proofs.YtgeodhffgbhmaaaDoor.El
namespace Go.Proofs.YtgeodhffgbhmaaaDoor.El
open Go.RowKit
open VecM Vc
theorem fst_inj {a b : Nat} {x y : List UInt8} (h : some (a, x) = some (b, y)) : a = b ∧ x = y := by injection h with h; injection h with h1 h2; exact ⟨h1, h2⟩
set_option maxRecDepth 100000 in
set_option maxHeartbeats 6400000 in
theorem like6_any {F P : Nat → Prop} (gm gw n z : Nat) (M : Mx) (w : World) (hm : IsMat w F gm n z M) (hr : RMat w P gw n z (rowsTo M n)) (ht : DTab w) :
    Calls Tryd.prog 17 #[.pointer (some ⟨gm, 0, none⟩), .pointer (some ⟨gw, 0, none⟩)] w fun e w' => e = .returned (.bool true) ∧ Hid (Below w.heap.size w w') := by
  have hml : M.length = n := by
    obtain ⟨gr, rs, e, m⟩ := hm
    rw [← e]; unfold absM; rw [List.length_map]; exact m.len
  obtain ⟨A, c, es, hh, hls, hes⟩ := hr.at_
  obtain ⟨hn1, hn2⟩ := hr.n1
  obtain ⟨R, hR⟩ : ∃ R, es.length = R := ⟨_, rfl⟩
  have hrl : (rowsTo M n).length = R := by rw [← hR, ← hes, List.length_map]
  have hRr : rankM M = R := by rw [← rowsTo_rank hml, hrl]
  have hRn : R ≤ n := by rw [← hrl]; exact rowsTo_le M n
  have HRR := Lib.hid hRr
  have HRL := Lib.hid hrl
  have HER := Lib.hid hR
  have HES := Lib.hid hes
  have HT := Lib.hid ht
  have HM := Lib.hid (fun (W : World) (hW : Below w.heap.size w W) => hm.below hW)
  have HRM := Lib.hid (fun (W : World) (hW : Below w.heap.size w W) => hr.below hW)
  have HLS := Lib.hid (fun (W : World) (hW : Below w.heap.size w W) => hls.below hW)
  have HC : Hid (∀ W, Below w.heap.size w W → W.cell? ⟨gw, 0, none⟩ = some (.int .i64 (n : Int)) ∧ W.cell? ⟨gw, 2, none⟩ = some (.slice A R c)) := Lib.hid fun W hW => by
    have h := (hW.block _ (Array.getElem?_eq_some_iff.1 hh).1).trans hh
    rw [hR] at h
    constructor <;> (rw [cell_of_row W _ _ _ _ (0, 0) h]; rfl)
  have HLB2 : Hid (hdr n z (rowsTo M n).length ++ (rowsTo M n).flatMap (lnB n) = bytesM n z M) := Lib.hid (by rw [hrl, ← hRr]; exact rows_bytes)
  obtain ⟨lb, hlb⟩ : ∃ lb, bytesM n z M = lb := ⟨_, rfl⟩
  have HLB := Lib.hid hlb
  rw [hlb] at HLB2
  have hRi : (R : Int) ≤ (n : Int) := by omega
  have hni : (n : Int) ≤ 256 := by omega
  have hzi := hr.z1
  have HZ := Lib.hid hzi
  clear hm hr ht hh hls hes hR hrl hRr hlb hzi
  go_enter Tryd.func17, Tryd.ntmps17
  go_upto_region 1 with fail
  go_cut [44] (fun v wx => v = .bool false ∧ Hid (Below w.heap.size w wx))
  case first =>
    by_cases hfull : R = n
    · have hfi : ((R : Int) == (n : Int)) = true := by rw [beq_iff_eq]; omega
      have HFB : Hid (decide (rankM M = n) = true) := Lib.hid (by rw [HRR.out]; exact decide_eq_true hfull)
      clear hfull
      refine wp_region_noPanic ?_
      refine wp_region_held_drew (S := (fun W => Below (w.heap.size) w W)) (by kernel_rfl) (Below.refl _ _).drew (fun hH0 => ?_)
      have hH0 : Below (w.heap.size) w w.drew := hH0
      generalize w.drew = wd1000 at *
      refine wpAnyH_take (i := 0) (oi := { dst := some 13, op := Op.move (Operand.tmp 0), type := 25, pos := "law.go:37", after := #[], guard := none }) (v := ?tkv1001) rfl (by kernel_rfl) (by kernel_rfl) (by kernel_rfl) (fun _ _ _ h => h) (Or.inl ⟨by rfl, ?tky1001⟩) hH0 ?tkr1001
      case tky1001 => (intro w' hSw; clear hSw; go_simp; try with_reducible rfl)
      try simp only [Act.put, List.setIfInBounds_toArray, List.set_cons_zero, List.set_cons_succ]
      refine wpAnyH_take (i := 2) (oi := { dst := some 15, op := Op.move (Operand.tmp 1), type := 27, pos := "law.go:37", after := #[], guard := none }) (v := ?tkv1002) rfl (by kernel_rfl) (by kernel_rfl) (by kernel_rfl) (fun _ _ _ h => h) (Or.inl ⟨by rfl, ?tky1002⟩) hH0 ?tkr1002
      case tky1002 => (intro w' hSw; clear hSw; go_simp; try with_reducible rfl)
      try simp only [Act.put, List.setIfInBounds_toArray, List.set_cons_zero, List.set_cons_succ]
      refine wpAnyH_take (i := 3) (oi := { dst := some 16, op := Op.nilCheck (Operand.tmp 15), type := 0, pos := "law.go:37", after := #[{ on := 2, ground := Ground.data }], guard := none }) (v := ?tkv1003) rfl (by kernel_rfl) (by kernel_rfl) (by kernel_rfl) (fun _ _ _ h => h) (Or.inl ⟨by rfl, ?tky1003⟩) hH0 ?tkr1003
      case tky1003 => (intro w' hSw; clear hSw; go_simp; try with_reducible rfl)
      try simp only [Act.put, List.setIfInBounds_toArray, List.set_cons_zero, List.set_cons_succ]
      refine wpAnyH_take (i := 4) (oi := { dst := some 17, op := Op.fieldAddr 47 (Operand.tmp 16) 2, type := 0, pos := "law.go:37", after := #[{ on := 3, ground := Ground.data }], guard := none }) (v := ?tkv1004) rfl (by kernel_rfl) (by kernel_rfl) (by kernel_rfl) (fun _ _ _ h => h) (Or.inl ⟨by rfl, ?tky1004⟩) hH0 ?tkr1004
      case tky1004 => (intro w' hSw; clear hSw; go_simp; try with_reducible rfl)
      try simp only [Act.put, List.setIfInBounds_toArray, List.set_cons_zero, List.set_cons_succ]
      refine wpAnyH_take (i := 5) (oi := { dst := some 18, op := Op.load 45 (Operand.tmp 17), type := 45, pos := "law.go:37", after := #[{ on := 4, ground := Ground.data }], guard := none }) (v := ?tkv1005) rfl (by kernel_rfl) (by kernel_rfl) (by kernel_rfl) (fun _ _ _ h => h) (Or.inl ⟨by rfl, ?tky1005⟩) hH0 ?tkr1005
      case tky1005 => (intro w' hSw; have z0 := HC.out _ hSw; clear hSw; go_simp; try with_reducible rfl)
      try simp only [Act.put, List.setIfInBounds_toArray, List.set_cons_zero, List.set_cons_succ]
      refine wpAnyH_take (i := 6) (oi := { dst := some 19, op := Op.call { callee := Callee.builtin Builtin.len, args := #[Operand.tmp 18], argTypes := #[45] }, type := 3, pos := "law.go:37", after := #[{ on := 5, ground := Ground.data }], guard := none }) (v := ?tkv1006) rfl (by kernel_rfl) (by kernel_rfl) (by kernel_rfl) (fun _ _ _ h => h) (Or.inl ⟨by rfl, ?tky1006⟩) hH0 ?tkr1006
      case tky1006 => (intro w' hSw; clear hSw; go_simp; try with_reducible rfl)
      try simp only [Act.put, List.setIfInBounds_toArray, List.set_cons_zero, List.set_cons_succ]
      refine wpAnyH_ready (rs := [1]) (by kernel_rfl) (by simp) ?_
      refine AllReadyH.cons (o := { dst := some 14, op := Op.call { callee := Callee.value (Operand.func 23), args := #[Operand.tmp 13], argTypes := #[25] }, type := 3, pos := "law.go:37", after := #[{ on := 0, ground := Ground.data }], guard := none }) rfl (fun K hK => ?_) AllReadyH.nil
      go_simp
      refine (rankI (HM.out wd1000 (hH0))).mono ?_
      rw [HRR.out]
      rintro e' wx1007 ⟨rfl, rfl⟩
      go_simp
      have hS1007 : Below (w.heap.size) w wd1000 := hH0
      refine hK.out _ _ hS1007 (fun hH1007 => ?_)
      have hH1007 : Below (w.heap.size) w wd1000 := hH1007
      clear hK K hS1007
      try simp only [Act.put, List.setIfInBounds_toArray, List.set_cons_zero, List.set_cons_succ]
      refine wpAnyH_take (i := 7) (oi := { dst := some 20, op := Op.binOp BinOp.neq 3 (Operand.tmp 14) (Operand.tmp 19) 3, type := 4, pos := "law.go:37", after := #[{ on := 1, ground := Ground.data }, { on := 6, ground := Ground.data }], guard := none }) (v := ?tkv1008) rfl (by kernel_rfl) (by kernel_rfl) (by kernel_rfl) (fun _ _ _ h => h) (Or.inl ⟨by rfl, ?tky1008⟩) hH1007 ?tkr1008
      case tky1008 => (intro w' hSw; clear hSw; go_simp; try with_reducible rfl)
      try simp only [Act.put, List.setIfInBounds_toArray, List.set_cons_zero, List.set_cons_succ]
      refine wpAnyH_take (i := 8) (oi := { dst := some 21, op := Op.move (Operand.tmp 20), type := 4, pos := "law.go:37", after := #[{ on := 7, ground := Ground.data }, { on := 1, ground := Ground.chain }], guard := none }) (v := ?tkv1009) rfl (by kernel_rfl) (by kernel_rfl) (by kernel_rfl) (fun _ _ _ h => h) (Or.inl ⟨by rfl, ?tky1009⟩) hH1007 ?tkr1009
      case tky1009 => (intro w' hSw; clear hSw; go_simp; try with_reducible rfl)
      try simp only [Act.put, List.setIfInBounds_toArray, List.set_cons_zero, List.set_cons_succ]
      refine wpAnyH_take (i := 9) (oi := { dst := some 22, op := Op.move (Operand.tmp 0), type := 25, pos := "law.go:37", after := #[{ on := 8, ground := Ground.guard }], guard := some (8, false) }) (v := ?tkv1010) rfl (by kernel_rfl) (by kernel_rfl) (by kernel_rfl) (fun _ _ _ h => h) (Or.inl ⟨by rfl, ?tky1010⟩) hH1007 ?tkr1010
      case tky1010 => (intro w' hSw; clear hSw; go_simp; try with_reducible rfl)
      try simp only [Act.put, List.setIfInBounds_toArray, List.set_cons_zero, List.set_cons_succ]
      refine wpAnyH_take (i := 11) (oi := { dst := some 24, op := Op.move (Operand.tmp 1), type := 27, pos := "law.go:37", after := #[{ on := 8, ground := Ground.guard }], guard := some (8, false) }) (v := ?tkv1011) rfl (by kernel_rfl) (by kernel_rfl) (by kernel_rfl) (fun _ _ _ h => h) (Or.inl ⟨by rfl, ?tky1011⟩) hH1007 ?tkr1011
      case tky1011 => (intro w' hSw; clear hSw; go_simp; try with_reducible rfl)
      try simp only [Act.put, List.setIfInBounds_toArray, List.set_cons_zero, List.set_cons_succ]
      refine wpAnyH_take (i := 12) (oi := { dst := some 25, op := Op.nilCheck (Operand.tmp 24), type := 0, pos := "law.go:37", after := #[{ on := 11, ground := Ground.data }, { on := 8, ground := Ground.guard }], guard := some (8, false) }) (v := ?tkv1012) rfl (by kernel_rfl) (by kernel_rfl) (by kernel_rfl) (fun _ _ _ h => h) (Or.inl ⟨by rfl, ?tky1012⟩) hH1007 ?tkr1012
      case tky1012 => (intro w' hSw; clear hSw; go_simp; try with_reducible rfl)
      try simp only [Act.put, List.setIfInBounds_toArray, List.set_cons_zero, List.set_cons_succ]
      refine wpAnyH_take (i := 13) (oi := { dst := some 26, op := Op.fieldAddr 47 (Operand.tmp 25) 2, type := 0, pos := "law.go:37", after := #[{ on := 12, ground := Ground.data }, { on := 8, ground := Ground.guard }], guard := some (8, false) }) (v := ?tkv1013) rfl (by kernel_rfl) (by kernel_rfl) (by kernel_rfl) (fun _ _ _ h => h) (Or.inl ⟨by rfl, ?tky1013⟩) hH1007 ?tkr1013
      case tky1013 => (intro w' hSw; clear hSw; go_simp; try with_reducible rfl)
      try simp only [Act.put, List.setIfInBounds_toArray, List.set_cons_zero, List.set_cons_succ]
      refine wpAnyH_take (i := 14) (oi := { dst := some 27, op := Op.load 45 (Operand.tmp 26), type := 45, pos := "law.go:37", after := #[{ on := 13, ground := Ground.data }, { on := 8, ground := Ground.guard }], guard := some (8, false) }) (v := ?tkv1014) rfl (by kernel_rfl) (by kernel_rfl) (by kernel_rfl) (fun _ _ _ h => h) (Or.inl ⟨by rfl, ?tky1014⟩) hH1007 ?tkr1014
      case tky1014 => (intro w' hSw; have z0 := HC.out _ hSw; clear hSw; go_simp; try with_reducible rfl)
      try simp only [Act.put, List.setIfInBounds_toArray, List.set_cons_zero, List.set_cons_succ]
      refine wpAnyH_take (i := 15) (oi := { dst := some 28, op := Op.call { callee := Callee.builtin Builtin.len, args := #[Operand.tmp 27], argTypes := #[45] }, type := 3, pos := "law.go:37", after := #[{ on := 14, ground := Ground.data }, { on := 8, ground := Ground.guard }], guard := some (8, false) }) (v := ?tkv1015) rfl (by kernel_rfl) (by kernel_rfl) (by kernel_rfl) (fun _ _ _ h => h) (Or.inl ⟨by rfl, ?tky1015⟩) hH1007 ?tkr1015
      case tky1015 => (intro w' hSw; clear hSw; go_simp; try with_reducible rfl)
      try simp only [Act.put, List.setIfInBounds_toArray, List.set_cons_zero, List.set_cons_succ]
      refine wpAnyH_take (i := 16) (oi := { dst := some 29, op := Op.move (Operand.tmp 1), type := 27, pos := "law.go:37", after := #[{ on := 8, ground := Ground.guard }], guard := some (8, false) }) (v := ?tkv1016) rfl (by kernel_rfl) (by kernel_rfl) (by kernel_rfl) (fun _ _ _ h => h) (Or.inl ⟨by rfl, ?tky1016⟩) hH1007 ?tkr1016
      case tky1016 => (intro w' hSw; clear hSw; go_simp; try with_reducible rfl)
      try simp only [Act.put, List.setIfInBounds_toArray, List.set_cons_zero, List.set_cons_succ]
      refine wpAnyH_take (i := 17) (oi := { dst := some 30, op := Op.nilCheck (Operand.tmp 29), type := 0, pos := "law.go:37", after := #[{ on := 16, ground := Ground.data }, { on := 8, ground := Ground.guard }], guard := some (8, false) }) (v := ?tkv1017) rfl (by kernel_rfl) (by kernel_rfl) (by kernel_rfl) (fun _ _ _ h => h) (Or.inl ⟨by rfl, ?tky1017⟩) hH1007 ?tkr1017
      case tky1017 => (intro w' hSw; clear hSw; go_simp; try with_reducible rfl)
      try simp only [Act.put, List.setIfInBounds_toArray, List.set_cons_zero, List.set_cons_succ]
      refine wpAnyH_take (i := 18) (oi := { dst := some 31, op := Op.fieldAddr 47 (Operand.tmp 30) 0, type := 0, pos := "law.go:37", after := #[{ on := 17, ground := Ground.data }, { on := 8, ground := Ground.guard }], guard := some (8, false) }) (v := ?tkv1018) rfl (by kernel_rfl) (by kernel_rfl) (by kernel_rfl) (fun _ _ _ h => h) (Or.inl ⟨by rfl, ?tky1018⟩) hH1007 ?tkr1018
      case tky1018 => (intro w' hSw; clear hSw; go_simp; try with_reducible rfl)
      try simp only [Act.put, List.setIfInBounds_toArray, List.set_cons_zero, List.set_cons_succ]
      refine wpAnyH_take (i := 19) (oi := { dst := some 32, op := Op.load 3 (Operand.tmp 31), type := 3, pos := "law.go:37", after := #[{ on := 18, ground := Ground.data }, { on := 8, ground := Ground.guard }], guard := some (8, false) }) (v := ?tkv1019) rfl (by kernel_rfl) (by kernel_rfl) (by kernel_rfl) (fun _ _ _ h => h) (Or.inl ⟨by rfl, ?tky1019⟩) hH1007 ?tkr1019
      case tky1019 => (intro w' hSw; have z0 := HC.out _ hSw; clear hSw; go_simp; try with_reducible rfl)
      try simp only [Act.put, List.setIfInBounds_toArray, List.set_cons_zero, List.set_cons_succ]
      refine wpAnyH_take (i := 20) (oi := { dst := some 33, op := Op.binOp BinOp.eql 3 (Operand.tmp 28) (Operand.tmp 32) 3, type := 4, pos := "law.go:37", after := #[{ on := 15, ground := Ground.data }, { on := 19, ground := Ground.data }, { on := 8, ground := Ground.guard }], guard := some (8, false) }) (v := ?tkv1020) rfl (by kernel_rfl) (by kernel_rfl) (by kernel_rfl) (fun _ _ _ h => h) (Or.inl ⟨by rfl, ?tky1020⟩) hH1007 ?tkr1020
      case tky1020 => (intro w' hSw; clear hSw; go_simp; try with_reducible rfl)
      try simp only [Act.put, List.setIfInBounds_toArray, List.set_cons_zero, List.set_cons_succ]
      refine wpAnyH_ready (rs := [10]) (by kernel_rfl) (by simp) ?_
      refine AllReadyH.cons (o := { dst := some 23, op := Op.call { callee := Callee.value (Operand.func 24), args := #[Operand.tmp 22], argTypes := #[25] }, type := 4, pos := "law.go:37", after := #[{ on := 9, ground := Ground.data }, { on := 8, ground := Ground.chain }, { on := 8, ground := Ground.guard }], guard := some (8, false) }) rfl (fun K hK => ?_) AllReadyH.nil
      go_simp
      refine (fullI (HM.out wd1000 (hH1007))).mono ?_
      rw [HFB.out]
      rintro e' wn1021 ⟨rfl, hb1021'⟩
      have hb1021 := hb1021'.out
      clear hb1021'
      go_simp
      have hS1021 : Below (w.heap.size) w wn1021 := (hH1007).trans (hb1021.mono (hH1007).size)
      refine hK.out _ _ hS1021 (fun hH1021 => ?_)
      have hH1021 : Below (w.heap.size) w wn1021 := hH1021
      clear hK K hS1021
      try simp only [Act.put, List.setIfInBounds_toArray, List.set_cons_zero, List.set_cons_succ]
      refine wpAnyH_take (i := 21) (oi := { dst := some 34, op := Op.binOp BinOp.neq 4 (Operand.tmp 23) (Operand.tmp 33) 4, type := 4, pos := "law.go:37", after := #[{ on := 10, ground := Ground.data }, { on := 20, ground := Ground.data }, { on := 8, ground := Ground.guard }], guard := some (8, false) }) (v := ?tkv1022) rfl (by kernel_rfl) (by kernel_rfl) (by kernel_rfl) (fun _ _ _ h => h) (Or.inl ⟨by rfl, ?tky1022⟩) hH1021 ?tkr1022
      case tky1022 => (intro w' hSw; clear hSw; go_simp; try with_reducible rfl)
      try simp only [Act.put, List.setIfInBounds_toArray, List.set_cons_zero, List.set_cons_succ]
      refine wpAnyH_take (i := 22) (oi := { dst := some 35, op := Op.pick (Operand.tmp 21) (Operand.const (Value.bool true)) (Operand.tmp 34), type := 4, pos := "law.go:37", after := #[{ on := 8, ground := Ground.data }, { on := 21, ground := Ground.data }], guard := none }) (v := ?tkv1023) rfl (by kernel_rfl) (by kernel_rfl) (by kernel_rfl) (fun _ _ _ h => h) (Or.inl ⟨by rfl, ?tky1023⟩) hH1021 ?tkr1023
      case tky1023 => (intro w' hSw; clear hSw; go_simp; try with_reducible rfl)
      try simp only [Act.put, List.setIfInBounds_toArray, List.set_cons_zero, List.set_cons_succ]
      refine wpAnyH_take (i := 23) (oi := { dst := some 36, op := Op.move (Operand.tmp 35), type := 4, pos := "law.go:37", after := #[{ on := 22, ground := Ground.data }, { on := 10, ground := Ground.chain }], guard := none }) (v := ?tkv1024) rfl (by kernel_rfl) (by kernel_rfl) (by kernel_rfl) (fun _ _ _ h => h) (Or.inl ⟨by rfl, ?tky1024⟩) hH1021 ?tkr1024
      case tky1024 => (intro w' hSw; clear hSw; go_simp; try with_reducible rfl)
      try simp only [Act.put, List.setIfInBounds_toArray, List.set_cons_zero, List.set_cons_succ]
      refine wpAnyH_take (i := 24) (oi := { dst := some 37, op := Op.move (Operand.tmp 0), type := 25, pos := "law.go:37", after := #[{ on := 23, ground := Ground.guard }], guard := some (23, false) }) (v := ?tkv1025) rfl (by kernel_rfl) (by kernel_rfl) (by kernel_rfl) (fun _ _ _ h => h) (Or.inl ⟨by rfl, ?tky1025⟩) hH1021 ?tkr1025
      case tky1025 => (intro w' hSw; clear hSw; go_simp; try with_reducible rfl)
      try simp only [Act.put, List.setIfInBounds_toArray, List.set_cons_zero, List.set_cons_succ]
      refine wpAnyH_take (i := 27) (oi := { dst := some 40, op := Op.move (Operand.tmp 1), type := 27, pos := "law.go:37", after := #[{ on := 23, ground := Ground.guard }], guard := some (23, false) }) (v := ?tkv1026) rfl (by kernel_rfl) (by kernel_rfl) (by kernel_rfl) (fun _ _ _ h => h) (Or.inl ⟨by rfl, ?tky1026⟩) hH1021 ?tkr1026
      case tky1026 => (intro w' hSw; clear hSw; go_simp; try with_reducible rfl)
      try simp only [Act.put, List.setIfInBounds_toArray, List.set_cons_zero, List.set_cons_succ]
      refine wpAnyH_ready (rs := [25]) (by kernel_rfl) (by simp) ?_
      refine AllReadyH.cons (o := { dst := some 38, op := Op.call { callee := Callee.value (Operand.func 22), args := #[Operand.tmp 37], argTypes := #[25] }, type := 30, pos := "law.go:37", after := #[{ on := 24, ground := Ground.data }, { on := 23, ground := Ground.chain }, { on := 23, ground := Ground.guard }], guard := some (23, false) }) rfl (fun K hK => ?_) AllReadyH.nil
      go_simp
      refine (bytesI (HM.out wn1021 (hH1021))).mono ?_
      rw [HLB.out]
      rintro e' wn1027 ⟨A1027, c1027, rfl, ho1027, hb1027'⟩
      have hb1027 := hb1027'.out
      have CV1027 := Lib.hid (conv_own c1027 ho1027.out)
      clear hb1027' ho1027
      go_simp
      have hS1027 : Below (w.heap.size) w wn1027 := (hH1021).trans (hb1027.mono (hH1021).size)
      refine hK.out _ _ hS1027 (fun hH1027 => ?_)
      have hH1027 : Below (w.heap.size) w wn1027 := hH1027
      clear hK K hS1027
      try simp only [Act.put, List.setIfInBounds_toArray, List.set_cons_zero, List.set_cons_succ]
      refine wpAnyH_ready (rs := [26, 28]) (by kernel_rfl) (by simp) ?_
      refine AllReadyH.cons (o := { dst := some 39, op := Op.convert 30 9 (Operand.tmp 38), type := 9, pos := "law.go:37", after := #[{ on := 25, ground := Ground.data }, { on := 23, ground := Ground.guard }], guard := some (23, false) }) rfl (fun K hK => ?_) (AllReadyH.cons (o := { dst := some 41, op := Op.call { callee := Callee.value (Operand.func 19), args := #[Operand.tmp 40], argTypes := #[27] }, type := 30, pos := "law.go:37", after := #[{ on := 27, ground := Ground.data }, { on := 25, ground := Ground.chain }, { on := 23, ground := Ground.guard }], guard := some (23, false) }) rfl (fun K hK => ?_) AllReadyH.nil)
      · have hcv1028 := CV1027.out wn1027 (Below.refl wn1027.heap.size wn1027)
        go_simp
        clear hcv1028
        have hS1028 : Below (w.heap.size) w wn1027 := hH1027
        refine hK.out _ _ hS1028 (fun hH1028 => ?_)
        have hH1028 : Below (w.heap.size) w wn1027 := hH1028
        clear hK K hS1028
        try simp only [Act.put, List.setIfInBounds_toArray, List.set_cons_zero, List.set_cons_succ]
        refine wpAnyH_ready (rs := [28]) (by kernel_rfl) (by simp) ?_
        refine AllReadyH.cons (o := { dst := some 41, op := Op.call { callee := Callee.value (Operand.func 19), args := #[Operand.tmp 40], argTypes := #[27] }, type := 30, pos := "law.go:37", after := #[{ on := 27, ground := Ground.data }, { on := 25, ground := Ground.chain }, { on := 23, ground := Ground.guard }], guard := some (23, false) }) rfl (fun K hK => ?_) AllReadyH.nil
        go_simp
        refine (rbytes_any P gw n z _ _ (HRM.out wn1027 (hH1028))).mono ?_
        rw [HLB2.out]
        rintro e' wn1029 ⟨A1029, c1029, rfl, ho1029, hb1029'⟩
        have hb1029 := hb1029'.out
        have CV1029 := Lib.hid (conv_own c1029 ho1029.out)
        clear hb1029' ho1029
        go_simp
        have hS1029 : Below (w.heap.size) w wn1029 := (hH1028).trans (hb1029.mono (hH1028).size)
        refine hK.out _ _ hS1029 (fun hH1029 => ?_)
        have hH1029 : Below (w.heap.size) w wn1029 := hH1029
        clear hK K hS1029
        try simp only [Act.put, List.setIfInBounds_toArray, List.set_cons_zero, List.set_cons_succ]
        refine wpAnyH_ready (rs := [29]) (by kernel_rfl) (by simp) ?_
        refine AllReadyH.cons (o := { dst := some 42, op := Op.convert 30 9 (Operand.tmp 41), type := 9, pos := "law.go:37", after := #[{ on := 28, ground := Ground.data }, { on := 23, ground := Ground.guard }], guard := some (23, false) }) rfl (fun K hK => ?_) AllReadyH.nil
        have hcv1030 := CV1029.out wn1029 (Below.refl wn1029.heap.size wn1029)
        go_simp
        clear hcv1030
        have hS1030 : Below (w.heap.size) w wn1029 := hH1029
        refine hK.out _ _ hS1030 (fun hH1030 => ?_)
        have hH1030 : Below (w.heap.size) w wn1029 := hH1030
        clear hK K hS1030
        try simp only [Act.put, List.setIfInBounds_toArray, List.set_cons_zero, List.set_cons_succ]
        refine wpAnyH_take (i := 30) (oi := { dst := some 43, op := Op.binOp BinOp.neq 9 (Operand.tmp 39) (Operand.tmp 42) 9, type := 4, pos := "law.go:37", after := #[{ on := 26, ground := Ground.data }, { on := 29, ground := Ground.data }, { on := 23, ground := Ground.guard }], guard := some (23, false) }) (v := ?tkv1031) rfl (by kernel_rfl) (by kernel_rfl) (by kernel_rfl) (fun _ _ _ h => h) (Or.inl ⟨by rfl, ?tky1031⟩) hH1030 ?tkr1031
        case tky1031 => (intro w' hSw; clear hSw; go_simp; try with_reducible rfl)
        try simp only [Act.put, List.setIfInBounds_toArray, List.set_cons_zero, List.set_cons_succ]
        refine wpAnyH_take (i := 31) (oi := { dst := some 44, op := Op.pick (Operand.tmp 36) (Operand.const (Value.bool true)) (Operand.tmp 43), type := 4, pos := "law.go:37", after := #[{ on := 23, ground := Ground.data }, { on := 30, ground := Ground.data }], guard := none }) (v := ?tkv1032) rfl (by kernel_rfl) (by kernel_rfl) (by kernel_rfl) (fun _ _ _ h => h) (Or.inl ⟨by rfl, ?tky1032⟩) hH1030 ?tkr1032
        case tky1032 => (intro w' hSw; clear hSw; go_simp; try with_reducible rfl)
        try simp only [Act.put, List.setIfInBounds_toArray, List.set_cons_zero, List.set_cons_succ]
        refine wpAnyH_done (by kernel_rfl) ?_ _
        refine NoPanic.normal ?_
        obtain ⟨wy, rfl⟩ : ∃ x : World, x = wn1029 := ⟨_, rfl⟩
        have HB1 : Hid (Below w.heap.size w wy) := Lib.hid (hH1030)
        go_wp2_with fail
        go_meet
        exact ⟨rfl, HB1⟩
      · go_simp
        refine (rbytes_any P gw n z _ _ (HRM.out wn1027 (hH1027))).mono ?_
        rw [HLB2.out]
        rintro e' wn1033 ⟨A1033, c1033, rfl, ho1033, hb1033'⟩
        have hb1033 := hb1033'.out
        have CV1033 := Lib.hid (conv_own c1033 ho1033.out)
        clear hb1033' ho1033
        go_simp
        have hS1033 : Below (w.heap.size) w wn1033 := (hH1027).trans (hb1033.mono (hH1027).size)
        refine hK.out _ _ hS1033 (fun hH1033 => ?_)
        have hH1033 : Below (w.heap.size) w wn1033 := hH1033
        clear hK K hS1033
        try simp only [Act.put, List.setIfInBounds_toArray, List.set_cons_zero, List.set_cons_succ]
        refine wpAnyH_ready (rs := [26, 29]) (by kernel_rfl) (by simp) ?_
        refine AllReadyH.cons (o := { dst := some 39, op := Op.convert 30 9 (Operand.tmp 38), type := 9, pos := "law.go:37", after := #[{ on := 25, ground := Ground.data }, { on := 23, ground := Ground.guard }], guard := some (23, false) }) rfl (fun K hK => ?_) (AllReadyH.cons (o := { dst := some 42, op := Op.convert 30 9 (Operand.tmp 41), type := 9, pos := "law.go:37", after := #[{ on := 28, ground := Ground.data }, { on := 23, ground := Ground.guard }], guard := some (23, false) }) rfl (fun K hK => ?_) AllReadyH.nil)
        · have hcv1034 := CV1027.out wn1033 (((Below.refl wn1027.heap.size wn1027)).trans (hb1033.mono ((Below.refl wn1027.heap.size wn1027)).size))
          go_simp
          clear hcv1034
          have hS1034 : Below (w.heap.size) w wn1033 := hH1033
          refine hK.out _ _ hS1034 (fun hH1034 => ?_)
          have hH1034 : Below (w.heap.size) w wn1033 := hH1034
          clear hK K hS1034
          try simp only [Act.put, List.setIfInBounds_toArray, List.set_cons_zero, List.set_cons_succ]
          refine wpAnyH_ready (rs := [29]) (by kernel_rfl) (by simp) ?_
          refine AllReadyH.cons (o := { dst := some 42, op := Op.convert 30 9 (Operand.tmp 41), type := 9, pos := "law.go:37", after := #[{ on := 28, ground := Ground.data }, { on := 23, ground := Ground.guard }], guard := some (23, false) }) rfl (fun K hK => ?_) AllReadyH.nil
          have hcv1035 := CV1033.out wn1033 (Below.refl wn1033.heap.size wn1033)
          go_simp
          clear hcv1035
          have hS1035 : Below (w.heap.size) w wn1033 := hH1034
          refine hK.out _ _ hS1035 (fun hH1035 => ?_)
          have hH1035 : Below (w.heap.size) w wn1033 := hH1035
          clear hK K hS1035
          try simp only [Act.put, List.setIfInBounds_toArray, List.set_cons_zero, List.set_cons_succ]
          refine wpAnyH_take (i := 30) (oi := { dst := some 43, op := Op.binOp BinOp.neq 9 (Operand.tmp 39) (Operand.tmp 42) 9, type := 4, pos := "law.go:37", after := #[{ on := 26, ground := Ground.data }, { on := 29, ground := Ground.data }, { on := 23, ground := Ground.guard }], guard := some (23, false) }) (v := ?tkv1036) rfl (by kernel_rfl) (by kernel_rfl) (by kernel_rfl) (fun _ _ _ h => h) (Or.inl ⟨by rfl, ?tky1036⟩) hH1035 ?tkr1036
          case tky1036 => (intro w' hSw; clear hSw; go_simp; try with_reducible rfl)
          try simp only [Act.put, List.setIfInBounds_toArray, List.set_cons_zero, List.set_cons_succ]
          refine wpAnyH_take (i := 31) (oi := { dst := some 44, op := Op.pick (Operand.tmp 36) (Operand.const (Value.bool true)) (Operand.tmp 43), type := 4, pos := "law.go:37", after := #[{ on := 23, ground := Ground.data }, { on := 30, ground := Ground.data }], guard := none }) (v := ?tkv1037) rfl (by kernel_rfl) (by kernel_rfl) (by kernel_rfl) (fun _ _ _ h => h) (Or.inl ⟨by rfl, ?tky1037⟩) hH1035 ?tkr1037
          case tky1037 => (intro w' hSw; clear hSw; go_simp; try with_reducible rfl)
          try simp only [Act.put, List.setIfInBounds_toArray, List.set_cons_zero, List.set_cons_succ]
          refine wpAnyH_done (by kernel_rfl) ?_ _
          refine NoPanic.normal ?_
          obtain ⟨wy, rfl⟩ : ∃ x : World, x = wn1033 := ⟨_, rfl⟩
          have HB1 : Hid (Below w.heap.size w wy) := Lib.hid (hH1035)
          go_wp2_with fail
          go_meet
          exact ⟨rfl, HB1⟩
        · have hcv1038 := CV1033.out wn1033 (Below.refl wn1033.heap.size wn1033)
          go_simp
          clear hcv1038
          have hS1038 : Below (w.heap.size) w wn1033 := hH1033
          refine hK.out _ _ hS1038 (fun hH1038 => ?_)
          have hH1038 : Below (w.heap.size) w wn1033 := hH1038
          clear hK K hS1038
          try simp only [Act.put, List.setIfInBounds_toArray, List.set_cons_zero, List.set_cons_succ]
          refine wpAnyH_ready (rs := [26]) (by kernel_rfl) (by simp) ?_
          refine AllReadyH.cons (o := { dst := some 39, op := Op.convert 30 9 (Operand.tmp 38), type := 9, pos := "law.go:37", after := #[{ on := 25, ground := Ground.data }, { on := 23, ground := Ground.guard }], guard := some (23, false) }) rfl (fun K hK => ?_) AllReadyH.nil
          have hcv1039 := CV1027.out wn1033 (((Below.refl wn1027.heap.size wn1027)).trans (hb1033.mono ((Below.refl wn1027.heap.size wn1027)).size))
          go_simp
          clear hcv1039
          have hS1039 : Below (w.heap.size) w wn1033 := hH1038
          refine hK.out _ _ hS1039 (fun hH1039 => ?_)
          have hH1039 : Below (w.heap.size) w wn1033 := hH1039
          clear hK K hS1039
          try simp only [Act.put, List.setIfInBounds_toArray, List.set_cons_zero, List.set_cons_succ]
          refine wpAnyH_take (i := 30) (oi := { dst := some 43, op := Op.binOp BinOp.neq 9 (Operand.tmp 39) (Operand.tmp 42) 9, type := 4, pos := "law.go:37", after := #[{ on := 26, ground := Ground.data }, { on := 29, ground := Ground.data }, { on := 23, ground := Ground.guard }], guard := some (23, false) }) (v := ?tkv1040) rfl (by kernel_rfl) (by kernel_rfl) (by kernel_rfl) (fun _ _ _ h => h) (Or.inl ⟨by rfl, ?tky1040⟩) hH1039 ?tkr1040
          case tky1040 => (intro w' hSw; clear hSw; go_simp; try with_reducible rfl)
          try simp only [Act.put, List.setIfInBounds_toArray, List.set_cons_zero, List.set_cons_succ]
          refine wpAnyH_take (i := 31) (oi := { dst := some 44, op := Op.pick (Operand.tmp 36) (Operand.const (Value.bool true)) (Operand.tmp 43), type := 4, pos := "law.go:37", after := #[{ on := 23, ground := Ground.data }, { on := 30, ground := Ground.data }], guard := none }) (v := ?tkv1041) rfl (by kernel_rfl) (by kernel_rfl) (by kernel_rfl) (fun _ _ _ h => h) (Or.inl ⟨by rfl, ?tky1041⟩) hH1039 ?tkr1041
          case tky1041 => (intro w' hSw; clear hSw; go_simp; try with_reducible rfl)
          try simp only [Act.put, List.setIfInBounds_toArray, List.set_cons_zero, List.set_cons_succ]
          refine wpAnyH_done (by kernel_rfl) ?_ _
          refine NoPanic.normal ?_
          obtain ⟨wy, rfl⟩ : ∃ x : World, x = wn1033 := ⟨_, rfl⟩
          have HB1 : Hid (Below w.heap.size w wy) := Lib.hid (hH1039)
          go_wp2_with fail
          go_meet
          exact ⟨rfl, HB1⟩
    · have hfi : ((R : Int) == (n : Int)) = false := by rw [beq_eq_false_iff_ne]; omega
      have HFB : Hid (decide (rankM M = n) = false) := Lib.hid (by rw [HRR.out]; exact decide_eq_false hfull)
      clear hfull
      refine wp_region_noPanic ?_
      refine wp_region_held_drew (S := (fun W => Below (w.heap.size) w W)) (by kernel_rfl) (Below.refl _ _).drew (fun hH0 => ?_)
      have hH0 : Below (w.heap.size) w w.drew := hH0
      generalize w.drew = wd2000 at *
      refine wpAnyH_take (i := 0) (oi := { dst := some 13, op := Op.move (Operand.tmp 0), type := 25, pos := "law.go:37", after := #[], guard := none }) (v := ?tkv2001) rfl (by kernel_rfl) (by kernel_rfl) (by kernel_rfl) (fun _ _ _ h => h) (Or.inl ⟨by rfl, ?tky2001⟩) hH0 ?tkr2001
      case tky2001 => (intro w' hSw; clear hSw; go_simp; try with_reducible rfl)
      try simp only [Act.put, List.setIfInBounds_toArray, List.set_cons_zero, List.set_cons_succ]
      refine wpAnyH_take (i := 2) (oi := { dst := some 15, op := Op.move (Operand.tmp 1), type := 27, pos := "law.go:37", after := #[], guard := none }) (v := ?tkv2002) rfl (by kernel_rfl) (by kernel_rfl) (by kernel_rfl) (fun _ _ _ h => h) (Or.inl ⟨by rfl, ?tky2002⟩) hH0 ?tkr2002
      case tky2002 => (intro w' hSw; clear hSw; go_simp; try with_reducible rfl)
      try simp only [Act.put, List.setIfInBounds_toArray, List.set_cons_zero, List.set_cons_succ]
      refine wpAnyH_take (i := 3) (oi := { dst := some 16, op := Op.nilCheck (Operand.tmp 15), type := 0, pos := "law.go:37", after := #[{ on := 2, ground := Ground.data }], guard := none }) (v := ?tkv2003) rfl (by kernel_rfl) (by kernel_rfl) (by kernel_rfl) (fun _ _ _ h => h) (Or.inl ⟨by rfl, ?tky2003⟩) hH0 ?tkr2003
      case tky2003 => (intro w' hSw; clear hSw; go_simp; try with_reducible rfl)
      try simp only [Act.put, List.setIfInBounds_toArray, List.set_cons_zero, List.set_cons_succ]
      refine wpAnyH_take (i := 4) (oi := { dst := some 17, op := Op.fieldAddr 47 (Operand.tmp 16) 2, type := 0, pos := "law.go:37", after := #[{ on := 3, ground := Ground.data }], guard := none }) (v := ?tkv2004) rfl (by kernel_rfl) (by kernel_rfl) (by kernel_rfl) (fun _ _ _ h => h) (Or.inl ⟨by rfl, ?tky2004⟩) hH0 ?tkr2004
      case tky2004 => (intro w' hSw; clear hSw; go_simp; try with_reducible rfl)
      try simp only [Act.put, List.setIfInBounds_toArray, List.set_cons_zero, List.set_cons_succ]
      refine wpAnyH_take (i := 5) (oi := { dst := some 18, op := Op.load 45 (Operand.tmp 17), type := 45, pos := "law.go:37", after := #[{ on := 4, ground := Ground.data }], guard := none }) (v := ?tkv2005) rfl (by kernel_rfl) (by kernel_rfl) (by kernel_rfl) (fun _ _ _ h => h) (Or.inl ⟨by rfl, ?tky2005⟩) hH0 ?tkr2005
      case tky2005 => (intro w' hSw; have z0 := HC.out _ hSw; clear hSw; go_simp; try with_reducible rfl)
      try simp only [Act.put, List.setIfInBounds_toArray, List.set_cons_zero, List.set_cons_succ]
      refine wpAnyH_take (i := 6) (oi := { dst := some 19, op := Op.call { callee := Callee.builtin Builtin.len, args := #[Operand.tmp 18], argTypes := #[45] }, type := 3, pos := "law.go:37", after := #[{ on := 5, ground := Ground.data }], guard := none }) (v := ?tkv2006) rfl (by kernel_rfl) (by kernel_rfl) (by kernel_rfl) (fun _ _ _ h => h) (Or.inl ⟨by rfl, ?tky2006⟩) hH0 ?tkr2006
      case tky2006 => (intro w' hSw; clear hSw; go_simp; try with_reducible rfl)
      try simp only [Act.put, List.setIfInBounds_toArray, List.set_cons_zero, List.set_cons_succ]
      refine wpAnyH_ready (rs := [1]) (by kernel_rfl) (by simp) ?_
      refine AllReadyH.cons (o := { dst := some 14, op := Op.call { callee := Callee.value (Operand.func 23), args := #[Operand.tmp 13], argTypes := #[25] }, type := 3, pos := "law.go:37", after := #[{ on := 0, ground := Ground.data }], guard := none }) rfl (fun K hK => ?_) AllReadyH.nil
      go_simp
      refine (rankI (HM.out wd2000 (hH0))).mono ?_
      rw [HRR.out]
      rintro e' wx2007 ⟨rfl, rfl⟩
      go_simp
      have hS2007 : Below (w.heap.size) w wd2000 := hH0
      refine hK.out _ _ hS2007 (fun hH2007 => ?_)
      have hH2007 : Below (w.heap.size) w wd2000 := hH2007
      clear hK K hS2007
      try simp only [Act.put, List.setIfInBounds_toArray, List.set_cons_zero, List.set_cons_succ]
      refine wpAnyH_take (i := 7) (oi := { dst := some 20, op := Op.binOp BinOp.neq 3 (Operand.tmp 14) (Operand.tmp 19) 3, type := 4, pos := "law.go:37", after := #[{ on := 1, ground := Ground.data }, { on := 6, ground := Ground.data }], guard := none }) (v := ?tkv2008) rfl (by kernel_rfl) (by kernel_rfl) (by kernel_rfl) (fun _ _ _ h => h) (Or.inl ⟨by rfl, ?tky2008⟩) hH2007 ?tkr2008
      case tky2008 => (intro w' hSw; clear hSw; go_simp; try with_reducible rfl)
      try simp only [Act.put, List.setIfInBounds_toArray, List.set_cons_zero, List.set_cons_succ]
      refine wpAnyH_take (i := 8) (oi := { dst := some 21, op := Op.move (Operand.tmp 20), type := 4, pos := "law.go:37", after := #[{ on := 7, ground := Ground.data }, { on := 1, ground := Ground.chain }], guard := none }) (v := ?tkv2009) rfl (by kernel_rfl) (by kernel_rfl) (by kernel_rfl) (fun _ _ _ h => h) (Or.inl ⟨by rfl, ?tky2009⟩) hH2007 ?tkr2009
      case tky2009 => (intro w' hSw; clear hSw; go_simp; try with_reducible rfl)
      try simp only [Act.put, List.setIfInBounds_toArray, List.set_cons_zero, List.set_cons_succ]
      refine wpAnyH_take (i := 9) (oi := { dst := some 22, op := Op.move (Operand.tmp 0), type := 25, pos := "law.go:37", after := #[{ on := 8, ground := Ground.guard }], guard := some (8, false) }) (v := ?tkv2010) rfl (by kernel_rfl) (by kernel_rfl) (by kernel_rfl) (fun _ _ _ h => h) (Or.inl ⟨by rfl, ?tky2010⟩) hH2007 ?tkr2010
      case tky2010 => (intro w' hSw; clear hSw; go_simp; try with_reducible rfl)
      try simp only [Act.put, List.setIfInBounds_toArray, List.set_cons_zero, List.set_cons_succ]
      refine wpAnyH_take (i := 11) (oi := { dst := some 24, op := Op.move (Operand.tmp 1), type := 27, pos := "law.go:37", after := #[{ on := 8, ground := Ground.guard }], guard := some (8, false) }) (v := ?tkv2011) rfl (by kernel_rfl) (by kernel_rfl) (by kernel_rfl) (fun _ _ _ h => h) (Or.inl ⟨by rfl, ?tky2011⟩) hH2007 ?tkr2011
      case tky2011 => (intro w' hSw; clear hSw; go_simp; try with_reducible rfl)
      try simp only [Act.put, List.setIfInBounds_toArray, List.set_cons_zero, List.set_cons_succ]
      refine wpAnyH_take (i := 12) (oi := { dst := some 25, op := Op.nilCheck (Operand.tmp 24), type := 0, pos := "law.go:37", after := #[{ on := 11, ground := Ground.data }, { on := 8, ground := Ground.guard }], guard := some (8, false) }) (v := ?tkv2012) rfl (by kernel_rfl) (by kernel_rfl) (by kernel_rfl) (fun _ _ _ h => h) (Or.inl ⟨by rfl, ?tky2012⟩) hH2007 ?tkr2012
      case tky2012 => (intro w' hSw; clear hSw; go_simp; try with_reducible rfl)
      try simp only [Act.put, List.setIfInBounds_toArray, List.set_cons_zero, List.set_cons_succ]
      refine wpAnyH_take (i := 13) (oi := { dst := some 26, op := Op.fieldAddr 47 (Operand.tmp 25) 2, type := 0, pos := "law.go:37", after := #[{ on := 12, ground := Ground.data }, { on := 8, ground := Ground.guard }], guard := some (8, false) }) (v := ?tkv2013) rfl (by kernel_rfl) (by kernel_rfl) (by kernel_rfl) (fun _ _ _ h => h) (Or.inl ⟨by rfl, ?tky2013⟩) hH2007 ?tkr2013
      case tky2013 => (intro w' hSw; clear hSw; go_simp; try with_reducible rfl)
      try simp only [Act.put, List.setIfInBounds_toArray, List.set_cons_zero, List.set_cons_succ]
      refine wpAnyH_take (i := 14) (oi := { dst := some 27, op := Op.load 45 (Operand.tmp 26), type := 45, pos := "law.go:37", after := #[{ on := 13, ground := Ground.data }, { on := 8, ground := Ground.guard }], guard := some (8, false) }) (v := ?tkv2014) rfl (by kernel_rfl) (by kernel_rfl) (by kernel_rfl) (fun _ _ _ h => h) (Or.inl ⟨by rfl, ?tky2014⟩) hH2007 ?tkr2014
      case tky2014 => (intro w' hSw; have z0 := HC.out _ hSw; clear hSw; go_simp; try with_reducible rfl)
      try simp only [Act.put, List.setIfInBounds_toArray, List.set_cons_zero, List.set_cons_succ]
      refine wpAnyH_take (i := 15) (oi := { dst := some 28, op := Op.call { callee := Callee.builtin Builtin.len, args := #[Operand.tmp 27], argTypes := #[45] }, type := 3, pos := "law.go:37", after := #[{ on := 14, ground := Ground.data }, { on := 8, ground := Ground.guard }], guard := some (8, false) }) (v := ?tkv2015) rfl (by kernel_rfl) (by kernel_rfl) (by kernel_rfl) (fun _ _ _ h => h) (Or.inl ⟨by rfl, ?tky2015⟩) hH2007 ?tkr2015
      case tky2015 => (intro w' hSw; clear hSw; go_simp; try with_reducible rfl)
      try simp only [Act.put, List.setIfInBounds_toArray, List.set_cons_zero, List.set_cons_succ]
      refine wpAnyH_take (i := 16) (oi := { dst := some 29, op := Op.move (Operand.tmp 1), type := 27, pos := "law.go:37", after := #[{ on := 8, ground := Ground.guard }], guard := some (8, false) }) (v := ?tkv2016) rfl (by kernel_rfl) (by kernel_rfl) (by kernel_rfl) (fun _ _ _ h => h) (Or.inl ⟨by rfl, ?tky2016⟩) hH2007 ?tkr2016
      case tky2016 => (intro w' hSw; clear hSw; go_simp; try with_reducible rfl)
      try simp only [Act.put, List.setIfInBounds_toArray, List.set_cons_zero, List.set_cons_succ]
      refine wpAnyH_take (i := 17) (oi := { dst := some 30, op := Op.nilCheck (Operand.tmp 29), type := 0, pos := "law.go:37", after := #[{ on := 16, ground := Ground.data }, { on := 8, ground := Ground.guard }], guard := some (8, false) }) (v := ?tkv2017) rfl (by kernel_rfl) (by kernel_rfl) (by kernel_rfl) (fun _ _ _ h => h) (Or.inl ⟨by rfl, ?tky2017⟩) hH2007 ?tkr2017
      case tky2017 => (intro w' hSw; clear hSw; go_simp; try with_reducible rfl)
      try simp only [Act.put, List.setIfInBounds_toArray, List.set_cons_zero, List.set_cons_succ]
      refine wpAnyH_take (i := 18) (oi := { dst := some 31, op := Op.fieldAddr 47 (Operand.tmp 30) 0, type := 0, pos := "law.go:37", after := #[{ on := 17, ground := Ground.data }, { on := 8, ground := Ground.guard }], guard := some (8, false) }) (v := ?tkv2018) rfl (by kernel_rfl) (by kernel_rfl) (by kernel_rfl) (fun _ _ _ h => h) (Or.inl ⟨by rfl, ?tky2018⟩) hH2007 ?tkr2018
      case tky2018 => (intro w' hSw; clear hSw; go_simp; try with_reducible rfl)
      try simp only [Act.put, List.setIfInBounds_toArray, List.set_cons_zero, List.set_cons_succ]
      refine wpAnyH_take (i := 19) (oi := { dst := some 32, op := Op.load 3 (Operand.tmp 31), type := 3, pos := "law.go:37", after := #[{ on := 18, ground := Ground.data }, { on := 8, ground := Ground.guard }], guard := some (8, false) }) (v := ?tkv2019) rfl (by kernel_rfl) (by kernel_rfl) (by kernel_rfl) (fun _ _ _ h => h) (Or.inl ⟨by rfl, ?tky2019⟩) hH2007 ?tkr2019
      case tky2019 => (intro w' hSw; have z0 := HC.out _ hSw; clear hSw; go_simp; try with_reducible rfl)
      try simp only [Act.put, List.setIfInBounds_toArray, List.set_cons_zero, List.set_cons_succ]
      refine wpAnyH_take (i := 20) (oi := { dst := some 33, op := Op.binOp BinOp.eql 3 (Operand.tmp 28) (Operand.tmp 32) 3, type := 4, pos := "law.go:37", after := #[{ on := 15, ground := Ground.data }, { on := 19, ground := Ground.data }, { on := 8, ground := Ground.guard }], guard := some (8, false) }) (v := ?tkv2020) rfl (by kernel_rfl) (by kernel_rfl) (by kernel_rfl) (fun _ _ _ h => h) (Or.inl ⟨by rfl, ?tky2020⟩) hH2007 ?tkr2020
      case tky2020 => (intro w' hSw; clear hSw; go_simp; try with_reducible rfl)
      try simp only [Act.put, List.setIfInBounds_toArray, List.set_cons_zero, List.set_cons_succ]
      refine wpAnyH_ready (rs := [10]) (by kernel_rfl) (by simp) ?_
      refine AllReadyH.cons (o := { dst := some 23, op := Op.call { callee := Callee.value (Operand.func 24), args := #[Operand.tmp 22], argTypes := #[25] }, type := 4, pos := "law.go:37", after := #[{ on := 9, ground := Ground.data }, { on := 8, ground := Ground.chain }, { on := 8, ground := Ground.guard }], guard := some (8, false) }) rfl (fun K hK => ?_) AllReadyH.nil
      go_simp
      refine (fullI (HM.out wd2000 (hH2007))).mono ?_
      rw [HFB.out]
      rintro e' wn2021 ⟨rfl, hb2021'⟩
      have hb2021 := hb2021'.out
      clear hb2021'
      go_simp
      have hS2021 : Below (w.heap.size) w wn2021 := (hH2007).trans (hb2021.mono (hH2007).size)
      refine hK.out _ _ hS2021 (fun hH2021 => ?_)
      have hH2021 : Below (w.heap.size) w wn2021 := hH2021
      clear hK K hS2021
      try simp only [Act.put, List.setIfInBounds_toArray, List.set_cons_zero, List.set_cons_succ]
      refine wpAnyH_take (i := 21) (oi := { dst := some 34, op := Op.binOp BinOp.neq 4 (Operand.tmp 23) (Operand.tmp 33) 4, type := 4, pos := "law.go:37", after := #[{ on := 10, ground := Ground.data }, { on := 20, ground := Ground.data }, { on := 8, ground := Ground.guard }], guard := some (8, false) }) (v := ?tkv2022) rfl (by kernel_rfl) (by kernel_rfl) (by kernel_rfl) (fun _ _ _ h => h) (Or.inl ⟨by rfl, ?tky2022⟩) hH2021 ?tkr2022
      case tky2022 => (intro w' hSw; clear hSw; go_simp; try with_reducible rfl)
      try simp only [Act.put, List.setIfInBounds_toArray, List.set_cons_zero, List.set_cons_succ]
      refine wpAnyH_take (i := 22) (oi := { dst := some 35, op := Op.pick (Operand.tmp 21) (Operand.const (Value.bool true)) (Operand.tmp 34), type := 4, pos := "law.go:37", after := #[{ on := 8, ground := Ground.data }, { on := 21, ground := Ground.data }], guard := none }) (v := ?tkv2023) rfl (by kernel_rfl) (by kernel_rfl) (by kernel_rfl) (fun _ _ _ h => h) (Or.inl ⟨by rfl, ?tky2023⟩) hH2021 ?tkr2023
      case tky2023 => (intro w' hSw; clear hSw; go_simp; try with_reducible rfl)
      try simp only [Act.put, List.setIfInBounds_toArray, List.set_cons_zero, List.set_cons_succ]
      refine wpAnyH_take (i := 23) (oi := { dst := some 36, op := Op.move (Operand.tmp 35), type := 4, pos := "law.go:37", after := #[{ on := 22, ground := Ground.data }, { on := 10, ground := Ground.chain }], guard := none }) (v := ?tkv2024) rfl (by kernel_rfl) (by kernel_rfl) (by kernel_rfl) (fun _ _ _ h => h) (Or.inl ⟨by rfl, ?tky2024⟩) hH2021 ?tkr2024
      case tky2024 => (intro w' hSw; clear hSw; go_simp; try with_reducible rfl)
      try simp only [Act.put, List.setIfInBounds_toArray, List.set_cons_zero, List.set_cons_succ]
      refine wpAnyH_take (i := 24) (oi := { dst := some 37, op := Op.move (Operand.tmp 0), type := 25, pos := "law.go:37", after := #[{ on := 23, ground := Ground.guard }], guard := some (23, false) }) (v := ?tkv2025) rfl (by kernel_rfl) (by kernel_rfl) (by kernel_rfl) (fun _ _ _ h => h) (Or.inl ⟨by rfl, ?tky2025⟩) hH2021 ?tkr2025
      case tky2025 => (intro w' hSw; clear hSw; go_simp; try with_reducible rfl)
      try simp only [Act.put, List.setIfInBounds_toArray, List.set_cons_zero, List.set_cons_succ]
      refine wpAnyH_take (i := 27) (oi := { dst := some 40, op := Op.move (Operand.tmp 1), type := 27, pos := "law.go:37", after := #[{ on := 23, ground := Ground.guard }], guard := some (23, false) }) (v := ?tkv2026) rfl (by kernel_rfl) (by kernel_rfl) (by kernel_rfl) (fun _ _ _ h => h) (Or.inl ⟨by rfl, ?tky2026⟩) hH2021 ?tkr2026
      case tky2026 => (intro w' hSw; clear hSw; go_simp; try with_reducible rfl)
      try simp only [Act.put, List.setIfInBounds_toArray, List.set_cons_zero, List.set_cons_succ]
      refine wpAnyH_ready (rs := [25]) (by kernel_rfl) (by simp) ?_
      refine AllReadyH.cons (o := { dst := some 38, op := Op.call { callee := Callee.value (Operand.func 22), args := #[Operand.tmp 37], argTypes := #[25] }, type := 30, pos := "law.go:37", after := #[{ on := 24, ground := Ground.data }, { on := 23, ground := Ground.chain }, { on := 23, ground := Ground.guard }], guard := some (23, false) }) rfl (fun K hK => ?_) AllReadyH.nil
      go_simp
      refine (bytesI (HM.out wn2021 (hH2021))).mono ?_
      rw [HLB.out]
      rintro e' wn2027 ⟨A2027, c2027, rfl, ho2027, hb2027'⟩
      have hb2027 := hb2027'.out
      have CV2027 := Lib.hid (conv_own c2027 ho2027.out)
      clear hb2027' ho2027
      go_simp
      have hS2027 : Below (w.heap.size) w wn2027 := (hH2021).trans (hb2027.mono (hH2021).size)
      refine hK.out _ _ hS2027 (fun hH2027 => ?_)
      have hH2027 : Below (w.heap.size) w wn2027 := hH2027
      clear hK K hS2027
      try simp only [Act.put, List.setIfInBounds_toArray, List.set_cons_zero, List.set_cons_succ]
      refine wpAnyH_ready (rs := [26, 28]) (by kernel_rfl) (by simp) ?_
      refine AllReadyH.cons (o := { dst := some 39, op := Op.convert 30 9 (Operand.tmp 38), type := 9, pos := "law.go:37", after := #[{ on := 25, ground := Ground.data }, { on := 23, ground := Ground.guard }], guard := some (23, false) }) rfl (fun K hK => ?_) (AllReadyH.cons (o := { dst := some 41, op := Op.call { callee := Callee.value (Operand.func 19), args := #[Operand.tmp 40], argTypes := #[27] }, type := 30, pos := "law.go:37", after := #[{ on := 27, ground := Ground.data }, { on := 25, ground := Ground.chain }, { on := 23, ground := Ground.guard }], guard := some (23, false) }) rfl (fun K hK => ?_) AllReadyH.nil)
      · have hcv2028 := CV2027.out wn2027 (Below.refl wn2027.heap.size wn2027)
        go_simp
        clear hcv2028
        have hS2028 : Below (w.heap.size) w wn2027 := hH2027
        refine hK.out _ _ hS2028 (fun hH2028 => ?_)
        have hH2028 : Below (w.heap.size) w wn2027 := hH2028
        clear hK K hS2028
        try simp only [Act.put, List.setIfInBounds_toArray, List.set_cons_zero, List.set_cons_succ]
        refine wpAnyH_ready (rs := [28]) (by kernel_rfl) (by simp) ?_
        refine AllReadyH.cons (o := { dst := some 41, op := Op.call { callee := Callee.value (Operand.func 19), args := #[Operand.tmp 40], argTypes := #[27] }, type := 30, pos := "law.go:37", after := #[{ on := 27, ground := Ground.data }, { on := 25, ground := Ground.chain }, { on := 23, ground := Ground.guard }], guard := some (23, false) }) rfl (fun K hK => ?_) AllReadyH.nil
        go_simp
        refine (rbytes_any P gw n z _ _ (HRM.out wn2027 (hH2028))).mono ?_
        rw [HLB2.out]
        rintro e' wn2029 ⟨A2029, c2029, rfl, ho2029, hb2029'⟩
        have hb2029 := hb2029'.out
        have CV2029 := Lib.hid (conv_own c2029 ho2029.out)
        clear hb2029' ho2029
        go_simp
        have hS2029 : Below (w.heap.size) w wn2029 := (hH2028).trans (hb2029.mono (hH2028).size)
        refine hK.out _ _ hS2029 (fun hH2029 => ?_)
        have hH2029 : Below (w.heap.size) w wn2029 := hH2029
        clear hK K hS2029
        try simp only [Act.put, List.setIfInBounds_toArray, List.set_cons_zero, List.set_cons_succ]
        refine wpAnyH_ready (rs := [29]) (by kernel_rfl) (by simp) ?_
        refine AllReadyH.cons (o := { dst := some 42, op := Op.convert 30 9 (Operand.tmp 41), type := 9, pos := "law.go:37", after := #[{ on := 28, ground := Ground.data }, { on := 23, ground := Ground.guard }], guard := some (23, false) }) rfl (fun K hK => ?_) AllReadyH.nil
        have hcv2030 := CV2029.out wn2029 (Below.refl wn2029.heap.size wn2029)
        go_simp
        clear hcv2030
        have hS2030 : Below (w.heap.size) w wn2029 := hH2029
        refine hK.out _ _ hS2030 (fun hH2030 => ?_)
        have hH2030 : Below (w.heap.size) w wn2029 := hH2030
        clear hK K hS2030
        try simp only [Act.put, List.setIfInBounds_toArray, List.set_cons_zero, List.set_cons_succ]
        refine wpAnyH_take (i := 30) (oi := { dst := some 43, op := Op.binOp BinOp.neq 9 (Operand.tmp 39) (Operand.tmp 42) 9, type := 4, pos := "law.go:37", after := #[{ on := 26, ground := Ground.data }, { on := 29, ground := Ground.data }, { on := 23, ground := Ground.guard }], guard := some (23, false) }) (v := ?tkv2031) rfl (by kernel_rfl) (by kernel_rfl) (by kernel_rfl) (fun _ _ _ h => h) (Or.inl ⟨by rfl, ?tky2031⟩) hH2030 ?tkr2031
        case tky2031 => (intro w' hSw; clear hSw; go_simp; try with_reducible rfl)
        try simp only [Act.put, List.setIfInBounds_toArray, List.set_cons_zero, List.set_cons_succ]
        refine wpAnyH_take (i := 31) (oi := { dst := some 44, op := Op.pick (Operand.tmp 36) (Operand.const (Value.bool true)) (Operand.tmp 43), type := 4, pos := "law.go:37", after := #[{ on := 23, ground := Ground.data }, { on := 30, ground := Ground.data }], guard := none }) (v := ?tkv2032) rfl (by kernel_rfl) (by kernel_rfl) (by kernel_rfl) (fun _ _ _ h => h) (Or.inl ⟨by rfl, ?tky2032⟩) hH2030 ?tkr2032
        case tky2032 => (intro w' hSw; clear hSw; go_simp; try with_reducible rfl)
        try simp only [Act.put, List.setIfInBounds_toArray, List.set_cons_zero, List.set_cons_succ]
        refine wpAnyH_done (by kernel_rfl) ?_ _
        refine NoPanic.normal ?_
        obtain ⟨wy, rfl⟩ : ∃ x : World, x = wn2029 := ⟨_, rfl⟩
        have HB1 : Hid (Below w.heap.size w wy) := Lib.hid (hH2030)
        go_wp2_with fail
        go_meet
        exact ⟨rfl, HB1⟩
      · go_simp
        refine (rbytes_any P gw n z _ _ (HRM.out wn2027 (hH2027))).mono ?_
        rw [HLB2.out]
        rintro e' wn2033 ⟨A2033, c2033, rfl, ho2033, hb2033'⟩
        have hb2033 := hb2033'.out
        have CV2033 := Lib.hid (conv_own c2033 ho2033.out)
        clear hb2033' ho2033
        go_simp
        have hS2033 : Below (w.heap.size) w wn2033 := (hH2027).trans (hb2033.mono (hH2027).size)
        refine hK.out _ _ hS2033 (fun hH2033 => ?_)
        have hH2033 : Below (w.heap.size) w wn2033 := hH2033
        clear hK K hS2033
        try simp only [Act.put, List.setIfInBounds_toArray, List.set_cons_zero, List.set_cons_succ]
        refine wpAnyH_ready (rs := [26, 29]) (by kernel_rfl) (by simp) ?_
        refine AllReadyH.cons (o := { dst := some 39, op := Op.convert 30 9 (Operand.tmp 38), type := 9, pos := "law.go:37", after := #[{ on := 25, ground := Ground.data }, { on := 23, ground := Ground.guard }], guard := some (23, false) }) rfl (fun K hK => ?_) (AllReadyH.cons (o := { dst := some 42, op := Op.convert 30 9 (Operand.tmp 41), type := 9, pos := "law.go:37", after := #[{ on := 28, ground := Ground.data }, { on := 23, ground := Ground.guard }], guard := some (23, false) }) rfl (fun K hK => ?_) AllReadyH.nil)
        · have hcv2034 := CV2027.out wn2033 (((Below.refl wn2027.heap.size wn2027)).trans (hb2033.mono ((Below.refl wn2027.heap.size wn2027)).size))
          go_simp
          clear hcv2034
          have hS2034 : Below (w.heap.size) w wn2033 := hH2033
          refine hK.out _ _ hS2034 (fun hH2034 => ?_)
          have hH2034 : Below (w.heap.size) w wn2033 := hH2034
          clear hK K hS2034
          try simp only [Act.put, List.setIfInBounds_toArray, List.set_cons_zero, List.set_cons_succ]
          refine wpAnyH_ready (rs := [29]) (by kernel_rfl) (by simp) ?_
          refine AllReadyH.cons (o := { dst := some 42, op := Op.convert 30 9 (Operand.tmp 41), type := 9, pos := "law.go:37", after := #[{ on := 28, ground := Ground.data }, { on := 23, ground := Ground.guard }], guard := some (23, false) }) rfl (fun K hK => ?_) AllReadyH.nil
          have hcv2035 := CV2033.out wn2033 (Below.refl wn2033.heap.size wn2033)
          go_simp
          clear hcv2035
          have hS2035 : Below (w.heap.size) w wn2033 := hH2034
          refine hK.out _ _ hS2035 (fun hH2035 => ?_)
          have hH2035 : Below (w.heap.size) w wn2033 := hH2035
          clear hK K hS2035
          try simp only [Act.put, List.setIfInBounds_toArray, List.set_cons_zero, List.set_cons_succ]
          refine wpAnyH_take (i := 30) (oi := { dst := some 43, op := Op.binOp BinOp.neq 9 (Operand.tmp 39) (Operand.tmp 42) 9, type := 4, pos := "law.go:37", after := #[{ on := 26, ground := Ground.data }, { on := 29, ground := Ground.data }, { on := 23, ground := Ground.guard }], guard := some (23, false) }) (v := ?tkv2036) rfl (by kernel_rfl) (by kernel_rfl) (by kernel_rfl) (fun _ _ _ h => h) (Or.inl ⟨by rfl, ?tky2036⟩) hH2035 ?tkr2036
          case tky2036 => (intro w' hSw; clear hSw; go_simp; try with_reducible rfl)
          try simp only [Act.put, List.setIfInBounds_toArray, List.set_cons_zero, List.set_cons_succ]
          refine wpAnyH_take (i := 31) (oi := { dst := some 44, op := Op.pick (Operand.tmp 36) (Operand.const (Value.bool true)) (Operand.tmp 43), type := 4, pos := "law.go:37", after := #[{ on := 23, ground := Ground.data }, { on := 30, ground := Ground.data }], guard := none }) (v := ?tkv2037) rfl (by kernel_rfl) (by kernel_rfl) (by kernel_rfl) (fun _ _ _ h => h) (Or.inl ⟨by rfl, ?tky2037⟩) hH2035 ?tkr2037
          case tky2037 => (intro w' hSw; clear hSw; go_simp; try with_reducible rfl)
          try simp only [Act.put, List.setIfInBounds_toArray, List.set_cons_zero, List.set_cons_succ]
          refine wpAnyH_done (by kernel_rfl) ?_ _
          refine NoPanic.normal ?_
          obtain ⟨wy, rfl⟩ : ∃ x : World, x = wn2033 := ⟨_, rfl⟩
          have HB1 : Hid (Below w.heap.size w wy) := Lib.hid (hH2035)
          go_wp2_with fail
          go_meet
          exact ⟨rfl, HB1⟩
        · have hcv2038 := CV2033.out wn2033 (Below.refl wn2033.heap.size wn2033)
          go_simp
          clear hcv2038
          have hS2038 : Below (w.heap.size) w wn2033 := hH2033
          refine hK.out _ _ hS2038 (fun hH2038 => ?_)
          have hH2038 : Below (w.heap.size) w wn2033 := hH2038
          clear hK K hS2038
          try simp only [Act.put, List.setIfInBounds_toArray, List.set_cons_zero, List.set_cons_succ]
          refine wpAnyH_ready (rs := [26]) (by kernel_rfl) (by simp) ?_
          refine AllReadyH.cons (o := { dst := some 39, op := Op.convert 30 9 (Operand.tmp 38), type := 9, pos := "law.go:37", after := #[{ on := 25, ground := Ground.data }, { on := 23, ground := Ground.guard }], guard := some (23, false) }) rfl (fun K hK => ?_) AllReadyH.nil
          have hcv2039 := CV2027.out wn2033 (((Below.refl wn2027.heap.size wn2027)).trans (hb2033.mono ((Below.refl wn2027.heap.size wn2027)).size))
          go_simp
          clear hcv2039
          have hS2039 : Below (w.heap.size) w wn2033 := hH2038
          refine hK.out _ _ hS2039 (fun hH2039 => ?_)
          have hH2039 : Below (w.heap.size) w wn2033 := hH2039
          clear hK K hS2039
          try simp only [Act.put, List.setIfInBounds_toArray, List.set_cons_zero, List.set_cons_succ]
          refine wpAnyH_take (i := 30) (oi := { dst := some 43, op := Op.binOp BinOp.neq 9 (Operand.tmp 39) (Operand.tmp 42) 9, type := 4, pos := "law.go:37", after := #[{ on := 26, ground := Ground.data }, { on := 29, ground := Ground.data }, { on := 23, ground := Ground.guard }], guard := some (23, false) }) (v := ?tkv2040) rfl (by kernel_rfl) (by kernel_rfl) (by kernel_rfl) (fun _ _ _ h => h) (Or.inl ⟨by rfl, ?tky2040⟩) hH2039 ?tkr2040
          case tky2040 => (intro w' hSw; clear hSw; go_simp; try with_reducible rfl)
          try simp only [Act.put, List.setIfInBounds_toArray, List.set_cons_zero, List.set_cons_succ]
          refine wpAnyH_take (i := 31) (oi := { dst := some 44, op := Op.pick (Operand.tmp 36) (Operand.const (Value.bool true)) (Operand.tmp 43), type := 4, pos := "law.go:37", after := #[{ on := 23, ground := Ground.data }, { on := 30, ground := Ground.data }], guard := none }) (v := ?tkv2041) rfl (by kernel_rfl) (by kernel_rfl) (by kernel_rfl) (fun _ _ _ h => h) (Or.inl ⟨by rfl, ?tky2041⟩) hH2039 ?tkr2041
          case tky2041 => (intro w' hSw; clear hSw; go_simp; try with_reducible rfl)
          try simp only [Act.put, List.setIfInBounds_toArray, List.set_cons_zero, List.set_cons_succ]
          refine wpAnyH_done (by kernel_rfl) ?_ _
          refine NoPanic.normal ?_
          obtain ⟨wy, rfl⟩ : ∃ x : World, x = wn2033 := ⟨_, rfl⟩
          have HB1 : Hid (Below w.heap.size w wy) := Lib.hid (hH2039)
          go_wp2_with fail
          go_meet
          exact ⟨rfl, HB1⟩
  case rest =>
    obtain ⟨rfl, HB1⟩ := hcut
    obtain ⟨w1, rfl⟩ : ∃ x : World, x = wc := ⟨_, rfl⟩
    have hcn := (HC.out w1 HB1.out).1
    clear HLB HLB2
    go_wp2_with fail
    clear hcn
    go_loopw [5, 49] (fun v x wr => ∃ k : Nat, k ≤ n ∧ v = .int .i64 ((rowsTo M k).length : Int) ∧ x = .int .i64 (k : Int) ∧ Hid (Below w.heap.size w wr)) (fun _ x _ => n - (intOf x).toNat)
    case atStart => exact ⟨0, by omega, rfl, rfl, HB1⟩
    case round =>
      obtain ⟨k, hk, rfl, rfl, HB⟩ := hrel
      clear HB1
      obtain ⟨a, ha⟩ : ∃ a, (rowsTo M k).length = a := ⟨_, rfl⟩
      have HA := Lib.hid ha
      have hak : a ≤ k := by rw [← ha]; exact rowsTo_le M k
      rw [ha]
      clear ha
      obtain ⟨wj, rfl⟩ : ∃ x : World, x = wr := ⟨_, rfl⟩
      by_cases hlt : k < n
      · have hki : (k : Int) < (n : Int) := by omega
        have hai : (a : Int) ≤ (k : Int) := by omega
        obtain ⟨hc0, hc2⟩ := HC.out wj HB.out
        obtain ⟨rest, hsp, hrest⟩ := rowsTo_split M (k + 1) (n - (k + 1))
        rw [show k + 1 + (n - (k + 1)) = n by omega] at hsp
        obtain ⟨gr, rs, hrs, mm⟩ := HM.out wj HB.out
        cases hM : rs.getD k none with
        | none =>
          have hMk : M.getD k none = none := by rw [← hrs, absM_getD, hM]; rfl
          have hsk : rowsTo M (k + 1) = rowsTo M k := by
            show rowsTo M k ++ lnAt M k = _
            rw [lnAt_none hMk, List.append_nil]
          have HNX : Hid ((rowsTo M (k + 1)).length = a) := Lib.hid (by rw [hsk]; exact HA.out)
          have HROW := Lib.hid (mrow_none F gm gr n z k rs wj mm hlt hM)
          by_cases hal : a < R
          · have hali : (a : Int) < (R : Int) := by omega
            obtain ⟨er, her⟩ : ∃ r, es[a]? = some r := ⟨_, List.getElem?_eq_getElem (by rw [HER.out]; exact hal)⟩
            obtain ⟨g, hAg, hgl, c1, c2, hat⟩ := (HLS.out wj HB.out).at_ her
            have hfk : ¬ ((er.f : Int) = (k : Int)) := by
              have h1 : (rowsTo M n)[a]? = some er.ln := by rw [← HES.out, List.getElem?_map, her]; rfl
              rw [hsp, hsk, List.getElem?_append_right (by rw [HA.out]; exact Nat.le_refl _)] at h1
              have h2 : k + 1 ≤ er.f := hrest _ (List.mem_of_getElem? h1)
              omega
            have HFI := Lib.hid (r1first_any _ n er.cv er.X _ wj hat.v (by omega))
            rw [firstI_low hat.f.1 hat.f.2.1 hat.f.2.2] at HFI
            subst hAg
            clear hM hMk hsk hsp hrest hrs mm her hat
            go_wp2_with fail
            refine HROW.out.mono ?_
            rintro e wx ⟨rfl, rfl⟩
            go_wp2_with fail
            refine HFI.out.mono ?_
            rintro e wx ⟨rfl, rfl⟩
            clear c1 c2 hc0 hc2
            go_wp2_with fail
            go_roundw
            case rel => exact ⟨k + 1, by omega, by rw [HNX.out], by go_num, HB⟩
            case measure => simp [intOf]; omega
          · have hali : ¬ ((a : Int) < (R : Int)) := by omega
            clear hM hMk hsk hsp hrest hrs mm hal
            go_wp2_with fail
            refine HROW.out.mono ?_
            rintro e wx ⟨rfl, rfl⟩
            go_wp2_with fail
            go_roundw
            case rel => exact ⟨k + 1, by omega, by rw [HNX.out], by go_num, HB⟩
            case measure => simp [intOf]; omega
        | some q =>
          have hMk : M.getD k none = some (q.X, q.l) := by rw [← hrs, absM_getD, hM]; rfl
          have hsk : rowsTo M (k + 1) = rowsTo M k ++ [(k, q.X, q.l)] := by
            show rowsTo M k ++ lnAt M k = _
            rw [lnAt_some hMk]
          have HNX : Hid ((rowsTo M (k + 1)).length = a + 1) := Lib.hid (by rw [hsk, List.length_append, HA.out]; rfl)
          have hal : a < R := by
            have h1 := HRL.out
            have h2 := HNX.out
            rw [hsp, List.length_append] at h1
            omega
          have hali : (a : Int) < (R : Int) := by omega
          obtain ⟨er, her⟩ : ∃ r, es[a]? = some r := ⟨_, List.getElem?_eq_getElem (by rw [HER.out]; exact hal)⟩
          obtain ⟨gl, hAg, hgl, c1, c2, hat⟩ := (HLS.out wj HB.out).at_ her
          have hln : er.f = k ∧ er.X = q.X ∧ er.l = q.l := by
            have h1 : (rowsTo M n)[a]? = some er.ln := by rw [← HES.out, List.getElem?_map, her]; rfl
            rw [hsp, hsk, List.append_assoc, List.getElem?_append_right (by rw [HA.out]; exact Nat.le_refl _), HA.out, Nat.sub_self] at h1
            have h2 : (k, q.X, q.l) = er.ln := Option.some.inj h1
            unfold LR.ln at h2
            injection h2 with h2 h3
            injection h3 with h3 h4
            exact ⟨h2.symm, h3.symm, h4.symm⟩
          have HFK : Hid (firstI (L er.X n) = (k : Int)) := Lib.hid (by rw [firstI_low hat.f.1 hat.f.2.1 hat.f.2.2, hln.1])
          have HROW := Lib.hid (mrow_some F gm gr n z k rs q wj mm hlt hM)
          rw [← hln.2.1, ← hln.2.2] at HROW
          have HLL : Hid (er.l.length = z) := Lib.hid hat.d.blen
          have HAT := Lib.hid hat
          have HGL : Hid (gl < wj.heap.size) := Lib.hid hgl
          have HCC := Lib.hid (And.intro c1 c2)
          subst hAg
          clear hM hMk hsk hsp hrest hrs mm her hat hln c1 c2 hgl
          go_wp2_with fail
          refine HROW.out.mono ?_
          rintro e w6 ⟨g, h, AD, cd, rfl, hv6, hd6, hb6⟩
          have HVF := Lib.hid hv6.out
          have HB6 := Lib.hid (HB.out.trans (hb6.out.mono HB.out.size))
          have HT6 := Lib.hid (HT.out.grow HB6.out)
          have HC6 : Hid (∀ W, Below w6.heap.size w6 W → W.cell? ⟨gw, 2, none⟩ = some (.slice (some ⟨gl, 0, none⟩) R c)) := Lib.hid fun W hW => (HC.out W (HB6.out.trans (hW.mono HB6.out.size))).2
          have HCE : Hid (∀ W, Below w6.heap.size w6 W → W.cell? ⟨gl, a * 2, none⟩ = some (.slice (some ⟨er.gv, 0, none⟩) n er.cv) ∧ W.cell? ⟨gl, a * 2 + 1, none⟩ = some (.slice (some ⟨er.gd, 0, none⟩) z er.cd)) := Lib.hid fun W hW => by
            have hb := hb6.out.trans (hW.mono hb6.out.size)
            have h2 := hb.block gl HGL.out
            constructor
            · rw [World.cell?_of_block (w := wj) (w' := W) (a := ⟨gl, a * 2, none⟩) h2]; exact HCC.out.1
            · rw [World.cell?_of_block (w := wj) (w' := W) (a := ⟨gl, a * 2 + 1, none⟩) h2]; exact HCC.out.2
          have HVR : Hid (∀ W, Below w6.heap.size w6 W → Row W W.heap.size (some ⟨er.gv, 0, none⟩) n (vb er.X n)) := Lib.hid fun W hW => by
            have hb := hb6.out.trans (hW.mono hb6.out.size)
            exact RowU.below HAT.out.v hb
          have HCD := Lib.hid (conv_row cd hd6.out (Nat.le_refl _))
          have HCR := Lib.hid (conv_row er.cd (RowU.below HAT.out.d hb6.out) (Nat.le_refl _))
          have HFI6 := Lib.hid (r1first_any _ n er.cv er.X _ w6 (HVR.out w6 (Below.refl _ _)) (by omega))
          rw [show firstI (L er.X n) = (k : Int) from HFK.out] at HFI6
          have hc2 := HC6.out w6 (Below.refl _ _)
          obtain ⟨c1, c2⟩ := HCE.out w6 (Below.refl _ _)
          clear hv6 hd6 hb6 hc0
          go_upto_region 8 with fail
          go_wp2_with fail
          refine HFI6.out.mono ?_
          rintro e wx ⟨rfl, rfl⟩
          go_upto_region 9 with fail
          clear c1 c2 hc2
          refine wp_region_noPanic ?_
          refine wp_region_held_drew (S := (fun W => Below (w6.heap.size) w6 W)) (by kernel_rfl) (Below.refl _ _).drew (fun hH0 => ?_)
          have hH0 : Below (w6.heap.size) w6 w6.drew := hH0
          generalize w6.drew = wd3000 at *
          refine wpAnyH_take (i := 0) (oi := { dst := some 79, op := Op.move (Operand.tmp 9), type := 4, pos := "law.go:44", after := #[], guard := none }) (v := ?tkv3001) rfl (by kernel_rfl) (by kernel_rfl) (by kernel_rfl) (fun _ _ _ h => h) (Or.inl ⟨by rfl, ?tky3001⟩) hH0 ?tkr3001
          case tky3001 => (intro w' hSw; clear hSw; go_simp; try with_reducible rfl)
          try simp only [Act.put, List.setIfInBounds_toArray, List.set_cons_zero, List.set_cons_succ]
          refine wpAnyH_take (i := 1) (oi := { dst := some 80, op := Op.unOp UnOp.not 4 (Operand.tmp 79), type := 4, pos := "law.go:44", after := #[{ on := 0, ground := Ground.data }], guard := none }) (v := ?tkv3002) rfl (by kernel_rfl) (by kernel_rfl) (by kernel_rfl) (fun _ _ _ h => h) (Or.inl ⟨by rfl, ?tky3002⟩) hH0 ?tkr3002
          case tky3002 => (intro w' hSw; clear hSw; go_simp; try with_reducible rfl)
          try simp only [Act.put, List.setIfInBounds_toArray, List.set_cons_zero, List.set_cons_succ]
          refine wpAnyH_take (i := 2) (oi := { dst := some 81, op := Op.move (Operand.tmp 80), type := 4, pos := "law.go:44", after := #[{ on := 1, ground := Ground.data }], guard := none }) (v := ?tkv3003) rfl (by kernel_rfl) (by kernel_rfl) (by kernel_rfl) (fun _ _ _ h => h) (Or.inl ⟨by rfl, ?tky3003⟩) hH0 ?tkr3003
          case tky3003 => (intro w' hSw; clear hSw; go_simp; try with_reducible rfl)
          try simp only [Act.put, List.setIfInBounds_toArray, List.set_cons_zero, List.set_cons_succ]
          refine wpAnyH_take (i := 3) (oi := { dst := some 82, op := Op.move (Operand.tmp 7), type := 33, pos := "law.go:44", after := #[{ on := 2, ground := Ground.guard }], guard := some (2, false) }) (v := ?tkv3004) rfl (by kernel_rfl) (by kernel_rfl) (by kernel_rfl) (fun _ _ _ h => h) (Or.inl ⟨by rfl, ?tky3004⟩) hH0 ?tkr3004
          case tky3004 => (intro w' hSw; clear hSw; go_simp; try with_reducible rfl)
          try simp only [Act.put, List.setIfInBounds_toArray, List.set_cons_zero, List.set_cons_succ]
          refine wpAnyH_take (i := 4) (oi := { dst := some 83, op := Op.move (Operand.tmp 1), type := 27, pos := "law.go:44", after := #[{ on := 2, ground := Ground.guard }], guard := some (2, false) }) (v := ?tkv3005) rfl (by kernel_rfl) (by kernel_rfl) (by kernel_rfl) (fun _ _ _ h => h) (Or.inl ⟨by rfl, ?tky3005⟩) hH0 ?tkr3005
          case tky3005 => (intro w' hSw; clear hSw; go_simp; try with_reducible rfl)
          try simp only [Act.put, List.setIfInBounds_toArray, List.set_cons_zero, List.set_cons_succ]
          refine wpAnyH_take (i := 5) (oi := { dst := some 84, op := Op.nilCheck (Operand.tmp 83), type := 0, pos := "law.go:44", after := #[{ on := 4, ground := Ground.data }, { on := 2, ground := Ground.guard }], guard := some (2, false) }) (v := ?tkv3006) rfl (by kernel_rfl) (by kernel_rfl) (by kernel_rfl) (fun _ _ _ h => h) (Or.inl ⟨by rfl, ?tky3006⟩) hH0 ?tkr3006
          case tky3006 => (intro w' hSw; clear hSw; go_simp; try with_reducible rfl)
          try simp only [Act.put, List.setIfInBounds_toArray, List.set_cons_zero, List.set_cons_succ]
          refine wpAnyH_take (i := 6) (oi := { dst := some 85, op := Op.fieldAddr 47 (Operand.tmp 84) 2, type := 0, pos := "law.go:44", after := #[{ on := 5, ground := Ground.data }, { on := 2, ground := Ground.guard }], guard := some (2, false) }) (v := ?tkv3007) rfl (by kernel_rfl) (by kernel_rfl) (by kernel_rfl) (fun _ _ _ h => h) (Or.inl ⟨by rfl, ?tky3007⟩) hH0 ?tkr3007
          case tky3007 => (intro w' hSw; clear hSw; go_simp; try with_reducible rfl)
          try simp only [Act.put, List.setIfInBounds_toArray, List.set_cons_zero, List.set_cons_succ]
          refine wpAnyH_take (i := 7) (oi := { dst := some 86, op := Op.load 45 (Operand.tmp 85), type := 45, pos := "law.go:44", after := #[{ on := 6, ground := Ground.data }, { on := 2, ground := Ground.guard }], guard := some (2, false) }) (v := ?tkv3008) rfl (by kernel_rfl) (by kernel_rfl) (by kernel_rfl) (fun _ _ _ h => h) (Or.inl ⟨by rfl, ?tky3008⟩) hH0 ?tkr3008
          case tky3008 => (intro w' hSw; have z0 := HC6.out _ hSw; have z1 := HCE.out _ hSw; have z2 := HCD.out _ hSw; have z3 := HCR.out _ hSw; clear hSw; go_simp; try with_reducible rfl)
          try simp only [Act.put, List.setIfInBounds_toArray, List.set_cons_zero, List.set_cons_succ]
          refine wpAnyH_take (i := 8) (oi := { dst := some 87, op := Op.move (Operand.tmp 5), type := 3, pos := "law.go:44", after := #[{ on := 2, ground := Ground.guard }], guard := some (2, false) }) (v := ?tkv3009) rfl (by kernel_rfl) (by kernel_rfl) (by kernel_rfl) (fun _ _ _ h => h) (Or.inl ⟨by rfl, ?tky3009⟩) hH0 ?tkr3009
          case tky3009 => (intro w' hSw; clear hSw; go_simp; try with_reducible rfl)
          try simp only [Act.put, List.setIfInBounds_toArray, List.set_cons_zero, List.set_cons_succ]
          refine wpAnyH_take (i := 9) (oi := { dst := some 88, op := Op.indexAddr 45 (Operand.tmp 86) (Operand.tmp 87), type := 0, pos := "law.go:44", after := #[{ on := 7, ground := Ground.data }, { on := 8, ground := Ground.data }, { on := 2, ground := Ground.guard }], guard := some (2, false) }) (v := ?tkv3010) rfl (by kernel_rfl) (by kernel_rfl) (by kernel_rfl) (fun _ _ _ h => h) (Or.inl ⟨by rfl, ?tky3010⟩) hH0 ?tkr3010
          case tky3010 => (intro w' hSw; clear hSw; go_simp; try with_reducible rfl)
          try simp only [Act.put, List.setIfInBounds_toArray, List.set_cons_zero, List.set_cons_succ]
          refine wpAnyH_take (i := 10) (oi := { dst := some 89, op := Op.fieldAddr 49 (Operand.tmp 88) 0, type := 0, pos := "law.go:44", after := #[{ on := 9, ground := Ground.data }, { on := 2, ground := Ground.guard }], guard := some (2, false) }) (v := ?tkv3011) rfl (by kernel_rfl) (by kernel_rfl) (by kernel_rfl) (fun _ _ _ h => h) (Or.inl ⟨by rfl, ?tky3011⟩) hH0 ?tkr3011
          case tky3011 => (intro w' hSw; clear hSw; go_simp; try with_reducible rfl)
          try simp only [Act.put, List.setIfInBounds_toArray, List.set_cons_zero, List.set_cons_succ]
          refine wpAnyH_take (i := 11) (oi := { dst := some 90, op := Op.load 35 (Operand.tmp 89), type := 35, pos := "law.go:44", after := #[{ on := 10, ground := Ground.data }, { on := 2, ground := Ground.guard }], guard := some (2, false) }) (v := ?tkv3012) rfl (by kernel_rfl) (by kernel_rfl) (by kernel_rfl) (fun _ _ _ h => h) (Or.inl ⟨by rfl, ?tky3012⟩) hH0 ?tkr3012
          case tky3012 => (intro w' hSw; have z0 := HC6.out _ hSw; have z1 := HCE.out _ hSw; have z2 := HCD.out _ hSw; have z3 := HCR.out _ hSw; clear hSw; go_simp; try with_reducible rfl)
          try simp only [Act.put, List.setIfInBounds_toArray, List.set_cons_zero, List.set_cons_succ]
          refine wpAnyH_ready (rs := [12]) (by kernel_rfl) (by simp) ?_
          refine AllReadyH.cons (o := { dst := some 91, op := Op.call { callee := Callee.value (Operand.func 16), args := #[Operand.tmp 82, Operand.tmp 90], argTypes := #[33, 35] }, type := 3, pos := "law.go:44", after := #[{ on := 3, ground := Ground.data }, { on := 11, ground := Ground.data }, { on := 2, ground := Ground.chain }, { on := 2, ground := Ground.guard }], guard := some (2, false) }) rfl (fun K hK => ?_) AllReadyH.nil
          go_simp
          refine (like_yes g h n er.X wd3000.heap.size er.cv (some ⟨er.gv, 0, none⟩) wd3000 (HVF.out.below (hH0)) (HVR.out wd3000 (hH0)) (Nat.le_refl _) (HT6.out.grow (hH0))).mono ?_
          rintro e' wn3013 ⟨rfl, hb3013'⟩
          have hb3013 := hb3013'.out
          clear hb3013'
          go_simp
          have hS3013 : Below (w6.heap.size) w6 wn3013 := (hH0).trans (hb3013.mono (hH0).size)
          refine hK.out _ _ hS3013 (fun hH3013 => ?_)
          have hH3013 : Below (w6.heap.size) w6 wn3013 := hH3013
          clear hK K hS3013
          try simp only [Act.put, List.setIfInBounds_toArray, List.set_cons_zero, List.set_cons_succ]
          refine wpAnyH_take (i := 13) (oi := { dst := some 92, op := Op.binOp BinOp.gtr 3 (Operand.tmp 91) (Operand.const (Value.int IntKind.i64 0)) 3, type := 4, pos := "law.go:44", after := #[{ on := 12, ground := Ground.data }, { on := 2, ground := Ground.guard }], guard := some (2, false) }) (v := ?tkv3014) rfl (by kernel_rfl) (by kernel_rfl) (by kernel_rfl) (fun _ _ _ h => h) (Or.inl ⟨by rfl, ?tky3014⟩) hH3013 ?tkr3014
          case tky3014 => (intro w' hSw; clear hSw; go_simp; try with_reducible rfl)
          try simp only [Act.put, List.setIfInBounds_toArray, List.set_cons_zero, List.set_cons_succ]
          refine wpAnyH_take (i := 14) (oi := { dst := some 93, op := Op.pick (Operand.tmp 81) (Operand.const (Value.bool true)) (Operand.tmp 92), type := 4, pos := "law.go:44", after := #[{ on := 2, ground := Ground.data }, { on := 13, ground := Ground.data }], guard := none }) (v := ?tkv3015) rfl (by kernel_rfl) (by kernel_rfl) (by kernel_rfl) (fun _ _ _ h => h) (Or.inl ⟨by rfl, ?tky3015⟩) hH3013 ?tkr3015
          case tky3015 => (intro w' hSw; clear hSw; go_simp; try with_reducible rfl)
          try simp only [Act.put, List.setIfInBounds_toArray, List.set_cons_zero, List.set_cons_succ]
          refine wpAnyH_take (i := 15) (oi := { dst := some 94, op := Op.move (Operand.tmp 93), type := 4, pos := "law.go:44", after := #[{ on := 14, ground := Ground.data }, { on := 12, ground := Ground.chain }], guard := none }) (v := ?tkv3016) rfl (by kernel_rfl) (by kernel_rfl) (by kernel_rfl) (fun _ _ _ h => h) (Or.inl ⟨by rfl, ?tky3016⟩) hH3013 ?tkr3016
          case tky3016 => (intro w' hSw; clear hSw; go_simp; try with_reducible rfl)
          try simp only [Act.put, List.setIfInBounds_toArray, List.set_cons_zero, List.set_cons_succ]
          refine wpAnyH_take (i := 16) (oi := { dst := some 95, op := Op.move (Operand.tmp 8), type := 30, pos := "law.go:44", after := #[{ on := 15, ground := Ground.guard }], guard := some (15, false) }) (v := ?tkv3017) rfl (by kernel_rfl) (by kernel_rfl) (by kernel_rfl) (fun _ _ _ h => h) (Or.inl ⟨by rfl, ?tky3017⟩) hH3013 ?tkr3017
          case tky3017 => (intro w' hSw; clear hSw; go_simp; try with_reducible rfl)
          try simp only [Act.put, List.setIfInBounds_toArray, List.set_cons_zero, List.set_cons_succ]
          refine wpAnyH_take (i := 17) (oi := { dst := some 96, op := Op.convert 30 9 (Operand.tmp 95), type := 9, pos := "law.go:44", after := #[{ on := 16, ground := Ground.data }, { on := 15, ground := Ground.guard }], guard := some (15, false) }) (v := ?tkv3018) rfl (by kernel_rfl) (by kernel_rfl) (by kernel_rfl) (fun _ _ _ h => h) (Or.inl ⟨by rfl, ?tky3018⟩) hH3013 ?tkr3018
          case tky3018 => (intro w' hSw; have z0 := HC6.out _ hSw; have z1 := HCE.out _ hSw; have z2 := HCD.out _ hSw; have z3 := HCR.out _ hSw; clear hSw; go_simp; try with_reducible rfl)
          try simp only [Act.put, List.setIfInBounds_toArray, List.set_cons_zero, List.set_cons_succ]
          refine wpAnyH_take (i := 18) (oi := { dst := some 97, op := Op.move (Operand.tmp 1), type := 27, pos := "law.go:44", after := #[{ on := 15, ground := Ground.guard }], guard := some (15, false) }) (v := ?tkv3019) rfl (by kernel_rfl) (by kernel_rfl) (by kernel_rfl) (fun _ _ _ h => h) (Or.inl ⟨by rfl, ?tky3019⟩) hH3013 ?tkr3019
          case tky3019 => (intro w' hSw; clear hSw; go_simp; try with_reducible rfl)
          try simp only [Act.put, List.setIfInBounds_toArray, List.set_cons_zero, List.set_cons_succ]
          refine wpAnyH_take (i := 19) (oi := { dst := some 98, op := Op.nilCheck (Operand.tmp 97), type := 0, pos := "law.go:44", after := #[{ on := 18, ground := Ground.data }, { on := 15, ground := Ground.guard }], guard := some (15, false) }) (v := ?tkv3020) rfl (by kernel_rfl) (by kernel_rfl) (by kernel_rfl) (fun _ _ _ h => h) (Or.inl ⟨by rfl, ?tky3020⟩) hH3013 ?tkr3020
          case tky3020 => (intro w' hSw; clear hSw; go_simp; try with_reducible rfl)
          try simp only [Act.put, List.setIfInBounds_toArray, List.set_cons_zero, List.set_cons_succ]
          refine wpAnyH_take (i := 20) (oi := { dst := some 99, op := Op.fieldAddr 47 (Operand.tmp 98) 2, type := 0, pos := "law.go:44", after := #[{ on := 19, ground := Ground.data }, { on := 15, ground := Ground.guard }], guard := some (15, false) }) (v := ?tkv3021) rfl (by kernel_rfl) (by kernel_rfl) (by kernel_rfl) (fun _ _ _ h => h) (Or.inl ⟨by rfl, ?tky3021⟩) hH3013 ?tkr3021
          case tky3021 => (intro w' hSw; clear hSw; go_simp; try with_reducible rfl)
          try simp only [Act.put, List.setIfInBounds_toArray, List.set_cons_zero, List.set_cons_succ]
          refine wpAnyH_take (i := 21) (oi := { dst := some 100, op := Op.load 45 (Operand.tmp 99), type := 45, pos := "law.go:44", after := #[{ on := 20, ground := Ground.data }, { on := 15, ground := Ground.guard }], guard := some (15, false) }) (v := ?tkv3022) rfl (by kernel_rfl) (by kernel_rfl) (by kernel_rfl) (fun _ _ _ h => h) (Or.inl ⟨by rfl, ?tky3022⟩) hH3013 ?tkr3022
          case tky3022 => (intro w' hSw; have z0 := HC6.out _ hSw; have z1 := HCE.out _ hSw; have z2 := HCD.out _ hSw; have z3 := HCR.out _ hSw; clear hSw; go_simp; try with_reducible rfl)
          try simp only [Act.put, List.setIfInBounds_toArray, List.set_cons_zero, List.set_cons_succ]
          refine wpAnyH_take (i := 22) (oi := { dst := some 101, op := Op.move (Operand.tmp 5), type := 3, pos := "law.go:44", after := #[{ on := 15, ground := Ground.guard }], guard := some (15, false) }) (v := ?tkv3023) rfl (by kernel_rfl) (by kernel_rfl) (by kernel_rfl) (fun _ _ _ h => h) (Or.inl ⟨by rfl, ?tky3023⟩) hH3013 ?tkr3023
          case tky3023 => (intro w' hSw; clear hSw; go_simp; try with_reducible rfl)
          try simp only [Act.put, List.setIfInBounds_toArray, List.set_cons_zero, List.set_cons_succ]
          refine wpAnyH_take (i := 23) (oi := { dst := some 102, op := Op.indexAddr 45 (Operand.tmp 100) (Operand.tmp 101), type := 0, pos := "law.go:44", after := #[{ on := 21, ground := Ground.data }, { on := 22, ground := Ground.data }, { on := 15, ground := Ground.guard }], guard := some (15, false) }) (v := ?tkv3024) rfl (by kernel_rfl) (by kernel_rfl) (by kernel_rfl) (fun _ _ _ h => h) (Or.inl ⟨by rfl, ?tky3024⟩) hH3013 ?tkr3024
          case tky3024 => (intro w' hSw; clear hSw; go_simp; try with_reducible rfl)
          try simp only [Act.put, List.setIfInBounds_toArray, List.set_cons_zero, List.set_cons_succ]
          refine wpAnyH_take (i := 24) (oi := { dst := some 103, op := Op.fieldAddr 49 (Operand.tmp 102) 1, type := 0, pos := "law.go:44", after := #[{ on := 23, ground := Ground.data }, { on := 15, ground := Ground.guard }], guard := some (15, false) }) (v := ?tkv3025) rfl (by kernel_rfl) (by kernel_rfl) (by kernel_rfl) (fun _ _ _ h => h) (Or.inl ⟨by rfl, ?tky3025⟩) hH3013 ?tkr3025
          case tky3025 => (intro w' hSw; clear hSw; go_simp; try with_reducible rfl)
          try simp only [Act.put, List.setIfInBounds_toArray, List.set_cons_zero, List.set_cons_succ]
          refine wpAnyH_take (i := 25) (oi := { dst := some 104, op := Op.load 30 (Operand.tmp 103), type := 30, pos := "law.go:44", after := #[{ on := 24, ground := Ground.data }, { on := 15, ground := Ground.guard }], guard := some (15, false) }) (v := ?tkv3026) rfl (by kernel_rfl) (by kernel_rfl) (by kernel_rfl) (fun _ _ _ h => h) (Or.inl ⟨by rfl, ?tky3026⟩) hH3013 ?tkr3026
          case tky3026 => (intro w' hSw; have z0 := HC6.out _ hSw; have z1 := HCE.out _ hSw; have z2 := HCD.out _ hSw; have z3 := HCR.out _ hSw; clear hSw; go_simp; try with_reducible rfl)
          try simp only [Act.put, List.setIfInBounds_toArray, List.set_cons_zero, List.set_cons_succ]
          refine wpAnyH_take (i := 26) (oi := { dst := some 105, op := Op.convert 30 9 (Operand.tmp 104), type := 9, pos := "law.go:44", after := #[{ on := 25, ground := Ground.data }, { on := 15, ground := Ground.guard }], guard := some (15, false) }) (v := ?tkv3027) rfl (by kernel_rfl) (by kernel_rfl) (by kernel_rfl) (fun _ _ _ h => h) (Or.inl ⟨by rfl, ?tky3027⟩) hH3013 ?tkr3027
          case tky3027 => (intro w' hSw; have z0 := HC6.out _ hSw; have z1 := HCE.out _ hSw; have z2 := HCD.out _ hSw; have z3 := HCR.out _ hSw; clear hSw; go_simp; try with_reducible rfl)
          try simp only [Act.put, List.setIfInBounds_toArray, List.set_cons_zero, List.set_cons_succ]
          refine wpAnyH_take (i := 27) (oi := { dst := some 106, op := Op.binOp BinOp.neq 9 (Operand.tmp 96) (Operand.tmp 105) 9, type := 4, pos := "law.go:44", after := #[{ on := 17, ground := Ground.data }, { on := 26, ground := Ground.data }, { on := 15, ground := Ground.guard }], guard := some (15, false) }) (v := ?tkv3028) rfl (by kernel_rfl) (by kernel_rfl) (by kernel_rfl) (fun _ _ _ h => h) (Or.inl ⟨by rfl, ?tky3028⟩) hH3013 ?tkr3028
          case tky3028 => (intro w' hSw; clear hSw; go_simp; try with_reducible rfl)
          try simp only [Act.put, List.setIfInBounds_toArray, List.set_cons_zero, List.set_cons_succ]
          refine wpAnyH_take (i := 28) (oi := { dst := some 107, op := Op.pick (Operand.tmp 94) (Operand.const (Value.bool true)) (Operand.tmp 106), type := 4, pos := "law.go:44", after := #[{ on := 15, ground := Ground.data }, { on := 27, ground := Ground.data }], guard := none }) (v := ?tkv3029) rfl (by kernel_rfl) (by kernel_rfl) (by kernel_rfl) (fun _ _ _ h => h) (Or.inl ⟨by rfl, ?tky3029⟩) hH3013 ?tkr3029
          case tky3029 => (intro w' hSw; clear hSw; go_simp; try with_reducible rfl)
          try simp only [Act.put, List.setIfInBounds_toArray, List.set_cons_zero, List.set_cons_succ]
          refine wpAnyH_done (by kernel_rfl) ?_ _
          refine NoPanic.normal ?_
          have HBE := Lib.hid (HB6.out.trans ((hH3013).mono HB6.out.size))
          go_wp2_with fail
          go_roundw
          case rel => exact ⟨k + 1, by omega, by rw [HNX.out]; go_num, by go_num, HBE⟩
          case measure => simp [intOf]; omega
      · obtain rfl : n = k := by omega
        obtain ⟨gr, rs, hrs, mm⟩ := HM.out wj HB.out
        have HROW := Lib.hid (mrow_out F gm gr n z rs (-1) wj mm (by omega))
        clear hlt hrs mm
        go_wp2_with fail
        refine HROW.out.mono ?_
        rintro e wx ⟨rfl, rfl⟩
        go_wp2_with fail
        go_ret
        exact ⟨rfl, HB⟩
end Go.Proofs.YtgeodhffgbhmaaaDoor.El
