/- elim.Bytes: by contract. -/
import Derived.Test.YtgeodhffgbhmaaaDoorElAddW
namespace Go.Proofs.YtgeodhffgbhmaaaDoor.El
open Go.RowKit
open VecM Vc
/-- a row, as bytes -/
def rowB (n : Nat) : Option (Nat × List UInt8) → List UInt8
  | none => []
  | some r => bl r.1 n ++ r.2
def hdr (n z R : Nat) : List UInt8 := [UInt8.ofNat (n - 1), UInt8.ofNat z, UInt8.ofNat (R / 256), UInt8.ofNat (R % 256)]
/-- the head, and the first k rows -/
def bytesTo (n z R : Nat) (M : Mx) (k : Nat) : List UInt8 := hdr n z R ++ (M.take k).flatMap (rowB n)
def rankM (M : Mx) : Nat := (M.filter Option.isSome).length
def bytesM (n z : Nat) (M : Mx) : List UInt8 := bytesTo n z (rankM M) M n
theorem rankM_abs (rs : List (Option ER)) : rankM (absM rs) = rankE rs := by
  unfold rankM rankE absM
  induction rs with
  | nil => rfl
  | cons x t ih =>
    rw [List.map_cons, List.filter_cons, List.filter_cons]
    cases x with
    | none => simpa using ih
    | some r => simpa using ih
theorem bytesTo_next (n z R : Nat) (M : Mx) (k : Nat) : bytesTo n z R M (k + 1) = bytesTo n z R M k ++ rowB n (M.getD k none) := by
  unfold bytesTo
  rw [List.append_assoc]
  congr 1
  by_cases h : k < M.length
  · rw [List.take_succ_eq_append_getElem h, List.flatMap_append, List.getD_eq_getElem?_getD, List.getElem?_eq_getElem h]
    simp
  · rw [List.take_of_length_le (by omega), List.take_of_length_le (by omega), List.getD_eq_getElem?_getD, List.getElem?_eq_none (by omega)]
    simp [rowB]
theorem bytesTo_zero (n z R : Nat) (M : Mx) : bytesTo n z R M 0 = hdr n z R := by simp [bytesTo]
/-- a row of one's own, told so far -/
structure OwnAt (w : World) (l : List UInt8) (v : Value) (wr : World) : Prop where
  own : wr.ownsRow w.heap.size 5 1 v l.length (bv l)
  b : Below w.heap.size w wr
theorem OwnAt.below {w wr w' : World} {l : List UInt8} {v : Value} (h : OwnAt w l v wr) (hb : Below wr.heap.size wr w') : OwnAt w l v w' := by
  refine ⟨?_, h.b.trans (hb.mono h.b.size)⟩
  obtain ⟨A, cap, rfl, _, _, _⟩ := own_slice h.own
  exact own_keep h.own fun b he => hb.block b (by
    rcases h.own.2 with ⟨h0, _⟩ | ⟨g, cap, cur, hv, _, hg, _⟩
    · injection h0 with e1; rw [e1] at he; cases he
    · injection hv with e1
      rw [e1] at he
      have he : g = b := Option.some.inj he
      subst he
      exact (Array.getElem?_eq_some_iff.1 hg).1)
theorem OwnAt.app {w wr w' : World} {l m : List UInt8} {v v' : Value} {j : Nat} (h : OwnAt w l v wr) (hj : j = m.length) (ho : w'.ownsRow w.heap.size 5 1 v' (l.length + j) (bv l ++ bv m)) (hg : wr.grownBy w' v.ownBlock) : OwnAt w (l ++ m) v' w' := by
  subst hj
  refine ⟨?_, below_app h.b h.b.size h.own (Nat.le_refl _) hg⟩
  rw [List.length_append, bv_append]
  exact ho
def TellB (l : List UInt8) (w : World) (e : Ending) (w' : World) : Prop := ∃ A c, e = .returned (.slice A l.length c) ∧ Hid (w'.ownsRow w.heap.size 5 1 (.slice A l.length c) l.length (bv l)) ∧ Hid (Below w.heap.size w w')
theorem u8_of (x : Nat) (h : x < 256) : ((UInt8.ofNat x).toNat : Int) = (x : Int) := by
  rw [UInt8.toNat_ofNat']; congr 1; exact Nat.mod_eq_of_lt h
theorem wpList_appNil {P : Program} {w : World} {ops : Array Oper} {rest : List Oper} {o : Oper} {a : Act} {Q : Exit → Act → World → Prop} (hgd : o.guard = none) (s x : Operand) (t : TypeId)
    (ho : o.op = .call { callee := .builtin .append, args := #[s, x], argTypes := #[t, t] }) (base : Nat) (e : TypeId) (i : TypeInfo) (ht : P.underlying t = some (.slice e)) (hi : P.info? e = some i)
    (v : Value) (n : Nat) (xs : List Value) (hs : a.eval s = v) (hown : w.ownsRow base e 1 v n xs) (c : Nat) (hx : a.eval x = .slice none 0 c)
    (h : wpList P ops Q rest (a.put o.dst v) w) : wpList P ops Q (o :: rest) a w :=
  wpList_plain hgd fun _ hK => by
    have hrun := app_nil (P := P) w base t o.type e i ht hi v n xs hown c
    unfold Oper.wp execOp
    simp only [ho, resolve, invoke, builtin, Sem.run_bind, Sem.run_pure, Result.andThen_ok, List.map_toArray, List.map_cons, List.map_nil, hs, hx, hrun]
    exact hK _ _ h
set_option maxRecDepth 100000 in
set_option maxHeartbeats 1600000 in
theorem bytesM_any (F : Nat → Prop) (gm gr n z : Nat) (rs : List (Option ER)) (w : World) (m : MatAt w F gm gr n z rs) :
    Calls Tryd.prog 22 #[.pointer (some ⟨gm, 0, none⟩)] w (TellB (bytesM n z (absM rs)) w) := by
  obtain ⟨i0, hi, hz0, hz1, hz2'⟩ := info_parts infoU8
  obtain ⟨c0, c1, c2, c3⟩ := m.cells
  have HM := Lib.hid m
  have hn1 := m.n1
  have hn2 := m.n2
  have hz2 := m.z2
  have hrk : rankE rs ≤ 256 := by
    have h1 : rankE rs ≤ rs.length := List.length_filter_le _ _
    rw [m.len] at h1; omega
  obtain ⟨R, hR⟩ : ∃ R, rankE rs = R := ⟨_, rfl⟩
  have hRM := rankM_abs rs
  rw [hR] at hrk hRM
  unfold bytesM
  rw [hRM]
  clear m hRM
  have HR := Lib.hid hR
  clear hR
  go_enter Tryd.func22, Tryd.ntmps22
  go_wp2_with fail
  refine (empty_no F gm gr n z rs _ HM.out).mono ?_
  rintro e w1 ⟨rfl, rfl⟩
  go_wp2_with fail
  refine (rank_any F gm gr n z rs _ HM.out).mono ?_
  rintro e w1 ⟨rfl, rfl⟩
  rw [HR.out]
  clear c3
  have hna : (1 : Int) ≤ (n : Int) := by omega
  have hnb : (n : Int) ≤ 256 := by omega
  have hzz : (z : Int) ≤ 16 := by omega
  have hRR : (R : Int) ≤ 256 := by omega
  go_wp2_with fail
  go_region
  have hbw : Below w.heap.size w (w.alloc (.cells #[.int .u8 ((n : Int) - 1), .int .u8 (z : Int), .int .u8 ((R : Int) / 256), .int .u8 ((R : Int) % 256)] 5)).drew := ((Below.refl _ _).alloc (Nat.le_refl _) _).drew
  have HO : Hid (OwnAt w (bytesTo n z R (absM rs) 0) (.slice (some ⟨w.heap.size, 0, none⟩) 4 4) (w.alloc (.cells #[.int .u8 ((n : Int) - 1), .int .u8 (z : Int), .int .u8 ((R : Int) / 256), .int .u8 ((R : Int) % 256)] 5)).drew) := Lib.hid (by
    rw [bytesTo_zero]
    refine ⟨?_, hbw⟩
    have hown := own_lit (w := w) (cs := #[.int .u8 ((n : Int) - 1), .int .u8 (z : Int), .int .u8 ((R : Int) / 256), .int .u8 ((R : Int) % 256)]) (e := 5) (n := 4) rfl (Nat.le_refl _) rfl (by unfold maxLen; omega)
    have e : bv (hdr n z R) = [.int .u8 ((n : Int) - 1), .int .u8 (z : Int), .int .u8 ((R : Int) / 256), .int .u8 ((R : Int) % 256)] := by
      unfold hdr bv
      simp only [List.map_cons, List.map_nil]
      rw [u8_of _ (by omega), u8_of _ (by omega), u8_of _ (by omega), u8_of _ (by omega)]
      congr 3 <;> omega
    rw [e]
    exact hown)
  have HMA := Lib.hid (HM.out.below hbw)
  generalize (w.alloc (.cells #[.int .u8 ((n : Int) - 1), .int .u8 (z : Int), .int .u8 ((R : Int) / 256), .int .u8 ((R : Int) % 256)] 5)).drew = wA at *
  clear hbw c0 c1 c2 hna hzz hRR hrk
  obtain ⟨_, _, c2, _⟩ := HMA.out.cells
  have HLN : Hid ((bytesTo n z R (absM rs) 0).length = 4) := Lib.hid (by rw [bytesTo_zero]; rfl)
  go_wp2_with fail
  clear c2
  go_loopw [4, 33] (fun v x wr => ∃ k : Nat, k ≤ n ∧ x = .int .i64 k ∧ Hid (OwnAt w (bytesTo n z R (absM rs) k) v wr) ∧ Hid ((bytesTo n z R (absM rs) k).length ≤ 4 + 48 * k)) (fun _ x _ => n - (intOf x).toNat)
  case atStart => exact ⟨0, by omega, rfl, HO, Lib.hid (by rw [HLN.out]; omega)⟩
  case round =>
    obtain ⟨k, hk, rfl, ho, hlen⟩ := hrel
    clear HO HLN HMA
    by_cases hlt : k < n
    · have hki : (k : Int) < (n : Int) := by omega
      have hmr := HM.out.below ho.out.b
      obtain ⟨r1, r2⟩ := hmr.row hlt
      have hgr : gr < wr.heap.size := hmr.lt.2
      have HBN := Lib.hid (bytesTo_next n z R (absM rs) k)
      rw [absM_getD] at HBN
      generalize bytesTo n z R (absM rs) k = L at *
      obtain ⟨A, cap, rfl, _, _, _⟩ := own_slice ho.out.own
      have hL0 := hlen.out
      have HMR := Lib.hid hmr
      clear hmr hlen
      cases hro : rs.getD k none with
      | none =>
        rw [hro] at r1 r2 HBN
        unfold ptrOf at r1
        unfold slcOf at r2
        simp only at r1 r2
        clear hro
        have hoa := Lib.hid (ho.out.below (w' := wr.alloc (.cells #[.pointer none, .slice none 0 0] 73)) ((Below.refl _ _).alloc (Nat.le_refl _) _))
        have HBK : Hid (bytesTo n z R (absM rs) (k + 1) = L) := Lib.hid (by rw [HBN.out]; exact List.append_nil _)
        clear ho HBN
        go_wp2_with fail
        refine (bytes_nil _).mono ?_
        rintro e w3 ⟨rfl, rfl⟩
        go_wp2_with (first
          | (at_builtin; refine wpList_appNil rfl (.tmp 37) (.tmp 40) 30 rfl w.heap.size 5 i0 Tryd.underlying30 hi _ L.length (bv L) rfl hoa.out.own 0 rfl ?_)
          | (at_builtin; refine wpList_appNil rfl (.tmp 42) (.tmp 44) 30 rfl w.heap.size 5 i0 Tryd.underlying30 hi _ L.length (bv L) rfl hoa.out.own 0 rfl ?_))
        go_roundw
        case rel => exact ⟨k + 1, by omega, by go_num, by rw [HBK.out]; exact hoa, by rw [HBK.out]; exact Lib.hid (by omega)⟩
        case measure => simp [intOf]; omega
      | some r =>
        rw [hro] at r1 r2 HBN
        obtain ⟨e1, e2, e3, _⟩ := HMR.out.at_ k r (getD_get hro)
        unfold ptrOf at r1
        unfold slcOf at r2
        simp only [e3] at r1 r2
        have HV := Lib.hid e1
        have HD := Lib.hid e2
        have HE := Lib.hid e3
        have HRO := Lib.hid hro
        clear hro e1 e2 e3
        go_upto_region 8 with fail
        have hba : Below wr.heap.size wr (wr.alloc (.cells #[.pointer (some ⟨r.g, 0, none⟩), .slice (some ⟨r.d, 0, none⟩) z r.c] 73)) := (Below.refl _ _).alloc (Nat.le_refl _) _
        have hoa := ho.out.below hba
        have hva := HV.out.below hba
        have hda := HD.out.keep (W' := wr.alloc (.cells #[.pointer (some ⟨r.g, 0, none⟩), .slice (some ⟨r.d, 0, none⟩) z r.c] 73)) fun b he => hba.block b (HD.out.lt he)
        have hxa := heap_alloc_new wr (.cells #[.pointer (some ⟨r.g, 0, none⟩), .slice (some ⟨r.d, 0, none⟩) z r.c] 73)
        have HLT : Hid (∀ b, blk A = some b → b < wr.heap.size) := Lib.hid (fun b he => by
          rcases ho.out.own.2 with ⟨h0, _⟩ | ⟨g, cap, cur, hv, _, hg, _⟩
          · injection h0 with e1; rw [e1] at he; cases he
          · injection hv with e1
            rw [e1] at he
            have he : g = b := Option.some.inj he
            subst he
            exact (Array.getElem?_eq_some_iff.1 hg).1)
        have HDR : Hid (r.d < w.heap.size) := Lib.hid ((HM.out.at_ k r (getD_get HRO.out)).2.1.lt rfl)
        have HOA := Lib.hid hoa
        have HVA := Lib.hid hva
        have HDA := Lib.hid hda
        have HXA := Lib.hid hxa
        generalize wr.alloc (.cells #[.pointer (some ⟨r.g, 0, none⟩), .slice (some ⟨r.d, 0, none⟩) z r.c] 73) = wa at *
        clear hba hoa hva hda hxa ho r1 r2 hgr HMR HV HD
        have c1 : wa.cell? ⟨wr.heap.size, 0, none⟩ = some (.pointer (some ⟨r.g, 0, none⟩)) := by rw [cell_of_row wa _ 0 _ _ (0, 0) HXA.out]; rfl
        go_wp2_with fail
        refine (bytes_any r.g r.h n r.X wa HVA.out).mono ?_
        rintro e w3 ⟨gb, rfl, hob, hb3⟩
        clear c1
        have HO3 := Lib.hid (HOA.out.below hb3.out)
        have HX3 := Lib.hid ((hb3.out.block _ (Array.getElem?_eq_some_iff.1 HXA.out).1).trans HXA.out)
        have HD3 := Lib.hid (HDA.out.keep fun b he => hb3.out.block b (HDA.out.lt he))
        have hbl := bl_length r.X n
        have hbw : (bl r.X n).length ≤ 32 := by rw [hbl]; unfold bw; omega
        obtain ⟨M8, hM8⟩ : ∃ M8, bl r.X n = M8 := ⟨_, rfl⟩
        have HBN2 : Hid (bytesTo n z R (absM rs) (k + 1) = L ++ (M8 ++ r.l)) := Lib.hid (by rw [HBN.out, ← hM8]; rfl)
        rw [hM8] at hob hbw ⊢
        obtain ⟨m8, hm8⟩ : ∃ m8, M8.length = m8 := ⟨_, rfl⟩
        have HM8 := Lib.hid hm8
        rw [hm8] at hob hbw ⊢
        clear hb3 hbl hM8 hm8 HOA HXA HDA HVA HBN
        go_upto_region 9 with (at_builtin; refine wpList_app rfl (.tmp 37) (.tmp 40) 30 rfl w.heap.size 5 i0 (.int .u8 0) 1 Tryd.underlying30 hi hz0 hz1 hz2' rfl _ L.length (bv L) rfl HO3.out.own w3.heap.size _ m8 m8 (bv M8) rfl (Row.of_own hob.out) (bv_one M8) (by unfold maxLen; omega) (by omega) HO3.out.b.size ?_; intro v2 w4 hown2 hg2 hat2)
        obtain ⟨A2, cap2, rfl, _, _, _⟩ := own_slice hown2
        have HO4 := Lib.hid (HO3.out.app HM8.out.symm hown2 hg2)
        obtain ⟨LM, hLM⟩ : ∃ LM, L ++ M8 = LM := ⟨_, rfl⟩
        have h8 : L.length + m8 = LM.length := by rw [← hLM, List.length_append, HM8.out]
        rw [hLM, h8] at HO4
        have HLM := Lib.hid hLM
        clear hLM
        have hw4 : w4.heap[wr.heap.size]? = some (.cells #[.pointer (some ⟨r.g, 0, none⟩), .slice (some ⟨r.d, 0, none⟩) z r.c] 73 (0, 0)) := (hg2.block _ (Array.getElem?_eq_some_iff.1 HX3.out).1 (fun e => by
          have := HLT.out wr.heap.size (by cases A with
            | none => cases e
            | some a => exact e.symm)
          omega)).trans HX3.out
        have hd4 : DatAt w4 (some ⟨r.d, 0, none⟩) r.c r.l := by
          have hb4 := HO4.out.b
          have hb3 := HO3.out.b
          exact HD3.out.keep fun b he => by
            have he : r.d = b := Option.some.inj he
            have hlt := HDR.out
            rw [hb4.block b (by omega), hb3.block b (by omega)]
        have c2 : w4.cell? ⟨wr.heap.size, 1, none⟩ = some (.slice (some ⟨r.d, 0, none⟩) z r.c) := by rw [cell_of_row w4 _ 1 _ _ (0, 0) hw4]; rfl
        have hrw4 := hd4.row
        rw [HE.out] at hrw4
        have HRW4 := Lib.hid hrw4
        clear hrw4
        have H8 := Lib.hid h8
        have hL8 : LM.length ≤ 4 + 48 * k + 32 := by rw [← h8]; omega
        clear hown2 hg2 hat2 hob HO3 HX3 HD3 hw4 hd4 h8
        rw [H8.out]
        go_wp2_with (at_builtin; refine wpList_app rfl (.tmp 42) (.tmp 44) 30 rfl w.heap.size 5 i0 (.int .u8 0) 1 Tryd.underlying30 hi hz0 hz1 hz2' rfl _ LM.length (bv LM) rfl HO4.out.own w4.heap.size _ z r.c (bv r.l) rfl (by exact HRW4.out) (bv_one r.l) (by unfold maxLen; omega) (by omega) HO4.out.b.size ?_; intro v2 w5 hown2 hg2 hat2)
        obtain ⟨A3, cap3, rfl, _, _, _⟩ := own_slice hown2
        have HO5 := Lib.hid (HO4.out.app HE.out.symm hown2 hg2)
        have HFL : Hid ((LM ++ r.l).length ≤ 4 + 48 * (k + 1)) := Lib.hid (by rw [List.length_append, HE.out]; omega)
        clear hown2 hg2 hat2 c2 hL8
        go_roundw
        case rel => exact ⟨k + 1, by omega, by go_num, by rw [HBN2.out, ← List.append_assoc, HLM.out]; exact HO5, by rw [HBN2.out, ← List.append_assoc, HLM.out]; exact HFL⟩
        case measure => simp [intOf]; omega
    · obtain rfl : n = k := by omega
      obtain ⟨A, cap, rfl, _, _, _⟩ := own_slice ho.out.own
      have HO := Lib.hid ho.out.own
      have HB := Lib.hid ho.out.b
      clear ho hlen
      go_wp2_with fail
      go_ret
      exact ⟨A, cap, rfl, HO, HB⟩
end Go.Proofs.YtgeodhffgbhmaaaDoor.El
