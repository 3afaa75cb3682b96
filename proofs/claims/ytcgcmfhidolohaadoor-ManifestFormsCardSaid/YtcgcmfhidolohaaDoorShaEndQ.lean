/- digest's end: by contract. -/
import Derived.Deep.LoopGhost
import Derived.Test.YtcgcmfhidolohaaDoorShaPutQ
namespace Go.Proofs.YtcgcmfhidolohaaDoor.Sh
open Go.RowKit
theorem put_lit (g : Nat) (h : Sha.H) (x : UInt8) (i : Int) (hi : (x.toNat : Int) = i) (tot : Int) (w : World) (hok : h.Ok) (hh : HIs w g h tot) (ht : Tab w) (hg : 2 ≤ g) :
    Calls Tryd.prog 46 #[.pointer (some ⟨g, 0, none⟩), .int .u8 i] w fun e w' => e = .returned (.tuple #[]) ∧ Hid (HOk g (h.put x) tot w w') := by
  subst hi
  exact put_any g h x tot w hok hh ht hg
theorem take_wait (l : List UInt8) : ∀ h : Sha.H, h.wait < 64 → (h.take l).wait = (h.wait + l.length) % 64 := by
  induction l with
  | nil => intro h hk; show h.wait = _; rw [List.length_nil, Nat.add_zero, Nat.mod_eq_of_lt hk]
  | cons x l ih =>
    intro h hk
    show ((h.put x).take l).wait = _
    have hp := Sha.put_wait h x
    rw [ih _ (by rw [hp]; split <;> omega), hp, List.length_cons]
    split <;> omega
theorem take_put (h : Sha.H) (k : Nat) (x : UInt8) : (h.take (List.replicate k x)).put x = h.take (List.replicate (k + 1) x) := by
  rw [List.replicate_succ', Sha.take_append]; rfl
theorem st_range {W : World} {g : Nat} {s : Sha.S8} {bl : List UInt8} {wait : Nat} {tot : Int} (h : HAt W g s.get bl wait tot) : W.rangeAt g 0 (s8v s).toList := by
  intro j v hv
  rw [Nat.zero_add]
  have hj : j < 8 := by have := (List.getElem?_eq_some_iff.1 hv).1; simpa [s8v_size] using this
  rw [h.st hj, ← s8v_get s j hj, ← hv, Array.getElem?_toList]
def bytesK (s : Sha.S8) : Nat → List UInt8
  | 0 => []
  | k + 1 => bytesK s k ++ Sha.four (s.get k)
theorem bytesK_length (s : Sha.S8) (k : Nat) : (bytesK s k).length = 4 * k := by
  induction k with
  | zero => rfl
  | succ k ih => rw [bytesK, List.length_append, ih, Sha.four_length]; omega
theorem bytesK_all (s : Sha.S8) : bytesK s 8 = s.bytes := by
  simp [bytesK, Sha.S8.bytes, Sha.S8.get]
theorem sfour_cells (s : Nat) (h : s < 4294967296) : [Value.int .u8 ((s : Int) / 16777216), Value.int .u8 ((s : Int) / 65536 % 256), Value.int .u8 ((s : Int) / 256 % 256), Value.int .u8 ((s : Int) % 256)] = bv (Sha.four s) := by
  simp [bv, Sha.four]
  omega
def EndOk (g : Nat) (l : List UInt8) (w : World) (e : Ending) (w' : World) : Prop :=
  ∃ A c, e = .returned (.slice A 32 c) ∧ Hid (w'.ownsRow w.heap.size 5 1 (.slice A 32 c) 32 (bv l)) ∧ Hid (w.grownBy w' (some g))
def sh (k : Nat) : Int := match k with
  | 0 => 56 | 1 => 48 | 2 => 40 | 3 => 32 | 4 => 24 | 5 => 16 | 6 => 8 | 7 => 0 | _ => -8
def len8At (n k : Nat) : UInt8 := (Sha.len8 n).getD k 0
theorem put_len (h : Sha.H) (n k : Nat) (hk : k < 8) : h.take ((Sha.len8 n).take (k + 1)) = (h.take ((Sha.len8 n).take k)).put (len8At n k) :=
  put_take h _ k hk
set_option maxRecDepth 100000 in
set_option maxHeartbeats 3200000 in
theorem end_any (g tot : Nat) (h : Sha.H) (w : World) (hok : h.Ok) (hh : HIs w g h (tot : Int)) (ht : Tab w) (hg : 2 ≤ g) (htot : tot ≤ 1000000000000000000) :
    Calls Tryd.prog 43 #[.pointer (some ⟨g, 0, none⟩)] w (EndOk g (h.done tot).st.bytes w) := by
  obtain ⟨i0, hi, hz0, hz1, hz2⟩ := info_parts Tryd.info5
  have HT := Lib.hid ht
  have HO := Lib.hid hok
  have HG := Lib.hid hg
  have HH := Lib.hid hh
  clear ht hok hg hh
  go_enter Tryd.func43, Tryd.ntmps43
  go_wp2_with fail
  refine (put_lit g h 0x80 _ rfl _ _ HO.out HH.out HT.out HG.out).mono ?_
  rintro e w1 ⟨rfl, hd⟩
  have HO1 : Hid (h.put 0x80).Ok := Sha.put_ok _ _ HO.out
  have HN : Hid (Sha.noughts h.wait = (119 - h.wait) % 64) := rfl
  have HW : Hid ((h.put 0x80).wait = (h.wait + 1) % 64 ∧ h.wait < 64) := ⟨by rw [Sha.put_wait]; have := HO.out.2.2; split <;> omega, HO.out.2.2⟩
  have HD : Hid (h.done tot = ((h.put 0x80).take (List.replicate (Sha.noughts h.wait) 0)).take (Sha.len8 (tot * 8))) := rfl
  generalize h.done tot = HF at *
  generalize h.put 0x80 = h1 at *
  generalize Sha.noughts h.wait = N at *
  generalize h.wait = wt at *
  have hA0 : Hid (N - N ≤ N ∧ HOk g (h1.take (List.replicate (N - N) 0)) (tot : Int) w w1) := by
    rw [Nat.sub_self]; exact ⟨Nat.zero_le _, hd.out⟩
  clear hd HH HO
  go_wp2_with fail
  go_loopg [] N (fun k wr => k ≤ N ∧ Hid (N - k ≤ N ∧ HOk g (h1.take (List.replicate (N - k) 0)) (tot : Int) w wr))
  case atStart => exact ⟨Nat.le_refl _, hA0⟩
  case round =>
    obtain ⟨hk, hd⟩ := hrel
    clear hA0
    have c72 := HAt.wt hd.out.2.1
    have hw := take_wait (List.replicate (N - gk) 0) h1 HO1.out.2.2
    rw [List.length_replicate, HW.out.1] at hw
    have hN := HN.out
    have hW := HW.out.2
    have hOk := Lib.hid (Sha.take_ok (List.replicate (N - gk) 0) _ HO1.out)
    rcases Nat.eq_zero_or_pos gk with hz | hz
    · subst hz
      have h56 : (h1.take (List.replicate (N - 0) 0)).wait = 56 := by rw [hw]; omega
      rw [h56] at c72
      clear hw hN hW h56
      go_wp2_with fail
      obtain ⟨h2, hh2⟩ : ∃ h2, h1.take (List.replicate (N - 0) 0) = h2 := ⟨_, rfl⟩
      have HF2 : Hid (HF = h2.take (Sha.len8 (tot * 8))) := by rw [HD.out, ← hh2]; rfl
      have HO2 : Hid h2.Ok := by rw [← hh2]; exact hOk
      have hA1 : Hid (HOk g (h2.take ((Sha.len8 (tot * 8)).take 0)) (tot : Int) w wr) := by rw [← hh2]; exact hd.out.2
      clear hh2 hd hOk HD c72 HO1 HW HN hk
      obtain ⟨wo, rfl⟩ : ∃ wo : World, wo = wr := ⟨_, rfl⟩
      go_loopw [3] (fun i wr => ∃ k : Nat, k ≤ 8 ∧ i = .int .i64 (sh k) ∧ Hid (HOk g (h2.take ((Sha.len8 (tot * 8)).take k)) (tot : Int) w wr)) (fun i _ => (intOf i + 8).toNat)
      case atStart => exact ⟨0, by omega, rfl, hA1⟩
      case round =>
        obtain ⟨k, hk, rfl, hd⟩ := hrel
        clear hA1
        have hOk := Lib.hid (Sha.take_ok ((Sha.len8 (tot * 8)).take k) _ HO2.out)
        have c73 := HAt.tt hd.out.1
        rcases (by omega : k = 0 ∨ k = 1 ∨ k = 2 ∨ k = 3 ∨ k = 4 ∨ k = 5 ∨ k = 6 ∨ k = 7 ∨ k = 8) with rfl | rfl | rfl | rfl | rfl | rfl | rfl | rfl | rfl
        all_goals simp only [sh]
        · have hnx := Lib.hid (put_len h2 (tot * 8) 0 (by omega))
          go_wp2_with fail
          refine (put_lit g _ (len8At (tot * 8) 0) _ (by simp [len8At, Sha.len8] <;> omega) _ _ hOk.out hd.out.1 (HT.out.grown hd.out.2 HG.out) HG.out).mono ?_
          rintro e w2 ⟨rfl, hd2⟩
          have hD : Hid (HOk g (h2.take ((Sha.len8 (tot * 8)).take (0 + 1))) (tot : Int) w w2) := by
            rw [hnx.out]; exact ⟨hd2.out.1, hd.out.2.trans hd2.out.2⟩
          clear hd hd2 c73
          go_wp2_with fail
          go_roundw
          case rel => exact ⟨1, by omega, rfl, hD⟩
          case measure => simp [intOf, sh]
        · have hnx := Lib.hid (put_len h2 (tot * 8) 1 (by omega))
          go_wp2_with fail
          refine (put_lit g _ (len8At (tot * 8) 1) _ (by simp [len8At, Sha.len8] <;> omega) _ _ hOk.out hd.out.1 (HT.out.grown hd.out.2 HG.out) HG.out).mono ?_
          rintro e w2 ⟨rfl, hd2⟩
          have hD : Hid (HOk g (h2.take ((Sha.len8 (tot * 8)).take (1 + 1))) (tot : Int) w w2) := by
            rw [hnx.out]; exact ⟨hd2.out.1, hd.out.2.trans hd2.out.2⟩
          clear hd hd2 c73
          go_wp2_with fail
          go_roundw
          case rel => exact ⟨2, by omega, rfl, hD⟩
          case measure => simp [intOf, sh]
        · have hnx := Lib.hid (put_len h2 (tot * 8) 2 (by omega))
          go_wp2_with fail
          refine (put_lit g _ (len8At (tot * 8) 2) _ (by simp [len8At, Sha.len8] <;> omega) _ _ hOk.out hd.out.1 (HT.out.grown hd.out.2 HG.out) HG.out).mono ?_
          rintro e w2 ⟨rfl, hd2⟩
          have hD : Hid (HOk g (h2.take ((Sha.len8 (tot * 8)).take (2 + 1))) (tot : Int) w w2) := by
            rw [hnx.out]; exact ⟨hd2.out.1, hd.out.2.trans hd2.out.2⟩
          clear hd hd2 c73
          go_wp2_with fail
          go_roundw
          case rel => exact ⟨3, by omega, rfl, hD⟩
          case measure => simp [intOf, sh]
        · have hnx := Lib.hid (put_len h2 (tot * 8) 3 (by omega))
          go_wp2_with fail
          refine (put_lit g _ (len8At (tot * 8) 3) _ (by simp [len8At, Sha.len8] <;> omega) _ _ hOk.out hd.out.1 (HT.out.grown hd.out.2 HG.out) HG.out).mono ?_
          rintro e w2 ⟨rfl, hd2⟩
          have hD : Hid (HOk g (h2.take ((Sha.len8 (tot * 8)).take (3 + 1))) (tot : Int) w w2) := by
            rw [hnx.out]; exact ⟨hd2.out.1, hd.out.2.trans hd2.out.2⟩
          clear hd hd2 c73
          go_wp2_with fail
          go_roundw
          case rel => exact ⟨4, by omega, rfl, hD⟩
          case measure => simp [intOf, sh]
        · have hnx := Lib.hid (put_len h2 (tot * 8) 4 (by omega))
          go_wp2_with fail
          refine (put_lit g _ (len8At (tot * 8) 4) _ (by simp [len8At, Sha.len8] <;> omega) _ _ hOk.out hd.out.1 (HT.out.grown hd.out.2 HG.out) HG.out).mono ?_
          rintro e w2 ⟨rfl, hd2⟩
          have hD : Hid (HOk g (h2.take ((Sha.len8 (tot * 8)).take (4 + 1))) (tot : Int) w w2) := by
            rw [hnx.out]; exact ⟨hd2.out.1, hd.out.2.trans hd2.out.2⟩
          clear hd hd2 c73
          go_wp2_with fail
          go_roundw
          case rel => exact ⟨5, by omega, rfl, hD⟩
          case measure => simp [intOf, sh]
        · have hnx := Lib.hid (put_len h2 (tot * 8) 5 (by omega))
          go_wp2_with fail
          refine (put_lit g _ (len8At (tot * 8) 5) _ (by simp [len8At, Sha.len8] <;> omega) _ _ hOk.out hd.out.1 (HT.out.grown hd.out.2 HG.out) HG.out).mono ?_
          rintro e w2 ⟨rfl, hd2⟩
          have hD : Hid (HOk g (h2.take ((Sha.len8 (tot * 8)).take (5 + 1))) (tot : Int) w w2) := by
            rw [hnx.out]; exact ⟨hd2.out.1, hd.out.2.trans hd2.out.2⟩
          clear hd hd2 c73
          go_wp2_with fail
          go_roundw
          case rel => exact ⟨6, by omega, rfl, hD⟩
          case measure => simp [intOf, sh]
        · have hnx := Lib.hid (put_len h2 (tot * 8) 6 (by omega))
          go_wp2_with fail
          refine (put_lit g _ (len8At (tot * 8) 6) _ (by simp [len8At, Sha.len8] <;> omega) _ _ hOk.out hd.out.1 (HT.out.grown hd.out.2 HG.out) HG.out).mono ?_
          rintro e w2 ⟨rfl, hd2⟩
          have hD : Hid (HOk g (h2.take ((Sha.len8 (tot * 8)).take (6 + 1))) (tot : Int) w w2) := by
            rw [hnx.out]; exact ⟨hd2.out.1, hd.out.2.trans hd2.out.2⟩
          clear hd hd2 c73
          go_wp2_with fail
          go_roundw
          case rel => exact ⟨7, by omega, rfl, hD⟩
          case measure => simp [intOf, sh]
        · have hnx := Lib.hid (put_len h2 (tot * 8) 7 (by omega))
          go_wp2_with fail
          refine (put_lit g _ (len8At (tot * 8) 7) _ (by simp [len8At, Sha.len8] <;> omega) _ _ hOk.out hd.out.1 (HT.out.grown hd.out.2 HG.out) HG.out).mono ?_
          rintro e w2 ⟨rfl, hd2⟩
          have hD : Hid (HOk g (h2.take ((Sha.len8 (tot * 8)).take (7 + 1))) (tot : Int) w w2) := by
            rw [hnx.out]; exact ⟨hd2.out.1, hd.out.2.trans hd2.out.2⟩
          clear hd hd2 c73
          go_wp2_with fail
          go_roundw
          case rel => exact ⟨8, by omega, rfl, hD⟩
          case measure => simp [intOf, sh]
        · have hd1 : Hid (HOk g HF (tot : Int) w wr) := by rw [HF2.out]; exact hd.out
          have HST : Hid HF.st.lt := by rw [HF2.out]; exact (Sha.take_ok _ _ HO2.out).1
          have hgw := hd1.out.2.size
          have hglt := HAt.lt hd1.out.1
          clear hd hOk c73 HF2 HO2
          generalize HF = hf at *
          obtain ⟨s, bl, wt2⟩ := hf
          simp only at HST
          obtain ⟨wo, rfl⟩ : ∃ wo : World, wo = wr := ⟨_, rfl⟩
          go_wp2_with (first
            | (at_make; refine wpList_make_own _ rfl _ _ 23 rfl wo.heap.size 5 i0 (.int .u8 0) 1 Tryd.underlying23 hi hz0 hz1 .i64 .i64 32 32 rfl rfl rfl (by rw [hz2]; omega) (by unfold maxLen; omega) (Nat.le_refl _) ?_; intro w1 hown1 hg1; have HR1 := Lib.hid (st_range (HAt.keep hd1.out.1 (hg1.block g hglt (by intro e; nomatch e)))))
            | (refine wpList_load_mid rfl _ (.tmp 33) rfl g 0 rfl (s8v s).toList _ HR1.out Tryd.underlying60 rfl (by kernel_rfl) ?_))
          have hown1' : w1.ownsRow wo.heap.size 5 1 (.slice (some ⟨wo.heap.size, 0, none⟩) (4 * 0) 32) (4 * 0) (bv (bytesK s 0)) := hown1
          have hC0 : Hid (w1.ownsRow wo.heap.size 5 1 (.slice (some ⟨wo.heap.size, 0, none⟩) (4 * 0) 32) (4 * 0) (bv (bytesK s 0)) ∧ Below wo.heap.size wo w1) := ⟨hown1', (Below.refl _ _).grown hg1 (Nat.le_refl _) (by intro g' e; nomatch e)⟩
          clear hown1 hown1' hg1 HR1
          obtain ⟨j0, hj, hy0, hy1, hy2⟩ := info_parts Tryd.info22
          go_loopw [4, 35] (fun b i W => ∃ k : Nat, k ≤ 8 ∧ i = .int .i64 k ∧ ∃ A c, b = .slice A (4 * k) c ∧ Hid (W.ownsRow wo.heap.size 5 1 (.slice A (4 * k) c) (4 * k) (bv (bytesK s k)) ∧ Below wo.heap.size wo W)) (fun _ i _ => 8 - (intOf i).toNat)
          case atStart => exact ⟨0, by omega, rfl, _, _, rfl, hC0⟩
          case round =>
            obtain ⟨k, hk, rfl, A, c, rfl, hd⟩ := hrel
            clear hC0
            by_cases hlt : k < 8
            · have hix := run_index_row (P := Tryd.prog) Tryd.underlying60 hj hy1 isAgg_u32 (s8v s) k _ hlt (s8v_get s k hlt)
              have hxlt := Sha.get_lt s HST.out k
              have HX := Lib.hid (sfour_cells (s.get k) hxlt)
              have hBK : Hid (bytesK s (k + 1) = bytesK s k ++ Sha.four (s.get k)) := rfl
              have hs' : ((s.get k : Nat) : Int) ≤ 4294967295 := by omega
              have hszr := hd.out.2.size
              have hown := hd.out.1
              have HBL := Lib.hid hd.out.2
              clear hxlt hd
              generalize s.get k = x at *
              go_wp2_with (at_builtin; refine wpList_app rfl (.tmp 38) (.tmp 50) 23 rfl wo.heap.size 5 i0 (.int .u8 0) 1 Tryd.underlying23 hi hz0 hz1 hz2 rfl _ (4 * k) _ rfl (hown.alloc _) _ _ 4 4 _ rfl (row_new wr _ _ _) (by intro u hu; simp at hu; rcases hu with rfl | rfl | rfl | rfl <;> rfl) (by unfold maxLen; omega) (by omega) (by simp; omega) ?_; intro v2 w2 hown2 hg2 hat2)
              obtain ⟨A2, c2, rfl, _⟩ := own_slice hown2
              have hD : Hid (w2.ownsRow wo.heap.size 5 1 (.slice A2 (4 * (k + 1)) c2) (4 * (k + 1)) (bv (bytesK s (k + 1))) ∧ Below wo.heap.size wo w2) := by
                refine ⟨?_, below_app (HBL.out.alloc hszr _) (by simp; omega) (hown.alloc _) (Nat.le_refl _) hg2⟩
                rw [hBK.out, bv_append, ← HX.out]
                exact hown2
              clear hown hown2 hg2 hat2 HBL
              go_wp2_with fail
              go_roundw
              case rel => exact ⟨k + 1, by omega, by go_num, A2, c2, rfl, hD⟩
              case measure => simp [intOf]; omega
            · obtain rfl : 8 = k := by omega
              go_wp2_with fail
              go_ret
              refine ⟨A, c, rfl, ?_, ?_⟩
              · have := own_base hd.out.1 hgw
                rw [bytesK_all] at this
                exact this
              · exact ⟨hd.out.2.os.trans hd1.out.2.os, hd.out.2.tape.trans hd1.out.2.tape, hd.out.2.output.trans hd1.out.2.output, Nat.le_trans hd1.out.2.size hd.out.2.size, fun j hj hne => (hd.out.2.block j (by omega)).trans (hd1.out.2.block j hj hne)⟩
    · obtain ⟨k, rfl⟩ : ∃ k, gk = k + 1 := ⟨gk - 1, by omega⟩
      have h56 : (h1.take (List.replicate (N - (k + 1)) 0)).wait ≠ 56 := by rw [hw]; omega
      have hnx := Lib.hid (take_put h1 (N - (k + 1)) 0)
      rw [show N - (k + 1) + 1 = N - k by omega] at hnx
      have hne : ((((h1.take (List.replicate (N - (k + 1)) 0)).wait : Nat) : Int) != 56) = true := by simp; omega
      clear hw hN hW h56
      generalize (h1.take (List.replicate (N - (k + 1)) 0)).wait = ww at *
      go_wp2_with fail
      refine (put_lit g _ 0 _ rfl _ _ hOk.out hd.out.2.1 (HT.out.grown hd.out.2.2 HG.out) HG.out).mono ?_
      rintro e w2 ⟨rfl, hd2⟩
      have hD : Hid (N - k ≤ N ∧ HOk g (h1.take (List.replicate (N - k) 0)) (tot : Int) w w2) := by
        refine ⟨Nat.sub_le _ _, ?_, hd.out.2.2.trans hd2.out.2⟩
        rw [← hnx.out]; exact hd2.out.1
      clear hd hd2 c72
      go_wp2_with fail
      go_roundg k
      case rel => exact ⟨by omega, hD⟩
      case measure => omega
end Go.Proofs.YtcgcmfhidolohaaDoor.Sh
