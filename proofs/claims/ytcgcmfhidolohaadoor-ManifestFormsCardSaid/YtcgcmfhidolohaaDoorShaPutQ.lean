/- digest's put and take: by contract. -/
import Derived.Test.YtcgcmfhidolohaaDoorShaMixQ
namespace Go.Proofs.YtcgcmfhidolohaaDoor.Sh
open Go.RowKit
/-- hasher h, of tot bytes till now, lies in block g -/
def HIs (W : World) (g : Nat) (h : Sha.H) (tot : Int) : Prop := HAt W g h.st.get h.bl h.wait tot
def HOk (g : Nat) (h : Sha.H) (tot : Int) (w w' : World) : Prop := HIs w' g h tot ∧ w.grownBy w' (some g)
theorem HIs.setByte {W : World} {g : Nat} {f : Nat → Nat} {bl : List UInt8} {wait : Nat} {tot : Int} (h : HAt W g f bl wait tot) (hb : bl.length = 64) (k : Nat) (hk : k < 64) (x : UInt8) :
    HAt (W.setCell ⟨g, 8 + k, none⟩ (.int .u8 (x.toNat : Int))) g f (bl.set k x) wait tot := by
  refine h.store (by omega) fun i hi => ?_
  by_cases e : i = 8 + k
  · subst e; rw [if_pos rfl]; unfold hcell; rw [if_neg (by omega), if_pos (by omega), Nat.add_sub_cancel_left]
    congr 2
    rw [List.getD_eq_getElem?_getD, List.getElem?_set_self (by omega)]; rfl
  · rw [if_neg e]
    unfold hcell
    by_cases h8 : i < 8
    · rw [if_pos h8, if_pos h8]
    · rw [if_neg h8, if_neg h8]
      by_cases h9 : i < 72
      · rw [if_pos h9, if_pos h9, List.getD_eq_getElem?_getD, List.getD_eq_getElem?_getD, List.getElem?_set_ne (by omega)]
      · rw [if_neg h9, if_neg h9]
theorem HIs.setWait {W : World} {g : Nat} {f : Nat → Nat} {bl : List UInt8} {wait : Nat} {tot : Int} (h : HAt W g f bl wait tot) (k : Nat) :
    HAt (W.setCell ⟨g, 72, none⟩ (.int .i64 (k : Int))) g f bl k tot := by
  refine h.store (by omega) fun i hi => ?_
  by_cases e : i = 72
  · subst e; rfl
  · rw [if_neg e]
    unfold hcell
    rw [if_neg e, if_neg e]
theorem HIs.setTot {W : World} {g : Nat} {f : Nat → Nat} {bl : List UInt8} {wait : Nat} {tot : Int} (h : HAt W g f bl wait tot) (k : Int) :
    HAt (W.setCell ⟨g, 73, none⟩ (.int .u64 k)) g f bl wait k := by
  refine h.store (by omega) fun i hi => ?_
  by_cases e : i = 73
  · subst e; rfl
  · rw [if_neg e]
    unfold hcell
    by_cases h8 : i < 8
    · rw [if_pos h8, if_pos h8]
    · rw [if_neg h8, if_neg h8]
      by_cases h9 : i < 72
      · rw [if_pos h9, if_pos h9]
      · rw [if_neg h9, if_neg h9, if_pos (by omega), if_pos (by omega)]
theorem grown_drew {W W' : World} {r : Option Nat} (h : W.grownBy W' r) : W.grownBy W'.drew r := ⟨h.os, h.tape, h.output, h.size, h.block⟩
set_option maxRecDepth 100000 in
set_option maxHeartbeats 1600000 in
theorem put_any (g : Nat) (h : Sha.H) (x : UInt8) (tot : Int) (w : World) (hok : h.Ok) (hh : HIs w g h tot) (ht : Tab w) (hg : 2 ≤ g) :
    Calls Tryd.prog 46 #[.pointer (some ⟨g, 0, none⟩), .int .u8 (x.toNat : Int)] w fun e w' => e = .returned (.tuple #[]) ∧ Hid (HOk g (h.put x) tot w w') := by
  obtain ⟨s, bl, k⟩ := h
  obtain ⟨hs, hbl, hk⟩ := hok
  unfold HIs at hh
  simp only at hs hbl hk hh
  have HK : Hid ((Sha.H.put ⟨s, bl, k⟩ x) = if k + 1 = 64 then ⟨Sha.mix s (bl.set k x), bl.set k x, 0⟩ else ⟨s, bl.set k x, k + 1⟩) := rfl
  have c72 := hh.wt
  obtain ⟨vb, cb⟩ : ∃ v, w.cell? ⟨g, 8 + k, none⟩ = some v := ⟨_, hh.by_ hk⟩
  have f72 := hh.frozen 72
  have fb := hh.frozen (8 + k)
  have h1 := HIs.setByte hh hbl k hk x
  have HB := Lib.hid (show (bl.set k x).length = 64 by rw [List.length_set]; exact hbl)
  have g1 := grown_set w g (8 + k) (.int .u8 (x.toNat : Int))
  have HT := Lib.hid ht
  have HS := Lib.hid hs
  have HG := Lib.hid hg
  have hk64 : (k : Int) < 64 := by omega
  have H1 : Hid (HAt (w.setCell ⟨g, 8 + k, none⟩ (.int .u8 (x.toNat : Int))).drew g s.get (bl.set k x) k tot) := h1.keep rfl
  have G1 := Lib.hid (grown_drew g1)
  have HK1 := Lib.hid hk
  by_cases hfull : k + 1 = 64
  · obtain rfl : k = 63 := by omega
    rw [if_pos rfl] at HK
    have hw : ∃ w1, w1 = (w.setCell ⟨g, 8 + 63, none⟩ (.int .u8 (x.toNat : Int))).drew := ⟨_, rfl⟩
    clear h1 g1 hh ht hs hbl hg hfull hk
    generalize bl.set 63 x = B at *
    go_enter Tryd.func46, Tryd.ntmps46
    go_wp2_with fail
    go_region
    obtain ⟨w1, hw1⟩ := hw
    rw [← hw1] at H1 G1
    simp only [Nat.reduceAdd] at hw1
    rw [← hw1]
    clear hw1 c72 f72 cb fb
    have c72 := H1.out.wt
    have f72 := H1.out.frozen 72
    have H2 := Lib.hid (HIs.setWait H1.out 64)
    have G2 := Lib.hid (G1.out.trans (grown_set w1 g 72 (.int .i64 ((64 : Nat) : Int))))
    go_wp2_with fail
    refine (mix_any g s B 64 tot _ HS.out HB.out H2.out (HT.out.grown G2.out HG.out) HG.out).mono ?_
    rintro e w2 ⟨rfl, hd⟩
    have f72' := hd.out.1.frozen 72
    have c72' := hd.out.1.wt
    have H3 := Lib.hid (HIs.setWait hd.out.1 0)
    have G3 := Lib.hid ((G2.out.trans hd.out.2).trans (grown_set w2 g 72 (.int .i64 ((0 : Nat) : Int))))
    clear hd
    go_wp2_with fail
    go_end0
    refine ⟨rfl, ?_, G3.out⟩
    rw [HK.out]
    exact H3.out
  · rw [if_neg hfull] at HK
    have hk63 : (k : Int) < 63 := by omega
    have hne : ((k : Int) + 1 == 64) = false := by simp; omega
    clear h1 g1 hh ht hs hbl hg hfull hk
    generalize bl.set k x = B at *
    go_enter Tryd.func46, Tryd.ntmps46
    go_wp2_with fail
    go_region
    clear c72 f72 cb fb
    generalize (w.setCell ⟨g, 8 + k, none⟩ (.int .u8 (x.toNat : Int))).drew = w1 at *
    have c72 := H1.out.wt
    have f72 := H1.out.frozen 72
    have H2 := Lib.hid (HIs.setWait H1.out (k + 1))
    have G2 := Lib.hid (G1.out.trans (grown_set w1 g 72 (.int .i64 ((k + 1 : Nat) : Int))))
    go_wp2_with fail
    go_end0
    refine ⟨rfl, ?_, G2.out⟩
    rw [HK.out]
    exact H2.out
theorem take_snoc (l : List UInt8) (k : Nat) (h : k < l.length) : l.take (k + 1) = l.take k ++ [l.getD k 0] := by
  rw [List.take_succ_eq_append_getElem h, List.getD_eq_getElem?_getD, List.getElem?_eq_getElem h]; rfl
theorem put_take (h : Sha.H) (l : List UInt8) (k : Nat) (hk : k < l.length) : h.take (l.take (k + 1)) = (h.take (l.take k)).put (l.getD k 0) := by
  rw [take_snoc l k hk, Sha.take_append]; rfl
set_option maxRecDepth 100000 in
set_option maxHeartbeats 1600000 in
theorem take_any (g : Nat) (h : Sha.H) (tot B n cap : Nat) (A : Option Addr) (l : List UInt8) (w : World) (hok : h.Ok) (hh : HIs w g h (tot : Int)) (ht : Tab w) (hg : 2 ≤ g) (hl : Row w B A n (bv l)) (hB : B ≤ g) (hn : tot + n ≤ 4611686018427387904) :
    Calls Tryd.prog 42 #[.pointer (some ⟨g, 0, none⟩), .slice A n cap] w fun e w' => e = .returned (.tuple #[]) ∧ Hid (HOk g (h.take l) ((tot + n : Nat) : Int) w w') := by
  have HL := Lib.hid hl
  have HN := Lib.hid hl.blen
  have HT := Lib.hid ht
  have HO := Lib.hid hok
  have HG := Lib.hid hg
  have HBB := Lib.hid hB
  have hgw : B ≤ w.heap.size := by have := hh.lt; omega
  have hA0 : Hid (HOk g (h.take (l.take 0)) (tot : Int) w w) := ⟨hh, ⟨rfl, rfl, rfl, Nat.le_refl _, fun _ _ _ => rfl⟩⟩
  clear hh ht hok hl hg hB
  go_enter Tryd.func42, Tryd.ntmps42
  go_wp2_with fail
  go_loopw [8] (fun i wr => ∃ k : Nat, k ≤ n ∧ i = .int .i64 k ∧ Hid (HOk g (h.take (l.take k)) (tot : Int) w wr)) (fun i _ => n - (intOf i).toNat)
  case atStart => exact ⟨0, by omega, rfl, hA0⟩
  case round =>
    obtain ⟨k, hk, rfl, hd⟩ := hrel
    clear hA0
    by_cases hlt : k < n
    · obtain ⟨b, o, rfl, _, hkl, hcell⟩ := (HL.out.grown hd.out.2 hgw (by intro g' e; injection e with e; have := HBB.out; omega)).byteAt hlt
      have hx : l[k] = l.getD k 0 := by rw [List.getD_eq_getElem?_getD, List.getElem?_eq_getElem hkl]; rfl
      rw [hx] at hcell
      have hnx := Lib.hid (put_take h l k hkl)
      have hok' : Hid (h.take (l.take k)).Ok := Sha.take_ok _ _ HO.out
      generalize l.getD k 0 = x at *
      clear hx
      go_wp2_with fail
      refine (put_any g _ x _ _ hok'.out hd.out.1 (HT.out.grown hd.out.2 HG.out) HG.out).mono ?_
      rintro e w2 ⟨rfl, hd2⟩
      have hD : Hid (HOk g (h.take (l.take (k + 1))) (tot : Int) w w2) := by
        rw [hnx.out]; exact ⟨hd2.out.1, hd.out.2.trans hd2.out.2⟩
      clear hd hd2 hcell
      go_wp2_with fail
      go_roundw
      case rel => exact ⟨k + 1, by omega, by go_num, hD⟩
      case measure => simp [intOf]; omega
    · obtain rfl : n = k := by omega
      have hd1 := hd.out.1
      have hd2 := hd.out.2
      rw [List.take_of_length_le (by rw [HN.out]; omega)] at hd1
      have c73 := HAt.tt hd1
      have f73 := HAt.frozen hd1 73
      have hset := Lib.hid (HIs.setTot hd1 ((tot : Int) + (n : Int)))
      have hgr := Lib.hid (hd2.trans (grown_set wr g 73 (.int .u64 ((tot : Int) + (n : Int)))))
      have hb1 : (tot : Int) + (n : Int) ≤ 4611686018427387904 := by omega
      clear hd hd1 hd2
      go_wp2_with fail
      go_end0
      refine ⟨rfl, ?_, hgr.out⟩
      rw [show ((tot + n : Nat) : Int) = (tot : Int) + (n : Int) by omega]
      exact hset.out
end Go.Proofs.YtcgcmfhidolohaaDoor.Sh
