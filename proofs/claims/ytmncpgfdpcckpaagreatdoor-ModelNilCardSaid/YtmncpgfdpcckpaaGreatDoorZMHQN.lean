/- packet.number, Parse, Fits: by contracts, beside spread.May's and code.Of's. -/
import Derived.Laws.ResultCell
import Derived.Laws.Rows
import Derived.Deep.RegionWith
import Derived.BigQuiet
import Derived.Deep.QuietTactic
import Derived.Test.YtmncpgfdpcckpaaGreatDoorZSQN
import Derived.Test.YtmncpgfdpcckpaaGreatDoorZZFQN
import Derived.Test.YtmncpgfdpcckpaaGreatDoorZAQN
import Derived.Test.YtmncpgfdpcckpaaGreatDoorMoFQN
import Derived.Test.YtmncpgfdpcckpaaGreatDoorZMGQN
import Derived.Test.YtmncpgfdpcckpaaGreatDoorZTQN
set_option maxRecDepth 100000
namespace Go.Proofs.YtmncpgfdpcckpaaGreatDoor.Pk
open Go.RowKit
set_option maxHeartbeats 400000 in
theorem pnumber_any (B cap : Nat) (A : Option Addr) (l : List UInt8) (w : World) (hl : Row w B A 4 (bv l)) :
  Calls Tryz.prog 72 #[.slice A 4 cap] w fun e w' => e = .returned (.int .u32 (CrcM.number l : Nat)) ∧ w = w' := by
 have HS : Hid (isNum 0 0 l) := ⟨rfl, by decide⟩
 have HN := Lib.hid hl.blen
 go_enter Tryz.func72, Tryz.ntmps72
 go_wp2
 go_loop [3, 8] (fun v i => ∃ (k x : Nat), k ≤ 4 ∧ Hid (isNum k x l) ∧ i = .int .i64 k ∧ v = .int .u32 x) (fun _ i => 4 - (intOf i).toNat)
 case atStart => exact ⟨0, 0, by omega, HS, rfl, rfl⟩
 case round =>
  obtain ⟨k, x, hk, hx, rfl, rfl⟩ := hrel
  by_cases hlt : k < 4
  ·obtain ⟨b, o, rfl, _, hkl, hcell⟩ := hl.byteAt hlt
   obtain ⟨y, hy, hr⟩ := isNum_next hx.out hkl hlt
   have HY := Lib.hid hy
   clear hy
   have hb : (l[k].toNat : Int) ≤ 255 := by have := CrcM.b_lt l[k]; omega
   go_wp2
   go_round
   case rel => exact ⟨k + 1, y, by omega, hr, by go_num, HY.out⟩
   case measure => simp [intOf]; omega
  ·have : k = 4 := by omega
   subst this
   go_wp2
   go_ret
   refine ⟨?_, rfl⟩
   have e := hx.out.1
   rw [List.take_of_length_le (by rw [HN.out]; omega)] at e
   rw [e]; rfl
theorem store3 {w : World} {g : Nat} {a b c : Value} {t : TypeId} (h : w.heap[g]? = some (.cells #[a, b, c] t (0, 0))) (x y z : Value) : (((w.setCell ⟨g, 0, none⟩ x).setCell ⟨g, 1, none⟩ y).setCell ⟨g, 2, none⟩ z).heap[g]? = some (.cells #[x, y, z] t (0, 0)) :=
 heap_setCell_same _ g 2 _ t z (heap_setCell_same _ g 1 _ t y (heap_setCell_same w g 0 _ t x h))
def ParseOk (l : List UInt8) (w : World) (e : Ending) (w' : World) : Prop :=
 ∃ A n cap, e = .returned (.tuple #[.agg #[.int .u32 (CrcM.number (l.take 4) : Nat), .int .u32 (CrcM.number ((l.drop 4).take 4) : Nat), .slice A n cap], .int .i64 0]) ∧ Hid (n + 8 = l.length) ∧ w'.ownsRow w.heap.size 5 1 (.slice A n cap) n (bv (l.drop 8)) ∧ Below w.heap.size w w'
set_option maxHeartbeats 400000 in
theorem parse_short (n cap : Nat) (A : Option Addr) (w : World) (h : n ≤ 8) :
  Calls Tryz.prog 44 #[.slice A n cap] w (fun e w' => e = .returned (.tuple #[.agg #[.int .u32 0, .int .u32 0, .slice none 0 0], .int .i64 2]) ∧ Below w.heap.size w w') := by
 go_enter Tryz.func44, Tryz.ntmps44
 go_wp2
 refine bodyPost_ret (results_cell_tmp_row rfl _ _ w.heap.size _ _ (0, 0) _ rfl (heap_alloc_new _ _) Tryz.underlying81 rfl (by kernel_rfl)) rfl ?_
 exact ⟨rfl, (Below.refl _ _).alloc (Nat.le_refl _) _⟩
set_option maxHeartbeats 400000 in
theorem parse_long (n cap : Nat) (A : Option Addr) (w : World) (h : 24 < n) :
  Calls Tryz.prog 44 #[.slice A n cap] w (fun e w' => e = .returned (.tuple #[.agg #[.int .u32 0, .int .u32 0, .slice none 0 0], .int .i64 3]) ∧ Below w.heap.size w w') := by
 go_enter Tryz.func44, Tryz.ntmps44
 go_wp2
 refine bodyPost_ret (results_cell_tmp_row rfl _ _ w.heap.size _ _ (0, 0) _ rfl (heap_alloc_new _ _) Tryz.underlying81 rfl (by kernel_rfl)) rfl ?_
 exact ⟨rfl, (Below.refl _ _).alloc (Nat.le_refl _) _⟩
set_option maxHeartbeats 400000 in
theorem parse_ok (B n cap : Nat) (A : Option Addr) (l : List UInt8) (w : World) (hl : Row w B A n (bv l)) (h8 : 8 < n) (h24 : n ≤ 24) (hn : n ≤ cap) (hcap : cap ≤ 9223372036854775807) (hB : B ≤ w.heap.size) :
  Calls Tryz.prog 44 #[.slice A n cap] w (ParseOk l w) := by
 obtain ⟨k, rfl⟩ : ∃ k, n = k + 8 := ⟨n - 8, by omega⟩
 have HL := Lib.hid hl.blen
 have h4c : (4 : Int) ≤ cap := by omega
 have h8c : (8 : Int) ≤ cap := by omega
 have h8k : (8 : Int) ≤ (k : Int) + 8 := by omega
 have hkc : (k : Int) + 8 ≤ cap := by omega
 have hr1 : Row w B A 4 (bv (l.take 4)) := by rw [← bv_take]; exact hl.head (by omega)
 have hr2 : Row w B (A.map fun x => x.add 4) 4 (bv ((l.drop 4).take 4)) := by rw [← bv_take, ← bv_drop]; exact hl.cut (by omega)
 have hr3 : Row w B (A.map fun x => x.add 8) k (bv (l.drop 8)) := by
  have := hl.cut (k := 8) (m := k) (by omega)
  rwa [List.take_of_length_le (by rw [List.length_drop, hl.1]; omega), bv_drop] at this
 go_enter Tryz.func44, Tryz.ntmps44
 go_wp2_with fail
 have hb0 : Below w.heap.size w (w.alloc (.cells #[.int .u32 0, .int .u32 0, .slice none 0 0] 81)) := (Below.refl _ _).alloc (Nat.le_refl _) _
 go_region_with (first
  | (go_at_call 72; (with_reducible refine (pnumber_any B cap A (l.take 4) _ ?_).mono ?_); exact (hr1.below (hb0.drew.mono hB)); rintro e w' ⟨rfl, rfl⟩)
  | (go_at_call 72; refine (pnumber_any B _ _ ((l.drop 4).take 4) _ ?_).mono ?_; exact (hr2.below (hb0.drew.mono hB)); rintro e w' ⟨rfl, rfl⟩)
  | (go_at_call 27; refine (clone_any B k _ _ (l.drop 8) _ (hr3.below (hb0.drew.mono hB)) (by omega) (by simp; omega)).mono ?_; rintro e w3 ⟨A3, n3, c3, rfl, hn3, hown3, hb3⟩; have hz := (hb3.block w.heap.size (by simp)).trans (heap_alloc_new w (.cells #[.int .u32 0, .int .u32 0, .slice none 0 0] 81)); obtain ⟨y0, y1, y2⟩ := box3 hz; have z0 := frozen_of_row w3 w.heap.size 0 _ _ hz; have z1 := frozen_of_row w3 w.heap.size 1 _ _ hz; have z2 := frozen_of_row w3 w.heap.size 2 _ _ hz; have HZ := Lib.hid hz; clear hz))
 go_wp2
 have hrow := store3 HZ.out (.int .u32 (CrcM.number (l.take 4) : Nat)) (.int .u32 (CrcM.number ((l.drop 4).take 4) : Nat)) (.slice A3 n3 c3)
 refine bodyPost_ret (results_cell_tmp_row rfl _ _ w.heap.size _ _ (0, 0) _ rfl hrow Tryz.underlying81 rfl (by kernel_rfl)) rfl ?_
 have hs : (w.alloc (.cells #[.int .u32 0, .int .u32 0, .slice none 0 0] 81)).drew.heap.size = w.heap.size + 1 := by show (w.alloc _).heap.size = _; simp
 rw [hs] at hown3
 refine ⟨A3, n3, c3, rfl, ?_, ?_, ?_⟩
 ·show n3 + 8 = l.length
  rw [hn3.out, List.length_drop, HL.out]; omega
 ·exact own_base (ownsRow_setCell_below (ownsRow_setCell_below (ownsRow_setCell_below hown3 (Nat.lt_succ_self _) _) (Nat.lt_succ_self _) _) (Nat.lt_succ_self _) _) (by omega)
 ·exact (((hb0.drew.trans (hb3.mono (by rw [hs]; omega))).setCell (Nat.le_refl _) _).setCell (Nat.le_refl _) _).setCell (Nat.le_refl _) _
theorem boxB (w : World) (o o' : Obj) : ((w.alloc o).alloc o').heap[w.heap.size + 1]? = some o' := by
 have := heap_alloc_new (w.alloc o) o'
 simpa using this
theorem boxA (w : World) (o o' : Obj) : ((w.alloc o).alloc o').heap[w.heap.size]? = some o := by
 have h := ((Below.refl (w.heap.size + 1) (w.alloc o)).alloc (by simp) o').block w.heap.size (by omega)
 exact h.trans (heap_alloc_new w o)
theorem box4 {w : World} {g : Nat} {x y z u : Value} {t : TypeId} (h : w.heap[g]? = some (.cells #[x, y, z, u] t (0, 0))) : w.cell? ⟨g, 0, none⟩ = some x ∧ w.cell? ⟨g, 1, none⟩ = some y ∧ w.cell? ⟨g, 2, none⟩ = some z ∧ w.cell? ⟨g, 3, none⟩ = some u := by
 refine ⟨?_, ?_, ?_, ?_⟩ <;> rw [cell_of_row w g _ _ t (0, 0) h] <;> rfl
def fitsC (s s' : Nat) (n : Nat) (K P Z : Int) : Int := if mayB K P Z = false then 1 else if s ≠ s' then 7 else if (n : Int) ≠ Z then 3 else 0
set_option maxHeartbeats 400000 in
theorem fits_any (s i n c s' : Nat) (A : Option Addr) (K P Z : Int) (w : World) :
  Calls Tryz.prog 45 #[.agg #[.int .u32 (s : Int), .int .u32 (i : Int), .slice A n c], .agg #[.int .u32 (s' : Int), .int .i64 K, .int .i64 P, .int .i64 Z]] w (fun e w' => ∃ x, e = .returned (.int .i64 x) ∧ Hid (x = fitsC s s' n K P Z) ∧ Below w.heap.size w w') := by
 have hb0 : Below w.heap.size w ((w.alloc (.cells #[.int .u32 (s : Int), .int .u32 (i : Int), .slice A n c] 81)).alloc (.cells #[.int .u32 (s' : Int), .int .i64 K, .int .i64 P, .int .i64 Z] 76)) := ((Below.refl _ _).alloc (Nat.le_refl _) _).alloc (by simp) _
 have hx1 := boxA w (.cells #[.int .u32 (s : Int), .int .u32 (i : Int), .slice A n c] 81) (.cells #[.int .u32 (s' : Int), .int .i64 K, .int .i64 P, .int .i64 Z] 76)
 have hx2 := boxB w (.cells #[.int .u32 (s : Int), .int .u32 (i : Int), .slice A n c] 81) (.cells #[.int .u32 (s' : Int), .int .i64 K, .int .i64 P, .int .i64 Z] 76)
 have hz0 : ((w.alloc (.cells #[.int .u32 (s : Int), .int .u32 (i : Int), .slice A n c] 81)).alloc (.cells #[.int .u32 (s' : Int), .int .i64 K, .int .i64 P, .int .i64 Z] 76)).heap.size = w.heap.size + 2 := by simp
 cases hm : mayB K P Z with
 | false =>
  have HM := Lib.hid hm
  go_enter Tryz.func45, Tryz.ntmps45
  go_wp2_with fail
  refine (spMay_any _ K P Z _).mono ?_
  rintro e w1 ⟨rfl, hb1⟩
  go_wp2
  go_ret
  exact ⟨_, rfl, (by show (1 : Int) = _; unfold fitsC; rw [if_pos HM.out]), hb0.trans (hb1.mono (by omega))⟩
 | true =>
  have HM := Lib.hid hm
  by_cases h1 : s = s'
  ·subst h1
   by_cases h2 : (n : Int) = Z
   ·subst h2
    go_enter Tryz.func45, Tryz.ntmps45
    go_wp2_with fail
    refine (spMay_any _ K P n _).mono ?_
    rintro e w1 ⟨rfl, hb1⟩
    obtain ⟨y0, y1, y2⟩ := box3 ((hb1.block w.heap.size (by omega)).trans hx1)
    obtain ⟨u0, u1, u2, u3⟩ := box4 ((hb1.block (w.heap.size + 1) (by omega)).trans hx2)
    go_wp2
    go_ret
    exact ⟨_, rfl, (by show (0 : Int) = _; unfold fitsC; rw [if_neg (by rw [HM.out]; decide), if_neg (by simp), if_neg (by simp)]), hb0.trans (hb1.mono (by omega))⟩
   ·have HN := Lib.hid h2
    have h2' : ((n : Int) == Z) = false := by simp [h2]
    go_enter Tryz.func45, Tryz.ntmps45
    go_wp2_with fail
    refine (spMay_any _ K P Z _).mono ?_
    rintro e w1 ⟨rfl, hb1⟩
    obtain ⟨y0, y1, y2⟩ := box3 ((hb1.block w.heap.size (by omega)).trans hx1)
    obtain ⟨u0, u1, u2, u3⟩ := box4 ((hb1.block (w.heap.size + 1) (by omega)).trans hx2)
    go_wp2
    go_ret
    exact ⟨_, rfl, (by show (3 : Int) = _; unfold fitsC; rw [if_neg (by rw [HM.out]; decide), if_neg (by simp), if_pos HN.out]), hb0.trans (hb1.mono (by omega))⟩
  ·have h1' : ¬ (s : Int) = s' := by omega
   have HN := Lib.hid h1
   clear h1
   go_enter Tryz.func45, Tryz.ntmps45
   go_wp2_with fail
   refine (spMay_any _ K P Z _).mono ?_
   rintro e w1 ⟨rfl, hb1⟩
   obtain ⟨y0, y1, y2⟩ := box3 ((hb1.block w.heap.size (by omega)).trans hx1)
   obtain ⟨u0, u1, u2, u3⟩ := box4 ((hb1.block (w.heap.size + 1) (by omega)).trans hx2)
   go_wp2
   go_ret
   exact ⟨_, rfl, (by show (7 : Int) = _; unfold fitsC; rw [if_neg (by rw [HM.out]; decide), if_pos HN.out]), hb0.trans (hb1.mono (by omega))⟩
end Go.Proofs.YtmncpgfdpcckpaaGreatDoor.Pk
namespace Go.Proofs.YtmncpgfdpcckpaaGreatDoor.Mo
open Go.RowKit
open VecM RdM Vc Sp Pc El Cd Dc
theorem on_man {L : LSt} (hm : L.may = true) (ho : L.on = true) : L.m.may = true := by
 unfold LSt.may mayB2 at hm
 rw [ho] at hm
 simp only [Bool.and_eq_true, if_true] at hm
 exact hm.1.2
set_option maxHeartbeats 6400000 in
theorem sym_any {g n c : Nat} {A : Option Addr} {q : MoD} {b : List UInt8} {F : Nat → Prop} {w : World} (h : IsMo g q w F) (ok : MoOk q n) (hn : n ≤ 1000) (hT : ∀ W, Fr w W F → Sh.Tab W ∧ DTab W) (hm : Row w w.heap.size A b.length (bv b)) (hc : b.length ≤ c) (hc2 : c ≤ 9223372036854775807) :
  Calls Tryz.prog 22 #[.pointer (some ⟨g, 0, none⟩), .slice A b.length c] w (MoTo g (q.sym b).1 (q.sym b).2 F w) := by
 have HIS := Lib.hid h
 obtain ⟨Q, hQ⟩ : ∃ Q, q.sym b = Q := ⟨_, rfl⟩
 rw [hQ]
 unfold MoD.sym at hQ
 by_cases h8 : b.length ≤ 8
 ·rw [if_pos h8] at hQ
  subst hQ
  have HP := Lib.hid (Pk.parse_short b.length c A w h8)
  generalize b.length = m at *
  clear ok hn hT hm hc hc2 h8 h
  go_enter Tryz.func22, Tryz.ntmps22
  go_wp2_with fail
  refine HP.out.mono ?_
  rintro e w1 ⟨rfl, hb1⟩
  have HB1 := Lib.hid hb1
  clear hb1 HP
  go_wp2_with fail
  go_ret
  exact MoTo.same HIS.out (HB1.out.alloc HB1.out.size _)
 rw [if_neg h8] at hQ
 by_cases h24 : 24 < b.length
 ·rw [if_pos h24] at hQ
  subst hQ
  have HP := Lib.hid (Pk.parse_long b.length c A w h24)
  generalize b.length = m at *
  clear ok hn hT hm hc hc2 h8 h24 h
  go_enter Tryz.func22, Tryz.ntmps22
  go_wp2_with fail
  refine HP.out.mono ?_
  rintro e w1 ⟨rfl, hb1⟩
  have HB1 := Lib.hid hb1
  clear hb1 HP
  go_wp2_with fail
  go_ret
  exact MoTo.same HIS.out (HB1.out.alloc HB1.out.size _)
 rw [if_neg h24] at hQ
 have HP := Lib.hid (Pk.parse_ok w.heap.size b.length c A b w hm (by omega) (by omega) hc hc2 (Nat.le_refl _))
 unfold Pk.ParseOk at HP
 have hid : CrcM.number ((b.drop 4).take 4) < 4294967296 := num_lt4 (by rw [List.length_take, List.length_drop]; omega)
 obtain ⟨sid, hsid⟩ : ∃ k, CrcM.number (b.take 4) = k := ⟨_, rfl⟩
 obtain ⟨id, hidd⟩ : ∃ k, CrcM.number ((b.drop 4).take 4) = k := ⟨_, rfl⟩
 rw [hsid, hidd] at HP
 rw [hsid] at hQ
 rw [hidd] at hid hQ
 have hbl : (b.drop 8).length = b.length - 8 := List.length_drop
 have HBL : Hid ((b.drop 8).length = b.length - 8 ∧ ¬ b.length ≤ 8) := Lib.hid ⟨hbl, h8⟩
 have HID := Lib.hid hid
 have HQ := Lib.hid hQ
 have HTT := Lib.hid hT
 have HOK := Lib.hid ok
 have HN := Lib.hid hn
 have HMAY := Lib.hid ok.may
 obtain ⟨ld, hld⟩ : ∃ l, b.drop 8 = l := ⟨_, rfl⟩
 rw [hld] at HP HBL HQ
 obtain ⟨bl, hbll⟩ : ∃ k, b.length = k := ⟨_, rfl⟩
 rw [hbll] at HP HBL HQ ⊢
 obtain ⟨Ak, ck, cs, A0, c0, A1', c1', pd, G, Fd, H⟩ := h
 have HH := Lib.hid H
 clear ok hn hT hm hc hc2 h8 h24 hsid hidd hid hbl hQ hld hbll H
 go_enter Tryz.func22, Tryz.ntmps22
 go_wp2_with fail
 refine HP.out.mono ?_
 rintro e w1 ⟨A1, m1, c1, rfl, hm1, ho1, hb1⟩
 have HO1 := Lib.hid (Row.of_own ho1)
 have HM1 := Lib.hid hm1.out
 have HB1 := Lib.hid hb1
 clear hm1 ho1 hb1 HP
 go_upto_region 4 with fail
 have HX2 := Lib.hid (heap_alloc_new w1 (.cells #[.int .u32 (sid : Int), .int .u32 (id : Int), .slice A1 m1 c1] 81))
 have HB2 : Hid (Below w.heap.size w (w1.alloc (.cells #[.int .u32 (sid : Int), .int .u32 (id : Int), .slice A1 m1 c1] 81))) := Lib.hid (HB1.out.alloc HB1.out.size _)
 have HL2 : Hid (w1.heap.size < (w1.alloc (.cells #[.int .u32 (sid : Int), .int .u32 (id : Int), .slice A1 m1 c1] 81)).heap.size) := Lib.hid (by simp)
 have HR2 : Hid (Row (w1.alloc (.cells #[.int .u32 (sid : Int), .int .u32 (id : Int), .slice A1 m1 c1] 81)) w1.heap.size A1 m1 (bv ld)) := Lib.hid (HO1.out.below ((Below.refl _ _).alloc (Nat.le_refl _) _))
 generalize w1.alloc (.cells #[.int .u32 (sid : Int), .int .u32 (id : Int), .slice A1 m1 c1] 81) = w2 at *
 clear HO1 HB1
 obtain ⟨con, _⟩ := (HH.out.below HB2.out).bx.now (HH.out.below HB2.out).st
 cases hon : q.L.on with
 | false =>
  rw [hon] at con
  have hq := HQ.out
  rw [if_pos hon] at hq
  subst hq
  clear hon
  go_wp2_with fail
  go_ret
  exact MoTo.same HIS.out HB2.out
 | true =>
 rw [hon] at con
 have hq := HQ.out
 rw [if_neg (by rw [hon]; decide)] at hq
 have HQ1 := Lib.hid hq
 obtain ⟨htr, D, hqd, hde⟩ := HOK.out.on hon
 have HTR := Lib.hid htr
 have HQD := Lib.hid hqd
 have HDE := Lib.hid hde
 have HON := Lib.hid hon
 have hmm := on_man HMAY.out hon
 have HMM := Lib.hid hmm
 have HOB : Hid (ofB q.L.m.l q.L.m.z q.L.m.p = true) := Lib.hid (by have h := hmm; unfold LMan.may manB at h; rw [Bool.and_eq_true] at h; exact h.1)
 obtain ⟨_, Ah, ch, c12, c13, c14, c15, c16, c17⟩ := (HH.out.below HB2.out).bx.now (HH.out.below HB2.out).st
 have HOF := Lib.hid (of_all q.L.m.s q.L.m.v q.L.m.l q.L.m.z q.L.m.p Ah q.L.m.h.length ch w2)
 obtain ⟨hl32, hh32⟩ : ∃ k, q.L.m.h.length = k := ⟨_, rfl⟩
 rw [hh32] at c17 HOF
 obtain ⟨L, hL⟩ : ∃ L, q.L = L := ⟨_, rfl⟩
 clear hq hqd hde hon hmm htr HQ HOK hh32 hL
 go_wp2_with fail
 refine HOF.out.mono ?_
 rintro e w3 ⟨s', K', P', Z', rfl, hb3, hv⟩
 obtain ⟨rfl, rfl, rfl, rfl⟩ := hv HOB.out
 rw [HOB.out]
 have HB3 := Lib.hid hb3
 clear hv hb3 HOF c12 c13 c14 c15 c16 c17 con
 go_upto_region 7 with fail
 have HX4 := Lib.hid (heap_alloc_new w3 (.cells #[.int .u32 (q.L.m.s : Int), .int .i64 ((BlkM.count q.L.m.l q.L.m.z : Nat) : Int), .int .i64 q.L.m.p, .int .i64 q.L.m.z] 76))
 have HB24 : Hid (Below w2.heap.size w2 (w3.alloc (.cells #[.int .u32 (q.L.m.s : Int), .int .i64 ((BlkM.count q.L.m.l q.L.m.z : Nat) : Int), .int .i64 q.L.m.p, .int .i64 q.L.m.z] 76))) := Lib.hid (HB3.out.alloc HB3.out.size _)
 have HL4 : Hid (w3.heap.size < (w3.alloc (.cells #[.int .u32 (q.L.m.s : Int), .int .i64 ((BlkM.count q.L.m.l q.L.m.z : Nat) : Int), .int .i64 q.L.m.p, .int .i64 q.L.m.z] 76)).heap.size) := Lib.hid (by simp)
 generalize w3.alloc (.cells #[.int .u32 (q.L.m.s : Int), .int .i64 ((BlkM.count q.L.m.l q.L.m.z : Nat) : Int), .int .i64 q.L.m.p, .int .i64 q.L.m.z] 76) = w4 at *
 clear HB3
 have HB4 : Hid (Below w.heap.size w w4) := Lib.hid (HB2.out.trans (HB24.out.mono HB2.out.size))
 have HXS : Hid (w4.heap[w1.heap.size]? = some (.cells #[.int .u32 (sid : Int), .int .u32 (id : Int), .slice A1 m1 c1] 81 (0, 0))) := Lib.hid ((HB24.out.block _ HL2.out).trans HX2.out)
 obtain ⟨y0, y1, y2⟩ := box3 HXS.out
 obtain ⟨u0, u1, u2, u3⟩ := box4 HX4.out
 have HFT := Lib.hid (Pk.fits_any sid id m1 c1 q.L.m.s A1 ((BlkM.count q.L.m.l q.L.m.z : Nat) : Int) q.L.m.p q.L.m.z w4)
 obtain ⟨X, hX⟩ : ∃ X, Pk.fitsC sid q.L.m.s m1 ((BlkM.count q.L.m.l q.L.m.z : Nat) : Int) q.L.m.p q.L.m.z = X := ⟨_, rfl⟩
 rw [hX] at HFT
 have hXv : X = if sid ≠ q.L.m.s then 7 else if (m1 : Int) ≠ q.L.m.z then 3 else 0 := by
  rw [← hX]
  unfold Pk.fitsC
  rw [if_neg (by have := HOB.out; unfold ofB at this; rw [this]; decide)]
 have HXV := Lib.hid hXv
 have HML : Hid (((bl - 8 : Nat) : Int) = (m1 : Int)) := Lib.hid (by have := HM1.out; have := HBL.out; omega)
 clear hX hXv HX2 HX4
 go_wp2_with fail
 refine HFT.out.mono ?_
 rintro e w5 ⟨X', rfl, hx', hb5⟩
 obtain rfl : X' = X := hx'.out
 have HB5 : Hid (Below w4.heap.size w4 w5) := Lib.hid hb5
 have HBW5 : Hid (Below w.heap.size w w5) := Lib.hid (HB4.out.trans (hb5.mono HB4.out.size))
 clear hx' hb5 HFT y0 y1 y2 u0 u1 u2 u3
 by_cases hX0 : X' = 0
 case neg =>
  have hne : (X' != 0) = true := by simpa using hX0
  have hq := HQ1.out
  have hxv := HXV.out
  have e : Q = (q, X') := by
   rw [← hq, hxv]
   by_cases e1 : sid ≠ q.L.m.s
   ·rw [if_pos e1, if_pos e1]
   ·rw [if_neg e1, if_neg e1]
    by_cases e2 : (m1 : Int) ≠ q.L.m.z
    ·rw [HML.out, if_pos e2, if_pos e2]
    ·rw [hxv, if_neg e1, if_neg e2] at hX0
     exact absurd rfl hX0
  subst e
  clear hX0 hq hxv
  go_wp2_with fail
  go_ret
  exact MoTo.same HIS.out HBW5.out
 subst hX0
 have hxv := HXV.out
 have e1 : ¬ sid ≠ q.L.m.s := fun e => by rw [if_pos e] at hxv; exact absurd hxv (by decide)
 have e2 : ¬ (m1 : Int) ≠ q.L.m.z := fun e => by rw [if_neg e1, if_pos e] at hxv; exact absurd hxv (by decide)
 have hq := HQ1.out
 rw [if_neg e1, HML.out, if_neg e2, HQD.out] at hq
 have HQ2 : Hid (q.symD D id ld = Q) := Lib.hid hq
 have HMZ : Hid (m1 = D.Z) := Lib.hid (by have := HDE.out.zz; omega)
 have HLD : Hid (ld.length = D.Z) := Lib.hid (by have := HMZ.out; have := HM1.out; have := HBL.out; omega)
 clear hq hxv e1 e2 HQ1 HXV HML
 have HXS5 : Hid (w5.drew.heap[w1.heap.size]? = some (.cells #[.int .u32 (sid : Int), .int .u32 (id : Int), .slice A1 m1 c1] 81 (0, 0))) := Lib.hid ((HB5.out.block _ (Array.getElem?_eq_some_iff.1 HXS.out).1).trans HXS.out)
 obtain ⟨y0, y1, y2⟩ := box3 HXS5.out
 have HBD : Hid (Below w.heap.size w w5.drew) := Lib.hid HBW5.out.drew
 have HRD : Hid (Row w5.drew w5.drew.heap.size A1 m1 (bv ld)) := Lib.hid (by
  have hbb : Below w2.heap.size w2 w5.drew := (HB24.out.trans (HB5.out.mono HB24.out.size)).drew
  exact (HR2.out.below (hbb.mono (Nat.le_of_lt HL2.out))).more (Nat.le_trans (Nat.le_of_lt HL2.out) hbb.size))
 have H6 := Lib.hid (HH.out.below HBD.out)
 have cp0 := H6.out.bx.p
 have hd6 := H6.out.d
 rw [HQD.out] at hd6
 obtain ⟨gd, rfl, hdec⟩ := hd6
 have HTK := Lib.hid (take_any Fd gd D.s D.K D.P D.Z D.t id c1 A1 ld D.M w5.drew hdec HDE.out.inv HDE.out.s32 HID.out HDE.out.K HDE.out.P HDE.out.Z HLD.out (by rw [← HMZ.out]; exact HRD.out) (HTT.out _ (Fr.of_below HBD.out)).2 (by have := HDE.out.t; have := HN.out; omega))
 rw [← HMZ.out] at HTK
 clear HXS HXS5 hdec HRD HR2
 go_upto_region 10 with fail
 refine wp_region_still_tail 8 (by kernel_rfl) (by kernel_rfl) ?_
 simp only [List.take_succ_cons, List.take_zero, List.drop_succ_cons, List.drop_zero]
 repeat still_step
 refine wpStill_nil ?_
 change wpList _ _ _ _ _ w5.drew
 clear cp0 y0 y1 y2
 generalize w5.drew = w6 at *
 go_wp2_with fail
 refine HTK.out.mono ?_
 rintro e w7 ⟨rfl, hd7, hf7⟩
 have HF7 := Lib.hid hf7.out
 have hd7' := hd7.out
 cases hsy : D.says id ld with
 | false =>
  have hq := HQ2.out
  unfold MoD.symD at hq
  rw [if_neg (by rw [hsy]; decide)] at hq
  subst hq
  have hdd : decIs w7 (fun b => Fd b ∨ (w6.heap.size ≤ b ∧ b < w7.heap.size)) (.pointer (some ⟨gd, 0, none⟩)) (some D) := by
   have e := take_old hsy
   rw [HMZ.out] at hd7'
   rw [← e]
   exact ⟨gd, rfl, hd7'⟩
  have H7 := Lib.hid (H6.out.dec HF7.out hdd)
  have hsy' : (addMx (D.K + D.P) D.M (spX D.s D.K D.P id) ld).2 = false := hsy
  rw [hsy']
  clear hsy hsy' hd7 hd7' hf7 hdd HTK
  go_wp2_with fail
  go_ret
  have hqq : ({ q with d := some D } : MoD) = q := by rw [← HQD.out]
  have h7 := H7.out
  rw [hqq] at h7
  have z6 := HBD.out.size
  refine ⟨rfl, Lib.hid (IsMo.more (F := fun b => F b ∨ (w6.heap.size ≤ b ∧ b < w7.heap.size)) ⟨Ak, ck, cs, A0, c0, A1', c1', _, G, _, h7⟩ fun b hb => ?_), Lib.hid ((Fr.of_below HBD.out).trans (HF7.out.more fun b _ hb => (HH.out.hF b hb).1) (fun _ _ h => h))⟩
  rcases hb with hb | hb
  ·exact .inl hb
  ·exact .inr ⟨by omega, hb.2⟩
 | true =>
 have HSY := Lib.hid hsy
 have hdd : decIs w7 (fun b => Fd b ∨ (w6.heap.size ≤ b ∧ b < w7.heap.size)) (.pointer (some ⟨gd, 0, none⟩)) (some (D.take id ld)) := by
  rw [HMZ.out] at hd7'
  exact ⟨gd, rfl, hd7'⟩
 have H7 := Lib.hid (H6.out.dec HF7.out hdd)
 have hsy' : (addMx (D.K + D.P) D.M (spX D.s D.K D.P id) ld).2 = true := hsy
 rw [hsy']
 have HDT : Hid (DeOk (D.take id ld) q.L.m (n + 1)) := Lib.hid (take_ok HDE.out HLD.out)
 have HF8 : Hid (Fr w w7 F) := Lib.hid ((Fr.of_below HBD.out).trans (HF7.out.more fun b _ hb => (HH.out.hF b hb).1) (fun _ _ h => h))
 have cp := H7.out.bx.p
 have hd8 := H7.out.d
 obtain ⟨gd', egd, hdec8⟩ := hd8
 injection egd with egd
 injection egd with egd
 injection egd with egd
 subst egd
 obtain ⟨D2, hD2⟩ : ∃ D2, D.take id ld = D2 := ⟨_, rfl⟩
 have hq := HQ2.out
 unfold MoD.symD at hq
 rw [if_pos HSY.out, hD2] at hq
 rw [hD2] at HDT H7 hdec8
 have HQ3 : Hid ((if rankM D2.M = D2.K + D2.P then q.fin D2 else ({ q with d := some D2 }, 0)) = Q) := Lib.hid (by rw [← hq, ← hD2]; rfl)
 obtain ⟨dn, hdn⟩ : ∃ t : Int, (D2.K : Int) + (D2.P : Int) - (rankM D2.M : Int) = t := ⟨_, rfl⟩
 have HNE := Lib.hid (needs_any _ gd D2.s D2.K D2.P D2.Z D2.t D2.M w7 hdec8 HDT.out.inv HDT.out.K HDT.out.P HDT.out.Z)
 rw [hdn] at HNE
 have hrl := rank_le HDT.out.inv
 have HDN := Lib.hid hdn
 have HRL := Lib.hid hrl
 clear hsy hsy' hd7 hd7' hf7 hdd HTK hq hD2 hdec8 hdn hrl
 go_upto_region 12 with fail
 by_cases hfu : rankM D2.M = D2.K + D2.P
 ·have hz0 : dn = 0 := by have := HDN.out; omega
  subst hz0
  have hq3 := HQ3.out
  rw [if_pos hfu] at hq3
  subst hq3
  have HFU := Lib.hid hfu
  clear hfu
  go_wp2_with fail
  refine HNE.out.mono ?_
  rintro e w8 ⟨rfl, hb8⟩
  have HB8 := Lib.hid hb8.out
  clear hb8 HNE cp
  have hlen : 1 ≤ q.L.m.l ∧ q.L.m.l ≤ 512 := by
   obtain ⟨_, _, _, e1, _, _, b1, b2, _, _, _, _⟩ := man_bounds HMM.out
   omega
  have HFI := Lib.hid (fin_any (q := { q with d := some D2 }) (D := D2) (w := w8) (F := fun b => F b ∨ (w6.heap.size ≤ b ∧ b < w7.heap.size)) (IsMo.below ⟨Ak, ck, cs, A0, c0, A1', c1', _, G, _, H7.out⟩ HB8.out) rfl HDT.out HMAY.out HON.out HTR.out HFU.out hlen (fun W hW => (HTT.out W ((HF8.out.trans (Fr.of_below (F := F) HB8.out) (fun _ _ h => h)).trans hW (fun b hl hb => by
   rcases hb with hb | hb
   ·exact hb
   ·have := HBD.out.size; omega))).1))
  clear hlen
  go_wp2_with fail
  refine HFI.out.mono ?_
  intro e w9 h9
  have h10 : MoTo g (q.fin D2).1 (q.fin D2).2 F w e w9 := MoTo.trans (HF8.out.trans (Fr.of_below (F := F) HB8.out) (fun _ _ h => h)) (fun b hb => by
   rcases hb with hb | hb
   ·exact .inl hb
   ·have := HBD.out.size; have := HB8.out.size; exact .inr ⟨by omega, by omega⟩) h9
  obtain ⟨rfl, h11⟩ := h10
  have H11 := Lib.hid h11
  clear h9 h11
  go_wp2_with fail
  go_ret
  exact ⟨rfl, H11.out⟩
 ·have hz0 : (0 : Int) < dn := by have := HDN.out; have := HRL.out; omega
  have hq3 := HQ3.out
  rw [if_neg hfu] at hq3
  subst hq3
  clear hfu
  go_wp2_with fail
  refine HNE.out.mono ?_
  rintro e w8 ⟨rfl, hb8⟩
  have HB8 := Lib.hid hb8.out
  clear hb8 HNE cp
  go_wp2_with fail
  go_ret
  have z6 := HBD.out.size
  have z8 := HB8.out.size
  refine ⟨rfl, Lib.hid (IsMo.more (F := fun b => F b ∨ (w6.heap.size ≤ b ∧ b < w7.heap.size)) (IsMo.below ⟨Ak, ck, cs, A0, c0, A1', c1', _, G, _, H7.out⟩ HB8.out) fun b hb => ?_), Lib.hid (HF8.out.trans (Fr.of_below HB8.out) (fun _ _ h => h))⟩
  rcases hb with hb | hb
  ·exact .inl hb
  ·exact .inr ⟨by omega, by omega⟩
end Go.Proofs.YtmncpgfdpcckpaaGreatDoor.Mo
namespace Go.Proofs.YtmncpgfdpcckpaaGreatDoor.Mo
open Go.RowKit
open VecM RdM Vc Sp Pc El Cd Dc
inductive UnM (l : List UInt8) : Nat → List UInt8 → Int → Prop
 | long (h : 300 < l.length) : UnM l 0 [] 3
 | short (h : l.length < 9) : UnM l 0 [] 2
 | head (h9 : 9 ≤ l.length) (h3 : l.length ≤ 300) (h : ¬ headOk l) : UnM l 0 [] 3
 | check (h9 : 9 ≤ l.length) (h3 : l.length ≤ 300) (h : headOk l) (hr : ¬ isRight (l.drop 2)) : UnM l 0 [] 4
 | ok (h9 : 9 ≤ l.length) (h3 : l.length ≤ 300) (h : headOk l) (hr : isRight (l.drop 2)) : UnM l (l.getD 2 0).toNat (FrM.load l) 0
def UnMOk (k : Nat) (m : List UInt8) (g : Int) (w : World) (e : Ending) (w' : World) : Prop :=
 ∃ A c, e = .returned (.tuple #[.int .i64 (k : Int), .slice A m.length c, .int .i64 g]) ∧ Hid (Row w' w'.heap.size A m.length (bv m)) ∧ Hid (m.length ≤ c ∧ c ≤ 9223372036854775807) ∧ Hid (Below w.heap.size w w')
theorem unm_err {r : Int} {w : World} : ∀ e w', UnErr r w e w' → UnMOk 0 [] r w e w' := by
 rintro e w' ⟨rfl, hb⟩
 exact ⟨none, 0, rfl, Lib.hid (Row.nil _ _ _), Lib.hid ⟨Nat.le_refl _, by omega⟩, Lib.hid hb⟩
theorem unwrapM (c : Nat) (A : Option Addr) (l : List UInt8) (k : Nat) (m : List UInt8) (g : Int) (w : World) (hl : Row w w.heap.size A l.length (bv l)) (hn : l.length ≤ c) (hc : c ≤ 9223372036854775807) (hu : UnM l k m g) :
  Calls Tryz.prog 20 #[.slice A l.length c] w (UnMOk k m g w) := by
 cases hu with
 | long h => exact (unwrap_long l.length c A w h).mono unm_err
 | short h => exact (unwrap_short l.length c A w h).mono unm_err
 | head h9 h3 h => exact (unwrap_head w.heap.size l.length c A l w hl h9 h3 hn hc h).mono unm_err
 | check h9 h3 h hr => exact (unwrap_check w.heap.size l.length c A l w hl h9 h3 hn hc (Nat.le_refl _) h hr).mono unm_err
 | ok h9 h3 h hr =>
  refine (unwrap_ok w.heap.size l.length c A l w hl h9 h3 hn hc (Nat.le_refl _) h hr).mono ?_
  rintro e w' ⟨A2, n2, c2, rfl, hn2, hr2, hc2, hb⟩
  have hn2 := hn2.out
  subst hn2
  exact ⟨A2, c2, rfl, Lib.hid hr2, Lib.hid hc2, Lib.hid hb⟩
set_option maxHeartbeats 3200000 in
theorem pk_any {g n c k : Nat} {A : Option Addr} {q : MoD} {l m : List UInt8} {r : Int} {F : Nat → Prop} {w : World} (h : IsMo g q w F) (ok : MoOk q n) (hn : n ≤ 1000) (hT : ∀ W, Fr w W F → Sh.Tab W ∧ DTab W) (hl : Row w w.heap.size A l.length (bv l)) (hc : l.length ≤ c) (hc2 : c ≤ 9223372036854775807) (hu : UnM l k m r) :
  Calls Tryz.prog 6 #[.pointer (some ⟨g, 0, none⟩), .slice A l.length c] w (MoTo g (q.pk k m r).1 (q.pk k m r).2 F w) := by
 have HU := Lib.hid (unwrapM c A l k m r w hl hc hc2 hu)
 have HIS := Lib.hid h
 have HOK := Lib.hid ok
 have HN := Lib.hid hn
 have HT := Lib.hid hT
 obtain ⟨Q, hQ⟩ : ∃ Q, q.pk k m r = Q := ⟨_, rfl⟩
 rw [hQ]
 unfold MoD.pk at hQ
 have HQ := Lib.hid hQ
 obtain ⟨ll, hll⟩ : ∃ x, l.length = x := ⟨_, rfl⟩
 rw [hll] at HU ⊢
 obtain ⟨ml, hml⟩ : ∃ x, m.length = x := ⟨_, rfl⟩
 unfold UnMOk at HU
 rw [hml] at HU
 have HML := Lib.hid hml
 clear hQ hll hml h ok hn hT hl hc hc2 hu
 go_enter Tryz.func6, Tryz.ntmps6
 go_wp2_with fail
 refine HU.out.mono ?_
 rintro e w1 ⟨A1, c1, rfl, hr1, hc1, hb1⟩
 have HB1 := Lib.hid hb1.out
 have HR1 := Lib.hid hr1.out
 have HC1 := Lib.hid hc1.out
 have HI1 := Lib.hid (HIS.out.below hb1.out)
 have HF1 : Hid (Fr w w1 F) := Lib.hid (Fr.of_below hb1.out)
 clear hr1 hc1 hb1 HU
 by_cases hr : r ≠ 0
 ·have hne : (r != 0) = true := by simpa using hr
  have hq := HQ.out
  rw [if_pos hr] at hq
  subst hq
  clear hr
  go_wp2_with fail
  go_ret
  exact MoTo.same HIS.out HB1.out
 rw [Decidable.not_not] at hr
 subst hr
 have hq := HQ.out
 rw [if_neg (by decide)] at hq
 by_cases h1 : k = 1
 ·subst h1
  rw [if_pos rfl] at hq
  subst hq
  have HMA := Lib.hid (man_any (A := A1) (c := c1) (m := m) HI1.out HOK.out (HT.out w1 HF1.out).1 (HT.out w1 HF1.out).2 (by rw [HML.out]; exact HR1.out) (by rw [HML.out]; exact HC1.out.1) HC1.out.2)
  rw [HML.out] at HMA
  go_wp2_with fail
  refine HMA.out.mono ?_
  intro e w2 h2
  have h3 : MoTo g (q.man m).1 (q.man m).2 F w e w2 := MoTo.trans HF1.out (fun b hb => .inl hb) h2
  obtain ⟨rfl, h4⟩ := h3
  have H4 := Lib.hid h4
  clear h2 h4 HMA
  go_wp2_with fail
  go_ret
  exact ⟨rfl, H4.out⟩
 rw [if_neg h1] at hq
 by_cases h2 : k = 2
 ·subst h2
  rw [if_pos rfl] at hq
  subst hq
  have HMA := Lib.hid (sym_any (A := A1) (c := c1) (b := m) HI1.out HOK.out HN.out (fun W hW => HT.out W (HF1.out.trans hW fun _ _ h => h)) (by rw [HML.out]; exact HR1.out) (by rw [HML.out]; exact HC1.out.1) HC1.out.2)
  rw [HML.out] at HMA
  clear h1
  go_wp2_with fail
  refine HMA.out.mono ?_
  intro e w2 h2
  have h3 : MoTo g (q.sym m).1 (q.sym m).2 F w e w2 := MoTo.trans HF1.out (fun b hb => .inl hb) h2
  obtain ⟨rfl, h4⟩ := h3
  have H4 := Lib.hid h4
  clear h2 h4 HMA
  go_wp2_with fail
  go_ret
  exact ⟨rfl, H4.out⟩
 rw [if_neg h2] at hq
 subst hq
 have n1 : ((k : Int) == 1) = false := by simp; omega
 have n2 : ((k : Int) == 2) = false := by simp; omega
 have m1 : ¬ (k : Int) = 1 := by omega
 have m2 : ¬ (k : Int) = 2 := by omega
 clear h1 h2
 go_wp2_with fail
 go_ret
 exact MoTo.same HIS.out HB1.out
end Go.Proofs.YtmncpgfdpcckpaaGreatDoor.Mo
