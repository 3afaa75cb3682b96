/- precode's change, sum, fit: by contract. -/
import Derived.Laws.ResultCell
import Derived.Laws.Rows
import Derived.Deep.DeepCutAuto
import Derived.Deep.RegionHeld3
import Derived.Deep.QuietTactic
import Derived.BigQuiet
import Derived.Test.YtidcnoejihjgjaaGreatDoorZKQF
import Derived.Test.YtidcnoejihjgjaaGreatDoorBlkSumQF
import Derived.Test.YtidcnoejihjgjaaGreatDoorZAQF
namespace Go.Proofs.YtidcnoejihjgjaaGreatDoor.Pc
open Go.RowKit
open VecM RdM Vc Sp
theorem bv_xl_set (a l : List UInt8) (k : Nat) (h : k < a.length) : (bv (xl a l k)).set k (.int .u8 ((a.getD k 0 ^^^ l.getD k 0).toNat : Int)) = bv (xl a l (k + 1)) := by
  rw [← xl_set a l k h]
  simp [bv, List.map_set]
set_option maxRecDepth 100000 in
set_option maxHeartbeats 1600000 in
theorem change_any (g n c base B c2 : Nat) (A2 : Option Addr) (a l : List UInt8) (w : World) (ho : w.ownsRow base 5 1 (.slice (some ⟨g, 0, none⟩) n c) n (bv a)) (hr : Row w B A2 n (bv l)) (hB : B ≤ g) (hn : n ≤ 1000000) :
    Calls Tryz.prog 146 #[.slice (some ⟨g, 0, none⟩) n c, .slice A2 n c2] w fun e w' => e = .returned (.tuple #[]) ∧ Hid (w'.ownsRow base 5 1 (.slice (some ⟨g, 0, none⟩) n c) n (bv (xorL a l))) ∧ Hid (Below g w w') := by
  have HA := Lib.hid (Row.of_own ho).blen
  have HR := Lib.hid hr
  have HO := Lib.hid ho
  have HBG := Lib.hid hB
  clear ho hr hB
  go_enter Tryz.func146, Tryz.ntmps146
  go_wp2_with fail
  go_loopw [8] (fun x wr => ∃ k : Nat, k ≤ n ∧ x = .int .i64 k ∧ Hid (wr.ownsRow base 5 1 (.slice (some ⟨g, 0, none⟩) n c) n (bv (xl a l k))) ∧ Hid (Below g w wr)) (fun x _ => n - (intOf x).toNat)
  case atStart => exact ⟨0, by omega, rfl, by rw [xl_zero]; exact HO, Lib.hid (Below.refl _ _)⟩
  case round =>
    obtain ⟨k, hk, rfl, hown, hbk⟩ := hrel
    by_cases hlt : k < n
    · have hka : k < a.length := by rw [HA.out]; exact hlt
      obtain ⟨b2, o2, rfl, hb2, hl2, hc2⟩ := (HR.out.below (hbk.out.mono HBG.out)).byteAt hlt
      have hfz := hown.out.frozenAt k
      have hcs := (hown.out.cellAt k (by omega)).trans (bv_getD _ k (by rw [xl_length]; exact hka))
      rw [xl_getD a l k k hka, if_neg (by omega)] at hcs
      have hst := Lib.hid ((hown.out.stored k (.int .u8 ((a.getD k 0 ^^^ l.getD k 0).toNat : Int))).1)
      have hset := Lib.hid (bv_xl_set a l k hka)
      have hy : l[k] = l.getD k 0 := by simp [List.getD, hl2]
      have hxor := xor_int (a.getD k 0) (l.getD k 0)
      rw [hy] at hc2
      have hki : (k : Int) < (n : Int) := by omega
      have hkb : (k : Int) < 1000000 := by omega
      clear hy hown
      generalize a.getD k 0 = x at *
      generalize l.getD k 0 = y at *
      go_wp2_with fail
      go_roundw
      case rel => exact ⟨k + 1, by omega, by go_num, by rw [← hset.out]; exact hst, Lib.hid (hbk.out.setCell (Nat.le_refl _) _)⟩
      case measure => simp [intOf]; omega
    · obtain rfl : n = k := by omega
      have hfin : Hid (wr.ownsRow base 5 1 (.slice (some ⟨g, 0, none⟩) n c) n (bv (xorL a l))) := by
        have := hown.out
        unfold xorL
        rw [HA.out]
        exact Lib.hid this
      clear hown
      go_wp2_with fail
      first | go_end0 | (simp only [Exit.inBlock, Exit.then]; refine bodyPost_ret (results_none rfl _ _ _) rfl ?_) | refine bodyPost_ret (results_none rfl _ _ _) rfl ?_
      exact ⟨rfl, hfin, hbk⟩
def sumR (X z : Nat) (ls : List (List UInt8)) : Nat → List UInt8
  | 0 => List.replicate z 0
  | k + 1 => if X.testBit k then xorL (sumR X z ls k) (ls.getD k []) else sumR X z ls k
theorem sumR_length (X z : Nat) (ls : List (List UInt8)) : ∀ k, (sumR X z ls k).length = z
  | 0 => by simp [sumR]
  | k + 1 => by
    unfold sumR
    split
    · rw [xorL_length, sumR_length X z ls k]
    · exact sumR_length X z ls k
def SumOk (X z : Nat) (ls : List (List UInt8)) (k : Nat) (w : World) (e : Ending) (w' : World) : Prop :=
  ∃ g, e = .returned (.slice (some ⟨g, 0, none⟩) z z) ∧ Hid (w.heap.size ≤ g) ∧ Hid (w'.ownsRow w.heap.size 5 1 (.slice (some ⟨g, 0, none⟩) z z) z (bv (sumR X z ls k))) ∧ Hid (Below w.heap.size w w')
set_option maxRecDepth 100000 in
set_option maxHeartbeats 1600000 in
theorem sum_any (g0 h0 m X z n c B : Nat) (A : Option Addr) (es : List BRow) (w : World) (v : VecAt w g0 h0 m X) (hl : Rows2 w B A n es) (hes : ∀ r ∈ es, r.n = z) (hnm : n ≤ m) (hz : z ≤ 16) (hB : B ≤ w.heap.size) :
    Calls Tryz.prog 123 #[.pointer (some ⟨g0, 0, none⟩), .slice A n c, .int .i64 (z : Int)] w (SumOk X z (es.map (·.l)) n w) := by
  have hm256 := v.1
  have HV := Lib.hid v
  have HL := Lib.hid hl
  have HES := Lib.hid hes
  have HBB := Lib.hid hB
  have HNM := Lib.hid hnm
  have hmk := mk_bytes z (by omega) w
  have hn256 : (n : Int) ≤ 256 := by omega
  have HZ := Lib.hid hz
  clear v hl hes hB hnm hm256 hz
  go_enter Tryz.func123, Tryz.ntmps123
  go_wp2_with fail
  clear hmk
  have HOW : Hid ((w.alloc (.cells (Array.replicate z (.int .u8 0)) 5)).ownsRow w.heap.size 5 1 (.slice (some ⟨w.heap.size, 0, none⟩) z z) z (bv (sumR X z (es.map (·.l)) 0))) := by
    show World.ownsRow _ _ _ _ _ _ _
    have := own_lit (w := w) (base := w.heap.size) (g := w.heap.size) (n := z) (e := 5) (Array.replicate z (.int .u8 0)) rfl (Nat.le_refl _) (by simp) (by have := HZ.out; unfold maxLen; omega)
    simpa [bv, sumR] using this
  have HAL : Hid (Below w.heap.size w (w.alloc (.cells (Array.replicate z (.int .u8 0)) 5))) := (Below.refl _ _).alloc (Nat.le_refl _) _
  generalize (w.alloc (.cells (Array.replicate z (.int .u8 0)) 5)) = w2 at *
  obtain ⟨G, hG⟩ : ∃ G, w.heap.size = G := ⟨_, rfl⟩
  have HG := Lib.hid hG
  rw [hG] at HOW ⊢
  clear hG
  go_loopw [14] (fun i wr => ∃ k : Nat, k ≤ n ∧ i = .int .i64 k ∧ Hid (wr.ownsRow G 5 1 (.slice (some ⟨G, 0, none⟩) z z) z (bv (sumR X z (es.map (·.l)) k))) ∧ Hid (Below w.heap.size w wr)) (fun i _ => n - (intOf i).toNat)
  case atStart => exact ⟨0, by omega, rfl, HOW, HAL⟩
  case round =>
    obtain ⟨k, hk, rfl, hown, hbk⟩ := hrel
    clear HOW HAL
    by_cases hlt : k < n
    · have hrows := HL.out.below (hbk.out.mono HBB.out)
      obtain ⟨b, o, rfl, r, hr, hcell, hrow⟩ := hrows.at_ hlt
      have hrn := HES.out r (List.mem_of_getElem? hr)
      rw [hrn] at hrow hcell
      have hld : (es.map (·.l)).getD k [] = r.l := by simp [List.getD, hr]
      have HLD := Lib.hid hld
      have HAS := Lib.hid (has_in g0 h0 m X k wr (HV.out.below hbk.out) (by have := HNM.out; omega))
      have HCH := Lib.hid (change_any G z z G B r.c r.A (sumR X z (es.map (·.l)) k) r.l wr hown.out hrow (by have := HBB.out; have := HG.out; omega) (by have := HZ.out; omega))
      have hki : (k : Int) < (n : Int) := by omega
      clear hrows hr hrow hrn hld
      obtain ⟨T, hT⟩ : ∃ T, X.testBit k = T := ⟨_, rfl⟩
      rw [hT] at HAS
      have HT := Lib.hid hT
      clear hT
      go_wp2_with fail
      refine HAS.out.mono ?_
      rintro e w' ⟨rfl, rfl⟩
      cases T with
      | true =>
        have hnext : sumR X z (es.map (·.l)) (k + 1) = xorL (sumR X z (es.map (·.l)) k) r.l := by
          show (if X.testBit k then _ else _) = _
          rw [HT.out, HLD.out]; rfl
        rw [← hnext] at HCH
        clear hnext hown HAS
        go_wp2_with fail
        refine HCH.out.mono ?_
        rintro e w4 ⟨rfl, ho4, hb4⟩
        have hbk4 := Lib.hid (hbk.out.trans (hb4.out.mono (by rw [HG.out]; exact Nat.le_refl _)))
        clear HCH hcell hb4 hbk
        go_wp2_with fail
        go_roundw
        case rel => exact ⟨k + 1, by omega, by go_num, ho4, hbk4⟩
        case measure => simp [intOf]; omega
      | false =>
        have hnext : sumR X z (es.map (·.l)) (k + 1) = sumR X z (es.map (·.l)) k := by
          show (if X.testBit k then _ else _) = _
          rw [HT.out]; rfl
        rw [← hnext] at hown
        clear hnext HAS HCH
        go_wp2_with fail
        go_roundw
        case rel => exact ⟨k + 1, by omega, by go_num, hown, hbk⟩
        case measure => simp [intOf]; omega
    · obtain rfl : n = k := by omega
      clear hlt
      go_wp2_with fail
      go_ret
      exact ⟨G, rfl, Lib.hid (by rw [HG.out]; exact Nat.le_refl _), by rw [HG.out]; exact hown, hbk⟩
end Go.Proofs.YtidcnoejihjgjaaGreatDoor.Pc
namespace Go.Proofs.YtidcnoejihjgjaaGreatDoor.Pc
open Go.RowKit
open VecM RdM Vc Sp
def fitB (K Z n : Nat) (es : List BRow) : Bool := decide (n = K) && es.all fun r => r.n == Z
theorem fitB_yes {K Z n : Nat} {es : List BRow} : fitB K Z n es = true ↔ n = K ∧ ∀ r ∈ es, r.n = Z := by
  unfold fitB
  simp
theorem fitB_len {K Z n : Nat} {es : List BRow} (h : n ≠ K) : fitB K Z n es = false := by
  unfold fitB
  simp [h]
theorem fitB_row {K Z n : Nat} {es : List BRow} {r : BRow} (h : r ∈ es) (hr : r.n ≠ Z) : fitB K Z n es = false := by
  cases e : fitB K Z n es with
  | false => rfl
  | true => exact absurd ((fitB_yes.1 e).2 r h) hr
set_option maxRecDepth 100000 in
set_option maxHeartbeats 1600000 in
theorem fit_any (s K P Z n c B : Nat) (A : Option Addr) (es : List BRow) (w : World) (hl : Rows2 w B A n es) (hB : B ≤ w.heap.size) (hn : n ≤ 1000000) (hz : ∀ r ∈ es, r.n ≤ 1000000) :
    Calls Tryz.prog 122 #[parV s K P Z, .slice A n c] w fun e w' => e = .returned (.bool (fitB K Z n es)) ∧ Hid (Below w.heap.size w w') := by
  have HX0 := Lib.hid (heap_alloc_new w (.cells #[.int .u32 (s : Int), .int .i64 (K : Int), .int .i64 (P : Int), .int .i64 (Z : Int)] 35))
  have HB0 : Hid (Below w.heap.size w (w.alloc (.cells #[.int .u32 (s : Int), .int .i64 (K : Int), .int .i64 (P : Int), .int .i64 (Z : Int)] 35))) := (Below.refl _ _).alloc (Nat.le_refl _) _
  have HL := Lib.hid (hl.below (HB0.out.mono hB))
  have hbx := box4 HX0.out
  generalize hw0 : (w.alloc (.cells #[.int .u32 (s : Int), .int .i64 (K : Int), .int .i64 (P : Int), .int .i64 (Z : Int)] 35)) = w0 at *
  have HW0 := Lib.hid hw0
  have HBX := Lib.hid hbx
  have HZ := Lib.hid hz
  clear hl hB hbx hw0 hz
  unfold parV
  by_cases hnk : n = K
  · subst hnk
    go_enter Tryz.func122, Tryz.ntmps122
    go_upto_region 1 with fail
    rw [HW0.out]
    obtain ⟨c0, c1, c2, c3⟩ := HBX.out
    go_wp2_with fail
    go_loop [14] (fun i => ∃ k : Nat, k ≤ n ∧ i = .int .i64 k ∧ Hid (∀ r ∈ es.take k, r.n = Z)) (fun i => n - (intOf i).toNat)
    case atStart => exact ⟨0, by omega, rfl, Lib.hid (fun r hr => by simp at hr)⟩
    case round =>
      obtain ⟨k, hk, rfl, hall⟩ := hrel
      by_cases hlt : k < n
      · obtain ⟨b, o, rfl, r, hr, hcell, hrow⟩ := HL.out.at_ hlt
        have hmem := List.mem_of_getElem? hr
        have hki : (k : Int) < (n : Int) := by omega
        have hkb : (k : Int) < 1000000 := by omega
        by_cases hrz : r.n = Z
        · have hne : ((r.n : Int) != (Z : Int)) = false := by simp; omega
          have hall2 : Hid (∀ r ∈ es.take (k + 1), r.n = Z) := Lib.hid (fun q hq => by
            have hlk := (List.getElem?_eq_some_iff.1 hr).1
            rw [List.take_succ_eq_append_getElem hlk] at hq
            rcases List.mem_append.1 hq with h | h
            · exact hall.out q h
            · have e := List.mem_singleton.1 h
              rw [List.getElem?_eq_getElem hlk] at hr
              injection hr with hr
              rw [e, hr]; exact hrz)
          clear hr hmem hrow hrz
          go_wp2_with fail
          go_round
          case rel => exact ⟨k + 1, by omega, by go_num, hall2⟩
          case measure => simp [intOf]; omega
        · have hne : ((r.n : Int) != (Z : Int)) = true := by simp; omega
          have hres := Lib.hid (fitB_row (K := n) (n := n) hmem hrz)
          clear hr hmem hrow hrz hall
          go_wp2_with fail
          go_ret
          exact ⟨by rw [hres.out]; rfl, HB0⟩
      · obtain rfl : n = k := by omega
        have hes : Hid (fitB n Z n es = true) := Lib.hid (fitB_yes.2 ⟨rfl, fun r hr => hall.out r (by
          have := HL.out.1.1
          rw [List.take_of_length_le (by simp at this; omega)]; exact hr)⟩)
        clear hall hlt
        go_wp2_with fail
        go_ret
        exact ⟨by rw [hes.out]; rfl, HB0⟩
  · have hne : ((n : Int) != (K : Int)) = true := by simp; omega
    have hres := Lib.hid (fitB_len (Z := Z) (es := es) hnk)
    clear hnk
    go_enter Tryz.func122, Tryz.ntmps122
    go_upto_region 1 with fail
    rw [HW0.out]
    obtain ⟨c0, c1, c2, c3⟩ := HBX.out
    go_wp2_with fail
    go_ret
    exact ⟨by rw [hres.out]; rfl, HB0⟩
def Pc2 (W : World) (base : Nat) (v : Value) (r : BRow) : Prop :=
  ∃ g, r.A = some ⟨g, 0, none⟩ ∧ v.ownBlock ≠ some g ∧ W.ownsRow base 5 1 (.slice r.A r.n r.c) r.n (bv r.l)
def PW (ls : List (List UInt8)) (base : Nat) (v : Value) (wr : World) : Prop :=
  ∃ es : List BRow, es.map (·.l) = ls ∧ wr.ownsRow base 22 1 v ls.length (es.map BRow.val) ∧ ∀ r ∈ es, Pc2 wr base v r
theorem PW.below {ls : List (List UInt8)} {base : Nat} {v : Value} {w w' : World} (h : PW ls base v w) (hb : Below w.heap.size w w') : PW ls base v w' := by
  obtain ⟨es, h1, h2, h3⟩ := h
  refine ⟨es, h1, own_below h2 hb, fun r hr => ?_⟩
  obtain ⟨g, a, b, c⟩ := h3 r hr
  exact ⟨g, a, b, own_below c hb⟩
theorem PW.rows {ls : List (List UInt8)} {base : Nat} {v : Value} {w : World} (h : PW ls base v w) : ∃ A c es, v = .slice A ls.length c ∧ es.map (·.l) = ls ∧ Rows2 w w.heap.size A ls.length es ∧ ls.length ≤ c := by
  obtain ⟨es, h1, h2, h3⟩ := h
  obtain ⟨A, c, rfl, hc, _⟩ := own_slice h2
  exact ⟨A, c, es, rfl, h1, ⟨Row.of_own h2, fun r hr => by obtain ⟨g, _, _, q⟩ := h3 r hr; exact Row.of_own q⟩, hc⟩
theorem PW.next {ls : List (List UInt8)} {base g0 n0 c0 : Nat} {v v' : Value} {l : List UInt8} {W2 w3 : World} {es : List BRow} (h1 : es.map (·.l) = ls) (h2 : W2.ownsRow base 22 1 v ls.length (es.map BRow.val)) (h3 : ∀ r ∈ es, Pc2 W2 base v r)
    (hv0 : v.ownBlock ≠ some g0) (ho : W2.ownsRow base 5 1 (.slice (some ⟨g0, 0, none⟩) n0 c0) n0 (bv l))
    (hown : w3.ownsRow base 22 1 v' (ls.length + 1) (es.map BRow.val ++ [.slice (some ⟨g0, 0, none⟩) n0 c0])) (hg : W2.grownBy w3 v.ownBlock) (hv : v'.ownBlock = v.ownBlock ∨ v'.ownBlock = some W2.heap.size) : PW (ls ++ [l]) base v' w3 := by
  have hmv : ∀ (r : BRow), Pc2 W2 base v r → Pc2 w3 base v' r := by
    rintro r ⟨g, a, b, c⟩
    have hlt : g < W2.heap.size := (c.lt g (by rw [a]; rfl)).2
    refine ⟨g, a, ?_, ?_⟩
    · intro e
      rcases hv with h | h
      · exact b (h.symm.trans e)
      · rw [h] at e; injection e with e; omega
    · refine ⟨c.1, ?_⟩
      rcases c.2 with h0 | ⟨g', cap, cur, e1, hbg, hgb, r3⟩
      · rw [a] at h0; exact absurd h0.1 (by intro e; cases e)
      · refine .inr ⟨g', cap, cur, e1, hbg, ?_, r3⟩
        rw [a] at e1
        injection e1 with e1
        injection e1 with e1
        injection e1 with e1
        subst e1
        rw [hg.block _ hlt (fun e => b e.symm)]; exact hgb
  refine ⟨es ++ [⟨some ⟨g0, 0, none⟩, n0, c0, l⟩], ?_, ?_, ?_⟩
  · rw [List.map_append, h1]; rfl
  · rw [List.length_append]; simpa [BRow.val] using hown
  · intro r hr
    rcases List.mem_append.1 hr with hr | hr
    · exact hmv r (h3 r hr)
    · obtain rfl := List.mem_singleton.1 hr
      exact hmv _ ⟨g0, rfl, hv0, ho⟩
end Go.Proofs.YtidcnoejihjgjaaGreatDoor.Pc
namespace Go.Proofs.YtidcnoejihjgjaaGreatDoor.Pc
open Go.RowKit
open VecM RdM Vc Sp
theorem Pc2.below {W W' : World} {base : Nat} {v : Value} {r : BRow} (h : Pc2 W base v r) (hb : Below W.heap.size W W') : Pc2 W' base v r := by
  obtain ⟨g, a, b, c⟩ := h
  exact ⟨g, a, b, own_below c hb⟩
theorem PW.mono {ls : List (List UInt8)} {base base' : Nat} {v : Value} {w : World} (h : PW ls base v w) (hb : base' ≤ base) : PW ls base' v w := by
  obtain ⟨es, h1, h2, h3⟩ := h
  refine ⟨es, h1, own_base h2 hb, fun r hr => ?_⟩
  obtain ⟨g, a, b, c⟩ := h3 r hr
  exact ⟨g, a, b, own_base c hb⟩
theorem PW.app {ls : List (List UInt8)} {base g0 n0 c0 k : Nat} {v v' : Value} {l : List UInt8} {wr W2 w5 : World} {es : List BRow} (hk : ls.length = k) (h1 : es.map (·.l) = ls) (h2 : wr.ownsRow base 22 1 v k (es.map BRow.val)) (h3 : ∀ r ∈ es, Pc2 wr base v r)
    (hb : Below wr.heap.size wr W2) (ho : W2.ownsRow wr.heap.size 5 1 (.slice (some ⟨g0, 0, none⟩) n0 c0) n0 (bv l)) (hbase : base ≤ wr.heap.size)
    (hown : w5.ownsRow base 22 1 v' (k + 1) (es.map BRow.val ++ [.slice (some ⟨g0, 0, none⟩) n0 c0])) (hg : W2.grownBy w5 v.ownBlock) (hv : v'.ownBlock = v.ownBlock ∨ v'.ownBlock = some W2.heap.size) : PW (ls ++ [l]) base v' w5 := by
  subst hk
  exact PW.next h1 (own_below h2 hb) (fun r hr => (h3 r hr).below hb) (fun e => by have a := (h2.lt g0 e).2; have b := (ho.lt g0 rfl).1; omega) (own_base ho hbase) hown hg hv
def allP (s K Z : Nat) (ls : List (List UInt8)) (j : Nat) : List (List UInt8) := ls ++ (List.range j).map fun i => sumR (parJ s K i) Z ls K
theorem allP_next (s K Z : Nat) (ls : List (List UInt8)) (j : Nat) : allP s K Z ls (j + 1) = allP s K Z ls j ++ [sumR (parJ s K j) Z ls K] := by
  unfold allP
  rw [List.range_succ, List.map_append, List.append_assoc]; rfl
theorem allP_length (s K Z : Nat) (ls : List (List UInt8)) (j : Nat) : (allP s K Z ls j).length = ls.length + j := by simp [allP]
def PcsOk (ls : List (List UInt8)) (w : World) (e : Ending) (w' : World) : Prop := ∃ v, e = .returned v ∧ Hid (PW ls w.heap.size v w') ∧ Hid (Below w.heap.size w w')
theorem mkRows (m : Nat) (hm : m ≤ 1000000) : ∃ C : Array Value, C.size = m ∧ ∀ w : World, (Instr.makeSlice 78 (.int .i64 0) (.int .i64 (m : Int))).run Tryz.prog w = .ok (.slice (some ⟨w.heap.size, 0, none⟩) 0 m) (w.alloc (.cells C 22)) := by
  obtain ⟨i0, hi, hz0, hz1, hz2⟩ := info_parts Tryz.info22
  refine ⟨madeCells (Value.slice none 0 0).cells m, ?_, fun w => ?_⟩
  · show (madeCells #[Value.slice none 0 0] m).size = m
    have := congrArg List.length (toList_madeCells_one (Value.slice none 0 0) m)
    simpa using this
  · have h := run_make (P := Tryz.prog) w 78 22 i0 (.slice none 0 0) Tryz.underlying78 hi hz0 .i64 .i64 0 (m : Int) (by omega) (by omega) (by rw [hz2]; omega) (by omega)
    rw [hz1, Nat.mul_one] at h
    simpa using h
def Stay (gA : Nat) (wR : World) (v : Value) (wr : World) : Prop := wR.heap.size ≤ wr.heap.size ∧ ∀ b, gA ≤ b → b < wR.heap.size → wr.heap[b]? = wR.heap[b]? ∧ v.ownBlock ≠ some b
theorem Stay.step {gA : Nat} {wR wr W2 w5 : World} {v v' : Value} (h : Stay gA wR v wr) (hb : Below wr.heap.size wr W2) (hg : W2.grownBy w5 v.ownBlock) (hv : v'.ownBlock = v.ownBlock ∨ v'.ownBlock = some W2.heap.size) : Stay gA wR v' w5 := by
  have h1 := h.1
  have h2 := hb.size
  refine ⟨by have := hg.size; omega, fun b hb1 hb2 => ?_⟩
  obtain ⟨e1, e2⟩ := h.2 b hb1 hb2
  refine ⟨?_, fun e => ?_⟩
  · rw [hg.block b (by omega) (fun e => e2 e.symm), hb.block b (by omega)]; exact e1
  · rcases hv with q | q
    · exact e2 (q.symm.trans e)
    · rw [q] at e; injection e with e; omega
set_option maxRecDepth 100000 in
set_option maxHeartbeats 3200000 in
theorem pieces_yes (s K P Z c B : Nat) (A : Option Addr) (es : List BRow) (w : World) (hs : s < 4294967296) (hK : 1 ≤ K ∧ K ≤ 64) (hP : P ≤ 16) (hZ : 1 ≤ Z ∧ Z ≤ 16) (hl : Rows2 w B A K es) (hes : ∀ r ∈ es, r.n = Z) (hB : B ≤ w.heap.size) :
    Calls Tryz.prog 99 #[parV s K P Z, .slice A K c] w (PcsOk (allP s K Z (es.map (·.l)) P) w) := by
  obtain ⟨i0, hi, hz0, hz1, hz2⟩ := info_parts Tryz.info22
  have HX0 := Lib.hid (heap_alloc_new w (.cells #[.int .u32 (s : Int), .int .i64 (K : Int), .int .i64 (P : Int), .int .i64 (Z : Int)] 35))
  have HB0 : Hid (Below w.heap.size w (w.alloc (.cells #[.int .u32 (s : Int), .int .i64 (K : Int), .int .i64 (P : Int), .int .i64 (Z : Int)] 35))) := (Below.refl _ _).alloc (Nat.le_refl _) _
  have hz : (w.alloc (.cells #[.int .u32 (s : Int), .int .i64 (K : Int), .int .i64 (P : Int), .int .i64 (Z : Int)] 35)).heap.size = w.heap.size + 1 := by simp
  generalize hw0 : (w.alloc (.cells #[.int .u32 (s : Int), .int .i64 (K : Int), .int .i64 (P : Int), .int .i64 (Z : Int)] 35)) = w0 at *
  have HW0 := Lib.hid hw0
  have HZ0 := Lib.hid hz
  have hM := fun W => may_any s (K : Int) (P : Int) (Z : Int) W
  have hmay : mayB (K : Int) (P : Int) (Z : Int) = true := (mayB_iff _ _ _).2 (by omega)
  rw [hmay] at hM
  have hkeep := Lib.hid (spar_keep HX0.out)
  have HL := Lib.hid (fun W (hW : Below w0.heap.size w0 W) => (hl.below (HB0.out.mono hB)).below (hW.mono (by omega)))
  have hF := fun W (hW : Below w0.heap.size w0 W) => fit_any s K P Z K c B A es W (HL.out W hW) (by have := hW.size; omega) (by omega) (fun r hr => by rw [hes r hr]; omega)
  rw [fitB_yes.2 ⟨rfl, hes⟩] at hF
  obtain ⟨n, hn⟩ : ∃ n, K + P = n := ⟨_, rfl⟩
  have hPi := fun W => pieces_any s (K : Int) (P : Int) (Z : Int) W (by omega) (by omega)
  rw [hmay, if_pos rfl, show (K : Int) + (P : Int) = (n : Int) by omega] at hPi
  have hR := fun W => rows_any s K P Z W hs hK hP hZ
  unfold parV at hM hF hPi hR ⊢
  have HM := Lib.hid hM
  have HF := Lib.hid hF
  have HPI := Lib.hid hPi
  have HR := Lib.hid hR
  have HES := Lib.hid hes
  have HBB : Hid (B ≤ w0.heap.size) := Lib.hid (by omega)
  have HKB := Lib.hid hK
  have HPB := Lib.hid hP
  have HZB := Lib.hid hZ
  have HNN := Lib.hid hn
  obtain ⟨C, hC, hmk⟩ := mkRows n (by omega)
  have HC := Lib.hid hC
  have hk64 : (K : Int) ≤ 64 := by omega
  have hp16 : (P : Int) ≤ 16 := by omega
  have HLEN : Hid (es.length = K) := Lib.hid (by have := hl.1.1; simpa using this)
  clear hM hF hPi hR hs hK hP hZ hes hB hl hn hC hmay hz hw0
  go_enter Tryz.func99, Tryz.ntmps99
  go_upto_region 1 with fail
  rw [HW0.out]
  obtain ⟨_, c0, c1, c2, c3⟩ := hkeep.out w0 (Below.refl _ _)
  go_wp2_with fail
  refine (HM.out _).mono ?_
  rintro e w1 ⟨rfl, hb1⟩
  clear c0 c1 c2 c3
  obtain ⟨_, c0, c1, c2, c3⟩ := hkeep.out w1 hb1.out
  go_wp2_with fail
  refine (HF.out _ hb1.out).mono ?_
  rintro e w2 ⟨rfl, hb2⟩
  have HB2 := Lib.hid (hb1.out.trans (hb2.out.mono hb1.out.size))
  clear c0 c1 c2 c3 hb1 hb2 HF HM
  obtain ⟨_, c0, c1, c2, c3⟩ := hkeep.out w2 HB2.out
  go_wp2_with fail
  refine (HPI.out _).mono ?_
  rintro e w3 ⟨rfl, hb3⟩
  have HB3 := Lib.hid (HB2.out.trans (hb3.out.mono HB2.out.size))
  clear c0 c1 c2 c3 hb3 HB2 HPI
  go_wp2_with fail
  clear hmk
  obtain ⟨G, hG⟩ : ∃ G, w0.heap.size = G := ⟨_, rfl⟩
  have HG := Lib.hid hG
  have hG3 : G ≤ w3.heap.size := by have := HB3.out.size; omega
  have HOW : Hid (PW ((es.map (·.l)).take 0) G (.slice (some ⟨w3.heap.size, 0, none⟩) 0 n) (w3.alloc (.cells C 22))) := Lib.hid ⟨[], by simp, by
    simpa using World.ownsRow_made (e := 22) (size := 1) w3 C n hG3 (by have := HNN.out; unfold maxLen; omega) (by have := HC.out; omega), fun r hr => by cases hr⟩
  have HAL : Hid (Below G w0 (w3.alloc (.cells C 22))) := Lib.hid ((show Below G w0 w3 by rw [← HG.out]; exact HB3.out).alloc hG3 _)
  generalize (w3.alloc (.cells C 22)) = w4 at *
  generalize w3.heap.size = G3 at *
  clear hG hG3 HB3
  go_loopw [5, 24] (fun v i wr => ∃ k : Nat, k ≤ K ∧ i = .int .i64 k ∧ Hid (PW ((es.map (·.l)).take k) G v wr) ∧ Hid (Below G w0 wr)) (fun _ i _ => K - (intOf i).toNat)
  case atStart => exact ⟨0, by omega, rfl, HOW, HAL⟩
  case round =>
    obtain ⟨k, hk, rfl, hpw, hbk⟩ := hrel
    have hsz := hbk.out.size
    have hG4 : G ≤ wr.heap.size := by have := HG.out; omega
    by_cases hlt : k < K
    · clear HOW HAL
      obtain ⟨fs, f1, f2, f3⟩ := hpw.out
      have hlen : ((es.map (·.l)).take k).length = k := by have := HLEN.out; simp; omega
      rw [hlen] at f2
      obtain ⟨Av, cv, rfl, _⟩ := own_slice f2
      obtain ⟨b, o, rfl, r, hr, hcell, hrow⟩ := (HL.out wr (by rw [HG.out]; exact hbk.out)).at_ hlt
      have hrn := HES.out r (List.mem_of_getElem? hr)
      have htk : (es.map (·.l)).take (k + 1) = (es.map (·.l)).take k ++ [r.l] := by
        have hlk : k < (es.map (·.l)).length := by have := HLEN.out; simp; omega
        rw [List.take_succ_eq_append_getElem hlk]
        have : es[k]'(by simpa using hlk) = r := by
          have h2 := List.getElem?_eq_getElem (l := es) (i := k) (by simpa using hlk)
          rw [h2] at hr; injection hr
        simp [this]
      have HTK := Lib.hid htk
      have hrl : r.l.length = Z := by rw [← hrn]; exact hrow.blen
      have HCL := Lib.hid (clone_any B r.n r.c r.A r.l wr hrow (by have := HZB.out; omega) (by have := HBB.out; have := HG.out; omega))
      have HF2 := Lib.hid f2
      have HF1 := Lib.hid f1
      have HF3 := Lib.hid f3
      have HRL := Lib.hid hrl
      have HLN := Lib.hid hlen
      have hki : (k : Int) < (K : Int) := by omega
      have HG4 := Lib.hid hG4
      clear f1 f2 f3 htk hr hrn hrow hpw hlen hrl
      go_wp2_with fail
      refine HCL.out.mono ?_
      rintro e w5 ⟨A5, m5, c5, rfl, hm5, hown5, hb5⟩
      have hm5' : m5 = Z := by rw [hm5.out]; exact HRL.out
      obtain ⟨g5, c5', hv5, hg5, _⟩ := hown5.form (by have := HZB.out; omega)
      injection hv5 with e1 e2 e3
      subst e1 e3
      subst hm5'
      have HB5 := Lib.hid hb5
      have HO5 := Lib.hid hown5
      clear hm5 hb5 hown5 HCL hcell hG4
      go_wp2_with (at_builtin; refine wpList_app rfl (.tmp 28) (.tmp 31) 78 rfl G 22 i0 (.slice none 0 0) 24 Tryz.underlying78 hi hz0 hz1 hz2 rfl _ k _ rfl (own_below HF2.out (HB5.out.alloc HB5.out.size _)) _ _ 1 1 _ rfl (row_new w5 _ _ _) (by intro u hu; simp at hu; subst hu; rfl) (by unfold maxLen; omega) (by omega) (Nat.le_trans HG4.out (HB5.out.alloc HB5.out.size _).size) ?_; intro v6 w6 hown6 hg6 hat6)
      have hbW := HB5.out.alloc HB5.out.size (.cells #[.slice (some ⟨g5, 0, none⟩) m5 c5] 22)
      have hnext : Hid (PW ((es.map (·.l)).take (k + 1)) G v6 w6) := by
        rw [HTK.out]
        exact Lib.hid (PW.app HLN.out HF1.out HF2.out HF3.out hbW (own_below HO5.out ((Below.refl _ _).alloc (Nat.le_refl _) _)) HG4.out hown6 hg6 hat6)
      have hbn : Hid (Below G w0 w6) := Lib.hid (below_app (hbk.out.trans (hbW.mono HG4.out)) (Nat.le_trans HG4.out hbW.size) (own_below HF2.out hbW) (Nat.le_refl _) hg6)
      clear hbW hown6 hg6 hat6 hbk
      go_wp2_with fail
      go_roundw
      case rel => exact ⟨k + 1, by omega, by go_num, hnext, hbn⟩
      case measure => simp [intOf]; omega
    · obtain rfl : K = k := by omega
      clear hlt HOW HAL
      have hpw0 := hpw.out
      rw [List.take_of_length_le (by have := HLEN.out; simp; omega)] at hpw0
      obtain ⟨fs0, q1, q2, q3⟩ := hpw0
      have hl0 : (es.map (·.l)).length = K := by have := HLEN.out; simpa using this
      rw [hl0] at q2
      obtain ⟨Av, cv, rfl, _⟩ := own_slice q2
      have hpw0 : PW (es.map (·.l)) G (.slice Av K cv) wr := ⟨fs0, q1, by rw [hl0]; exact q2, q3⟩
      clear q1 q2 q3 hl0
      obtain ⟨_, c0, c1, c2, c3⟩ := hkeep.out wr (by rw [HG.out]; exact hbk.out)
      have HPW := Lib.hid hpw0
      have hvlt : ∀ b, wr.heap.size ≤ b → (Value.slice Av K cv).ownBlock ≠ some b := by
        obtain ⟨fs, _, f2, _⟩ := hpw0
        intro b hb e
        have := (f2.lt b e).2
        omega
      have HVL := Lib.hid hvlt
      have HG4 := Lib.hid hG4
      clear hpw hpw0 hvlt hsz hG4
      go_wp2_with fail
      refine (HR.out wr).mono ?_
      rintro e wR ⟨gA, gs, hs, rfl, hvr, hown, hbR⟩
      have HBR := Lib.hid (hbk.out.trans (hbR.out.mono HG4.out))
      have HPR : Hid (PW (allP s K Z (es.map (·.l)) 0) G (.slice Av K cv) wR) := Lib.hid (by
        have := HPW.out.below hbR.out
        unfold allP
        simpa using this)
      have HST : Hid (Stay gA wR (.slice Av K cv) wR) := Lib.hid ⟨Nat.le_refl _, fun b h1 _ => ⟨rfl, HVL.out b (Nat.le_trans hvr.out.1 h1)⟩⟩
      have hgA := (hown.out.lt gA rfl).2
      have HGA := Lib.hid hgA
      have HVR := Lib.hid hvr.out.2
      clear c0 c1 c2 c3 HPW HVL hbR hvr hgA HR hbk HG4
      go_wp2_with fail
      go_loopw [5, 37] (fun v i wr => ∃ j : Nat, j ≤ P ∧ i = .int .i64 j ∧ Hid (PW (allP s K Z (es.map (·.l)) j) G v wr) ∧ Hid (Stay gA wR v wr) ∧ Hid (Below G w0 wr)) (fun _ i _ => P - (intOf i).toNat)
      case atStart => exact ⟨0, by omega, rfl, HPR, HST, HBR⟩
      case round =>
        obtain ⟨j, hj, rfl, hpw, hst, hbk⟩ := hrel
        have hsz := hbk.out.size
        have hG4 : G ≤ wr.heap.size := by have := HG.out; omega
        by_cases hlt : j < P
        · clear HPR HST HBR
          obtain ⟨fs, f1, f2, f3⟩ := hpw.out
          have hlen : (allP s K Z (es.map (·.l)) j).length = K + j := by have := HLEN.out; rw [allP_length]; simp; omega
          rw [hlen] at f2
          obtain ⟨Av, cv, rfl, _⟩ := own_slice f2
          have hcell : wr.cell? ⟨gA, j, none⟩ = some (.pointer (some ⟨gs j, 0, none⟩)) := by
            have h1 := (hown.out.cellAt j (by omega)).trans (pvk_get gs P P j hlt)
            rw [if_pos hlt] at h1
            rw [← h1]
            exact World.cell?_of_block (w := wR) ((hst.out.2 gA (Nat.le_refl _) HGA.out).1)
          obtain ⟨va, vb, vc⟩ := HVR.out j hlt
          have hvj : VecAt wr (gs j) (hs j) (K + P) (parJ s K j) := vc.keep (hst.out.2 _ (by omega) vc.lt.1).1 (hst.out.2 _ (by omega) vc.lt.2).1
          obtain ⟨_, c0, c1, c2, c3⟩ := hkeep.out wr (by rw [HG.out]; exact hbk.out)
          have HSU := Lib.hid (sum_any (gs j) (hs j) (K + P) (parJ s K j) Z K c B A es wr hvj (HL.out wr (by rw [HG.out]; exact hbk.out)) HES.out (by omega) (by have := HZB.out; omega) (by have := HBB.out; have := HG.out; omega))
          have HF2 := Lib.hid f2
          have HF1 := Lib.hid f1
          have HF3 := Lib.hid f3
          have HLN := Lib.hid hlen
          have hji : (j : Int) < (P : Int) := by omega
          have HG4 := Lib.hid hG4
          clear f1 f2 f3 hpw hlen va vb vc hvj hG4 hsz
          go_wp2_with fail
          refine HSU.out.mono ?_
          rintro e w5 ⟨g5, rfl, hg5, ho5, hb5⟩
          clear HSU hcell c0 c1 c2 c3
          obtain ⟨kj, hkj⟩ : ∃ kj, K + j = kj := ⟨_, rfl⟩
          rw [hkj] at HF2 HF3 HLN hst ⊢
          have hkj80 : kj ≤ 80 := by omega
          have HKJ := Lib.hid hkj
          clear hkj
          go_wp2_with (at_builtin; refine wpList_app rfl (.tmp 41) (.tmp 47) 78 rfl G 22 i0 (.slice none 0 0) 24 Tryz.underlying78 hi hz0 hz1 hz2 rfl _ kj _ rfl (own_below HF2.out (hb5.out.alloc hb5.out.size _)) _ _ 1 1 _ rfl (row_new w5 _ _ _) (by intro u hu; simp at hu; subst hu; rfl) (by unfold maxLen; omega) (by omega) (Nat.le_trans HG4.out (hb5.out.alloc hb5.out.size _).size) ?_; intro v6 w6 hown6 hg6 hat6)
          have hbW := hb5.out.alloc hb5.out.size (.cells #[.slice (some ⟨g5, 0, none⟩) Z Z] 22)
          have hnext : Hid (PW (allP s K Z (es.map (·.l)) (j + 1)) G v6 w6) := by
            rw [allP_next]
            exact Lib.hid (PW.app HLN.out HF1.out HF2.out HF3.out hbW (own_below ho5.out ((Below.refl _ _).alloc (Nat.le_refl _) _)) HG4.out hown6 hg6 hat6)
          have hbn : Hid (Below G w0 w6) := Lib.hid (below_app (hbk.out.trans (hbW.mono HG4.out)) (Nat.le_trans HG4.out hbW.size) (own_below HF2.out hbW) (Nat.le_refl _) hg6)
          have hsn : Hid (Stay gA wR v6 w6) := Lib.hid (hst.out.step hbW hg6 hat6)
          clear hbW hown6 hg6 hat6 hbk hst hb5 ho5 hg5
          go_wp2_with fail
          go_roundw
          case rel => exact ⟨j + 1, by omega, by go_num, hnext, hsn, hbn⟩
          case measure => simp [intOf]; omega
        · obtain rfl : P = j := by omega
          clear hlt HPR HST HBR
          have hfin := Lib.hid (hpw.out.mono (base' := w.heap.size) (by have := HG.out; have := HZ0.out; omega))
          have hbf : Hid (Below w.heap.size w wr) := Lib.hid (HB0.out.trans (hbk.out.mono (by have := HG.out; have := HZ0.out; omega)))
          clear hpw hst hbk
          go_wp2_with fail
          go_ret
          exact ⟨_, rfl, hfin, hbf⟩
end Go.Proofs.YtidcnoejihjgjaaGreatDoor.Pc
namespace Go.Proofs.YtidcnoejihjgjaaGreatDoor.Pc
open Go.RowKit
open VecM RdM Vc Sp
theorem results_cell_row {P : Program} {fn : Func} {p u : Tmp} {ty : TypeId} (h : fn.results = #[.cell p ty, .tmp u]) (tmps : Array Value) (w : World) (g : Nat) (t : TypeId) (cs : Array Value) (fr : Nat × Nat) (d : TypeDesc)
    (hp : tmps.getD p undef = .pointer (some ⟨g, 0, none⟩)) (hg : w.heap[g]? = some (.cells cs t fr))
    (hu : P.underlying ty = some d) (hd : (match d with | .struct _ | .array _ _ => true | _ => false) = true) (hi : (P.info? ty).map (·.size) = some cs.size) :
    (results fn tmps).run P w = .ok (.tuple #[.agg cs, tmps.getD u undef]) w := by
  rw [results_cell_tmp h, hp]
  simp [asAddr, run_loadVar_row w g t ty cs fr d hg hu hd hi]
theorem setBox {w : World} {g : Nat} {t : TypeId} {z0 z1 z2 z3 : Value} (h : w.heap[g]? = some (.cells #[z0, z1, z2, z3] t (0, 0))) (v0 v1 v2 v3 : Value) :
    ((((w.setCell ⟨g, 0, none⟩ v0).setCell ⟨g, 1, none⟩ v1).setCell ⟨g, 2, none⟩ v2).setCell ⟨g, 3, none⟩ v3).heap[g]? = some (.cells #[v0, v1, v2, v3] t (0, 0)) := by
  have h0 : (w.setCell ⟨g, 0, none⟩ v0).heap[g]? = some (.cells #[v0, z1, z2, z3] t (0, 0)) := heap_setCell_same _ g 0 _ t v0 h
  have h1 : ((w.setCell ⟨g, 0, none⟩ v0).setCell ⟨g, 1, none⟩ v1).heap[g]? = some (.cells #[v0, v1, z2, z3] t (0, 0)) := heap_setCell_same _ g 1 _ t v1 h0
  have h2 : (((w.setCell ⟨g, 0, none⟩ v0).setCell ⟨g, 1, none⟩ v1).setCell ⟨g, 2, none⟩ v2).heap[g]? = some (.cells #[v0, v1, v2, z3] t (0, 0)) := heap_setCell_same _ g 2 _ t v2 h1
  exact heap_setCell_same _ g 3 _ t v3 h2
theorem frozenBox {w : World} {g : Nat} {x y z u : Value} {t : TypeId} (h : w.heap[g]? = some (.cells #[x, y, z, u] t (0, 0))) : w.frozen? ⟨g, 0, none⟩ = false ∧ w.frozen? ⟨g, 1, none⟩ = false ∧ w.frozen? ⟨g, 2, none⟩ = false ∧ w.frozen? ⟨g, 3, none⟩ = false :=
  ⟨frozen_of_row w g 0 _ _ h, frozen_of_row w g 1 _ _ h, frozen_of_row w g 2 _ _ h, frozen_of_row w g 3 _ _ h⟩
theorem PW.set {ls : List (List UInt8)} {base b i : Nat} {v u : Value} {w : World} (h : PW ls base v w) (hb : b < base) : PW ls base v (w.setCell ⟨b, i, none⟩ u) := by
  obtain ⟨es, h1, h2, h3⟩ := h
  refine ⟨es, h1, h2.kept (grown_set1 w b i u) (.inr (fun e => by have := (h2.lt b e).1; omega)), fun r hr => ?_⟩
  obtain ⟨g, a, q, c⟩ := h3 r hr
  exact ⟨g, a, q, c.kept (grown_set1 w b i u) (.inr (fun e => by have := (c.lt b e).1; omega))⟩
end Go.Proofs.YtidcnoejihjgjaaGreatDoor.Pc
namespace Go.Proofs.YtidcnoejihjgjaaGreatDoor.Pc
open Go.RowKit
open VecM RdM Vc Sp
theorem xorL_at (a b : List UInt8) (j : Nat) (h : j < a.length) : (xorL a b).getD j 0 = a.getD j 0 ^^^ b.getD j 0 := by
  unfold xorL
  rw [xl_getD a b a.length j h, if_pos h]
theorem byte_mix (a b c d : UInt8) : (a ^^^ b) ^^^ (c ^^^ d) = (a ^^^ c) ^^^ (b ^^^ d) := by
  rw [UInt8.xor_assoc, ← UInt8.xor_assoc b c d, UInt8.xor_comm b c, UInt8.xor_assoc c b d, ← UInt8.xor_assoc]
theorem sumR_lin (X z : Nat) (l1 l2 l3 : List (List UInt8)) : ∀ k, (∀ i, i < k → ∀ j, j < z → (l3.getD i []).getD j 0 = (l1.getD i []).getD j 0 ^^^ (l2.getD i []).getD j 0) → ∀ j, j < z → (sumR X z l3 k).getD j 0 = (sumR X z l1 k).getD j 0 ^^^ (sumR X z l2 k).getD j 0
  | 0, _, j, hj => by simp [sumR, List.getD, hj]
  | k + 1, h, j, hj => by
    have ih := sumR_lin X z l1 l2 l3 k (fun i hi => h i (by omega)) j hj
    unfold sumR
    by_cases e : X.testBit k = true
    · rw [if_pos e, if_pos e, if_pos e, xorL_at _ _ _ (by rw [sumR_length]; exact hj), xorL_at _ _ _ (by rw [sumR_length]; exact hj), xorL_at _ _ _ (by rw [sumR_length]; exact hj), ih, h k (by omega) j hj, byte_mix]
    · rw [if_neg e, if_neg e, if_neg e]; exact ih
end Go.Proofs.YtidcnoejihjgjaaGreatDoor.Pc
namespace Go.Proofs.YtidcnoejihjgjaaGreatDoor.Pc
open Go.RowKit
open VecM RdM Vc Sp
def PQ (es fs : List BRow) (base : Nat) (u v : Value) (W : World) : Prop :=
  W.ownsRow base 22 1 u es.length (es.map BRow.val) ∧ W.ownsRow base 22 1 v fs.length (fs.map BRow.val) ∧
    (∀ r ∈ es, Pc2 W base u r ∧ Pc2 W base v r) ∧ (∀ r ∈ fs, Pc2 W base u r ∧ Pc2 W base v r) ∧ ∀ b, u.ownBlock = some b → v.ownBlock ≠ some b
def PW2 (ms ns : List (List UInt8)) (base : Nat) (u v : Value) (W : World) : Prop :=
  ∃ es fs : List BRow, es.map (·.l) = ms ∧ fs.map (·.l) = ns ∧ PQ es fs base u v W
theorem own_grown {w w' : World} {base : Nat} {e : TypeId} {v : Value} {n : Nat} {row : Option Nat} {xs : List Value} (h : w.ownsRow base e 1 v n xs) (hg : w.grownBy w' row) (hr : ∀ g, v.ownBlock = some g → row ≠ some g) : w'.ownsRow base e 1 v n xs := by
  refine ⟨h.1, ?_⟩
  rcases h.2 with h0 | ⟨g, cap, cur, rfl, hbg, hgb, r⟩
  · exact .inl h0
  · refine .inr ⟨g, cap, cur, rfl, hbg, ?_, r⟩
    rw [hg.block g (Array.getElem?_eq_some_iff.1 hgb).1 (fun e => hr g rfl e.symm)]; exact hgb
theorem Pc2.grown {W W' : World} {base : Nat} {v v' : Value} {r : BRow} {row : Option Nat} (h : Pc2 W base v r) (hg : W.grownBy W' row) (hr : ∀ g, r.A = some ⟨g, 0, none⟩ → row ≠ some g) (hv : v' = v ∨ v'.ownBlock = v.ownBlock ∨ v'.ownBlock = some W.heap.size) : Pc2 W' base v' r := by
  obtain ⟨g, a, b, c⟩ := h
  have hlt : g < W.heap.size := (c.lt g (by rw [a]; rfl)).2
  refine ⟨g, a, ?_, own_grown c hg (fun g' e => hr g' (by have e' : g = g' := (by rw [a] at e; exact Option.some.inj e); rw [← e']; exact a))⟩
  intro e
  rcases hv with h | h | h
  · rw [h] at e; exact b e
  · exact b (h.symm.trans e)
  · rw [h] at e; injection e with e; omega
theorem PQ.swap {es fs : List BRow} {base : Nat} {u v : Value} {W : World} (h : PQ es fs base u v W) : PQ fs es base v u W := by
  obtain ⟨h3, h4, h5, h6, h7⟩ := h
  exact ⟨h4, h3, fun r hr => ⟨(h6 r hr).2, (h6 r hr).1⟩, fun r hr => ⟨(h5 r hr).2, (h5 r hr).1⟩, fun b e1 e2 => h7 b e2 e1⟩
theorem PW2.fst {ms ns : List (List UInt8)} {base : Nat} {u v : Value} {W : World} (h : PW2 ms ns base u v W) : PW ms base u W := by
  obtain ⟨es, fs, h1, h2, h3, h4, h5, h6, h7⟩ := h
  exact ⟨es, h1, by rw [← h1, List.length_map]; exact h3, fun r hr => (h5 r hr).1⟩
theorem PW2.snd {ms ns : List (List UInt8)} {base : Nat} {u v : Value} {W : World} (h : PW2 ms ns base u v W) : PW ns base v W := by
  obtain ⟨es, fs, h1, h2, h3, h4, h5, h6, h7⟩ := h
  exact ⟨fs, h2, by rw [← h2, List.length_map]; exact h4, fun r hr => (h6 r hr).2⟩
theorem PW2.nil {base : Nat} {W : World} : PW2 [] [] base (.slice none 0 0) (.slice none 0 0) W :=
  ⟨[], [], rfl, rfl, World.ownsRow_nil _ _ _ _, World.ownsRow_nil _ _ _ _, fun r hr => (by cases hr), fun r hr => (by cases hr), fun b e => (by cases e)⟩
theorem PQ.app {base g0 n0 c0 k : Nat} {u u' v : Value} {l : List UInt8} {wr W2 w5 : World} {es fs : List BRow} (hk : es.length = k) (h : PQ es fs base u v wr)
    (hb : Below wr.heap.size wr W2) (ho : W2.ownsRow base 5 1 (.slice (some ⟨g0, 0, none⟩) n0 c0) n0 (bv l)) (hgu : u.ownBlock ≠ some g0) (hgv : v.ownBlock ≠ some g0)
    (hown : w5.ownsRow base 22 1 u' (k + 1) (es.map BRow.val ++ [.slice (some ⟨g0, 0, none⟩) n0 c0])) (hg : W2.grownBy w5 u.ownBlock) (hv : u'.ownBlock = u.ownBlock ∨ u'.ownBlock = some W2.heap.size) : PQ (es ++ [⟨some ⟨g0, 0, none⟩, n0, c0, l⟩]) fs base u' v w5 := by
  subst hk
  obtain ⟨h3, h4, h5, h6, h7⟩ := h
  have hub : ∀ b, u.ownBlock = some b → b < wr.heap.size := fun b e => (h3.lt b e).2
  have hvb : ∀ b, v.ownBlock = some b → b < wr.heap.size := fun b e => (h4.lt b e).2
  have hg0 := (ho.lt g0 rfl)
  have hW := hb.size
  have mv : ∀ r, Pc2 wr base u r → Pc2 wr base v r → Pc2 w5 base u' r ∧ Pc2 w5 base v r := by
    intro r q1 q2
    have hr : ∀ g, r.A = some ⟨g, 0, none⟩ → u.ownBlock ≠ some g := by
      obtain ⟨g', a, b, _⟩ := q1
      intro g e
      rw [a] at e
      injection e with e
      injection e with e
      subst e
      exact b
    exact ⟨(q1.below hb).grown hg hr (.inr hv), (q2.below hb).grown hg hr (.inl rfl)⟩
  have hnew5 : w5.ownsRow base 5 1 (.slice (some ⟨g0, 0, none⟩) n0 c0) n0 (bv l) := own_grown ho hg (fun g e e2 => by
    have e1 : some g0 = some g := e
    injection e1 with e1
    rw [e1] at hgu
    exact hgu e2)
  refine ⟨by rw [List.length_append]; simpa [BRow.val] using hown, ?_, ?_, ?_, ?_⟩
  · exact own_grown (own_below h4 hb) hg (fun g e e2 => h7 g e2 e)
  · intro r hr
    rcases List.mem_append.1 hr with hr | hr
    · exact mv r (h5 r hr).1 (h5 r hr).2
    · obtain rfl := List.mem_singleton.1 hr
      refine ⟨⟨g0, rfl, ?_, hnew5⟩, ⟨g0, rfl, ?_, hnew5⟩⟩
      · intro e
        rcases hv with q | q
        · exact hgu (q.symm.trans e)
        · rw [q] at e; injection e with e; omega
      · exact hgv
  · exact fun r hr => mv r (h6 r hr).1 (h6 r hr).2
  · intro b e e2
    rcases hv with q | q
    · exact h7 b (q.symm.trans e) e2
    · rw [q] at e; injection e with e; have := hvb b e2; omega
def RelS (Z : Nat) (ls : List (List UInt8)) (k : Nat) (ms ns : List (List UInt8)) : Prop :=
  ms.length = k ∧ ns.length = k ∧ (∀ l ∈ ms, l.length = Z) ∧ (∀ l ∈ ns, l.length = Z) ∧ ∀ i, i < k → ∀ j, j < Z → (ns.getD i []).getD j 0 = (ls.getD i []).getD j 0 ^^^ (ms.getD i []).getD j 0
theorem RelS.next {Z k : Nat} {ls ms ns : List (List UInt8)} (h : RelS Z ls k ms ns) {a c l : List UInt8} (ha : a.length = Z) (hc : c.length = Z) (hl : ls.getD k [] = l) (hj : ∀ j, j < Z → c.getD j 0 = a.getD j 0 ^^^ l.getD j 0) : RelS Z ls (k + 1) (ms ++ [a]) (ns ++ [c]) := by
  obtain ⟨h1, h2, h3, h4, h5⟩ := h
  have g1 : ∀ i, i < k → (ms ++ [a]).getD i [] = ms.getD i [] := fun i hi => by simp only [List.getD]; rw [List.getElem?_append_left (by omega)]
  have g2 : ∀ i, i < k → (ns ++ [c]).getD i [] = ns.getD i [] := fun i hi => by simp only [List.getD]; rw [List.getElem?_append_left (by omega)]
  refine ⟨by simp [h1], by simp [h2], ?_, ?_, ?_⟩
  · intro q hq
    rcases List.mem_append.1 hq with hq | hq
    · exact h3 q hq
    · rw [List.mem_singleton.1 hq]; exact ha
  · intro q hq
    rcases List.mem_append.1 hq with hq | hq
    · exact h4 q hq
    · rw [List.mem_singleton.1 hq]; exact hc
  · intro i hi j hj2
    by_cases e : i = k
    · subst e
      have e1 : (ms ++ [a]).getD i [] = a := by simp only [List.getD]; rw [List.getElem?_append_right (by omega), h1, Nat.sub_self]; rfl
      have e2 : (ns ++ [c]).getD i [] = c := by simp only [List.getD]; rw [List.getElem?_append_right (by omega), h2, Nat.sub_self]; rfl
      rw [e1, e2, hl, hj j hj2, UInt8.xor_comm]
    · rw [g1 i (by omega), g2 i (by omega)]
      exact h5 i (by omega) j hj2
def TwoR (n gx gy : Nat) (w wx : World) : Prop :=
  gx ≠ gy ∧ wx.ownsRow w.heap.size 5 1 (.slice (some ⟨gx, 0, none⟩) n n) n (bv (List.replicate n 0)) ∧ wx.ownsRow w.heap.size 5 1 (.slice (some ⟨gy, 0, none⟩) n n) n (bv (List.replicate n 0)) ∧ Below w.heap.size w wx
theorem TwoR.swap {n gx gy : Nat} {w wx : World} (h : TwoR n gx gy w wx) : TwoR n gy gx w wx := ⟨h.1.symm, h.2.2.1, h.2.1, h.2.2.2⟩
theorem TwoR.drew {n gx gy : Nat} {w wx : World} (h : TwoR n gx gy w.drew wx) : TwoR n gx gy w wx := ⟨h.1, h.2.1, h.2.2.1, (Below.refl _ _).drew.trans h.2.2.2⟩
def XY (n gx gy : Nat) (rl : List UInt8) (m : Nat) (w wr : World) : Prop :=
  (∃ a c : List UInt8, a.length = n ∧ c.length = n ∧ (∀ j, j < m → c.getD j 0 = a.getD j 0 ^^^ rl.getD j 0) ∧ wr.ownsRow w.heap.size 5 1 (.slice (some ⟨gx, 0, none⟩) n n) n (bv a) ∧ wr.ownsRow w.heap.size 5 1 (.slice (some ⟨gy, 0, none⟩) n n) n (bv c)) ∧ Below w.heap.size w wr
theorem XY.drew {n gx gy m : Nat} {rl : List UInt8} {w wr : World} (h : Hid (XY n gx gy rl m w wr)) : Hid (XY n gx gy rl m w wr.drew) := by
  obtain ⟨⟨a, c, h1, h2, h3, h4, h5⟩, hb⟩ := h.out
  exact Lib.hid ⟨⟨a, c, h1, h2, h3, h4, h5⟩, hb.drew⟩
theorem bv_set' (a : List UInt8) (m : Nat) (X : UInt8) : (bv a).set m (.int .u8 (X.toNat : Int)) = bv (a.set m X) := by
  unfold bv
  rw [List.map_set]
theorem XY.next {n gx gy m : Nat} {rl a c : List UInt8} {X Y : UInt8} {w wr : World} (hne : gx ≠ gy) (ha : a.length = n) (hc : c.length = n) (hj : ∀ j, j < m → c.getD j 0 = a.getD j 0 ^^^ rl.getD j 0) (hm : m < n) (hY : Y = X ^^^ rl.getD m 0)
    (hoa : wr.ownsRow w.heap.size 5 1 (.slice (some ⟨gx, 0, none⟩) n n) n (bv (a.set m X))) (hoc : wr.ownsRow w.heap.size 5 1 (.slice (some ⟨gy, 0, none⟩) n n) n (bv c)) (hb : Below w.heap.size w wr) :
    Hid (XY n gx gy rl (m + 1) w (wr.setCell ⟨gy, m, none⟩ (.int .u8 (Y.toNat : Int)))) := by
  have h1 := (hoc.stored m (.int .u8 (Y.toNat : Int))).1
  rw [bv_set'] at h1
  have h2 := hoa.kept (grown_set1 wr gy m (.int .u8 (Y.toNat : Int))) (.inr (fun e => hne (Option.some.inj e)))
  refine Lib.hid ⟨⟨a.set m X, c.set m Y, by simpa using ha, by simpa using hc, fun j hj2 => ?_, h2, h1⟩, hb.setCell ((hoc.lt gy rfl).1) _⟩
  simp only [List.getD, List.getElem?_set]
  by_cases e : m = j
  · subst e
    rw [if_pos rfl, if_pos rfl, if_pos (by omega), if_pos (by omega), hY]; rfl
  · rw [if_neg e, if_neg e]
    exact hj j (by omega)
theorem allP_len {s K Z P : Nat} {ls : List (List UInt8)} (h : ∀ l ∈ ls, l.length = Z) : ∀ l ∈ allP s K Z ls P, l.length = Z := by
  intro l hl
  unfold allP at hl
  rcases List.mem_append.1 hl with hl | hl
  · exact h l hl
  · obtain ⟨i, _, e⟩ := List.mem_map.1 hl
    rw [← e, sumR_length]
theorem allP_lin {s K Z P : Nat} {ls ms ns : List (List UInt8)} (hl : ls.length = K) (h : RelS Z ls K ms ns) (i : Nat) (hi : i < K + P) (j : Nat) (hj : j < Z) :
    ((allP s K Z ns P).getD i []).getD j 0 = ((allP s K Z ls P).getD i []).getD j 0 ^^^ ((allP s K Z ms P).getD i []).getD j 0 := by
  obtain ⟨h1, h2, _, _, h5⟩ := h
  have g : ∀ l : List (List UInt8), l.length = K → (allP s K Z l P).getD i [] = if i < K then l.getD i [] else sumR (parJ s K (i - K)) Z l K := by
    intro l hl
    unfold allP
    by_cases e : i < K
    · rw [if_pos e, List.getD_eq_getElem?_getD, List.getElem?_append_left (by omega)]; rfl
    · rw [if_neg e, List.getD_eq_getElem?_getD, List.getElem?_append_right (by omega), hl]
      have : i - K < P := by omega
      simp [this]
  rw [g ns h2, g ls hl, g ms h1]
  by_cases e : i < K
  · rw [if_pos e, if_pos e, if_pos e]; exact h5 i e j hj
  · rw [if_neg e, if_neg e, if_neg e]
    exact sumR_lin _ Z ls ms ns K h5 j hj
end Go.Proofs.YtidcnoejihjgjaaGreatDoor.Pc
namespace Go.Proofs.YtidcnoejihjgjaaGreatDoor.Pc
open Go.RowKit
open VecM RdM Vc Sp
theorem L_step (X n : Nat) : L X (n + 1) = L X n ++ (if X.testBit n then [n] else []) := by
  unfold L
  rw [List.range_succ, List.filter_append]
  congr 1
  cases h : X.testBit n <;> simp [h]
theorem putBit (X k i : Nat) (on : Bool) : (put X k on).testBit i = if i = k then on else X.testBit i := by
  unfold put
  cases on with
  | true =>
    rw [if_pos rfl, Nat.testBit_or, Nat.testBit_two_pow]
    by_cases e : i = k
    · subst e; simp
    · rw [if_neg e]; simp; intro h; exact absurd h.symm e
  | false =>
    rw [if_neg (by decide), clr_bit]
    by_cases e : i = k
    · subst e; simp
    · rw [if_neg e]; simp [e]
theorem parX_bit (x0 : Int) (b i : Nat) : ∀ k, (parX x0 b k).testBit i = if i < k then odd (mx (shk x0 (i + 1))) else decide (b = i)
  | 0 => by rw [if_neg (by omega)]; exact Nat.testBit_two_pow
  | k + 1 => by
    show (put (parX x0 b k) k _).testBit i = _
    rw [putBit, parX_bit x0 b i k]
    by_cases e : i = k
    · subst e; rw [if_pos rfl, if_pos (by omega)]
    · rw [if_neg e]
      by_cases h : i < k
      · rw [if_pos h, if_pos (by omega)]
      · rw [if_neg h, if_neg (by omega)]
theorem L_none (X a : Nat) : ∀ d, (∀ i, a ≤ i → i < a + d → X.testBit i = false) → L X (a + d) = L X a
  | 0, _ => rfl
  | d + 1, h => by
    rw [← Nat.add_assoc, L_step, h (a + d) (by omega) (by omega), L_none X a d (fun i h1 h2 => h i h1 (by omega))]
    simp
end Go.Proofs.YtidcnoejihjgjaaGreatDoor.Pc
