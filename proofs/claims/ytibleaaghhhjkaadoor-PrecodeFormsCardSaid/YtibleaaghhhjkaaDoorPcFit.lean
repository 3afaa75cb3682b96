/- precode.fit, and lists of rows of bytes of one's own: by contract. -/
import Derived.Test.YtibleaaghhhjkaaDoorPcSum
namespace Go.Proofs.YtibleaaghhhjkaaDoor.Pc
open Go.RowKit
open VecM RdM Vc Sp
def fitB (K Z n : Nat) (es : List BRow) : Bool := decide (n = K) && es.all fun r => r.n == Z
theorem fitB_yes {K Z n : Nat} {es : List BRow} : fitB K Z n es = true ↔ n = K ∧ ∀ r ∈ es, r.n = Z := by
  unfold fitB
  simp
theorem fitB_len {K Z n : Nat} {es : List BRow} (h : n ≠ K) : fitB K Z n es = false := by
  unfold fitB
  simp [h]
theorem fitB_row {K Z n : Nat} {es : List BRow} {r : BRow} (h : r ∈ es) (hr : r.n ≠ Z) : fitB K Z n es = false := by
  cases e : fitB K Z n es with
  | false => rfl
  | true => exact absurd ((fitB_yes.1 e).2 r h) hr
set_option maxRecDepth 100000 in
set_option maxHeartbeats 1600000 in
theorem fit_any (s K P Z n c B : Nat) (A : Option Addr) (es : List BRow) (w : World) (hl : Rows2 w B A n es) (hB : B ≤ w.heap.size) (hn : n ≤ 1000000) (hz : ∀ r ∈ es, r.n ≤ 1000000) :
    Calls Tryd.prog 46 #[parV s K P Z, .slice A n c] w fun e w' => e = .returned (.bool (fitB K Z n es)) ∧ Hid (Below w.heap.size w w') := by
  have HX0 := Lib.hid (heap_alloc_new w (.cells #[.int .u32 (s : Int), .int .i64 (K : Int), .int .i64 (P : Int), .int .i64 (Z : Int)] 24))
  have HB0 : Hid (Below w.heap.size w (w.alloc (.cells #[.int .u32 (s : Int), .int .i64 (K : Int), .int .i64 (P : Int), .int .i64 (Z : Int)] 24))) := (Below.refl _ _).alloc (Nat.le_refl _) _
  have HL := Lib.hid (hl.below (HB0.out.mono hB))
  have hbx := box4 HX0.out
  generalize hw0 : (w.alloc (.cells #[.int .u32 (s : Int), .int .i64 (K : Int), .int .i64 (P : Int), .int .i64 (Z : Int)] 24)) = w0 at *
  have HW0 := Lib.hid hw0
  have HBX := Lib.hid hbx
  have HZ := Lib.hid hz
  clear hl hB hbx hw0 hz
  unfold parV
  by_cases hnk : n = K
  · subst hnk
    go_enter Tryd.func46, Tryd.ntmps46
    go_upto_region 1 with fail
    rw [HW0.out]
    obtain ⟨c0, c1, c2, c3⟩ := HBX.out
    go_wp2_with fail
    go_loop [14] (fun i => ∃ k : Nat, k ≤ n ∧ i = .int .i64 k ∧ Hid (∀ r ∈ es.take k, r.n = Z)) (fun i => n - (intOf i).toNat)
    case atStart => exact ⟨0, by omega, rfl, Lib.hid (fun r hr => by simp at hr)⟩
    case round =>
      obtain ⟨k, hk, rfl, hall⟩ := hrel
      by_cases hlt : k < n
      · obtain ⟨b, o, rfl, r, hr, hcell, hrow⟩ := HL.out.at_ hlt
        have hmem := List.mem_of_getElem? hr
        have hki : (k : Int) < (n : Int) := by omega
        have hkb : (k : Int) < 1000000 := by omega
        by_cases hrz : r.n = Z
        · have hne : ((r.n : Int) != (Z : Int)) = false := by simp; omega
          have hall2 : Hid (∀ r ∈ es.take (k + 1), r.n = Z) := Lib.hid (fun q hq => by
            have hlk := (List.getElem?_eq_some_iff.1 hr).1
            rw [List.take_succ_eq_append_getElem hlk] at hq
            rcases List.mem_append.1 hq with h | h
            · exact hall.out q h
            · have e := List.mem_singleton.1 h
              rw [List.getElem?_eq_getElem hlk] at hr
              injection hr with hr
              rw [e, hr]; exact hrz)
          clear hr hmem hrow hrz
          go_wp2_with fail
          go_round
          case rel => exact ⟨k + 1, by omega, by go_num, hall2⟩
          case measure => simp [intOf]; omega
        · have hne : ((r.n : Int) != (Z : Int)) = true := by simp; omega
          have hres := Lib.hid (fitB_row (K := n) (n := n) hmem hrz)
          clear hr hmem hrow hrz hall
          go_wp2_with fail
          go_ret
          exact ⟨by rw [hres.out]; rfl, HB0⟩
      · obtain rfl : n = k := by omega
        have hes : Hid (fitB n Z n es = true) := Lib.hid (fitB_yes.2 ⟨rfl, fun r hr => hall.out r (by
          have := HL.out.1.1
          rw [List.take_of_length_le (by simp at this; omega)]; exact hr)⟩)
        clear hall hlt
        go_wp2_with fail
        go_ret
        exact ⟨by rw [hes.out]; rfl, HB0⟩
  · have hne : ((n : Int) != (K : Int)) = true := by simp; omega
    have hres := Lib.hid (fitB_len (Z := Z) (es := es) hnk)
    clear hnk
    go_enter Tryd.func46, Tryd.ntmps46
    go_upto_region 1 with fail
    rw [HW0.out]
    obtain ⟨c0, c1, c2, c3⟩ := HBX.out
    go_wp2_with fail
    go_ret
    exact ⟨by rw [hres.out]; rfl, HB0⟩
/-- a row of bytes of one's own, apart from v -/
def Pc2 (W : World) (base : Nat) (v : Value) (r : BRow) : Prop :=
  ∃ g, r.A = some ⟨g, 0, none⟩ ∧ v.ownBlock ≠ some g ∧ W.ownsRow base 5 1 (.slice r.A r.n r.c) r.n (bv r.l)
/-- v: a list of such rows, its bytes told -/
def PW (ls : List (List UInt8)) (base : Nat) (v : Value) (wr : World) : Prop :=
  ∃ es : List BRow, es.map (·.l) = ls ∧ wr.ownsRow base 65 1 v ls.length (es.map BRow.val) ∧ ∀ r ∈ es, Pc2 wr base v r
theorem PW.below {ls : List (List UInt8)} {base : Nat} {v : Value} {w w' : World} (h : PW ls base v w) (hb : Below w.heap.size w w') : PW ls base v w' := by
  obtain ⟨es, h1, h2, h3⟩ := h
  refine ⟨es, h1, own_below h2 hb, fun r hr => ?_⟩
  obtain ⟨g, a, b, c⟩ := h3 r hr
  exact ⟨g, a, b, own_below c hb⟩
theorem PW.rows {ls : List (List UInt8)} {base : Nat} {v : Value} {w : World} (h : PW ls base v w) : ∃ A c es, v = .slice A ls.length c ∧ es.map (·.l) = ls ∧ Rows2 w w.heap.size A ls.length es ∧ ls.length ≤ c := by
  obtain ⟨es, h1, h2, h3⟩ := h
  obtain ⟨A, c, rfl, hc, _⟩ := own_slice h2
  exact ⟨A, c, es, rfl, h1, ⟨Row.of_own h2, fun r hr => by obtain ⟨g, _, _, q⟩ := h3 r hr; exact Row.of_own q⟩, hc⟩
theorem PW.next {ls : List (List UInt8)} {base g0 n0 c0 : Nat} {v v' : Value} {l : List UInt8} {W2 w3 : World} {es : List BRow} (h1 : es.map (·.l) = ls) (h2 : W2.ownsRow base 65 1 v ls.length (es.map BRow.val)) (h3 : ∀ r ∈ es, Pc2 W2 base v r)
    (hv0 : v.ownBlock ≠ some g0) (ho : W2.ownsRow base 5 1 (.slice (some ⟨g0, 0, none⟩) n0 c0) n0 (bv l))
    (hown : w3.ownsRow base 65 1 v' (ls.length + 1) (es.map BRow.val ++ [.slice (some ⟨g0, 0, none⟩) n0 c0])) (hg : W2.grownBy w3 v.ownBlock) (hv : v'.ownBlock = v.ownBlock ∨ v'.ownBlock = some W2.heap.size) : PW (ls ++ [l]) base v' w3 := by
  have hmv : ∀ (r : BRow), Pc2 W2 base v r → Pc2 w3 base v' r := by
    rintro r ⟨g, a, b, c⟩
    have hlt : g < W2.heap.size := (c.lt g (by rw [a]; rfl)).2
    refine ⟨g, a, ?_, ?_⟩
    · intro e
      rcases hv with h | h
      · exact b (h.symm.trans e)
      · rw [h] at e; injection e with e; omega
    · refine ⟨c.1, ?_⟩
      rcases c.2 with h0 | ⟨g', cap, cur, e1, hbg, hgb, r3⟩
      · rw [a] at h0; exact absurd h0.1 (by intro e; cases e)
      · refine .inr ⟨g', cap, cur, e1, hbg, ?_, r3⟩
        rw [a] at e1
        injection e1 with e1
        injection e1 with e1
        injection e1 with e1
        subst e1
        rw [hg.block _ hlt (fun e => b e.symm)]; exact hgb
  refine ⟨es ++ [⟨some ⟨g0, 0, none⟩, n0, c0, l⟩], ?_, ?_, ?_⟩
  · rw [List.map_append, h1]; rfl
  · rw [List.length_append]; simpa [BRow.val] using hown
  · intro r hr
    rcases List.mem_append.1 hr with hr | hr
    · exact hmv r (h3 r hr)
    · obtain rfl := List.mem_singleton.1 hr
      exact hmv _ ⟨g0, rfl, hv0, ho⟩
end Go.Proofs.YtibleaaghhhjkaaDoor.Pc
