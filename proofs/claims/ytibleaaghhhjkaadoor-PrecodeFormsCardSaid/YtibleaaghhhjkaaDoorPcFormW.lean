/- PrecodeForms' walk. -/
import Derived.Test.YtibleaaghhhjkaaDoorR7Prec
import Derived.Test.YtibleaaghhhjkaaDoorPcNothW
import Derived.Test.YtibleaaghhhjkaaDoorPcAwake
import Derived.Test.YtibleaaghhhjkaaDoorLike
namespace Go.Proofs.YtibleaaghhhjkaaDoor.Pc
open Go.RowKit
open VecM RdM Vc Sp
/-- rows, and a like list of bits: where they lie -/
def LF (Q : Nat) (A5 A6 : Option Addr) (W : World) : Prop := ∀ j, j < Q → ∃ b o g h n X b' o' A' c', A5 = some ⟨b, o, none⟩ ∧ W.cell? ⟨b, o + j, none⟩ = some (.pointer (some ⟨g, 0, none⟩)) ∧ VecAt W g h n X ∧ A6 = some ⟨b', o', none⟩ ∧ W.cell? ⟨b', o' + j, none⟩ = some (.slice A' n c') ∧ Row W W.heap.size A' n (vb X n)
theorem LF.below {Q : Nat} {A5 A6 : Option Addr} {W W' : World} (h : LF Q A5 A6 W) (hb : Below W.heap.size W W') : LF Q A5 A6 W' := fun j hj => by
  obtain ⟨b, o, g, h', n, X, b', o', A', c', e1, h1, h2, e2, h3, h4⟩ := h j hj
  exact ⟨b, o, g, h', n, X, b', o', A', c', e1, (hb.cell (p := ⟨b, o + j, none⟩) (block_lt_of_cell h1)).trans h1, h2.below hb, e2, (hb.cell (p := ⟨b', o' + j, none⟩) (block_lt_of_cell h3)).trans h3, (h4.below hb).more hb.size⟩
def ARows (s K P gA : Nat) (gs hs : Nat → Nat) (W : World) : Prop := VRows s K P P gA gs hs W ∧ W.ownsRow 0 26 1 (.slice (some ⟨gA, 0, none⟩) P P) P (pvk gs P P)
theorem ARows.below {s K P gA : Nat} {gs hs : Nat → Nat} {W W' : World} (h : ARows s K P gA gs hs W) (hb : Below W.heap.size W W') : ARows s K P gA gs hs W' :=
  ⟨fun j hj => ⟨(h.1 j hj).1, (h.1 j hj).2.1, (h.1 j hj).2.2.below hb⟩, own_below h.2 hb⟩
theorem pb_slice {n P : Nat} {Xs : Nat → Nat} {base : Nat} {v : Value} {w : World} (h : PB n ((List.range P).map Xs) base v w) : ∃ A c, v = .slice A P c ∧ PB n ((List.range P).map Xs) base (.slice A P c) w := by
  obtain ⟨es, h1, h2, h3⟩ := h
  have hl : ((List.range P).map Xs).length = P := by simp
  obtain ⟨A, c, e, _⟩ := own_slice h2
  rw [hl] at e
  subst e
  exact ⟨A, c, rfl, es, h1, h2, h3⟩
theorem lf_of {s K P gA : Nat} {gs hs : Nat → Nat} {Ap : Option Addr} {cp : Nat} {W : World} (h : ARows s K P gA gs hs W) (hp : PB (K + P) (parAll s K P) 0 (.slice Ap P cp) W) : LF P (some ⟨gA, 0, none⟩) Ap W := fun j hj => by
  obtain ⟨es, e1, e2, e3⟩ := hp
  rw [parAll_length] at e2
  have hfl : j < es.length := by have := congrArg List.length e1; rw [parAll_length, List.length_map] at this; omega
  obtain ⟨q, hq⟩ : ∃ q, es[j]? = some q := ⟨_, List.getElem?_eq_getElem hfl⟩
  have hqX : q.2 = parJ s K j := by
    have h1 := congrArg (fun l : List Nat => l[j]?) e1
    simp only [List.getElem?_map, hq, parAll, List.getElem?_range hj] at h1
    exact Option.some.inj h1
  obtain ⟨_, hq2⟩ := e3 q (List.mem_of_getElem? hq)
  rw [hqX] at hq2
  obtain ⟨bp, op, hAp, _, hcp⟩ := (Row.of_own e2).cellAt (k := j) hj (u := .slice (some ⟨q.1, 0, none⟩) (K + P) (K + P)) (by rw [List.getElem?_map, hq]; rfl)
  obtain ⟨b, o, hA, _, hc⟩ := (Row.of_own h.2).cellAt (k := j) hj (u := .pointer (some ⟨gs j, 0, none⟩)) (by rw [pvk_get gs P P j hj, if_pos hj])
  exact ⟨b, o, gs j, hs j, K + P, parJ s K j, bp, op, _, _, hA, hc, (h.1 j hj).2.2, hAp, hcp, Row.of_own hq2⟩
def R2H (A : Option Addr) (n : Nat) (es : List BRow) (W : World) : Prop := Rows2 W W.heap.size A n es
theorem R2H.below {A : Option Addr} {n : Nat} {es : List BRow} {W W' : World} (h : R2H A n es W) (hb : Below W.heap.size W W') : R2H A n es W' := ⟨(Row.below h.1 hb).more hb.size, fun r hr => ((h.2 r hr).below hb).more hb.size⟩
def LightOk (n : Nat) (es : List BRow) (w : World) (e : Ending) (w' : World) : Prop := ∃ b : Bool, e = .returned (.bool b) ∧ Hid (b = true → n ≤ 100 ∧ ∀ r ∈ es, r.n ≤ 50) ∧ Hid (Below w.heap.size w w')
theorem light9_any (n c B : Nat) (A : Option Addr) (es : List BRow) (w : World) (hl : Rows2 w B A n es) (hB : B ≤ w.heap.size) (hn : n ≤ 9223372036854775807) : Calls Tryd.prog 15 #[.slice A n c] w (LightOk n es w) := by
  have HL := Lib.hid hl
  have HLEN : Hid (es.length = n) := Lib.hid (by have := hl.1.1; simpa using this)
  clear hl
  go_enter Tryd.func15, Tryd.ntmps15
  go_wp2_with fail
  go_loopw [7] (fun i wr => ∃ k : Nat, k ≤ n ∧ k ≤ 100 ∧ i = .int .i64 k ∧ Hid (∀ r ∈ es.take k, r.n ≤ 50) ∧ Hid (Below w.heap.size w wr)) (fun i _ => n - (intOf i).toNat)
  case atStart => exact ⟨0, by omega, by omega, rfl, Lib.hid (by simp), Lib.hid (Below.refl _ _)⟩
  case round =>
    obtain ⟨k, hk, hk1, rfl, haf, hbk⟩ := hrel
    by_cases hlt : k < n
    · obtain ⟨b, o, rfl, r, hr, hcell, hrow⟩ := (HL.out.below (hbk.out.mono hB)).at_ hlt
      have hki : (k : Int) < (n : Int) := by omega
      have HAF := Lib.hid haf.out
      have HRR := Lib.hid hr
      clear haf hr hrow
      by_cases h1 : 100 ≤ k
      · have h1i : (100 : Int) ≤ (k : Int) := by omega
        go_wp2_with fail
        go_ret
        exact ⟨false, rfl, Lib.hid (fun h => by cases h), hbk⟩
      · have h1i : ¬ (100 : Int) ≤ (k : Int) := by omega
        by_cases h2 : 50 < r.n
        · have h2i : (50 : Int) < (r.n : Int) := by omega
          go_wp2_with fail
          go_ret
          exact ⟨false, rfl, Lib.hid (fun h => by cases h), hbk⟩
        · have h2i : ¬ (50 : Int) < (r.n : Int) := by omega
          have HN : Hid (∀ q ∈ es.take (k + 1), q.n ≤ 50) := Lib.hid (by
            have hlk : k < es.length := by have := HLEN.out; omega
            rw [List.take_succ_eq_append_getElem hlk]
            have h3 := List.getElem?_eq_getElem (l := es) (i := k) hlk
            have hrr := HRR.out
            rw [h3] at hrr; injection hrr with hrr; rw [hrr]
            intro q hq
            rcases List.mem_append.1 hq with hq | hq
            · exact HAF.out q hq
            · obtain rfl := List.mem_singleton.1 hq
              omega)
          go_wp2_with fail
          go_roundw
          case rel => exact ⟨k + 1, by omega, by omega, by go_num, HN, hbk⟩
          case measure => simp [intOf]; omega
    · obtain rfl : n = k := by omega
      clear hlt
      rw [List.take_of_length_le (by have := HLEN.out; omega)] at haf
      have HAF := Lib.hid haf.out
      clear haf
      go_wp2_with fail
      go_ret
      exact ⟨true, rfl, Lib.hid (fun _ => ⟨hk1, HAF.out⟩), hbk⟩
theorem rows_bad (s : Nat) (K P Z : Int) (w : World) (hm : mayB K P Z = false) :
    Calls Tryd.prog 17 #[parV s K P Z] w fun e w' => e = .returned (.slice none 0 0) ∧ Hid (Below w.heap.size w w') := by
  have hM := fun W => may_any s K P Z W
  rw [hm] at hM
  have HB0 : Hid (Below w.heap.size w (w.alloc (.cells #[.int .u32 (s : Int), .int .i64 K, .int .i64 P, .int .i64 Z] 24))) := (Below.refl _ _).alloc (Nat.le_refl _) _
  obtain ⟨c0, c1, c2, c3⟩ := box4 (heap_alloc_new w (.cells #[.int .u32 (s : Int), .int .i64 K, .int .i64 P, .int .i64 Z] 24))
  unfold parV at hM ⊢
  have HM := Lib.hid hM
  clear hM hm
  go_enter Tryd.func17, Tryd.ntmps17
  go_wp2_with fail
  refine (HM.out _).mono ?_
  rintro e w1 ⟨rfl, hb1⟩
  have HB1 := Lib.hid (HB0.out.trans (hb1.out.mono HB0.out.size))
  clear c0 c1 c2 c3 hb1
  go_wp2_with fail
  go_ret
  exact ⟨rfl, HB1⟩
theorem pieces_bad (s : Nat) (K P Z : Int) (n c : Nat) (A : Option Addr) (w : World) (hm : mayB K P Z = false) :
    Calls Tryd.prog 20 #[parV s K P Z, .slice A n c] w fun e w' => e = .returned (.slice none 0 0) ∧ Hid (Below w.heap.size w w') := by
  have hM := fun W => may_any s K P Z W
  rw [hm] at hM
  have HB0 : Hid (Below w.heap.size w (w.alloc (.cells #[.int .u32 (s : Int), .int .i64 K, .int .i64 P, .int .i64 Z] 24))) := (Below.refl _ _).alloc (Nat.le_refl _) _
  obtain ⟨c0, c1, c2, c3⟩ := box4 (heap_alloc_new w (.cells #[.int .u32 (s : Int), .int .i64 K, .int .i64 P, .int .i64 Z] 24))
  unfold parV at hM ⊢
  have HM := Lib.hid hM
  clear hM hm
  go_enter Tryd.func20, Tryd.ntmps20
  go_wp2_with fail
  refine (HM.out _).mono ?_
  rintro e w1 ⟨rfl, hb1⟩
  have HB1 := Lib.hid (HB0.out.trans (hb1.out.mono HB0.out.size))
  clear c0 c1 c2 c3 hb1
  go_wp2_with fail
  go_ret
  exact ⟨rfl, HB1⟩
set_option maxRecDepth 100000 in
set_option maxHeartbeats 1600000 in
theorem pieces_unfit (s K P Z n c B : Nat) (A : Option Addr) (es : List BRow) (w : World) (hK : 1 ≤ K ∧ K ≤ 64) (hP : P ≤ 16) (hZ : 1 ≤ Z ∧ Z ≤ 16) (hl : Rows2 w B A n es) (hB : B ≤ w.heap.size) (hn : n ≤ 1000000) (hz : ∀ r ∈ es, r.n ≤ 1000000) (hf : fitB K Z n es = false) :
    Calls Tryd.prog 20 #[parV s K P Z, .slice A n c] w fun e w' => e = .returned (.slice none 0 0) ∧ Hid (Below w.heap.size w w') := by
  have HX0 := Lib.hid (heap_alloc_new w (.cells #[.int .u32 (s : Int), .int .i64 (K : Int), .int .i64 (P : Int), .int .i64 (Z : Int)] 24))
  have HB0 : Hid (Below w.heap.size w (w.alloc (.cells #[.int .u32 (s : Int), .int .i64 (K : Int), .int .i64 (P : Int), .int .i64 (Z : Int)] 24))) := (Below.refl _ _).alloc (Nat.le_refl _) _
  have hM := fun W => may_any s (K : Int) (P : Int) (Z : Int) W
  rw [show mayB (K : Int) (P : Int) (Z : Int) = true from (mayB_iff _ _ _).2 (by omega)] at hM
  have hzz : (w.alloc (.cells #[.int .u32 (s : Int), .int .i64 (K : Int), .int .i64 (P : Int), .int .i64 (Z : Int)] 24)).heap.size = w.heap.size + 1 := by simp
  generalize hw0 : (w.alloc (.cells #[.int .u32 (s : Int), .int .i64 (K : Int), .int .i64 (P : Int), .int .i64 (Z : Int)] 24)) = w0 at *
  have HW0 := Lib.hid hw0
  have hkeep := Lib.hid (spar_keep HX0.out)
  have HF := Lib.hid (fun W (hW : Below w0.heap.size w0 W) => by
    have h := fit_any s K P Z n c B A es W ((hl.below (HB0.out.mono hB)).below (hW.mono (by omega))) (by have := hW.size; omega) hn hz
    rw [hf] at h
    exact h)
  unfold parV at hM HF ⊢
  have HM := Lib.hid hM
  clear hM hl hz hf hw0
  go_enter Tryd.func20, Tryd.ntmps20
  go_upto_region 1 with fail
  rw [HW0.out]
  obtain ⟨_, c0, c1, c2, c3⟩ := hkeep.out w0 (Below.refl _ _)
  go_wp2_with fail
  refine (HM.out _).mono ?_
  rintro e w1 ⟨rfl, hb1⟩
  clear c0 c1 c2 c3
  obtain ⟨_, c0, c1, c2, c3⟩ := hkeep.out w1 hb1.out
  go_wp2_with fail
  refine (HF.out _ hb1.out).mono ?_
  rintro e w2 ⟨rfl, hb2⟩
  have HB2 := Lib.hid (HB0.out.trans ((hb1.out.trans (hb2.out.mono hb1.out.size)).mono HB0.out.size))
  go_wp2_with fail
  go_ret
  exact ⟨rfl, HB2⟩
theorem rpieces_unfit (s K P Z n c B : Nat) (A : Option Addr) (es : List BRow) (w : World) (hs : s < 4294967296) (hK : 1 ≤ K ∧ K ≤ 64) (hP : P ≤ 16) (hZ : 1 ≤ Z ∧ Z ≤ 16) (hl : Rows2 w B A n es) (hB : B ≤ w.heap.size) (hf : fitB K Z n es = false) :
    Calls Tryd.prog 21 #[parV s K P Z, .slice A n c] w fun e w' => e = .returned (.slice none 0 0) ∧ Hid (Below w.heap.size w w') :=
  (rpieces_any s K P Z n c B A es w hs hK hP hZ hl hB).mono fun e w' h => by
    rcases h with ⟨h, _⟩ | ⟨_, h⟩
    · rw [hf] at h; cases h
    · exact h
theorem rpieces_fit (s K P Z n c B : Nat) (A : Option Addr) (es : List BRow) (w : World) (hs : s < 4294967296) (hK : 1 ≤ K ∧ K ≤ 64) (hP : P ≤ 16) (hZ : 1 ≤ Z ∧ Z ≤ 16) (hl : Rows2 w B A n es) (hB : B ≤ w.heap.size) (hf : fitB K Z n es = true) :
    Calls Tryd.prog 21 #[parV s K P Z, .slice A n c] w (PcsOk (allP s K Z (es.map (·.l)) P) w) :=
  (rpieces_any s K P Z n c B A es w hs hK hP hZ hl hB).mono fun e w' h => by
    rcases h with ⟨_, h⟩ | ⟨h, _⟩
    · exact h
    · rw [hf] at h; cases h
set_option maxRecDepth 100000 in
set_option maxHeartbeats 6400000 in
theorem pcforms_walk (s : Nat) (Kq P Z : Int) (n c : Nat) (A : Option Addr) (es : List BRow) (w : World) (ht : DTab w) (hs : s < 4294967296) (hl : Rows2 w w.heap.size A n es) (hc : n ≤ c ∧ c ≤ 9223372036854775807) :
    Calls Tryd.prog 4 #[.agg #[.int .u32 (s : Int), .int .i64 Kq, .int .i64 P, .int .i64 Z], .slice A n c] w fun e w' => e = .returned (.bool true) ∧ Below w.heap.size w w' := by
  have HX0 := Lib.hid (heap_alloc_new w (.cells #[.int .u32 (s : Int), .int .i64 Kq, .int .i64 P, .int .i64 Z] 24))
  have HB0 : Hid (Below w.heap.size w (w.alloc (.cells #[.int .u32 (s : Int), .int .i64 Kq, .int .i64 P, .int .i64 Z] 24))) := (Below.refl _ _).alloc (Nat.le_refl _) _
  generalize hw0 : (w.alloc (.cells #[.int .u32 (s : Int), .int .i64 Kq, .int .i64 P, .int .i64 Z] 24)) = w0 at *
  have HW0 := Lib.hid hw0
  have HT := Lib.hid ht
  have HL0 := Lib.hid (hl.below HB0.out)
  have HBX : Hid (∀ W, Below w0.heap.size w0 W → W.cell? ⟨w.heap.size, 0, none⟩ = some (.int .u32 (s : Int)) ∧ W.cell? ⟨w.heap.size, 1, none⟩ = some (.int .i64 Kq) ∧ W.cell? ⟨w.heap.size, 2, none⟩ = some (.int .i64 P) ∧ W.cell? ⟨w.heap.size, 3, none⟩ = some (.int .i64 Z)) := Lib.hid fun W hW => box4 ((hW.block _ (Array.getElem?_eq_some_iff.1 HX0.out).1).trans HX0.out)
  have HS := Lib.hid hs
  have HLT := Lib.hid (light9_any n c _ A es w0 HL0.out HB0.out.size (by omega))
  clear hw0 ht hl hs
  go_enter Tryd.func4, Tryd.ntmps4
  go_upto_region 1 with fail
  rw [HW0.out]
  go_wp2_with fail
  refine HLT.out.mono ?_
  rintro e w1 ⟨b, rfl, hlb, hb1⟩
  have HLB := Lib.hid hlb.out
  have HB1 := Lib.hid (HB0.out.trans (hb1.out.mono HB0.out.size))
  have HBX1 := Lib.hid (fun W (hW : Below w1.heap.size w1 W) => HBX.out W (hb1.out.trans (hW.mono hb1.out.size)))
  have HL1 := Lib.hid (HL0.out.below (hb1.out.mono HB0.out.size))
  clear hlb HLT hb1 HBX HL0 HB0
  obtain ⟨w0, rfl⟩ : ∃ x : World, x = w1 := ⟨_, rfl⟩
  have HB0 := Lib.hid HB1.out
  have HBX := Lib.hid HBX1.out
  have HL0 := Lib.hid HL1.out
  clear HB1 HBX1 HL1
  cases b with
  | false =>
    go_wp2_with fail
    refine (awake9_any _).mono ?_
    rintro e w9 ⟨rfl, hb9⟩
    have HB9 := Lib.hid ((HB0.out).trans (hb9.out.mono (HB0.out).size))
    clear hb9
    go_wp2_with fail
    go_ret
    exact ⟨rfl, HB9.out⟩
  | true =>
    obtain ⟨hn100, hr50⟩ := HLB.out rfl
    have HR50 := Lib.hid hr50
    clear HLB hr50
    go_upto_region 3 with fail
    go_cut [5, 6] (fun v5 v6 wx => ∃ (Q : Nat) (A5 A6 : Option Addr) (c5 c6 : Nat), v5 = .slice A5 Q c5 ∧ v6 = .slice A6 Q c6 ∧ Q ≤ 16 ∧ Hid (LF Q A5 A6 wx) ∧ Hid (Below w0.heap.size w0 wx))
    case first =>
      cases hm : mayB Kq P Z with
      | false =>
        have HRW := Lib.hid (fun W => rows_bad s Kq P Z W hm)
        have HRP := Lib.hid (fun W => rparity_may s Kq P Z W hm)
        unfold parV at HRW HRP
        refine wp_region_noPanic ?_
        refine wp_region_held_drew (S := (fun W => Below (w0.heap.size) w0 W)) (by kernel_rfl) (Below.refl _ _).drew (fun hH0 => ?_)
        have hH0 : Below (w0.heap.size) w0 w0.drew := hH0
        generalize w0.drew = wd1000 at *
        refine wpAnyH_take (i := 0) (oi := { dst := some 12, op := Op.load 24 (Operand.tmp 2), type := 24, pos := "law.go:45", after := #[], guard := none }) (v := ?tkv1001) rfl (by kernel_rfl) (by kernel_rfl) (by kernel_rfl) (fun _ _ _ h => h) (Or.inl ⟨by rfl, ?tky1001⟩) hH0 ?tkr1001
        case tky1001 => (intro w' hSw; have z0 := HBX.out _ hSw; clear hSw; go_simp; try with_reducible rfl)
        try simp only [Act.put, List.setIfInBounds_toArray, List.set_cons_zero, List.set_cons_succ]
        refine wpAnyH_take (i := 2) (oi := { dst := some 14, op := Op.load 24 (Operand.tmp 2), type := 24, pos := "law.go:45", after := #[], guard := none }) (v := ?tkv1002) rfl (by kernel_rfl) (by kernel_rfl) (by kernel_rfl) (fun _ _ _ h => h) (Or.inl ⟨by rfl, ?tky1002⟩) hH0 ?tkr1002
        case tky1002 => (intro w' hSw; have z0 := HBX.out _ hSw; clear hSw; go_simp; try with_reducible rfl)
        try simp only [Act.put, List.setIfInBounds_toArray, List.set_cons_zero, List.set_cons_succ]
        refine wpAnyH_ready (rs := [1]) (by kernel_rfl) (by simp) ?_
        refine AllReadyH.cons (o := { dst := some 13, op := Op.call { callee := Callee.value (Operand.func 17), args := #[Operand.tmp 12], argTypes := #[24] }, type := 41, pos := "law.go:45", after := #[{ on := 0, ground := Ground.data }], guard := none }) rfl (fun K hK => ?_) AllReadyH.nil
        go_simp
        refine (HRW.out wd1000).mono ?_
        rintro e' wn1003 ⟨rfl, hb1003'⟩
        have hb1003 := hb1003'.out
        clear hb1003'
        go_simp
        have hS1003 : Below (w0.heap.size) w0 wn1003 := (hH0).trans (hb1003.mono (hH0).size)
        refine hK.out _ _ hS1003 (fun hH1003 => ?_)
        have hH1003 : Below (w0.heap.size) w0 wn1003 := hH1003
        clear hK K hS1003
        try simp only [Act.put, List.setIfInBounds_toArray, List.set_cons_zero, List.set_cons_succ]
        refine wpAnyH_ready (rs := [3]) (by kernel_rfl) (by simp) ?_
        refine AllReadyH.cons (o := { dst := some 15, op := Op.call { callee := Callee.value (Operand.func 18), args := #[Operand.tmp 14], argTypes := #[24] }, type := 43, pos := "law.go:45", after := #[{ on := 2, ground := Ground.data }, { on := 1, ground := Ground.chain }], guard := none }) rfl (fun K hK => ?_) AllReadyH.nil
        go_simp
        refine (HRP.out wn1003).mono ?_
        rintro e' wn1004 ⟨rfl, hb1004'⟩
        have hb1004 := hb1004'.out
        clear hb1004'
        go_simp
        have hS1004 : Below (w0.heap.size) w0 wn1004 := (hH1003).trans (hb1004.mono (hH1003).size)
        refine hK.out _ _ hS1004 (fun hH1004 => ?_)
        have hH1004 : Below (w0.heap.size) w0 wn1004 := hH1004
        clear hK K hS1004
        try simp only [Act.put, List.setIfInBounds_toArray, List.set_cons_zero, List.set_cons_succ]
        refine wpAnyH_take (i := 4) (oi := { dst := some 5, op := Op.assign (Operand.tmp 13), type := 41, pos := "law.go:45", after := #[{ on := 1, ground := Ground.data }, { on := 3, ground := Ground.chain }, { on := 0, ground := Ground.phase }, { on := 1, ground := Ground.phase }, { on := 2, ground := Ground.textOnly Departure.lateStores }, { on := 3, ground := Ground.textOnly Departure.lateStoresUnsure }], guard := none }) (v := ?tkv1005) rfl (by kernel_rfl) (by kernel_rfl) (by kernel_rfl) (fun _ _ _ h => h) (Or.inl ⟨by rfl, ?tky1005⟩) hH1004 ?tkr1005
        case tky1005 => (intro w' hSw; clear hSw; go_simp; try with_reducible rfl)
        try simp only [Act.put, List.setIfInBounds_toArray, List.set_cons_zero, List.set_cons_succ]
        refine wpAnyH_take (i := 5) (oi := { dst := some 6, op := Op.assign (Operand.tmp 15), type := 43, pos := "law.go:45", after := #[{ on := 3, ground := Ground.data }, { on := 4, ground := Ground.chain }, { on := 0, ground := Ground.phase }, { on := 1, ground := Ground.phase }, { on := 2, ground := Ground.phase }, { on := 3, ground := Ground.phase }, { on := 4, ground := Ground.phase }], guard := none }) (v := ?tkv1006) rfl (by kernel_rfl) (by kernel_rfl) (by kernel_rfl) (fun _ _ _ h => h) (Or.inl ⟨by rfl, ?tky1006⟩) hH1004 ?tkr1006
        case tky1006 => (intro w' hSw; clear hSw; go_simp; try with_reducible rfl)
        try simp only [Act.put, List.setIfInBounds_toArray, List.set_cons_zero, List.set_cons_succ]
        refine wpAnyH_done (by kernel_rfl) ?_ _
        refine NoPanic.normal ?_
        have HBE : Hid (Below w0.heap.size w0 wn1004) := Lib.hid (hH1004)
        go_wp2_with fail
        go_meet
        exact ⟨0, _, _, _, _, rfl, rfl, by omega, Lib.hid (fun j hj => by omega), HBE⟩
      | true =>
        obtain ⟨hKq, hP, hZ⟩ := (mayB_iff _ _ _).1 hm
        obtain ⟨Kq, rfl⟩ : ∃ k : Nat, Kq = (k : Int) := ⟨Kq.toNat, by omega⟩
        obtain ⟨P, rfl⟩ : ∃ k : Nat, P = (k : Int) := ⟨P.toNat, by omega⟩
        obtain ⟨Z, rfl⟩ : ∃ k : Nat, Z = (k : Int) := ⟨Z.toNat, by omega⟩
        have hP : P ≤ 16 := by omega
        have HRW := Lib.hid (fun W => rows_any s Kq P Z W HS.out (by omega) hP (by omega))
        have HRP := Lib.hid (fun W => rparity_any s Kq P Z W HS.out (by omega) hP (by omega))
        unfold parV at HRW HRP
        clear hm hKq hZ
        refine wp_region_noPanic ?_
        refine wp_region_held_drew (S := (fun W => Below (w0.heap.size) w0 W)) (by kernel_rfl) (Below.refl _ _).drew (fun hH0 => ?_)
        have hH0 : Below (w0.heap.size) w0 w0.drew := hH0
        generalize w0.drew = wd1100 at *
        refine wpAnyH_take (i := 0) (oi := { dst := some 12, op := Op.load 24 (Operand.tmp 2), type := 24, pos := "law.go:45", after := #[], guard := none }) (v := ?tkv1101) rfl (by kernel_rfl) (by kernel_rfl) (by kernel_rfl) (fun _ _ _ h => h) (Or.inl ⟨by rfl, ?tky1101⟩) hH0 ?tkr1101
        case tky1101 => (intro w' hSw; have z0 := HBX.out _ hSw; clear hSw; go_simp; try with_reducible rfl)
        try simp only [Act.put, List.setIfInBounds_toArray, List.set_cons_zero, List.set_cons_succ]
        refine wpAnyH_take (i := 2) (oi := { dst := some 14, op := Op.load 24 (Operand.tmp 2), type := 24, pos := "law.go:45", after := #[], guard := none }) (v := ?tkv1102) rfl (by kernel_rfl) (by kernel_rfl) (by kernel_rfl) (fun _ _ _ h => h) (Or.inl ⟨by rfl, ?tky1102⟩) hH0 ?tkr1102
        case tky1102 => (intro w' hSw; have z0 := HBX.out _ hSw; clear hSw; go_simp; try with_reducible rfl)
        try simp only [Act.put, List.setIfInBounds_toArray, List.set_cons_zero, List.set_cons_succ]
        refine wpAnyH_ready (rs := [1]) (by kernel_rfl) (by simp) ?_
        refine AllReadyH.cons (o := { dst := some 13, op := Op.call { callee := Callee.value (Operand.func 17), args := #[Operand.tmp 12], argTypes := #[24] }, type := 41, pos := "law.go:45", after := #[{ on := 0, ground := Ground.data }], guard := none }) rfl (fun K hK => ?_) AllReadyH.nil
        go_simp
        refine (HRW.out wd1100).mono ?_
        rintro e' wn1103 ⟨gA1103, gs1103, hs1103, rfl, h11103, h21103, hb1103'⟩
        have hb1103 := hb1103'.out
        have AR1103_ : Hid (ARows s Kq P gA1103 gs1103 hs1103 wn1103) := Lib.hid ⟨h11103.out.2, own_base h21103.out (Nat.zero_le _)⟩
        clear hb1103' h11103 h21103
        go_simp
        have hS1103 : Below (w0.heap.size) w0 wn1103 := (hH0).trans (hb1103.mono (hH0).size)
        refine hK.out _ _ hS1103 (fun hH1103 => ?_)
        have hH1103 : Below (w0.heap.size) w0 wn1103 := hH1103
        clear hK K hS1103
        try simp only [Act.put, List.setIfInBounds_toArray, List.set_cons_zero, List.set_cons_succ]
        refine wpAnyH_ready (rs := [3]) (by kernel_rfl) (by simp) ?_
        refine AllReadyH.cons (o := { dst := some 15, op := Op.call { callee := Callee.value (Operand.func 18), args := #[Operand.tmp 14], argTypes := #[24] }, type := 43, pos := "law.go:45", after := #[{ on := 2, ground := Ground.data }, { on := 1, ground := Ground.chain }], guard := none }) rfl (fun K hK => ?_) AllReadyH.nil
        go_simp
        refine (HRP.out wn1103).mono ?_
        rintro e' wn1104 ⟨v1104, rfl, h11104, hb1104'⟩
        have hb1104 := hb1104'.out
        have PB1104_ : Hid (PB (Kq + P) (parAll s Kq P) 0 v1104 wn1104) := Lib.hid (h11104.out.mono (Nat.zero_le _))
        clear hb1104' h11104
        go_simp
        have AR1103_1104 := Lib.hid (AR1103_.out.below hb1104)
        have hS1104 : Below (w0.heap.size) w0 wn1104 := (hH1103).trans (hb1104.mono (hH1103).size)
        refine hK.out _ _ hS1104 (fun hH1104 => ?_)
        have hH1104 : Below (w0.heap.size) w0 wn1104 := hH1104
        clear hK K hS1104
        try simp only [Act.put, List.setIfInBounds_toArray, List.set_cons_zero, List.set_cons_succ]
        refine wpAnyH_take (i := 4) (oi := { dst := some 5, op := Op.assign (Operand.tmp 13), type := 41, pos := "law.go:45", after := #[{ on := 1, ground := Ground.data }, { on := 3, ground := Ground.chain }, { on := 0, ground := Ground.phase }, { on := 1, ground := Ground.phase }, { on := 2, ground := Ground.textOnly Departure.lateStores }, { on := 3, ground := Ground.textOnly Departure.lateStoresUnsure }], guard := none }) (v := ?tkv1105) rfl (by kernel_rfl) (by kernel_rfl) (by kernel_rfl) (fun _ _ _ h => h) (Or.inl ⟨by rfl, ?tky1105⟩) hH1104 ?tkr1105
        case tky1105 => (intro w' hSw; clear hSw; go_simp; try with_reducible rfl)
        try simp only [Act.put, List.setIfInBounds_toArray, List.set_cons_zero, List.set_cons_succ]
        refine wpAnyH_take (i := 5) (oi := { dst := some 6, op := Op.assign (Operand.tmp 15), type := 43, pos := "law.go:45", after := #[{ on := 3, ground := Ground.data }, { on := 4, ground := Ground.chain }, { on := 0, ground := Ground.phase }, { on := 1, ground := Ground.phase }, { on := 2, ground := Ground.phase }, { on := 3, ground := Ground.phase }, { on := 4, ground := Ground.phase }], guard := none }) (v := ?tkv1106) rfl (by kernel_rfl) (by kernel_rfl) (by kernel_rfl) (fun _ _ _ h => h) (Or.inl ⟨by rfl, ?tky1106⟩) hH1104 ?tkr1106
        case tky1106 => (intro w' hSw; clear hSw; go_simp; try with_reducible rfl)
        try simp only [Act.put, List.setIfInBounds_toArray, List.set_cons_zero, List.set_cons_succ]
        refine wpAnyH_done (by kernel_rfl) ?_ _
        refine NoPanic.normal ?_
        have hpb := PB1104_.out
        obtain ⟨Ap, cp, hvp, hpb2⟩ := pb_slice hpb
        subst hvp
        have HLF := Lib.hid (lf_of AR1103_1104.out hpb2)
        have HBE : Hid (Below w0.heap.size w0 wn1104) := Lib.hid (hH1104)
        clear hpb hpb2
        go_wp2_with fail
        go_meet
        exact ⟨P, _, _, _, _, rfl, rfl, hP, HLF, HBE⟩
    case rest =>
      obtain ⟨Q, A5, A6, c5, c6, rfl, rfl, hQ, HLF, HBC⟩ := hcut
      obtain ⟨w4, rfl⟩ : ∃ x : World, x = wc := ⟨_, rfl⟩
      have hqq : ((Q : Int) != (Q : Int)) = false := by simp
      have HB4 : Hid (∀ W, Below w4.heap.size w4 W → W.cell? ⟨w.heap.size, 0, none⟩ = some (.int .u32 (s : Int)) ∧ W.cell? ⟨w.heap.size, 1, none⟩ = some (.int .i64 Kq) ∧ W.cell? ⟨w.heap.size, 2, none⟩ = some (.int .i64 P) ∧ W.cell? ⟨w.heap.size, 3, none⟩ = some (.int .i64 Z)) := Lib.hid fun W hW => HBX.out W (HBC.out.trans (hW.mono HBC.out.size))
      have HL4 : Hid (∀ W, Below w4.heap.size w4 W → Rows2 W w.heap.size A n es) := Lib.hid fun W hW => HL0.out.below ((HBC.out.trans (hW.mono HBC.out.size)).mono HB0.out.size)
      have HWS : Hid (∀ W, Below w4.heap.size w4 W → w.heap.size ≤ W.heap.size) := Lib.hid fun W hW => Nat.le_trans HB0.out.size (Nat.le_trans HBC.out.size hW.size)
      go_upto_region 4 with fail
      go_cut [30] (fun v wx => v = .bool false ∧ Hid (Below w4.heap.size w4 wx))
      case first =>
        cases hm : mayB Kq P Z with
        | false =>
          have HP1 := Lib.hid (fun W (_ : Below w4.heap.size w4 W) => pieces_bad s Kq P Z n c A W hm)
          have HP2 := Lib.hid (fun W (_ : Below w4.heap.size w4 W) => rpieces_may s Kq P Z n c A W hm)
          unfold parV at HP1 HP2
          clear hm
          refine wp_region_noPanic ?_
          refine wp_region_held_drew (S := (fun W => Below (w4.heap.size) w4 W)) (by kernel_rfl) (Below.refl _ _).drew (fun hH0 => ?_)
          have hH0 : Below (w4.heap.size) w4 w4.drew := hH0
          generalize w4.drew = wd2000 at *
          refine wpAnyH_take (i := 0) (oi := { dst := some 16, op := Op.move (Operand.tmp 5), type := 41, pos := "law.go:46", after := #[], guard := none }) (v := ?tkv2001) rfl (by kernel_rfl) (by kernel_rfl) (by kernel_rfl) (fun _ _ _ h => h) (Or.inl ⟨by rfl, ?tky2001⟩) hH0 ?tkr2001
          case tky2001 => (intro w' hSw; clear hSw; go_simp; try with_reducible rfl)
          try simp only [Act.put, List.setIfInBounds_toArray, List.set_cons_zero, List.set_cons_succ]
          refine wpAnyH_take (i := 1) (oi := { dst := some 17, op := Op.call { callee := Callee.builtin Builtin.len, args := #[Operand.tmp 16], argTypes := #[41] }, type := 3, pos := "law.go:46", after := #[{ on := 0, ground := Ground.data }], guard := none }) (v := ?tkv2002) rfl (by kernel_rfl) (by kernel_rfl) (by kernel_rfl) (fun _ _ _ h => h) (Or.inl ⟨by rfl, ?tky2002⟩) hH0 ?tkr2002
          case tky2002 => (intro w' hSw; clear hSw; go_simp; try with_reducible rfl)
          try simp only [Act.put, List.setIfInBounds_toArray, List.set_cons_zero, List.set_cons_succ]
          refine wpAnyH_take (i := 2) (oi := { dst := some 18, op := Op.move (Operand.tmp 6), type := 43, pos := "law.go:46", after := #[], guard := none }) (v := ?tkv2003) rfl (by kernel_rfl) (by kernel_rfl) (by kernel_rfl) (fun _ _ _ h => h) (Or.inl ⟨by rfl, ?tky2003⟩) hH0 ?tkr2003
          case tky2003 => (intro w' hSw; clear hSw; go_simp; try with_reducible rfl)
          try simp only [Act.put, List.setIfInBounds_toArray, List.set_cons_zero, List.set_cons_succ]
          refine wpAnyH_take (i := 3) (oi := { dst := some 19, op := Op.call { callee := Callee.builtin Builtin.len, args := #[Operand.tmp 18], argTypes := #[43] }, type := 3, pos := "law.go:46", after := #[{ on := 2, ground := Ground.data }], guard := none }) (v := ?tkv2004) rfl (by kernel_rfl) (by kernel_rfl) (by kernel_rfl) (fun _ _ _ h => h) (Or.inl ⟨by rfl, ?tky2004⟩) hH0 ?tkr2004
          case tky2004 => (intro w' hSw; clear hSw; go_simp; try with_reducible rfl)
          try simp only [Act.put, List.setIfInBounds_toArray, List.set_cons_zero, List.set_cons_succ]
          refine wpAnyH_take (i := 4) (oi := { dst := some 20, op := Op.binOp BinOp.neq 3 (Operand.tmp 17) (Operand.tmp 19) 3, type := 4, pos := "law.go:46", after := #[{ on := 1, ground := Ground.data }, { on := 3, ground := Ground.data }], guard := none }) (v := ?tkv2005) rfl (by kernel_rfl) (by kernel_rfl) (by kernel_rfl) (fun _ _ _ h => h) (Or.inl ⟨by rfl, ?tky2005⟩) hH0 ?tkr2005
          case tky2005 => (intro w' hSw; clear hSw; go_simp; try with_reducible rfl)
          try simp only [Act.put, List.setIfInBounds_toArray, List.set_cons_zero, List.set_cons_succ]
          refine wpAnyH_take (i := 5) (oi := { dst := some 21, op := Op.move (Operand.tmp 20), type := 4, pos := "law.go:46", after := #[{ on := 4, ground := Ground.data }], guard := none }) (v := ?tkv2006) rfl (by kernel_rfl) (by kernel_rfl) (by kernel_rfl) (fun _ _ _ h => h) (Or.inl ⟨by rfl, ?tky2006⟩) hH0 ?tkr2006
          case tky2006 => (intro w' hSw; clear hSw; go_simp; try with_reducible rfl)
          try simp only [Act.put, List.setIfInBounds_toArray, List.set_cons_zero, List.set_cons_succ]
          refine wpAnyH_take (i := 6) (oi := { dst := some 22, op := Op.load 24 (Operand.tmp 2), type := 24, pos := "law.go:46", after := #[{ on := 5, ground := Ground.guard }], guard := some (5, false) }) (v := ?tkv2007) rfl (by kernel_rfl) (by kernel_rfl) (by kernel_rfl) (fun _ _ _ h => h) (Or.inl ⟨by rfl, ?tky2007⟩) hH0 ?tkr2007
          case tky2007 => (intro w' hSw; have z0 := HB4.out _ hSw; clear hSw; go_simp; try with_reducible rfl)
          try simp only [Act.put, List.setIfInBounds_toArray, List.set_cons_zero, List.set_cons_succ]
          refine wpAnyH_take (i := 7) (oi := { dst := some 23, op := Op.move (Operand.tmp 1), type := 39, pos := "law.go:46", after := #[{ on := 5, ground := Ground.guard }], guard := some (5, false) }) (v := ?tkv2008) rfl (by kernel_rfl) (by kernel_rfl) (by kernel_rfl) (fun _ _ _ h => h) (Or.inl ⟨by rfl, ?tky2008⟩) hH0 ?tkr2008
          case tky2008 => (intro w' hSw; clear hSw; go_simp; try with_reducible rfl)
          try simp only [Act.put, List.setIfInBounds_toArray, List.set_cons_zero, List.set_cons_succ]
          refine wpAnyH_take (i := 9) (oi := { dst := some 25, op := Op.load 24 (Operand.tmp 2), type := 24, pos := "law.go:46", after := #[{ on := 5, ground := Ground.guard }], guard := some (5, false) }) (v := ?tkv2009) rfl (by kernel_rfl) (by kernel_rfl) (by kernel_rfl) (fun _ _ _ h => h) (Or.inl ⟨by rfl, ?tky2009⟩) hH0 ?tkr2009
          case tky2009 => (intro w' hSw; have z0 := HB4.out _ hSw; clear hSw; go_simp; try with_reducible rfl)
          try simp only [Act.put, List.setIfInBounds_toArray, List.set_cons_zero, List.set_cons_succ]
          refine wpAnyH_take (i := 10) (oi := { dst := some 26, op := Op.move (Operand.tmp 1), type := 39, pos := "law.go:46", after := #[{ on := 5, ground := Ground.guard }], guard := some (5, false) }) (v := ?tkv2010) rfl (by kernel_rfl) (by kernel_rfl) (by kernel_rfl) (fun _ _ _ h => h) (Or.inl ⟨by rfl, ?tky2010⟩) hH0 ?tkr2010
          case tky2010 => (intro w' hSw; clear hSw; go_simp; try with_reducible rfl)
          try simp only [Act.put, List.setIfInBounds_toArray, List.set_cons_zero, List.set_cons_succ]
          refine wpAnyH_ready (rs := [8]) (by kernel_rfl) (by simp) ?_
          refine AllReadyH.cons (o := { dst := some 24, op := Op.call { callee := Callee.value (Operand.func 20), args := #[Operand.tmp 22, Operand.tmp 23], argTypes := #[24, 39] }, type := 39, pos := "law.go:46", after := #[{ on := 6, ground := Ground.data }, { on := 7, ground := Ground.data }, { on := 5, ground := Ground.chain }, { on := 5, ground := Ground.guard }], guard := some (5, false) }) rfl (fun K hK => ?_) AllReadyH.nil
          go_simp
          refine (HP1.out wd2000 (hH0)).mono ?_
          rintro e' wn2011 ⟨rfl, hb2011'⟩
          have hb2011 := hb2011'.out
          clear hb2011'
          go_simp
          have hS2011 : Below (w4.heap.size) w4 wn2011 := (hH0).trans (hb2011.mono (hH0).size)
          refine hK.out _ _ hS2011 (fun hH2011 => ?_)
          have hH2011 : Below (w4.heap.size) w4 wn2011 := hH2011
          clear hK K hS2011
          try simp only [Act.put, List.setIfInBounds_toArray, List.set_cons_zero, List.set_cons_succ]
          refine wpAnyH_ready (rs := [11]) (by kernel_rfl) (by simp) ?_
          refine AllReadyH.cons (o := { dst := some 27, op := Op.call { callee := Callee.value (Operand.func 21), args := #[Operand.tmp 25, Operand.tmp 26], argTypes := #[24, 39] }, type := 39, pos := "law.go:46", after := #[{ on := 9, ground := Ground.data }, { on := 10, ground := Ground.data }, { on := 8, ground := Ground.chain }, { on := 5, ground := Ground.guard }], guard := some (5, false) }) rfl (fun K hK => ?_) AllReadyH.nil
          go_simp
          refine (HP2.out wn2011 (hH2011)).mono ?_
          rintro e' wn2012 ⟨rfl, hb2012'⟩
          have hb2012 := hb2012'.out
          clear hb2012'
          go_simp
          have hS2012 : Below (w4.heap.size) w4 wn2012 := (hH2011).trans (hb2012.mono (hH2011).size)
          refine hK.out _ _ hS2012 (fun hH2012 => ?_)
          have hH2012 : Below (w4.heap.size) w4 wn2012 := hH2012
          clear hK K hS2012
          try simp only [Act.put, List.setIfInBounds_toArray, List.set_cons_zero, List.set_cons_succ]
          refine wpAnyH_ready (rs := [12]) (by kernel_rfl) (by simp) ?_
          refine AllReadyH.cons (o := { dst := some 28, op := Op.call { callee := Callee.value (Operand.func 19), args := #[Operand.tmp 24, Operand.tmp 27], argTypes := #[39, 39] }, type := 4, pos := "law.go:46", after := #[{ on := 8, ground := Ground.data }, { on := 11, ground := Ground.data }, { on := 11, ground := Ground.chain }, { on := 5, ground := Ground.guard }], guard := some (5, false) }) rfl (fun K hK => ?_) AllReadyH.nil
          go_simp
          refine (same9_yes wn2012.heap.size 0 0 0 none none [] [] wn2012 ⟨Row.nil _ _ _, fun r hr => by cases hr⟩ ⟨Row.nil _ _ _, fun r hr => by cases hr⟩ rfl (by omega) (Nat.le_refl _)).mono ?_
          rintro e' wn2013 ⟨rfl, hb2013⟩
          go_simp
          have hS2013 : Below (w4.heap.size) w4 wn2013 := (hH2012).trans (hb2013.mono (hH2012).size)
          refine hK.out _ _ hS2013 (fun hH2013 => ?_)
          have hH2013 : Below (w4.heap.size) w4 wn2013 := hH2013
          clear hK K hS2013
          try simp only [Act.put, List.setIfInBounds_toArray, List.set_cons_zero, List.set_cons_succ]
          refine wpAnyH_take (i := 13) (oi := { dst := some 29, op := Op.unOp UnOp.not 4 (Operand.tmp 28), type := 4, pos := "law.go:46", after := #[{ on := 12, ground := Ground.data }, { on := 5, ground := Ground.guard }], guard := some (5, false) }) (v := ?tkv2014) rfl (by kernel_rfl) (by kernel_rfl) (by kernel_rfl) (fun _ _ _ h => h) (Or.inl ⟨by rfl, ?tky2014⟩) hH2013 ?tkr2014
          case tky2014 => (intro w' hSw; clear hSw; go_simp; try with_reducible rfl)
          try simp only [Act.put, List.setIfInBounds_toArray, List.set_cons_zero, List.set_cons_succ]
          refine wpAnyH_take (i := 14) (oi := { dst := some 30, op := Op.pick (Operand.tmp 21) (Operand.const (Value.bool true)) (Operand.tmp 29), type := 4, pos := "law.go:46", after := #[{ on := 5, ground := Ground.data }, { on := 13, ground := Ground.data }], guard := none }) (v := ?tkv2015) rfl (by kernel_rfl) (by kernel_rfl) (by kernel_rfl) (fun _ _ _ h => h) (Or.inl ⟨by rfl, ?tky2015⟩) hH2013 ?tkr2015
          case tky2015 => (intro w' hSw; clear hSw; go_simp; try with_reducible rfl)
          try simp only [Act.put, List.setIfInBounds_toArray, List.set_cons_zero, List.set_cons_succ]
          refine wpAnyH_done (by kernel_rfl) ?_ _
          refine NoPanic.normal ?_
          have HBE : Hid (Below w4.heap.size w4 wn2013) := Lib.hid (hH2013)
          go_wp2_with fail
          go_meet
          exact ⟨rfl, HBE⟩
        | true =>
          obtain ⟨hKq, hP, hZ⟩ := (mayB_iff _ _ _).1 hm
          obtain ⟨Kq, rfl⟩ : ∃ k : Nat, Kq = (k : Int) := ⟨Kq.toNat, by omega⟩
          obtain ⟨P, rfl⟩ : ∃ k : Nat, P = (k : Int) := ⟨P.toNat, by omega⟩
          obtain ⟨Z, rfl⟩ : ∃ k : Nat, Z = (k : Int) := ⟨Z.toNat, by omega⟩
          have hKq : 1 ≤ Kq ∧ Kq ≤ 64 := by omega
          have hP : P ≤ 16 := by omega
          have hZ : 1 ≤ Z ∧ Z ≤ 16 := by omega
          cases hf : fitB Kq Z n es with
          | false =>
            have HP1 := Lib.hid (fun W (hW : Below w4.heap.size w4 W) => pieces_unfit s Kq P Z n c w.heap.size A es W hKq hP hZ (HL4.out W hW) (HWS.out W hW) (by omega) (fun r hr => Nat.le_trans (HR50.out r hr) (by omega)) hf)
            have HP2 := Lib.hid (fun W (hW : Below w4.heap.size w4 W) => rpieces_unfit s Kq P Z n c w.heap.size A es W HS.out hKq hP hZ (HL4.out W hW) (HWS.out W hW) hf)
            unfold parV at HP1 HP2
            clear hm hf hKq hP hZ
            refine wp_region_noPanic ?_
            refine wp_region_held_drew (S := (fun W => Below (w4.heap.size) w4 W)) (by kernel_rfl) (Below.refl _ _).drew (fun hH0 => ?_)
            have hH0 : Below (w4.heap.size) w4 w4.drew := hH0
            generalize w4.drew = wd2200 at *
            refine wpAnyH_take (i := 0) (oi := { dst := some 16, op := Op.move (Operand.tmp 5), type := 41, pos := "law.go:46", after := #[], guard := none }) (v := ?tkv2201) rfl (by kernel_rfl) (by kernel_rfl) (by kernel_rfl) (fun _ _ _ h => h) (Or.inl ⟨by rfl, ?tky2201⟩) hH0 ?tkr2201
            case tky2201 => (intro w' hSw; clear hSw; go_simp; try with_reducible rfl)
            try simp only [Act.put, List.setIfInBounds_toArray, List.set_cons_zero, List.set_cons_succ]
            refine wpAnyH_take (i := 1) (oi := { dst := some 17, op := Op.call { callee := Callee.builtin Builtin.len, args := #[Operand.tmp 16], argTypes := #[41] }, type := 3, pos := "law.go:46", after := #[{ on := 0, ground := Ground.data }], guard := none }) (v := ?tkv2202) rfl (by kernel_rfl) (by kernel_rfl) (by kernel_rfl) (fun _ _ _ h => h) (Or.inl ⟨by rfl, ?tky2202⟩) hH0 ?tkr2202
            case tky2202 => (intro w' hSw; clear hSw; go_simp; try with_reducible rfl)
            try simp only [Act.put, List.setIfInBounds_toArray, List.set_cons_zero, List.set_cons_succ]
            refine wpAnyH_take (i := 2) (oi := { dst := some 18, op := Op.move (Operand.tmp 6), type := 43, pos := "law.go:46", after := #[], guard := none }) (v := ?tkv2203) rfl (by kernel_rfl) (by kernel_rfl) (by kernel_rfl) (fun _ _ _ h => h) (Or.inl ⟨by rfl, ?tky2203⟩) hH0 ?tkr2203
            case tky2203 => (intro w' hSw; clear hSw; go_simp; try with_reducible rfl)
            try simp only [Act.put, List.setIfInBounds_toArray, List.set_cons_zero, List.set_cons_succ]
            refine wpAnyH_take (i := 3) (oi := { dst := some 19, op := Op.call { callee := Callee.builtin Builtin.len, args := #[Operand.tmp 18], argTypes := #[43] }, type := 3, pos := "law.go:46", after := #[{ on := 2, ground := Ground.data }], guard := none }) (v := ?tkv2204) rfl (by kernel_rfl) (by kernel_rfl) (by kernel_rfl) (fun _ _ _ h => h) (Or.inl ⟨by rfl, ?tky2204⟩) hH0 ?tkr2204
            case tky2204 => (intro w' hSw; clear hSw; go_simp; try with_reducible rfl)
            try simp only [Act.put, List.setIfInBounds_toArray, List.set_cons_zero, List.set_cons_succ]
            refine wpAnyH_take (i := 4) (oi := { dst := some 20, op := Op.binOp BinOp.neq 3 (Operand.tmp 17) (Operand.tmp 19) 3, type := 4, pos := "law.go:46", after := #[{ on := 1, ground := Ground.data }, { on := 3, ground := Ground.data }], guard := none }) (v := ?tkv2205) rfl (by kernel_rfl) (by kernel_rfl) (by kernel_rfl) (fun _ _ _ h => h) (Or.inl ⟨by rfl, ?tky2205⟩) hH0 ?tkr2205
            case tky2205 => (intro w' hSw; clear hSw; go_simp; try with_reducible rfl)
            try simp only [Act.put, List.setIfInBounds_toArray, List.set_cons_zero, List.set_cons_succ]
            refine wpAnyH_take (i := 5) (oi := { dst := some 21, op := Op.move (Operand.tmp 20), type := 4, pos := "law.go:46", after := #[{ on := 4, ground := Ground.data }], guard := none }) (v := ?tkv2206) rfl (by kernel_rfl) (by kernel_rfl) (by kernel_rfl) (fun _ _ _ h => h) (Or.inl ⟨by rfl, ?tky2206⟩) hH0 ?tkr2206
            case tky2206 => (intro w' hSw; clear hSw; go_simp; try with_reducible rfl)
            try simp only [Act.put, List.setIfInBounds_toArray, List.set_cons_zero, List.set_cons_succ]
            refine wpAnyH_take (i := 6) (oi := { dst := some 22, op := Op.load 24 (Operand.tmp 2), type := 24, pos := "law.go:46", after := #[{ on := 5, ground := Ground.guard }], guard := some (5, false) }) (v := ?tkv2207) rfl (by kernel_rfl) (by kernel_rfl) (by kernel_rfl) (fun _ _ _ h => h) (Or.inl ⟨by rfl, ?tky2207⟩) hH0 ?tkr2207
            case tky2207 => (intro w' hSw; have z0 := HB4.out _ hSw; clear hSw; go_simp; try with_reducible rfl)
            try simp only [Act.put, List.setIfInBounds_toArray, List.set_cons_zero, List.set_cons_succ]
            refine wpAnyH_take (i := 7) (oi := { dst := some 23, op := Op.move (Operand.tmp 1), type := 39, pos := "law.go:46", after := #[{ on := 5, ground := Ground.guard }], guard := some (5, false) }) (v := ?tkv2208) rfl (by kernel_rfl) (by kernel_rfl) (by kernel_rfl) (fun _ _ _ h => h) (Or.inl ⟨by rfl, ?tky2208⟩) hH0 ?tkr2208
            case tky2208 => (intro w' hSw; clear hSw; go_simp; try with_reducible rfl)
            try simp only [Act.put, List.setIfInBounds_toArray, List.set_cons_zero, List.set_cons_succ]
            refine wpAnyH_take (i := 9) (oi := { dst := some 25, op := Op.load 24 (Operand.tmp 2), type := 24, pos := "law.go:46", after := #[{ on := 5, ground := Ground.guard }], guard := some (5, false) }) (v := ?tkv2209) rfl (by kernel_rfl) (by kernel_rfl) (by kernel_rfl) (fun _ _ _ h => h) (Or.inl ⟨by rfl, ?tky2209⟩) hH0 ?tkr2209
            case tky2209 => (intro w' hSw; have z0 := HB4.out _ hSw; clear hSw; go_simp; try with_reducible rfl)
            try simp only [Act.put, List.setIfInBounds_toArray, List.set_cons_zero, List.set_cons_succ]
            refine wpAnyH_take (i := 10) (oi := { dst := some 26, op := Op.move (Operand.tmp 1), type := 39, pos := "law.go:46", after := #[{ on := 5, ground := Ground.guard }], guard := some (5, false) }) (v := ?tkv2210) rfl (by kernel_rfl) (by kernel_rfl) (by kernel_rfl) (fun _ _ _ h => h) (Or.inl ⟨by rfl, ?tky2210⟩) hH0 ?tkr2210
            case tky2210 => (intro w' hSw; clear hSw; go_simp; try with_reducible rfl)
            try simp only [Act.put, List.setIfInBounds_toArray, List.set_cons_zero, List.set_cons_succ]
            refine wpAnyH_ready (rs := [8]) (by kernel_rfl) (by simp) ?_
            refine AllReadyH.cons (o := { dst := some 24, op := Op.call { callee := Callee.value (Operand.func 20), args := #[Operand.tmp 22, Operand.tmp 23], argTypes := #[24, 39] }, type := 39, pos := "law.go:46", after := #[{ on := 6, ground := Ground.data }, { on := 7, ground := Ground.data }, { on := 5, ground := Ground.chain }, { on := 5, ground := Ground.guard }], guard := some (5, false) }) rfl (fun K hK => ?_) AllReadyH.nil
            go_simp
            refine (HP1.out wd2200 (hH0)).mono ?_
            rintro e' wn2211 ⟨rfl, hb2211'⟩
            have hb2211 := hb2211'.out
            clear hb2211'
            go_simp
            have hS2211 : Below (w4.heap.size) w4 wn2211 := (hH0).trans (hb2211.mono (hH0).size)
            refine hK.out _ _ hS2211 (fun hH2211 => ?_)
            have hH2211 : Below (w4.heap.size) w4 wn2211 := hH2211
            clear hK K hS2211
            try simp only [Act.put, List.setIfInBounds_toArray, List.set_cons_zero, List.set_cons_succ]
            refine wpAnyH_ready (rs := [11]) (by kernel_rfl) (by simp) ?_
            refine AllReadyH.cons (o := { dst := some 27, op := Op.call { callee := Callee.value (Operand.func 21), args := #[Operand.tmp 25, Operand.tmp 26], argTypes := #[24, 39] }, type := 39, pos := "law.go:46", after := #[{ on := 9, ground := Ground.data }, { on := 10, ground := Ground.data }, { on := 8, ground := Ground.chain }, { on := 5, ground := Ground.guard }], guard := some (5, false) }) rfl (fun K hK => ?_) AllReadyH.nil
            go_simp
            refine (HP2.out wn2211 (hH2211)).mono ?_
            rintro e' wn2212 ⟨rfl, hb2212'⟩
            have hb2212 := hb2212'.out
            clear hb2212'
            go_simp
            have hS2212 : Below (w4.heap.size) w4 wn2212 := (hH2211).trans (hb2212.mono (hH2211).size)
            refine hK.out _ _ hS2212 (fun hH2212 => ?_)
            have hH2212 : Below (w4.heap.size) w4 wn2212 := hH2212
            clear hK K hS2212
            try simp only [Act.put, List.setIfInBounds_toArray, List.set_cons_zero, List.set_cons_succ]
            refine wpAnyH_ready (rs := [12]) (by kernel_rfl) (by simp) ?_
            refine AllReadyH.cons (o := { dst := some 28, op := Op.call { callee := Callee.value (Operand.func 19), args := #[Operand.tmp 24, Operand.tmp 27], argTypes := #[39, 39] }, type := 4, pos := "law.go:46", after := #[{ on := 8, ground := Ground.data }, { on := 11, ground := Ground.data }, { on := 11, ground := Ground.chain }, { on := 5, ground := Ground.guard }], guard := some (5, false) }) rfl (fun K hK => ?_) AllReadyH.nil
            go_simp
            refine (same9_yes wn2212.heap.size 0 0 0 none none [] [] wn2212 ⟨Row.nil _ _ _, fun r hr => by cases hr⟩ ⟨Row.nil _ _ _, fun r hr => by cases hr⟩ rfl (by omega) (Nat.le_refl _)).mono ?_
            rintro e' wn2213 ⟨rfl, hb2213⟩
            go_simp
            have hS2213 : Below (w4.heap.size) w4 wn2213 := (hH2212).trans (hb2213.mono (hH2212).size)
            refine hK.out _ _ hS2213 (fun hH2213 => ?_)
            have hH2213 : Below (w4.heap.size) w4 wn2213 := hH2213
            clear hK K hS2213
            try simp only [Act.put, List.setIfInBounds_toArray, List.set_cons_zero, List.set_cons_succ]
            refine wpAnyH_take (i := 13) (oi := { dst := some 29, op := Op.unOp UnOp.not 4 (Operand.tmp 28), type := 4, pos := "law.go:46", after := #[{ on := 12, ground := Ground.data }, { on := 5, ground := Ground.guard }], guard := some (5, false) }) (v := ?tkv2214) rfl (by kernel_rfl) (by kernel_rfl) (by kernel_rfl) (fun _ _ _ h => h) (Or.inl ⟨by rfl, ?tky2214⟩) hH2213 ?tkr2214
            case tky2214 => (intro w' hSw; clear hSw; go_simp; try with_reducible rfl)
            try simp only [Act.put, List.setIfInBounds_toArray, List.set_cons_zero, List.set_cons_succ]
            refine wpAnyH_take (i := 14) (oi := { dst := some 30, op := Op.pick (Operand.tmp 21) (Operand.const (Value.bool true)) (Operand.tmp 29), type := 4, pos := "law.go:46", after := #[{ on := 5, ground := Ground.data }, { on := 13, ground := Ground.data }], guard := none }) (v := ?tkv2215) rfl (by kernel_rfl) (by kernel_rfl) (by kernel_rfl) (fun _ _ _ h => h) (Or.inl ⟨by rfl, ?tky2215⟩) hH2213 ?tkr2215
            case tky2215 => (intro w' hSw; clear hSw; go_simp; try with_reducible rfl)
            try simp only [Act.put, List.setIfInBounds_toArray, List.set_cons_zero, List.set_cons_succ]
            refine wpAnyH_done (by kernel_rfl) ?_ _
            refine NoPanic.normal ?_
            have HBE : Hid (Below w4.heap.size w4 wn2213) := Lib.hid (hH2213)
            go_wp2_with fail
            go_meet
            exact ⟨rfl, HBE⟩
          | true =>
            obtain ⟨hnK, hrZ⟩ := fitB_yes.1 hf
            subst hnK
            have HP1 := Lib.hid (fun W (hW : Below w4.heap.size w4 W) => pieces_yes s n P Z c w.heap.size A es W HS.out hKq hP hZ (HL4.out W hW) hrZ (HWS.out W hW))
            have HP2 := Lib.hid (fun W (hW : Below w4.heap.size w4 W) => rpieces_fit s n P Z n c w.heap.size A es W HS.out hKq hP hZ (HL4.out W hW) (HWS.out W hW) hf)
            obtain ⟨LL, hLL⟩ : ∃ LL, allP s n Z (es.map (·.l)) P = LL := ⟨_, rfl⟩
            have HLL : Hid (LL.length ≤ 1000000) := Lib.hid (by rw [← hLL, allP_length]; have := (HL0.out).1.1; simp at this; simp; omega)
            rw [hLL] at HP1 HP2
            unfold parV at HP1 HP2
            clear hm hf hKq hP hZ hrZ hLL
            refine wp_region_noPanic ?_
            refine wp_region_held_drew (S := (fun W => Below (w4.heap.size) w4 W)) (by kernel_rfl) (Below.refl _ _).drew (fun hH0 => ?_)
            have hH0 : Below (w4.heap.size) w4 w4.drew := hH0
            generalize w4.drew = wd2400 at *
            refine wpAnyH_take (i := 0) (oi := { dst := some 16, op := Op.move (Operand.tmp 5), type := 41, pos := "law.go:46", after := #[], guard := none }) (v := ?tkv2401) rfl (by kernel_rfl) (by kernel_rfl) (by kernel_rfl) (fun _ _ _ h => h) (Or.inl ⟨by rfl, ?tky2401⟩) hH0 ?tkr2401
            case tky2401 => (intro w' hSw; clear hSw; go_simp; try with_reducible rfl)
            try simp only [Act.put, List.setIfInBounds_toArray, List.set_cons_zero, List.set_cons_succ]
            refine wpAnyH_take (i := 1) (oi := { dst := some 17, op := Op.call { callee := Callee.builtin Builtin.len, args := #[Operand.tmp 16], argTypes := #[41] }, type := 3, pos := "law.go:46", after := #[{ on := 0, ground := Ground.data }], guard := none }) (v := ?tkv2402) rfl (by kernel_rfl) (by kernel_rfl) (by kernel_rfl) (fun _ _ _ h => h) (Or.inl ⟨by rfl, ?tky2402⟩) hH0 ?tkr2402
            case tky2402 => (intro w' hSw; clear hSw; go_simp; try with_reducible rfl)
            try simp only [Act.put, List.setIfInBounds_toArray, List.set_cons_zero, List.set_cons_succ]
            refine wpAnyH_take (i := 2) (oi := { dst := some 18, op := Op.move (Operand.tmp 6), type := 43, pos := "law.go:46", after := #[], guard := none }) (v := ?tkv2403) rfl (by kernel_rfl) (by kernel_rfl) (by kernel_rfl) (fun _ _ _ h => h) (Or.inl ⟨by rfl, ?tky2403⟩) hH0 ?tkr2403
            case tky2403 => (intro w' hSw; clear hSw; go_simp; try with_reducible rfl)
            try simp only [Act.put, List.setIfInBounds_toArray, List.set_cons_zero, List.set_cons_succ]
            refine wpAnyH_take (i := 3) (oi := { dst := some 19, op := Op.call { callee := Callee.builtin Builtin.len, args := #[Operand.tmp 18], argTypes := #[43] }, type := 3, pos := "law.go:46", after := #[{ on := 2, ground := Ground.data }], guard := none }) (v := ?tkv2404) rfl (by kernel_rfl) (by kernel_rfl) (by kernel_rfl) (fun _ _ _ h => h) (Or.inl ⟨by rfl, ?tky2404⟩) hH0 ?tkr2404
            case tky2404 => (intro w' hSw; clear hSw; go_simp; try with_reducible rfl)
            try simp only [Act.put, List.setIfInBounds_toArray, List.set_cons_zero, List.set_cons_succ]
            refine wpAnyH_take (i := 4) (oi := { dst := some 20, op := Op.binOp BinOp.neq 3 (Operand.tmp 17) (Operand.tmp 19) 3, type := 4, pos := "law.go:46", after := #[{ on := 1, ground := Ground.data }, { on := 3, ground := Ground.data }], guard := none }) (v := ?tkv2405) rfl (by kernel_rfl) (by kernel_rfl) (by kernel_rfl) (fun _ _ _ h => h) (Or.inl ⟨by rfl, ?tky2405⟩) hH0 ?tkr2405
            case tky2405 => (intro w' hSw; clear hSw; go_simp; try with_reducible rfl)
            try simp only [Act.put, List.setIfInBounds_toArray, List.set_cons_zero, List.set_cons_succ]
            refine wpAnyH_take (i := 5) (oi := { dst := some 21, op := Op.move (Operand.tmp 20), type := 4, pos := "law.go:46", after := #[{ on := 4, ground := Ground.data }], guard := none }) (v := ?tkv2406) rfl (by kernel_rfl) (by kernel_rfl) (by kernel_rfl) (fun _ _ _ h => h) (Or.inl ⟨by rfl, ?tky2406⟩) hH0 ?tkr2406
            case tky2406 => (intro w' hSw; clear hSw; go_simp; try with_reducible rfl)
            try simp only [Act.put, List.setIfInBounds_toArray, List.set_cons_zero, List.set_cons_succ]
            refine wpAnyH_take (i := 6) (oi := { dst := some 22, op := Op.load 24 (Operand.tmp 2), type := 24, pos := "law.go:46", after := #[{ on := 5, ground := Ground.guard }], guard := some (5, false) }) (v := ?tkv2407) rfl (by kernel_rfl) (by kernel_rfl) (by kernel_rfl) (fun _ _ _ h => h) (Or.inl ⟨by rfl, ?tky2407⟩) hH0 ?tkr2407
            case tky2407 => (intro w' hSw; have z0 := HB4.out _ hSw; clear hSw; go_simp; try with_reducible rfl)
            try simp only [Act.put, List.setIfInBounds_toArray, List.set_cons_zero, List.set_cons_succ]
            refine wpAnyH_take (i := 7) (oi := { dst := some 23, op := Op.move (Operand.tmp 1), type := 39, pos := "law.go:46", after := #[{ on := 5, ground := Ground.guard }], guard := some (5, false) }) (v := ?tkv2408) rfl (by kernel_rfl) (by kernel_rfl) (by kernel_rfl) (fun _ _ _ h => h) (Or.inl ⟨by rfl, ?tky2408⟩) hH0 ?tkr2408
            case tky2408 => (intro w' hSw; clear hSw; go_simp; try with_reducible rfl)
            try simp only [Act.put, List.setIfInBounds_toArray, List.set_cons_zero, List.set_cons_succ]
            refine wpAnyH_take (i := 9) (oi := { dst := some 25, op := Op.load 24 (Operand.tmp 2), type := 24, pos := "law.go:46", after := #[{ on := 5, ground := Ground.guard }], guard := some (5, false) }) (v := ?tkv2409) rfl (by kernel_rfl) (by kernel_rfl) (by kernel_rfl) (fun _ _ _ h => h) (Or.inl ⟨by rfl, ?tky2409⟩) hH0 ?tkr2409
            case tky2409 => (intro w' hSw; have z0 := HB4.out _ hSw; clear hSw; go_simp; try with_reducible rfl)
            try simp only [Act.put, List.setIfInBounds_toArray, List.set_cons_zero, List.set_cons_succ]
            refine wpAnyH_take (i := 10) (oi := { dst := some 26, op := Op.move (Operand.tmp 1), type := 39, pos := "law.go:46", after := #[{ on := 5, ground := Ground.guard }], guard := some (5, false) }) (v := ?tkv2410) rfl (by kernel_rfl) (by kernel_rfl) (by kernel_rfl) (fun _ _ _ h => h) (Or.inl ⟨by rfl, ?tky2410⟩) hH0 ?tkr2410
            case tky2410 => (intro w' hSw; clear hSw; go_simp; try with_reducible rfl)
            try simp only [Act.put, List.setIfInBounds_toArray, List.set_cons_zero, List.set_cons_succ]
            refine wpAnyH_ready (rs := [8]) (by kernel_rfl) (by simp) ?_
            refine AllReadyH.cons (o := { dst := some 24, op := Op.call { callee := Callee.value (Operand.func 20), args := #[Operand.tmp 22, Operand.tmp 23], argTypes := #[24, 39] }, type := 39, pos := "law.go:46", after := #[{ on := 6, ground := Ground.data }, { on := 7, ground := Ground.data }, { on := 5, ground := Ground.chain }, { on := 5, ground := Ground.guard }], guard := some (5, false) }) rfl (fun K hK => ?_) AllReadyH.nil
            go_simp
            refine (HP1.out wd2400 (hH0)).mono ?_
            rintro e' wn2411 ⟨v2411, rfl, h12411, hb2411'⟩
            have hb2411 := hb2411'.out
            obtain ⟨A2411, c2411, es2411, rfl, he2411, hr2411, _⟩ := h12411.out.rows
            have RA2411_ : Hid (R2H A2411 LL.length es2411 wn2411) := Lib.hid hr2411
            have HE2411 := Lib.hid he2411
            clear hb2411' h12411 he2411 hr2411
            go_simp
            have hS2411 : Below (w4.heap.size) w4 wn2411 := (hH0).trans (hb2411.mono (hH0).size)
            refine hK.out _ _ hS2411 (fun hH2411 => ?_)
            have hH2411 : Below (w4.heap.size) w4 wn2411 := hH2411
            clear hK K hS2411
            try simp only [Act.put, List.setIfInBounds_toArray, List.set_cons_zero, List.set_cons_succ]
            refine wpAnyH_ready (rs := [11]) (by kernel_rfl) (by simp) ?_
            refine AllReadyH.cons (o := { dst := some 27, op := Op.call { callee := Callee.value (Operand.func 21), args := #[Operand.tmp 25, Operand.tmp 26], argTypes := #[24, 39] }, type := 39, pos := "law.go:46", after := #[{ on := 9, ground := Ground.data }, { on := 10, ground := Ground.data }, { on := 8, ground := Ground.chain }, { on := 5, ground := Ground.guard }], guard := some (5, false) }) rfl (fun K hK => ?_) AllReadyH.nil
            go_simp
            refine (HP2.out wn2411 (hH2411)).mono ?_
            rintro e' wn2412 ⟨v2412, rfl, h12412, hb2412'⟩
            have hb2412 := hb2412'.out
            obtain ⟨A2412, c2412, es2412, rfl, he2412, hr2412, _⟩ := h12412.out.rows
            have RB2412_ : Hid (R2H A2412 LL.length es2412 wn2412) := Lib.hid hr2412
            have HE2412 := Lib.hid he2412
            clear hb2412' h12412 he2412 hr2412
            go_simp
            have RA2411_2412 := Lib.hid (RA2411_.out.below hb2412)
            have hS2412 : Below (w4.heap.size) w4 wn2412 := (hH2411).trans (hb2412.mono (hH2411).size)
            refine hK.out _ _ hS2412 (fun hH2412 => ?_)
            have hH2412 : Below (w4.heap.size) w4 wn2412 := hH2412
            clear hK K hS2412
            try simp only [Act.put, List.setIfInBounds_toArray, List.set_cons_zero, List.set_cons_succ]
            refine wpAnyH_ready (rs := [12]) (by kernel_rfl) (by simp) ?_
            refine AllReadyH.cons (o := { dst := some 28, op := Op.call { callee := Callee.value (Operand.func 19), args := #[Operand.tmp 24, Operand.tmp 27], argTypes := #[39, 39] }, type := 4, pos := "law.go:46", after := #[{ on := 8, ground := Ground.data }, { on := 11, ground := Ground.data }, { on := 11, ground := Ground.chain }, { on := 5, ground := Ground.guard }], guard := some (5, false) }) rfl (fun K hK => ?_) AllReadyH.nil
            go_simp
            refine (same9_yes wn2412.heap.size LL.length _ _ _ _ _ _ wn2412 RA2411_2412.out RB2412_.out (HE2411.out.trans HE2412.out.symm) HLL.out (Nat.le_refl _)).mono ?_
            rintro e' wn2413 ⟨rfl, hb2413⟩
            go_simp
            have RA2411_2413 := Lib.hid (RA2411_2412.out.below hb2413)
            have RB2412_2413 := Lib.hid (RB2412_.out.below hb2413)
            have hS2413 : Below (w4.heap.size) w4 wn2413 := (hH2412).trans (hb2413.mono (hH2412).size)
            refine hK.out _ _ hS2413 (fun hH2413 => ?_)
            have hH2413 : Below (w4.heap.size) w4 wn2413 := hH2413
            clear hK K hS2413
            try simp only [Act.put, List.setIfInBounds_toArray, List.set_cons_zero, List.set_cons_succ]
            refine wpAnyH_take (i := 13) (oi := { dst := some 29, op := Op.unOp UnOp.not 4 (Operand.tmp 28), type := 4, pos := "law.go:46", after := #[{ on := 12, ground := Ground.data }, { on := 5, ground := Ground.guard }], guard := some (5, false) }) (v := ?tkv2414) rfl (by kernel_rfl) (by kernel_rfl) (by kernel_rfl) (fun _ _ _ h => h) (Or.inl ⟨by rfl, ?tky2414⟩) hH2413 ?tkr2414
            case tky2414 => (intro w' hSw; clear hSw; go_simp; try with_reducible rfl)
            try simp only [Act.put, List.setIfInBounds_toArray, List.set_cons_zero, List.set_cons_succ]
            refine wpAnyH_take (i := 14) (oi := { dst := some 30, op := Op.pick (Operand.tmp 21) (Operand.const (Value.bool true)) (Operand.tmp 29), type := 4, pos := "law.go:46", after := #[{ on := 5, ground := Ground.data }, { on := 13, ground := Ground.data }], guard := none }) (v := ?tkv2415) rfl (by kernel_rfl) (by kernel_rfl) (by kernel_rfl) (fun _ _ _ h => h) (Or.inl ⟨by rfl, ?tky2415⟩) hH2413 ?tkr2415
            case tky2415 => (intro w' hSw; clear hSw; go_simp; try with_reducible rfl)
            try simp only [Act.put, List.setIfInBounds_toArray, List.set_cons_zero, List.set_cons_succ]
            refine wpAnyH_done (by kernel_rfl) ?_ _
            refine NoPanic.normal ?_
            have HBE : Hid (Below w4.heap.size w4 wn2413) := Lib.hid (hH2413)
            go_wp2_with fail
            go_meet
            exact ⟨rfl, HBE⟩
      case rest =>
        obtain ⟨rfl, HB5⟩ := hcut
        obtain ⟨w5, rfl⟩ : ∃ x : World, x = wc := ⟨_, rfl⟩
        have HLG := Lib.hid (HLF.out.below HB5.out)
        have HBD := Lib.hid (HBC.out.trans (HB5.out.mono HBC.out.size))
        have HTD := Lib.hid (HT.out.grow (HB0.out.trans (HBD.out.mono HB0.out.size)))
        clear HLF HBC HB4 HL4 HWS HB5
        go_wp2_with fail
        go_loopw [33] (fun i wr => ∃ j : Nat, j ≤ Q ∧ i = .int .i64 j ∧ Hid (Below w5.heap.size w5 wr)) (fun i _ => Q - (intOf i).toNat)
        case atStart => exact ⟨0, by omega, rfl, Lib.hid (Below.refl _ _)⟩
        case round =>
          obtain ⟨j, hj, rfl, hbk⟩ := hrel
          by_cases hlt : j < Q
          · have hji : (j : Int) < (Q : Int) := by omega
            obtain ⟨b, o, g, h, m, X, b', o', A', c', rfl, hc1, hv, rfl, hc2, hr⟩ := (HLG.out.below hbk.out) j hlt
            have HCL : Hid (∀ W, Below wr.heap.size wr W → W.cell? ⟨b, o + j, none⟩ = some (.pointer (some ⟨g, 0, none⟩)) ∧ W.cell? ⟨b', o' + j, none⟩ = some (.slice A' m c')) := Lib.hid fun W hW => ⟨(hW.cell (p := ⟨b, o + j, none⟩) (block_lt_of_cell hc1)).trans hc1, (hW.cell (p := ⟨b', o' + j, none⟩) (block_lt_of_cell hc2)).trans hc2⟩
            have HTW := Lib.hid (HTD.out.grow hbk.out)
            have HLK := Lib.hid (fun W (hW : Below wr.heap.size wr W) => like_yes g h m X W.heap.size c' A' W (hv.below hW) ((hr.below hW).more hW.size) (Nat.le_refl _) (HTW.out.grow hW))
            clear hc1 hv hc2 hr
            go_upto_region 9 with fail
            refine wp_region_noPanic ?_
            refine wp_region_held_drew (S := (fun W => Below (wr.heap.size) wr W)) (by kernel_rfl) (Below.refl _ _).drew (fun hH0 => ?_)
            have hH0 : Below (wr.heap.size) wr wr.drew := hH0
            generalize wr.drew = wd3000 at *
            refine wpAnyH_take (i := 0) (oi := { dst := some 36, op := Op.move (Operand.tmp 5), type := 41, pos := "law.go:50", after := #[], guard := none }) (v := ?tkv3001) rfl (by kernel_rfl) (by kernel_rfl) (by kernel_rfl) (fun _ _ _ h => h) (Or.inl ⟨by rfl, ?tky3001⟩) hH0 ?tkr3001
            case tky3001 => (intro w' hSw; clear hSw; go_simp; try with_reducible rfl)
            try simp only [Act.put, List.setIfInBounds_toArray, List.set_cons_zero, List.set_cons_succ]
            refine wpAnyH_take (i := 1) (oi := { dst := some 37, op := Op.move (Operand.tmp 7), type := 3, pos := "law.go:50", after := #[], guard := none }) (v := ?tkv3002) rfl (by kernel_rfl) (by kernel_rfl) (by kernel_rfl) (fun _ _ _ h => h) (Or.inl ⟨by rfl, ?tky3002⟩) hH0 ?tkr3002
            case tky3002 => (intro w' hSw; clear hSw; go_simp; try with_reducible rfl)
            try simp only [Act.put, List.setIfInBounds_toArray, List.set_cons_zero, List.set_cons_succ]
            refine wpAnyH_take (i := 2) (oi := { dst := some 38, op := Op.indexAddr 41 (Operand.tmp 36) (Operand.tmp 37), type := 0, pos := "law.go:50", after := #[{ on := 0, ground := Ground.data }, { on := 1, ground := Ground.data }], guard := none }) (v := ?tkv3003) rfl (by kernel_rfl) (by kernel_rfl) (by kernel_rfl) (fun _ _ _ h => h) (Or.inl ⟨by rfl, ?tky3003⟩) hH0 ?tkr3003
            case tky3003 => (intro w' hSw; clear hSw; go_simp; try with_reducible rfl)
            try simp only [Act.put, List.setIfInBounds_toArray, List.set_cons_zero, List.set_cons_succ]
            refine wpAnyH_take (i := 3) (oi := { dst := some 39, op := Op.load 26 (Operand.tmp 38), type := 26, pos := "law.go:50", after := #[{ on := 2, ground := Ground.data }], guard := none }) (v := ?tkv3004) rfl (by kernel_rfl) (by kernel_rfl) (by kernel_rfl) (fun _ _ _ h => h) (Or.inl ⟨by rfl, ?tky3004⟩) hH0 ?tkr3004
            case tky3004 => (intro w' hSw; have z0 := HCL.out _ hSw; clear hSw; go_simp; try with_reducible rfl)
            try simp only [Act.put, List.setIfInBounds_toArray, List.set_cons_zero, List.set_cons_succ]
            refine wpAnyH_take (i := 4) (oi := { dst := some 40, op := Op.move (Operand.tmp 6), type := 43, pos := "law.go:50", after := #[], guard := none }) (v := ?tkv3005) rfl (by kernel_rfl) (by kernel_rfl) (by kernel_rfl) (fun _ _ _ h => h) (Or.inl ⟨by rfl, ?tky3005⟩) hH0 ?tkr3005
            case tky3005 => (intro w' hSw; clear hSw; go_simp; try with_reducible rfl)
            try simp only [Act.put, List.setIfInBounds_toArray, List.set_cons_zero, List.set_cons_succ]
            refine wpAnyH_take (i := 5) (oi := { dst := some 41, op := Op.move (Operand.tmp 7), type := 3, pos := "law.go:50", after := #[], guard := none }) (v := ?tkv3006) rfl (by kernel_rfl) (by kernel_rfl) (by kernel_rfl) (fun _ _ _ h => h) (Or.inl ⟨by rfl, ?tky3006⟩) hH0 ?tkr3006
            case tky3006 => (intro w' hSw; clear hSw; go_simp; try with_reducible rfl)
            try simp only [Act.put, List.setIfInBounds_toArray, List.set_cons_zero, List.set_cons_succ]
            refine wpAnyH_take (i := 6) (oi := { dst := some 42, op := Op.indexAddr 43 (Operand.tmp 40) (Operand.tmp 41), type := 0, pos := "law.go:50", after := #[{ on := 4, ground := Ground.data }, { on := 5, ground := Ground.data }], guard := none }) (v := ?tkv3007) rfl (by kernel_rfl) (by kernel_rfl) (by kernel_rfl) (fun _ _ _ h => h) (Or.inl ⟨by rfl, ?tky3007⟩) hH0 ?tkr3007
            case tky3007 => (intro w' hSw; clear hSw; go_simp; try with_reducible rfl)
            try simp only [Act.put, List.setIfInBounds_toArray, List.set_cons_zero, List.set_cons_succ]
            refine wpAnyH_take (i := 7) (oi := { dst := some 43, op := Op.load 32 (Operand.tmp 42), type := 32, pos := "law.go:50", after := #[{ on := 6, ground := Ground.data }], guard := none }) (v := ?tkv3008) rfl (by kernel_rfl) (by kernel_rfl) (by kernel_rfl) (fun _ _ _ h => h) (Or.inl ⟨by rfl, ?tky3008⟩) hH0 ?tkr3008
            case tky3008 => (intro w' hSw; have z0 := HCL.out _ hSw; clear hSw; go_simp; try with_reducible rfl)
            try simp only [Act.put, List.setIfInBounds_toArray, List.set_cons_zero, List.set_cons_succ]
            refine wpAnyH_ready (rs := [8]) (by kernel_rfl) (by simp) ?_
            refine AllReadyH.cons (o := { dst := some 44, op := Op.call { callee := Callee.value (Operand.func 10), args := #[Operand.tmp 39, Operand.tmp 43], argTypes := #[26, 32] }, type := 3, pos := "law.go:50", after := #[{ on := 3, ground := Ground.data }, { on := 7, ground := Ground.data }], guard := none }) rfl (fun K hK => ?_) AllReadyH.nil
            go_simp
            refine (HLK.out wd3000 (hH0)).mono ?_
            rintro e' wn3009 ⟨rfl, hb3009'⟩
            have hb3009 := hb3009'.out
            clear hb3009'
            go_simp
            have hS3009 : Below (wr.heap.size) wr wn3009 := (hH0).trans (hb3009.mono (hH0).size)
            refine hK.out _ _ hS3009 (fun hH3009 => ?_)
            have hH3009 : Below (wr.heap.size) wr wn3009 := hH3009
            clear hK K hS3009
            try simp only [Act.put, List.setIfInBounds_toArray, List.set_cons_zero, List.set_cons_succ]
            refine wpAnyH_take (i := 9) (oi := { dst := some 45, op := Op.binOp BinOp.gtr 3 (Operand.tmp 44) (Operand.const (Value.int IntKind.i64 0)) 3, type := 4, pos := "law.go:50", after := #[{ on := 8, ground := Ground.data }], guard := none }) (v := ?tkv3010) rfl (by kernel_rfl) (by kernel_rfl) (by kernel_rfl) (fun _ _ _ h => h) (Or.inl ⟨by rfl, ?tky3010⟩) hH3009 ?tkr3010
            case tky3010 => (intro w' hSw; clear hSw; go_simp; try with_reducible rfl)
            try simp only [Act.put, List.setIfInBounds_toArray, List.set_cons_zero, List.set_cons_succ]
            refine wpAnyH_done (by kernel_rfl) ?_ _
            refine NoPanic.normal ?_
            have HBN := Lib.hid (hbk.out.trans ((hH3009).mono hbk.out.size))
            go_wp2_with fail
            go_roundw
            case rel => exact ⟨j + 1, by omega, by go_num, HBN⟩
            case measure => simp [intOf]; omega
          · obtain rfl : Q = j := by omega
            clear hlt
            have HBF := Lib.hid (HB0.out.trans ((HBD.out.trans (hbk.out.mono HBD.out.size)).mono HB0.out.size))
            go_wp2_with fail
            refine (awake9_any wr).mono ?_
            rintro e w9 ⟨rfl, hb9⟩
            have HB9 := Lib.hid ((HBF.out).trans (hb9.out.mono (HBF.out).size))
            clear hb9
            go_wp2_with fail
            go_ret
            exact ⟨rfl, HB9.out⟩
end Go.Proofs.YtibleaaghhhjkaaDoor.Pc
