/- frame.All: by contract, whatever the bytes. -/
import Derived.Test.YtghadeingmccfaaFrameBeg
import Derived.Test.YtghadeingmccfaaR1Join
import Derived.Test.YtghadeingmccfaaClone
namespace Go.Proofs.Ytghadeingmccfaa
open Go.RowKit
open FrM (flen inner frame)
/-- the frames in l, and how many bytes are of none -/
inductive Scan : List UInt8 → List (List UInt8) → Nat → Prop
  | done : Scan [] [] 0
  | none {l : List UInt8} {fs : List (List UInt8)} {k : Nat} (hl : 0 < l.length) (hb : beg l = 0) (h : Scan (l.drop 1) fs k) : Scan l fs (k + 1)
  | some {l : List UInt8} {fs : List (List UInt8)} {k : Nat} (hb : 0 < beg l) (h : Scan (l.drop (beg l)) fs k) : Scan l (l.take (beg l) :: fs) k
theorem beg_nil : beg [] = 0 := by have := beg_le []; simpa using this
theorem Scan.uniq {l : List UInt8} {fs : List (List UInt8)} {k : Nat} (h : Scan l fs k) : ∀ {fs' : List (List UInt8)} {k' : Nat}, Scan l fs' k' → fs = fs' ∧ k = k' := by
  induction h with
  | done =>
    intro fs' k' h'
    cases h' with
    | done => exact ⟨rfl, rfl⟩
    | none hl => simp at hl
    | some hb => rw [beg_nil] at hb; omega
  | none hl hb _ ih =>
    intro fs' k' h'
    cases h' with
    | done => simp at hl
    | none _ _ h2 => obtain ⟨e1, e2⟩ := ih h2; exact ⟨e1, by omega⟩
    | some hb2 => omega
  | some hb _ ih =>
    intro fs' k' h'
    cases h' with
    | done => rw [beg_nil] at hb; omega
    | none _ hb2 => omega
    | some _ h2 => obtain ⟨e1, e2⟩ := ih h2; exact ⟨by rw [e1], e2⟩
def Pr (W : World) (base : Nat) (v : Value) (r : BRow) : Prop :=
  ∃ g, r.A = some ⟨g, 0, none⟩ ∧ base ≤ g ∧ g < W.heap.size ∧ v.ownBlock ≠ some g ∧ Row W W.heap.size r.A r.n (bv r.l) ∧ r.n ≤ r.c ∧ r.c ≤ 9223372036854775807
/-- a list of rows of the call's own, each in a block of its own -/
def LW (base : Nat) (W : World) (v : Value) (n : Nat) (es : List BRow) : Prop := W.ownsRow base 22 1 v n (es.map BRow.val) ∧ ∀ r ∈ es, Pr W base v r
theorem row_same {w W : World} {g o n : Nat} {xs : List Value} (hr : Row w w.heap.size (some ⟨g, o, none⟩) n xs) (hb : W.heap[g]? = w.heap[g]?) (hs : w.heap.size ≤ W.heap.size) : Row W W.heap.size (some ⟨g, o, none⟩) n xs := by
  refine ⟨hr.1, fun hn => ?_⟩
  obtain ⟨b, o', e, hb', hc⟩ := hr.2 hn
  injection e with e
  injection e with e1 e2
  subst e1 e2
  refine ⟨g, o, rfl, Nat.lt_of_lt_of_le hb' hs, fun j u hu => ?_⟩
  rw [World.cell?_of_block (w := w) (w' := W) (a := ⟨g, o + j, none⟩) hb]
  exact hc j u hu
theorem LW.below {base n : Nat} {W W' : World} {v : Value} {es : List BRow} (h : LW base W v n es) (hb : Below W.heap.size W W') : LW base W' v n es := by
  refine ⟨own_below h.1 hb, fun r hr => ?_⟩
  obtain ⟨g, a1, a2, a3, a4, a5, a6⟩ := h.2 r hr
  exact ⟨g, a1, a2, Nat.lt_of_lt_of_le a3 hb.size, a4, (a5.below hb).more hb.size, a6⟩
/-- a row of its own, appended -/
theorem LW.next {base n m c G : Nat} {W w3 : World} {v v' : Value} {es : List BRow} {l : List UInt8} (h : LW base W v n es) (hrow : Row W W.heap.size (some ⟨G, 0, none⟩) m (bv l)) (hG : base ≤ G) (hG2 : G < W.heap.size) (hGv : v.ownBlock ≠ some G) (hmc : m ≤ c) (hc : c ≤ 9223372036854775807)
    (hown : w3.ownsRow base 22 1 v' (n + 1) (es.map BRow.val ++ [.slice (some ⟨G, 0, none⟩) m c])) (hg : W.grownBy w3 v.ownBlock) (hv : v'.ownBlock = v.ownBlock ∨ v'.ownBlock = some W.heap.size) : LW base w3 v' (n + 1) (es ++ [⟨some ⟨G, 0, none⟩, m, c, l⟩]) := by
  have hnv : ∀ g, g < W.heap.size → v.ownBlock ≠ some g → v'.ownBlock ≠ some g := by
    intro g hg1 hg2 e
    rcases hv with h | h
    · exact hg2 (h.symm.trans e)
    · rw [h] at e; injection e with e; omega
  refine ⟨by simpa [BRow.val] using hown, fun r hr => ?_⟩
  rcases List.mem_append.1 hr with hr | hr
  · obtain ⟨g, a1, a2, a3, a4, a5, a6⟩ := h.2 r hr
    refine ⟨g, a1, a2, Nat.lt_of_lt_of_le a3 hg.size, hnv g a3 a4, ?_, a6⟩
    rw [a1] at a5 ⊢
    exact row_same a5 (hg.block g a3 (fun e => a4 e.symm)) hg.size
  · obtain rfl := List.mem_singleton.1 hr
    exact ⟨G, rfl, hG, Nat.lt_of_lt_of_le hG2 hg.size, hnv G hG2 hGv, row_same hrow (hg.block G hG2 (fun e => hGv e.symm)) hg.size, hmc, hc⟩
def AllOk (l : List UInt8) (w : World) (e : Ending) (w' : World) : Prop :=
  ∃ A n cap es c, e = .returned (.tuple #[.slice A n cap, .int .i64 (c : Nat)]) ∧ Hid (Scan l (es.map (·.l)) c) ∧ Hid (LW w.heap.size w' (.slice A n cap) n es) ∧ Hid (Below w.heap.size w w')
theorem Try.info22 : (Try.prog.info? 22).map (fun i => (i.zero, i.size, i.bytes)) = some (some (.slice none 0 0), 1, 24) := by kernel_rfl
set_option maxHeartbeats 1600000 in
theorem all_any (B n cap : Nat) (A : Option Addr) (l : List UInt8) (w : World) (hl : Row w B A n (bv l)) (hn : n ≤ cap) (hcap : cap ≤ 9223372036854775807) (hB : B ≤ w.heap.size) (h2 : n ≤ 20000) :
    Calls Try.prog 11 #[.slice A n cap] w (AllOk l w) := by
  obtain ⟨i0, hi, hz0, hz1, hz2⟩ := info_parts Try.info22
  go_enter Try.func11, Try.ntmps11
  go_wp2_with fail
  go_loopw [0, 4, 5] (fun s v c wr => ∃ (m cp nv cv : Nat) (A' Av : Option Addr) (rest : List UInt8) (es : List BRow) (nc : Nat), s = .slice A' m cp ∧ v = .slice Av nv cv ∧ c = .int .i64 nc ∧ Hid (Row wr B A' m (bv rest)) ∧ (m ≤ cp ∧ cp ≤ 9223372036854775807) ∧ Hid (Below w.heap.size w wr) ∧ Hid (LW w.heap.size wr (.slice Av nv cv) nv es) ∧ Hid (∀ fs' k', Scan rest fs' k' → Scan l (es.map (·.l) ++ fs') (nc + k')) ∧ nc + nv + m ≤ n) (fun s _ _ _ => match s with | .slice _ m _ => m | _ => 0)
  case atStart => exact ⟨n, cap, 0, 0, A, none, l, [], 0, rfl, rfl, rfl, hl, ⟨hn, hcap⟩, Below.refl _ _, ⟨World.ownsRow_nil _ _ _ _, fun r hr => by cases hr⟩, fun fs k h => by simpa using h, by omega⟩
  case round =>
    obtain ⟨m, cp, nv, cv, A', Av, rest, es, nc, rfl, rfl, rfl, hrow, hcp, hb, hLW, hsc, hle⟩ := hrel
    have hrl := hrow.out.blen
    by_cases hm : m = 0
    · subst hm
      have hrest : rest = [] := List.eq_nil_of_length_eq_zero hrl
      have HSC : Hid (Scan l (es.map (·.l)) nc) := by
        have := hsc.out [] 0 (by rw [hrest]; exact Scan.done)
        simpa [Hid] using this
      clear hsc hrest hrl
      go_wp2_with fail
      go_ret2
      exact ⟨Av, nv, cv, es, nc, rfl, HSC.out, hLW.out, hb.out⟩
    · have hsz := hb.out.size
      go_wp2_with fail
      refine (begins_any B m cp A' rest wr hrow.out hcp.1 hcp.2 (by omega)).mono ?_
      rintro e w2 ⟨rfl, hb2⟩
      obtain ⟨F, hF⟩ : ∃ F, beg rest = F := ⟨_, rfl⟩
      have hFm : F ≤ m := by rw [← hF, ← hrl]; exact beg_le rest
      have HLW2 : Hid (LW w.heap.size w2 (.slice Av nv cv) nv es) := hLW.out.below hb2
      have HB2 : Hid (Below w.heap.size w w2) := hb.out.trans (hb2.mono hsz)
      have HR2 : Hid (Row w2 B A' m (bv rest)) := hrow.out.below (hb2.mono (by omega))
      rw [hF]
      by_cases h0 : F = 0
      · subst h0
        obtain ⟨m', rfl⟩ : ∃ m', m = m' + 1 := ⟨m - 1, by omega⟩
        obtain ⟨cp', rfl⟩ : ∃ cp', cp = cp' + 1 := ⟨cp - 1, by omega⟩
        have HSC : Hid (∀ fs' k', Scan (rest.drop 1) fs' k' → Scan l (es.map (·.l) ++ fs') (nc + 1 + k')) := fun fs k h => by
          have := hsc.out fs (k + 1) (Scan.none (by omega) hF h)
          rwa [show nc + (k + 1) = nc + 1 + k by omega] at this
        have hrow2 := HR2.out.next (c := cp') (by omega)
        rw [bv_drop] at hrow2
        have HR3 := Lib.hid hrow2
        clear hsc hF hrl hrow hb hLW hb2 HR2 hrow2
        go_wp2_with fail
        go_roundw
        case rel => exact ⟨m', cp', nv, cv, _, Av, rest.drop 1, es, nc + 1, rfl, rfl, by go_num, HR3, ⟨by omega, by omega⟩, HB2, HLW2, HSC, by omega⟩
        case measure => simp
      · obtain ⟨b, o, rfl, _⟩ := hrow.out.byteAt (k := 0) (by omega)
        have hFi : (0 : Int) < (F : Int) := by omega
        have hFc : (F : Int) ≤ (cp : Int) := by omega
        have hFm' : (F : Int) ≤ (m : Int) := by omega
        have HFL : Hid (F = (rest.take F).length) := by show _ = _; rw [List.length_take]; omega
        have hhead : Row w2 B (some ⟨b, o, none⟩) F (bv (rest.take F)) := by rw [← bv_take]; exact HR2.out.head (by omega)
        have HSC : Hid (∀ fs' k', Scan (rest.drop F) fs' k' → Scan l ((es.map (·.l) ++ [rest.take F]) ++ fs') (nc + k')) := fun fs k h => by
          have := Scan.some (l := rest) (by omega) (by rw [hF]; exact h)
          rw [hF] at this
          have := hsc.out _ _ this
          simpa using this
        have HT : Hid (Row w2 B (if cp = F then some ⟨b, o, none⟩ else some ⟨b, o + F, none⟩) (m - F) (bv (rest.drop F))) := by
          have h1 := HR2.out.sub (k := F) (m := m - F) (A' := if cp = F then some ⟨b, o, none⟩ else some ⟨b, o + F, none⟩) (by omega) (fun b' o' e hp => by
            injection e with e; injection e with e1 e2; subst e1 e2
            rw [if_neg (by omega)])
          rw [bv_drop, List.take_of_length_le (by rw [bv_length, List.length_drop]; omega)] at h1
          exact h1
        have hBw : B ≤ w2.heap.size := by have := HB2.out.size; omega
        clear hsc hF hrow hb hLW
        go_wp2_with fail
        refine (clone_any B F cp (some ⟨b, o, none⟩) (rest.take F) w2 hhead (by omega) hBw).mono ?_
        rintro e w3 ⟨A3, n3, c3, rfl, hn3, hown3, hb3⟩
        obtain rfl : n3 = F := hn3.out.trans HFL.out.symm
        obtain ⟨G, cG, hv, hG1, hG2⟩ := hown3.form (by omega)
        injection hv with e1 e2 e3
        subst e1 e3
        have HLW3 := Lib.hid (HLW2.out.below hb3)
        have HC3 := Lib.hid (own_cap hown3)
        have HG3 : Hid (Row w3 w3.heap.size (some ⟨G, 0, none⟩) n3 (bv (rest.take n3))) := Row.of_own hown3
        have HNE : Hid ((Value.slice Av nv cv).ownBlock ≠ some G) := fun e => by have := (HLW2.out.1.lt G e).2; omega
        have HB3 : Hid (Below w.heap.size w w3) := HB2.out.trans (hb3.mono HB2.out.size)
        have HT3 := Lib.hid (HT.out.below (hb3.mono hBw))
        have hw3 : w.heap.size ≤ w3.heap.size := HB3.out.size
        have HG12 : Hid (w.heap.size ≤ G ∧ G < w3.heap.size) := ⟨by have := HB2.out.size; omega, hG2⟩
        clear hown3 hn3 hhead hb2 HR2 HLW2 HT hb3 HB2 hG1 hG2
        go_wp2_with (at_builtin; refine wpList_app rfl (.tmp 17) (.tmp 22) 32 rfl w.heap.size 22 i0 (.slice none 0 0) 24 Try.underlying32 hi hz0 hz1 hz2 rfl _ nv _ rfl (own_below HLW3.out.1 ((Below.refl _ _).alloc (Nat.le_refl _) _)) _ _ 1 1 _ rfl (row_new w3 _ _ _) (by intro u hu; simp at hu; subst hu; rfl) (by unfold maxLen; omega) (by omega) (by simp; omega) ?_; intro v4 w4 hown4 hg4 hat4)
        obtain ⟨A4, c4, rfl, _⟩ := own_slice hown4
        have hg5 : (w3.alloc (.cells #[.slice (some ⟨G, 0, none⟩) n3 c3] 22)).grownBy w4 (Value.slice Av nv cv).ownBlock := hg4
        have hat5 : (Value.slice A4 (nv + 1) c4).ownBlock = (Value.slice Av nv cv).ownBlock ∨ (Value.slice A4 (nv + 1) c4).ownBlock = some (w3.alloc (.cells #[.slice (some ⟨G, 0, none⟩) n3 c3] 22)).heap.size := hat4
        have hbA : Below w3.heap.size w3 (w3.alloc (.cells #[.slice (some ⟨G, 0, none⟩) n3 c3] 22)) := (Below.refl _ _).alloc (Nat.le_refl _) _
        have HLWA := HLW3.out.below hbA
        have HLW4 : Hid (LW w.heap.size w4 (.slice A4 (nv + 1) c4) (nv + 1) (es ++ [⟨some ⟨G, 0, none⟩, n3, c3, rest.take n3⟩])) :=
          HLWA.next ((HG3.out.below hbA).more hbA.size) HG12.out.1 (Nat.lt_of_lt_of_le HG12.out.2 hbA.size) HNE.out HC3.out.1 HC3.out.2 hown4 hg5 hat5
        have hsA : w.heap.size ≤ (w3.alloc (.cells #[.slice (some ⟨G, 0, none⟩) n3 c3] 22)).heap.size := Nat.le_trans hw3 hbA.size
        have HB4 : Hid (Below w.heap.size w w4) := below_app (HB3.out.trans (hbA.mono hw3)) hsA HLWA.1 (Nat.le_refl _) hg5
        have HT4 := Lib.hid (HT3.out.below (below_app (B := B) (hbA.mono (by omega)) (by omega) HLWA.1 hB hg5))
        have HSC4 : Hid (∀ fs' k', Scan (rest.drop n3) fs' k' → Scan l ((es ++ [(⟨some ⟨G, 0, none⟩, n3, c3, rest.take n3⟩ : BRow)]).map (·.l) ++ fs') (nc + k')) := by
          intro fs k h
          rw [List.map_append]
          exact HSC.out fs k h
        clear hown4 hg4 hat4 hg5 hat5 HSC
        go_roundw
        case rel => exact ⟨m - n3, cp - n3, nv + 1, c4, _, A4, rest.drop n3, _, nc, rfl, rfl, rfl, HT4, ⟨by omega, by omega⟩, HB4, HLW4, HSC4, by omega⟩
        case measure => simp; omega
end Go.Proofs.Ytghadeingmccfaa
