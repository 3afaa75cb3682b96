/- PrecodeSums' walk. -/
import Derived.Test.YtfkklckoalffkaaPcSound
import Derived.Test.YtfkklckoalffkaaPcLin
import Derived.Deep.DeepCutAuto
import Derived.Deep.RegionHeld3
import Derived.Deep.QuietTactic
import Derived.BigQuiet
namespace Go.Proofs.Ytfkklckoalffkaa.Pc
open Go.RowKit
open VecM RdM Vc Sp
/-- two lists of rows of one's own, apart from each other -/
def PQ (es fs : List BRow) (base : Nat) (u v : Value) (W : World) : Prop :=
  W.ownsRow base 28 1 u es.length (es.map BRow.val) ∧ W.ownsRow base 28 1 v fs.length (fs.map BRow.val) ∧
    (∀ r ∈ es, Pc2 W base u r ∧ Pc2 W base v r) ∧ (∀ r ∈ fs, Pc2 W base u r ∧ Pc2 W base v r) ∧ ∀ b, u.ownBlock = some b → v.ownBlock ≠ some b
def PW2 (ms ns : List (List UInt8)) (base : Nat) (u v : Value) (W : World) : Prop :=
  ∃ es fs : List BRow, es.map (·.l) = ms ∧ fs.map (·.l) = ns ∧ PQ es fs base u v W
theorem own_grown {w w' : World} {base : Nat} {e : TypeId} {v : Value} {n : Nat} {row : Option Nat} {xs : List Value} (h : w.ownsRow base e 1 v n xs) (hg : w.grownBy w' row) (hr : ∀ g, v.ownBlock = some g → row ≠ some g) : w'.ownsRow base e 1 v n xs := by
  refine ⟨h.1, ?_⟩
  rcases h.2 with h0 | ⟨g, cap, cur, rfl, hbg, hgb, r⟩
  · exact .inl h0
  · refine .inr ⟨g, cap, cur, rfl, hbg, ?_, r⟩
    rw [hg.block g (Array.getElem?_eq_some_iff.1 hgb).1 (fun e => hr g rfl e.symm)]; exact hgb
theorem Pc2.grown {W W' : World} {base : Nat} {v v' : Value} {r : BRow} {row : Option Nat} (h : Pc2 W base v r) (hg : W.grownBy W' row) (hr : ∀ g, r.A = some ⟨g, 0, none⟩ → row ≠ some g) (hv : v' = v ∨ v'.ownBlock = v.ownBlock ∨ v'.ownBlock = some W.heap.size) : Pc2 W' base v' r := by
  obtain ⟨g, a, b, c⟩ := h
  have hlt : g < W.heap.size := (c.lt g (by rw [a]; rfl)).2
  refine ⟨g, a, ?_, own_grown c hg (fun g' e => hr g' (by have e' : g = g' := (by rw [a] at e; exact Option.some.inj e); rw [← e']; exact a))⟩
  intro e
  rcases hv with h | h | h
  · rw [h] at e; exact b e
  · exact b (h.symm.trans e)
  · rw [h] at e; injection e with e; omega
theorem PQ.swap {es fs : List BRow} {base : Nat} {u v : Value} {W : World} (h : PQ es fs base u v W) : PQ fs es base v u W := by
  obtain ⟨h3, h4, h5, h6, h7⟩ := h
  exact ⟨h4, h3, fun r hr => ⟨(h6 r hr).2, (h6 r hr).1⟩, fun r hr => ⟨(h5 r hr).2, (h5 r hr).1⟩, fun b e1 e2 => h7 b e2 e1⟩
theorem PW2.fst {ms ns : List (List UInt8)} {base : Nat} {u v : Value} {W : World} (h : PW2 ms ns base u v W) : PW ms base u W := by
  obtain ⟨es, fs, h1, h2, h3, h4, h5, h6, h7⟩ := h
  exact ⟨es, h1, by rw [← h1, List.length_map]; exact h3, fun r hr => (h5 r hr).1⟩
theorem PW2.snd {ms ns : List (List UInt8)} {base : Nat} {u v : Value} {W : World} (h : PW2 ms ns base u v W) : PW ns base v W := by
  obtain ⟨es, fs, h1, h2, h3, h4, h5, h6, h7⟩ := h
  exact ⟨fs, h2, by rw [← h2, List.length_map]; exact h4, fun r hr => (h6 r hr).2⟩
theorem PW2.nil {base : Nat} {W : World} : PW2 [] [] base (.slice none 0 0) (.slice none 0 0) W :=
  ⟨[], [], rfl, rfl, World.ownsRow_nil _ _ _ _, World.ownsRow_nil _ _ _ _, fun r hr => (by cases hr), fun r hr => (by cases hr), fun b e => (by cases e)⟩
/-- the first list, with one more -/
theorem PQ.app {base g0 n0 c0 k : Nat} {u u' v : Value} {l : List UInt8} {wr W2 w5 : World} {es fs : List BRow} (hk : es.length = k) (h : PQ es fs base u v wr)
    (hb : Below wr.heap.size wr W2) (ho : W2.ownsRow base 5 1 (.slice (some ⟨g0, 0, none⟩) n0 c0) n0 (bv l)) (hgu : u.ownBlock ≠ some g0) (hgv : v.ownBlock ≠ some g0)
    (hown : w5.ownsRow base 28 1 u' (k + 1) (es.map BRow.val ++ [.slice (some ⟨g0, 0, none⟩) n0 c0])) (hg : W2.grownBy w5 u.ownBlock) (hv : u'.ownBlock = u.ownBlock ∨ u'.ownBlock = some W2.heap.size) : PQ (es ++ [⟨some ⟨g0, 0, none⟩, n0, c0, l⟩]) fs base u' v w5 := by
  subst hk
  obtain ⟨h3, h4, h5, h6, h7⟩ := h
  have hub : ∀ b, u.ownBlock = some b → b < wr.heap.size := fun b e => (h3.lt b e).2
  have hvb : ∀ b, v.ownBlock = some b → b < wr.heap.size := fun b e => (h4.lt b e).2
  have hg0 := (ho.lt g0 rfl)
  have hW := hb.size
  have mv : ∀ r, Pc2 wr base u r → Pc2 wr base v r → Pc2 w5 base u' r ∧ Pc2 w5 base v r := by
    intro r q1 q2
    have hr : ∀ g, r.A = some ⟨g, 0, none⟩ → u.ownBlock ≠ some g := by
      obtain ⟨g', a, b, _⟩ := q1
      intro g e
      rw [a] at e
      injection e with e
      injection e with e
      subst e
      exact b
    exact ⟨(q1.below hb).grown hg hr (.inr hv), (q2.below hb).grown hg hr (.inl rfl)⟩
  have hnew5 : w5.ownsRow base 5 1 (.slice (some ⟨g0, 0, none⟩) n0 c0) n0 (bv l) := own_grown ho hg (fun g e e2 => by
    have e1 : some g0 = some g := e
    injection e1 with e1
    rw [e1] at hgu
    exact hgu e2)
  refine ⟨by rw [List.length_append]; simpa [BRow.val] using hown, ?_, ?_, ?_, ?_⟩
  · exact own_grown (own_below h4 hb) hg (fun g e e2 => h7 g e2 e)
  · intro r hr
    rcases List.mem_append.1 hr with hr | hr
    · exact mv r (h5 r hr).1 (h5 r hr).2
    · obtain rfl := List.mem_singleton.1 hr
      refine ⟨⟨g0, rfl, ?_, hnew5⟩, ⟨g0, rfl, ?_, hnew5⟩⟩
      · intro e
        rcases hv with q | q
        · exact hgu (q.symm.trans e)
        · rw [q] at e; injection e with e; omega
      · exact hgv
  · exact fun r hr => mv r (h6 r hr).1 (h6 r hr).2
  · intro b e e2
    rcases hv with q | q
    · exact h7 b (q.symm.trans e) e2
    · rw [q] at e; injection e with e; have := hvb b e2; omega
/-- the three lists behind k rounds -/
def RelS (Z : Nat) (ls : List (List UInt8)) (k : Nat) (ms ns : List (List UInt8)) : Prop :=
  ms.length = k ∧ ns.length = k ∧ (∀ l ∈ ms, l.length = Z) ∧ (∀ l ∈ ns, l.length = Z) ∧ ∀ i, i < k → ∀ j, j < Z → (ns.getD i []).getD j 0 = (ls.getD i []).getD j 0 ^^^ (ms.getD i []).getD j 0
theorem RelS.next {Z k : Nat} {ls ms ns : List (List UInt8)} (h : RelS Z ls k ms ns) {a c l : List UInt8} (ha : a.length = Z) (hc : c.length = Z) (hl : ls.getD k [] = l) (hj : ∀ j, j < Z → c.getD j 0 = a.getD j 0 ^^^ l.getD j 0) : RelS Z ls (k + 1) (ms ++ [a]) (ns ++ [c]) := by
  obtain ⟨h1, h2, h3, h4, h5⟩ := h
  have g1 : ∀ i, i < k → (ms ++ [a]).getD i [] = ms.getD i [] := fun i hi => by simp only [List.getD]; rw [List.getElem?_append_left (by omega)]
  have g2 : ∀ i, i < k → (ns ++ [c]).getD i [] = ns.getD i [] := fun i hi => by simp only [List.getD]; rw [List.getElem?_append_left (by omega)]
  refine ⟨by simp [h1], by simp [h2], ?_, ?_, ?_⟩
  · intro q hq
    rcases List.mem_append.1 hq with hq | hq
    · exact h3 q hq
    · rw [List.mem_singleton.1 hq]; exact ha
  · intro q hq
    rcases List.mem_append.1 hq with hq | hq
    · exact h4 q hq
    · rw [List.mem_singleton.1 hq]; exact hc
  · intro i hi j hj2
    by_cases e : i = k
    · subst e
      have e1 : (ms ++ [a]).getD i [] = a := by simp only [List.getD]; rw [List.getElem?_append_right (by omega), h1, Nat.sub_self]; rfl
      have e2 : (ns ++ [c]).getD i [] = c := by simp only [List.getD]; rw [List.getElem?_append_right (by omega), h2, Nat.sub_self]; rfl
      rw [e1, e2, hl, hj j hj2, UInt8.xor_comm]
    · rw [g1 i (by omega), g2 i (by omega)]
      exact h5 i (by omega) j hj2
/-- two rows of noughts, made one behind the other -/
def TwoR (n gx gy : Nat) (w wx : World) : Prop :=
  gx ≠ gy ∧ wx.ownsRow w.heap.size 5 1 (.slice (some ⟨gx, 0, none⟩) n n) n (bv (List.replicate n 0)) ∧ wx.ownsRow w.heap.size 5 1 (.slice (some ⟨gy, 0, none⟩) n n) n (bv (List.replicate n 0)) ∧ Below w.heap.size w wx
theorem twoR_new (n : Nat) (hn : n ≤ 1000) (w : World) : TwoR n w.heap.size (w.heap.size + 1) w ((w.alloc (.cells (Array.replicate n (.int .u8 0)) 5)).alloc (.cells (Array.replicate n (.int .u8 0)) 5)) := by
  have h1 := own_lit (w := w) (base := w.heap.size) (g := w.heap.size) (n := n) (e := 5) (Array.replicate n (.int .u8 0)) rfl (Nat.le_refl _) (by simp) (by unfold maxLen; omega)
  have h2 := own_lit (w := w.alloc (.cells (Array.replicate n (.int .u8 0)) 5)) (base := w.heap.size) (g := w.heap.size + 1) (n := n) (e := 5) (Array.replicate n (.int .u8 0)) (by simp) (by omega) (by simp) (by unfold maxLen; omega)
  have hb : Below (w.alloc (.cells (Array.replicate n (.int .u8 0)) 5)).heap.size (w.alloc (.cells (Array.replicate n (.int .u8 0)) 5)) ((w.alloc (.cells (Array.replicate n (.int .u8 0)) 5)).alloc (.cells (Array.replicate n (.int .u8 0)) 5)) := (Below.refl _ _).alloc (Nat.le_refl _) _
  have e : (Array.replicate n (Value.int .u8 0)).toList = bv (List.replicate n 0) := by simp [bv]
  rw [e] at h1 h2
  exact ⟨by omega, own_below h1 hb, h2, ((Below.refl _ _).alloc (Nat.le_refl _) _).alloc (by simp) _⟩
theorem TwoR.swap {n gx gy : Nat} {w wx : World} (h : TwoR n gx gy w wx) : TwoR n gy gx w wx := ⟨h.1.symm, h.2.2.1, h.2.1, h.2.2.2⟩
theorem TwoR.drew {n gx gy : Nat} {w wx : World} (h : TwoR n gx gy w.drew wx) : TwoR n gx gy w wx := ⟨h.1, h.2.1, h.2.2.1, (Below.refl _ _).drew.trans h.2.2.2⟩
/-- both rows behind m rounds of the inner loop -/
def XY (n gx gy : Nat) (rl : List UInt8) (m : Nat) (w wr : World) : Prop :=
  (∃ a c : List UInt8, a.length = n ∧ c.length = n ∧ (∀ j, j < m → c.getD j 0 = a.getD j 0 ^^^ rl.getD j 0) ∧ wr.ownsRow w.heap.size 5 1 (.slice (some ⟨gx, 0, none⟩) n n) n (bv a) ∧ wr.ownsRow w.heap.size 5 1 (.slice (some ⟨gy, 0, none⟩) n n) n (bv c)) ∧ Below w.heap.size w wr
theorem XY.drew {n gx gy m : Nat} {rl : List UInt8} {w wr : World} (h : Hid (XY n gx gy rl m w wr)) : Hid (XY n gx gy rl m w wr.drew) := by
  obtain ⟨⟨a, c, h1, h2, h3, h4, h5⟩, hb⟩ := h.out
  exact Lib.hid ⟨⟨a, c, h1, h2, h3, h4, h5⟩, hb.drew⟩
theorem bv_set' (a : List UInt8) (m : Nat) (X : UInt8) : (bv a).set m (.int .u8 (X.toNat : Int)) = bv (a.set m X) := by
  unfold bv
  rw [List.map_set]
theorem mul_byte (m ot k : Nat) (hk : k < 256) : bits .xor .u8 (((m : Int) + 1) * (ot : Int) % 256) (k : Int) = ((UInt8.ofNat ((m + 1) * ot) ^^^ UInt8.ofNat k).toNat : Int) := by
  have h1 : ((m : Int) + 1) * (ot : Int) % 256 = ((UInt8.ofNat ((m + 1) * ot)).toNat : Int) := by
    rw [UInt8.toNat_ofNat', Int.natCast_emod, Int.natCast_mul, Int.natCast_add]
    rfl
  have h2 : (k : Int) = ((UInt8.ofNat k).toNat : Int) := by
    rw [UInt8.toNat_ofNat']; omega
  rw [h1]
  conv => lhs; rw [h2]
  exact xor_int _ _
theorem XY.next {n gx gy m : Nat} {rl a c : List UInt8} {X Y : UInt8} {w wr : World} (hne : gx ≠ gy) (ha : a.length = n) (hc : c.length = n) (hj : ∀ j, j < m → c.getD j 0 = a.getD j 0 ^^^ rl.getD j 0) (hm : m < n) (hY : Y = X ^^^ rl.getD m 0)
    (hoa : wr.ownsRow w.heap.size 5 1 (.slice (some ⟨gx, 0, none⟩) n n) n (bv (a.set m X))) (hoc : wr.ownsRow w.heap.size 5 1 (.slice (some ⟨gy, 0, none⟩) n n) n (bv c)) (hb : Below w.heap.size w wr) :
    Hid (XY n gx gy rl (m + 1) w (wr.setCell ⟨gy, m, none⟩ (.int .u8 (Y.toNat : Int)))) := by
  have h1 := (hoc.stored m (.int .u8 (Y.toNat : Int))).1
  rw [bv_set'] at h1
  have h2 := hoa.kept (grown_set1 wr gy m (.int .u8 (Y.toNat : Int))) (.inr (fun e => hne (Option.some.inj e)))
  refine Lib.hid ⟨⟨a.set m X, c.set m Y, by simpa using ha, by simpa using hc, fun j hj2 => ?_, h2, h1⟩, hb.setCell ((hoc.lt gy rfl).1) _⟩
  simp only [List.getD, List.getElem?_set]
  by_cases e : m = j
  · subst e
    rw [if_pos rfl, if_pos rfl, if_pos (by omega), if_pos (by omega), hY]; rfl
  · rw [if_neg e, if_neg e]
    exact hj j (by omega)
theorem allP_len {s K Z P : Nat} {ls : List (List UInt8)} (h : ∀ l ∈ ls, l.length = Z) : ∀ l ∈ allP s K Z ls P, l.length = Z := by
  intro l hl
  unfold allP at hl
  rcases List.mem_append.1 hl with hl | hl
  · exact h l hl
  · obtain ⟨i, _, e⟩ := List.mem_map.1 hl
    rw [← e, sumR_length]
theorem allP_lin {s K Z P : Nat} {ls ms ns : List (List UInt8)} (hl : ls.length = K) (h : RelS Z ls K ms ns) (i : Nat) (hi : i < K + P) (j : Nat) (hj : j < Z) :
    ((allP s K Z ns P).getD i []).getD j 0 = ((allP s K Z ls P).getD i []).getD j 0 ^^^ ((allP s K Z ms P).getD i []).getD j 0 := by
  obtain ⟨h1, h2, _, _, h5⟩ := h
  have g : ∀ l : List (List UInt8), l.length = K → (allP s K Z l P).getD i [] = if i < K then l.getD i [] else sumR (parJ s K (i - K)) Z l K := by
    intro l hl
    unfold allP
    by_cases e : i < K
    · rw [if_pos e, List.getD_eq_getElem?_getD, List.getElem?_append_left (by omega)]; rfl
    · rw [if_neg e, List.getD_eq_getElem?_getD, List.getElem?_append_right (by omega), hl]
      have : i - K < P := by omega
      simp [this]
  rw [g ns h2, g ls hl, g ms h1]
  by_cases e : i < K
  · rw [if_pos e, if_pos e, if_pos e]; exact h5 i e j hj
  · rw [if_neg e, if_neg e, if_neg e]
    exact sumR_lin _ Z ls ms ns K h5 j hj
theorem rows2_at2 {w : World} {B n : Nat} {A : Option Addr} {es : List BRow} (h : Rows2 w B A n es) (hB : B ≤ w.heap.size) {k : Nat} (hk : k < n) :
    ∃ b o r, A = some ⟨b, o, none⟩ ∧ es[k]? = some r ∧ ∀ W, Below w.heap.size w W → W.cell? ⟨b, o + k, none⟩ = some (.slice r.A r.n r.c) ∧ Row W B r.A r.n (bv r.l) := by
  have hl : k < es.length := by have := h.1.1; simp at this; omega
  obtain ⟨b, o, e, hlt, hc⟩ := h.1.cellAt hk (u := es[k].val) (by simp [hl])
  exact ⟨b, o, es[k], e, by simp [hl], fun W hW => ⟨(hW.cell (p := ⟨b, o + k, none⟩) (Nat.lt_of_lt_of_le hlt hB)).trans hc, (h.2 _ (List.getElem_mem hl)).below (hW.mono hB)⟩⟩
set_option maxRecDepth 100000 in
set_option maxHeartbeats 3200000 in
theorem sums_walk (s : Nat) (K0 P0 Z0 : Int) (sd ot : Nat) (hsd : sd < 256) (hot : ot < 256) (w : World) (hs : s < 4294967296) :
    Calls Try.prog 3 #[.agg #[.int .u32 (s : Int), .int .i64 K0, .int .i64 P0, .int .i64 Z0], .int .u8 (sd : Int), .int .u8 (ot : Int)] w fun e w' => e = .returned (.bool true) ∧ Below w.heap.size w w' := by
  obtain ⟨i0, hi, hz0, hz1, hz2⟩ := info_parts Try.info28
  have hx := heap_alloc_new w (.cells #[.int .u32 (s : Int), .int .i64 K0, .int .i64 P0, .int .i64 Z0] 24)
  have hb0 : Below w.heap.size w (w.alloc (.cells #[.int .u32 (s : Int), .int .i64 K0, .int .i64 P0, .int .i64 Z0] 24)) := (Below.refl _ _).alloc (Nat.le_refl _) _
  have hz : (w.alloc (.cells #[.int .u32 (s : Int), .int .i64 K0, .int .i64 P0, .int .i64 Z0] 24)).heap.size = w.heap.size + 1 := by simp
  have HX := Lib.hid hx
  have HB0 := Lib.hid hb0
  have HZ := Lib.hid hz
  have HSO := Lib.hid (fun W => sound9_any s sd K0 P0 Z0 W hsd)
  unfold parV at HSO
  have HS := Lib.hid hs
  have HOT := Lib.hid hot
  clear hx hb0 hz hs hsd hot
  go_enter Try.func3, Try.ntmps3
  go_wp2_with fail
  refine (HSO.out _).mono ?_
  rintro e w1 ⟨K, P, Z, ls, v, rfl, hF, hpw, hb1⟩
  have hbx := (hb1.out.block w.heap.size (by have := HZ.out; omega)).trans HX.out
  have HB1 := Lib.hid (HB0.out.trans (hb1.out.mono HB0.out.size))
  have hlt1 : w.heap.size < w1.heap.size := by have := hb1.out.size; have := HZ.out; omega
  obtain ⟨c0, c1, c2, c3⟩ := box4 hbx
  obtain ⟨f0, f1, f2, f3⟩ := frozenBox hbx
  have HBX := Lib.hid hbx
  obtain ⟨fs0, q1, q2, q3⟩ := hpw.out.1
  have hlK := hpw.out.2.1
  rw [hlK] at q2
  obtain ⟨Av, cv, rfl, _⟩ := own_slice q2
  have hpw1 : PW ls (w.heap.size + 1) (.slice Av K cv) w1 := by
    rw [← HZ.out]
    exact ⟨fs0, q1, by rw [hlK]; exact q2, q3⟩
  have HPW4 := Lib.hid ((((hpw1.set (b := w.heap.size) (i := 0) (u := .int .u32 (s : Int)) (by omega)).set (b := w.heap.size) (i := 1) (u := .int .i64 (K : Int)) (by omega)).set (b := w.heap.size) (i := 2) (u := .int .i64 (P : Int)) (by omega)).set (b := w.heap.size) (i := 3) (u := .int .i64 (Z : Int)) (by omega))
  have HLK := Lib.hid hlK
  have HLZ := Lib.hid hpw.out.2.2
  unfold parV
  clear hb1 hbx hpw q1 q2 q3 hpw1 hlK
  go_upto_region 2 with fail
  have hst := setBox HBX.out (.int .u32 (s : Int)) (.int .i64 (K : Int)) (.int .i64 (P : Int)) (.int .i64 (Z : Int))
  have hbs : Below w.heap.size w ((((w1.setCell ⟨w.heap.size, 0, none⟩ (.int .u32 (s : Int))).setCell ⟨w.heap.size, 1, none⟩ (.int .i64 (K : Int))).setCell ⟨w.heap.size, 2, none⟩ (.int .i64 (P : Int))).setCell ⟨w.heap.size, 3, none⟩ (.int .i64 (Z : Int))) := (((HB1.out.setCell (Nat.le_refl _) _).setCell (Nat.le_refl _) _).setCell (Nat.le_refl _) _).setCell (Nat.le_refl _) _
  have hszl : w.heap.size < ((((w1.setCell ⟨w.heap.size, 0, none⟩ (.int .u32 (s : Int))).setCell ⟨w.heap.size, 1, none⟩ (.int .i64 (K : Int))).setCell ⟨w.heap.size, 2, none⟩ (.int .i64 (P : Int))).setCell ⟨w.heap.size, 3, none⟩ (.int .i64 (Z : Int))).heap.size := by simp; omega
  generalize ((((w1.setCell ⟨w.heap.size, 0, none⟩ (.int .u32 (s : Int))).setCell ⟨w.heap.size, 1, none⟩ (.int .i64 (K : Int))).setCell ⟨w.heap.size, 2, none⟩ (.int .i64 (P : Int))).setCell ⟨w.heap.size, 3, none⟩ (.int .i64 (Z : Int))) = W1 at *
  have HST := Lib.hid hst
  have HBA := Lib.hid hbs
  have HSL := Lib.hid hszl
  obtain ⟨A1, c1', es, hv1, he1, hrows1, _⟩ := HPW4.out.rows
  rw [HLK.out] at hv1 hrows1
  injection hv1 with e1 e2 e3
  subst e1 e3
  have HES : Hid (∀ r ∈ es, r.n = Z) := Lib.hid fun r hr => by
    have h1 := (hrows1.2 r hr).blen
    have h2 := HLZ.out r.l (by rw [← he1]; exact List.mem_map_of_mem hr)
    omega
  have HAL := Lib.hid (fun W (hW : Below W1.heap.size W1 W) => hrows1.below hW)
  have HBXW := Lib.hid (fun W (hW : Below W1.heap.size W1 W) => box4 ((hW.block w.heap.size hszl).trans hst))
  have HE1 := Lib.hid he1
  clear hst hbs hlt1 c0 c1 c2 c3 f0 f1 f2 f3 HBX HB1 HX HB0 HZ HSO hrows1 HPW4 he1 hszl
  obtain ⟨G, hG⟩ : ∃ G, W1.heap.size = G := ⟨_, rfl⟩
  rw [hG] at HAL HBXW
  have HG := Lib.hid hG
  clear hG
  go_wp2_with fail
  go_loopw [8, 9, 28] (fun u v i wr => ∃ k : Nat, k ≤ K ∧ i = .int .i64 k ∧ Hid (∃ ms ns, RelS Z ls k ms ns ∧ PW2 ms ns G u v wr) ∧ Hid (Below G W1 wr)) (fun _ _ i _ => K - (intOf i).toNat)
  case atStart => exact ⟨0, by omega, rfl, Lib.hid ⟨[], [], ⟨rfl, rfl, fun l hl => (by cases hl), fun l hl => (by cases hl), fun i hi => absurd hi (Nat.not_lt_zero _)⟩, PW2.nil⟩, Lib.hid (Below.refl _ _)⟩
  case round =>
    obtain ⟨k, hk, rfl, hls, hbk⟩ := hrel
    obtain ⟨wq, rfl⟩ : ∃ wq : World, wq = wr := ⟨_, rfl⟩
    have hG4 : G ≤ wq.heap.size := by have := hbk.out.size; have := HG.out; omega
    by_cases hlt : k < K
    · obtain ⟨ms, ns, hrel, es2, fs2, p1, p2, hpq⟩ := hls.out
      have hl1 : es2.length = k := by have := congrArg List.length p1; rw [List.length_map, hrel.1] at this; exact this
      have hl2 : fs2.length = k := by have := congrArg List.length p2; rw [List.length_map, hrel.2.1] at this; exact this
      have p3 := hpq.1
      have p4 := hpq.2.1
      rw [hl1] at p3
      rw [hl2] at p4
      obtain ⟨Au, cu, rfl, _⟩ := own_slice p3
      obtain ⟨Aw, cw, rfl, _⟩ := own_slice p4
      have HP := Lib.hid (And.intro hrel (And.intro p1 (And.intro p2 (And.intro hpq (And.intro hl1 (And.intro hl2 (And.intro p3 p4)))))))
      have HG4 := Lib.hid hG4
      obtain ⟨c0, c1, c2, c3⟩ := HBXW.out wq hbk.out
      obtain ⟨b, o, rfl, r, hr, hcell, hrow⟩ := (HAL.out wq hbk.out).at_ (k := k) hlt
      have hrz := HES.out r (List.mem_of_getElem? hr)
      have hgd : ls.getD k [] = r.l := by rw [← HE1.out]; simp [List.getD, hr]
      obtain ⟨rA, rn, rc, rl⟩ := r
      simp only at hrz hgd hcell hrow
      subst hrz
      have HGD := Lib.hid hgd
      have HROW := Lib.hid (fun W (hW : Below G wq W) => hrow.below (by rw [HG.out] at *; exact hW))
      have hm2 := fun W => mk_bytes rn (by have := hF.out; omega) W
      have hki : (k : Int) < (K : Int) := by omega
      have hz16 : (rn : Int) ≤ 16 := by have := hF.out; omega
      have hk64 : (K : Int) ≤ 64 := by have := hF.out; omega
      have hltw : w.heap.size < wq.heap.size := by have := HSL.out; have := HG.out; omega
      clear hls p1 p2 p3 p4 hpq hrel hl1 hl2 hr hrow hgd hG4
      go_wp2_with fail
      go_upto_region 6 with fail
      go_cut [12, 13] (fun x y wx => ∃ gx gy : Nat, x = .slice (some ⟨gx, 0, none⟩) rn rn ∧ y = .slice (some ⟨gy, 0, none⟩) rn rn ∧ Hid (TwoR rn gx gy wq wx))
      case first =>
        go_region
        all_goals
          go_wp2_with fail
          go_meet
          first
            | exact ⟨_, _, rfl, rfl, (twoR_new rn (by omega) wq.drew).drew⟩
            | exact ⟨_, _, rfl, rfl, (twoR_new rn (by omega) wq.drew).swap.drew⟩
            | exact ⟨_, _, rfl, rfl, twoR_new rn (by omega) wq⟩
            | exact ⟨_, _, rfl, rfl, (twoR_new rn (by omega) wq).swap⟩
      case rest =>
        obtain ⟨gx, gy, rfl, rfl, htw⟩ := hcut
        clear hm2 c0 c1 c2 c3 hcell
        go_wp2_with fail
        go_loopw [41] (fun i wr => ∃ m : Nat, m ≤ rn ∧ i = .int .i64 m ∧ Hid (XY rn gx gy rl m wq wr)) (fun i _ => rn - (intOf i).toNat)
        case atStart => exact ⟨0, by omega, rfl, Lib.hid ⟨⟨_, _, by simp, by simp, fun j hj => absurd hj (Nat.not_lt_zero _), htw.out.2.1, htw.out.2.2.1⟩, htw.out.2.2.2⟩⟩
        case round =>
          obtain ⟨m, hm, rfl, hxy⟩ := hrel
          have hne := htw.out.1
          have HNE := Lib.hid hne
          by_cases hlt2 : m < rn
          · obtain ⟨⟨a, c, ha, hc, hj, hoa, hoc⟩, hbm⟩ := hxy.out
            have hfx := hoa.frozenAt m
            have hcx := (hoa.cellAt m (by omega)).trans (bv_getD a m (by omega))
            have hmi : (m : Int) < (rn : Int) := by omega
            have hmul := mul_byte m ot k (by omega)
            have HMUL := Lib.hid hmul
            obtain ⟨X, hX⟩ : ∃ X, UInt8.ofNat ((m + 1) * ot) ^^^ UInt8.ofNat k = X := ⟨_, rfl⟩
            rw [hX] at HMUL
            have hgx := (hoa.lt gx rfl).1
            have hoa2 := (hoa.stored m (.int .u8 (X.toNat : Int))).1
            rw [bv_set'] at hoa2
            have hoc2 := hoc.kept (grown_set1 wr gx m (.int .u8 (X.toNat : Int))) (.inr (fun e => hne (Option.some.inj e).symm))
            have hb2 := hbm.setCell hgx (p := ⟨gx, m, none⟩) (.int .u8 (X.toNat : Int))
            have HA := Lib.hid (And.intro ha (And.intro hc (And.intro hj (And.intro hoa2 (And.intro hoc2 hb2)))))
            clear hxy htw ha hc hj hoa hoc hbm hoa2 hoc2 hb2 hmul hX
            go_upto_region 11 with fail
            rw [HMUL.out]
            obtain ⟨ha, hc, hj, hoa2, hoc2, hb2⟩ := HA.out
            generalize wr.setCell ⟨gx, m, none⟩ (.int .u8 (X.toNat : Int)) = ws at *
            have hcx2 := (hoa2.cellAt m (by omega)).trans (bv_getD (a.set m X) m (by simp; omega))
            have e1 : (a.set m X).getD m 0 = X := by simp [List.getD, ha, hlt2]
            rw [e1] at hcx2
            have hfy := hoc2.frozenAt m
            have hcy := (hoc2.cellAt m (by omega)).trans (bv_getD c m (by omega))
            obtain ⟨b3, o3, eq1, _, hl3, hc3⟩ := (HROW.out ws (hb2.mono HG4.out)).byteAt hlt2
            subst eq1
            have e2 : rl[m] = rl.getD m 0 := by simp [List.getD, hl3]
            rw [e2] at hc3
            have hxor := xor_int X (rl.getD m 0)
            obtain ⟨Y, hY⟩ : ∃ Y, X ^^^ rl.getD m 0 = Y := ⟨_, rfl⟩
            rw [hY] at hxor
            have hnx := XY.next hne ha hc hj hlt2 hY.symm hoa2 hoc2 hb2
            clear ha hc hj hoa2 hoc2 hb2 e1 e2 hfx hcx HA HMUL
            generalize rl.getD m 0 = z at *
            go_region
            all_goals
              go_wp2_with fail
              go_roundw
              case rel => exact ⟨m + 1, by omega, by go_num, (by first | exact hnx | exact XY.drew hnx)⟩
              case measure => simp [intOf]; omega
          · obtain rfl : rn = m := by omega
            clear hlt2 htw
            obtain ⟨⟨a, c, ha, hc, hj, hoa, hoc⟩, hbm⟩ := hxy.out
            obtain ⟨hrel, p1, p2, hpq, hl1, hl2, p3, p4⟩ := HP.out
            obtain ⟨w5, rfl⟩ : ∃ w5 : World, w5 = wr := ⟨_, rfl⟩
            have hlx := hoa.lt gx rfl
            have hly := hoc.lt gy rfl
            have hne := HNE.out
            have hu1 : (Value.slice Au k cu).ownBlock ≠ some gx := fun e => by have := (p3.lt gx e).2; omega
            have hu2 : (Value.slice Aw k cw).ownBlock ≠ some gx := fun e => by have := (p4.lt gx e).2; omega
            have hu3 : (Value.slice Au k cu).ownBlock ≠ some gy := fun e => by have := (p3.lt gy e).2; omega
            have hu4 : (Value.slice Aw k cw).ownBlock ≠ some gy := fun e => by have := (p4.lt gy e).2; omega
            have HX5 := Lib.hid (own_base hoa HG4.out)
            have HY5 := Lib.hid (own_base hoc HG4.out)
            have HB5 := Lib.hid hbm
            have HLY := Lib.hid hly
            have HP3 := Lib.hid p3
            have HP4 := Lib.hid p4
            have HP7 := Lib.hid hpq.2.2.2.2
            have HPQ := Lib.hid hpq
            have HL1 := Lib.hid hl1
            have HL2 := Lib.hid hl2
            have HM := Lib.hid (And.intro p1 p2)
            have HREL := Lib.hid (hrel.next ha hc HGD.out hj)
            have HU := Lib.hid (And.intro hu1 (And.intro hu2 (And.intro hu3 hu4)))
            have hk64n : k ≤ 64 := by have := hF.out; omega
            clear hxy ha hc hj hoa hoc hbm hrel p1 p2 p3 p4 hpq hl1 hl2 hly hlx HP hne hu1 hu2 hu3 hu4
            go_wp2_with (first
              | (at_builtin; refine wpList_app rfl (.tmp 68) (.tmp 70) 25 rfl G 28 i0 (.slice none 0 0) 24 Try.underlying25 hi hz0 hz1 hz2 rfl _ k _ rfl (own_below HP3.out (HB5.out.alloc HB5.out.size _)) _ _ 1 1 _ rfl (row_new w5 _ _ _) (by intro u hu; simp at hu; subst hu; rfl) (by unfold maxLen; omega) (by omega) (Nat.le_trans HG4.out (HB5.out.alloc HB5.out.size _).size) ?_; intro v6 w6 hown6 hg6 hat6; have HOWN6 := Lib.hid hown6; have HG6 := Lib.hid hg6; have HAT6 := Lib.hid hat6; have HSZ6 : Hid (G ≤ w6.heap.size ∧ w5.heap.size + 1 ≤ w6.heap.size) := (by have h1 := hg6.size; have h2 := HB5.out.size; have h3 := HG4.out; simp at h1; exact Lib.hid ⟨by omega, by omega⟩); clear hown6 hg6 hat6)
              | (at_builtin; refine wpList_app rfl (.tmp 72) (.tmp 74) 25 rfl G 28 i0 (.slice none 0 0) 24 Try.underlying25 hi hz0 hz1 hz2 rfl _ k _ rfl ((own_grown (own_below HP4.out (HB5.out.alloc HB5.out.size _)) HG6.out (fun g e e2 => HP7.out g e2 e)).alloc _) _ _ 1 1 _ rfl (row_new w6 _ _ _) (by intro u hu; simp at hu; subst hu; rfl) (by unfold maxLen; omega) (by omega) (by have := HSZ6.out.1; simp; omega) ?_; intro v7 w7 hown7 hg7 hat7))
            have hq1 := PQ.app (g0 := gx) (n0 := rn) (c0 := rn) (l := a) HL1.out HPQ.out (HB5.out.alloc HB5.out.size _) (HX5.out.alloc _) HU.out.1 HU.out.2.1 HOWN6.out HG6.out HAT6.out
            have hv6 : v6.ownBlock ≠ some gy := by
              intro e
              rcases HAT6.out with q | q
              · exact HU.out.2.2.1 (q.symm.trans e)
              · rw [q] at e; injection e with e; have := HLY.out; simp at e; omega
            have hy6 : w6.ownsRow G 5 1 (.slice (some ⟨gy, 0, none⟩) rn rn) rn (bv c) := own_grown (HY5.out.alloc _) HG6.out (fun g e e2 => by
              have e1 : some gy = some g := e
              injection e1 with e1
              rw [← e1] at e2
              exact HU.out.2.2.1 e2)
            have hq2 := PQ.app (g0 := gy) (n0 := rn) (c0 := rn) (l := c) HL2.out hq1.swap ((Below.refl w6.heap.size w6).alloc (Nat.le_refl _) _) (hy6.alloc _) HU.out.2.2.2 hv6 hown7 hg7 hat7
            have hb6 := below_app (hbk.out.trans ((HB5.out.alloc HB5.out.size (.cells #[.slice (some ⟨gx, 0, none⟩) rn rn] 28)).mono HG4.out)) (Nat.le_trans HG4.out (HB5.out.alloc HB5.out.size (.cells #[.slice (some ⟨gx, 0, none⟩) rn rn] 28)).size) (own_below HP3.out (HB5.out.alloc HB5.out.size _)) (Nat.le_refl _) HG6.out
            have hb7 := Lib.hid (below_app (hb6.alloc HSZ6.out.1 (.cells #[.slice (some ⟨gy, 0, none⟩) rn rn] 28)) (by have := HSZ6.out.1; simp; omega) ((own_grown (own_below HP4.out (HB5.out.alloc HB5.out.size _)) HG6.out (fun g e e2 => HP7.out g e2 e)).alloc _) (Nat.le_refl _) hg7)
            have hfin : Hid (∃ ms ns, RelS rn ls (k + 1) ms ns ∧ PW2 ms ns G v6 v7 w7) := Lib.hid ⟨_, _, HREL.out, _, _, by rw [List.map_append, HM.out.1]; rfl, by rw [List.map_append, HM.out.2]; rfl, hq2.swap⟩
            clear hq1 hq2 hv6 hy6 hb6 hown7 hg7 hat7 HOWN6 HG6 HAT6 HU HX5 HY5 HB5 HLY HP3 HP4 HP7 HPQ HM HREL
            go_wp2_with fail
            go_roundw
            case rel => exact ⟨k + 1, by omega, by go_num, hfin, hb7⟩
            case measure => simp [intOf]; omega
    · obtain rfl : K = k := by omega
      clear hlt
      obtain ⟨ms, ns, hrel, h2⟩ := hls.out
      obtain ⟨Am, cm, em, hvm, hem, hrm, _⟩ := h2.fst.rows
      obtain ⟨An, cn, en, hvn, hen, hrn, _⟩ := h2.snd.rows
      rw [hrel.1] at hvm hrm
      rw [hrel.2.1] at hvn hrn
      subst hvm hvn
      have hF1 := hF.out
      have hkeep := Lib.hid (fun W (hW : Below wq.heap.size wq W) => (⟨hW, HBXW.out W (hbk.out.trans (hW.mono hG4))⟩ : SPar wq w.heap.size s K P Z W))
      have hem2 : ∀ r ∈ em, r.n = Z := fun r hr => by
        have h1 := (hrm.2 r hr).blen
        have h2 := hrel.2.2.1 r.l (by rw [← hem]; exact List.mem_map_of_mem hr)
        omega
      have hen2 : ∀ r ∈ en, r.n = Z := fun r hr => by
        have h1 := (hrn.2 r hr).blen
        have h2 := hrel.2.2.2.1 r.l (by rw [← hen]; exact List.mem_map_of_mem hr)
        omega
      have hP1 := fun W (hW : Below wq.heap.size wq W) => pieces_yes s K P Z cv G Av es W HS.out hF1.1 hF1.2.1 hF1.2.2 (HAL.out W (hbk.out.trans (hW.mono hG4))) HES.out (Nat.le_trans hG4 hW.size)
      have hP2 := fun W (hW : Below wq.heap.size wq W) => pieces_yes s K P Z cm wq.heap.size Am em W HS.out hF1.1 hF1.2.1 hF1.2.2 (hrm.below hW) hem2 hW.size
      have hP3 := fun W (hW : Below wq.heap.size wq W) => pieces_yes s K P Z cn wq.heap.size An en W HS.out hF1.1 hF1.2.1 hF1.2.2 (hrn.below hW) hen2 hW.size
      rw [HE1.out] at hP1
      rw [hem] at hP2
      rw [hen] at hP3
      unfold parV at hP1 hP2 hP3
      have HP1 := Lib.hid hP1
      have HP2 := Lib.hid hP2
      have HP3 := Lib.hid hP3
      have HRS := Lib.hid hrel
      have HB0 := Lib.hid (HBA.out.trans (hbk.out.mono (by have := HG.out; have := HSL.out; omega)))
      clear hls h2 hem hrm hen hrn hem2 hen2 hP1 hP2 hP3 hF1 HES HAL HBXW hbk HBA HSL HOT HE1 hrel
      go_upto_region 15 with fail
      go_region_held3 (SPar wq w.heap.size s K P Z)
        (first | exact hkeep.out _ (spar_next (by assumption) (by assumption)) | exact hkeep.out _ (Below.refl _ _).drew | exact hkeep.out _ (Below.refl _ _))
        (first
          | (go_at_call 6; (with_reducible refine (HP1.out _ (spar_below (by assumption))).mono ?_); rintro e w' ⟨va, rfl, hpa, hbelA⟩; have hbel := hbelA.out)
          | (go_at_call 6; (with_reducible refine (HP2.out _ (spar_below (by assumption))).mono ?_); rintro e w' ⟨vb, rfl, hpb, hbelB⟩; have hbel := hbelB.out)
          | (go_at_call 6; (with_reducible refine (HP3.out _ (spar_below (by assumption))).mono ?_); rintro e w' ⟨vc, rfl, hpc, hbelC⟩; have hbel := hbelC.out))
      obtain ⟨hB1, _⟩ := (by assumption : SPar wq w.heap.size s K P Z _)
      obtain ⟨w6, rfl⟩ : ∃ w6 : World, w6 = w' := ⟨_, rfl⟩
      obtain ⟨Aa, ca, fa, hva, hfa, hra, _⟩ := (hpa.out.below (hbelB.out.trans (hbelC.out.mono hbelB.out.size))).rows
      obtain ⟨Ab, cb, fb, hvb, hfb, hrb, _⟩ := (hpb.out.below hbelC.out).rows
      obtain ⟨Ac, cc, fc, hvc, hfc, hrc, _⟩ := hpc.out.rows
      obtain ⟨n, hn⟩ : ∃ n, K + P = n := ⟨_, rfl⟩
      rw [allP_length, HLK.out, hn] at hva hra
      rw [allP_length, HRS.out.1, hn] at hvb hrb
      rw [allP_length, HRS.out.2.1, hn] at hvc hrc
      subst hva hvb hvc
      have HB6 := Lib.hid (HB0.out.trans (hB1.mono HB0.out.size))
      have HBX := Lib.hid (fun W (hW : Below w6.heap.size w6 W) => (hkeep.out W (hB1.trans (hW.mono hB1.size))).2)
      have HRA := Lib.hid hra
      have HRB := Lib.hid hrb
      have HRC := Lib.hid hrc
      have HFA := Lib.hid (And.intro hfa (And.intro hfb hfc))
      have HNN := Lib.hid hn
      have hkp : IntKind.i64.wrap ((K : Int) + (P : Int)) = (n : Int) := by rw [show (K : Int) + (P : Int) = (n : Int) by omega]; exact IntWalk.i64_in _ (by have := hF.out; omega)
      have hnn : ((n : Int) != (n : Int)) = false := by simp
      obtain ⟨c0, c1, c2, c3⟩ := HBX.out w6 (Below.refl _ _)
      clear hpa hpb hpc hbelA hbelB hbelC hra hrb hrc hfa hfb hfc hn hB1 hkeep HP1 HP2 HP3
      go_wp2_with fail
      clear c0 c1 c2 c3 hkp
      go_loopw [110] (fun i wr => ∃ k : Nat, k ≤ n ∧ i = .int .i64 k ∧ Hid (Below w6.heap.size w6 wr)) (fun i _ => n - (intOf i).toNat)
      case atStart => exact ⟨0, by omega, rfl, Lib.hid (Below.refl _ _)⟩
      case round =>
        obtain ⟨k, hk2, rfl, hbk⟩ := hrel
        obtain ⟨wz, rfl⟩ : ∃ wz : World, wz = wr := ⟨_, rfl⟩
        by_cases hlt : k < n
        · obtain ⟨b1, o1, r1, e1, hr1, hk1⟩ := rows2_at2 HRA.out (Nat.le_refl _) (k := k) hlt
          obtain ⟨b2, o2, r2, e2', hr2, hk2'⟩ := rows2_at2 HRB.out (Nat.le_refl _) (k := k) hlt
          obtain ⟨b3, o3, r3, e3, hr3, hk3⟩ := rows2_at2 HRC.out (Nat.le_refl _) (k := k) hlt
          subst e1 e2' e3
          have hz1 : r1.n = Z := by rw [← (hk1 _ (Below.refl _ _)).2.blen]; exact allP_len HLZ.out r1.l (by rw [← HFA.out.1]; exact List.mem_map_of_mem (List.mem_of_getElem? hr1))
          have hz2 : r2.n = Z := by rw [← (hk2' _ (Below.refl _ _)).2.blen]; exact allP_len HRS.out.2.2.1 r2.l (by rw [← HFA.out.2.1]; exact List.mem_map_of_mem (List.mem_of_getElem? hr2))
          have hz3 : r3.n = Z := by rw [← (hk3 _ (Below.refl _ _)).2.blen]; exact allP_len HRS.out.2.2.2.1 r3.l (by rw [← HFA.out.2.2]; exact List.mem_map_of_mem (List.mem_of_getElem? hr3))
          have hg1 : (allP s K Z ls P).getD k [] = r1.l := by rw [← HFA.out.1]; simp [List.getD, hr1]
          have hg2 : (allP s K Z ms P).getD k [] = r2.l := by rw [← HFA.out.2.1]; simp [List.getD, hr2]
          have hg3 : (allP s K Z ns P).getD k [] = r3.l := by rw [← HFA.out.2.2]; simp [List.getD, hr3]
          have HLIN := Lib.hid (fun j hj => allP_lin (s := s) (P := P) HLK.out HRS.out k (by have := HNN.out; omega) j hj)
          rw [hg1, hg2, hg3] at HLIN
          obtain ⟨A1, n1, q1, l1⟩ := r1
          obtain ⟨A2, n2, q2, l2⟩ := r2
          obtain ⟨A3, n3, q3, l3⟩ := r3
          simp only at hz1 hz2 hz3 hk1 hk2' hk3 HLIN
          subst n1 n2 n3
          have HK1 := Lib.hid hk1
          have HK2 := Lib.hid hk2'
          have HK3 := Lib.hid hk3
          have hc1 := (hk1 _ hbk.out).1
          have hc2 := (hk2' _ hbk.out).1
          have hc3 := (hk3 _ hbk.out).1
          have hzz : ((Z : Int) != (Z : Int)) = false := by simp
          obtain ⟨c0, c1, c2, c3⟩ := HBX.out wz hbk.out
          have hki : (k : Int) < (n : Int) := by omega
          have hn80 : (n : Int) ≤ 80 := by have := HNN.out; have := hF.out; omega
          have hz16 : (Z : Int) ≤ 16 := by have := hF.out; omega
          clear hk1 hk2' hk3 hr1 hr2 hr3 hg1 hg2 hg3
          go_wp2_with fail
          go_quiet (fail)
          go_wp2_with fail
          have HBD : Hid (Below w6.heap.size w6 (wz.drewN nq)) := Lib.hid (hbk.out.trans ⟨rfl, rfl, rfl, Nat.le_refl _, fun _ _ => rfl⟩)
          clear hbk c0 c1 c2 c3 hc1 hc2 hc3 hzz
          generalize wz.drewN nq = wd at *
          go_loopw [146] (fun i wr => ∃ m : Nat, m ≤ Z ∧ i = .int .i64 m ∧ Hid (Below w6.heap.size w6 wr)) (fun i _ => Z - (intOf i).toNat)
          case atStart => exact ⟨0, by omega, rfl, HBD⟩
          case round =>
            obtain ⟨m, hm, rfl, hbm⟩ := hrel
            clear HBD
            by_cases hlt2 : m < Z
            · obtain ⟨hc1, hw1⟩ := HK1.out _ hbm.out
              obtain ⟨hc2, hw2⟩ := HK2.out _ hbm.out
              obtain ⟨hc3, hw3⟩ := HK3.out _ hbm.out
              obtain ⟨d1, p1, rfl, _, g1, x1⟩ := hw1.byteAt hlt2
              obtain ⟨d2, p2, rfl, _, g2, x2⟩ := hw2.byteAt hlt2
              obtain ⟨d3, p3, rfl, _, g3, x3⟩ := hw3.byteAt hlt2
              have y1 : l1[m] = l1.getD m 0 := by simp [List.getD, g1]
              have y2 : l2[m] = l2.getD m 0 := by simp [List.getD, g2]
              have y3 : l3[m] = l1.getD m 0 ^^^ l2.getD m 0 := by rw [← HLIN.out m hlt2]; simp [List.getD, g3]
              rw [y1] at x1
              rw [y2] at x2
              rw [y3] at x3
              have hxor := xor_int (l1.getD m 0) (l2.getD m 0)
              have hne : (((l1.getD m 0 ^^^ l2.getD m 0).toNat : Int) != ((l1.getD m 0 ^^^ l2.getD m 0).toNat : Int)) = false := by simp
              have hmi : (m : Int) < (Z : Int) := by omega
              clear hw1 hw2 hw3 y1 y2 y3
              generalize l1.getD m 0 ^^^ l2.getD m 0 = z3 at *
              generalize l1.getD m 0 = z1 at *
              generalize l2.getD m 0 = z2 at *
              go_wp2_with fail
              go_quiet (fail)
              go_wp2_with fail
              go_roundw
              case rel => exact ⟨m + 1, by omega, by go_num, Lib.hid (hbm.out.trans ⟨rfl, rfl, rfl, Nat.le_refl _, fun _ _ => rfl⟩)⟩
              case measure => simp [intOf]; omega
            · obtain rfl : Z = m := by omega
              go_wp2_with fail
              go_roundw
              case rel => exact ⟨k + 1, by omega, by go_num, hbm⟩
              case measure => simp [intOf]; omega
        · obtain rfl : n = k := by omega
          have HAW := Lib.hid (awake9_any wz)
          have HB7 := Lib.hid (HB6.out.trans (hbk.out.mono HB6.out.size))
          clear hlt hnn
          go_wp2_with fail
          refine HAW.out.mono ?_
          rintro e w9 ⟨rfl, hb9⟩
          have HBE := Lib.hid (HB7.out.trans (hb9.out.mono HB7.out.size))
          go_wp2_with fail
          go_ret
          exact ⟨rfl, HBE.out⟩
end Go.Proofs.Ytfkklckoalffkaa.Pc
