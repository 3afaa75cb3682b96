/- cell.Read, cell.Write, where there is power: by contracts. -/
import Derived.Test.YtmlmpjokmbgmcaaCellR
import Derived.Test.YtmlmpjokmbgmcaaCellPut
namespace Go.Proofs.Ytmlmpjokmbgmcaa
open Go.RowKit
def P0 (f : Fl) : List UInt8 := f.sub 0 256
def P1 (f : Fl) : List UInt8 := f.sub 256 256
/-- sector s is written next, under number N -/
def WrTo (f : Fl) (s N : Nat) : Prop :=
  (¬ partOk (P0 f) ∧ ¬ partOk (P1 f) ∧ s = 0 ∧ N = 1) ∨ (partOk (P1 f) ∧ (¬ partOk (P0 f) ∨ partN (P0 f) < partN (P1 f)) ∧ s = 0 ∧ N = partN (P1 f) + 1) ∨
  (partOk (P0 f) ∧ (¬ partOk (P1 f) ∨ partN (P1 f) ≤ partN (P0 f)) ∧ s = 1 ∧ N = partN (P0 f) + 1)
/-- what is read -/
def CellHas (f : Fl) (b : List UInt8) : Prop :=
  (partOk (P1 f) ∧ (¬ partOk (P0 f) ∨ partN (P0 f) < partN (P1 f)) ∧ b = partD (P1 f)) ∨ (partOk (P0 f) ∧ (¬ partOk (P1 f) ∨ partN (P1 f) ≤ partN (P0 f)) ∧ b = partD (P0 f))
theorem PartIs.yes {b : List UInt8} {base : Nat} {W : World} {wh : Bool} {num : Nat} {A : Option Addr} {n c : Nat} (h : PartIs b base W wh num A n c) (hb : partOk b) : wh = true ∧ num = partN b ∧ n = plen b ∧ n ≤ c ∧ c ≤ 9223372036854775807 ∧ Row W W.heap.size A n (bv (partD b)) ∧ ∀ g o, A = some ⟨g, o, none⟩ → 0 < n → base ≤ g := by
  rcases h with ⟨_, h⟩ | ⟨h, _⟩
  · exact h
  · exact absurd hb h
theorem PartIs.off {b : List UInt8} {base : Nat} {W : World} {wh : Bool} {num : Nat} {A : Option Addr} {n c : Nat} (h : PartIs b base W wh num A n c) (hb : ¬ partOk b) : wh = false ∧ num = 0 ∧ A = none ∧ n = 0 ∧ c = 0 := by
  rcases h with ⟨h, _⟩ | ⟨_, h⟩
  · exact absurd h hb
  · exact h
theorem PartIs.lt {b : List UInt8} {base : Nat} {W : World} {wh : Bool} {num : Nat} {A : Option Addr} {n c : Nat} (h : PartIs b base W wh num A n c) : num < 4294967296 := by
  rcases h with ⟨_, _, h, _⟩ | ⟨_, _, h, _⟩
  · rw [h]; exact partN_lt b
  · omega
theorem last_one {f : Fl} {base : Nat} {W : World} {cs : Array Value} {o0 o1 : Bool} {n0 n1 m0 m1 c0 c1 : Nat} {A0 A1 : Option Addr} (h : Parts2 f base W cs o0 n0 A0 m0 c0 o1 n1 A1 m1 c1) (h1 : partOk (P1 f)) (h0 : ¬ partOk (P0 f) ∨ partN (P0 f) < partN (P1 f)) : lastI o0 o1 n0 n1 = 1 ∧ o1 = true ∧ n1 = partN (P1 f) := by
  obtain ⟨_, p0, p1⟩ := h
  obtain ⟨e1, e2, _⟩ := p1.yes h1
  refine ⟨?_, e1, e2⟩
  unfold lastI
  rw [if_pos]
  refine ⟨e1, ?_⟩
  rcases h0 with h0 | h0
  · exact .inl (p0.off h0).1
  · by_cases ho : partOk (P0 f)
    · right
      rw [e2, (p0.yes ho).2.1]; exact h0
    · exact .inl (p0.off ho).1
theorem last_zero {f : Fl} {base : Nat} {W : World} {cs : Array Value} {o0 o1 : Bool} {n0 n1 m0 m1 c0 c1 : Nat} {A0 A1 : Option Addr} (h : Parts2 f base W cs o0 n0 A0 m0 c0 o1 n1 A1 m1 c1) (h1 : partOk (P0 f)) (h0 : ¬ partOk (P1 f) ∨ partN (P1 f) ≤ partN (P0 f)) : lastI o0 o1 n0 n1 = 0 ∧ o0 = true ∧ n0 = partN (P0 f) := by
  obtain ⟨_, p0, p1⟩ := h
  obtain ⟨e1, e2, _⟩ := p0.yes h1
  refine ⟨?_, e1, e2⟩
  unfold lastI
  rw [if_neg]
  rintro ⟨h2, h3⟩
  rcases h0 with h0 | h0
  · rw [(p1.off h0).1] at h2; cases h2
  · rcases h3 with h3 | h3
    · rw [e1] at h3; cases h3
    · by_cases ho : partOk (P1 f)
      · rw [e2, (p1.yes ho).2.1] at h3; exact absurd h3 (by have e1 : partN (f.sub 256 256) = partN (P1 f) := rfl; have e2 : partN (f.sub 0 256) = partN (P0 f) := rfl; omega)
      · rw [(p1.off ho).1] at h2; cases h2
theorem last_none {f : Fl} {base : Nat} {W : World} {cs : Array Value} {o0 o1 : Bool} {n0 n1 m0 m1 c0 c1 : Nat} {A0 A1 : Option Addr} (h : Parts2 f base W cs o0 n0 A0 m0 c0 o1 n1 A1 m1 c1) (h0 : ¬ partOk (P0 f)) (h1 : ¬ partOk (P1 f)) : lastI o0 o1 n0 n1 = 0 ∧ o0 = false := by
  obtain ⟨_, p0, p1⟩ := h
  refine ⟨?_, (p0.off h0).1⟩
  unfold lastI
  rw [if_neg]
  rintro ⟨h2, _⟩
  rw [(p1.off h1).1] at h2; cases h2
def CReadOk (b : List UInt8) (w : World) (e : Ending) (w' : World) : Prop :=
  ∃ A n c, e = .returned (.tuple #[.slice A n c, .int .i64 0]) ∧ Hid (n = b.length) ∧ Hid (n ≤ c ∧ c ≤ 9223372036854775807) ∧ Hid (Row w' w'.heap.size A n (bv b)) ∧ Hid (∀ g o, A = some ⟨g, o, none⟩ → 0 < n → w.heap.size ≤ g) ∧ Hid (Below w.heap.size w w')
theorem partD_length {b : List UInt8} (hb : b.length = 256) (h : partOk b) : (partD b).length = plen b := by
  have := h.1
  unfold partD
  simp [hb]; omega
set_option maxRecDepth 100000 in
set_option maxHeartbeats 3200000 in
theorem cread_any (g : Nat) (f : Fl) (b : List UInt8) (w : World) (hf : FlAt w g f) (hd : f.down = false) (hb : CellHas f b) :
    Calls Try.prog 17 #[.pointer (some ⟨g, 0, none⟩)] w (CReadOk b w) := by
  have HR := Lib.hid (read_yes g f w hf hd)
  have HH := Lib.hid hb
  clear hf hd hb
  go_enter Try.func17, Try.ntmps17
  go_wp2_with fail
  refine HR.out.mono ?_
  rintro e w1 ⟨cs, o0, n0, A0, m0, c0, o1, n1, A1, m1, c1, rfl, hp, hb1⟩
  obtain rfl := hp.out.1
  obtain ⟨W1, hW1⟩ : ∃ W1, w1.alloc (.cells #[.bool o0, .int .u32 (n0 : Int), .slice A0 m0 c0, .bool o1, .int .u32 (n1 : Int), .slice A1 m1 c1] 90) = W1 := ⟨_, rfl⟩
  have HZ : Hid (W1.heap[w1.heap.size]? = some (.cells #[.bool o0, .int .u32 (n0 : Int), .slice A0 m0 c0, .bool o1, .int .u32 (n1 : Int), .slice A1 m1 c1] 90 (0, 0))) := by rw [← hW1]; exact heap_alloc_new _ _
  have hbw : Below w1.heap.size w1 W1 := by rw [← hW1]; exact (Below.refl _ _).alloc (Nat.le_refl _) _
  have HSZ : Hid (W1.heap.size = w1.heap.size + 1) := by show _ = _; rw [← hW1]; simp
  have HB1 : Hid (Below w.heap.size w W1) := hb1.out.trans (hbw.mono hb1.out.size)
  have HP0 : Hid (PartIs (P0 f) w.heap.size W1 o0 n0 A0 m0 c0) := hp.out.2.1.below hbw
  have HP1 : Hid (PartIs (P1 f) w.heap.size W1 o1 n1 A1 m1 c1) := hp.out.2.2.below hbw
  have HW1 := Lib.hid hW1
  have HLA : Hid ((lastI o0 o1 n0 n1 = 1 ∧ o1 = true ∧ partOk (P1 f) ∧ b = partD (P1 f)) ∨ (lastI o0 o1 n0 n1 = 0 ∧ o0 = true ∧ partOk (P0 f) ∧ b = partD (P0 f))) := by
    rcases HH.out with ⟨h1, h2, h3⟩ | ⟨h1, h2, h3⟩
    · obtain ⟨e1, e2, _⟩ := last_one hp.out h1 h2
      exact .inl ⟨e1, e2, h1, h3⟩
    · obtain ⟨e1, e2, _⟩ := last_zero hp.out h1 h2
      exact .inr ⟨e1, e2, h1, h3⟩
  have HLC := Lib.hid (last_any o0 o1 n0 n1 (.slice A0 m0 c0) (.slice A1 m1 c1) W1)
  have hgs : w.heap.size ≤ w1.heap.size := hb1.out.size
  clear hW1 hbw hp hb1 HR HH
  go_upto_region 4 with fail
  rw [HW1.out]
  generalize w1.heap.size = gp at *
  clear HW1
  go_wp2_with ((with_reducible show wpList _ _ _ _ _ _); refine wpList_load_row (o := ⟨some 15, _, _, _, _, _⟩) rfl _ (.tmp 4) rfl gp rfl _ _ _ _ HZ.out Try.underlying90 rfl (by kernel_rfl) ?_)
  refine HLC.out.mono ?_
  rintro e w3 ⟨rfl, hb3⟩
  have hz3 := (hb3.out.block gp (by have := HSZ.out; omega)).trans HZ.out
  obtain ⟨y0, y1, y2, y3, y4, y5⟩ := c6 hz3
  have HB3 : Hid (Below w.heap.size w w3) := HB1.out.trans (hb3.out.mono HB1.out.size)
  have HQ0 := Lib.hid (HP0.out.below hb3.out)
  have HQ1 := Lib.hid (HP1.out.below hb3.out)
  clear hz3 hb3 HZ HP0 HP1 HB1 HLC
  rcases HLA.out with ⟨e1, e2, e3, e4⟩ | ⟨e1, e2, e3, e4⟩
  · rw [e1]
    subst e2
    obtain ⟨-, q1, q2, q3, q4, q5, q6⟩ := HQ1.out.yes e3
    have hn : Hid (m1 = b.length) := by rw [e4]; exact q2.trans (partD_length (Fl.sub_length _ _ _) e3).symm
    have HRW : Hid (Row w3 w3.heap.size A1 m1 (bv b)) := by rw [e4]; exact q5
    have HQ6 := Lib.hid q6
    have HC := Lib.hid (And.intro q3 q4)
    clear e1 e3 e4 q1 q2 q3 q4 q5 q6 HLA HQ0 HQ1
    go_wp2_with fail
    go_ret2
    exact ⟨A1, m1, c1, rfl, hn, HC, HRW.out.alloc (Nat.le_refl _) _ |>.more (by simp), HQ6, HB3.out.alloc HB3.out.size _⟩
  · rw [e1]
    subst e2
    obtain ⟨-, q1, q2, q3, q4, q5, q6⟩ := HQ0.out.yes e3
    have hn : Hid (m0 = b.length) := by rw [e4]; exact q2.trans (partD_length (Fl.sub_length _ _ _) e3).symm
    have HRW : Hid (Row w3 w3.heap.size A0 m0 (bv b)) := by rw [e4]; exact q5
    have HQ6 := Lib.hid q6
    have HC := Lib.hid (And.intro q3 q4)
    clear e1 e3 e4 q1 q2 q3 q4 q5 q6 HLA HQ0 HQ1
    go_wp2_with fail
    go_ret2
    exact ⟨A0, m0, c0, rfl, hn, HC, HRW.out.alloc (Nat.le_refl _) _ |>.more (by simp), HQ6, HB3.out.alloc HB3.out.size _⟩
set_option maxRecDepth 100000 in
set_option maxHeartbeats 3200000 in
theorem cread_none (g : Nat) (f : Fl) (w : World) (hf : FlAt w g f) (hd : f.down = false) (h0 : ¬ partOk (P0 f)) (h1 : ¬ partOk (P1 f)) :
    Calls Try.prog 17 #[.pointer (some ⟨g, 0, none⟩)] w fun e w' => e = .returned (.tuple #[.slice none 0 0, .int .i64 14]) ∧ Hid (Below w.heap.size w w') := by
  have HR := Lib.hid (read_yes g f w hf hd)
  have HH := Lib.hid (And.intro h0 h1)
  clear hf hd h0 h1
  go_enter Try.func17, Try.ntmps17
  go_wp2_with fail
  refine HR.out.mono ?_
  rintro e w1 ⟨cs, o0, n0, A0, m0, c0, o1, n1, A1, m1, c1, rfl, hp, hb1⟩
  obtain rfl := hp.out.1
  obtain ⟨e1, rfl⟩ := last_none hp.out HH.out.1 HH.out.2
  obtain ⟨W1, hW1⟩ : ∃ W1, w1.alloc (.cells #[.bool false, .int .u32 (n0 : Int), .slice A0 m0 c0, .bool o1, .int .u32 (n1 : Int), .slice A1 m1 c1] 90) = W1 := ⟨_, rfl⟩
  have HZ : Hid (W1.heap[w1.heap.size]? = some (.cells #[.bool false, .int .u32 (n0 : Int), .slice A0 m0 c0, .bool o1, .int .u32 (n1 : Int), .slice A1 m1 c1] 90 (0, 0))) := by rw [← hW1]; exact heap_alloc_new _ _
  have hbw : Below w1.heap.size w1 W1 := by rw [← hW1]; exact (Below.refl _ _).alloc (Nat.le_refl _) _
  have HSZ : Hid (W1.heap.size = w1.heap.size + 1) := by show _ = _; rw [← hW1]; simp
  have HB1 : Hid (Below w.heap.size w W1) := hb1.out.trans (hbw.mono hb1.out.size)
  have HW1 := Lib.hid hW1
  have HLC := Lib.hid (last_any false o1 n0 n1 (.slice A0 m0 c0) (.slice A1 m1 c1) W1)
  rw [e1] at HLC
  have hgs : w.heap.size ≤ w1.heap.size := hb1.out.size
  clear hW1 hbw hp hb1 HR HH e1
  go_upto_region 4 with fail
  rw [HW1.out]
  generalize w1.heap.size = gp at *
  clear HW1
  go_wp2_with ((with_reducible show wpList _ _ _ _ _ _); refine wpList_load_row (o := ⟨some 15, _, _, _, _, _⟩) rfl _ (.tmp 4) rfl gp rfl _ _ _ _ HZ.out Try.underlying90 rfl (by kernel_rfl) ?_)
  refine HLC.out.mono ?_
  rintro e w3 ⟨rfl, hb3⟩
  have hz3 := (hb3.out.block gp (by have := HSZ.out; omega)).trans HZ.out
  obtain ⟨y0, y1, y2, y3, y4, y5⟩ := c6 hz3
  have HB3 : Hid (Below w.heap.size w w3) := HB1.out.trans (hb3.out.mono HB1.out.size)
  clear hz3 hb3 HZ HB1 HLC
  go_wp2_with fail
  go_ret2
  exact ⟨rfl, HB3.out.alloc HB3.out.size _⟩
theorem cwrite_arg (p : Option Addr) (A : Option Addr) (n cap : Nat) (w : World) (h : 245 < n) :
    Calls Try.prog 19 #[.pointer p, .slice A n cap] w fun e w' => e = .returned (.int .i64 1) ∧ w = w' := by
  go_enter Try.func19, Try.ntmps19
  go_wp2_with fail
  go_ret
  exact ⟨rfl, rfl⟩
set_option maxRecDepth 100000 in
set_option maxHeartbeats 3200000 in
theorem cwrite_any (g B m cap s N : Nat) (A : Option Addr) (b : List UInt8) (f : Fl) (w : World) (k : Int) (hf : FlAt w g f) (hl : Row w B A m (bv b)) (hA : 0 < m → ∀ b o, A = some ⟨b, o, none⟩ → b ≠ g) (hB : B ≤ w.heap.size) (hm : m ≤ 245)
    (hd : f.down = false) (hok : f.Ok k) (hk : k ≤ 1000000) (hw : WrTo f s N) (hN : N < 4294967296) :
    Calls Try.prog 19 #[.pointer (some ⟨g, 0, none⟩), .slice A m cap] w (ProgOk g (f.putC s N b) w) := by
  have HR := Lib.hid (read_yes g f w hf hd)
  have HH := Lib.hid hw
  have HNN := Lib.hid hN
  have HPUT : Hid (∀ W (si : Int), Below w.heap.size w W → si = (s : Int) → Calls Try.prog 46 #[.pointer (some ⟨g, 0, none⟩), .int .i64 si, .int .u32 (N : Int), .slice A m cap] W (ProgOk g (f.putC s N b) W)) :=
    fun W si hW hsi => put_c g s N B m cap A b f W k si hsi (hf.below hW) (hl.below (hW.mono hB)) hA (Nat.le_trans hB hW.size) hm (by rcases hw with ⟨_, _, h, _⟩ | ⟨_, _, h, _⟩ | ⟨_, _, h, _⟩ <;> omega) hN hd hok hk
  clear hf hd hw hl hA hok hN
  go_enter Try.func19, Try.ntmps19
  go_wp2_with fail
  refine HR.out.mono ?_
  rintro e w1 ⟨cs, o0, n0, A0, m0, c0, o1, n1, A1, m1, c1, rfl, hp, hb1⟩
  obtain rfl := hp.out.1
  obtain ⟨W1, hW1⟩ : ∃ W1, w1.alloc (.cells #[.bool o0, .int .u32 (n0 : Int), .slice A0 m0 c0, .bool o1, .int .u32 (n1 : Int), .slice A1 m1 c1] 90) = W1 := ⟨_, rfl⟩
  have HZ : Hid (W1.heap[w1.heap.size]? = some (.cells #[.bool o0, .int .u32 (n0 : Int), .slice A0 m0 c0, .bool o1, .int .u32 (n1 : Int), .slice A1 m1 c1] 90 (0, 0))) := by rw [← hW1]; exact heap_alloc_new _ _
  have hbw : Below w1.heap.size w1 W1 := by rw [← hW1]; exact (Below.refl _ _).alloc (Nat.le_refl _) _
  have HSZ : Hid (W1.heap.size = w1.heap.size + 1) := by show _ = _; rw [← hW1]; simp
  have HB1 : Hid (Below w.heap.size w W1) := hb1.out.trans (hbw.mono hb1.out.size)
  have HW1 := Lib.hid hW1
  have HLA : Hid ((lastI o0 o1 n0 n1 = 0 ∧ o0 = false ∧ s = 0 ∧ N = 1) ∨ (lastI o0 o1 n0 n1 = 1 ∧ o1 = true ∧ s = 0 ∧ N = n1 + 1) ∨ (lastI o0 o1 n0 n1 = 0 ∧ o0 = true ∧ s = 1 ∧ N = n0 + 1)) := by
    rcases HH.out with ⟨h1, h2, h3, h4⟩ | ⟨h1, h2, h3, h4⟩ | ⟨h1, h2, h3, h4⟩
    · obtain ⟨e1, e2⟩ := last_none hp.out h1 h2
      exact .inl ⟨e1, e2, h3, h4⟩
    · obtain ⟨e1, e2, e3⟩ := last_one hp.out h1 h2
      exact .inr (.inl ⟨e1, e2, h3, by rw [h4, e3]⟩)
    · obtain ⟨e1, e2, e3⟩ := last_zero hp.out h1 h2
      exact .inr (.inr ⟨e1, e2, h3, by rw [h4, e3]⟩)
  have HLC := Lib.hid (last_any o0 o1 n0 n1 (.slice A0 m0 c0) (.slice A1 m1 c1) W1)
  have hgs : w.heap.size ≤ w1.heap.size := hb1.out.size
  clear hW1 hbw hp hb1 HR HH
  go_upto_region 7 with fail
  rw [HW1.out]
  generalize w1.heap.size = gp at *
  clear HW1
  go_wp2_with ((with_reducible show wpList _ _ _ _ _ _); refine wpList_load_row (o := ⟨some 21, _, _, _, _, _⟩) rfl _ (.tmp 5) rfl gp rfl _ _ _ _ HZ.out Try.underlying90 rfl (by kernel_rfl) ?_)
  refine HLC.out.mono ?_
  rintro e w3 ⟨rfl, hb3⟩
  have hz3 := (hb3.out.block gp (by have := HSZ.out; omega)).trans HZ.out
  obtain ⟨y0, y1, y2, y3, y4, y5⟩ := c6 hz3
  have HB3 : Hid (Below w.heap.size w w3) := HB1.out.trans (hb3.out.mono HB1.out.size)
  clear hz3 hb3 HZ HB1 HLC
  rcases HLA.out with ⟨e1, e2, e3, e4⟩ | ⟨e1, e2, e3, e4⟩ | ⟨e1, e2, e3, e4⟩
  · rw [e1]
    subst e2 e3 e4
    clear e1 HLA
    go_wp2_with fail
    refine (HPUT.out w3 0 HB3.out rfl).mono ?_
    rintro e w4 ⟨rfl, hd4⟩
    go_wp2_with fail
    go_ret
    exact ⟨rfl, hd4.out.1, grown_of_below HB3.out hd4.out.2⟩
  · rw [e1]
    subst e2 e3
    have hne : ((n1 : Int) == 4294967295) = false := by have := HNN.out; rw [beq_eq_false_iff_ne]; omega
    have hnx : ((n1 : Int) + 1) % 4294967296 = (N : Int) := by have := HNN.out; rw [e4] at this ⊢; push_cast; omega
    have HNX := Lib.hid hnx
    clear e1 e4 HLA hnx HNN
    go_upto_region 12 with fail
    rw [HNX.out]
    go_wp2_with fail
    refine (HPUT.out w3 0 HB3.out rfl).mono ?_
    rintro e w4 ⟨rfl, hd4⟩
    go_wp2_with fail
    go_ret
    exact ⟨rfl, hd4.out.1, grown_of_below HB3.out hd4.out.2⟩
  · rw [e1]
    subst e2 e3
    have hne : ((n0 : Int) == 4294967295) = false := by have := HNN.out; rw [beq_eq_false_iff_ne]; omega
    have hnx : ((n0 : Int) + 1) % 4294967296 = (N : Int) := by have := HNN.out; rw [e4] at this ⊢; push_cast; omega
    have HNX := Lib.hid hnx
    clear e1 e4 HLA hnx HNN
    go_upto_region 12 with fail
    rw [HNX.out]
    go_wp2_with fail
    refine (HPUT.out w3 1 HB3.out rfl).mono ?_
    rintro e w4 ⟨rfl, hd4⟩
    go_wp2_with fail
    go_ret
    exact ⟨rfl, hd4.out.1, grown_of_below HB3.out hd4.out.2⟩
end Go.Proofs.Ytmlmpjokmbgmcaa
