/- cell.read, Read, Write, where there is no power or no flash, or no number left: by contracts. -/
import Derived.Test.YtmlmpjokmbgmcaaCellRW
namespace Go.Proofs.Ytmlmpjokmbgmcaa
open Go.RowKit
def z6 : Array Value := #[.bool false, .int .u32 0, .slice none 0 0, .bool false, .int .u32 0, .slice none 0 0]
/-- flash refuses to be read: k -/
def NoRead (p : Option Addr) (k : Int) (w : World) : Prop := ∀ W, Below w.heap.size w W → Calls Try.prog 58 #[.pointer p, .int .i64 0, .int .i64 256] W fun e w' => e = .returned (.tuple #[.slice none 0 0, .int .i64 k]) ∧ W = w'
theorem noRead_nil (w : World) : NoRead none 1 w := fun W _ => read_bad none 0 256 1 W (may_nil 0 256 W) (by decide)
theorem noRead_down {g : Nat} {f : Fl} {w : World} (hf : FlAt w g f) (hd : f.down = true) : NoRead (some ⟨g, 0, none⟩) 11 w := fun W hW =>
  read_bad _ 0 256 11 W (may_any g f 0 256 11 W (hf.below hW) (by decide) (by unfold mayE; rw [hd]; rfl)) (by decide)
set_option maxRecDepth 100000 in
set_option maxHeartbeats 3200000 in
theorem read_er (p : Option Addr) (k : Int) (w : World) (h : NoRead p k w) (hk : k ≠ 0) :
    Calls Try.prog 43 #[.pointer p] w fun e w' => e = .returned (.tuple #[.agg #[.bool false, .int .u32 0, .slice none 0 0, .bool false, .int .u32 0, .slice none 0 0], .int .i64 k]) ∧ Hid (Below w.heap.size w w') := by
  have H := Lib.hid h
  have hk' : (k != 0) = true := by simpa using hk
  have hb0 : Below w.heap.size w ((w.alloc (.cells #[.bool false, .int .u32 0, .slice none 0 0, .bool false, .int .u32 0, .slice none 0 0] 90)).alloc (.cells #[.bool false, .int .u32 0, .slice none 0 0, .bool false, .int .u32 0, .slice none 0 0] 90)) := ((Below.refl _ _).alloc (Nat.le_refl _) _).alloc (by simp) _
  have HB := Lib.hid hb0
  have HZ0 := Lib.hid (heap_alloc2_old w (.cells #[.bool false, .int .u32 0, .slice none 0 0, .bool false, .int .u32 0, .slice none 0 0] 90) (.cells #[.bool false, .int .u32 0, .slice none 0 0, .bool false, .int .u32 0, .slice none 0 0] 90))
  clear hb0 h hk
  go_enter Try.func43, Try.ntmps43
  go_wp2_with fail
  go_loopw [8] (fun i wr => i = .int .i64 0 ∧ Hid (Below w.heap.size w wr) ∧ Hid (wr.heap[w.heap.size]? = some (.cells #[.bool false, .int .u32 0, .slice none 0 0, .bool false, .int .u32 0, .slice none 0 0] 90 (0, 0)))) (fun _ _ => 0)
  case atStart => exact ⟨rfl, HB, HZ0.out⟩
  case round =>
    clear HZ0 HB
    obtain ⟨rfl, hb, hz⟩ := hrel
    go_wp2_with fail
    refine (H.out wr hb.out).mono ?_
    rintro e w1 ⟨rfl, rfl⟩
    obtain ⟨y0, y1, y2, y3, y4, y5⟩ := c6 hz.out
    have z0 := frozen_of_row wr w.heap.size 0 _ _ hz.out
    have z1 := frozen_of_row wr w.heap.size 1 _ _ hz.out
    have z2 := frozen_of_row wr w.heap.size 2 _ _ hz.out
    have z3 := frozen_of_row wr w.heap.size 3 _ _ hz.out
    have z4 := frozen_of_row wr w.heap.size 4 _ _ hz.out
    have z5 := frozen_of_row wr w.heap.size 5 _ _ hz.out
    go_wp2_with fail
    have hrow := six_hi (six_lo hz.out (.bool false) (.int .u32 0) (.slice none 0 0)) (.bool false) (.int .u32 0) (.slice none 0 0)
    have hgr := (grown_set3 wr w.heap.size 0 1 2 (.bool false) (.int .u32 0) (.slice none 0 0)).trans (grown_set3 _ w.heap.size 3 4 5 (.bool false) (.int .u32 0) (.slice none 0 0))
    (try simp only [Exit.inBlock, Exit.then])
    refine bodyPost_ret (results_ct_row rfl _ _ w.heap.size _ _ (0, 0) _ rfl hrow Try.underlying90 rfl (by kernel_rfl)) rfl ?_
    exact ⟨rfl, hb.out.grown hgr hb.out.size (by intro q h; injection h with h; omega)⟩
set_option maxRecDepth 100000 in
theorem cread_er (p : Option Addr) (k : Int) (w : World) (h : NoRead p k w) (hk : k ≠ 0) :
    Calls Try.prog 17 #[.pointer p] w fun e w' => e = .returned (.tuple #[.slice none 0 0, .int .i64 k]) ∧ Hid (Below w.heap.size w w') := by
  have hk' : (k != 0) = true := by simpa using hk
  have HR := Lib.hid (read_er p k w h hk)
  clear h hk
  go_enter Try.func17, Try.ntmps17
  go_wp2_with fail
  refine HR.out.mono ?_
  rintro e w1 ⟨rfl, hb⟩
  have hb1 : Below w.heap.size w (w1.alloc (.cells #[.bool false, .int .u32 0, .slice none 0 0, .bool false, .int .u32 0, .slice none 0 0] 90)) := hb.out.alloc hb.out.size _
  have HB1 := Lib.hid hb1
  clear hb hb1
  go_wp2_with fail
  go_ret2
  exact ⟨rfl, HB1⟩
set_option maxRecDepth 100000 in
theorem cwrite_er (p A : Option Addr) (m cap : Nat) (k : Int) (w : World) (h : NoRead p k w) (hk : k ≠ 0) (hm : m ≤ 245) :
    Calls Try.prog 19 #[.pointer p, .slice A m cap] w fun e w' => e = .returned (.int .i64 k) ∧ Hid (Below w.heap.size w w') := by
  have hk' : (k != 0) = true := by simpa using hk
  have hg : ¬ (245 : Int) < m := by omega
  have HR := Lib.hid (read_er p k w h hk)
  clear h hk
  go_enter Try.func19, Try.ntmps19
  go_wp2_with fail
  refine HR.out.mono ?_
  rintro e w1 ⟨rfl, hb⟩
  have hb1 : Below w.heap.size w (w1.alloc (.cells #[.bool false, .int .u32 0, .slice none 0 0, .bool false, .int .u32 0, .slice none 0 0] 90)) := hb.out.alloc hb.out.size _
  have HB1 := Lib.hid hb1
  clear hb hb1
  go_wp2_with fail
  go_ret
  exact ⟨rfl, HB1⟩
set_option maxRecDepth 100000 in
set_option maxHeartbeats 3200000 in
theorem cwrite_full (g m cap s : Nat) (A : Option Addr) (f : Fl) (w : World) (hf : FlAt w g f) (hm : m ≤ 245) (hd : f.down = false) (hw : WrTo f s 4294967296) :
    Calls Try.prog 19 #[.pointer (some ⟨g, 0, none⟩), .slice A m cap] w fun e w' => e = .returned (.int .i64 9) ∧ Hid (Below w.heap.size w w') := by
  have HR := Lib.hid (read_yes g f w hf hd)
  have HH := Lib.hid hw
  have hg : ¬ (245 : Int) < m := by omega
  clear hf hd hw
  go_enter Try.func19, Try.ntmps19
  go_wp2_with fail
  refine HR.out.mono ?_
  rintro e w1 ⟨cs, o0, n0, A0, m0, c0, o1, n1, A1, m1, c1, rfl, hp, hb1⟩
  obtain rfl := hp.out.1
  obtain ⟨W1, hW1⟩ : ∃ W1, w1.alloc (.cells #[.bool o0, .int .u32 (n0 : Int), .slice A0 m0 c0, .bool o1, .int .u32 (n1 : Int), .slice A1 m1 c1] 90) = W1 := ⟨_, rfl⟩
  have HZ : Hid (W1.heap[w1.heap.size]? = some (.cells #[.bool o0, .int .u32 (n0 : Int), .slice A0 m0 c0, .bool o1, .int .u32 (n1 : Int), .slice A1 m1 c1] 90 (0, 0))) := by rw [← hW1]; exact heap_alloc_new _ _
  have hbw : Below w1.heap.size w1 W1 := by rw [← hW1]; exact (Below.refl _ _).alloc (Nat.le_refl _) _
  have HSZ : Hid (W1.heap.size = w1.heap.size + 1) := by show _ = _; rw [← hW1]; simp
  have HB1 : Hid (Below w.heap.size w W1) := hb1.out.trans (hbw.mono hb1.out.size)
  have HW1 := Lib.hid hW1
  have HLA : Hid ((lastI o0 o1 n0 n1 = 1 ∧ o1 = true ∧ n1 = 4294967295) ∨ (lastI o0 o1 n0 n1 = 0 ∧ o0 = true ∧ n0 = 4294967295)) := by
    rcases HH.out with ⟨h1, h2, h3, h4⟩ | ⟨h1, h2, h3, h4⟩ | ⟨h1, h2, h3, h4⟩
    · omega
    · obtain ⟨e1, e2, e3⟩ := last_one hp.out h1 h2
      exact .inl ⟨e1, e2, by omega⟩
    · obtain ⟨e1, e2, e3⟩ := last_zero hp.out h1 h2
      exact .inr ⟨e1, e2, by omega⟩
  have HLC := Lib.hid (last_any o0 o1 n0 n1 (.slice A0 m0 c0) (.slice A1 m1 c1) W1)
  have hgs : w.heap.size ≤ w1.heap.size := hb1.out.size
  clear hW1 hbw hp hb1 HR HH
  go_upto_region 7 with fail
  rw [HW1.out]
  generalize w1.heap.size = gp at *
  clear HW1
  go_wp2_with ((with_reducible show wpList _ _ _ _ _ _); refine wpList_load_row (o := ⟨some 21, _, _, _, _, _⟩) rfl _ (.tmp 5) rfl gp rfl _ _ _ _ HZ.out Try.underlying90 rfl (by kernel_rfl) ?_)
  refine HLC.out.mono ?_
  rintro e w3 ⟨rfl, hb3⟩
  have hz3 := (hb3.out.block gp (by have := HSZ.out; omega)).trans HZ.out
  obtain ⟨y0, y1, y2, y3, y4, y5⟩ := c6 hz3
  have HB3 : Hid (Below w.heap.size w w3) := HB1.out.trans (hb3.out.mono HB1.out.size)
  clear hz3 hb3 HZ HB1 HLC
  rcases HLA.out with ⟨e1, e2, e3⟩ | ⟨e1, e2, e3⟩
  · rw [e1]
    subst e2 e3
    clear e1 HLA
    go_wp2_with fail
    go_ret
    exact ⟨rfl, HB3⟩
  · rw [e1]
    subst e2 e3
    clear e1 HLA
    go_wp2_with fail
    go_ret
    exact ⟨rfl, HB3⟩
end Go.Proofs.Ytmlmpjokmbgmcaa
