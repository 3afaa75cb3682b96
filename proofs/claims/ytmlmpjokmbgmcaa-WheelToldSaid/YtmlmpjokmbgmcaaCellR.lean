/- cell.read, where there is power: by contract. -/
import Derived.Test.YtmlmpjokmbgmcaaCellP
namespace Go.Proofs.Ytmlmpjokmbgmcaa
open Go.RowKit
theorem results_ct_row {P : Program} {fn : Func} {p u : Tmp} {ty : TypeId} (h : fn.results = #[.cell p ty, .tmp u]) (tmps : Array Value) (w : World) (g : Nat) (t : TypeId) (cs : Array Value) (fr : Nat × Nat) (d : TypeDesc)
    (hp : tmps.getD p undef = .pointer (some ⟨g, 0, none⟩)) (hg : w.heap[g]? = some (.cells cs t fr))
    (hu : P.underlying ty = some d) (hd : (match d with | .struct _ | .array _ _ => true | _ => false) = true) (hi : (P.info? ty).map (·.size) = some cs.size) :
    (results fn tmps).run P w = .ok (.tuple #[.agg cs, tmps.getD u undef]) w := by
  have hp' : tmps[p]?.getD undef = .pointer (some ⟨g, 0, none⟩) := by simpa using hp
  simp [results, h, hp', asAddr, run_loadVar_row w g t ty cs fr d hg hu hd hi]
theorem six_lo {w : World} {g : Nat} {a b c d e f : Value} {t : TypeId} (h : w.heap[g]? = some (.cells #[a, b, c, d, e, f] t (0, 0))) (x y z : Value) : (((w.setCell ⟨g, 0, none⟩ x).setCell ⟨g, 1, none⟩ y).setCell ⟨g, 2, none⟩ z).heap[g]? = some (.cells #[x, y, z, d, e, f] t (0, 0)) :=
  heap_setCell_same _ g 2 _ t z (heap_setCell_same _ g 1 _ t y (heap_setCell_same w g 0 _ t x h))
theorem six_hi {w : World} {g : Nat} {a b c d e f : Value} {t : TypeId} (h : w.heap[g]? = some (.cells #[a, b, c, d, e, f] t (0, 0))) (x y z : Value) : (((w.setCell ⟨g, 3, none⟩ x).setCell ⟨g, 4, none⟩ y).setCell ⟨g, 5, none⟩ z).heap[g]? = some (.cells #[a, b, c, x, y, z] t (0, 0)) :=
  heap_setCell_same _ g 5 _ t z (heap_setCell_same _ g 4 _ t y (heap_setCell_same w g 3 _ t x h))
theorem grown_set3 (w : World) (g i j k : Nat) (x y z : Value) : w.grownBy (((w.setCell ⟨g, i, none⟩ x).setCell ⟨g, j, none⟩ y).setCell ⟨g, k, none⟩ z) (some g) :=
  ((grown_set w g i x).trans (grown_set _ g j y)).trans (grown_set _ g k z)
theorem PartIs.set3 {b : List UInt8} {base g i j k : Nat} {W : World} {wh : Bool} {num : Nat} {A : Option Addr} {n c : Nat} (h : PartIs b base W wh num A n c) (hg : g < base) (x y z : Value) : PartIs b base (((W.setCell ⟨g, i, none⟩ x).setCell ⟨g, j, none⟩ y).setCell ⟨g, k, none⟩ z) wh num A n c := h.grown (grown_set3 W g i j k x y z) hg
theorem grown_setRow (w : World) (g : Nat) (cs : Array Value) : w.grownBy (w.setRow g cs) (some g) :=
  ⟨rfl, rfl, rfl, by simp, fun j _ hj => setRow_other _ _ _ _ (fun e => hj (by simp [e]))⟩
/-- the two parts of flash f, as six cells -/
def Parts2 (f : Fl) (base : Nat) (W : World) (cs : Array Value) (o0 : Bool) (n0 : Nat) (A0 : Option Addr) (m0 c0 : Nat) (o1 : Bool) (n1 : Nat) (A1 : Option Addr) (m1 c1 : Nat) : Prop :=
  cs = #[.bool o0, .int .u32 (n0 : Int), .slice A0 m0 c0, .bool o1, .int .u32 (n1 : Int), .slice A1 m1 c1] ∧ PartIs (f.sub 0 256) base W o0 n0 A0 m0 c0 ∧ PartIs (f.sub 256 256) base W o1 n1 A1 m1 c1
def RdOk (f : Fl) (w : World) (e : Ending) (w' : World) : Prop :=
  ∃ cs o0 n0 A0 m0 c0 o1 n1 A1 m1 c1, e = .returned (.tuple #[.agg cs, .int .i64 0]) ∧ Hid (Parts2 f w.heap.size w' cs o0 n0 A0 m0 c0 o1 n1 A1 m1 c1) ∧ Hid (Below w.heap.size w w')
def Rd (f : Fl) (g : Nat) (k : Nat) (W : World) : Prop :=
  (k = 0 ∧ W.heap[g]? = some (.cells #[.bool false, .int .u32 0, .slice none 0 0, .bool false, .int .u32 0, .slice none 0 0] 90 (0, 0))) ∨
  (k = 1 ∧ ∃ o0 n0 A0 m0 c0, W.heap[g]? = some (.cells #[.bool o0, .int .u32 (n0 : Nat), .slice A0 m0 c0, .bool false, .int .u32 0, .slice none 0 0] 90 (0, 0)) ∧ PartIs (f.sub 0 256) (g + 1) W o0 n0 A0 m0 c0) ∨
  (k = 2 ∧ ∃ cs o0 n0 A0 m0 c0 o1 n1 A1 m1 c1, W.heap[g]? = some (.cells cs 90 (0, 0)) ∧ Parts2 f (g + 1) W cs o0 n0 A0 m0 c0 o1 n1 A1 m1 c1)
theorem c6 {W : World} {g : Nat} {a b c d e f : Value} {t : TypeId} (h : W.heap[g]? = some (.cells #[a, b, c, d, e, f] t (0, 0))) : W.cell? ⟨g, 0, none⟩ = some a ∧ W.cell? ⟨g, 1, none⟩ = some b ∧ W.cell? ⟨g, 2, none⟩ = some c ∧ W.cell? ⟨g, 3, none⟩ = some d ∧ W.cell? ⟨g, 4, none⟩ = some e ∧ W.cell? ⟨g, 5, none⟩ = some f := by
  refine ⟨?_, ?_, ?_, ?_, ?_, ?_⟩ <;> (rw [cell_of_row W g _ _ _ (0, 0) h]; rfl)
theorem rd_keep {w wr w2 W3 : World} {g : Nat} {f : Fl} {t : TypeId} (hgr : w2.grownBy W3 (some (w.heap.size + 1))) (hgl : g < w.heap.size) (hf : FlAt wr g f) (hb : Below w.heap.size w wr) (hz : ∃ z, wr.heap[w.heap.size]? = some (Obj.cells z t (0, 0)) ∧ z.size = 6)
    (hsz : w.heap.size + 2 ≤ wr.heap.size) (hb2 : Below wr.heap.size wr w2) : FlAt W3 g f ∧ Below w.heap.size w W3 ∧ (∃ z, W3.heap[w.heap.size]? = some (Obj.cells z t (0, 0)) ∧ z.size = 6) ∧ w.heap.size + 2 ≤ W3.heap.size := by
  have h1 := hb.size
  have h2 := hb2.size
  refine ⟨(hf.below hb2).grown hgr (by intro h; injection h with h; omega), (hb.trans (hb2.mono hb.size)).grown hgr (by omega) (by intro q h; injection h with h; omega), ?_, Nat.le_trans hsz (Nat.le_trans h2 hgr.size)⟩
  obtain ⟨z, e1, e2⟩ := hz
  exact ⟨z, (hgr.block w.heap.size (by omega) (by simp)).trans ((hb2.block _ (by omega)).trans e1), e2⟩
set_option maxRecDepth 100000 in
set_option maxHeartbeats 3200000 in
theorem read_yes (g : Nat) (f : Fl) (w : World) (hf : FlAt w g f) (hd : f.down = false) :
    Calls Try.prog 43 #[.pointer (some ⟨g, 0, none⟩)] w (RdOk f w) := by
  have HD := Lib.hid hd
  have HGL := Lib.hid hf.lt
  have hb0 : Below w.heap.size w ((w.alloc (.cells #[.bool false, .int .u32 0, .slice none 0 0, .bool false, .int .u32 0, .slice none 0 0] 90)).alloc (.cells #[.bool false, .int .u32 0, .slice none 0 0, .bool false, .int .u32 0, .slice none 0 0] 90)) := ((Below.refl _ _).alloc (Nat.le_refl _) _).alloc (by simp) _
  have HF := Lib.hid (hf.below hb0)
  have HB := Lib.hid hb0
  have HZ0 := Lib.hid (heap_alloc2_old w (.cells #[.bool false, .int .u32 0, .slice none 0 0, .bool false, .int .u32 0, .slice none 0 0] 90) (.cells #[.bool false, .int .u32 0, .slice none 0 0, .bool false, .int .u32 0, .slice none 0 0] 90))
  have hz1 := heap_alloc_new (w.alloc (.cells #[.bool false, .int .u32 0, .slice none 0 0, .bool false, .int .u32 0, .slice none 0 0] 90)) (.cells #[.bool false, .int .u32 0, .slice none 0 0, .bool false, .int .u32 0, .slice none 0 0] 90)
  rw [show (w.alloc (.cells #[.bool false, .int .u32 0, .slice none 0 0, .bool false, .int .u32 0, .slice none 0 0] 90)).heap.size = w.heap.size + 1 by simp] at hz1
  have HZ1 := Lib.hid hz1
  clear hz1 hb0 hd hf
  go_enter Try.func43, Try.ntmps43
  go_wp2_with fail
  go_loopw [8] (fun i wr => ∃ k : Nat, k ≤ 2 ∧ i = .int .i64 k ∧ Hid (Rd f (w.heap.size + 1) k wr) ∧ Hid (FlAt wr g f) ∧ Hid (Below w.heap.size w wr) ∧ Hid (∃ z, wr.heap[w.heap.size]? = some (.cells z 90 (0, 0)) ∧ z.size = 6) ∧ Hid (w.heap.size + 2 ≤ wr.heap.size)) (fun i _ => 2 - (intOf i).toNat)
  case atStart => exact ⟨0, by omega, rfl, .inl ⟨rfl, HZ1.out⟩, HF, HB, ⟨_, HZ0.out, rfl⟩, by show _ ≤ _; simp⟩
  case round =>
    clear HZ0 HZ1 HF HB
    obtain ⟨k, hk, rfl, hrd, hf, hb, hz, hsz⟩ := hrel
    rcases hrd.out with ⟨rfl, hp⟩ | ⟨rfl, o0, n0, A0, m0, c0, hp, hp0⟩ | ⟨rfl, cs, o0, n0, A0, m0, c0, o1, n1, A1, m1, c1, hp, hps⟩
    · have HP := Lib.hid hp
      clear hrd hp
      go_wp2_with fail
      refine (read_at (a := 0) (n := 256) 0 256 rfl rfl hf.out HD.out (by omega)).mono ?_
      rintro e w1 ⟨A1, n1, c1, rfl, hn1, hown1, hb1⟩
      obtain rfl : n1 = 256 := hn1.out.trans (Fl.sub_length _ _ _)
      have hc1 := own_cap hown1.out
      have HPA := Lib.hid (parse_any w1.heap.size c1 A1 _ w1 (Row.of_own hown1.out) hc1.1 hc1.2 (Nat.le_refl _))
      have HB1 : Hid (Below wr.heap.size wr w1) := hb1
      clear hown1 hn1 hc1 hb1
      generalize hL : f.sub 0 256 = L at *
      have HL := Lib.hid hL
      clear hL
      go_wp2_with fail
      refine HPA.out.mono ?_
      rintro e w2 ⟨oo, no, Ao, mo, co, rfl, hpi, hb2⟩
      have HB2 : Hid (Below wr.heap.size wr w2) := HB1.out.trans (hb2.out.mono HB1.out.size)
      have hz2 : w2.heap[w.heap.size + 1]? = _ := (HB2.out.block _ (by have := hsz.out; omega)).trans HP.out
      obtain ⟨y0, y1, y2, -, -, -⟩ := c6 hz2
      have z0 := frozen_of_row w2 (w.heap.size + 1) 0 _ _ hz2
      have z1 := frozen_of_row w2 (w.heap.size + 1) 1 _ _ hz2
      have z2 := frozen_of_row w2 (w.heap.size + 1) 2 _ _ hz2
      have HZ2 := Lib.hid hz2
      have HPI : Hid (PartIs L (w.heap.size + 2) w2 oo no Ao mo co) := hpi.out.more (by have := HB1.out.size; have := hsz.out; omega)
      clear HP HB1 HPA hpi hb2 hz2
      go_wp2_with fail
      have hgr := grown_set3 w2 (w.heap.size + 1) 0 1 2 (.bool oo) (.int .u32 (no : Int)) (.slice Ao mo co)
      have HRD : Hid (Rd f (w.heap.size + 1) 1 (((w2.setCell ⟨w.heap.size + 1, 0, none⟩ (.bool oo)).setCell ⟨w.heap.size + 1, 1, none⟩ (.int .u32 (no : Int))).setCell ⟨w.heap.size + 1, 2, none⟩ (.slice Ao mo co))) := .inr (.inl ⟨rfl, oo, no, Ao, mo, co, six_lo HZ2.out _ _ _, by rw [HL.out]; exact HPI.out.set3 (by omega) _ _ _⟩)
      have hkp := rd_keep hgr HGL.out hf.out hb.out hz.out hsz.out HB2.out
      have HF3 := Lib.hid hkp.1
      have HB3 := Lib.hid hkp.2.1
      have HZ3 := Lib.hid hkp.2.2.1
      have HS3 := Lib.hid hkp.2.2.2
      clear hkp
      clear hgr hf hb hz hsz HB2 HZ2 HPI y0 y1 y2 z0 z1 z2
      go_roundw
      case rel => exact ⟨1, by omega, by go_num, HRD, HF3, HB3, HZ3, HS3⟩
      case measure => simp [intOf]
    · have HP := Lib.hid hp
      have HP0 := Lib.hid hp0
      clear hrd hp hp0
      go_wp2_with fail
      refine (read_at (a := 256) (n := 256) 256 256 rfl rfl hf.out HD.out (by omega)).mono ?_
      rintro e w1 ⟨A1, n1, c1, rfl, hn1, hown1, hb1⟩
      obtain rfl : n1 = 256 := hn1.out.trans (Fl.sub_length _ _ _)
      have hc1 := own_cap hown1.out
      have HPA := Lib.hid (parse_any w1.heap.size c1 A1 _ w1 (Row.of_own hown1.out) hc1.1 hc1.2 (Nat.le_refl _))
      have HB1 : Hid (Below wr.heap.size wr w1) := hb1
      clear hown1 hn1 hc1 hb1
      generalize hL : f.sub 256 256 = L at *
      have HL := Lib.hid hL
      clear hL
      go_wp2_with fail
      refine HPA.out.mono ?_
      rintro e w2 ⟨oo, no, Ao, mo, co, rfl, hpi, hb2⟩
      have HB2 : Hid (Below wr.heap.size wr w2) := HB1.out.trans (hb2.out.mono HB1.out.size)
      have hz2 : w2.heap[w.heap.size + 1]? = _ := (HB2.out.block _ (by have := hsz.out; omega)).trans HP.out
      obtain ⟨-, -, -, y0, y1, y2⟩ := c6 hz2
      have z0 := frozen_of_row w2 (w.heap.size + 1) 3 _ _ hz2
      have z1 := frozen_of_row w2 (w.heap.size + 1) 4 _ _ hz2
      have z2 := frozen_of_row w2 (w.heap.size + 1) 5 _ _ hz2
      have HZ2 := Lib.hid hz2
      have HPI : Hid (PartIs L (w.heap.size + 2) w2 oo no Ao mo co) := hpi.out.more (by have := HB1.out.size; have := hsz.out; omega)
      have HPJ : Hid (PartIs (f.sub 0 256) (w.heap.size + 2) w2 o0 n0 A0 m0 c0) := HP0.out.below HB2.out
      clear HP HB1 HPA hpi hb2 hz2 HP0
      go_wp2_with fail
      have hgr := grown_set3 w2 (w.heap.size + 1) 3 4 5 (.bool oo) (.int .u32 (no : Int)) (.slice Ao mo co)
      have HRD : Hid (Rd f (w.heap.size + 1) 2 (((w2.setCell ⟨w.heap.size + 1, 3, none⟩ (.bool oo)).setCell ⟨w.heap.size + 1, 4, none⟩ (.int .u32 (no : Int))).setCell ⟨w.heap.size + 1, 5, none⟩ (.slice Ao mo co))) := .inr (.inr ⟨rfl, _, o0, n0, A0, m0, c0, oo, no, Ao, mo, co, six_hi HZ2.out _ _ _, rfl, HPJ.out.set3 (by omega) _ _ _, by rw [HL.out]; exact HPI.out.set3 (by omega) _ _ _⟩)
      have hkp := rd_keep hgr HGL.out hf.out hb.out hz.out hsz.out HB2.out
      have HF3 := Lib.hid hkp.1
      have HB3 := Lib.hid hkp.2.1
      have HZ3 := Lib.hid hkp.2.2.1
      have HS3 := Lib.hid hkp.2.2.2
      clear hkp
      clear hgr hf hb hz hsz HB2 HZ2 HPI HPJ y0 y1 y2 z0 z1 z2
      go_roundw
      case rel => exact ⟨2, by omega, by go_num, HRD, HF3, HB3, HZ3, HS3⟩
      case measure => simp [intOf]
    · have HP := Lib.hid hp
      have HPS := Lib.hid hps
      have hcs : cs.size = 6 := by rw [hps.1]; rfl
      have h1c : (cs.all (·.oneCell') = true) := by rw [hps.1]; simp [Value.oneCell']
      have HCS := Lib.hid hcs
      have H1C := Lib.hid h1c
      have HINF : Hid ((Try.prog.info? 90).map (·.size) = some cs.size) := by show _ = _; rw [hcs]; kernel_rfl
      obtain ⟨z, hz1, hz2⟩ := hz.out
      have HZ := Lib.hid hz1
      have HZS : Hid (z.size = cs.size) := hz2.trans hcs.symm
      clear hrd hp hps hcs h1c hz hz1 hz2
      go_wp2_with (first
        | ((with_reducible show wpList _ _ _ _ _ _); refine wpList_load_row (o := ⟨some 28, _, _, _, _, _⟩) rfl _ (.tmp 4) rfl (w.heap.size + 1) rfl _ _ _ _ HP.out Try.underlying90 rfl HINF.out ?_)
        | ((with_reducible show wpList _ _ _ _ _ _); refine wpList_store_row rfl _ (.tmp 2) (.tmp 28) rfl w.heap.size cs rfl rfl _ _ HZ.out HINF.out HZS.out H1C.out ?_))
      have hgr := grown_setRow wr w.heap.size cs
      have hrow := setRow_heap wr w.heap.size z cs _ (0, 0) HZ.out
      refine bodyPost_ret (results_ct_row rfl _ _ w.heap.size _ _ (0, 0) _ rfl hrow Try.underlying90 rfl HINF.out) rfl ?_
      obtain ⟨p1, p2, p3⟩ := HPS.out
      exact ⟨cs, o0, n0, A0, m0, c0, o1, n1, A1, m1, c1, rfl, ⟨p1, (p2.grown hgr (by omega)).more (by omega), (p3.grown hgr (by omega)).more (by omega)⟩, hb.out.grown hgr hb.out.size (by intro q h; injection h with h; omega)⟩
end Go.Proofs.Ytmlmpjokmbgmcaa
