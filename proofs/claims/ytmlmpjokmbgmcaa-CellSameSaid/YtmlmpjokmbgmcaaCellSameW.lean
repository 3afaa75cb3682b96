/- CellSame: its walk. -/
import Derived.Test.YtmlmpjokmbgmcaaCellAw
import Derived.Test.YtmlmpjokmbgmcaaLaw
import Derived.Test.YtmlmpjokmbgmcaaGrow
import Derived.Deep.RegionHeld3
namespace Go.Proofs.Ytmlmpjokmbgmcaa
open Go.ChangeShapes Go.WideShapes Go.ChangeAt Go.RowKit
/-- behind k writes: all behind the cell's sectors as in f1 -/
structure SameI (f f1 : Fl) (k : Nat) : Prop where
  down : f.down = false
  there : f.there = false
  wear : f.wear = 100
  er0 : f.er 0 ≤ k
  er1 : f.er 1 ≤ k
  ok : f.Ok (300 + 300 * k)
  hi : ∀ i, 512 ≤ i → f.bs i = f1.bs i
  st : k = 0 ∧ Void f ∨ ∃ i N b, N ≤ k ∧ Cur f i N b
theorem same_step {g B m cap k : Nat} {A : Option Addr} {b : List UInt8} {f f1 : Fl} {w : World} (hf : FlAt w g f) (hl : Row w B A m (bv b)) (hA : 0 < m → ∀ b o, A = some ⟨b, o, none⟩ → b ≠ g) (hB : B ≤ w.heap.size) (hm : m ≤ 245)
    (hk : k < 30) (ht : SameI f f1 k) :
    Calls Try.prog 19 #[.pointer (some ⟨g, 0, none⟩), .slice A m cap] w fun e w' => ∃ f', e = .returned (.int .i64 0) ∧ Hid (Done g f' w w') ∧ Hid (SameI f' f1 (k + 1)) ∧ Hid (CellHas f' b) := by
  have hbl := hl.blen
  have e0 := ht.er0
  have e1 := ht.er1
  have fin : ∀ (f' : Fl) (i N s M : Nat) (c : List UInt8), s ≤ 1 → Wrote f i N c s M b 0 f' → M ≤ k + 1 → f'.Ok (300 + 300 * k + 300) → SameI f' f1 (k + 1) ∧ CellHas f' b := by
    intro f' i N s M c hs hw hM hok
    obtain ⟨h1, h2, h3, h4⟩ := hw.yes rfl
    refine ⟨⟨h2.trans ht.down, h4 ht.there, hw.wear.trans ht.wear, ?_, ?_, hok.more (by push_cast; omega), fun i hi => ?_, .inr ⟨s, M, b, hM, h1⟩⟩, h1.has⟩
    · rw [hw.er]; unfold erUp; split
      · rename_i h; rw [← h]; push_cast; omega
      · push_cast; omega
    · rw [hw.er]; unfold erUp; split
      · rename_i h; rw [← h]; push_cast; omega
      · push_cast; omega
    · rw [hw.oth i (by omega)]; exact ht.hi i hi
  rcases ht.st with ⟨rfl, hv⟩ | ⟨i, N, b0, hN, hc⟩
  · refine (cwrite_void hf hl hA hB hm ht.down ht.ok (by omega) hv (by rw [ht.wear]; omega) ht.there).mono ?_
    rintro e w' ⟨f', rfl, hd, hw, hok⟩
    obtain ⟨q1, q2⟩ := fin f' 0 0 0 1 [] (by omega) hw.out (by omega) hok.out
    exact ⟨f', rfl, hd, q1, q2⟩
  · have hi := hc.1
    have her : f.er (1 - i) < f.wear := by
      rw [ht.wear]
      rcases (show i = 0 ∨ i = 1 by omega) with rfl | rfl
      · show f.er 1 < 100; omega
      · show f.er 0 < 100; omega
    refine (cwrite_free hf hl hA hB hm ht.down ht.ok (by omega) hc her (by omega) ht.there).mono ?_
    rintro e w' ⟨f', rfl, hd, hw, hok⟩
    obtain ⟨q1, q2⟩ := fin f' i N (1 - i) (N + 1) b0 (by omega) hw.out (by omega) hok.out
    exact ⟨f', rfl, hd, q1, q2⟩
theorem same_start (f0 : Fl) (l : List UInt8) (h0 : f0 = (flNew 100).fill 0 3584) : ∃ f1, f0.prog 512 l = (f1, 0) ∧ (l.length ≤ 3 → SameI f1 f1 0) := by
  have hv := new_void 100
  have hok := new_ok 100 (by decide)
  rw [← h0] at hv hok
  rcases prog_cases l f0 512 with ⟨f1, e, q1, q2, q3, q4, q5⟩ | ⟨q0, _⟩
  · refine ⟨f1, e, fun hl => ?_⟩
    have hok1 := hok.prog l 512
    rw [e] at hok1
    have hsec : ∀ s, s ≤ 1 → f1.sec s = f0.sec s := by
      intro s hs
      funext i
      unfold Fl.sec
      split
      · rw [q1]; unfold bsAll; rw [if_neg (by omega)]
      · rfl
    refine ⟨by rw [q4, h0]; rfl, q5 (by rw [h0]; rfl), by rw [q2.wear, h0]; rfl, ?_, ?_, hok1.more (by omega), fun _ _ => rfl, .inl ⟨rfl, ?_⟩⟩
    · rw [q2.er, h0]; exact Int.le_refl 0
    · rw [q2.er, h0]; exact Int.le_refl 0
    · unfold Void; rw [hsec 0 (by omega), hsec 1 (by omega)]; exact hv
  · rw [h0] at q0; cases q0
theorem drop_same {f f1 : Fl} (h : ∀ i, 512 ≤ i → f.bs i = f1.bs i) : (f.sub 0 3584).drop 512 = (f1.sub 0 3584).drop 512 := by
  apply List.ext_getElem
  · simp [Fl.sub]
  · intro i h1 h2
    simp only [Fl.sub, List.getElem_drop, List.getElem_map, List.getElem_range]
    exact h _ (by omega)
set_option maxRecDepth 100000 in
set_option maxHeartbeats 6400000 in
theorem same_walk (A : Option Addr) (n cap : Nat) (es : List BRow) (w : World) (hl : Rows2 w w.heap.size A n es) (hbg : ∀ r ∈ es, r.n ≤ r.c ∧ r.c ≤ 9223372036854775807) :
    Calls Try.prog 7 #[.slice A n cap] w fun e w' => e = .returned (.bool true) ∧ Below w.heap.size w w' := by
  have HL := Lib.hid hl
  have HBG := Lib.hid hbg
  clear hl hbg
  go_enter Try.func7, Try.ntmps7
  go_wp2_with fail
  refine (new_any 100 w ⟨by omega, by omega⟩).mono ?_
  rintro e w1 ⟨g, rfl, hg, hf, hb⟩
  obtain ⟨f1, he1, hs1⟩ := same_start _ [1, 2, 3] rfl
  have HS1 : Hid (SameI f1 f1 0) := hs1 (by decide)
  have hok0 := new_ok 100 (by decide)
  have hdn0 : ((flNew 100).fill 0 3584).down = false := rfl
  have hgl := hf.out.lt
  have hbw : Below w1.heap.size w1 (w1.alloc (.cells #[.int .u8 1, .int .u8 2, .int .u8 3] 5)) := (Below.refl _ _).alloc (Nat.le_refl _) _
  have HP := Lib.hid (prog_at (g := g) (a := 512) (n := 3) (B := w1.heap.size + 1) (cap := 3) (A := some ⟨w1.heap.size, 0, none⟩) (l := [1, 2, 3]) (w := w1.alloc (.cells #[.int .u8 1, .int .u8 2, .int .u8 3] 5)) 512 rfl (hf.out.below hbw) (row_new w1 #[.int .u8 1, .int .u8 2, .int .u8 3] 5 (0, 0)) (by intro _ b o h; injection h with h; injection h with h; omega) (by simp) hdn0 (by omega) (by have := hok0.1; omega) (by have := hok0.2.1; omega) hok0.2.2.1)
  rw [he1] at HP
  have HB1 := Lib.hid (hb.out.trans (hbw.mono hb.out.size))
  clear hf hb hbw hok0 hdn0 he1 hs1
  go_wp2_with fail
  refine HP.out.mono ?_
  rintro e w3 ⟨rfl, hd3⟩
  have HB3 : Hid (Below w.heap.size w w3) := below_done HB1.out hd3.out HB1.out.size hg
  have HF3 : Hid (FlAt w3 g f1) := hd3.out.1
  clear hd3 HP HB1
  go_wp2_with fail
  refine (bytes_any g f1 w3 HF3.out).mono ?_
  rintro e w4 ⟨A4, n4, c4, rfl, hn4, hown4, hb4⟩
  obtain rfl : n4 = 3584 := hn4.out.trans (Fl.sub_length _ _ _)
  obtain ⟨gr, cr, hv, hgr, hgr2⟩ := hown4.form (by omega)
  injection hv with e1 e2 e3
  subst e1 e3
  have hcc := own_cap hown4
  have HR4 : Hid (Row w4 w4.heap.size (some ⟨gr, 0, none⟩) 3584 (bv (f1.sub 0 3584))) := Row.of_own hown4
  have HB4 : Hid (Below w.heap.size w w4) := HB3.out.trans (hb4.mono HB3.out.size)
  have HF4 : Hid (FlAt w4 g f1) := HF3.out.below hb4
  have hgg : gr ≠ g := by have := HF3.out.lt; omega
  have hgw : w.heap.size ≤ gr := by have := HB3.out.size; omega
  clear hn4 hown4 hb4 HB3 HF3 hgr hgr2 hgl
  go_wp2_with fail
  go_loopw [19] (fun i wr => ∃ (k : Nat) (f : Fl), k ≤ n ∧ k ≤ 30 ∧ i = .int .i64 k ∧ Hid (FlAt wr g f) ∧ Hid (SameI f f1 k) ∧ Hid (Below w.heap.size w wr) ∧ Hid (Row wr w4.heap.size (some ⟨gr, 0, none⟩) 3584 (bv (f1.sub 0 3584))) ∧ Hid (w4.heap.size ≤ wr.heap.size)) (fun i _ => n - (intOf i).toNat)
  case atStart => exact ⟨0, f1, by omega, by omega, rfl, HF4, HS1, HB4, HR4, Nat.le_refl _⟩
  case round =>
    clear HF4 HS1 HB4 HR4
    obtain ⟨k, f, hk, hk30, rfl, hf, hs, hb, hr4, hsz⟩ := hrel
    by_cases hlt : k < n
    · obtain ⟨bo, oo, rfl, r, hr, hcell, hrow⟩ := (HL.out.below hb.out).at_ hlt
      have hrc := HBG.out r (List.mem_of_getElem? hr)
      by_cases h30 : k = 30
      · subst h30
        clear hr4 hf hs hsz
        go_wp2_with fail
        refine (awake17_any _).mono ?_
        rintro e w9 ⟨rfl, hb9⟩
        go_wp2_with fail
        go_ret
        exact ⟨rfl, hb.out.trans (hb9.mono hb.out.size)⟩
      by_cases h245 : 245 < r.n
      · have hk29 : k < 30 := by omega
        clear hr4 hf hs hsz
        go_wp2_with fail
        refine (awake17_any _).mono ?_
        rintro e w9 ⟨rfl, hb9⟩
        go_wp2_with fail
        go_ret
        exact ⟨rfl, hb.out.trans (hb9.mono hb.out.size)⟩
      have hk29 : k < 30 := by omega
      have h245' : r.n ≤ 245 := by omega
      have hAr : 0 < r.n → ∀ b o, r.A = some ⟨b, o, none⟩ → b ≠ g := by
        intro h0 b' o' e
        obtain ⟨b2, o2, e2, hb2, _⟩ := hrow.2 h0
        have e3 := e2.symm.trans e
        injection e3 with e3
        injection e3 with e3
        omega
      have HROW0 : Hid (Row w w.heap.size r.A r.n (bv r.l)) := HL.out.2 r (List.mem_of_getElem? hr)
      have HW := Lib.hid (same_step (cap := r.c) hf.out hrow hAr hb.out.size h245' hk29 hs.out)
      clear h30 h245 hrow hAr hr hs
      obtain ⟨rA, rn, rc, rl⟩ := r
      dsimp only at hcell hrc h245' HROW0 HW
      go_wp2_with fail
      refine HW.out.mono ?_
      rintro e w5 ⟨f', rfl, hd, hi', hch⟩
      have HI' : Hid (SameI f' f1 (k + 1)) := hi'
      have HB5 : Hid (Below w.heap.size w w5) := below_done hb.out hd.out hb.out.size hg
      have HF5 : Hid (FlAt w5 g f') := hd.out.1
      have HR5 : Hid (Row w5 w4.heap.size (some ⟨gr, 0, none⟩) 3584 (bv (f1.sub 0 3584))) := hr4.out.apart (fun _ b o e => by injection e with e; injection e with e; omega) hd.out.2 hsz.out
      have HS5 : Hid (w4.heap.size ≤ w5.heap.size) := Nat.le_trans hsz.out hd.out.2.size
      have HCR := Lib.hid (cread_any g f' rl w5 HF5.out HI'.out.down hch.out)
      clear hd hi' hch hf hr4 hsz HW hcell
      go_wp2_with fail
      refine HCR.out.mono ?_
      rintro e w6 ⟨A6, n6, c6, rfl, hn6, hnc6, hr6, hA6, hb6⟩
      have HB6 : Hid (Below w.heap.size w w6) := HB5.out.trans (hb6.out.mono HB5.out.size)
      have HF6 : Hid (FlAt w6 g f') := HF5.out.below hb6.out
      have HR6 := Lib.hid (HR5.out.below (hb6.out.mono HS5.out))
      have HS6 : Hid (w4.heap.size ≤ w6.heap.size) := Nat.le_trans HS5.out hb6.out.size
      clear hb6 hA6 hn6 hnc6 HB5 HF5 HR5 HS5 HCR
      go_wp2_with fail
      refine (bytes_any g f' w6 HF6.out).mono ?_
      rintro e w7 ⟨A7, n7, c7, rfl, hn7, hown7, hb7⟩
      obtain rfl : n7 = 3584 := hn7.out.trans (Fl.sub_length _ _ _)
      obtain ⟨gn, cn, hv, hgn, hgn2⟩ := hown7.form (by omega)
      injection hv with e1 e2 e3
      subst e1 e3
      have hcn := own_cap hown7
      have HR7 := Lib.hid (HR6.out.below (hb7.mono HS6.out))
      have HB7 : Hid (Below w.heap.size w w7) := HB6.out.trans (hb7.mono HB6.out.size)
      have HF7 : Hid (FlAt w7 g f') := HF6.out.below hb7
      have HS7 : Hid (w4.heap.size ≤ w7.heap.size) := Nat.le_trans HS6.out hb7.size
      have hrn := (Row.of_own hown7).cut (k := 512) (m := 3072) (by omega)
      have hrr := HR7.out.cut (k := 512) (m := 3072) (by omega)
      rw [bv_drop, bv_take, List.take_of_length_le (by simp [Fl.sub])] at hrn hrr
      rw [drop_same HI'.out.hi] at hrn
      simp only [Option.map_some, plain_add, Nat.zero_add] at hrn hrr
      generalize (f1.sub 0 3584).drop 512 = R at hrn hrr
      have HROW2 : Hid (Row w7 w.heap.size rA rn (bv rl)) := HROW0.out.below HB7.out
      have HF13 : Hid (∀ W, Below w7.heap.size w7 W → (convert 27 9 (.slice A6 n6 c6)).run Try.prog W = .ok (.string ⟨rl.toArray⟩) W ∧ (convert 27 9 (.slice rA rn rc)).run Try.prog W = .ok (.string ⟨rl.toArray⟩) W ∧ (convert 27 9 (.slice (some ⟨gn, 512, none⟩) 3072 (c7 - 512))).run Try.prog W = .ok (.string ⟨R.toArray⟩) W ∧ (convert 27 9 (.slice (some ⟨gr, 512, none⟩) 3072 (c4 - 512))).run Try.prog W = .ok (.string ⟨R.toArray⟩) W) := Lib.hid fun W hW =>
        ⟨conv_row c6 (hr6.out.below hb7) hb7.size W hW, conv_row rc (HROW2.out) (by have := HB7.out.size; omega) W hW, conv_row _ hrn (Nat.le_refl _) W hW, conv_row _ hrr HS7.out W hW⟩
      have hcn1 : ¬ c7 = 512 := by omega
      have hcr1 : ¬ c4 = 512 := by omega
      have hcn2 : (512 : Int) ≤ c7 := by omega
      have hcr2 : (512 : Int) ≤ c4 := by omega
      clear hn7 hown7 hb7 hgn hgn2 HB6 HF6 HR6 HS6 hr6 hrn hrr
      go_upto_region 13 with fail
      refine wp_region_noPanic ?_
      refine wp_region_held_drew (S := (fun W => Below (w7.heap.size) w7 W)) (by kernel_rfl) (Below.refl _ _).drew (fun hH0 => ?_)
      have hH0 : Below (w7.heap.size) w7 w7.drew := hH0
      generalize w7.drew = wd700 at *
      refine wpAnyH_take (i := 0) (oi := { dst := some 42, op := Op.move (Operand.tmp 8), type := 31, pos := "more.go:50", after := #[], guard := none }) (v := ?tkv701) rfl (by kernel_rfl) (by kernel_rfl) (by kernel_rfl) (fun _ _ _ h => h) (Or.inl ⟨by rfl, ?tky701⟩) hH0 ?tkr701
      case tky701 => (intro w' hSw; clear hSw; go_simp; try with_reducible rfl)
      try simp only [Act.put, List.setIfInBounds_toArray, List.set_cons_zero, List.set_cons_succ]
      refine wpAnyH_take (i := 1) (oi := { dst := some 43, op := Op.binOp BinOp.neq 31 (Operand.tmp 42) (Operand.const (Value.int IntKind.i64 0)) 31, type := 4, pos := "more.go:50", after := #[{ on := 0, ground := Ground.data }], guard := none }) (v := ?tkv702) rfl (by kernel_rfl) (by kernel_rfl) (by kernel_rfl) (fun _ _ _ h => h) (Or.inl ⟨by rfl, ?tky702⟩) hH0 ?tkr702
      case tky702 => (intro w' hSw; clear hSw; go_simp; try with_reducible rfl)
      try simp only [Act.put, List.setIfInBounds_toArray, List.set_cons_zero, List.set_cons_succ]
      refine wpAnyH_take (i := 2) (oi := { dst := some 44, op := Op.move (Operand.tmp 43), type := 4, pos := "more.go:50", after := #[{ on := 1, ground := Ground.data }], guard := none }) (v := ?tkv703) rfl (by kernel_rfl) (by kernel_rfl) (by kernel_rfl) (fun _ _ _ h => h) (Or.inl ⟨by rfl, ?tky703⟩) hH0 ?tkr703
      case tky703 => (intro w' hSw; clear hSw; go_simp; try with_reducible rfl)
      try simp only [Act.put, List.setIfInBounds_toArray, List.set_cons_zero, List.set_cons_succ]
      refine wpAnyH_take (i := 3) (oi := { dst := some 45, op := Op.move (Operand.tmp 7), type := 27, pos := "more.go:50", after := #[{ on := 2, ground := Ground.guard }], guard := some (2, false) }) (v := ?tkv704) rfl (by kernel_rfl) (by kernel_rfl) (by kernel_rfl) (fun _ _ _ h => h) (Or.inl ⟨by rfl, ?tky704⟩) hH0 ?tkr704
      case tky704 => (intro w' hSw; clear hSw; go_simp; try with_reducible rfl)
      try simp only [Act.put, List.setIfInBounds_toArray, List.set_cons_zero, List.set_cons_succ]
      refine wpAnyH_take (i := 4) (oi := { dst := some 46, op := Op.convert 27 9 (Operand.tmp 45), type := 9, pos := "more.go:50", after := #[{ on := 3, ground := Ground.data }, { on := 2, ground := Ground.guard }], guard := some (2, false) }) (v := ?tkv705) rfl (by kernel_rfl) (by kernel_rfl) (by kernel_rfl) (fun _ _ _ h => h) (Or.inl ⟨by rfl, ?tky705⟩) hH0 ?tkr705
      case tky705 => (intro w' hSw; have z0 := HF13.out _ hSw; clear hSw; go_simp; try with_reducible rfl)
      try simp only [Act.put, List.setIfInBounds_toArray, List.set_cons_zero, List.set_cons_succ]
      refine wpAnyH_take (i := 5) (oi := { dst := some 47, op := Op.move (Operand.tmp 6), type := 27, pos := "more.go:50", after := #[{ on := 2, ground := Ground.guard }], guard := some (2, false) }) (v := ?tkv706) rfl (by kernel_rfl) (by kernel_rfl) (by kernel_rfl) (fun _ _ _ h => h) (Or.inl ⟨by rfl, ?tky706⟩) hH0 ?tkr706
      case tky706 => (intro w' hSw; clear hSw; go_simp; try with_reducible rfl)
      try simp only [Act.put, List.setIfInBounds_toArray, List.set_cons_zero, List.set_cons_succ]
      refine wpAnyH_take (i := 6) (oi := { dst := some 48, op := Op.convert 27 9 (Operand.tmp 47), type := 9, pos := "more.go:50", after := #[{ on := 5, ground := Ground.data }, { on := 2, ground := Ground.guard }], guard := some (2, false) }) (v := ?tkv707) rfl (by kernel_rfl) (by kernel_rfl) (by kernel_rfl) (fun _ _ _ h => h) (Or.inl ⟨by rfl, ?tky707⟩) hH0 ?tkr707
      case tky707 => (intro w' hSw; have z0 := HF13.out _ hSw; clear hSw; go_simp; try with_reducible rfl)
      try simp only [Act.put, List.setIfInBounds_toArray, List.set_cons_zero, List.set_cons_succ]
      refine wpAnyH_take (i := 7) (oi := { dst := some 49, op := Op.binOp BinOp.neq 9 (Operand.tmp 46) (Operand.tmp 48) 9, type := 4, pos := "more.go:50", after := #[{ on := 4, ground := Ground.data }, { on := 6, ground := Ground.data }, { on := 2, ground := Ground.guard }], guard := some (2, false) }) (v := ?tkv708) rfl (by kernel_rfl) (by kernel_rfl) (by kernel_rfl) (fun _ _ _ h => h) (Or.inl ⟨by rfl, ?tky708⟩) hH0 ?tkr708
      case tky708 => (intro w' hSw; clear hSw; go_simp; try with_reducible rfl)
      try simp only [Act.put, List.setIfInBounds_toArray, List.set_cons_zero, List.set_cons_succ]
      refine wpAnyH_take (i := 8) (oi := { dst := some 50, op := Op.pick (Operand.tmp 44) (Operand.const (Value.bool true)) (Operand.tmp 49), type := 4, pos := "more.go:50", after := #[{ on := 2, ground := Ground.data }, { on := 7, ground := Ground.data }], guard := none }) (v := ?tkv709) rfl (by kernel_rfl) (by kernel_rfl) (by kernel_rfl) (fun _ _ _ h => h) (Or.inl ⟨by rfl, ?tky709⟩) hH0 ?tkr709
      case tky709 => (intro w' hSw; clear hSw; go_simp; try with_reducible rfl)
      try simp only [Act.put, List.setIfInBounds_toArray, List.set_cons_zero, List.set_cons_succ]
      refine wpAnyH_take (i := 9) (oi := { dst := some 51, op := Op.move (Operand.tmp 50), type := 4, pos := "more.go:50", after := #[{ on := 8, ground := Ground.data }, { on := 2, ground := Ground.chain }], guard := none }) (v := ?tkv710) rfl (by kernel_rfl) (by kernel_rfl) (by kernel_rfl) (fun _ _ _ h => h) (Or.inl ⟨by rfl, ?tky710⟩) hH0 ?tkr710
      case tky710 => (intro w' hSw; clear hSw; go_simp; try with_reducible rfl)
      try simp only [Act.put, List.setIfInBounds_toArray, List.set_cons_zero, List.set_cons_succ]
      refine wpAnyH_take (i := 10) (oi := { dst := some 52, op := Op.move (Operand.tmp 9), type := 27, pos := "more.go:50", after := #[{ on := 9, ground := Ground.guard }], guard := some (9, false) }) (v := ?tkv711) rfl (by kernel_rfl) (by kernel_rfl) (by kernel_rfl) (fun _ _ _ h => h) (Or.inl ⟨by rfl, ?tky711⟩) hH0 ?tkr711
      case tky711 => (intro w' hSw; clear hSw; go_simp; try with_reducible rfl)
      try simp only [Act.put, List.setIfInBounds_toArray, List.set_cons_zero, List.set_cons_succ]
      refine wpAnyH_take (i := 11) (oi := { dst := some 53, op := Op.call { callee := Callee.builtin Builtin.len, args := #[Operand.tmp 52], argTypes := #[27] }, type := 3, pos := "more.go:50", after := #[{ on := 10, ground := Ground.data }, { on := 9, ground := Ground.guard }], guard := some (9, false) }) (v := ?tkv712) rfl (by kernel_rfl) (by kernel_rfl) (by kernel_rfl) (fun _ _ _ h => h) (Or.inl ⟨by rfl, ?tky712⟩) hH0 ?tkr712
      case tky712 => (intro w' hSw; clear hSw; go_simp; try with_reducible rfl)
      try simp only [Act.put, List.setIfInBounds_toArray, List.set_cons_zero, List.set_cons_succ]
      refine wpAnyH_take (i := 12) (oi := { dst := some 54, op := Op.move (Operand.tmp 4), type := 27, pos := "more.go:50", after := #[{ on := 9, ground := Ground.guard }], guard := some (9, false) }) (v := ?tkv713) rfl (by kernel_rfl) (by kernel_rfl) (by kernel_rfl) (fun _ _ _ h => h) (Or.inl ⟨by rfl, ?tky713⟩) hH0 ?tkr713
      case tky713 => (intro w' hSw; clear hSw; go_simp; try with_reducible rfl)
      try simp only [Act.put, List.setIfInBounds_toArray, List.set_cons_zero, List.set_cons_succ]
      refine wpAnyH_take (i := 13) (oi := { dst := some 55, op := Op.call { callee := Callee.builtin Builtin.len, args := #[Operand.tmp 54], argTypes := #[27] }, type := 3, pos := "more.go:50", after := #[{ on := 12, ground := Ground.data }, { on := 9, ground := Ground.guard }], guard := some (9, false) }) (v := ?tkv714) rfl (by kernel_rfl) (by kernel_rfl) (by kernel_rfl) (fun _ _ _ h => h) (Or.inl ⟨by rfl, ?tky714⟩) hH0 ?tkr714
      case tky714 => (intro w' hSw; clear hSw; go_simp; try with_reducible rfl)
      try simp only [Act.put, List.setIfInBounds_toArray, List.set_cons_zero, List.set_cons_succ]
      refine wpAnyH_take (i := 14) (oi := { dst := some 56, op := Op.binOp BinOp.neq 3 (Operand.tmp 53) (Operand.tmp 55) 3, type := 4, pos := "more.go:50", after := #[{ on := 11, ground := Ground.data }, { on := 13, ground := Ground.data }, { on := 9, ground := Ground.guard }], guard := some (9, false) }) (v := ?tkv715) rfl (by kernel_rfl) (by kernel_rfl) (by kernel_rfl) (fun _ _ _ h => h) (Or.inl ⟨by rfl, ?tky715⟩) hH0 ?tkr715
      case tky715 => (intro w' hSw; clear hSw; go_simp; try with_reducible rfl)
      try simp only [Act.put, List.setIfInBounds_toArray, List.set_cons_zero, List.set_cons_succ]
      refine wpAnyH_take (i := 15) (oi := { dst := some 57, op := Op.pick (Operand.tmp 51) (Operand.const (Value.bool true)) (Operand.tmp 56), type := 4, pos := "more.go:50", after := #[{ on := 9, ground := Ground.data }, { on := 14, ground := Ground.data }], guard := none }) (v := ?tkv716) rfl (by kernel_rfl) (by kernel_rfl) (by kernel_rfl) (fun _ _ _ h => h) (Or.inl ⟨by rfl, ?tky716⟩) hH0 ?tkr716
      case tky716 => (intro w' hSw; clear hSw; go_simp; try with_reducible rfl)
      try simp only [Act.put, List.setIfInBounds_toArray, List.set_cons_zero, List.set_cons_succ]
      refine wpAnyH_take (i := 16) (oi := { dst := some 58, op := Op.move (Operand.tmp 57), type := 4, pos := "more.go:50", after := #[{ on := 15, ground := Ground.data }, { on := 9, ground := Ground.chain }], guard := none }) (v := ?tkv717) rfl (by kernel_rfl) (by kernel_rfl) (by kernel_rfl) (fun _ _ _ h => h) (Or.inl ⟨by rfl, ?tky717⟩) hH0 ?tkr717
      case tky717 => (intro w' hSw; clear hSw; go_simp; try with_reducible rfl)
      try simp only [Act.put, List.setIfInBounds_toArray, List.set_cons_zero, List.set_cons_succ]
      refine wpAnyH_take (i := 17) (oi := { dst := some 59, op := Op.move (Operand.tmp 9), type := 27, pos := "more.go:50", after := #[{ on := 16, ground := Ground.guard }], guard := some (16, false) }) (v := ?tkv718) rfl (by kernel_rfl) (by kernel_rfl) (by kernel_rfl) (fun _ _ _ h => h) (Or.inl ⟨by rfl, ?tky718⟩) hH0 ?tkr718
      case tky718 => (intro w' hSw; clear hSw; go_simp; try with_reducible rfl)
      try simp only [Act.put, List.setIfInBounds_toArray, List.set_cons_zero, List.set_cons_succ]
      refine wpAnyH_take (i := 18) (oi := { dst := some 60, op := Op.call { callee := Callee.builtin Builtin.len, args := #[Operand.tmp 59], argTypes := #[27] }, type := 3, pos := "more.go:50", after := #[{ on := 17, ground := Ground.data }, { on := 16, ground := Ground.guard }], guard := some (16, false) }) (v := ?tkv719) rfl (by kernel_rfl) (by kernel_rfl) (by kernel_rfl) (fun _ _ _ h => h) (Or.inl ⟨by rfl, ?tky719⟩) hH0 ?tkr719
      case tky719 => (intro w' hSw; clear hSw; go_simp; try with_reducible rfl)
      try simp only [Act.put, List.setIfInBounds_toArray, List.set_cons_zero, List.set_cons_succ]
      refine wpAnyH_take (i := 19) (oi := { dst := some 61, op := Op.binOp BinOp.lss 3 (Operand.tmp 60) (Operand.const (Value.int IntKind.i64 512)) 3, type := 4, pos := "more.go:50", after := #[{ on := 18, ground := Ground.data }, { on := 16, ground := Ground.guard }], guard := some (16, false) }) (v := ?tkv720) rfl (by kernel_rfl) (by kernel_rfl) (by kernel_rfl) (fun _ _ _ h => h) (Or.inl ⟨by rfl, ?tky720⟩) hH0 ?tkr720
      case tky720 => (intro w' hSw; clear hSw; go_simp; try with_reducible rfl)
      try simp only [Act.put, List.setIfInBounds_toArray, List.set_cons_zero, List.set_cons_succ]
      refine wpAnyH_take (i := 20) (oi := { dst := some 62, op := Op.pick (Operand.tmp 58) (Operand.const (Value.bool true)) (Operand.tmp 61), type := 4, pos := "more.go:50", after := #[{ on := 16, ground := Ground.data }, { on := 19, ground := Ground.data }], guard := none }) (v := ?tkv721) rfl (by kernel_rfl) (by kernel_rfl) (by kernel_rfl) (fun _ _ _ h => h) (Or.inl ⟨by rfl, ?tky721⟩) hH0 ?tkr721
      case tky721 => (intro w' hSw; clear hSw; go_simp; try with_reducible rfl)
      try simp only [Act.put, List.setIfInBounds_toArray, List.set_cons_zero, List.set_cons_succ]
      refine wpAnyH_take (i := 21) (oi := { dst := some 63, op := Op.move (Operand.tmp 62), type := 4, pos := "more.go:50", after := #[{ on := 20, ground := Ground.data }, { on := 16, ground := Ground.chain }], guard := none }) (v := ?tkv722) rfl (by kernel_rfl) (by kernel_rfl) (by kernel_rfl) (fun _ _ _ h => h) (Or.inl ⟨by rfl, ?tky722⟩) hH0 ?tkr722
      case tky722 => (intro w' hSw; clear hSw; go_simp; try with_reducible rfl)
      try simp only [Act.put, List.setIfInBounds_toArray, List.set_cons_zero, List.set_cons_succ]
      refine wpAnyH_take (i := 22) (oi := { dst := some 64, op := Op.move (Operand.tmp 9), type := 27, pos := "more.go:50", after := #[{ on := 21, ground := Ground.guard }], guard := some (21, false) }) (v := ?tkv723) rfl (by kernel_rfl) (by kernel_rfl) (by kernel_rfl) (fun _ _ _ h => h) (Or.inl ⟨by rfl, ?tky723⟩) hH0 ?tkr723
      case tky723 => (intro w' hSw; clear hSw; go_simp; try with_reducible rfl)
      try simp only [Act.put, List.setIfInBounds_toArray, List.set_cons_zero, List.set_cons_succ]
      refine wpAnyH_take (i := 23) (oi := { dst := some 65, op := Op.slice 27 (Operand.tmp 64) (some (Operand.const (Value.int IntKind.i64 512))) none none, type := 27, pos := "more.go:50", after := #[{ on := 22, ground := Ground.data }, { on := 21, ground := Ground.guard }], guard := some (21, false) }) (v := ?tkv724) rfl (by kernel_rfl) (by kernel_rfl) (by kernel_rfl) (fun _ _ _ h => h) (Or.inl ⟨by rfl, ?tky724⟩) hH0 ?tkr724
      case tky724 => (intro w' hSw; have z0 := HF13.out _ hSw; clear hSw; go_simp; try with_reducible rfl)
      try simp only [Act.put, List.setIfInBounds_toArray, List.set_cons_zero, List.set_cons_succ]
      refine wpAnyH_take (i := 24) (oi := { dst := some 66, op := Op.convert 27 9 (Operand.tmp 65), type := 9, pos := "more.go:50", after := #[{ on := 23, ground := Ground.data }, { on := 21, ground := Ground.guard }], guard := some (21, false) }) (v := ?tkv725) rfl (by kernel_rfl) (by kernel_rfl) (by kernel_rfl) (fun _ _ _ h => h) (Or.inl ⟨by rfl, ?tky725⟩) hH0 ?tkr725
      case tky725 => (intro w' hSw; have z0 := HF13.out _ hSw; clear hSw; go_simp; try with_reducible rfl)
      try simp only [Act.put, List.setIfInBounds_toArray, List.set_cons_zero, List.set_cons_succ]
      refine wpAnyH_take (i := 25) (oi := { dst := some 67, op := Op.move (Operand.tmp 4), type := 27, pos := "more.go:50", after := #[{ on := 21, ground := Ground.guard }], guard := some (21, false) }) (v := ?tkv726) rfl (by kernel_rfl) (by kernel_rfl) (by kernel_rfl) (fun _ _ _ h => h) (Or.inl ⟨by rfl, ?tky726⟩) hH0 ?tkr726
      case tky726 => (intro w' hSw; clear hSw; go_simp; try with_reducible rfl)
      try simp only [Act.put, List.setIfInBounds_toArray, List.set_cons_zero, List.set_cons_succ]
      refine wpAnyH_take (i := 26) (oi := { dst := some 68, op := Op.slice 27 (Operand.tmp 67) (some (Operand.const (Value.int IntKind.i64 512))) none none, type := 27, pos := "more.go:50", after := #[{ on := 25, ground := Ground.data }, { on := 21, ground := Ground.guard }], guard := some (21, false) }) (v := ?tkv727) rfl (by kernel_rfl) (by kernel_rfl) (by kernel_rfl) (fun _ _ _ h => h) (Or.inl ⟨by rfl, ?tky727⟩) hH0 ?tkr727
      case tky727 => (intro w' hSw; have z0 := HF13.out _ hSw; clear hSw; go_simp; try with_reducible rfl)
      try simp only [Act.put, List.setIfInBounds_toArray, List.set_cons_zero, List.set_cons_succ]
      refine wpAnyH_take (i := 27) (oi := { dst := some 69, op := Op.convert 27 9 (Operand.tmp 68), type := 9, pos := "more.go:50", after := #[{ on := 26, ground := Ground.data }, { on := 21, ground := Ground.guard }], guard := some (21, false) }) (v := ?tkv728) rfl (by kernel_rfl) (by kernel_rfl) (by kernel_rfl) (fun _ _ _ h => h) (Or.inl ⟨by rfl, ?tky728⟩) hH0 ?tkr728
      case tky728 => (intro w' hSw; have z0 := HF13.out _ hSw; clear hSw; go_simp; try with_reducible rfl)
      try simp only [Act.put, List.setIfInBounds_toArray, List.set_cons_zero, List.set_cons_succ]
      refine wpAnyH_take (i := 28) (oi := { dst := some 70, op := Op.binOp BinOp.neq 9 (Operand.tmp 66) (Operand.tmp 69) 9, type := 4, pos := "more.go:50", after := #[{ on := 24, ground := Ground.data }, { on := 27, ground := Ground.data }, { on := 21, ground := Ground.guard }], guard := some (21, false) }) (v := ?tkv729) rfl (by kernel_rfl) (by kernel_rfl) (by kernel_rfl) (fun _ _ _ h => h) (Or.inl ⟨by rfl, ?tky729⟩) hH0 ?tkr729
      case tky729 => (intro w' hSw; clear hSw; go_simp; try with_reducible rfl)
      try simp only [Act.put, List.setIfInBounds_toArray, List.set_cons_zero, List.set_cons_succ]
      refine wpAnyH_take (i := 29) (oi := { dst := some 71, op := Op.pick (Operand.tmp 63) (Operand.const (Value.bool true)) (Operand.tmp 70), type := 4, pos := "more.go:50", after := #[{ on := 21, ground := Ground.data }, { on := 28, ground := Ground.data }], guard := none }) (v := ?tkv730) rfl (by kernel_rfl) (by kernel_rfl) (by kernel_rfl) (fun _ _ _ h => h) (Or.inl ⟨by rfl, ?tky730⟩) hH0 ?tkr730
      case tky730 => (intro w' hSw; clear hSw; go_simp; try with_reducible rfl)
      try simp only [Act.put, List.setIfInBounds_toArray, List.set_cons_zero, List.set_cons_succ]
      refine wpAnyH_done (by kernel_rfl) ?_ _
      refine NoPanic.normal ?_
      have HB8 := Lib.hid (HB7.out.trans (hH0.mono HB7.out.size))
      have HF8 := Lib.hid (HF7.out.below hH0)
      have HR8 := Lib.hid (HR7.out.below (hH0.mono HS7.out))
      have HS8 : Hid (w4.heap.size ≤ _) := Nat.le_trans HS7.out hH0.size
      go_wp2_with fail
      go_roundw
      case rel => exact ⟨k + 1, f', by omega, by omega, by go_num, HF8, HI', HB8, HR8, HS8⟩
      case measure => simp [intOf]; omega
    · obtain rfl : n = k := by omega
      clear hr4 hf hs hsz
      go_wp2_with fail
      refine (awake17_any _).mono ?_
      rintro e w9 ⟨rfl, hb9⟩
      go_wp2_with fail
      go_ret
      exact ⟨rfl, hb.out.trans (hb9.mono hb.out.size)⟩
end Go.Proofs.Ytmlmpjokmbgmcaa
