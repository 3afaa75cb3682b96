/- PrecodeRefuses' walk. -/
import Derived.Test.YtfkklckoalffkaaPcSumsW
import Derived.Test.YtfkklckoalffkaaStepApp
import Derived.Deep.RegionLaw
namespace Go.Proofs.Ytfkklckoalffkaa.Pc
open Go.RowKit
open VecM RdM Vc Sp
set_option maxRecDepth 100000 in
set_option maxHeartbeats 1600000 in
theorem pieces_no (s K P Z n c B : Nat) (A : Option Addr) (es : List BRow) (w : World) (hK : 1 ≤ K ∧ K ≤ 64) (hP : P ≤ 16) (hZ : 1 ≤ Z ∧ Z ≤ 16) (hl : Rows2 w B A n es) (hB : B ≤ w.heap.size) (hn : n ≤ 1000000) (hz : ∀ r ∈ es, r.n ≤ 1000000) (hf : fitB K Z n es = false) :
    Calls Try.prog 6 #[parV s K P Z, .slice A n c] w fun e w' => e = .returned (.slice none 0 0) ∧ Hid (Below w.heap.size w w') := by
  have HX0 := Lib.hid (heap_alloc_new w (.cells #[.int .u32 (s : Int), .int .i64 (K : Int), .int .i64 (P : Int), .int .i64 (Z : Int)] 24))
  have HB0 : Hid (Below w.heap.size w (w.alloc (.cells #[.int .u32 (s : Int), .int .i64 (K : Int), .int .i64 (P : Int), .int .i64 (Z : Int)] 24))) := (Below.refl _ _).alloc (Nat.le_refl _) _
  have hM := fun W => may_any s (K : Int) (P : Int) (Z : Int) W
  rw [show mayB (K : Int) (P : Int) (Z : Int) = true from (mayB_iff _ _ _).2 (by omega)] at hM
  have hzz : (w.alloc (.cells #[.int .u32 (s : Int), .int .i64 (K : Int), .int .i64 (P : Int), .int .i64 (Z : Int)] 24)).heap.size = w.heap.size + 1 := by simp
  generalize hw0 : (w.alloc (.cells #[.int .u32 (s : Int), .int .i64 (K : Int), .int .i64 (P : Int), .int .i64 (Z : Int)] 24)) = w0 at *
  have HW0 := Lib.hid hw0
  have hkeep := Lib.hid (spar_keep HX0.out)
  have HF := Lib.hid (fun W (hW : Below w0.heap.size w0 W) => by
    have h := fit_any s K P Z n c B A es W ((hl.below (HB0.out.mono hB)).below (hW.mono (by omega))) (by have := hW.size; omega) hn hz
    rw [hf] at h
    exact h)
  unfold parV at hM HF ⊢
  have HM := Lib.hid hM
  clear hM hl hz hf hw0
  go_enter Try.func6, Try.ntmps6
  go_upto_region 1 with fail
  rw [HW0.out]
  obtain ⟨_, c0, c1, c2, c3⟩ := hkeep.out w0 (Below.refl _ _)
  go_wp2_with fail
  refine (HM.out _).mono ?_
  rintro e w1 ⟨rfl, hb1⟩
  clear c0 c1 c2 c3
  obtain ⟨_, c0, c1, c2, c3⟩ := hkeep.out w1 hb1.out
  go_wp2_with fail
  refine (HF.out _ hb1.out).mono ?_
  rintro e w2 ⟨rfl, hb2⟩
  have HB2 := Lib.hid (HB0.out.trans ((hb1.out.trans (hb2.out.mono hb1.out.size)).mono HB0.out.size))
  go_wp2_with fail
  go_ret
  exact ⟨rfl, HB2⟩
set_option maxRecDepth 100000 in
set_option maxHeartbeats 1600000 in
theorem fit_len (s K P Z n c : Nat) (A : Option Addr) (w : World) (hnk : n ≠ K) : Calls Try.prog 9 #[parV s K P Z, .slice A n c] w fun e w' => e = .returned (.bool false) ∧ Hid (Below w.heap.size w w') := by
  have HX0 := Lib.hid (heap_alloc_new w (.cells #[.int .u32 (s : Int), .int .i64 (K : Int), .int .i64 (P : Int), .int .i64 (Z : Int)] 24))
  have HB0 : Hid (Below w.heap.size w (w.alloc (.cells #[.int .u32 (s : Int), .int .i64 (K : Int), .int .i64 (P : Int), .int .i64 (Z : Int)] 24))) := (Below.refl _ _).alloc (Nat.le_refl _) _
  have hbx := box4 HX0.out
  generalize hw0 : (w.alloc (.cells #[.int .u32 (s : Int), .int .i64 (K : Int), .int .i64 (P : Int), .int .i64 (Z : Int)] 24)) = w0 at *
  have HW0 := Lib.hid hw0
  have hne : ((n : Int) != (K : Int)) = true := by simp; omega
  unfold parV
  clear hw0
  go_enter Try.func9, Try.ntmps9
  go_upto_region 1 with fail
  rw [HW0.out]
  obtain ⟨c0, c1, c2, c3⟩ := hbx
  go_wp2_with fail
  go_ret
  exact ⟨rfl, HB0⟩
set_option maxRecDepth 100000 in
set_option maxHeartbeats 1600000 in
theorem pieces_len (s K P Z n c : Nat) (A : Option Addr) (w : World) (hK : 1 ≤ K ∧ K ≤ 64) (hP : P ≤ 16) (hZ : 1 ≤ Z ∧ Z ≤ 16) (hnk : n ≠ K) :
    Calls Try.prog 6 #[parV s K P Z, .slice A n c] w fun e w' => e = .returned (.slice none 0 0) ∧ Hid (Below w.heap.size w w') := by
  have HX0 := Lib.hid (heap_alloc_new w (.cells #[.int .u32 (s : Int), .int .i64 (K : Int), .int .i64 (P : Int), .int .i64 (Z : Int)] 24))
  have HB0 : Hid (Below w.heap.size w (w.alloc (.cells #[.int .u32 (s : Int), .int .i64 (K : Int), .int .i64 (P : Int), .int .i64 (Z : Int)] 24))) := (Below.refl _ _).alloc (Nat.le_refl _) _
  have hM := fun W => may_any s (K : Int) (P : Int) (Z : Int) W
  rw [show mayB (K : Int) (P : Int) (Z : Int) = true from (mayB_iff _ _ _).2 (by omega)] at hM
  generalize hw0 : (w.alloc (.cells #[.int .u32 (s : Int), .int .i64 (K : Int), .int .i64 (P : Int), .int .i64 (Z : Int)] 24)) = w0 at *
  have HW0 := Lib.hid hw0
  have hkeep := Lib.hid (spar_keep HX0.out)
  have hF := fun W => fit_len s K P Z n c A W hnk
  unfold parV at hM hF ⊢
  have HM := Lib.hid hM
  have HF := Lib.hid hF
  clear hM hF hw0
  go_enter Try.func6, Try.ntmps6
  go_upto_region 1 with fail
  rw [HW0.out]
  obtain ⟨_, c0, c1, c2, c3⟩ := hkeep.out w0 (Below.refl _ _)
  go_wp2_with fail
  refine (HM.out _).mono ?_
  rintro e w1 ⟨rfl, hb1⟩
  clear c0 c1 c2 c3
  obtain ⟨_, c0, c1, c2, c3⟩ := hkeep.out w1 hb1.out
  go_wp2_with fail
  refine (HF.out _).mono ?_
  rintro e w2 ⟨rfl, hb2⟩
  have HB2 := Lib.hid (HB0.out.trans ((hb1.out.trans (hb2.out.mono hb1.out.size)).mono HB0.out.size))
  go_wp2_with fail
  go_ret
  exact ⟨rfl, HB2⟩
theorem step_appG {P : Program} {ops : Array Oper} {o : Oper} {a : Act} {w : World} {K : Act → World → Prop} {Q : Exit → Act → World → Prop} {E : Prop} (hw : Region.wanted o (yielded ops a.tmps) = true) (s x : Operand) (t : TypeId)
    (ho : o.op = .call { callee := .builtin .append, args := #[s, x], argTypes := #[t, t] })
    (base : Nat) (e : TypeId) (i : TypeInfo) (z : Value) (bytes : Nat) (ht : P.underlying t = some (.slice e)) (hi : P.info? e = some i) (hz : i.zero = some z)
    (hsize : i.size = 1) (hby : i.bytes = bytes) (hzs : z.cells.size = 1)
    (v : Value) (n : Nat) (xs : List Value) (hs : a.eval s = v) (hown : w.ownsRow base e 1 v n xs)
    (B : Nat) (A : Option Addr) (m c : Nat) (news : List Value) (hx : a.eval x = .slice A m c) (hr : Row w B A m news) (h1 : ∀ u ∈ news, u.oneCell' = true)
    (h63 : n + m ≤ maxLen) (hbytes : (n + m) * bytes ≤ 140737488355328) (hbase : base ≤ w.heap.size)
    (h : ∀ v' w', w'.ownsRow base e 1 v' (n + m) (xs ++ news) → w.grownBy w' v.ownBlock → (v'.ownBlock = v.ownBlock ∨ v'.ownBlock = some w.heap.size) → K (a.put o.dst v') w') :
    if Region.wanted o (yielded ops a.tmps) = true then Oper.wp P o a w K Q else E := by
  rw [if_pos hw]
  exact wp_app s x t ho base e i z bytes ht hi hz hsize hby hzs v n xs hs hown B A m c news hx hr h1 h63 hbytes hbase h
/-- an append to a slice without room: what is appended lies anew -/
theorem step_app0 {P : Program} {ops : Array Oper} {o : Oper} {a : Act} {w : World} {K : Act → World → Prop} {Q : Exit → Act → World → Prop} {E : Prop} (hw : Region.wanted o (yielded ops a.tmps) = true) (s x : Operand) (t : TypeId)
    (ho : o.op = .call { callee := .builtin .append, args := #[s, x], argTypes := #[t, t] })
    (e : TypeId) (i : TypeInfo) (z : Value) (bytes : Nat) (ht : P.underlying t = some (.slice e)) (hi : P.info? e = some i) (hz : i.zero = some z)
    (hsize : i.size = 1) (hby : i.bytes = bytes) (hzs : z.cells.size = 1)
    (b : Addr) (hs : a.eval s = .slice (some b) 0 0)
    (B g m c : Nat) (news : List Value) (hx : a.eval x = .slice (some ⟨g, 0, none⟩) m c) (hr : Row w B (some ⟨g, 0, none⟩) m news) (h1 : ∀ u ∈ news, u.oneCell' = true) (hm : 0 < m)
    (h63 : m ≤ maxLen) (hbytes : m * bytes ≤ 140737488355328)
    (h : ∀ v' w', w'.ownsRow w.heap.size e 1 v' m news → Below w.heap.size w w' → K (a.put o.dst v') w') :
    if Region.wanted o (yielded ops a.tmps) = true then Oper.wp P o a w K Q else E := by
  rw [if_pos hw]
  obtain ⟨v', w', hrun, h2, h3, _⟩ := app_run (P := P) w w.heap.size t o.type e i z bytes ht hi hz hsize hby hzs (.slice none 0 0) 0 [] (World.ownsRow_nil _ _ _ _) B (some ⟨g, 0, none⟩) m c news hr h1 (by omega) (by simpa using hbytes) (Nat.le_refl _)
  have hc : ∀ j u, news[j]? = some u → w.cell? ((⟨g, 0, none⟩ : Addr).add j) = some u := by
    intro j u hu
    obtain ⟨b', o', h, _, hc⟩ := hr.2 hm
    injection h with h
    injection h with h1 h2
    subst h1 h2
    rw [plain_add]
    exact hc j u hu
  have hsame : (Builtin.append_ #[t, t] o.type #[.slice (some b) 0 0, .slice (some ⟨g, 0, none⟩) m c]).run P w = (Builtin.append_ #[t, t] o.type #[.slice none 0 0, .slice (some ⟨g, 0, none⟩) m c]).run P w := by
    rw [run_append_nil w t o.type e i z ht hi hz ⟨g, 0, none⟩ m c news (by rw [hr.1, hsize, Nat.mul_one]) hc hm (by unfold maxLen at h63; omega) (by rw [hby]; omega)]
    rw [run_append_grow w t o.type e i z ht hi hz b 0 0 [] (by simp) (by simp) ⟨g, 0, none⟩ m c news (by rw [hr.1, hsize, Nat.mul_one]) hc (by omega) (by unfold maxLen at h63; omega) (growslice_fits (by omega) (by rw [hby]; simpa using hbytes))]
    simp
  unfold Oper.wp execOp
  simp only [ho, resolve, invoke, builtin, Sem.run_bind, Sem.run_pure, Result.andThen_ok, List.map_toArray, List.map_cons, List.map_nil, hs, hx, hsame, hrun]
  rw [Nat.zero_add, List.nil_append] at h2
  exact h v' w' h2 ((Below.refl _ _).grown h3 (Nat.le_refl _) (by intro g h; nomatch h))
theorem sumR_zero (X z n : Nat) : ∀ k, sumR X z (List.replicate n (List.replicate z 0)) k = List.replicate z 0
  | 0 => rfl
  | k + 1 => by
    unfold sumR
    rw [sumR_zero X z n k]
    split
    · by_cases h : k < n
      · rw [show (List.replicate n (List.replicate z (0 : UInt8))).getD k [] = List.replicate z 0 by simp [List.getD, h], xorL_self]; simp
      · rw [show (List.replicate n (List.replicate z (0 : UInt8))).getD k [] = [] by simp [List.getD, h]]
        apply List.ext_getElem?
        intro j
        by_cases hj : j < z
        · have h2 := xl_get (List.replicate z (0 : UInt8)) [] (List.replicate z (0 : UInt8)).length j (by simpa using hj)
          unfold xorL
          rw [h2]
          simp [hj]
        · rw [List.getElem?_eq_none (by rw [xorL_length]; simp; omega), List.getElem?_eq_none (by simp; omega)]
    · rfl
theorem allP_zero (s K Z P : Nat) : ∀ l ∈ allP s K Z (List.replicate K (List.replicate Z 0)) P, l = List.replicate Z 0 := by
  intro l hl
  unfold allP at hl
  rcases List.mem_append.1 hl with h | h
  · exact (List.mem_replicate.1 h).2
  · obtain ⟨i, _, e⟩ := List.mem_map.1 h
    rw [← e, sumR_zero]
theorem mkNils (m : Nat) (hm : m ≤ 1000000) (w : World) : (Instr.makeSlice 25 (.int .i64 (m : Int)) (.int .i64 (m : Int))).run Try.prog w = .ok (.slice (some ⟨w.heap.size, 0, none⟩) m m) (w.alloc (.cells (Array.replicate m (.slice none 0 0)) 28)) := by
  obtain ⟨i0, hi, hz0, hz1, hz2⟩ := info_parts Try.info28
  have := run_make (P := Try.prog) w 25 28 i0 (.slice none 0 0) Try.underlying25 hi hz0 .i64 .i64 m m (by omega) (Int.le_refl _) (by rw [hz2]; omega) (by omega)
  have e : madeCells #[Value.slice none 0 0] m = Array.replicate m (.slice none 0 0) := by
    apply Array.toList_inj.1
    rw [toList_madeCells_one]; simp
  simpa [hz1, Value.cells, e] using this
theorem vals_one (es : List BRow) : ∀ u ∈ es.map BRow.val, u.oneCell' = true := by
  intro u hu
  obtain ⟨r, _, rfl⟩ := List.mem_map.1 hu
  rfl
theorem set_vals (es : List BRow) (q : Nat) (r : BRow) : (es.map BRow.val).set q r.val = (es.set q r).map BRow.val := by rw [List.map_set]
/-- rows of noughts, k of them made -/
def ZR (K Z G gz k : Nat) (wr : World) : Prop :=
  ∃ zs : List BRow, zs.length = k ∧ (∀ r ∈ zs, r.n = Z ∧ r.l = List.replicate Z 0) ∧ wr.ownsRow G 28 1 (.slice (some ⟨gz, 0, none⟩) K K) K (zs.map BRow.val ++ List.replicate (K - k) (.slice none 0 0)) ∧ ∀ r ∈ zs, Pc2 wr G (.slice (some ⟨gz, 0, none⟩) K K) r
theorem ZR.next {K Z G gz k g0 : Nat} {wr W : World} (h : ZR K Z G gz k wr) (hk : k < K) (hb : Below wr.heap.size wr W) (hg0 : gz ≠ g0) (ho : W.ownsRow G 5 1 (.slice (some ⟨g0, 0, none⟩) Z Z) Z (bv (List.replicate Z 0))) :
    ZR K Z G gz (k + 1) (W.setCell ⟨gz, k, none⟩ (.slice (some ⟨g0, 0, none⟩) Z Z)) := by
  obtain ⟨zs, h1, h2, h3, h4⟩ := h
  have h5 := own_below h3 hb
  have h6 := (h5.stored k (.slice (some ⟨g0, 0, none⟩) Z Z)).1
  have hgr := grown_set1 W gz k (.slice (some ⟨g0, 0, none⟩) Z Z)
  have e : (zs.map BRow.val ++ List.replicate (K - k) (Value.slice none 0 0)).set k (.slice (some ⟨g0, 0, none⟩) Z Z) = (zs ++ [(⟨some ⟨g0, 0, none⟩, Z, Z, List.replicate Z 0⟩ : BRow)]).map BRow.val ++ List.replicate (K - (k + 1)) (Value.slice none 0 0) := by
    rw [List.set_append_right _ _ (by simp [h1]), List.map_append, List.length_map, h1, Nat.sub_self, show K - k = (K - (k + 1)) + 1 by omega, List.replicate_succ, List.set_cons_zero, List.append_assoc]
    rfl
  rw [e] at h6
  refine ⟨zs ++ [⟨some ⟨g0, 0, none⟩, Z, Z, List.replicate Z 0⟩], by simp [h1], ?_, h6, ?_⟩
  · intro r hr
    rcases List.mem_append.1 hr with hr | hr
    · exact h2 r hr
    · rw [List.mem_singleton.1 hr]; exact ⟨rfl, rfl⟩
  · intro r hr
    rcases List.mem_append.1 hr with hr | hr
    · refine ((h4 r hr).below hb).grown hgr (fun g e2 e3 => ?_) (.inl rfl)
      obtain ⟨g', a, b, _⟩ := h4 r hr
      rw [a] at e2
      injection e2 with e2
      injection e2 with e2
      injection e3 with e3
      exact b (by show some gz = some g'; rw [e2, e3])
    · rw [List.mem_singleton.1 hr]
      exact ⟨g0, rfl, fun e2 => hg0 (Option.some.inj e2), ho.kept hgr (.inr (fun e2 => hg0 (Option.some.inj e2).symm))⟩
theorem ZR.below {K Z G gz k : Nat} {wr W : World} (h : ZR K Z G gz k wr) (hb : Below wr.heap.size wr W) : ZR K Z G gz k W := by
  obtain ⟨zs, h1, h2, h3, h4⟩ := h
  exact ⟨zs, h1, h2, own_below h3 hb, fun r hr => (h4 r hr).below hb⟩
theorem ZR.rows {K Z G gz : Nat} {wr : World} (h : ZR K Z G gz K wr) : ∃ zs : List BRow, zs.length = K ∧ (∀ r ∈ zs, r.n = Z ∧ r.l = List.replicate Z 0) ∧ Rows2 wr wr.heap.size (some ⟨gz, 0, none⟩) K zs ∧ zs.map (·.l) = List.replicate K (List.replicate Z 0) := by
  obtain ⟨zs, h1, h2, h3, h4⟩ := h
  rw [Nat.sub_self, List.replicate_zero, List.append_nil] at h3
  refine ⟨zs, h1, h2, ⟨Row.of_own h3, fun r hr => ?_⟩, ?_⟩
  · obtain ⟨g, _, _, q⟩ := h4 r hr
    exact Row.of_own q
  · rw [List.eq_replicate_iff]
    refine ⟨by simp [h1], fun l hl => ?_⟩
    obtain ⟨r, hr, rfl⟩ := List.mem_map.1 hl
    exact (h2 r hr).2
set_option maxRecDepth 100000 in
set_option maxHeartbeats 3200000 in
theorem refuses_walk (s : Nat) (K0 P0 Z0 : Int) (y : Int) (_ : -9223372036854775808 ≤ y) (_ : y ≤ 9223372036854775807) (w : World) (hs : s < 4294967296) :
    Calls Try.prog 4 #[.agg #[.int .u32 (s : Int), .int .i64 K0, .int .i64 P0, .int .i64 Z0], .int .i64 y] w fun e w' => e = .returned (.bool true) ∧ Below w.heap.size w w' := by
  obtain ⟨i0, hi, hz0, hz1, hz2⟩ := info_parts Try.info28
  have hx := heap_alloc_new w (.cells #[.int .u32 (s : Int), .int .i64 K0, .int .i64 P0, .int .i64 Z0] 24)
  have hb0 : Below w.heap.size w (w.alloc (.cells #[.int .u32 (s : Int), .int .i64 K0, .int .i64 P0, .int .i64 Z0] 24)) := (Below.refl _ _).alloc (Nat.le_refl _) _
  have hz : (w.alloc (.cells #[.int .u32 (s : Int), .int .i64 K0, .int .i64 P0, .int .i64 Z0] 24)).heap.size = w.heap.size + 1 := by simp
  have HX := Lib.hid hx
  have HB0 := Lib.hid hb0
  have HZ := Lib.hid hz
  have HSO := Lib.hid (fun W => sound9_any s 3 K0 P0 Z0 W (by omega))
  unfold parV at HSO
  have HS := Lib.hid hs
  clear hx hb0 hz hs
  go_enter Try.func4, Try.ntmps4
  go_wp2_with fail
  refine (HSO.out _).mono ?_
  rintro e w1 ⟨K, P, Z, ls, v, rfl, hF, hpw, hb1⟩
  have hbx := (hb1.out.block w.heap.size (by have := HZ.out; omega)).trans HX.out
  have HB1 := Lib.hid (HB0.out.trans (hb1.out.mono HB0.out.size))
  have hlt1 : w.heap.size < w1.heap.size := by have := hb1.out.size; have := HZ.out; omega
  obtain ⟨c0, c1, c2, c3⟩ := box4 hbx
  obtain ⟨f0, f1, f2, f3⟩ := frozenBox hbx
  have HBX := Lib.hid hbx
  obtain ⟨fs0, q1, q2, q3⟩ := hpw.out.1
  have hlK := hpw.out.2.1
  rw [hlK] at q2
  obtain ⟨Av, cv, rfl, _⟩ := own_slice q2
  have hpw1 : PW ls (w.heap.size + 1) (.slice Av K cv) w1 := by
    rw [← HZ.out]
    exact ⟨fs0, q1, by rw [hlK]; exact q2, q3⟩
  have HPW4 := Lib.hid ((((hpw1.set (b := w.heap.size) (i := 0) (u := .int .u32 (s : Int)) (by omega)).set (b := w.heap.size) (i := 1) (u := .int .i64 (K : Int)) (by omega)).set (b := w.heap.size) (i := 2) (u := .int .i64 (P : Int)) (by omega)).set (b := w.heap.size) (i := 3) (u := .int .i64 (Z : Int)) (by omega))
  have HLK := Lib.hid hlK
  have HLZ := Lib.hid hpw.out.2.2
  unfold parV
  clear hb1 hbx hpw q1 q2 q3 hpw1 hlK
  go_upto_region 2 with fail
  have hst := setBox HBX.out (.int .u32 (s : Int)) (.int .i64 (K : Int)) (.int .i64 (P : Int)) (.int .i64 (Z : Int))
  have hbs : Below w.heap.size w ((((w1.setCell ⟨w.heap.size, 0, none⟩ (.int .u32 (s : Int))).setCell ⟨w.heap.size, 1, none⟩ (.int .i64 (K : Int))).setCell ⟨w.heap.size, 2, none⟩ (.int .i64 (P : Int))).setCell ⟨w.heap.size, 3, none⟩ (.int .i64 (Z : Int))) := (((HB1.out.setCell (Nat.le_refl _) _).setCell (Nat.le_refl _) _).setCell (Nat.le_refl _) _).setCell (Nat.le_refl _) _
  have hszl : w.heap.size < ((((w1.setCell ⟨w.heap.size, 0, none⟩ (.int .u32 (s : Int))).setCell ⟨w.heap.size, 1, none⟩ (.int .i64 (K : Int))).setCell ⟨w.heap.size, 2, none⟩ (.int .i64 (P : Int))).setCell ⟨w.heap.size, 3, none⟩ (.int .i64 (Z : Int))).heap.size := by simp; omega
  generalize ((((w1.setCell ⟨w.heap.size, 0, none⟩ (.int .u32 (s : Int))).setCell ⟨w.heap.size, 1, none⟩ (.int .i64 (K : Int))).setCell ⟨w.heap.size, 2, none⟩ (.int .i64 (P : Int))).setCell ⟨w.heap.size, 3, none⟩ (.int .i64 (Z : Int))) = W1 at *
  have HST := Lib.hid hst
  have HBA := Lib.hid hbs
  have HSL := Lib.hid hszl
  obtain ⟨es, he1, hownl, hpcl⟩ := HPW4.out
  rw [HLK.out] at hownl
  have hKp : 0 < K := by have := hF.out; omega
  obtain ⟨gl, cl, hvl, hglb, _⟩ := hownl.form hKp
  injection hvl with e1 e2 e3
  subst e1 e3
  have hrows1 : Rows2 W1 W1.heap.size (some ⟨gl, 0, none⟩) K es := ⟨Row.of_own hownl, fun r hr => by obtain ⟨g, _, _, q⟩ := hpcl r hr; exact Row.of_own q⟩
  have HOWL := Lib.hid hownl
  have HES : Hid (∀ r ∈ es, r.n = Z) := Lib.hid fun r hr => by
    have h1 := (hrows1.2 r hr).blen
    have h2 := HLZ.out r.l (by rw [← he1]; exact List.mem_map_of_mem hr)
    omega
  have HAL := Lib.hid (fun W (hW : Below W1.heap.size W1 W) => hrows1.below hW)
  have HBXW := Lib.hid (fun W (hW : Below W1.heap.size W1 W) => box4 ((hW.block w.heap.size hszl).trans hst))
  have HE1 := Lib.hid he1
  clear hst hbs hlt1 c0 c1 c2 c3 f0 f1 f2 f3 HBX HB1 HX HB0 HZ HSO hrows1 HPW4 he1 hszl hownl hpcl
  obtain ⟨G, hG⟩ : ∃ G, W1.heap.size = G := ⟨_, rfl⟩
  rw [hG] at HAL HBXW
  have HG := Lib.hid hG
  clear hG
  have hF1 := hF.out
  obtain ⟨Q, hQ, hQp⟩ := pick_in y (K : Int) (by omega) (by omega)
  have HQ := Lib.hid hQp
  have hr1 : (1 : Int) ≤ (K : Int) := by omega
  have hr2 : (K : Int) ≤ 64 := by omega
  have hr0 : ¬ (K : Int) = 0 := by omega
  have HQK : Hid (Q < K) := Lib.hid (by omega)
  obtain ⟨c0, c1, c2, c3⟩ := HBXW.out W1 (Below.refl _ _)
  clear hF1 hQ hQp
  go_upto_region 3 with (first | rw [HQ.out])
  clear c0 c1 c2 c3 hr0 hr1
  obtain ⟨j0, hj, hy0, hy1, hy2⟩ := info_parts Try.info5
  have hown0 : (W1.alloc (.cells #[] 28)).ownsRow W1.heap.size 28 1 (.slice (some ⟨W1.heap.size, 0, none⟩) 0 0) 0 [] := own_lit (cs := #[]) rfl (Nat.le_refl _) rfl (by unfold maxLen; omega)
  have hba0 : Below W1.heap.size W1 (W1.alloc (.cells #[] 28)) := (Below.refl _ _).alloc (Nat.le_refl _) _
  have hRA := (HAL.out _ (by rw [HG.out] at hba0; exact hba0)).1
  have HRA := Lib.hid hRA
  clear hRA
  go_upto_region 4 with (at_builtin; refine wpList_app rfl (.tmp 24) (.tmp 25) 25 rfl W1.heap.size 28 i0 (.slice none 0 0) 24 Try.underlying25 hi hz0 hz1 hz2 rfl _ 0 [] rfl hown0 G (some ⟨gl, 0, none⟩) K cv (es.map BRow.val) rfl HRA.out (vals_one es) (by unfold maxLen; omega) (by omega) (by simp) ?_; intro v6 w6 hown6 hg6 hat6)
  have hb6 : Below W1.heap.size W1 w6 := below_app hba0 (by simp) hown0 (Nat.le_refl _) hg6
  rw [Nat.zero_add, List.nil_append] at hown6
  have hKpos := HQK.out
  obtain ⟨g6, c6, hv6, hg6b, _⟩ := hown6.form (by omega)
  subst hv6
  rw [HG.out] at hown6 hb6 hg6b
  have HO6 := Lib.hid hown6
  have HB6 := Lib.hid hb6
  have HG6 : Hid (G ≤ g6 ∧ g6 < w6.heap.size) := Lib.hid (hown6.lt g6 rfl)
  clear hown0 hba0 hown6 hg6 hat6 hb6 HRA hg6b
  obtain ⟨b, o, e6, r, hr, hcell, hrow⟩ := (HAL.out w6 HB6.out).at_ (k := Q) HQK.out
  injection e6 with e6
  injection e6 with e61 e62
  subst e61 e62
  rw [Nat.zero_add] at hcell
  have hrz := HES.out r (List.mem_of_getElem? hr)
  have HR := Lib.hid hr
  obtain ⟨rA, rn, rc, rl⟩ := r
  simp only at hrz hcell hrow
  subst rn
  have hown1 : (w6.alloc (.cells #[] 5)).ownsRow w6.heap.size 5 1 (.slice (some ⟨w6.heap.size, 0, none⟩) 0 0) 0 [] := own_lit (cs := #[]) rfl (Nat.le_refl _) rfl (by unfold maxLen; omega)
  have HROW := Lib.hid hrow
  have hGz : G ≤ w6.heap.size := Nat.le_of_lt (Nat.lt_of_le_of_lt HG6.out.1 HG6.out.2)
  have HRW := Lib.hid (hrow.alloc hGz (.cells #[] 5))
  have hQi : (Q : Int) < (K : Int) := by omega
  have hblt : gl < w6.heap.size := by have h1 := (HOWL.out.lt gl rfl).2; have h2 := HB6.out.size; omega
  have hz16 : Z ≤ 16 := by have := hF.out; omega
  clear hr hrow
  go_upto_region 5 with (first
    | (at_builtin; refine wpList_app rfl (.tmp 29) (.tmp 33) 28 rfl w6.heap.size 5 j0 (.int .u8 0) 1 Try.underlying28 hj hy0 hy1 hy2 rfl _ 0 [] rfl hown1 G rA Z rc (bv rl) rfl HRW.out (bv_one rl) (by unfold maxLen; omega) (by omega) (by simp) ?_; intro v7 w7 hown7 hg7 hat7; have HO7 := Lib.hid hown7; have HB7 : Hid (Below w6.heap.size w6 w7) := Lib.hid (below_app ((Below.refl w6.heap.size w6).alloc (Nat.le_refl _) (.cells #[] 5)) (by simp) hown1 (Nat.le_refl _) hg7); clear hown7 hg7 hat7 hown1)
    | (at_builtin; refine wpList_app rfl (.tmp 34) (.tmp 35) 28 rfl w6.heap.size 5 j0 (.int .u8 0) 1 Try.underlying28 hj hy0 hy1 hy2 rfl _ (0 + Z) ([] ++ bv rl) rfl (HO7.out.alloc _) _ _ 1 1 _ rfl (row_new w7 _ _ _) (by intro u hu; simp at hu; subst hu; rfl) (by unfold maxLen; omega) (by omega) (by have := HB7.out.size; simp; omega) ?_; intro v8 w8 hown8 hg8 hat8; rw [Nat.zero_add, List.nil_append] at hown8; have HO8 := Lib.hid hown8; have HB8 : Hid (Below w6.heap.size w6 w8) := Lib.hid (below_app (HB7.out.alloc HB7.out.size _) (by have := HB7.out.size; simp; omega) (HO7.out.alloc _) (Nat.le_refl _) hg8); have hfz := (own_below HO6.out HB8.out).frozenAt Q; have hu0 := ((own_below HO6.out HB8.out).cellAt Q (by have := HQK.out; omega)).trans (show (es.map BRow.val)[Q]? = some (BRow.val ⟨rA, Z, rc, rl⟩) by rw [List.getElem?_map, HR.out]; rfl); clear hown8 hg8 hat8; obtain ⟨A8, c8, rfl, _⟩ := own_slice HO8.out))
  have hst := ((own_below HO6.out HB8.out).stored Q (.slice A8 (Z + 1) c8)).1
  have hgr := grown_set1 w8 g6 Q (.slice A8 (Z + 1) c8)
  have hn8 : w8.ownsRow w6.heap.size 5 1 (.slice A8 (Z + 1) c8) (Z + 1) (bv (rl ++ [1])) := by
    have e : bv (rl ++ [1]) = bv rl ++ [Value.int .u8 1] := by simp [bv]
    rw [e]; exact HO8.out
  have hn9 := hn8.kept hgr (.inr (fun e => by have := (hn8.lt g6 e).1; have := HG6.out.2; omega))
  have hb9 : Below G W1 (w8.setCell ⟨g6, Q, none⟩ (.slice A8 (Z + 1) c8)) := (HB6.out.trans (HB8.out.mono hGz)).setCell HG6.out.1 _
  have hrb : Rows2 (w8.setCell ⟨g6, Q, none⟩ (.slice A8 (Z + 1) c8)) (w8.setCell ⟨g6, Q, none⟩ (.slice A8 (Z + 1) c8)).heap.size (some ⟨g6, 0, none⟩) K (es.set Q ⟨A8, Z + 1, c8, rl ++ [1]⟩) := by
    refine ⟨?_, fun q hq => ?_⟩
    · have := Row.of_own hst
      rw [← set_vals]
      exact this
    · rcases List.mem_or_eq_of_mem_set hq with h | h
      · exact ((HAL.out _ hb9).2 q h).more (by have := hb9.size; have := HG.out; omega)
      · rw [h]; exact Row.of_own hn9
  have HRB := Lib.hid hrb
  have HB9 := Lib.hid hb9
  have hfb : fitB K Z K (es.set Q ⟨A8, Z + 1, c8, rl ++ [1]⟩) = false := fitB_row (r := ⟨A8, Z + 1, c8, rl ++ [1]⟩) (List.mem_iff_getElem?.2 ⟨Q, by rw [List.getElem?_set, if_pos rfl, if_pos (List.getElem?_eq_some_iff.1 HR.out).1]⟩) (by simp)
  have HFB := Lib.hid hfb
  have HBL : Hid (∀ q ∈ es.set Q ⟨A8, Z + 1, c8, rl ++ [1]⟩, q.n ≤ 1000000) := Lib.hid fun q hq => by
    rcases List.mem_or_eq_of_mem_set hq with h | h
    · have := HES.out q h; omega
    · rw [h]; show Z + 1 ≤ 1000000; omega
  generalize es.set Q ⟨A8, Z + 1, c8, rl ++ [1]⟩ = eb at *
  clear hst hgr hn8 hn9 hrb hb9 hfb hfz hu0 hcell hblt HO6 HB6 HO7 HB7 HO8 HB8 HROW HRW HR hGz
  generalize w8.setCell ⟨g6, Q, none⟩ (.slice A8 (Z + 1) c8) = w9 at *
  obtain ⟨c0, c1, c2, c3⟩ := HBXW.out w9 HB9.out
  have hmk := fun W => mkNils K (by omega) W
  have hlw : w.heap.size < w9.heap.size := by have := HB9.out.size; have := HSL.out; omega
  have HZ0 : Hid (ZR K Z w9.heap.size w9.heap.size 0 (w9.alloc (.cells (Array.replicate K (.slice none 0 0)) 28)) ∧ Below w9.heap.size w9 (w9.alloc (.cells (Array.replicate K (.slice none 0 0)) 28))) := Lib.hid ⟨⟨[], rfl, fun r hr => (by cases hr), by
    have := own_lit (w := w9) (base := w9.heap.size) (g := w9.heap.size) (n := K) (e := 28) (Array.replicate K (.slice none 0 0)) rfl (Nat.le_refl _) (by simp) (by unfold maxLen; omega)
    simpa using this, fun r hr => (by cases hr)⟩, (Below.refl _ _).alloc (Nat.le_refl _) _⟩
  go_wp2_with fail
  clear hmk c0 c1 c2 c3
  go_loopw [43] (fun i wr => ∃ k : Nat, k ≤ K ∧ i = .int .i64 k ∧ Hid (ZR K Z w9.heap.size w9.heap.size k wr ∧ Below w9.heap.size w9 wr)) (fun i _ => K - (intOf i).toNat)
  case atStart => exact ⟨0, by omega, rfl, HZ0⟩
  case round =>
    obtain ⟨k, hk, rfl, hd⟩ := hrel
    clear HZ0
    obtain ⟨wq, rfl⟩ : ∃ wq : World, wq = wr := ⟨_, rfl⟩
    have hgz : w9.heap.size < wq.heap.size := by
      obtain ⟨zs, _, _, h3, _⟩ := hd.out.1
      exact (h3.lt w9.heap.size rfl).2
    by_cases hlt : k < K
    · obtain ⟨c0, c1, c2, c3⟩ := HBXW.out wq (HB9.out.trans (hd.out.2.mono (by have := HB9.out.size; have := HG.out; omega)))
      have hm2 := fun W => mk_bytes Z (by omega) W
      have hki : (k : Int) < (K : Int) := by omega
      have hba : Below wq.heap.size wq (wq.alloc (.cells (Array.replicate Z (.int .u8 0)) 5)) := (Below.refl _ _).alloc (Nat.le_refl _) _
      have hoz : (wq.alloc (.cells (Array.replicate Z (.int .u8 0)) 5)).ownsRow w9.heap.size 5 1 (.slice (some ⟨wq.heap.size, 0, none⟩) Z Z) Z (bv (List.replicate Z 0)) := by
        have := own_lit (w := wq) (base := w9.heap.size) (g := wq.heap.size) (n := Z) (e := 5) (Array.replicate Z (.int .u8 0)) rfl (by omega) (by simp) (by unfold maxLen; omega)
        simpa [bv] using this
      have hnx := hd.out.1.next hlt hba (by omega) hoz
      have hD : Hid (ZR K Z w9.heap.size w9.heap.size (k + 1) ((wq.alloc (.cells (Array.replicate Z (.int .u8 0)) 5)).setCell ⟨w9.heap.size, k, none⟩ (.slice (some ⟨wq.heap.size, 0, none⟩) Z Z)) ∧ Below w9.heap.size w9 ((wq.alloc (.cells (Array.replicate Z (.int .u8 0)) 5)).setCell ⟨w9.heap.size, k, none⟩ (.slice (some ⟨wq.heap.size, 0, none⟩) Z Z))) := Lib.hid ⟨hnx, (hd.out.2.trans (hba.mono hd.out.2.size)).setCell (Nat.le_refl _) _⟩
      have hfz : (wq.alloc (.cells (Array.replicate Z (.int .u8 0)) 5)).frozen? ⟨w9.heap.size, k, none⟩ = false := by
        obtain ⟨zs, _, _, h3, _⟩ := hd.out.1
        exact (own_below h3 hba).frozenAt k
      obtain ⟨u0, hu0⟩ : ∃ u, (wq.alloc (.cells (Array.replicate Z (.int .u8 0)) 5)).cell? ⟨w9.heap.size, k, none⟩ = some u := by
        obtain ⟨zs, h1, _, h3, _⟩ := hd.out.1
        exact ⟨_, ((own_below h3 hba).cellAt k (by omega)).trans (List.getElem?_eq_getElem (by simp; omega))⟩
      rw [World.setCell_alloc_past _ _ _ _ hgz] at hD
      clear hd hba hoz hnx
      go_wp2_with fail
      go_roundw
      case rel => exact ⟨k + 1, by omega, by go_num, hD⟩
      case measure => simp [intOf]; omega
    · obtain rfl : K = k := by omega
      clear hlt hk
      obtain ⟨zs, hzn, hzz, hzr, hzl⟩ := hd.out.1.rows
      have hF1 := hF.out
      have hP := pieces_yes s K P Z K wq.heap.size (some ⟨w9.heap.size, 0, none⟩) zs wq HS.out hF1.1 hF1.2.1 hF1.2.2 hzr (fun r hr => (hzz r hr).1) (Nat.le_refl _)
      rw [hzl] at hP
      unfold parV at hP
      have HP := Lib.hid hP
      obtain ⟨zb, zo, zr, ze, hzr0, hzk⟩ := rows2_at2 hzr (Nat.le_refl _) (k := 0) (by omega)
      have hzr1 := hzz zr (List.mem_of_getElem? hzr0)
      injection ze with ze
      injection ze with ze1 ze2
      subst ze1 ze2
      obtain ⟨zA, zn, zc, zl⟩ := zr
      obtain ⟨hzr2, hzr3⟩ := hzr1
      simp only at hzr2 hzr3 hzk
      subst zn zl
      have HZK := Lib.hid hzk
      have HBW := Lib.hid (HB9.out.trans (hd.out.2.mono (by have := HB9.out.size; have := HG.out; omega)))
      have HBT := Lib.hid hd.out.2
      obtain ⟨c0, c1, c2, c3⟩ := HBXW.out wq HBW.out
      clear hd hF1 hP hzr hzz hzl hzr0 hzk hzn
      go_wp2_with fail
      refine HP.out.mono ?_
      rintro e wz ⟨vz, rfl, hpz, hbz⟩
      obtain ⟨n, hn⟩ : ∃ n, K + P = n := ⟨_, rfl⟩
      obtain ⟨Az, cz, fz, hvz, hfz, hrz, _⟩ := hpz.out.rows
      rw [allP_length, List.length_replicate, hn] at hvz hrz
      subst hvz
      have HRZ := Lib.hid hrz
      have HFZ : Hid (∀ r ∈ fz, r.n = Z ∧ r.l = List.replicate Z 0) := Lib.hid fun r hr => by
        have h1 : r.l = List.replicate Z 0 := allP_zero s K Z P r.l (by rw [← hfz]; exact List.mem_map_of_mem hr)
        have h2 := (hrz.2 r hr).blen
        rw [h1] at h2
        exact ⟨by simpa using h2.symm, h1⟩
      have HBZ := Lib.hid (HBW.out.trans (hbz.out.mono (by have := HBW.out.size; have := HG.out; omega)))
      have HBQ := hbz
      have HNN := Lib.hid hn
      clear c0 c1 c2 c3
      obtain ⟨c0, c1, c2, c3⟩ := HBXW.out wz HBZ.out
      have hkp : IntKind.i64.wrap ((K : Int) + (P : Int)) = (n : Int) := by rw [show (K : Int) + (P : Int) = (n : Int) by omega]; exact IntWalk.i64_in _ (by have := hF.out; omega)
      have hnn : ((n : Int) != (n : Int)) = false := by simp
      have hp16 : (P : Int) ≤ 16 := by have := hF.out; omega
      clear hpz hfz hrz hbz hn HP
      go_wp2_with fail
      clear c0 c1 c2 c3 hkp hnn
      go_loopw [66] (fun i wr => ∃ k : Nat, k ≤ n ∧ i = .int .i64 k ∧ Hid (Below wz.heap.size wz wr)) (fun i _ => n - (intOf i).toNat)
      case atStart => exact ⟨0, by omega, rfl, Lib.hid (Below.refl _ _)⟩
      case round =>
        obtain ⟨k, hk, rfl, hbk⟩ := hrel
        obtain ⟨wy, rfl⟩ : ∃ wy : World, wy = wr := ⟨_, rfl⟩
        by_cases hlt : k < n
        · obtain ⟨b1, o1, r1, e1, hr1, hk1⟩ := rows2_at2 HRZ.out (Nat.le_refl _) (k := k) hlt
          subst e1
          obtain ⟨hz1', hz2'⟩ := HFZ.out r1 (List.mem_of_getElem? hr1)
          obtain ⟨A1, n1, q1, l1⟩ := r1
          simp only at hz1' hz2' hk1
          subst n1 l1
          obtain ⟨hc1, hw1⟩ := hk1 wy hbk.out
          obtain ⟨hc0, hw0⟩ := HZK.out wy (HBQ.out.trans (hbk.out.mono HBQ.out.size))
          have hk1' := run_string_row (P := Try.prog) (show Row wy.drew wz.heap.size A1 Z (bv (List.replicate Z 0)) from hw1) q1 28 9 5 Try.underlying28 Try.underlying5 Try.underlying9
          have hk0' := run_string_row (P := Try.prog) (show Row wy.drew wq.heap.size zA Z (bv (List.replicate Z 0)) from hw0) zc 28 9 5 Try.underlying28 Try.underlying5 Try.underlying9
          have hki : (k : Int) < (n : Int) := by omega
          have hn80 : (n : Int) ≤ 80 := by have := HNN.out; have := hF.out; omega
          have hk0i : (0 : Int) < (K : Int) := by omega
          rw [Nat.add_zero] at hc0
          clear hw1 hw0 hk1 hr1
          generalize List.replicate Z (0 : UInt8) = zs0 at *
          go_wp2_with fail
          go_region
          all_goals
            go_wp2_with fail
            go_roundw
            case rel => exact ⟨k + 1, by omega, by go_num, Lib.hid hbk.out.drew⟩
            case measure => simp [intOf]; omega
        · obtain rfl : n = k := by omega
          clear hlt hk
          have hB9Y : Below w9.heap.size w9 wy := HBT.out.trans ((HBQ.out.trans (hbk.out.mono HBQ.out.size)).mono HBT.out.size)
          have hBYG : Below G W1 wy := HBZ.out.trans (hbk.out.mono (by have := HBZ.out.size; have := HG.out; omega))
          have hF1 := hF.out
          have hGy : G ≤ wy.heap.size := by have := hBYG.size; have := HG.out; omega
          have HOLY := Lib.hid (fun W (hW : Below wy.heap.size wy W) => own_below (own_below HOWL.out (by rw [HG.out]; exact hBYG)) hW)
          have hN1 := fun W (hW : Below wy.heap.size wy W) => pieces_no s K P Z K c6 w9.heap.size (some ⟨g6, 0, none⟩) eb W hF1.1 hF1.2.1 hF1.2.2 (HRB.out.below (hB9Y.trans (hW.mono hB9Y.size))) (Nat.le_trans hB9Y.size hW.size) (by omega) HBL.out HFB.out
          have hN2 := fun W n A c (h : n ≠ K) => pieces_len s K P Z n c A W hF1.1 hF1.2.1 hF1.2.2 h
          have hN3 := fun W A c => pieces_len s K P Z (K + 1) c A W hF1.1 hF1.2.1 hF1.2.2 (by omega)
          unfold parV at hN1 hN2 hN3
          have HN1 := Lib.hid hN1
          have HN2 := Lib.hid hN2
          have HN3 := Lib.hid hN3
          have HBX := Lib.hid (fun W (hW : Below wy.heap.size wy W) => HBXW.out W (hBYG.trans (hW.mono hGy)))
          obtain ⟨b0, o0, r0, e0, hr0, hk0⟩ := rows2_at2 (HAL.out wy hBYG) hGy (k := 0) (by omega)
          injection e0 with e0
          injection e0 with e01 e02
          subst e01 e02
          obtain ⟨rA0, rn0, rc0, rl0⟩ := r0
          have HK0 := Lib.hid (fun W (hW : Below wy.heap.size wy W) => (hk0 W hW).1)
          have HBA2 := Lib.hid (HBA.out.trans (hBYG.mono (by have := HSL.out; have := HG.out; omega)))
          have HGL := Lib.hid (HOWL.out.lt gl rfl)
          have HVE := Lib.hid (vals_one es)
          have hgly : gl < wy.heap.size := by have h1 := HGL.out.2; have h2 := HG.out; omega
          obtain ⟨c0, c1, c2, c3⟩ := HBX.out wy (Below.refl _ _)
          have hK1 : (1 : Int) ≤ (K : Int) := by omega
          have hK1n : 1 ≤ K := by omega
          clear hB9Y hBYG hF1 hGy hN1 hN2 hN3 hr0 hk0 HRB HB9 HBT HBQ HBZ HRZ HFZ HZK hbk HAL HBXW HES HBL HFB
          obtain ⟨kk, rfl⟩ : ∃ k : Nat, k = K := ⟨K, rfl⟩
          go_upto_region 20 with fail
          clear c0 c1 c2 c3
          by_cases hcv : cv = 1
          · subst hcv
            refine wp_region_noPanic ?_
            refine wp_region_held_drew (S := (fun W => Below w.heap.size w W ∧ W.cell? ⟨w.heap.size, 0, none⟩ = some (.int .u32 (s : Int)) ∧ W.cell? ⟨w.heap.size, 1, none⟩ = some (.int .i64 (kk : Int)) ∧ W.cell? ⟨w.heap.size, 2, none⟩ = some (.int .i64 (P : Int)) ∧ W.cell? ⟨w.heap.size, 3, none⟩ = some (.int .i64 (Z : Int)))) (by kernel_rfl) ⟨HBA2.out.drew, HBX.out _ (Below.refl _ _).drew⟩ (fun hH0 => ?_)
            have hH0 : (fun W => Below w.heap.size w W ∧ W.cell? ⟨w.heap.size, 0, none⟩ = some (.int .u32 (s : Int)) ∧ W.cell? ⟨w.heap.size, 1, none⟩ = some (.int .i64 (kk : Int)) ∧ W.cell? ⟨w.heap.size, 2, none⟩ = some (.int .i64 (P : Int)) ∧ W.cell? ⟨w.heap.size, 3, none⟩ = some (.int .i64 (Z : Int))) wy.drew := hH0
            have HYD : Hid (Below wy.heap.size wy wy.drew) := Lib.hid (Below.refl _ _).drew
            generalize wy.drew = wd at *
            refine wpAnyH_take (i := 0) (oi := { dst := some 78, op := Op.load 24 (Operand.tmp 2), type := 24, pos := "more.go:29", after := #[], guard := none }) (v := ?tkv501) rfl (by kernel_rfl) (by kernel_rfl) (by kernel_rfl) (fun _ _ _ h => h) (Or.inl ⟨by rfl, ?tky501⟩) hH0 ?tkr501
            case tky501 => (intro w' hSw; have z0 := (fun (W : World) (h : W.cell? ⟨w.heap.size, 0, none⟩ = some (.int .u32 (s : Int))) => h) _ hSw.2.1; have z1 := (fun (W : World) (h : W.cell? ⟨w.heap.size, 1, none⟩ = some (.int .i64 (kk : Int))) => h) _ hSw.2.2.1; have z2 := (fun (W : World) (h : W.cell? ⟨w.heap.size, 2, none⟩ = some (.int .i64 (P : Int))) => h) _ hSw.2.2.2.1; have z3 := (fun (W : World) (h : W.cell? ⟨w.heap.size, 3, none⟩ = some (.int .i64 (Z : Int))) => h) _ hSw.2.2.2.2; clear hSw; go_simp; try with_reducible rfl)
            try simp only [Act.put, List.setIfInBounds_toArray, List.set_cons_zero, List.set_cons_succ]
            refine wpAnyH_take (i := 1) (oi := { dst := some 79, op := Op.move (Operand.tmp 6), type := 25, pos := "more.go:29", after := #[], guard := none }) (v := ?tkv502) rfl (by kernel_rfl) (by kernel_rfl) (by kernel_rfl) (fun _ _ _ h => h) (Or.inl ⟨by rfl, ?tky502⟩) hH0 ?tkr502
            case tky502 => (intro w' hSw; clear hSw; go_simp; try with_reducible rfl)
            try simp only [Act.put, List.setIfInBounds_toArray, List.set_cons_zero, List.set_cons_succ]
            refine wpAnyH_ready (rs := [2]) (by kernel_rfl) (by simp) ?_
            refine AllReadyH.cons (o := { dst := some 80, op := Op.call { callee := Callee.value (Operand.func 6), args := #[Operand.tmp 78, Operand.tmp 79], argTypes := #[24, 25] }, type := 25, pos := "more.go:29", after := #[{ on := 0, ground := Ground.data }, { on := 1, ground := Ground.data }], guard := none }) rfl (fun K hK => ?_) AllReadyH.nil
            go_simp
            with_reducible refine (HN1.out _ HYD.out).mono ?_
            rintro e wca ⟨rfl, hba⟩
            have HCa : Hid (Below wy.heap.size wy wca) := Lib.hid (HYD.out.trans (hba.out.mono HYD.out.size))
            have hla := HBA2.out.trans (HCa.out.mono HBA2.out.size)
            go_wp2_with fail
            have hS503 : (fun W => Below w.heap.size w W ∧ W.cell? ⟨w.heap.size, 0, none⟩ = some (.int .u32 (s : Int)) ∧ W.cell? ⟨w.heap.size, 1, none⟩ = some (.int .i64 (kk : Int)) ∧ W.cell? ⟨w.heap.size, 2, none⟩ = some (.int .i64 (P : Int)) ∧ W.cell? ⟨w.heap.size, 3, none⟩ = some (.int .i64 (Z : Int))) wca := ⟨hla, HBX.out _ HCa.out⟩
            refine hK.out _ _ hS503 (fun hH503 => ?_)
            clear hK K
            try simp only [Act.put, List.setIfInBounds_toArray, List.set_cons_zero, List.set_cons_succ]
            refine wpAnyH_take (i := 3) (oi := { dst := some 81, op := Op.call { callee := Callee.builtin Builtin.len, args := #[Operand.tmp 80], argTypes := #[25] }, type := 3, pos := "more.go:29", after := #[{ on := 2, ground := Ground.data }], guard := none }) (v := ?tkv504) rfl (by kernel_rfl) (by kernel_rfl) (by kernel_rfl) (fun _ _ _ h => h) (Or.inl ⟨by rfl, ?tky504⟩) hH503 ?tkr504
            case tky504 => (intro w' hSw; clear hSw; go_simp; try with_reducible rfl)
            try simp only [Act.put, List.setIfInBounds_toArray, List.set_cons_zero, List.set_cons_succ]
            refine wpAnyH_take (i := 4) (oi := { dst := some 82, op := Op.binOp BinOp.eql 3 (Operand.tmp 81) (Operand.const (Value.int IntKind.i64 0)) 3, type := 4, pos := "more.go:29", after := #[{ on := 3, ground := Ground.data }], guard := none }) (v := ?tkv505) rfl (by kernel_rfl) (by kernel_rfl) (by kernel_rfl) (fun _ _ _ h => h) (Or.inl ⟨by rfl, ?tky505⟩) hH503 ?tkr505
            case tky505 => (intro w' hSw; clear hSw; go_simp; try with_reducible rfl)
            try simp only [Act.put, List.setIfInBounds_toArray, List.set_cons_zero, List.set_cons_succ]
            refine wpAnyH_take (i := 5) (oi := { dst := some 83, op := Op.move (Operand.tmp 82), type := 4, pos := "more.go:29", after := #[{ on := 4, ground := Ground.data }, { on := 2, ground := Ground.chain }], guard := none }) (v := ?tkv506) rfl (by kernel_rfl) (by kernel_rfl) (by kernel_rfl) (fun _ _ _ h => h) (Or.inl ⟨by rfl, ?tky506⟩) hH503 ?tkr506
            case tky506 => (intro w' hSw; clear hSw; go_simp; try with_reducible rfl)
            try simp only [Act.put, List.setIfInBounds_toArray, List.set_cons_zero, List.set_cons_succ]
            refine wpAnyH_take (i := 6) (oi := { dst := some 84, op := Op.load 24 (Operand.tmp 2), type := 24, pos := "more.go:29", after := #[{ on := 5, ground := Ground.guard }], guard := some (5, true) }) (v := ?tkv507) rfl (by kernel_rfl) (by kernel_rfl) (by kernel_rfl) (fun _ _ _ h => h) (Or.inl ⟨by rfl, ?tky507⟩) hH503 ?tkr507
            case tky507 => (intro w' hSw; have z0 := (fun (W : World) (h : W.cell? ⟨w.heap.size, 0, none⟩ = some (.int .u32 (s : Int))) => h) _ hSw.2.1; have z1 := (fun (W : World) (h : W.cell? ⟨w.heap.size, 1, none⟩ = some (.int .i64 (kk : Int))) => h) _ hSw.2.2.1; have z2 := (fun (W : World) (h : W.cell? ⟨w.heap.size, 2, none⟩ = some (.int .i64 (P : Int))) => h) _ hSw.2.2.2.1; have z3 := (fun (W : World) (h : W.cell? ⟨w.heap.size, 3, none⟩ = some (.int .i64 (Z : Int))) => h) _ hSw.2.2.2.2; clear hSw; go_simp; try with_reducible rfl)
            try simp only [Act.put, List.setIfInBounds_toArray, List.set_cons_zero, List.set_cons_succ]
            refine wpAnyH_take (i := 7) (oi := { dst := some 85, op := Op.move (Operand.tmp 5), type := 25, pos := "more.go:29", after := #[{ on := 5, ground := Ground.guard }], guard := some (5, true) }) (v := ?tkv508) rfl (by kernel_rfl) (by kernel_rfl) (by kernel_rfl) (fun _ _ _ h => h) (Or.inl ⟨by rfl, ?tky508⟩) hH503 ?tkr508
            case tky508 => (intro w' hSw; clear hSw; go_simp; try with_reducible rfl)
            try simp only [Act.put, List.setIfInBounds_toArray, List.set_cons_zero, List.set_cons_succ]
            refine wpAnyH_take (i := 8) (oi := { dst := some 86, op := Op.slice 25 (Operand.tmp 85) (some (Operand.const (Value.int IntKind.i64 1))) none none, type := 25, pos := "more.go:29", after := #[{ on := 7, ground := Ground.data }, { on := 5, ground := Ground.guard }], guard := some (5, true) }) (v := ?tkv509) rfl (by kernel_rfl) (by kernel_rfl) (by kernel_rfl) (fun _ _ _ h => h) (Or.inl ⟨by rfl, ?tky509⟩) hH503 ?tkr509
            case tky509 => (intro w' hSw; have z0 := (fun (W : World) (h : W.cell? ⟨w.heap.size, 0, none⟩ = some (.int .u32 (s : Int))) => h) _ hSw.2.1; have z1 := (fun (W : World) (h : W.cell? ⟨w.heap.size, 1, none⟩ = some (.int .i64 (kk : Int))) => h) _ hSw.2.2.1; have z2 := (fun (W : World) (h : W.cell? ⟨w.heap.size, 2, none⟩ = some (.int .i64 (P : Int))) => h) _ hSw.2.2.2.1; have z3 := (fun (W : World) (h : W.cell? ⟨w.heap.size, 3, none⟩ = some (.int .i64 (Z : Int))) => h) _ hSw.2.2.2.2; clear hSw; go_simp; try with_reducible rfl)
            try simp only [Act.put, List.setIfInBounds_toArray, List.set_cons_zero, List.set_cons_succ]
            refine wpAnyH_ready (rs := [9]) (by kernel_rfl) (by simp) ?_
            refine AllReadyH.cons (o := { dst := some 87, op := Op.call { callee := Callee.value (Operand.func 6), args := #[Operand.tmp 84, Operand.tmp 86], argTypes := #[24, 25] }, type := 25, pos := "more.go:29", after := #[{ on := 6, ground := Ground.data }, { on := 8, ground := Ground.data }, { on := 5, ground := Ground.chain }, { on := 5, ground := Ground.guard }], guard := some (5, true) }) rfl (fun K hK => ?_) AllReadyH.nil
            go_simp
            with_reducible refine (HN2.out _ _ _ _ (by omega)).mono ?_
            rintro e wcb ⟨rfl, hbb⟩
            have HCb : Hid (Below wy.heap.size wy wcb) := Lib.hid (HCa.out.trans (hbb.out.mono HCa.out.size))
            have hlb := HBA2.out.trans (HCb.out.mono HBA2.out.size)
            go_wp2_with fail
            have hS510 : (fun W => Below w.heap.size w W ∧ W.cell? ⟨w.heap.size, 0, none⟩ = some (.int .u32 (s : Int)) ∧ W.cell? ⟨w.heap.size, 1, none⟩ = some (.int .i64 (kk : Int)) ∧ W.cell? ⟨w.heap.size, 2, none⟩ = some (.int .i64 (P : Int)) ∧ W.cell? ⟨w.heap.size, 3, none⟩ = some (.int .i64 (Z : Int))) wcb := ⟨hlb, HBX.out _ HCb.out⟩
            refine hK.out _ _ hS510 (fun hH510 => ?_)
            clear hK K
            try simp only [Act.put, List.setIfInBounds_toArray, List.set_cons_zero, List.set_cons_succ]
            refine wpAnyH_take (i := 10) (oi := { dst := some 88, op := Op.call { callee := Callee.builtin Builtin.len, args := #[Operand.tmp 87], argTypes := #[25] }, type := 3, pos := "more.go:29", after := #[{ on := 9, ground := Ground.data }, { on := 5, ground := Ground.guard }], guard := some (5, true) }) (v := ?tkv511) rfl (by kernel_rfl) (by kernel_rfl) (by kernel_rfl) (fun _ _ _ h => h) (Or.inl ⟨by rfl, ?tky511⟩) hH510 ?tkr511
            case tky511 => (intro w' hSw; clear hSw; go_simp; try with_reducible rfl)
            try simp only [Act.put, List.setIfInBounds_toArray, List.set_cons_zero, List.set_cons_succ]
            refine wpAnyH_take (i := 11) (oi := { dst := some 89, op := Op.binOp BinOp.eql 3 (Operand.tmp 88) (Operand.const (Value.int IntKind.i64 0)) 3, type := 4, pos := "more.go:29", after := #[{ on := 10, ground := Ground.data }, { on := 5, ground := Ground.guard }], guard := some (5, true) }) (v := ?tkv512) rfl (by kernel_rfl) (by kernel_rfl) (by kernel_rfl) (fun _ _ _ h => h) (Or.inl ⟨by rfl, ?tky512⟩) hH510 ?tkr512
            case tky512 => (intro w' hSw; clear hSw; go_simp; try with_reducible rfl)
            try simp only [Act.put, List.setIfInBounds_toArray, List.set_cons_zero, List.set_cons_succ]
            refine wpAnyH_take (i := 12) (oi := { dst := some 90, op := Op.pick (Operand.tmp 83) (Operand.tmp 89) (Operand.const (Value.bool false)), type := 4, pos := "more.go:29", after := #[{ on := 5, ground := Ground.data }, { on := 11, ground := Ground.data }], guard := none }) (v := ?tkv513) rfl (by kernel_rfl) (by kernel_rfl) (by kernel_rfl) (fun _ _ _ h => h) (Or.inl ⟨by rfl, ?tky513⟩) hH510 ?tkr513
            case tky513 => (intro w' hSw; clear hSw; go_simp; try with_reducible rfl)
            try simp only [Act.put, List.setIfInBounds_toArray, List.set_cons_zero, List.set_cons_succ]
            refine wpAnyH_take (i := 13) (oi := { dst := some 91, op := Op.move (Operand.tmp 90), type := 4, pos := "more.go:29", after := #[{ on := 12, ground := Ground.data }, { on := 9, ground := Ground.chain }], guard := none }) (v := ?tkv514) rfl (by kernel_rfl) (by kernel_rfl) (by kernel_rfl) (fun _ _ _ h => h) (Or.inl ⟨by rfl, ?tky514⟩) hH510 ?tkr514
            case tky514 => (intro w' hSw; clear hSw; go_simp; try with_reducible rfl)
            try simp only [Act.put, List.setIfInBounds_toArray, List.set_cons_zero, List.set_cons_succ]
            refine wpAnyH_take (i := 14) (oi := { dst := some 92, op := Op.load 24 (Operand.tmp 2), type := 24, pos := "more.go:29", after := #[{ on := 13, ground := Ground.guard }], guard := some (13, true) }) (v := ?tkv515) rfl (by kernel_rfl) (by kernel_rfl) (by kernel_rfl) (fun _ _ _ h => h) (Or.inl ⟨by rfl, ?tky515⟩) hH510 ?tkr515
            case tky515 => (intro w' hSw; have z0 := (fun (W : World) (h : W.cell? ⟨w.heap.size, 0, none⟩ = some (.int .u32 (s : Int))) => h) _ hSw.2.1; have z1 := (fun (W : World) (h : W.cell? ⟨w.heap.size, 1, none⟩ = some (.int .i64 (kk : Int))) => h) _ hSw.2.2.1; have z2 := (fun (W : World) (h : W.cell? ⟨w.heap.size, 2, none⟩ = some (.int .i64 (P : Int))) => h) _ hSw.2.2.2.1; have z3 := (fun (W : World) (h : W.cell? ⟨w.heap.size, 3, none⟩ = some (.int .i64 (Z : Int))) => h) _ hSw.2.2.2.2; clear hSw; go_simp; try with_reducible rfl)
            try simp only [Act.put, List.setIfInBounds_toArray, List.set_cons_zero, List.set_cons_succ]
            refine wpAnyH_take (i := 15) (oi := { dst := some 93, op := Op.move (Operand.tmp 6), type := 25, pos := "more.go:29", after := #[{ on := 13, ground := Ground.guard }], guard := some (13, true) }) (v := ?tkv516) rfl (by kernel_rfl) (by kernel_rfl) (by kernel_rfl) (fun _ _ _ h => h) (Or.inl ⟨by rfl, ?tky516⟩) hH510 ?tkr516
            case tky516 => (intro w' hSw; clear hSw; go_simp; try with_reducible rfl)
            try simp only [Act.put, List.setIfInBounds_toArray, List.set_cons_zero, List.set_cons_succ]
            refine wpAnyH_take (i := 16) (oi := { dst := some 94, op := Op.slice 25 (Operand.tmp 93) none (some (Operand.const (Value.int IntKind.i64 0))) (some (Operand.const (Value.int IntKind.i64 0))), type := 25, pos := "more.go:29", after := #[{ on := 15, ground := Ground.data }, { on := 13, ground := Ground.guard }], guard := some (13, true) }) (v := ?tkv517) rfl (by kernel_rfl) (by kernel_rfl) (by kernel_rfl) (fun _ _ _ h => h) (Or.inl ⟨by rfl, ?tky517⟩) hH510 ?tkr517
            case tky517 => (intro w' hSw; have z0 := (fun (W : World) (h : W.cell? ⟨w.heap.size, 0, none⟩ = some (.int .u32 (s : Int))) => h) _ hSw.2.1; have z1 := (fun (W : World) (h : W.cell? ⟨w.heap.size, 1, none⟩ = some (.int .i64 (kk : Int))) => h) _ hSw.2.2.1; have z2 := (fun (W : World) (h : W.cell? ⟨w.heap.size, 2, none⟩ = some (.int .i64 (P : Int))) => h) _ hSw.2.2.2.1; have z3 := (fun (W : World) (h : W.cell? ⟨w.heap.size, 3, none⟩ = some (.int .i64 (Z : Int))) => h) _ hSw.2.2.2.2; clear hSw; go_simp; try with_reducible rfl)
            try simp only [Act.put, List.setIfInBounds_toArray, List.set_cons_zero, List.set_cons_succ]
            refine wpAnyH_take (i := 17) (oi := { dst := some 95, op := Op.move (Operand.tmp 5), type := 25, pos := "more.go:29", after := #[{ on := 13, ground := Ground.guard }], guard := some (13, true) }) (v := ?tkv518) rfl (by kernel_rfl) (by kernel_rfl) (by kernel_rfl) (fun _ _ _ h => h) (Or.inl ⟨by rfl, ?tky518⟩) hH510 ?tkr518
            case tky518 => (intro w' hSw; clear hSw; go_simp; try with_reducible rfl)
            try simp only [Act.put, List.setIfInBounds_toArray, List.set_cons_zero, List.set_cons_succ]
            refine wpAnyH_take (i := 18) (oi := { dst := some 96, op := Op.move (Operand.tmp 5), type := 25, pos := "more.go:29", after := #[{ on := 13, ground := Ground.guard }], guard := some (13, true) }) (v := ?tkv519) rfl (by kernel_rfl) (by kernel_rfl) (by kernel_rfl) (fun _ _ _ h => h) (Or.inl ⟨by rfl, ?tky519⟩) hH510 ?tkr519
            case tky519 => (intro w' hSw; clear hSw; go_simp; try with_reducible rfl)
            try simp only [Act.put, List.setIfInBounds_toArray, List.set_cons_zero, List.set_cons_succ]
            refine wpAnyH_take (i := 19) (oi := { dst := some 97, op := Op.indexAddr 25 (Operand.tmp 96) (Operand.const (Value.int IntKind.i64 0)), type := 0, pos := "more.go:29", after := #[{ on := 18, ground := Ground.data }, { on := 13, ground := Ground.guard }], guard := some (13, true) }) (v := ?tkv520) rfl (by kernel_rfl) (by kernel_rfl) (by kernel_rfl) (fun _ _ _ h => h) (Or.inl ⟨by rfl, ?tky520⟩) hH510 ?tkr520
            case tky520 => (intro w' hSw; clear hSw; go_simp; try with_reducible rfl)
            try simp only [Act.put, List.setIfInBounds_toArray, List.set_cons_zero, List.set_cons_succ]
            refine wpAnyH_ready (rs := [20]) (by kernel_rfl) (by simp) ?_
            refine AllReadyH.cons (o := { dst := some 98, op := Op.load 28 (Operand.tmp 97), type := 28, pos := "more.go:29", after := #[{ on := 19, ground := Ground.data }, { on := 13, ground := Ground.guard }], guard := some (13, true) }) rfl (fun K hK => ?_) AllReadyH.nil
            have k0 := HK0.out _ HCb.out
            have hgl2 : gl < wcb.heap.size := by have := HCb.out.size; omega
            go_simp
            have hS521 : (fun W => Below w.heap.size w W ∧ W.cell? ⟨w.heap.size, 0, none⟩ = some (.int .u32 (s : Int)) ∧ W.cell? ⟨w.heap.size, 1, none⟩ = some (.int .i64 (kk : Int)) ∧ W.cell? ⟨w.heap.size, 2, none⟩ = some (.int .i64 (P : Int)) ∧ W.cell? ⟨w.heap.size, 3, none⟩ = some (.int .i64 (Z : Int))) wcb := ⟨hH510.1, hH510.2.1, hH510.2.2.1, hH510.2.2.2.1, hH510.2.2.2.2⟩
            refine hK.out _ _ hS521 (fun hH521 => ?_)
            clear hK K
            try simp only [Act.put, List.setIfInBounds_toArray, List.set_cons_zero, List.set_cons_succ]
            refine wpAnyH_ready (rs := [21]) (by kernel_rfl) (by simp) ?_
            refine AllReadyH.cons (o := { dst := some 99, op := Op.buildSlice 25 1 #[(0, Operand.tmp 98)], type := 25, pos := "more.go:29", after := #[{ on := 20, ground := Ground.data }, { on := 13, ground := Ground.guard }], guard := some (13, true) }) rfl (fun K hK => ?_) AllReadyH.nil
            go_simp
            obtain ⟨wd2, hwd2⟩ : ∃ w', w' = wcb.alloc (.cells #[.slice rA0 rn0 rc0] 28) := ⟨_, rfl⟩
            have HCd : Hid (Below wy.heap.size wy wd2) := by rw [hwd2]; exact Lib.hid (HCb.out.alloc HCb.out.size _)
            have HRD : Hid (Row wd2 (wcb.heap.size + 1) (some ⟨wcb.heap.size, 0, none⟩) 1 [.slice rA0 rn0 rc0]) := by rw [hwd2]; exact Lib.hid (row_new wcb #[.slice rA0 rn0 rc0] 28 (0, 0))
            have hld := HBA2.out.trans (HCd.out.mono HBA2.out.size)
            rw [← hwd2]
            clear hwd2
            have hS522 : (fun W => Below w.heap.size w W ∧ W.cell? ⟨w.heap.size, 0, none⟩ = some (.int .u32 (s : Int)) ∧ W.cell? ⟨w.heap.size, 1, none⟩ = some (.int .i64 (kk : Int)) ∧ W.cell? ⟨w.heap.size, 2, none⟩ = some (.int .i64 (P : Int)) ∧ W.cell? ⟨w.heap.size, 3, none⟩ = some (.int .i64 (Z : Int))) wd2 := ⟨hld, HBX.out _ HCd.out⟩
            refine hK.out _ _ hS522 (fun hH522 => ?_)
            clear hK K
            try simp only [Act.put, List.setIfInBounds_toArray, List.set_cons_zero, List.set_cons_succ]
            refine wpAnyH_ready (rs := [22]) (by kernel_rfl) (by simp) ?_
            refine AllReadyH.cons (o := { dst := some 100, op := Op.call { callee := Callee.builtin Builtin.append, args := #[Operand.tmp 95, Operand.tmp 99], argTypes := #[25, 25] }, type := 25, pos := "more.go:29", after := #[{ on := 17, ground := Ground.data }, { on := 21, ground := Ground.data }, { on := 13, ground := Ground.chain }, { on := 13, ground := Ground.guard }], guard := some (13, true) }) rfl (fun K hK => ?_) AllReadyH.nil
            rw [if_pos (by rfl)]
            refine wp_app (.tmp 95) (.tmp 99) 25 rfl (w.heap.size + 1) 28 i0 (.slice none 0 0) 24 Try.underlying25 hi hz0 hz1 hz2 rfl _ kk _ rfl (HOLY.out _ HCd.out) _ _ 1 1 _ rfl HRD.out (by intro u hu; simp at hu; subst hu; rfl) (by unfold maxLen; omega) (by omega) (by have := hld.size; have := HCd.out.size; omega) ?_
            intro v3 w3 hown3 hg3 hat3
            have hle3 : Below w.heap.size w w3 := hld.grown hg3 hld.size (by intro r hr; have hr2 : some gl = some r := hr; injection hr2 with hr2; have := HGL.out.1; omega)
            have hcel : ∀ i v, wd2.cell? ⟨w.heap.size, i, none⟩ = some v → w3.cell? ⟨w.heap.size, i, none⟩ = some v := fun i v hv => hg3.cell (a := ⟨w.heap.size, i, none⟩) hv (fun e => by have e2 : some w.heap.size = some gl := e; injection e2 with e2; have := HGL.out.1; omega)
            obtain ⟨d0, d1, d2, d3⟩ := HBX.out _ HCd.out
            have e0 := hcel 0 _ d0
            have e1 := hcel 1 _ d1
            have e2 := hcel 2 _ d2
            have e3 := hcel 3 _ d3
            obtain ⟨g3, c3', hv3, _, _⟩ := hown3.form (by omega)
            subst hv3
            have HO3 := Lib.hid hown3
            clear d0 d1 d2 d3 hcel hown3 hg3 hat3
            have hS523 : (fun W => Below w.heap.size w W ∧ W.cell? ⟨w.heap.size, 0, none⟩ = some (.int .u32 (s : Int)) ∧ W.cell? ⟨w.heap.size, 1, none⟩ = some (.int .i64 (kk : Int)) ∧ W.cell? ⟨w.heap.size, 2, none⟩ = some (.int .i64 (P : Int)) ∧ W.cell? ⟨w.heap.size, 3, none⟩ = some (.int .i64 (Z : Int))) w3 := ⟨hle3, e0, e1, e2, e3⟩
            refine hK.out _ _ hS523 (fun hH523 => ?_)
            clear hK K
            try simp only [Act.put, List.setIfInBounds_toArray, List.set_cons_zero, List.set_cons_succ]
            refine wpAnyH_ready (rs := [23]) (by kernel_rfl) (by simp) ?_
            refine AllReadyH.cons (o := { dst := some 101, op := Op.call { callee := Callee.builtin Builtin.append, args := #[Operand.tmp 94, Operand.tmp 100], argTypes := #[25, 25] }, type := 25, pos := "more.go:29", after := #[{ on := 16, ground := Ground.data }, { on := 22, ground := Ground.data }, { on := 22, ground := Ground.chain }, { on := 13, ground := Ground.guard }], guard := some (13, true) }) rfl (fun K hK => ?_) AllReadyH.nil
            refine step_app0 (by rfl) (.tmp 94) (.tmp 100) 25 rfl 28 i0 (.slice none 0 0) 24 Try.underlying25 hi hz0 hz1 hz2 rfl _ rfl _ g3 (kk + 1) c3' _ rfl (Row.of_own HO3.out) (fun u hu => by rcases List.mem_append.1 hu with h | h; exact HVE.out u h; rw [List.mem_singleton.1 h]; rfl) (by omega) (by unfold maxLen; omega) (by omega) ?_
            intro v4 w4 hown4 hb4
            obtain ⟨A4, c4, rfl, _⟩ := own_slice hown4
            have hle4 := hle3.trans (hb4.mono hle3.size)
            have hlw3 : w.heap.size < w3.heap.size := World.block_lt_of_cell? w3 ⟨w.heap.size, 0, none⟩ e0
            have k0' := (hb4.cell (p := ⟨w.heap.size, 0, none⟩) hlw3).trans e0
            have k1' := (hb4.cell (p := ⟨w.heap.size, 1, none⟩) hlw3).trans e1
            have k2' := (hb4.cell (p := ⟨w.heap.size, 2, none⟩) hlw3).trans e2
            have k3' := (hb4.cell (p := ⟨w.heap.size, 3, none⟩) hlw3).trans e3
            clear hown4
            have hS524 : (fun W => Below w.heap.size w W ∧ W.cell? ⟨w.heap.size, 0, none⟩ = some (.int .u32 (s : Int)) ∧ W.cell? ⟨w.heap.size, 1, none⟩ = some (.int .i64 (kk : Int)) ∧ W.cell? ⟨w.heap.size, 2, none⟩ = some (.int .i64 (P : Int)) ∧ W.cell? ⟨w.heap.size, 3, none⟩ = some (.int .i64 (Z : Int))) w4 := ⟨hle4, k0', k1', k2', k3'⟩
            refine hK.out _ _ hS524 (fun hH524 => ?_)
            clear hK K
            try simp only [Act.put, List.setIfInBounds_toArray, List.set_cons_zero, List.set_cons_succ]
            refine wpAnyH_ready (rs := [24]) (by kernel_rfl) (by simp) ?_
            refine AllReadyH.cons (o := { dst := some 102, op := Op.call { callee := Callee.value (Operand.func 6), args := #[Operand.tmp 92, Operand.tmp 101], argTypes := #[24, 25] }, type := 25, pos := "more.go:29", after := #[{ on := 14, ground := Ground.data }, { on := 23, ground := Ground.data }, { on := 23, ground := Ground.chain }, { on := 13, ground := Ground.guard }], guard := some (13, true) }) rfl (fun K hK => ?_) AllReadyH.nil
            go_simp
            with_reducible refine (HN3.out _ _ _).mono ?_
            rintro e wex ⟨rfl, hbx⟩
            have hlex := (hH524.1).trans (hbx.out.mono (hH524.1).size)
            have hlwx : w.heap.size < w4.heap.size := World.block_lt_of_cell? _ ⟨w.heap.size, 0, none⟩ (hH524.2.1)
            have mx0 := (hbx.out.cell (p := ⟨w.heap.size, 0, none⟩) hlwx).trans (hH524.2.1)
            have mx1 := (hbx.out.cell (p := ⟨w.heap.size, 1, none⟩) hlwx).trans (hH524.2.2.1)
            have mx2 := (hbx.out.cell (p := ⟨w.heap.size, 2, none⟩) hlwx).trans (hH524.2.2.2.1)
            have mx3 := (hbx.out.cell (p := ⟨w.heap.size, 3, none⟩) hlwx).trans (hH524.2.2.2.2)
            go_wp2_with fail
            have hS525 : (fun W => Below w.heap.size w W ∧ W.cell? ⟨w.heap.size, 0, none⟩ = some (.int .u32 (s : Int)) ∧ W.cell? ⟨w.heap.size, 1, none⟩ = some (.int .i64 (kk : Int)) ∧ W.cell? ⟨w.heap.size, 2, none⟩ = some (.int .i64 (P : Int)) ∧ W.cell? ⟨w.heap.size, 3, none⟩ = some (.int .i64 (Z : Int))) wex := ⟨hlex, mx0, mx1, mx2, mx3⟩
            refine hK.out _ _ hS525 (fun hH525 => ?_)
            clear hK K
            try simp only [Act.put, List.setIfInBounds_toArray, List.set_cons_zero, List.set_cons_succ]
            refine wpAnyH_take (i := 25) (oi := { dst := some 103, op := Op.call { callee := Callee.builtin Builtin.len, args := #[Operand.tmp 102], argTypes := #[25] }, type := 3, pos := "more.go:29", after := #[{ on := 24, ground := Ground.data }, { on := 13, ground := Ground.guard }], guard := some (13, true) }) (v := ?tkv526) rfl (by kernel_rfl) (by kernel_rfl) (by kernel_rfl) (fun _ _ _ h => h) (Or.inl ⟨by rfl, ?tky526⟩) hH525 ?tkr526
            case tky526 => (intro w' hSw; clear hSw; go_simp; try with_reducible rfl)
            try simp only [Act.put, List.setIfInBounds_toArray, List.set_cons_zero, List.set_cons_succ]
            refine wpAnyH_take (i := 26) (oi := { dst := some 104, op := Op.binOp BinOp.eql 3 (Operand.tmp 103) (Operand.const (Value.int IntKind.i64 0)) 3, type := 4, pos := "more.go:29", after := #[{ on := 25, ground := Ground.data }, { on := 13, ground := Ground.guard }], guard := some (13, true) }) (v := ?tkv527) rfl (by kernel_rfl) (by kernel_rfl) (by kernel_rfl) (fun _ _ _ h => h) (Or.inl ⟨by rfl, ?tky527⟩) hH525 ?tkr527
            case tky527 => (intro w' hSw; clear hSw; go_simp; try with_reducible rfl)
            try simp only [Act.put, List.setIfInBounds_toArray, List.set_cons_zero, List.set_cons_succ]
            refine wpAnyH_take (i := 27) (oi := { dst := some 105, op := Op.pick (Operand.tmp 91) (Operand.tmp 104) (Operand.const (Value.bool false)), type := 4, pos := "more.go:29", after := #[{ on := 13, ground := Ground.data }, { on := 26, ground := Ground.data }], guard := none }) (v := ?tkv528) rfl (by kernel_rfl) (by kernel_rfl) (by kernel_rfl) (fun _ _ _ h => h) (Or.inl ⟨by rfl, ?tky528⟩) hH525 ?tkr528
            case tky528 => (intro w' hSw; clear hSw; go_simp; try with_reducible rfl)
            try simp only [Act.put, List.setIfInBounds_toArray, List.set_cons_zero, List.set_cons_succ]
            refine wpAnyH_take (i := 28) (oi := { dst := some 106, op := Op.move (Operand.tmp 105), type := 4, pos := "more.go:29", after := #[{ on := 27, ground := Ground.data }, { on := 24, ground := Ground.chain }], guard := none }) (v := ?tkv529) rfl (by kernel_rfl) (by kernel_rfl) (by kernel_rfl) (fun _ _ _ h => h) (Or.inl ⟨by rfl, ?tky529⟩) hH525 ?tkr529
            case tky529 => (intro w' hSw; clear hSw; go_simp; try with_reducible rfl)
            try simp only [Act.put, List.setIfInBounds_toArray, List.set_cons_zero, List.set_cons_succ]
            refine wpAnyH_ready (rs := [29]) (by kernel_rfl) (by simp) ?_
            refine AllReadyH.cons (o := { dst := some 107, op := Op.call { callee := Callee.value (Operand.func 7), args := #[], argTypes := #[] }, type := 4, pos := "more.go:29", after := #[{ on := 28, ground := Ground.chain }, { on := 28, ground := Ground.guard }], guard := some (28, true) }) rfl (fun K hK => ?_) AllReadyH.nil
            go_simp
            with_reducible refine (awake9_any _).mono ?_
            rintro e wez ⟨rfl, hbz⟩
            have hlez := (hH525.1).trans (hbz.out.mono (hH525.1).size)
            have hlwz : w.heap.size < wex.heap.size := World.block_lt_of_cell? _ ⟨w.heap.size, 0, none⟩ (hH525.2.1)
            have mz0 := (hbz.out.cell (p := ⟨w.heap.size, 0, none⟩) hlwz).trans (hH525.2.1)
            have mz1 := (hbz.out.cell (p := ⟨w.heap.size, 1, none⟩) hlwz).trans (hH525.2.2.1)
            have mz2 := (hbz.out.cell (p := ⟨w.heap.size, 2, none⟩) hlwz).trans (hH525.2.2.2.1)
            have mz3 := (hbz.out.cell (p := ⟨w.heap.size, 3, none⟩) hlwz).trans (hH525.2.2.2.2)
            go_wp2_with fail
            have hS530 : (fun W => Below w.heap.size w W ∧ W.cell? ⟨w.heap.size, 0, none⟩ = some (.int .u32 (s : Int)) ∧ W.cell? ⟨w.heap.size, 1, none⟩ = some (.int .i64 (kk : Int)) ∧ W.cell? ⟨w.heap.size, 2, none⟩ = some (.int .i64 (P : Int)) ∧ W.cell? ⟨w.heap.size, 3, none⟩ = some (.int .i64 (Z : Int))) wez := ⟨hlez, mz0, mz1, mz2, mz3⟩
            refine hK.out _ _ hS530 (fun hH530 => ?_)
            clear hK K
            try simp only [Act.put, List.setIfInBounds_toArray, List.set_cons_zero, List.set_cons_succ]
            refine wpAnyH_take (i := 30) (oi := { dst := some 108, op := Op.pick (Operand.tmp 106) (Operand.tmp 107) (Operand.const (Value.bool false)), type := 4, pos := "more.go:29", after := #[{ on := 28, ground := Ground.data }, { on := 29, ground := Ground.data }], guard := none }) (v := ?tkv531) rfl (by kernel_rfl) (by kernel_rfl) (by kernel_rfl) (fun _ _ _ h => h) (Or.inl ⟨by rfl, ?tky531⟩) hH530 ?tkr531
            case tky531 => (intro w' hSw; clear hSw; go_simp; try with_reducible rfl)
            try simp only [Act.put, List.setIfInBounds_toArray, List.set_cons_zero, List.set_cons_succ]
            refine wpAnyH_take (i := 31) (oi := { dst := some 4, op := Op.assign (Operand.tmp 108), type := 4, pos := "more.go:29", after := #[{ on := 30, ground := Ground.data }, { on := 29, ground := Ground.chain }, { on := 0, ground := Ground.phase }, { on := 1, ground := Ground.phase }, { on := 2, ground := Ground.phase }, { on := 3, ground := Ground.phase }, { on := 4, ground := Ground.phase }, { on := 5, ground := Ground.phase }, { on := 6, ground := Ground.phase }, { on := 7, ground := Ground.phase }, { on := 8, ground := Ground.phase }, { on := 9, ground := Ground.phase }, { on := 10, ground := Ground.phase }, { on := 11, ground := Ground.phase }, { on := 12, ground := Ground.phase }, { on := 13, ground := Ground.phase }, { on := 14, ground := Ground.phase }, { on := 15, ground := Ground.phase }, { on := 16, ground := Ground.phase }, { on := 17, ground := Ground.phase }, { on := 18, ground := Ground.phase }, { on := 19, ground := Ground.phase }, { on := 20, ground := Ground.phase }, { on := 21, ground := Ground.phase }, { on := 22, ground := Ground.phase }, { on := 23, ground := Ground.phase }, { on := 24, ground := Ground.phase }, { on := 25, ground := Ground.phase }, { on := 26, ground := Ground.phase }, { on := 27, ground := Ground.phase }, { on := 28, ground := Ground.phase }, { on := 29, ground := Ground.phase }, { on := 30, ground := Ground.phase }], guard := none }) (v := ?tkv532) rfl (by kernel_rfl) (by kernel_rfl) (by kernel_rfl) (fun _ _ _ h => h) (Or.inl ⟨by rfl, ?tky532⟩) hH530 ?tkr532
            case tky532 => (intro w' hSw; clear hSw; go_simp; try with_reducible rfl)
            try simp only [Act.put, List.setIfInBounds_toArray, List.set_cons_zero, List.set_cons_succ]
            refine wpAnyH_done (by kernel_rfl) ?_ _
            refine NoPanic.normal ?_
            have hEnd : Below w.heap.size w _ := hH530.1
            go_wp2_with fail
            go_ret
            exact ⟨rfl, hEnd⟩
          · have hcv2 : ¬ (cv : Int) = 1 := by omega
            refine wp_region_noPanic ?_
            refine wp_region_held_drew (S := (fun W => Below w.heap.size w W ∧ W.cell? ⟨w.heap.size, 0, none⟩ = some (.int .u32 (s : Int)) ∧ W.cell? ⟨w.heap.size, 1, none⟩ = some (.int .i64 (kk : Int)) ∧ W.cell? ⟨w.heap.size, 2, none⟩ = some (.int .i64 (P : Int)) ∧ W.cell? ⟨w.heap.size, 3, none⟩ = some (.int .i64 (Z : Int)))) (by kernel_rfl) ⟨HBA2.out.drew, HBX.out _ (Below.refl _ _).drew⟩ (fun hH0 => ?_)
            have hH0 : (fun W => Below w.heap.size w W ∧ W.cell? ⟨w.heap.size, 0, none⟩ = some (.int .u32 (s : Int)) ∧ W.cell? ⟨w.heap.size, 1, none⟩ = some (.int .i64 (kk : Int)) ∧ W.cell? ⟨w.heap.size, 2, none⟩ = some (.int .i64 (P : Int)) ∧ W.cell? ⟨w.heap.size, 3, none⟩ = some (.int .i64 (Z : Int))) wy.drew := hH0
            have HYD : Hid (Below wy.heap.size wy wy.drew) := Lib.hid (Below.refl _ _).drew
            generalize wy.drew = wd at *
            refine wpAnyH_take (i := 0) (oi := { dst := some 78, op := Op.load 24 (Operand.tmp 2), type := 24, pos := "more.go:29", after := #[], guard := none }) (v := ?tkv701) rfl (by kernel_rfl) (by kernel_rfl) (by kernel_rfl) (fun _ _ _ h => h) (Or.inl ⟨by rfl, ?tky701⟩) hH0 ?tkr701
            case tky701 => (intro w' hSw; have z0 := (fun (W : World) (h : W.cell? ⟨w.heap.size, 0, none⟩ = some (.int .u32 (s : Int))) => h) _ hSw.2.1; have z1 := (fun (W : World) (h : W.cell? ⟨w.heap.size, 1, none⟩ = some (.int .i64 (kk : Int))) => h) _ hSw.2.2.1; have z2 := (fun (W : World) (h : W.cell? ⟨w.heap.size, 2, none⟩ = some (.int .i64 (P : Int))) => h) _ hSw.2.2.2.1; have z3 := (fun (W : World) (h : W.cell? ⟨w.heap.size, 3, none⟩ = some (.int .i64 (Z : Int))) => h) _ hSw.2.2.2.2; clear hSw; go_simp; try with_reducible rfl)
            try simp only [Act.put, List.setIfInBounds_toArray, List.set_cons_zero, List.set_cons_succ]
            refine wpAnyH_take (i := 1) (oi := { dst := some 79, op := Op.move (Operand.tmp 6), type := 25, pos := "more.go:29", after := #[], guard := none }) (v := ?tkv702) rfl (by kernel_rfl) (by kernel_rfl) (by kernel_rfl) (fun _ _ _ h => h) (Or.inl ⟨by rfl, ?tky702⟩) hH0 ?tkr702
            case tky702 => (intro w' hSw; clear hSw; go_simp; try with_reducible rfl)
            try simp only [Act.put, List.setIfInBounds_toArray, List.set_cons_zero, List.set_cons_succ]
            refine wpAnyH_ready (rs := [2]) (by kernel_rfl) (by simp) ?_
            refine AllReadyH.cons (o := { dst := some 80, op := Op.call { callee := Callee.value (Operand.func 6), args := #[Operand.tmp 78, Operand.tmp 79], argTypes := #[24, 25] }, type := 25, pos := "more.go:29", after := #[{ on := 0, ground := Ground.data }, { on := 1, ground := Ground.data }], guard := none }) rfl (fun K hK => ?_) AllReadyH.nil
            go_simp
            with_reducible refine (HN1.out _ HYD.out).mono ?_
            rintro e wca ⟨rfl, hba⟩
            have HCa : Hid (Below wy.heap.size wy wca) := Lib.hid (HYD.out.trans (hba.out.mono HYD.out.size))
            have hla := HBA2.out.trans (HCa.out.mono HBA2.out.size)
            go_wp2_with fail
            have hS703 : (fun W => Below w.heap.size w W ∧ W.cell? ⟨w.heap.size, 0, none⟩ = some (.int .u32 (s : Int)) ∧ W.cell? ⟨w.heap.size, 1, none⟩ = some (.int .i64 (kk : Int)) ∧ W.cell? ⟨w.heap.size, 2, none⟩ = some (.int .i64 (P : Int)) ∧ W.cell? ⟨w.heap.size, 3, none⟩ = some (.int .i64 (Z : Int))) wca := ⟨hla, HBX.out _ HCa.out⟩
            refine hK.out _ _ hS703 (fun hH703 => ?_)
            clear hK K
            try simp only [Act.put, List.setIfInBounds_toArray, List.set_cons_zero, List.set_cons_succ]
            refine wpAnyH_take (i := 3) (oi := { dst := some 81, op := Op.call { callee := Callee.builtin Builtin.len, args := #[Operand.tmp 80], argTypes := #[25] }, type := 3, pos := "more.go:29", after := #[{ on := 2, ground := Ground.data }], guard := none }) (v := ?tkv704) rfl (by kernel_rfl) (by kernel_rfl) (by kernel_rfl) (fun _ _ _ h => h) (Or.inl ⟨by rfl, ?tky704⟩) hH703 ?tkr704
            case tky704 => (intro w' hSw; clear hSw; go_simp; try with_reducible rfl)
            try simp only [Act.put, List.setIfInBounds_toArray, List.set_cons_zero, List.set_cons_succ]
            refine wpAnyH_take (i := 4) (oi := { dst := some 82, op := Op.binOp BinOp.eql 3 (Operand.tmp 81) (Operand.const (Value.int IntKind.i64 0)) 3, type := 4, pos := "more.go:29", after := #[{ on := 3, ground := Ground.data }], guard := none }) (v := ?tkv705) rfl (by kernel_rfl) (by kernel_rfl) (by kernel_rfl) (fun _ _ _ h => h) (Or.inl ⟨by rfl, ?tky705⟩) hH703 ?tkr705
            case tky705 => (intro w' hSw; clear hSw; go_simp; try with_reducible rfl)
            try simp only [Act.put, List.setIfInBounds_toArray, List.set_cons_zero, List.set_cons_succ]
            refine wpAnyH_take (i := 5) (oi := { dst := some 83, op := Op.move (Operand.tmp 82), type := 4, pos := "more.go:29", after := #[{ on := 4, ground := Ground.data }, { on := 2, ground := Ground.chain }], guard := none }) (v := ?tkv706) rfl (by kernel_rfl) (by kernel_rfl) (by kernel_rfl) (fun _ _ _ h => h) (Or.inl ⟨by rfl, ?tky706⟩) hH703 ?tkr706
            case tky706 => (intro w' hSw; clear hSw; go_simp; try with_reducible rfl)
            try simp only [Act.put, List.setIfInBounds_toArray, List.set_cons_zero, List.set_cons_succ]
            refine wpAnyH_take (i := 6) (oi := { dst := some 84, op := Op.load 24 (Operand.tmp 2), type := 24, pos := "more.go:29", after := #[{ on := 5, ground := Ground.guard }], guard := some (5, true) }) (v := ?tkv707) rfl (by kernel_rfl) (by kernel_rfl) (by kernel_rfl) (fun _ _ _ h => h) (Or.inl ⟨by rfl, ?tky707⟩) hH703 ?tkr707
            case tky707 => (intro w' hSw; have z0 := (fun (W : World) (h : W.cell? ⟨w.heap.size, 0, none⟩ = some (.int .u32 (s : Int))) => h) _ hSw.2.1; have z1 := (fun (W : World) (h : W.cell? ⟨w.heap.size, 1, none⟩ = some (.int .i64 (kk : Int))) => h) _ hSw.2.2.1; have z2 := (fun (W : World) (h : W.cell? ⟨w.heap.size, 2, none⟩ = some (.int .i64 (P : Int))) => h) _ hSw.2.2.2.1; have z3 := (fun (W : World) (h : W.cell? ⟨w.heap.size, 3, none⟩ = some (.int .i64 (Z : Int))) => h) _ hSw.2.2.2.2; clear hSw; go_simp; try with_reducible rfl)
            try simp only [Act.put, List.setIfInBounds_toArray, List.set_cons_zero, List.set_cons_succ]
            refine wpAnyH_take (i := 7) (oi := { dst := some 85, op := Op.move (Operand.tmp 5), type := 25, pos := "more.go:29", after := #[{ on := 5, ground := Ground.guard }], guard := some (5, true) }) (v := ?tkv708) rfl (by kernel_rfl) (by kernel_rfl) (by kernel_rfl) (fun _ _ _ h => h) (Or.inl ⟨by rfl, ?tky708⟩) hH703 ?tkr708
            case tky708 => (intro w' hSw; clear hSw; go_simp; try with_reducible rfl)
            try simp only [Act.put, List.setIfInBounds_toArray, List.set_cons_zero, List.set_cons_succ]
            refine wpAnyH_take (i := 8) (oi := { dst := some 86, op := Op.slice 25 (Operand.tmp 85) (some (Operand.const (Value.int IntKind.i64 1))) none none, type := 25, pos := "more.go:29", after := #[{ on := 7, ground := Ground.data }, { on := 5, ground := Ground.guard }], guard := some (5, true) }) (v := ?tkv709) rfl (by kernel_rfl) (by kernel_rfl) (by kernel_rfl) (fun _ _ _ h => h) (Or.inl ⟨by rfl, ?tky709⟩) hH703 ?tkr709
            case tky709 => (intro w' hSw; have z0 := (fun (W : World) (h : W.cell? ⟨w.heap.size, 0, none⟩ = some (.int .u32 (s : Int))) => h) _ hSw.2.1; have z1 := (fun (W : World) (h : W.cell? ⟨w.heap.size, 1, none⟩ = some (.int .i64 (kk : Int))) => h) _ hSw.2.2.1; have z2 := (fun (W : World) (h : W.cell? ⟨w.heap.size, 2, none⟩ = some (.int .i64 (P : Int))) => h) _ hSw.2.2.2.1; have z3 := (fun (W : World) (h : W.cell? ⟨w.heap.size, 3, none⟩ = some (.int .i64 (Z : Int))) => h) _ hSw.2.2.2.2; clear hSw; go_simp; try with_reducible rfl)
            try simp only [Act.put, List.setIfInBounds_toArray, List.set_cons_zero, List.set_cons_succ]
            refine wpAnyH_ready (rs := [9]) (by kernel_rfl) (by simp) ?_
            refine AllReadyH.cons (o := { dst := some 87, op := Op.call { callee := Callee.value (Operand.func 6), args := #[Operand.tmp 84, Operand.tmp 86], argTypes := #[24, 25] }, type := 25, pos := "more.go:29", after := #[{ on := 6, ground := Ground.data }, { on := 8, ground := Ground.data }, { on := 5, ground := Ground.chain }, { on := 5, ground := Ground.guard }], guard := some (5, true) }) rfl (fun K hK => ?_) AllReadyH.nil
            go_simp
            with_reducible refine (HN2.out _ _ _ _ (by omega)).mono ?_
            rintro e wcb ⟨rfl, hbb⟩
            have HCb : Hid (Below wy.heap.size wy wcb) := Lib.hid (HCa.out.trans (hbb.out.mono HCa.out.size))
            have hlb := HBA2.out.trans (HCb.out.mono HBA2.out.size)
            go_wp2_with fail
            have hS710 : (fun W => Below w.heap.size w W ∧ W.cell? ⟨w.heap.size, 0, none⟩ = some (.int .u32 (s : Int)) ∧ W.cell? ⟨w.heap.size, 1, none⟩ = some (.int .i64 (kk : Int)) ∧ W.cell? ⟨w.heap.size, 2, none⟩ = some (.int .i64 (P : Int)) ∧ W.cell? ⟨w.heap.size, 3, none⟩ = some (.int .i64 (Z : Int))) wcb := ⟨hlb, HBX.out _ HCb.out⟩
            refine hK.out _ _ hS710 (fun hH710 => ?_)
            clear hK K
            try simp only [Act.put, List.setIfInBounds_toArray, List.set_cons_zero, List.set_cons_succ]
            refine wpAnyH_take (i := 10) (oi := { dst := some 88, op := Op.call { callee := Callee.builtin Builtin.len, args := #[Operand.tmp 87], argTypes := #[25] }, type := 3, pos := "more.go:29", after := #[{ on := 9, ground := Ground.data }, { on := 5, ground := Ground.guard }], guard := some (5, true) }) (v := ?tkv711) rfl (by kernel_rfl) (by kernel_rfl) (by kernel_rfl) (fun _ _ _ h => h) (Or.inl ⟨by rfl, ?tky711⟩) hH710 ?tkr711
            case tky711 => (intro w' hSw; clear hSw; go_simp; try with_reducible rfl)
            try simp only [Act.put, List.setIfInBounds_toArray, List.set_cons_zero, List.set_cons_succ]
            refine wpAnyH_take (i := 11) (oi := { dst := some 89, op := Op.binOp BinOp.eql 3 (Operand.tmp 88) (Operand.const (Value.int IntKind.i64 0)) 3, type := 4, pos := "more.go:29", after := #[{ on := 10, ground := Ground.data }, { on := 5, ground := Ground.guard }], guard := some (5, true) }) (v := ?tkv712) rfl (by kernel_rfl) (by kernel_rfl) (by kernel_rfl) (fun _ _ _ h => h) (Or.inl ⟨by rfl, ?tky712⟩) hH710 ?tkr712
            case tky712 => (intro w' hSw; clear hSw; go_simp; try with_reducible rfl)
            try simp only [Act.put, List.setIfInBounds_toArray, List.set_cons_zero, List.set_cons_succ]
            refine wpAnyH_take (i := 12) (oi := { dst := some 90, op := Op.pick (Operand.tmp 83) (Operand.tmp 89) (Operand.const (Value.bool false)), type := 4, pos := "more.go:29", after := #[{ on := 5, ground := Ground.data }, { on := 11, ground := Ground.data }], guard := none }) (v := ?tkv713) rfl (by kernel_rfl) (by kernel_rfl) (by kernel_rfl) (fun _ _ _ h => h) (Or.inl ⟨by rfl, ?tky713⟩) hH710 ?tkr713
            case tky713 => (intro w' hSw; clear hSw; go_simp; try with_reducible rfl)
            try simp only [Act.put, List.setIfInBounds_toArray, List.set_cons_zero, List.set_cons_succ]
            refine wpAnyH_take (i := 13) (oi := { dst := some 91, op := Op.move (Operand.tmp 90), type := 4, pos := "more.go:29", after := #[{ on := 12, ground := Ground.data }, { on := 9, ground := Ground.chain }], guard := none }) (v := ?tkv714) rfl (by kernel_rfl) (by kernel_rfl) (by kernel_rfl) (fun _ _ _ h => h) (Or.inl ⟨by rfl, ?tky714⟩) hH710 ?tkr714
            case tky714 => (intro w' hSw; clear hSw; go_simp; try with_reducible rfl)
            try simp only [Act.put, List.setIfInBounds_toArray, List.set_cons_zero, List.set_cons_succ]
            refine wpAnyH_take (i := 14) (oi := { dst := some 92, op := Op.load 24 (Operand.tmp 2), type := 24, pos := "more.go:29", after := #[{ on := 13, ground := Ground.guard }], guard := some (13, true) }) (v := ?tkv715) rfl (by kernel_rfl) (by kernel_rfl) (by kernel_rfl) (fun _ _ _ h => h) (Or.inl ⟨by rfl, ?tky715⟩) hH710 ?tkr715
            case tky715 => (intro w' hSw; have z0 := (fun (W : World) (h : W.cell? ⟨w.heap.size, 0, none⟩ = some (.int .u32 (s : Int))) => h) _ hSw.2.1; have z1 := (fun (W : World) (h : W.cell? ⟨w.heap.size, 1, none⟩ = some (.int .i64 (kk : Int))) => h) _ hSw.2.2.1; have z2 := (fun (W : World) (h : W.cell? ⟨w.heap.size, 2, none⟩ = some (.int .i64 (P : Int))) => h) _ hSw.2.2.2.1; have z3 := (fun (W : World) (h : W.cell? ⟨w.heap.size, 3, none⟩ = some (.int .i64 (Z : Int))) => h) _ hSw.2.2.2.2; clear hSw; go_simp; try with_reducible rfl)
            try simp only [Act.put, List.setIfInBounds_toArray, List.set_cons_zero, List.set_cons_succ]
            refine wpAnyH_take (i := 15) (oi := { dst := some 93, op := Op.move (Operand.tmp 6), type := 25, pos := "more.go:29", after := #[{ on := 13, ground := Ground.guard }], guard := some (13, true) }) (v := ?tkv716) rfl (by kernel_rfl) (by kernel_rfl) (by kernel_rfl) (fun _ _ _ h => h) (Or.inl ⟨by rfl, ?tky716⟩) hH710 ?tkr716
            case tky716 => (intro w' hSw; clear hSw; go_simp; try with_reducible rfl)
            try simp only [Act.put, List.setIfInBounds_toArray, List.set_cons_zero, List.set_cons_succ]
            refine wpAnyH_take (i := 16) (oi := { dst := some 94, op := Op.slice 25 (Operand.tmp 93) none (some (Operand.const (Value.int IntKind.i64 0))) (some (Operand.const (Value.int IntKind.i64 0))), type := 25, pos := "more.go:29", after := #[{ on := 15, ground := Ground.data }, { on := 13, ground := Ground.guard }], guard := some (13, true) }) (v := ?tkv717) rfl (by kernel_rfl) (by kernel_rfl) (by kernel_rfl) (fun _ _ _ h => h) (Or.inl ⟨by rfl, ?tky717⟩) hH710 ?tkr717
            case tky717 => (intro w' hSw; have z0 := (fun (W : World) (h : W.cell? ⟨w.heap.size, 0, none⟩ = some (.int .u32 (s : Int))) => h) _ hSw.2.1; have z1 := (fun (W : World) (h : W.cell? ⟨w.heap.size, 1, none⟩ = some (.int .i64 (kk : Int))) => h) _ hSw.2.2.1; have z2 := (fun (W : World) (h : W.cell? ⟨w.heap.size, 2, none⟩ = some (.int .i64 (P : Int))) => h) _ hSw.2.2.2.1; have z3 := (fun (W : World) (h : W.cell? ⟨w.heap.size, 3, none⟩ = some (.int .i64 (Z : Int))) => h) _ hSw.2.2.2.2; clear hSw; go_simp; try with_reducible rfl)
            try simp only [Act.put, List.setIfInBounds_toArray, List.set_cons_zero, List.set_cons_succ]
            refine wpAnyH_take (i := 17) (oi := { dst := some 95, op := Op.move (Operand.tmp 5), type := 25, pos := "more.go:29", after := #[{ on := 13, ground := Ground.guard }], guard := some (13, true) }) (v := ?tkv718) rfl (by kernel_rfl) (by kernel_rfl) (by kernel_rfl) (fun _ _ _ h => h) (Or.inl ⟨by rfl, ?tky718⟩) hH710 ?tkr718
            case tky718 => (intro w' hSw; clear hSw; go_simp; try with_reducible rfl)
            try simp only [Act.put, List.setIfInBounds_toArray, List.set_cons_zero, List.set_cons_succ]
            refine wpAnyH_take (i := 18) (oi := { dst := some 96, op := Op.move (Operand.tmp 5), type := 25, pos := "more.go:29", after := #[{ on := 13, ground := Ground.guard }], guard := some (13, true) }) (v := ?tkv719) rfl (by kernel_rfl) (by kernel_rfl) (by kernel_rfl) (fun _ _ _ h => h) (Or.inl ⟨by rfl, ?tky719⟩) hH710 ?tkr719
            case tky719 => (intro w' hSw; clear hSw; go_simp; try with_reducible rfl)
            try simp only [Act.put, List.setIfInBounds_toArray, List.set_cons_zero, List.set_cons_succ]
            refine wpAnyH_take (i := 19) (oi := { dst := some 97, op := Op.indexAddr 25 (Operand.tmp 96) (Operand.const (Value.int IntKind.i64 0)), type := 0, pos := "more.go:29", after := #[{ on := 18, ground := Ground.data }, { on := 13, ground := Ground.guard }], guard := some (13, true) }) (v := ?tkv720) rfl (by kernel_rfl) (by kernel_rfl) (by kernel_rfl) (fun _ _ _ h => h) (Or.inl ⟨by rfl, ?tky720⟩) hH710 ?tkr720
            case tky720 => (intro w' hSw; clear hSw; go_simp; try with_reducible rfl)
            try simp only [Act.put, List.setIfInBounds_toArray, List.set_cons_zero, List.set_cons_succ]
            refine wpAnyH_ready (rs := [20]) (by kernel_rfl) (by simp) ?_
            refine AllReadyH.cons (o := { dst := some 98, op := Op.load 28 (Operand.tmp 97), type := 28, pos := "more.go:29", after := #[{ on := 19, ground := Ground.data }, { on := 13, ground := Ground.guard }], guard := some (13, true) }) rfl (fun K hK => ?_) AllReadyH.nil
            have k0 := HK0.out _ HCb.out
            have hgl2 : gl < wcb.heap.size := by have := HCb.out.size; omega
            go_simp
            have hS721 : (fun W => Below w.heap.size w W ∧ W.cell? ⟨w.heap.size, 0, none⟩ = some (.int .u32 (s : Int)) ∧ W.cell? ⟨w.heap.size, 1, none⟩ = some (.int .i64 (kk : Int)) ∧ W.cell? ⟨w.heap.size, 2, none⟩ = some (.int .i64 (P : Int)) ∧ W.cell? ⟨w.heap.size, 3, none⟩ = some (.int .i64 (Z : Int))) wcb := ⟨hH710.1, hH710.2.1, hH710.2.2.1, hH710.2.2.2.1, hH710.2.2.2.2⟩
            refine hK.out _ _ hS721 (fun hH721 => ?_)
            clear hK K
            try simp only [Act.put, List.setIfInBounds_toArray, List.set_cons_zero, List.set_cons_succ]
            refine wpAnyH_ready (rs := [21]) (by kernel_rfl) (by simp) ?_
            refine AllReadyH.cons (o := { dst := some 99, op := Op.buildSlice 25 1 #[(0, Operand.tmp 98)], type := 25, pos := "more.go:29", after := #[{ on := 20, ground := Ground.data }, { on := 13, ground := Ground.guard }], guard := some (13, true) }) rfl (fun K hK => ?_) AllReadyH.nil
            go_simp
            obtain ⟨wd2, hwd2⟩ : ∃ w', w' = wcb.alloc (.cells #[.slice rA0 rn0 rc0] 28) := ⟨_, rfl⟩
            have HCd : Hid (Below wy.heap.size wy wd2) := by rw [hwd2]; exact Lib.hid (HCb.out.alloc HCb.out.size _)
            have HRD : Hid (Row wd2 (wcb.heap.size + 1) (some ⟨wcb.heap.size, 0, none⟩) 1 [.slice rA0 rn0 rc0]) := by rw [hwd2]; exact Lib.hid (row_new wcb #[.slice rA0 rn0 rc0] 28 (0, 0))
            have hld := HBA2.out.trans (HCd.out.mono HBA2.out.size)
            rw [← hwd2]
            clear hwd2
            have hS722 : (fun W => Below w.heap.size w W ∧ W.cell? ⟨w.heap.size, 0, none⟩ = some (.int .u32 (s : Int)) ∧ W.cell? ⟨w.heap.size, 1, none⟩ = some (.int .i64 (kk : Int)) ∧ W.cell? ⟨w.heap.size, 2, none⟩ = some (.int .i64 (P : Int)) ∧ W.cell? ⟨w.heap.size, 3, none⟩ = some (.int .i64 (Z : Int))) wd2 := ⟨hld, HBX.out _ HCd.out⟩
            refine hK.out _ _ hS722 (fun hH722 => ?_)
            clear hK K
            try simp only [Act.put, List.setIfInBounds_toArray, List.set_cons_zero, List.set_cons_succ]
            refine wpAnyH_ready (rs := [22]) (by kernel_rfl) (by simp) ?_
            refine AllReadyH.cons (o := { dst := some 100, op := Op.call { callee := Callee.builtin Builtin.append, args := #[Operand.tmp 95, Operand.tmp 99], argTypes := #[25, 25] }, type := 25, pos := "more.go:29", after := #[{ on := 17, ground := Ground.data }, { on := 21, ground := Ground.data }, { on := 13, ground := Ground.chain }, { on := 13, ground := Ground.guard }], guard := some (13, true) }) rfl (fun K hK => ?_) AllReadyH.nil
            rw [if_pos (by rfl)]
            refine wp_app (.tmp 95) (.tmp 99) 25 rfl (w.heap.size + 1) 28 i0 (.slice none 0 0) 24 Try.underlying25 hi hz0 hz1 hz2 rfl _ kk _ rfl (HOLY.out _ HCd.out) _ _ 1 1 _ rfl HRD.out (by intro u hu; simp at hu; subst hu; rfl) (by unfold maxLen; omega) (by omega) (by have := hld.size; have := HCd.out.size; omega) ?_
            intro v3 w3 hown3 hg3 hat3
            have hle3 : Below w.heap.size w w3 := hld.grown hg3 hld.size (by intro r hr; have hr2 : some gl = some r := hr; injection hr2 with hr2; have := HGL.out.1; omega)
            have hcel : ∀ i v, wd2.cell? ⟨w.heap.size, i, none⟩ = some v → w3.cell? ⟨w.heap.size, i, none⟩ = some v := fun i v hv => hg3.cell (a := ⟨w.heap.size, i, none⟩) hv (fun e => by have e2 : some w.heap.size = some gl := e; injection e2 with e2; have := HGL.out.1; omega)
            obtain ⟨d0, d1, d2, d3⟩ := HBX.out _ HCd.out
            have e0 := hcel 0 _ d0
            have e1 := hcel 1 _ d1
            have e2 := hcel 2 _ d2
            have e3 := hcel 3 _ d3
            obtain ⟨g3, c3', hv3, _, _⟩ := hown3.form (by omega)
            subst hv3
            have HO3 := Lib.hid hown3
            clear d0 d1 d2 d3 hcel hown3 hg3 hat3
            have hS723 : (fun W => Below w.heap.size w W ∧ W.cell? ⟨w.heap.size, 0, none⟩ = some (.int .u32 (s : Int)) ∧ W.cell? ⟨w.heap.size, 1, none⟩ = some (.int .i64 (kk : Int)) ∧ W.cell? ⟨w.heap.size, 2, none⟩ = some (.int .i64 (P : Int)) ∧ W.cell? ⟨w.heap.size, 3, none⟩ = some (.int .i64 (Z : Int))) w3 := ⟨hle3, e0, e1, e2, e3⟩
            refine hK.out _ _ hS723 (fun hH723 => ?_)
            clear hK K
            try simp only [Act.put, List.setIfInBounds_toArray, List.set_cons_zero, List.set_cons_succ]
            refine wpAnyH_ready (rs := [23]) (by kernel_rfl) (by simp) ?_
            refine AllReadyH.cons (o := { dst := some 101, op := Op.call { callee := Callee.builtin Builtin.append, args := #[Operand.tmp 94, Operand.tmp 100], argTypes := #[25, 25] }, type := 25, pos := "more.go:29", after := #[{ on := 16, ground := Ground.data }, { on := 22, ground := Ground.data }, { on := 22, ground := Ground.chain }, { on := 13, ground := Ground.guard }], guard := some (13, true) }) rfl (fun K hK => ?_) AllReadyH.nil
            refine step_app0 (by rfl) (.tmp 94) (.tmp 100) 25 rfl 28 i0 (.slice none 0 0) 24 Try.underlying25 hi hz0 hz1 hz2 rfl _ rfl _ g3 (kk + 1) c3' _ rfl (Row.of_own HO3.out) (fun u hu => by rcases List.mem_append.1 hu with h | h; exact HVE.out u h; rw [List.mem_singleton.1 h]; rfl) (by omega) (by unfold maxLen; omega) (by omega) ?_
            intro v4 w4 hown4 hb4
            obtain ⟨A4, c4, rfl, _⟩ := own_slice hown4
            have hle4 := hle3.trans (hb4.mono hle3.size)
            have hlw3 : w.heap.size < w3.heap.size := World.block_lt_of_cell? w3 ⟨w.heap.size, 0, none⟩ e0
            have k0' := (hb4.cell (p := ⟨w.heap.size, 0, none⟩) hlw3).trans e0
            have k1' := (hb4.cell (p := ⟨w.heap.size, 1, none⟩) hlw3).trans e1
            have k2' := (hb4.cell (p := ⟨w.heap.size, 2, none⟩) hlw3).trans e2
            have k3' := (hb4.cell (p := ⟨w.heap.size, 3, none⟩) hlw3).trans e3
            clear hown4
            have hS724 : (fun W => Below w.heap.size w W ∧ W.cell? ⟨w.heap.size, 0, none⟩ = some (.int .u32 (s : Int)) ∧ W.cell? ⟨w.heap.size, 1, none⟩ = some (.int .i64 (kk : Int)) ∧ W.cell? ⟨w.heap.size, 2, none⟩ = some (.int .i64 (P : Int)) ∧ W.cell? ⟨w.heap.size, 3, none⟩ = some (.int .i64 (Z : Int))) w4 := ⟨hle4, k0', k1', k2', k3'⟩
            refine hK.out _ _ hS724 (fun hH724 => ?_)
            clear hK K
            try simp only [Act.put, List.setIfInBounds_toArray, List.set_cons_zero, List.set_cons_succ]
            refine wpAnyH_ready (rs := [24]) (by kernel_rfl) (by simp) ?_
            refine AllReadyH.cons (o := { dst := some 102, op := Op.call { callee := Callee.value (Operand.func 6), args := #[Operand.tmp 92, Operand.tmp 101], argTypes := #[24, 25] }, type := 25, pos := "more.go:29", after := #[{ on := 14, ground := Ground.data }, { on := 23, ground := Ground.data }, { on := 23, ground := Ground.chain }, { on := 13, ground := Ground.guard }], guard := some (13, true) }) rfl (fun K hK => ?_) AllReadyH.nil
            go_simp
            with_reducible refine (HN3.out _ _ _).mono ?_
            rintro e wex ⟨rfl, hbx⟩
            have hlex := (hH724.1).trans (hbx.out.mono (hH724.1).size)
            have hlwx : w.heap.size < w4.heap.size := World.block_lt_of_cell? _ ⟨w.heap.size, 0, none⟩ (hH724.2.1)
            have mx0 := (hbx.out.cell (p := ⟨w.heap.size, 0, none⟩) hlwx).trans (hH724.2.1)
            have mx1 := (hbx.out.cell (p := ⟨w.heap.size, 1, none⟩) hlwx).trans (hH724.2.2.1)
            have mx2 := (hbx.out.cell (p := ⟨w.heap.size, 2, none⟩) hlwx).trans (hH724.2.2.2.1)
            have mx3 := (hbx.out.cell (p := ⟨w.heap.size, 3, none⟩) hlwx).trans (hH724.2.2.2.2)
            go_wp2_with fail
            have hS725 : (fun W => Below w.heap.size w W ∧ W.cell? ⟨w.heap.size, 0, none⟩ = some (.int .u32 (s : Int)) ∧ W.cell? ⟨w.heap.size, 1, none⟩ = some (.int .i64 (kk : Int)) ∧ W.cell? ⟨w.heap.size, 2, none⟩ = some (.int .i64 (P : Int)) ∧ W.cell? ⟨w.heap.size, 3, none⟩ = some (.int .i64 (Z : Int))) wex := ⟨hlex, mx0, mx1, mx2, mx3⟩
            refine hK.out _ _ hS725 (fun hH725 => ?_)
            clear hK K
            try simp only [Act.put, List.setIfInBounds_toArray, List.set_cons_zero, List.set_cons_succ]
            refine wpAnyH_take (i := 25) (oi := { dst := some 103, op := Op.call { callee := Callee.builtin Builtin.len, args := #[Operand.tmp 102], argTypes := #[25] }, type := 3, pos := "more.go:29", after := #[{ on := 24, ground := Ground.data }, { on := 13, ground := Ground.guard }], guard := some (13, true) }) (v := ?tkv726) rfl (by kernel_rfl) (by kernel_rfl) (by kernel_rfl) (fun _ _ _ h => h) (Or.inl ⟨by rfl, ?tky726⟩) hH725 ?tkr726
            case tky726 => (intro w' hSw; clear hSw; go_simp; try with_reducible rfl)
            try simp only [Act.put, List.setIfInBounds_toArray, List.set_cons_zero, List.set_cons_succ]
            refine wpAnyH_take (i := 26) (oi := { dst := some 104, op := Op.binOp BinOp.eql 3 (Operand.tmp 103) (Operand.const (Value.int IntKind.i64 0)) 3, type := 4, pos := "more.go:29", after := #[{ on := 25, ground := Ground.data }, { on := 13, ground := Ground.guard }], guard := some (13, true) }) (v := ?tkv727) rfl (by kernel_rfl) (by kernel_rfl) (by kernel_rfl) (fun _ _ _ h => h) (Or.inl ⟨by rfl, ?tky727⟩) hH725 ?tkr727
            case tky727 => (intro w' hSw; clear hSw; go_simp; try with_reducible rfl)
            try simp only [Act.put, List.setIfInBounds_toArray, List.set_cons_zero, List.set_cons_succ]
            refine wpAnyH_take (i := 27) (oi := { dst := some 105, op := Op.pick (Operand.tmp 91) (Operand.tmp 104) (Operand.const (Value.bool false)), type := 4, pos := "more.go:29", after := #[{ on := 13, ground := Ground.data }, { on := 26, ground := Ground.data }], guard := none }) (v := ?tkv728) rfl (by kernel_rfl) (by kernel_rfl) (by kernel_rfl) (fun _ _ _ h => h) (Or.inl ⟨by rfl, ?tky728⟩) hH725 ?tkr728
            case tky728 => (intro w' hSw; clear hSw; go_simp; try with_reducible rfl)
            try simp only [Act.put, List.setIfInBounds_toArray, List.set_cons_zero, List.set_cons_succ]
            refine wpAnyH_take (i := 28) (oi := { dst := some 106, op := Op.move (Operand.tmp 105), type := 4, pos := "more.go:29", after := #[{ on := 27, ground := Ground.data }, { on := 24, ground := Ground.chain }], guard := none }) (v := ?tkv729) rfl (by kernel_rfl) (by kernel_rfl) (by kernel_rfl) (fun _ _ _ h => h) (Or.inl ⟨by rfl, ?tky729⟩) hH725 ?tkr729
            case tky729 => (intro w' hSw; clear hSw; go_simp; try with_reducible rfl)
            try simp only [Act.put, List.setIfInBounds_toArray, List.set_cons_zero, List.set_cons_succ]
            refine wpAnyH_ready (rs := [29]) (by kernel_rfl) (by simp) ?_
            refine AllReadyH.cons (o := { dst := some 107, op := Op.call { callee := Callee.value (Operand.func 7), args := #[], argTypes := #[] }, type := 4, pos := "more.go:29", after := #[{ on := 28, ground := Ground.chain }, { on := 28, ground := Ground.guard }], guard := some (28, true) }) rfl (fun K hK => ?_) AllReadyH.nil
            go_simp
            with_reducible refine (awake9_any _).mono ?_
            rintro e wez ⟨rfl, hbz⟩
            have hlez := (hH725.1).trans (hbz.out.mono (hH725.1).size)
            have hlwz : w.heap.size < wex.heap.size := World.block_lt_of_cell? _ ⟨w.heap.size, 0, none⟩ (hH725.2.1)
            have mz0 := (hbz.out.cell (p := ⟨w.heap.size, 0, none⟩) hlwz).trans (hH725.2.1)
            have mz1 := (hbz.out.cell (p := ⟨w.heap.size, 1, none⟩) hlwz).trans (hH725.2.2.1)
            have mz2 := (hbz.out.cell (p := ⟨w.heap.size, 2, none⟩) hlwz).trans (hH725.2.2.2.1)
            have mz3 := (hbz.out.cell (p := ⟨w.heap.size, 3, none⟩) hlwz).trans (hH725.2.2.2.2)
            go_wp2_with fail
            have hS730 : (fun W => Below w.heap.size w W ∧ W.cell? ⟨w.heap.size, 0, none⟩ = some (.int .u32 (s : Int)) ∧ W.cell? ⟨w.heap.size, 1, none⟩ = some (.int .i64 (kk : Int)) ∧ W.cell? ⟨w.heap.size, 2, none⟩ = some (.int .i64 (P : Int)) ∧ W.cell? ⟨w.heap.size, 3, none⟩ = some (.int .i64 (Z : Int))) wez := ⟨hlez, mz0, mz1, mz2, mz3⟩
            refine hK.out _ _ hS730 (fun hH730 => ?_)
            clear hK K
            try simp only [Act.put, List.setIfInBounds_toArray, List.set_cons_zero, List.set_cons_succ]
            refine wpAnyH_take (i := 30) (oi := { dst := some 108, op := Op.pick (Operand.tmp 106) (Operand.tmp 107) (Operand.const (Value.bool false)), type := 4, pos := "more.go:29", after := #[{ on := 28, ground := Ground.data }, { on := 29, ground := Ground.data }], guard := none }) (v := ?tkv731) rfl (by kernel_rfl) (by kernel_rfl) (by kernel_rfl) (fun _ _ _ h => h) (Or.inl ⟨by rfl, ?tky731⟩) hH730 ?tkr731
            case tky731 => (intro w' hSw; clear hSw; go_simp; try with_reducible rfl)
            try simp only [Act.put, List.setIfInBounds_toArray, List.set_cons_zero, List.set_cons_succ]
            refine wpAnyH_take (i := 31) (oi := { dst := some 4, op := Op.assign (Operand.tmp 108), type := 4, pos := "more.go:29", after := #[{ on := 30, ground := Ground.data }, { on := 29, ground := Ground.chain }, { on := 0, ground := Ground.phase }, { on := 1, ground := Ground.phase }, { on := 2, ground := Ground.phase }, { on := 3, ground := Ground.phase }, { on := 4, ground := Ground.phase }, { on := 5, ground := Ground.phase }, { on := 6, ground := Ground.phase }, { on := 7, ground := Ground.phase }, { on := 8, ground := Ground.phase }, { on := 9, ground := Ground.phase }, { on := 10, ground := Ground.phase }, { on := 11, ground := Ground.phase }, { on := 12, ground := Ground.phase }, { on := 13, ground := Ground.phase }, { on := 14, ground := Ground.phase }, { on := 15, ground := Ground.phase }, { on := 16, ground := Ground.phase }, { on := 17, ground := Ground.phase }, { on := 18, ground := Ground.phase }, { on := 19, ground := Ground.phase }, { on := 20, ground := Ground.phase }, { on := 21, ground := Ground.phase }, { on := 22, ground := Ground.phase }, { on := 23, ground := Ground.phase }, { on := 24, ground := Ground.phase }, { on := 25, ground := Ground.phase }, { on := 26, ground := Ground.phase }, { on := 27, ground := Ground.phase }, { on := 28, ground := Ground.phase }, { on := 29, ground := Ground.phase }, { on := 30, ground := Ground.phase }], guard := none }) (v := ?tkv732) rfl (by kernel_rfl) (by kernel_rfl) (by kernel_rfl) (fun _ _ _ h => h) (Or.inl ⟨by rfl, ?tky732⟩) hH730 ?tkr732
            case tky732 => (intro w' hSw; clear hSw; go_simp; try with_reducible rfl)
            try simp only [Act.put, List.setIfInBounds_toArray, List.set_cons_zero, List.set_cons_succ]
            refine wpAnyH_done (by kernel_rfl) ?_ _
            refine NoPanic.normal ?_
            have hEnd : Below w.heap.size w _ := hH730.1
            go_wp2_with fail
            go_ret
            exact ⟨rfl, hEnd⟩
end Go.Proofs.Ytfkklckoalffkaa.Pc
